/- Contracts of told functions: a show, Check, open, Surely. -/
import Derived.Test.YtpjflnjlmjnmjaaGreatDoorFsS4
open Go Go.Eng
set_option maxRecDepth 100000
set_option linter.unusedVariables false
namespace Go.Proofs.YtpjflnjlmjnmjaaGreatDoor.K.L
structure Sh where
  lines : Int
  figs : List Fg
  ts : List Int
def shRow (l : Int) (vf vt : Value) : List Value := [.int .i64 l, vf, vt]
def ShA (h : Hp) (s : Sh) (r : List Value) : Prop := ∃ vf vt, r = shRow s.lines vf vt ∧ SlA h 4 vf (s.figs.map Fg.row) ∧ SlA h 1 vt (s.ts.map inRow)
theorem ShA.sub {h h' : Hp} (hs : Sub h h') {s : Sh} {r : List Value} (a : ShA h s r) : ShA h' s r := by
  obtain ⟨vf, vt, h1, h2, h3⟩ := a
  exact ⟨vf, vt, h1, h2.sub hs, h3.sub hs⟩
theorem SlA.sl {h : Hp} {z : Nat} {v : Value} {rs : List (List Value)} (a : SlA h z v rs) : ∃ b n c, v = .slice b n c := by
  rcases a with ⟨h1, _⟩ | ⟨b, c, t, k, h1, _⟩
  · exact ⟨none, 0, 0, h1⟩
  · exact ⟨_, _, _, h1⟩
theorem ShA.len {h : Hp} {s : Sh} {r : List Value} (a : ShA h s r) : r.length = 3 := by
  obtain ⟨_, _, rfl, _⟩ := a; rfl
theorem ShA.one {h : Hp} {s : Sh} {r : List Value} (a : ShA h s r) : r.all oneCell = true := by
  obtain ⟨vf, vt, rfl, h2, h3⟩ := a
  obtain ⟨_, _, _, rfl⟩ := h2.sl
  obtain ⟨_, _, _, rfl⟩ := h3.sl
  rfl
def trip (x : Int × Int × Int) : Value := .tuple (List.toArray [.int .i64 x.1, .int .i64 x.2.1, .int .i64 x.2.2])
def checkS (s : Sh) : Int × Int × Int :=
  if !(inB 14 30 s.lines) then (1, 0, 7)
  else if (listE 6 figE s.figs).2 ≠ 0 then (2, listE 6 figE s.figs)
  else if s.ts.length = 0 then (3, 0, 3)
  else if (listE 6 (truthE s.figs.length) s.ts).2 ≠ 0 then (3, listE 6 (truthE s.figs.length) s.ts)
  else (0, 0, 0)
theorem listE_len {α : Type} {most : Int} {f : List α → α → Int} {gs : List α} (h : (listE most f gs).2 = 0) : (gs.length : Int) ≤ most := by
  unfold listE at h
  by_cases c : most < (gs.length : Int)
  · rw [if_pos c] at h; exact absurd h (by decide)
  · omega
theorem inB_iff {lo hi n : Int} : inB lo hi n = true ↔ lo ≤ n ∧ n ≤ hi := by
  unfold inB; simp
theorem check16_at {h : Hp} (w : Wf h) {s : Sh} {r : List Value} (a : ShA h s r) : ∃ h', F16 [.agg (Array.mk r)] h = some (trip (checkS s), h') := by
  obtain ⟨vf, vt, rfl, sf, st⟩ := a
  have start : F16 [.agg (Array.mk (shRow s.lines vf vt))] h = P16x0 (rec' T16 999999) (.agg (Array.mk (shRow s.lines vf vt))) h := rfl
  rw [start]
  unfold P16x0
  rw [rowCells, allocK_add]
  have w1 := w.add (.cells (shRow s.lines vf vt) 25 none)
  have a1 : At (h.add (.cells (shRow s.lines vf vt) 25 none)) (.pointer (some ⟨h.next, 0, none⟩)) (shRow s.lines vf vt) := At.new
  have gr := (Grew.add w (.cells (shRow s.lines vf vt) 25 none)).sub
  replace sf := sf.sub gr
  replace st := st.sub gr
  clear gr start
  generalize h.add (.cells (shRow s.lines vf vt) 25 none) = h1 at w1 a1 sf st ⊢
  generalize Value.pointer (some ⟨h.next, 0, none⟩) = p at a1 ⊢
  have w2 := w1.add (.cells [.int .i64 s.lines] 3 none)
  have gr := (Grew.add w1 (.cells [.int .i64 s.lines] 3 none)).sub
  unfold checkS
  rw [a1.fld 0 (x := .int .i64 s.lines) rfl, intK_int, oneI, pairK_some', show (Int.ofNat 14) = (14 : Int) from rfl, show (Int.ofNat 30) = (30 : Int) from rfl, within1, optK_some', pairK_some', boolK_bool, boolN_eq, ifB_if]
  replace a1 := a1.sub gr
  replace sf := sf.sub gr
  replace st := st.sub gr
  clear gr
  generalize h1.add (.cells [.int .i64 s.lines] 3 none) = h2 at w2 a1 sf st ⊢
  cases c1 : inB 14 30 s.lines with
  | false => rw [if_pos (by rfl), if_pos (by rfl)]; exact ⟨_, rfl⟩
  | true =>
  rw [if_neg (by simp), if_neg (by simp), a1.fld 1 (x := vf) rfl]
  obtain ⟨h3, e3⟩ := list55_at (row := Fg.row) (fun _ => rfl) (v := vf) (fv := .func (.func 56) #[] #[]) (gs := s.figs) (most := 6) (fun g hg => rfl) (by omega) (fun h => True) (fun h h' g x => trivial) (fun h x => x) figE (fun h v' i hi hl w q hr => by
      obtain ⟨h9, e9⟩ := fig56_at (h := shutH h) (wfShut w) (v := v') (prev := s.figs.take i) hr (by rw [List.length_take]; omega) s.figs[i]
      rw [show callF orc13 (.func (.func 56) #[] #[]) [v', .agg (Array.mk (s.figs[i]).row)] h = callQ F56 [v', .agg (Array.mk (s.figs[i]).row)] h from rfl]
      exact callQ_plain1 e9 rfl) (h := shutH h2) (wfShut w2) trivial sf
  rw [show (Int.ofNat 6) = (6 : Int) from rfl, callQ_plain1 e3 rfl, pairK_some']
  unfold pairV
  rw [extK_at (v := .int .i64 (listE 6 figE s.figs).1) rfl, intK_int, extK_at (v := .int .i64 (listE 6 figE s.figs).2) rfl, intK_int, boolN_eq, eqZ_dec, ifB_if]
  by_cases c2 : (listE 6 figE s.figs).2 = 0
  case neg => rw [if_pos (by simpa using c2), if_pos c2]; exact ⟨_, rfl⟩
  have l6 := listE_len c2
  rw [if_neg (by simpa using c2), if_neg (by simpa using c2), a1.fld 2 (x := vt) rfl, st.rows.len, List.length_map, boolZ_eq, eqZ_dec, ifB_if]
  by_cases c3 : s.ts.length = 0
  · rw [if_pos (by simp [c3]), if_pos c3]; exact ⟨_, rfl⟩
  rw [if_neg (by simp; intro e; exact c3 (by simp [e])), if_neg c3, a1.fld 2 (x := vt) rfl]
  obtain ⟨h4, e4⟩ := list57_at (v := vt) (fv := .func (.func 58) #[] #[p]) (gs := s.ts) (most := 6) (by omega) (truthE s.figs.length) (h := shutH h2) (fun v' i hi hl hr => by
      obtain ⟨h9, e9⟩ := truth58_at (h := shutH (shutH h2)) (wfShut (wfShut w2)) a1 sf (by omega) (v := v') (prev := s.ts.take i) hr (by rw [List.length_take]; omega) s.ts[i]
      rw [show callF orc15 (.func (.func 58) #[] #[p]) [v', .int .i64 s.ts[i]] (shutH (shutH h2)) = callQ F58 [v', .int .i64 s.ts[i], p] (shutH (shutH h2)) from rfl]
      exact callQ_plain1 e9 rfl) (wfShut w2) st
  rw [show (Value.func (.func 58) (List.toArray []) (List.toArray [p])) = .func (.func 58) #[] #[p] from rfl, callQ_plain1 e4 rfl, pairK_some']
  unfold pairV
  rw [extK_at (v := .int .i64 (listE 6 (truthE s.figs.length) s.ts).1) rfl, intK_int, extK_at (v := .int .i64 (listE 6 (truthE s.figs.length) s.ts).2) rfl, intK_int, boolN_eq, eqZ_dec, ifB_if]
  by_cases c4 : (listE 6 (truthE s.figs.length) s.ts).2 = 0
  case neg => rw [if_pos (by simpa using c4), if_pos c4]; exact ⟨_, rfl⟩
  rw [if_neg (by simpa using c4), if_neg (by simpa using c4)]
  exact ⟨_, rfl⟩
theorem put_whole {z : Nat} {hb h : Hp} (w : Wf hb) (g : Grew hb h) {b : Nat} (hle : hb.next ≤ b) {c l : List Value} {e : TypeId} {s : Option Nat} (hg : h.get b = some (.cells c e s)) (hc : c.length = z) (hl : l.length = z) (hx : l.all oneCell = true) :
    ∃ h', Grew hb h' ∧ At h' (.pointer (some ⟨b, 0, none⟩)) l ∧ (∀ (ρ : Type) (k : Hp → Option ρ), storeNK z h (.pointer (some ⟨b, 0, none⟩)) (.agg (Array.mk l)) k = k h') ∧ (∀ i o, i ≠ b → h.get i = some o → h'.get i = some o) := by
  have hlt := g.wf.2 b _ hg
  refine ⟨h.upd b (.cells l e s), Grew.upd w g hle hlt _, ⟨b, 0, l, e, s, rfl, by rw [get_upd, if_pos rfl], by simp, fun k x hx => by simpa using hx⟩, fun ρ k => ?_, fun i o hi ho => by rw [get_upd, if_neg hi]; exact ho⟩
  rw [storeNK_ptr (n := z) (c := c) hg (by rw [g.ro]; have := w.1; omega) hl hx (by omega), List.drop_of_length_le (by omega)]
  simp
theorem callQ_any {F : List Value → Hp → CRes} {args : List Value} {h h' : Hp} {v : Value} (w : Wf h) (e : F args (shutH h) = some (v, h')) (g : Grew (shutH h) h') : ∃ h2, callQ F args h = some (v, h2) ∧ Grew h h2 := by
  unfold callQ
  rw [e, pairK_some', ifB_if]
  by_cases hp : plainK v = true
  · exact ⟨h, by rw [if_pos hp], Grew.refl w⟩
  · refine ⟨⟨h'.next, h.ro, h'.objs⟩, by rw [if_neg hp], ⟨⟨?_, g.wf.2⟩, g.sub, g.next, rfl⟩⟩
    have := g.next
    have := w.1
    show h.ro ≤ h'.next
    have : h.next ≤ h'.next := g.next
    omega
noncomputable def zeroS : List Value := [(Value.int .i64 (Int.ofNat 0)), (Value.slice none 0 0), (Value.slice none 0 0)]
theorem build0 : buildV env 88 (List.toArray []) = some (.agg (Array.mk zeroS)) := by kernel_rfl
theorem build1 (a b : Option Addr) (n1 c1 n2 c2 : Nat) (p : Int) : buildV env 88 (List.toArray [(0, .agg (Array.mk [.int .i64 p, .slice a n1 c1, .slice b n2 c2]))]) = some (.agg (Array.mk [.int .i64 p, .slice a n1 c1, .slice b n2 c2])) := by kernel_rfl
theorem ShA.build {h : Hp} {s : Sh} {r : List Value} (a : ShA h s r) : buildV env 88 (List.toArray [(0, .agg (Array.mk r))]) = some (.agg (Array.mk r)) := by
  obtain ⟨vf, vt, rfl, h2, h3⟩ := a
  obtain ⟨_, _, _, rfl⟩ := h2.sl
  obtain ⟨_, _, _, rfl⟩ := h3.sl
  exact build1 _ _ _ _ _ _ _
theorem open63_at {h : Hp} (w : Wf h) {s : Sh} {r : List Value} (a : ShA h s r) : ∃ h' lk, F63 [.agg (Array.mk r)] h = some (.tuple (List.toArray [.agg (Array.mk lk), .int .i64 (checkS s).2.2]), h') ∧ Grew h h' ∧ lk.length = 3 ∧ lk.all oneCell = true ∧ ((checkS s).2.2 = 0 → lk = r) := by
  have start : F63 [.agg (Array.mk r)] h = P63x0 (rec' T63 999999) (.agg (Array.mk r)) h := rfl
  rw [start]
  unfold P63x0
  have hr3 := a.len
  rw [rowCells, allocK_add, allocK_add]
  have g0 : Grew h (h.add (.cells r 25 none)) := Grew.add w _
  have a0 : At (h.add (.cells r 25 none)) (.pointer (some ⟨h.next, 0, none⟩)) r := At.new
  generalize h.add (.cells r 25 none) = h0 at g0 a0 ⊢
  have g1 : Grew h (h0.add (.cells zeroS 88 none)) := g0.trans (Grew.add g0.wf _)
  have a1 : At (h0.add (.cells zeroS 88 none)) (.pointer (some ⟨h.next, 0, none⟩)) r := atAdd g0.wf a0 _
  have c1 : (h0.add (.cells zeroS 88 none)).get h0.next = some (.cells zeroS 88 none) := by rw [get_add, if_pos rfl]
  rw [show [(Value.int .i64 (Int.ofNat 0)), (Value.slice none 0 0), (Value.slice none 0 0)] = zeroS from rfl]
  generalize h0.add (.cells zeroS 88 none) = h1 at g1 a1 c1 ⊢
  have s1 := a.sub g1.sub
  obtain ⟨h2, e2⟩ := check16_at (h := shutH h1) (wfShut g1.wf) s1
  rw [a1.loadN (z := 3) hr3, callQ_plain1 e2 rfl, pairK_some']
  unfold trip
  rw [extK_at (v := .int .i64 (checkS s).1) rfl, intK_int, extK_at (v := .int .i64 (checkS s).2.1) rfl, intK_int, extK_at (v := .int .i64 (checkS s).2.2) rfl, intK_int, boolN_eq, eqZ_dec, ifB_if]
  by_cases e0 : (checkS s).2.2 = 0
  · rw [if_neg (by rw [e0]; simp), a1.loadN (z := 3) hr3, a.build, optK_some']
    obtain ⟨h3, g3, a3, k3, _⟩ := put_whole (z := 3) (l := r) w g1 (b := h0.next) (by have := g0.next; omega) c1 rfl hr3 a.one
    rw [k3, a3.loadN (z := 3) hr3, e0]
    exact ⟨h3, _, rfl, g3, hr3, a.one, fun _ => rfl⟩
  · rw [if_pos (by simpa using e0), build0, optK_some']
    obtain ⟨h3, g3, a3, k3, _⟩ := put_whole (z := 3) (l := zeroS) w g1 (b := h0.next) (by have := g0.next; omega) c1 rfl rfl rfl
    rw [k3, a3.loadN (z := 3) rfl]
    exact ⟨h3, zeroS, rfl, g3, rfl, rfl, fun e => absurd e e0⟩
def sureB (ts : List Int) (n : Int) : Bool := !(ts.any fun t => decide ((Nat.land t.toNat n.toNat : Nat) = 0))
theorem land_le (a b : Nat) : Nat.land a b ≤ a := Nat.and_le_left
theorem closure102_at {h : Hp} {p : Value} {n : Int} (a : At h p [.int .i64 n]) (t : Int) (ht : 0 ≤ t ∧ t ≤ 1000) (hn : 0 ≤ n ∧ n ≤ 1000) : F102 [.int .i64 t, p] h = some (.bool (decide ((Nat.land t.toNat n.toNat : Nat) = 0))) := by
  show plainO (P102x0 h (G.rec' (T102 h) 999999) t p) = _
  obtain ⟨x, rfl⟩ : ∃ x : Nat, t = (x : Int) := ⟨t.toNat, by omega⟩
  obtain ⟨y, rfl⟩ : ∃ y : Nat, n = (y : Int) := ⟨n.toNat, by omega⟩
  have hl := land_le x y
  have hl2 : x &&& y ≤ x := Nat.and_le_left
  have f1 : fitsN .i64 x = true := by unfold fitsN; simp; omega
  have f2 : fitsN .i64 y = true := by unfold fitsN; simp; omega
  have f3 : fitsN .i64 (Nat.land x y) = true := by unfold fitsN; simp; omega
  unfold P102x0
  rw [a.load1 (x := .int .i64 (y : Int)) rfl, intK_int]
  unfold andZ
  show plainO (forceN (Nat.land x y) (fun c => ifB (fitsN .i64 x && fitsN .i64 y && fitsN .i64 c) _ _)) = _
  rw [forceN_eq, f1, f2, f3]
  show plainO (boolZ (eqZ (Int.ofNat (Nat.land x y)) (Int.ofNat 0)) _) = _
  rw [boolZ_eq, eqZ_dec]
  show some (Value.bool _) = _
  congr 2
  rw [Bool.eq_iff_iff]
  simp
theorem index144_loop {h : Hp} {v p : Value} {n : Int} {ts : List Int} (hr : Eng.Rows h 1 v (ts.map inRow)) (a : At h p [.int .i64 n]) (hlen : ts.length ≤ 900000) (ht : ∀ t ∈ ts, 0 ≤ t ∧ t ≤ 1000) (hn : 0 ≤ n ∧ n ≤ 1000) : ∀ m i k, i + m = ts.length → m + 2 ≤ k →
    rec' T144 k 1 (AL.v v (AL.v (.func (.func 102) #[] #[p]) (AL.i (ts.length : Int) (AL.i (i : Int) AL.n)))) h = some (.int .i64 (idxFrom (fun t => decide ((Nat.land t.toNat n.toNat : Nat) = 0)) i (ts.drop i)), h)
  | 0, i, k + 2, him, hk => by
    show P144x1 (rec' T144 (k + 1)) v (.func (.func 102) #[] #[p]) (ts.length : Int) (i : Int) h = _
    unfold P144x1
    rw [boolZ_eq, ltZ_dec, ifB_if, if_neg (by simp; omega), List.drop_of_length_le (by omega)]
    rfl
  | m + 1, i, k + 1, him, hk => by
    have hi : i < ts.length := by omega
    have hg : (ts.map inRow)[i]? = some (inRow ts[i]) := by rw [List.getElem?_map, List.getElem?_eq_getElem hi]; rfl
    obtain ⟨q, hq, haq, hl⟩ := hr.at hg
    show P144x1 (rec' T144 k) v (.func (.func 102) #[] #[p]) (ts.length : Int) (i : Int) h = _
    unfold P144x1
    rw [boolZ_eq, ltZ_dec, ifB_if, if_pos (by simp; omega), hq, haq.load1 (x := .int .i64 ts[i]) rfl, intK_int]
    rw [show callF orc20 (.func (.func 102) #[] #[p]) [.int .i64 ts[i]] h = optK (F102 [.int .i64 ts[i], p] h) (fun v => some (v, h)) from rfl]
    rw [closure102_at a _ (ht _ (List.getElem_mem hi)) hn, optK_some', pairK_some', boolK_bool, ifB_if, List.drop_eq_getElem_cons hi]
    unfold idxFrom
    cases hs : decide ((Nat.land (ts[i]).toNat n.toNat : Nat) = 0) with
    | true => rfl
    | false =>
      simp only [Bool.false_eq_true, if_false]
      rw [show Int.add (i : Int) (Int.ofNat 1) = ((i + 1 : Nat) : Int) from rfl, wrap64_in _ (by omega) (by omega)]
      exact index144_loop hr a hlen ht hn m (i + 1) k (by omega) (by omega)
theorem contains101_at {h : Hp} {v p : Value} {n : Int} {ts : List Int} (hr : Eng.Rows h 1 v (ts.map inRow)) (a : At h p [.int .i64 n]) (hlen : ts.length ≤ 900000) (ht : ∀ t ∈ ts, 0 ≤ t ∧ t ≤ 1000) (hn : 0 ≤ n ∧ n ≤ 1000) :
    F101 [v, .func (.func 102) #[] #[p]] h = some (.bool (ts.any fun t => decide ((Nat.land t.toNat n.toNat : Nat) = 0)), h) := by
  have e : F144 [v, .func (.func 102) #[] #[p]] (shutH h) = some (.int .i64 (idxFrom (fun t => decide ((Nat.land t.toNat n.toNat : Nat) = 0)) 0 ts), shutH h) := by
    show P144x0 (rec' T144 999999) v (.func (.func 102) #[] #[p]) (shutH h) = _
    unfold P144x0
    have := index144_loop (h := shutH h) hr a hlen ht hn ts.length 0 999999 (by omega) (by omega)
    rw [List.drop_zero] at this
    rw [hr.len, List.length_map]
    exact this
  show P101x0 (rec' T101 999999) v (.func (.func 102) #[] #[p]) h = _
  unfold P101x0
  rw [callQ_plain1 e rfl, pairK_some', intK_int, boolN_eq, ltZ_dec, show (Int.ofNat 0) = (0 : Int) from rfl, idxFrom_neg, Bool.not_not]
theorem surely65_at {h : Hp} (w : Wf h) {s : Sh} {r : List Value} (a : ShA h s r) (n : Int) (hlen : s.ts.length ≤ 900000) (ht : ∀ t ∈ s.ts, 0 ≤ t ∧ t ≤ 1000) (hn : 0 ≤ n ∧ n ≤ 1000) : ∃ h', F65 [.agg (Array.mk r), .int .i64 n] h = some (.bool (sureB s.ts n), h') := by
  obtain ⟨vf, vt, rfl, sf, st⟩ := a
  have start : F65 [.agg (Array.mk (shRow s.lines vf vt)), .int .i64 n] h = P65x0 (rec' T65 999999) (.agg (Array.mk (shRow s.lines vf vt))) n h := rfl
  rw [start]
  unfold P65x0
  rw [rowCells, allocK_add, allocK_add]
  have g0 : Grew h (h.add (.cells (shRow s.lines vf vt) 88 none)) := Grew.add w _
  have a0 : At (h.add (.cells (shRow s.lines vf vt) 88 none)) (.pointer (some ⟨h.next, 0, none⟩)) (shRow s.lines vf vt) := At.new
  generalize h.add (.cells (shRow s.lines vf vt) 88 none) = h0 at g0 a0 ⊢
  have g1 : Grew h (h0.add (.cells [.int .i64 n] 3 none)) := g0.trans (Grew.add g0.wf _)
  have a1 : At (h0.add (.cells [.int .i64 n] 3 none)) (.pointer (some ⟨h.next, 0, none⟩)) (shRow s.lines vf vt) := atAdd g0.wf a0 _
  have b1 : At (h0.add (.cells [.int .i64 n] 3 none)) (.pointer (some ⟨h0.next, 0, none⟩)) [.int .i64 n] := At.new
  generalize h0.add (.cells [.int .i64 n] 3 none) = h1 at g1 a1 b1 ⊢
  have t1 := (st.sub g1.sub).rows
  generalize Value.pointer (some ⟨h0.next, 0, none⟩) = q at b1 ⊢
  obtain ⟨q0, hq0, aq0⟩ := a1.part 0 3 (by show 3 ≤ 3; decide)
  rw [hq0, (show At h1 q0 (shRow s.lines vf vt) from aq0).fld 2 (x := vt) rfl, show (Value.func (.func 102) (List.toArray []) (List.toArray [q])) = .func (.func 102) #[] #[q] from rfl, callQ_plain1 (contains101_at (h := shutH h1) t1 b1 hlen ht hn) rfl, pairK_some', boolK_bool, boolN_eq]
  exact ⟨_, rfl⟩
def sureS (s : Sh) (n : Int) : Bool × Int := if (checkS s).2.2 ≠ 0 then (false, (checkS s).2.2) else if !(inB 0 (2 ^ s.figs.length - 1) n) then (false, 4) else (sureB s.ts n, 0)
def pairB (x : Bool × Int) : Value := .tuple (List.toArray [.bool x.1, .int .i64 x.2])
end Go.Proofs.YtpjflnjlmjnmjaaGreatDoor.K.L
