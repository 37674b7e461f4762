/- Contracts of told functions: a show, Check, open, Surely. -/
import Derived.Test.YtgjdokjoejhepaaGreatDoorTrS4
open Go Go.bP
set_option maxRecDepth 100000
set_option linter.unusedVariables false
namespace Go.Proofs.YtgjdokjoejhepaaGreatDoor.K.L
structure Sh where
 lines : Int
 aU : List Fg
 ts : List Int
def eT (l : Int) (vf vt : Value) : List Value := [.int .i64 l, vf, vt]
def yX (h : Hp) (s : Sh) (r : List Value) : Prop := ∃ vf vt, r = eT s.lines vf vt ∧ CF h 4 vf (s.aU.map Fg.row) ∧ CF h 1 vt (s.ts.map dH)
theorem yX.sub {h h' : Hp} (hs : Sub h h') {s : Sh} {r : List Value} (a : yX h s r) : yX h' s r := by
 obtain ⟨vf, vt, h1, h2, h3⟩ := a
 exact ⟨vf, vt, h1, h2.sub hs, h3.sub hs⟩
theorem CF.sl {h : Hp} {z : Nat} {v : Value} {rs : List (List Value)} (a : CF h z v rs) : ∃ b n c, v = .slice b n c := by
 rcases a with ⟨h1, _⟩ | ⟨b, c, t, k, h1, _⟩
 ·exact ⟨none, 0, 0, h1⟩
 ·exact ⟨_, _, _, h1⟩
theorem yX.len {h : Hp} {s : Sh} {r : List Value} (a : yX h s r) : r.length = 3 := by
 obtain ⟨_, _, rfl, _⟩ := a; rfl
theorem yX.one {h : Hp} {s : Sh} {r : List Value} (a : yX h s r) : r.all oneCell = true := by
 obtain ⟨vf, vt, rfl, h2, h3⟩ := a
 obtain ⟨_, _, _, rfl⟩ := h2.sl
 obtain ⟨_, _, _, rfl⟩ := h3.sl
 rfl
def SN (x : Int × Int × Int) : Value := .tuple (List.toArray [.int .i64 x.1, .int .i64 x.2.1, .int .i64 x.2.2])
def fT (s : Sh) : Int × Int × Int :=
 if !(oZ 14 30 s.lines) then (1, 0, 7)
 else if (kQ 6 zQ s.aU).2 ≠ 0 then (2, kQ 6 zQ s.aU)
 else if s.ts.length = 0 then (3, 0, 3)
 else if (kQ 6 (jN s.aU.length) s.ts).2 ≠ 0 then (3, kQ 6 (jN s.aU.length) s.ts)
 else (0, 0, 0)
theorem KW {α : Type} {most : Int} {f : List α → α → Int} {gs : List α} (h : (kQ most f gs).2 = 0) : (gs.length : Int) ≤ most := by
 unfold kQ at h
 by_cases c : most < (gs.length : Int)
 ·rw [if_pos c] at h; exact absurd h (by decide)
 ·omega
theorem jH {lo hi n : Int} : oZ lo hi n = true ↔ lo ≤ n ∧ n ≤ hi := by
 unfold oZ; simp
theorem RB {h : Hp} (w : Wf h) {s : Sh} {r : List Value} (a : yX h s r) : ∃ h', F16 [.agg (Array.mk r)] h = some (SN (fT s), h') := by
 obtain ⟨vf, vt, rfl, sf, st⟩ := a
 have start : F16 [.agg (Array.mk (eT s.lines vf vt))] h = aHB (aP T16 999999) (.agg (Array.mk (eT s.lines vf vt))) h := rfl
 rw [start]
 unfold aHB
 rw [fQ, bL]
 have w1 := w.add (.cells (eT s.lines vf vt) 25 none)
 have a1 : At (h.add (.cells (eT s.lines vf vt) 25 none)) (.pointer (some ⟨h.next, 0, none⟩)) (eT s.lines vf vt) := At.new
 have gr := (bE.add w (.cells (eT s.lines vf vt) 25 none)).sub
 replace sf := sf.sub gr
 replace st := st.sub gr
 clear gr start
 generalize h.add (.cells (eT s.lines vf vt) 25 none) = h1 at w1 a1 sf st ⊢
 generalize Value.pointer (some ⟨h.next, 0, none⟩) = p at a1 ⊢
 have w2 := w1.add (.cells [.int .i64 s.lines] 3 none)
 have gr := (bE.add w1 (.cells [.int .i64 s.lines] 3 none)).sub
 unfold fT
 rw [a1.lK 0 (x := .int .i64 s.lines) rfl, aK, vT, aD, show (Int.ofNat 14) = (14 : Int) from rfl, show (Int.ofNat 30) = (30 : Int) from rfl, NP, aM, aD, aO, aX, aI]
 replace a1 := a1.sub gr
 replace sf := sf.sub gr
 replace st := st.sub gr
 clear gr
 generalize h1.add (.cells [.int .i64 s.lines] 3 none) = h2 at w2 a1 sf st ⊢
 cases c1 : oZ 14 30 s.lines with
 | false => rw [if_pos (by rfl), if_pos (by rfl)]; exact ⟨_, rfl⟩
 | true =>
 rw [if_neg (by simp), if_neg (by simp), a1.lK 1 (x := vf) rfl]
 obtain ⟨h3, e3⟩ := aLJ (row := Fg.row) (fun _ => rfl) (v := vf) (fv := .func (.func 56) #[] #[]) (gs := s.aU) (most := 6) (fun g hg => rfl) (by omega) (fun h => True) (fun h h' g x => trivial) (fun h x => x) zQ (fun h v' i hi hl w q hr => by
   obtain ⟨h9, e9⟩ := aRB (h := bK h) (fZ w) (v := v') (prev := s.aU.take i) hr (by rw [List.length_take]; omega) s.aU[i]
   rw [show oO BQ (.func (.func 56) #[] #[]) [v', .agg (Array.mk (s.aU[i]).row)] h = dR F56 [v', .agg (Array.mk (s.aU[i]).row)] h from rfl]
   exact bD e9 rfl) (h := bK h2) (fZ w2) trivial sf
 rw [show (Int.ofNat 6) = (6 : Int) from rfl, bD e3 rfl, aD]
 unfold EG
 rw [eP (v := .int .i64 (kQ 6 zQ s.aU).1) rfl, aK, eP (v := .int .i64 (kQ 6 zQ s.aU).2) rfl, aK, aX, dJ, aI]
 by_cases c2 : (kQ 6 zQ s.aU).2 = 0
 case neg => rw [if_pos (by simpa using c2), if_pos c2]; exact ⟨_, rfl⟩
 have l6 := KW c2
 rw [if_neg (by simpa using c2), if_neg (by simpa using c2), a1.lK 2 (x := vt) rfl, st.rows.len, List.length_map, aN, dJ, aI]
 by_cases c3 : s.ts.length = 0
 ·rw [if_pos (by simp [c3]), if_pos c3]; exact ⟨_, rfl⟩
 rw [if_neg (by simp; intro e; exact c3 (by simp [e])), if_neg c3, a1.lK 2 (x := vt) rfl]
 obtain ⟨h4, e4⟩ := aLK (v := vt) (fv := .func (.func 58) #[] #[p]) (gs := s.ts) (most := 6) (by omega) (jN s.aU.length) (h := bK h2) (fun v' i hi hl hr => by
   obtain ⟨h9, e9⟩ := aFP (h := bK (bK h2)) (fZ (fZ w2)) a1 sf (by omega) (v := v') (prev := s.ts.take i) hr (by rw [List.length_take]; omega) s.ts[i]
   rw [show oO BR (.func (.func 58) #[] #[p]) [v', .int .i64 s.ts[i]] (bK (bK h2)) = dR F58 [v', .int .i64 s.ts[i], p] (bK (bK h2)) from rfl]
   exact bD e9 rfl) (fZ w2) st
 rw [show (Value.func (.func 58) (List.toArray []) (List.toArray [p])) = .func (.func 58) #[] #[p] from rfl, bD e4 rfl, aD]
 unfold EG
 rw [eP (v := .int .i64 (kQ 6 (jN s.aU.length) s.ts).1) rfl, aK, eP (v := .int .i64 (kQ 6 (jN s.aU.length) s.ts).2) rfl, aK, aX, dJ, aI]
 by_cases c4 : (kQ 6 (jN s.aU.length) s.ts).2 = 0
 case neg => rw [if_pos (by simpa using c4), if_pos c4]; exact ⟨_, rfl⟩
 rw [if_neg (by simpa using c4), if_neg (by simpa using c4)]
 exact ⟨_, rfl⟩
theorem xD {z : Nat} {hb h : Hp} (w : Wf hb) (g : bE hb h) {b : Nat} (hle : hb.next ≤ b) {c l : List Value} {e : TypeId} {s : Option Nat} (hg : h.get b = some (.cells c e s)) (hc : c.length = z) (hl : l.length = z) (hx : l.all oneCell = true) :
  ∃ h', bE hb h' ∧ At h' (.pointer (some ⟨b, 0, none⟩)) l ∧ (∀ (ρ : Type) (k : Hp → Option ρ), iY z h (.pointer (some ⟨b, 0, none⟩)) (.agg (Array.mk l)) k = k h') ∧ (∀ i o, i ≠ b → h.get i = some o → h'.get i = some o) := by
 have hlt := g.wf.2 b _ hg
 refine ⟨h.upd b (.cells l e s), bE.upd w g hle hlt _, ⟨b, 0, l, e, s, rfl, by rw [dL, if_pos rfl], by simp, fun k x hx => by simpa using hx⟩, fun ρ k => ?_, fun i o hi ho => by rw [dL, if_neg hi]; exact ho⟩
 rw [qR (n := z) (c := c) hg (by rw [g.ro]; have := w.1; omega) hl hx (by omega), List.drop_of_length_le (by omega)]
 simp
theorem KM {F : List Value → Hp → aT} {args : List Value} {h h' : Hp} {v : Value} (w : Wf h) (e : F args (bK h) = some (v, h')) (g : bE (bK h) h') : ∃ h2, dR F args h = some (v, h2) ∧ bE h h2 := by
 unfold dR
 rw [e, aD, aI]
 by_cases hp : jS v = true
 ·exact ⟨h, by rw [if_pos hp], bE.refl w⟩
 ·refine ⟨⟨h'.next, h.ro, h'.aJ⟩, by rw [if_neg hp], ⟨⟨?_, g.wf.2⟩, g.sub, g.next, rfl⟩⟩
  have := g.next
  have := w.1
  show h.ro ≤ h'.next
  have : h.next ≤ h'.next := g.next
  omega
noncomputable def qZ : List Value := [(Value.int .i64 (Int.ofNat 0)), (Value.slice none 0 0), (Value.slice none 0 0)]
theorem a1V : lN env 88 (List.toArray []) = some (.agg (Array.mk qZ)) := by kernel_rfl
theorem a1W (a b : Option Addr) (n1 c1 n2 c2 : Nat) (p : Int) : lN env 88 (List.toArray [(0, .agg (Array.mk [.int .i64 p, .slice a n1 c1, .slice b n2 c2]))]) = some (.agg (Array.mk [.int .i64 p, .slice a n1 c1, .slice b n2 c2])) := by kernel_rfl
theorem yX.build {h : Hp} {s : Sh} {r : List Value} (a : yX h s r) : lN env 88 (List.toArray [(0, .agg (Array.mk r))]) = some (.agg (Array.mk r)) := by
 obtain ⟨vf, vt, rfl, h2, h3⟩ := a
 obtain ⟨_, _, _, rfl⟩ := h2.sl
 obtain ⟨_, _, _, rfl⟩ := h3.sl
 exact a1W _ _ _ _ _ _ _
theorem V3 {h : Hp} (w : Wf h) {s : Sh} {r : List Value} (a : yX h s r) : ∃ h' lk, F63 [.agg (Array.mk r)] h = some (.tuple (List.toArray [.agg (Array.mk lk), .int .i64 (fT s).2.2]), h') ∧ bE h h' ∧ lk.length = 3 ∧ lk.all oneCell = true ∧ ((fT s).2.2 = 0 → lk = r) := by
 have start : F63 [.agg (Array.mk r)] h = aHD (aP T63 999999) (.agg (Array.mk r)) h := rfl
 rw [start]
 unfold aHD
 have hr3 := a.len
 rw [fQ, bL, bL]
 have g0 : bE h (h.add (.cells r 25 none)) := bE.add w _
 have a0 : At (h.add (.cells r 25 none)) (.pointer (some ⟨h.next, 0, none⟩)) r := At.new
 generalize h.add (.cells r 25 none) = h0 at g0 a0 ⊢
 have g1 : bE h (h0.add (.cells qZ 88 none)) := g0.trans (bE.add g0.wf _)
 have a1 : At (h0.add (.cells qZ 88 none)) (.pointer (some ⟨h.next, 0, none⟩)) r := VW g0.wf a0 _
 have c1 : (h0.add (.cells qZ 88 none)).get h0.next = some (.cells qZ 88 none) := by rw [dM, if_pos rfl]
 rw [show [(Value.int .i64 (Int.ofNat 0)), (Value.slice none 0 0), (Value.slice none 0 0)] = qZ from rfl]
 generalize h0.add (.cells qZ 88 none) = h1 at g1 a1 c1 ⊢
 have s1 := a.sub g1.sub
 obtain ⟨h2, e2⟩ := RB (h := bK h1) (fZ g1.wf) s1
 rw [a1.fF (z := 3) hr3, bD e2 rfl, aD]
 unfold SN
 rw [eP (v := .int .i64 (fT s).1) rfl, aK, eP (v := .int .i64 (fT s).2.1) rfl, aK, eP (v := .int .i64 (fT s).2.2) rfl, aK, aX, dJ, aI]
 by_cases e0 : (fT s).2.2 = 0
 ·rw [if_neg (by rw [e0]; simp), a1.fF (z := 3) hr3, a.build, aM]
  obtain ⟨h3, g3, a3, k3, _⟩ := xD (z := 3) (l := r) w g1 (b := h0.next) (by have := g0.next; omega) c1 rfl hr3 a.one
  rw [k3, a3.fF (z := 3) hr3, e0]
  exact ⟨h3, _, rfl, g3, hr3, a.one, fun _ => rfl⟩
 ·rw [if_pos (by simpa using e0), a1V, aM]
  obtain ⟨h3, g3, a3, k3, _⟩ := xD (z := 3) (l := qZ) w g1 (b := h0.next) (by have := g0.next; omega) c1 rfl rfl rfl
  rw [k3, a3.fF (z := 3) rfl]
  exact ⟨h3, qZ, rfl, g3, rfl, rfl, fun e => absurd e e0⟩
def oU (ts : List Int) (n : Int) : Bool := !(ts.any fun t => decide ((Nat.land t.toNat n.toNat : Nat) = 0))
theorem aUO (a b : Nat) : Nat.land a b ≤ a := Nat.and_le_left
theorem SS {h : Hp} {p : Value} {n : Int} (a : At h p [.int .i64 n]) (t : Int) (ht : 0 ≤ t ∧ t ≤ 1000) (hn : 0 ≤ n ∧ n ≤ 1000) : aOV [.int .i64 t, p] h = some (.bool (decide ((Nat.land t.toNat n.toNat : Nat) = 0))) := by
 show plainO (X8 h (G.aP (aOU h) 999999) t p) = _
 obtain ⟨x, rfl⟩ : ∃ x : Nat, t = (x : Int) := ⟨t.toNat, by omega⟩
 obtain ⟨y, rfl⟩ : ∃ y : Nat, n = (y : Int) := ⟨n.toNat, by omega⟩
 have hl := aUO x y
 have hl2 : x &&& y ≤ x := Nat.and_le_left
 have f1 : gK .i64 x = true := by unfold gK; simp; omega
 have f2 : gK .i64 y = true := by unfold gK; simp; omega
 have f3 : gK .i64 (Nat.land x y) = true := by unfold gK; simp; omega
 unfold X8
 rw [a.lV (x := .int .i64 (y : Int)) rfl, aK]
 unfold aDX
 show plainO (gN (Nat.land x y) (fun c => dI (gK .i64 x && gK .i64 y && gK .i64 c) _ _)) = _
 rw [bU, f1, f2, f3]
 show plainO (dF (tJ (Int.ofNat (Nat.land x y)) (Int.ofNat 0)) _) = _
 rw [aN, dJ]
 show some (Value.bool _) = _
 congr 2
 rw [Bool.eq_iff_iff]
 simp
theorem EI {h : Hp} {v p : Value} {n : Int} {ts : List Int} (hr : bP.Rows h 1 v (ts.map dH)) (a : At h p [.int .i64 n]) (hlen : ts.length ≤ 900000) (ht : ∀ t ∈ ts, 0 ≤ t ∧ t ≤ 1000) (hn : 0 ≤ n ∧ n ≤ 1000) : ∀ m i k, i + m = ts.length → m + 2 ≤ k →
  aP M6 k 1 (AL.v v (AL.v (.func (.func 102) #[] #[p]) (AL.i (ts.length : Int) (AL.i (i : Int) AL.n)))) h = some (.int .i64 (idxFrom (fun t => decide ((Nat.land t.toNat n.toNat : Nat) = 0)) i (ts.drop i)), h)
 | 0, i, k + 2, him, hk => by
  show vQ (aP M6 (k + 1)) v (.func (.func 102) #[] #[p]) (ts.length : Int) (i : Int) h = _
  unfold vQ
  rw [aN, bA, aI, if_neg (by simp; omega), List.drop_of_length_le (by omega)]
  rfl
 | m + 1, i, k + 1, him, hk => by
  have hi : i < ts.length := by omega
  have hg : (ts.map dH)[i]? = some (dH ts[i]) := by rw [List.getElem?_map, List.getElem?_eq_getElem hi]; rfl
  obtain ⟨q, hq, haq, hl⟩ := hr.at hg
  show vQ (aP M6 k) v (.func (.func 102) #[] #[p]) (ts.length : Int) (i : Int) h = _
  unfold vQ
  rw [aN, bA, aI, if_pos (by simp; omega), hq, haq.lV (x := .int .i64 ts[i]) rfl, aK]
  rw [show oO zI (.func (.func 102) #[] #[p]) [.int .i64 ts[i]] h = dD (aOV [.int .i64 ts[i], p] h) (fun v => some (v, h)) from rfl]
  rw [SS a _ (ht _ (List.getElem_mem hi)) hn, aM, aD, aO, aI, List.drop_eq_getElem_cons hi]
  unfold idxFrom
  cases hs : decide ((Nat.land (ts[i]).toNat n.toNat : Nat) = 0) with
  | true => rfl
  | false =>
   simp only [Bool.false_eq_true, if_false]
   rw [show Int.add (i : Int) (Int.ofNat 1) = ((i + 1 : Nat) : Int) from rfl, wrap64_in _ (by omega) (by omega)]
   exact EI hr a hlen ht hn m (i + 1) k (by omega) (by omega)
theorem RF {h : Hp} {v p : Value} {n : Int} {ts : List Int} (hr : bP.Rows h 1 v (ts.map dH)) (a : At h p [.int .i64 n]) (hlen : ts.length ≤ 900000) (ht : ∀ t ∈ ts, 0 ≤ t ∧ t ≤ 1000) (hn : 0 ≤ n ∧ n ≤ 1000) :
  aKX [v, .func (.func 102) #[] #[p]] h = some (.bool (ts.any fun t => decide ((Nat.land t.toNat n.toNat : Nat) = 0)), h) := by
 have e : aOZ [v, .func (.func 102) #[] #[p]] (bK h) = some (.int .i64 (idxFrom (fun t => decide ((Nat.land t.toNat n.toNat : Nat) = 0)) 0 ts), bK h) := by
  show J9 (aP M6 999999) v (.func (.func 102) #[] #[p]) (bK h) = _
  unfold J9
  have := EI (h := bK h) hr a hlen ht hn ts.length 0 999999 (by omega) (by omega)
  rw [List.drop_zero] at this
  rw [hr.len, List.length_map]
  exact this
 show KA (aP aKW 999999) v (.func (.func 102) #[] #[p]) h = _
 unfold KA
 rw [bD e rfl, aD, aK, aX, bA, show (Int.ofNat 0) = (0 : Int) from rfl, oV, Bool.not_not]
theorem MM {h : Hp} (w : Wf h) {s : Sh} {r : List Value} (a : yX h s r) (n : Int) (hlen : s.ts.length ≤ 900000) (ht : ∀ t ∈ s.ts, 0 ≤ t ∧ t ≤ 1000) (hn : 0 ≤ n ∧ n ≤ 1000) : ∃ h', F65 [.agg (Array.mk r), .int .i64 n] h = some (.bool (oU s.ts n), h') := by
 obtain ⟨vf, vt, rfl, sf, st⟩ := a
 have start : F65 [.agg (Array.mk (eT s.lines vf vt)), .int .i64 n] h = aHH (aP T65 999999) (.agg (Array.mk (eT s.lines vf vt))) n h := rfl
 rw [start]
 unfold aHH
 rw [fQ, bL, bL]
 have g0 : bE h (h.add (.cells (eT s.lines vf vt) 88 none)) := bE.add w _
 have a0 : At (h.add (.cells (eT s.lines vf vt) 88 none)) (.pointer (some ⟨h.next, 0, none⟩)) (eT s.lines vf vt) := At.new
 generalize h.add (.cells (eT s.lines vf vt) 88 none) = h0 at g0 a0 ⊢
 have g1 : bE h (h0.add (.cells [.int .i64 n] 3 none)) := g0.trans (bE.add g0.wf _)
 have a1 : At (h0.add (.cells [.int .i64 n] 3 none)) (.pointer (some ⟨h.next, 0, none⟩)) (eT s.lines vf vt) := VW g0.wf a0 _
 have b1 : At (h0.add (.cells [.int .i64 n] 3 none)) (.pointer (some ⟨h0.next, 0, none⟩)) [.int .i64 n] := At.new
 generalize h0.add (.cells [.int .i64 n] 3 none) = h1 at g1 a1 b1 ⊢
 have t1 := (st.sub g1.sub).rows
 generalize Value.pointer (some ⟨h0.next, 0, none⟩) = q at b1 ⊢
 obtain ⟨q0, hq0, aq0⟩ := a1.part 0 3 (by show 3 ≤ 3; decide)
 rw [hq0, (show At h1 q0 (eT s.lines vf vt) from aq0).lK 2 (x := vt) rfl, show (Value.func (.func 102) (List.toArray []) (List.toArray [q])) = .func (.func 102) #[] #[q] from rfl, bD (RF (h := bK h1) t1 b1 hlen ht hn) rfl, aD, aO, aX]
 exact ⟨_, rfl⟩
def ML (s : Sh) (n : Int) : Bool × Int := if (fT s).2.2 ≠ 0 then (false, (fT s).2.2) else if !(oZ 0 (2 ^ s.aU.length - 1) n) then (false, 4) else (oU s.ts n, 0)
def MH (x : Bool × Int) : Value := .tuple (List.toArray [.bool x.1, .int .i64 x.2])
end Go.Proofs.YtgjdokjoejhepaaGreatDoor.K.L
