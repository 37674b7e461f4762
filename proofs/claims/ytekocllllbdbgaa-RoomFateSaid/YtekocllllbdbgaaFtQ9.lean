/- Contracts of told functions: the reference's Check, whole; open. -/
import Derived.Test.YtekocllllbdbgaaFtQ8
open Go Go.Eng
set_option maxRecDepth 100000
set_option linter.unusedVariables false
namespace Go.Proofs.Ytekocllllbdbgaa.K.L
theorem check14_at {h : Hp} (w : Wf h) {s : Ho} {r : List Value} (a : HoA h s r) : ∃ h', F14 [.agg (Array.mk r)] h = some (trip (checkH s), h') := by
  obtain ⟨vh, vp, vf, vb, rfl, sh, sp, sw, sf, sb⟩ := a
  have start : F14 [.agg (Array.mk (hoRow s.we s.stoves vh vp vf vb))] h = P14x0 (rec' T14 999999) (.agg (Array.mk (hoRow s.we s.stoves vh vp vf vb))) h := rfl
  rw [start]
  unfold P14x0
  rw [rowCells, allocK_add]
  have w1 := w.add (.cells (hoRow s.we s.stoves vh vp vf vb) 28 none)
  have a1 : At (h.add (.cells (hoRow s.we s.stoves vh vp vf vb) 28 none)) (.pointer (some ⟨h.next, 0, none⟩)) (hoRow s.we s.stoves vh vp vf vb) := At.new
  have gr := (Grew.add w (.cells (hoRow s.we s.stoves vh vp vf vb) 28 none)).sub
  replace sh := sh.sub gr
  replace sp := sp.sub gr
  replace sw := fun g hg => (sw g hg).sub gr
  replace sf := sf.sub gr
  replace sb := sb.sub gr
  clear gr start
  generalize h.add (.cells (hoRow s.we s.stoves vh vp vf vb) 28 none) = hb at w1 a1 sh sp sw sf sb ⊢
  generalize Value.pointer (some ⟨h.next, 0, none⟩) = p at a1 ⊢
  obtain ⟨q, hq, aq⟩ := a1.part 0 2 (by show 2 ≤ 7; decide)
  unfold checkH
  rw [hq, aq.loadN (z := 2) rfl, show List.take 2 (List.drop 0 (hoRow s.we s.stoves vh vp vf vb)) = s.we.row from rfl, show (Int.negSucc 99) = (-100 : Int) from rfl, show (Int.ofNat 100) = (100 : Int) from rfl, ends53_at, optK_some', pairK_some', intK_int, boolN_eq, eqZ_dec, ifB_if]
  by_cases c1 : spanE (-100) 100 s.we = 0
  case neg => rw [if_pos (by simpa using c1), if_pos c1]; exact ⟨_, rfl⟩
  rw [if_neg (by simpa using c1), if_neg (by simpa using c1), a1.fld 2 (x := .int .i64 s.stoves) rfl, intK_int, show (Int.ofNat 0) = (0 : Int) from rfl, show (Int.ofNat 3) = (3 : Int) from rfl, in54_at, optK_some', pairK_some', boolK_bool, boolN_eq, ifB_if]
  cases c2 : inB 0 3 s.stoves with
  | false => rw [if_pos (by rfl), if_pos (by rfl)]; exact ⟨_, rfl⟩
  | true =>
  obtain ⟨st0, st3⟩ := inB_iff.1 c2
  rw [if_neg (by simp), if_neg (by simp), a1.fld 3 (x := vh) rfl, sh.rows.len, List.length_map, boolZ_eq, ltZ_dec, ifB_if]
  by_cases l1 : (4 : Int) < (s.holds.length : Int)
  · have e1 : listE 4 holdE s.holds = (0, 3) := by unfold listE; rw [if_pos l1]
    rw [if_pos (by simpa using l1), e1, if_pos (by decide)]; exact ⟨_, rfl⟩
  have e1 : listE 4 holdE s.holds = firstE holdE s.holds 0 s.holds := by unfold listE; rw [if_neg l1]
  rw [if_neg (by simpa using l1), e1]
  obtain ⟨r1, hr1⟩ : ∃ r1, 999999 = s.holds.length + 1 + (r1 + 1) ∧ 200 ≤ r1 := ⟨999999 - s.holds.length - 2, by omega, by omega⟩
  have x1 := holds_loop a1 sh (by omega) (r1 + 1) s.holds.length 0 (by omega)
  rw [List.drop_zero, ← hr1.1] at x1
  rw [show (0 : Int) = ((0 : Nat) : Int) from rfl, x1]
  by_cases c3 : (firstE holdE s.holds 0 s.holds).2 = 0
  case neg => rw [if_neg (by simpa using c3), if_pos (by simpa using c3)]; exact ⟨_, rfl⟩
  rw [if_pos (by simpa using c3), if_neg (by simpa using c3)]
  have st12 : rec' T14 (r1 + 1) 12 (AL.v p AL.n) hb = P14x12 (rec' T14 r1) p hb := rfl
  rw [st12]
  unfold P14x12
  rw [a1.fld 4 (x := vp) rfl, sp.rows.len, List.length_map, boolZ_eq, ltZ_dec, ifB_if, show (Int.ofNat 5) = (5 : Int) from rfl]
  by_cases l2 : (5 : Int) < (s.pls.length : Int)
  · have e2 : listE 5 (placeE s.stoves s.holds.length) s.pls = (0, 3) := by unfold listE; rw [if_pos l2]
    rw [if_pos (by simpa using l2), e2, if_pos (by decide)]; exact ⟨_, rfl⟩
  have e2 : listE 5 (placeE s.stoves s.holds.length) s.pls = firstE (placeE s.stoves s.holds.length) s.pls 0 s.pls := by unfold listE; rw [if_neg l2]
  rw [if_neg (by simpa using l2), e2]
  obtain ⟨r2, hr2⟩ : ∃ r2, r1 = 3 * s.pls.length + 1 + (r2 + 1) ∧ 100 ≤ r2 := ⟨r1 - 3 * s.pls.length - 2, by omega, by omega⟩
  obtain ⟨h2, g2, x2⟩ := pls_loop w1 a1 sp sw sh (by omega) st3 (by omega) (r2 + 1) s.pls.length 0 hb (.slice none 0 0) (Grew.refl w1) (.inl ⟨rfl, rfl⟩) (by omega)
  rw [List.drop_zero, ← hr2.1] at x2
  rw [show (Int.ofNat 0) = ((0 : Nat) : Int) from rfl, x2]
  by_cases c4 : (firstE (placeE s.stoves s.holds.length) s.pls 0 s.pls).2 = 0
  case neg => rw [if_neg c4, if_pos (by simpa using c4)]; exact ⟨_, rfl⟩
  rw [if_pos c4, if_neg (by simpa using c4)]
  have st11 : rec' T14 (r2 + 1) 11 (AL.v p AL.n) h2 = P14x11 (rec' T14 r2) p h2 := rfl
  rw [st11]
  unfold P14x11
  have a2 := a1.sub g2.sub
  have sf2 := sf.sub g2.sub
  rw [a2.fld 5 (x := vf) rfl, sf2.rows.len, List.length_map, boolZ_eq, ltZ_dec, ifB_if, show (Int.ofNat 5) = (5 : Int) from rfl]
  by_cases l3 : (5 : Int) < (s.figs.length : Int)
  · have e3 : listE 5 figE s.figs = (0, 3) := by unfold listE; rw [if_pos l3]
    rw [if_pos (by simpa using l3), e3, if_pos (by decide)]; exact ⟨_, rfl⟩
  have e3 : listE 5 figE s.figs = firstE figE s.figs 0 s.figs := by unfold listE; rw [if_neg l3]
  rw [if_neg (by simpa using l3), e3]
  obtain ⟨r3, hr3⟩ : ∃ r3, r2 = 3 * s.figs.length + 1 + (r3 + 1) ∧ 50 ≤ r3 := ⟨r2 - 3 * s.figs.length - 2, by omega, by omega⟩
  obtain ⟨h3, g3, x3⟩ := figs_loop w1 a1 sf (by omega) (r3 + 1) s.figs.length 0 h2 (.slice none 0 0) g2 (.inl ⟨rfl, rfl⟩) (by omega)
  rw [List.drop_zero, ← hr3.1] at x3
  rw [show (Int.ofNat 0) = ((0 : Nat) : Int) from rfl, x3]
  by_cases c5 : (firstE figE s.figs 0 s.figs).2 = 0
  case neg => rw [if_neg c5, if_pos (by simpa using c5)]; exact ⟨_, rfl⟩
  rw [if_pos c5, if_neg (by simpa using c5)]
  have st10 : rec' T14 (r3 + 1) 10 (AL.v p AL.n) h3 = P14x10 (rec' T14 r3) p h3 := rfl
  rw [st10]
  unfold P14x10
  have a3 := a1.sub g3.sub
  have sb3 := sb.sub g3.sub
  rw [a3.fld 6 (x := vb) rfl, sb3.rows.len, List.length_map, boolZ_eq, ltZ_dec, ifB_if, show (Int.ofNat 3) = (3 : Int) from rfl]
  by_cases l4 : (3 : Int) < (s.bill.length : Int)
  · have e4 : listE 3 classE s.bill = (0, 3) := by unfold listE; rw [if_pos l4]
    rw [if_pos (by simpa using l4), e4, if_pos (by decide)]; exact ⟨_, rfl⟩
  have e4 : listE 3 classE s.bill = firstE classE s.bill 0 s.bill := by unfold listE; rw [if_neg l4]
  rw [if_neg (by simpa using l4), e4]
  obtain ⟨r4, hr4⟩ : ∃ r4, r3 = s.bill.length + 1 + (r4 + 1) := ⟨r3 - s.bill.length - 2, by omega⟩
  have x4 := bill_loop a3 sb3 (by omega) (r4 + 1) s.bill.length 0 (by omega)
  rw [List.drop_zero, ← hr4] at x4
  rw [show (Int.ofNat 0) = ((0 : Nat) : Int) from rfl, x4]
  by_cases c6 : (firstE classE s.bill 0 s.bill).2 = 0
  case neg => rw [if_neg c6, if_pos (by simpa using c6)]; exact ⟨_, rfl⟩
  rw [if_pos c6, if_neg (by simpa using c6)]
  exact ⟨_, rfl⟩
theorem put_whole {z : Nat} {hb h : Hp} (w : Wf hb) (g : Grew hb h) {b : Nat} (hle : hb.next ≤ b) {c l : List Value} {e : TypeId} {s : Option Nat} (hg : h.get b = some (.cells c e s)) (hc : c.length = z) (hl : l.length = z) (hx : l.all oneCell = true) :
    ∃ h', Grew hb h' ∧ At h' (.pointer (some ⟨b, 0, none⟩)) l ∧ (∀ (ρ : Type) (k : Hp → Option ρ), storeNK z h (.pointer (some ⟨b, 0, none⟩)) (.agg (Array.mk l)) k = k h') ∧ (∀ i o, i ≠ b → h.get i = some o → h'.get i = some o) := by
  have hlt := g.wf.2 b _ hg
  refine ⟨h.upd b (.cells l e s), Grew.upd w g hle hlt _, ⟨b, 0, l, e, s, rfl, by rw [get_upd, if_pos rfl], by simp, fun k x hx => by simpa using hx⟩, fun ρ k => ?_, fun i o hi ho => by rw [get_upd, if_neg hi]; exact ho⟩
  rw [storeNK_ptr (n := z) (c := c) hg (by rw [g.ro]; have := w.1; omega) hl hx (by omega), List.drop_of_length_le (by omega)]
  simp
theorem callQ_any {F : List Value → Hp → CRes} {args : List Value} {h h' : Hp} {v : Value} (w : Wf h) (e : F args (shutH h) = some (v, h')) (g : Grew (shutH h) h') : ∃ h2, callQ F args h = some (v, h2) ∧ Grew h h2 := by
  unfold callQ
  rw [e, pairK_some', ifB_if]
  by_cases hp : plainK v = true
  · exact ⟨h, by rw [if_pos hp], Grew.refl w⟩
  · refine ⟨⟨h'.next, h.ro, h'.objs⟩, by rw [if_neg hp], ⟨⟨?_, g.wf.2⟩, g.sub, g.next, rfl⟩⟩
    have := g.next
    have := w.1
    show h.ro ≤ h'.next
    have : h.next ≤ h'.next := g.next
    omega
noncomputable def zero97 : List Value := [(Value.int .i64 (Int.ofNat 0)), (Value.int .i64 (Int.ofNat 0)), (Value.int .i64 (Int.ofNat 0)), (Value.slice none 0 0), (Value.slice none 0 0), (Value.slice none 0 0), (Value.slice none 0 0)]
theorem build0 : buildV env 97 (List.toArray []) = some (.agg (Array.mk zero97)) := by kernel_rfl
theorem build1 (a b c d : Option Addr) (n1 c1 n2 c2 n3 c3 n4 c4 : Nat) (p q r : Int) : buildV env 97 (List.toArray [(0, .agg (Array.mk [.int .i64 p, .int .i64 q, .int .i64 r, .slice a n1 c1, .slice b n2 c2, .slice c n3 c3, .slice d n4 c4]))]) = some (.agg (Array.mk [.int .i64 p, .int .i64 q, .int .i64 r, .slice a n1 c1, .slice b n2 c2, .slice c n3 c3, .slice d n4 c4])) := by kernel_rfl
theorem HoA.build {h : Hp} {s : Ho} {r : List Value} (a : HoA h s r) : buildV env 97 (List.toArray [(0, .agg (Array.mk r))]) = some (.agg (Array.mk r)) := by
  obtain ⟨vh, vp, vf, vb, rfl, h2, h3, h4, h5, h6⟩ := a
  obtain ⟨_, _, _, rfl⟩ := h2.sl
  obtain ⟨_, _, _, rfl⟩ := h3.sl
  obtain ⟨_, _, _, rfl⟩ := h5.sl
  obtain ⟨_, _, _, rfl⟩ := h6.sl
  exact build1 _ _ _ _ _ _ _ _ _ _ _ _ _ _ _
theorem open58_at {h : Hp} (w : Wf h) {s : Ho} {r : List Value} (a : HoA h s r) : ∃ h' lk, F58 [.agg (Array.mk r)] h = some (.tuple (List.toArray [.agg (Array.mk lk), .int .i64 (checkH s).2.2]), h') ∧ Grew h h' ∧ lk.length = 7 ∧ lk.all oneCell = true ∧ ((checkH s).2.2 = 0 → lk = r) := by
  have start : F58 [.agg (Array.mk r)] h = P58x0 (rec' T58 999999) (.agg (Array.mk r)) h := rfl
  rw [start]
  unfold P58x0
  have hr7 := a.len
  rw [rowCells, allocK_add, allocK_add]
  have g0 : Grew h (h.add (.cells r 28 none)) := Grew.add w _
  have a0 : At (h.add (.cells r 28 none)) (.pointer (some ⟨h.next, 0, none⟩)) r := At.new
  have n0 : (h.add (.cells r 28 none)).next = h.next + 1 := rfl
  generalize h.add (.cells r 28 none) = h0 at g0 a0 n0 ⊢
  have g1 : Grew h (h0.add (.cells zero97 97 none)) := g0.trans (Grew.add g0.wf _)
  have a1 : At (h0.add (.cells zero97 97 none)) (.pointer (some ⟨h.next, 0, none⟩)) r := atAdd g0.wf a0 _
  have c1 : (h0.add (.cells zero97 97 none)).get h0.next = some (.cells zero97 97 none) := by rw [get_add, if_pos rfl]
  rw [show [(Value.int .i64 (Int.ofNat 0)), (Value.int .i64 (Int.ofNat 0)), (Value.int .i64 (Int.ofNat 0)), (Value.slice none 0 0), (Value.slice none 0 0), (Value.slice none 0 0), (Value.slice none 0 0)] = zero97 from rfl]
  generalize h0.add (.cells zero97 97 none) = h1 at g1 a1 c1 ⊢
  have s1 := a.sub g1.sub
  obtain ⟨h2, e2⟩ := check13_at (h := shutH h1) (wfShut g1.wf) s1
  rw [a1.loadN (z := 7) hr7, callQ_plain1 e2 rfl, pairK_some']
  unfold trip
  rw [extK_at (v := .int .i64 (checkH s).1) rfl, intK_int, extK_at (v := .int .i64 (checkH s).2.1) rfl, intK_int, extK_at (v := .int .i64 (checkH s).2.2) rfl, intK_int, boolN_eq, eqZ_dec, ifB_if]
  by_cases e0 : (checkH s).2.2 = 0
  · rw [if_neg (by rw [e0]; simp), a1.loadN (z := 7) hr7, a.build, optK_some']
    obtain ⟨h3, g3, a3, k3, _⟩ := put_whole (z := 7) (l := r) w g1 (b := h0.next) (by have := g0.next; omega) c1 rfl hr7 a.one
    rw [k3, a3.loadN (z := 7) hr7, e0]
    exact ⟨h3, _, rfl, g3, hr7, a.one, fun _ => rfl⟩
  · rw [if_pos (by simpa using e0), build0, optK_some']
    obtain ⟨h3, g3, a3, k3, _⟩ := put_whole (z := 7) (l := zero97) w g1 (b := h0.next) (by have := g0.next; omega) c1 rfl rfl rfl
    rw [k3, a3.loadN (z := 7) rfl]
    exact ⟨h3, zero97, rfl, g3, rfl, rfl, fun e => absurd e e0⟩
end Go.Proofs.Ytekocllllbdbgaa.K.L
