/- PawnLater returns true whatever the show, the number and the two days: a gown is never cheaper to redeem on a later day, and no dearer within the same month. No condition. -/
import Derived.Test.YtaegcofpbihmhaaS13
import Derived.Test.YtaegcofpbihmhaaEngC
import Derived.Test.YtaegcofpbihmhaaRows
import Derived.WalkKit
import Derived.ProofKit
import Derived.OpenShut
open Go Go.Eng
set_option maxRecDepth 100000
set_option linter.unusedVariables false
namespace Go.Proofs.Ytaegcofpbihmhaa.K.L
theorem leftK_ptr (a : Addr) (n : Nat) (t : T AObj) (k : List (Nat × AObj) → Nat → CRes) : leftK (.pointer (some a)) n (Hp.mk n n t) k = k [] n := by
  unfold leftK
  rw [show plainK (.pointer (some a)) = false from rfl, ifB_if, if_neg (by simp), ifB_if, if_pos (by rw [Nat.ble_eq]; exact Nat.le_refl _)]
  show k (blocksV _ n (Nat.sub n n)) n = _
  rw [show Nat.sub n n = 0 from Nat.sub_self n]
  rfl
theorem pair_at {h : Hp} {p : Value} {x y : Int} (a : At h p [.int .u16 x, .int .u16 y]) : ∃ p0 p1, (∀ (ρ : Type) (k : Value → Option ρ), idxAK 2 1 p (Int.ofNat 0) k = k (.pointer (some p0))) ∧ (∀ (ρ : Type) (k : Value → Option ρ), idxAK 2 1 p (Int.ofNat 1) k = k (.pointer (some p1))) ∧
    (∀ (ρ : Type) (k : Value → Option ρ) (n : Nat), load1K (Hp.mk n n h.objs) (.pointer (some p0)) k = k (.int .u16 x)) ∧ (∀ (ρ : Type) (k : Value → Option ρ) (n : Nat), load1K (Hp.mk n n h.objs) (.pointer (some p1)) k = k (.int .u16 y)) := by
  obtain ⟨b, o, c, t, s, rfl, h1, h2, h3⟩ := a
  refine ⟨⟨b, o + 0 * 1, none⟩, ⟨b, o + 1 * 1, none⟩, fun ρ k => ?_, fun ρ k => ?_, fun ρ k n => ?_, fun ρ k n => ?_⟩
  · show forceN (Nat.add o (Nat.mul 0 1)) (fun o => k (.pointer (some ⟨b, o, none⟩))) = _
    rw [forceN_eq]
  · show forceN (Nat.add o (Nat.mul 1 1)) (fun o => k (.pointer (some ⟨b, o, none⟩))) = _
    rw [forceN_eq]
  · exact load1K_ptr (h := Hp.mk n n h.objs) h1 (by simpa using h3 0 _ rfl) k
  · exact load1K_ptr (h := Hp.mk n n h.objs) h1 (by simpa using h3 1 _ rfl) k
theorem redeem_in {s : Sh} (hv : (checkS s).2.2 = 0) {i : Nat} (hi : i < s.gs.length) {d : Int} (hd : 0 ≤ d ∧ d ≤ 364) : redeemS s (i : Int) d = if !(s.gs[i]).pawn then (0, 2) else if (s.gs[i]).last < d then (0, 9) else (costS (s.gs[i]) d, 0) := by
  unfold redeemS
  rw [if_neg (by simpa using hv), if_neg (by unfold inB; simp; omega), Int.toNat_natCast, List.getElem?_eq_getElem hi]
  simp only
  rw [if_neg (show ¬ ((!inB 0 364 d) = true) by unfold inB; simp; omega)]
theorem cost_mono {g : Gw} (hr : 0 ≤ g.rate) (ha : 0 ≤ g.ago) {x y : Int} (hx : 0 ≤ x) (h : x ≤ y) : costS g x ≤ costS g y ∧ g.loan + g.rate ≤ costS g x := by
  unfold costS
  have e1 : (g.ago + x) / 30 ≤ (g.ago + y) / 30 := Int.ediv_le_ediv (by omega) (by omega)
  have e0 : 0 ≤ (g.ago + x) / 30 := Int.ediv_nonneg (by omega) (by omega)
  have e2 : ((g.ago + x) / 30 + 1) * g.rate ≤ ((g.ago + y) / 30 + 1) * g.rate := Int.mul_le_mul_of_nonneg_right (by omega) hr
  have e3 : 1 * g.rate ≤ ((g.ago + x) / 30 + 1) * g.rate := Int.mul_le_mul_of_nonneg_right (by omega) hr
  omega
theorem fm17 (h : Hp) : FM17 [] h = some (.bool true) := rfl
theorem later5_at {h : Hp} (w : Wf h) {s : Sh} {r : List Value} (a : ShA h s r) {which x y : Int} (hw : 0 ≤ which ∧ which ≤ 255) (hx : 0 ≤ x ∧ x ≤ 65535) (hy : 0 ≤ y ∧ y ≤ 65535) :
    ∃ h', F5 [.agg (Array.mk r), .int .u8 which, .agg (Array.mk [.int .u16 x, .int .u16 y])] h = some (.bool true, h') := by
  have start : F5 [.agg (Array.mk r), .int .u8 which, .agg (Array.mk [.int .u16 x, .int .u16 y])] h = P5x0 (rec' T5 999999) (.agg (Array.mk r)) which (.agg (Array.mk [.int .u16 x, .int .u16 y])) h := rfl
  rw [start]
  clear start
  unfold P5x0
  try unfold ki
  have hr4 := a.len
  rw [rowCells, rowCells, allocK_add, allocK_add]
  have g0 : Grew h (h.add (.cells r 26 none)) := Grew.add w _
  have a0 : At (h.add (.cells r 26 none)) (.pointer (some ⟨h.next, 0, none⟩)) r := At.new
  generalize h.add (.cells r 26 none) = h0 at g0 a0 ⊢
  generalize Value.pointer (some ⟨h.next, 0, none⟩) = p at a0 ⊢
  have g1 : Grew h (h0.add (.cells [.int .u16 x, .int .u16 y] 51 none)) := g0.trans (Grew.add g0.wf _)
  have a1 := atAdd g0.wf a0 (.cells [.int .u16 x, .int .u16 y] 51 none)
  have b1 : At (h0.add (.cells [.int .u16 x, .int .u16 y] 51 none)) (.pointer (some ⟨h0.next, 0, none⟩)) [.int .u16 x, .int .u16 y] := At.new
  generalize h0.add (.cells [.int .u16 x, .int .u16 y] 51 none) = h1 at g1 a1 b1 ⊢
  generalize Value.pointer (some ⟨h0.next, 0, none⟩) = q at b1 ⊢
  have s1 := a.sub g1.sub
  have st1 : ∀ b : Bool, rec' T5 999999 1 (AL.i which (AL.v p (AL.v q (AL.b b AL.n)))) h1 = P5x1 (rec' T5 999998) which p q b h1 := fun b => rfl
  have st2 : rec' T5 999998 2 (AL.i which (AL.v p (AL.v q AL.n))) h1 = P5x2 (rec' T5 999997) which p q h1 := rfl
  obtain ⟨hv, ev⟩ := valid24_at (h := shutH h1) (wfShut g1.wf) s1 hr4
  rw [a1.loadN (z := 4) hr4, callQ_plain1 ev rfl, pairK_some', boolK_bool, boolN_eq, ifB_if]
  obtain ⟨vg, vf, vi, rfl, sg, sf, si⟩ := s1
  have sA : ShA h1 s [vg, vf, .int .i64 s.purse, vi] := ⟨vg, vf, vi, rfl, sg, sf, si⟩
  have none_way : (redeemS s 0 0).2 ≠ 0 → ∃ h', P5x1 (rec' T5 999998) which p q true h1 = some (.bool true, h') := by
    intro hne
    obtain ⟨h2, e2⟩ := redeem10_at (h := shutH h1) (wfShut g1.wf) sA 0 0
    unfold P5x1
    try unfold ki
    rw [ifB_if, if_pos rfl, a1.loadN (z := 4) hr4, show (Int.ofNat 0) = (0 : Int) from rfl, callQ_plain1 e2 rfl, pairK_some']
    unfold dup
    rw [extK_at (v := .int .i64 (redeemS s 0 0).1) rfl, intK_int, extK_at (v := .int .i64 (redeemS s 0 0).2) rfl, intK_int, boolN_eq, eqZ_dec, ifB_if, if_pos (by simpa using hne), fm17, optK_some', pairK_some', boolK_bool]
    exact ⟨_, rfl⟩
  cases hval : validS s with
  | false =>
    rw [if_pos (by rfl), st1]
    refine none_way ?_
    unfold redeemS
    have : (checkS s).2.2 ≠ 0 := by unfold validS at hval; simpa using hval
    rw [if_pos this]; exact this
  | true =>
  have hv0 : (checkS s).2.2 = 0 := by unfold validS at hval; simpa using hval
  rw [if_neg (by simp), a1.fld 0 (x := vg) rfl, sg.rows.len, List.length_map, boolZ_eq, eqZ_dec, st1]
  by_cases hl0 : s.gs.length = 0
  · rw [show decide ((s.gs.length : Int) = Int.ofNat 0) = true from by simp [hl0]]
    refine none_way ?_
    unfold redeemS
    rw [if_neg (by simpa using hv0), if_pos (show (!inB 0 ((s.gs.length : Int) - 1) 0) = true by rw [hl0]; rfl)]
    simp
  rw [show decide ((s.gs.length : Int) = Int.ofNat 0) = false from decide_eq_false (fun e => by have e' : (s.gs.length : Int) = 0 := e; omega)]
  unfold P5x1
  try unfold ki
  rw [ifB_if, if_neg (by simp), st2]
  clear st1 st2 none_way ev
  unfold P5x2
  try unfold ki
  have hlp : 0 < s.gs.length := by omega
  obtain ⟨i, hi, hie⟩ : ∃ i : Nat, i < s.gs.length ∧ which % (s.gs.length : Int) = (i : Int) := by
    refine ⟨(which % (s.gs.length : Int)).toNat, ?_, ?_⟩
    · have h1 := Int.emod_lt_of_pos which (show (0 : Int) < s.gs.length by omega)
      have h2 := Int.emod_nonneg which (show (s.gs.length : Int) ≠ 0 by omega)
      omega
    · have h2 := Int.emod_nonneg which (show (s.gs.length : Int) ≠ 0 by omega)
      omega
  obtain ⟨p0, p1, i0, i1, l0, l1⟩ := pair_at b1
  have hpe : ∃ pa, p = .pointer (some pa) := by
    obtain ⟨b, o, c, t, s', rfl, _⟩ := a1; exact ⟨_, rfl⟩
  have hx2 : 0 ≤ x % 365 ∧ x % 365 ≤ 364 := by omega
  have hy2 : 0 ≤ y % 365 ∧ y % 365 ≤ 364 := by omega
  rw [wrap64_in _ (by omega) (by omega), a1.fld 0 (x := vg) rfl, sg.rows.len, List.length_map, rem_at (by omega) (by omega), slowI_some', hie, i0, leftK_ptr]
  rw [show addAll [] h1.objs = h1.objs from rfl, l0, intK_int, wrap64_in _ (by omega) (by omega), show (Int.ofNat 365) = (365 : Int) from rfl, rem_at (by omega) (by omega), slowI_some', i1, leftK_ptr, show addAll [] h1.objs = h1.objs from rfl, l1, intK_int, wrap64_in _ (by omega) (by omega), rem_at (by omega) (by omega), slowI_some']
  rw [show (Hp.mk h1.next h1.ro h1.objs) = h1 from rfl, a1.loadN (z := 4) hr4, minZ_eq]
  generalize x % 365 = A at hx2 ⊢
  generalize y % 365 = B at hy2 ⊢
  have hmin : 0 ≤ min A B ∧ min A B ≤ 364 := by omega
  have hmax : 0 ≤ max A B ∧ max A B ≤ 364 := by omega
  obtain ⟨h2, e2⟩ := redeem10_at (h := shutH h1) (wfShut g1.wf) sA (i : Int) (min A B)
  obtain ⟨h3, e3⟩ := redeem10_at (h := shutH h1) (wfShut g1.wf) sA (i : Int) (max A B)
  rw [callQ_plain1 e2 rfl, pairK_some']
  unfold dup
  rw [extK_at (v := .int .i64 (redeemS s (i : Int) (min A B)).1) rfl, intK_int, extK_at (v := .int .i64 (redeemS s (i : Int) (min A B)).2) rfl, intK_int, a1.loadN (z := 4) hr4, maxZ_eq, callQ_plain1 e3 rfl, pairK_some']
  unfold dup
  rw [extK_at (v := .int .i64 (redeemS s (i : Int) (max A B)).1) rfl, intK_int, extK_at (v := .int .i64 (redeemS s (i : Int) (max A B)).2) rfl, intK_int]
  have hgi : (s.gs.map Gw.row)[i]? = some (s.gs[i]).row := by rw [List.getElem?_map, List.getElem?_eq_getElem hi]; rfl
  obtain ⟨q2, hq2, haq, hl⟩ := sg.rows.at hgi
  rw [a1.fld 0 (x := vg) rfl, hq2, haq.loadN (z := 8) hl]
  obtain ⟨h4, p4, g4, a4, k4⟩ := alloc_store (ρ := Value × Hp) (z := 8) g1.wf 54 (c := [(Value.string (ByteArray.mk #[])), (Value.int .i64 (Int.ofNat 0)), (Value.bool false), (Value.int .i64 (Int.ofNat 0)), (Value.int .i64 (Int.ofNat 0)), (Value.int .i64 (Int.ofNat 0)), (Value.int .i64 (Int.ofNat 0)), (Value.int .i64 (Int.ofNat 0))]) (l := (s.gs[i]).row) rfl rfl rfl (fun _ _ => none)
  rw [k4, a4.fld 2 (x := .bool (s.gs[i]).pawn) rfl, boolK_bool, boolN_eq, ifB_if, redeem_in hv0 hi hmin, redeem_in hv0 hi hmax]
  have fin : ∀ h : Hp, (pairK (optK (FM17 [] h) fun v => some (v, h)) fun v43 h43 => boolK v43 fun b44 => some ((Value.bool b44), h43)) = some (.bool true, h) := fun h => rfl
  generalize hG : s.gs[i] = G
  have hst := (check_stated hv0).2 i hi
  rw [hG] at hst
  cases hp : G.pawn with
  | false =>
    rw [if_pos (by rfl), if_pos (by rfl), if_pos (by rfl)]
    simp only
    rw [boolZ_eq, eqZ_dec, ifB_if, if_pos (by decide), boolZ_eq, eqZ_dec, ifB_if, if_pos (by decide), fin]
    exact ⟨_, rfl⟩
  | true =>
  obtain ⟨q1, q2', q3, q4, q5, q6⟩ := stated_range hp hst
  simp only [Bool.not_true, Bool.false_eq_true, if_false]
  by_cases c1 : G.last < min A B
  · have c2 : G.last < max A B := by omega
    rw [if_pos c1, if_pos c2]
    simp only
    rw [boolN_eq, eqZ_dec, ifB_if, if_pos (by decide), boolZ_eq, eqZ_dec, ifB_if, if_pos (by decide), boolZ_eq, eqZ_dec, ifB_if, if_pos (by decide), minZ_eq, a4.fld 7 (x := .int .i64 s.gs[i].last) rfl, intK_int, boolZ_eq, ltZ_dec, ifB_if, hG, if_pos (by simpa using c1), fin]
    exact ⟨_, rfl⟩
  rw [if_neg c1]
  by_cases c2 : G.last < max A B
  · rw [if_pos c2]
    simp only
    rw [boolN_eq, eqZ_dec, ifB_if, if_neg (by decide), boolN_eq, eqZ_dec, ifB_if, if_pos (by decide), boolZ_eq, eqZ_dec, ifB_if, if_pos (by decide), maxZ_eq, a4.fld 7 (x := .int .i64 s.gs[i].last) rfl, intK_int, boolZ_eq, ltZ_dec, ifB_if, hG, if_pos (by simpa using c2), fin]
    exact ⟨_, rfl⟩
  rw [if_neg c2]
  simp only
  obtain ⟨m1, m2⟩ := cost_mono (g := G) q3 q5 hmin.1 (show min A B ≤ max A B by omega)
  rw [boolN_eq, eqZ_dec, ifB_if, if_neg (by decide), boolN_eq, eqZ_dec, ifB_if, if_neg (by decide), a4.fld 6 (x := .int .i64 s.gs[i].ago) rfl, intK_int, hG, show Int.add G.ago A = G.ago + A from rfl, wrap64_in _ (by omega) (by omega), show (Int.ofNat 30) = (30 : Int) from rfl, quo_at (by omega) (by omega) (by omega), slowI_some',
    a4.fld 6 (x := .int .i64 s.gs[i].ago) rfl, intK_int, hG, show Int.add G.ago B = G.ago + B from rfl, wrap64_in _ (by omega) (by omega), quo_at (by omega) (by omega) (by omega), slowI_some', boolZ_eq, eqZ_dec, boolN_eq, ltZ_dec, ifB_if, if_pos (by simpa using m1),
    a4.fld 3 (x := .int .i64 s.gs[i].loan) rfl, intK_int, a4.fld 4 (x := .int .i64 s.gs[i].rate) rfl, intK_int, hG, show Int.add G.loan G.rate = G.loan + G.rate from rfl, wrap64_in _ (by omega) (by omega), boolN_eq, ltZ_dec, ifB_if, if_pos (by simpa using m2), boolN_eq, ifB_if]
  by_cases c3 : (G.ago + A) / 30 = (G.ago + B) / 30
  · rw [if_neg (by simpa using c3), boolZ_eq, eqZ_dec, ifB_if, if_pos (by
      rw [decide_eq_true_iff]
      unfold costS
      rcases Int.le_total A B with hAB | hAB
      · rw [show min A B = A by omega, show max A B = B by omega, c3]
      · rw [show min A B = B by omega, show max A B = A by omega, c3]), fin]
    exact ⟨_, rfl⟩
  · rw [if_pos (by simpa using c3), fin]
    exact ⟨_, rfl⟩
theorem pa26 : partsT Try.prog 26 = some [(0, 22), (1, 23), (2, 3), (3, 24)] := by kernel_rfl
theorem pa54 : partsT Try.prog 54 = some [(0, 9), (1, 3), (2, 4), (3, 3), (4, 3), (5, 3), (6, 3), (7, 3)] := by kernel_rfl
theorem pa63 : partsT Try.prog 63 = some [(0, 9), (1, 3), (2, 3), (3, 3)] := by kernel_rfl
theorem pa57 : partsT Try.prog 57 = some [(0, 3), (1, 3)] := by kernel_rfl
theorem ce26 : Try.prog.cellsOf 26 = 4 := by kernel_rfl
theorem ce54 : Try.prog.cellsOf 54 = 8 := by kernel_rfl
theorem ce63 : Try.prog.cellsOf 63 = 4 := by kernel_rfl
theorem ce57 : Try.prog.cellsOf 57 = 2 := by kernel_rfl
theorem ce3 : Try.prog.cellsOf 3 = 1 := by kernel_rfl
theorem ce4 : Try.prog.cellsOf 4 = 1 := by kernel_rfl
theorem ce9 : Try.prog.cellsOf 9 = 1 := by kernel_rfl
theorem ce22 : Try.prog.cellsOf 22 = 1 := by kernel_rfl
theorem ce23 : Try.prog.cellsOf 23 = 1 := by kernel_rfl
theorem ce24 : Try.prog.cellsOf 24 = 1 := by kernel_rfl
theorem el22 : elemT Try.prog 22 = some 54 := by kernel_rfl
theorem el23 : elemT Try.prog 23 = some 63 := by kernel_rfl
theorem el24 : elemT Try.prog 24 = some 57 := by kernel_rfl
theorem ki3 : kindT Try.prog 3 = some .i64 := by kernel_rfl
theorem st9 : strT Try.prog 9 = true := by kernel_rfl
theorem bo4 : boolT Try.prog 4 = true := by kernel_rfl
section
variable {h : Hp} {n : Nat}
theorem gown_of {r : List Value} (a : Arg Try.prog h (n + 2) 54 r) : ∃ g : Gw, r = g.row := by
  obtain ⟨hl, hp⟩ := a.parts pa54
  rw [ce54] at hl
  match r, hl with
  | [c0, c1, c2, c3, c4, c5, c6, c7], _ =>
    have p0 := hp (0, 9) (by simp)
    have p1 := hp (1, 3) (by simp)
    have p2 := hp (2, 4) (by simp)
    have p3 := hp (3, 3) (by simp)
    have p4 := hp (4, 3) (by simp)
    have p5 := hp (5, 3) (by simp)
    have p6 := hp (6, 3) (by simp)
    have p7 := hp (7, 3) (by simp)
    simp only [ce9, ce3, ce4] at p0 p1 p2 p3 p4 p5 p6 p7
    obtain ⟨s0, e0, _⟩ := p0.str st9
    obtain ⟨i1, e1, _⟩ := p1.int ki3
    obtain ⟨b2, e2⟩ := p2.bool bo4
    obtain ⟨i3, e3, _⟩ := p3.int ki3
    obtain ⟨i4, e4, _⟩ := p4.int ki3
    obtain ⟨i5, e5, _⟩ := p5.int ki3
    obtain ⟨i6, e6, _⟩ := p6.int ki3
    obtain ⟨i7, e7, _⟩ := p7.int ki3
    simp at e0 e1 e2 e3 e4 e5 e6 e7
    exact ⟨⟨s0, i1, b2, i3, i4, i5, i6, i7⟩, by rw [e0, e1, e2, e3, e4, e5, e6, e7]; rfl⟩
theorem fig_of {r : List Value} (a : Arg Try.prog h (n + 2) 63 r) : ∃ g : Fg, r = g.row := by
  obtain ⟨hl, hp⟩ := a.parts pa63
  rw [ce63] at hl
  match r, hl with
  | [c0, c1, c2, c3], _ =>
    have p0 := hp (0, 9) (by simp)
    have p1 := hp (1, 3) (by simp)
    have p2 := hp (2, 3) (by simp)
    have p3 := hp (3, 3) (by simp)
    simp only [ce9, ce3] at p0 p1 p2 p3
    obtain ⟨s0, e0, _⟩ := p0.str st9
    obtain ⟨i1, e1, _⟩ := p1.int ki3
    obtain ⟨i2, e2, _⟩ := p2.int ki3
    obtain ⟨i3, e3, _⟩ := p3.int ki3
    simp at e0 e1 e2 e3
    exact ⟨⟨s0, i1, i2, i3⟩, by rw [e0, e1, e2, e3]; rfl⟩
theorem inc_of {r : List Value} (a : Arg Try.prog h (n + 2) 57 r) : ∃ g : Ic, r = g.row := by
  obtain ⟨hl, hp⟩ := a.parts pa57
  rw [ce57] at hl
  match r, hl with
  | [c0, c1], _ =>
    have p0 := hp (0, 3) (by simp)
    have p1 := hp (1, 3) (by simp)
    simp only [ce3] at p0 p1
    obtain ⟨i0, e0, _⟩ := p0.int ki3
    obtain ⟨i1, e1, _⟩ := p1.int ki3
    simp at e0 e1
    exact ⟨⟨i0, i1⟩, by rw [e0, e1]; rfl⟩
theorem show_of {r : List Value} (a : Arg Try.prog h (n + 5) 26 r) : ∃ s : Sh, ShA h s r := by
  obtain ⟨hl, hp⟩ := a.parts pa26
  rw [ce26] at hl
  match r, hl with
  | [c0, c1, c2, c3], _ =>
    have p0 := hp (0, 22) (by simp)
    have p1 := hp (1, 23) (by simp)
    have p2 := hp (2, 3) (by simp)
    have p3 := hp (3, 24) (by simp)
    simp only [ce22, ce23, ce3, ce24] at p0 p1 p2 p3
    obtain ⟨v0, rs0, e0, s0, h0⟩ := p0.sl el22 ce54
    obtain ⟨v1, rs1, e1, s1, h1⟩ := p1.sl el23 ce63
    obtain ⟨i2, e2, _⟩ := p2.int ki3
    obtain ⟨v3, rs3, e3, s3, h3⟩ := p3.sl el24 ce57
    obtain ⟨gs, rfl⟩ := rows_of Gw.row rs0 (fun r hr => gown_of (h0 r hr))
    obtain ⟨fs, rfl⟩ := rows_of Fg.row rs1 (fun r hr => fig_of (h1 r hr))
    obtain ⟨is, rfl⟩ := rows_of Ic.row rs3 (fun r hr => inc_of (h3 r hr))
    simp at e0 e1 e2 e3
    exact ⟨⟨gs, fs, i2, is⟩, v0, v1, v3, by rw [e0, e1, e2, e3], s0, s1, s3⟩
end
theorem ar51 : arrT Try.prog 51 = some (2, 50) := by kernel_rfl
theorem ce50 : Try.prog.cellsOf 50 = 1 := by kernel_rfl
theorem ki50 : kindT Try.prog 50 = some .u16 := by kernel_rfl
theorem ki5 : kindT Try.prog 5 = some .u8 := by kernel_rfl
theorem pa5 : partsT Try.prog 5 = none ∧ arrT Try.prog 5 = none := ⟨by kernel_rfl, by kernel_rfl⟩
theorem pa51 : (arrT Try.prog 51).isSome = true := by kernel_rfl
theorem pa26' : (partsT Try.prog 26).isSome = true := by kernel_rfl
theorem tys5 : [26, 5, 51].all (argTy Try.prog 10) = true := by kernel_rfl
theorem later_run (h : Hp) (avs : List Value) (w : Wf h) (ha : ArgAll Try.prog h 10 [26, 5, 51] avs) : ∃ h', Runs C79 (.call 5 avs.toArray h) (.ret (.bool true) h') := by
  match avs, ha with
  | [v1, v2, v3], ⟨a1, a2, a3, _⟩ =>
    obtain ⟨cs1, rfl, b1⟩ := a1.agg (.inl pa26')
    obtain ⟨s, hs⟩ := show_of (n := 5) b1
    obtain ⟨i2, e2, w2⟩ := (a2.flat pa5).int (n := 9) ki5
    obtain ⟨cs3, rfl, b3⟩ := a3.agg (.inr pa51)
    obtain ⟨l3, p3⟩ := b3.arr (n := 9) ar51
    rw [ce50] at p3
    have ce51 : Try.prog.cellsOf 51 = 2 := by kernel_rfl
    rw [ce51] at l3
    match cs3, l3 with
    | [x, y], _ =>
      obtain ⟨ix, ex, wx⟩ := (p3 0 (by omega)).int (n := 8) ki50
      obtain ⟨iy, ey, wy⟩ := (p3 1 (by omega)).int (n := 8) ki50
      simp at e2 ex ey
      subst e2 ex ey
      have hm1 : IntKind.u8.min = 0 := by decide +kernel
      have hm2 : IntKind.u8.max = 255 := by decide +kernel
      have hm3 : IntKind.u16.min = 0 := by decide +kernel
      have hm4 : IntKind.u16.max = 65535 := by decide +kernel
      have b2 : 0 ≤ i2 ∧ i2 ≤ 255 := by
        simp [Lit.wf] at w2
        omega
      have bx : 0 ≤ ix ∧ ix ≤ 65535 := by
        simp [Lit.wf] at wx
        omega
      have bY : 0 ≤ iy ∧ iy ≤ 65535 := by
        simp [Lit.wf] at wy
        omega
      obtain ⟨h', e⟩ := later5_at w hs b2 bx bY
      exact ⟨h', r5 _ _ _ _ e⟩
end Go.Proofs.Ytaegcofpbihmhaa.K.L
namespace Go.Proofs.Ytaegcofpbihmhaa.pawnLater
open Go.ChangeShapes Go.WideShapes Go.ChangeAt Go.RowKit
theorem own : ownKnob Try.prog.godebug = none := by kernel_rfl
theorem three {H : Type} {enc : TypeId × Value → H} {W : World} {fr : Nat} {fx : Nat → Bool} {o : Bool} {P : Program} {t1 t2 t3 : TypeId} {vs : List Value} {ds : List (DataW H)} {p : List MemPlace}
    (h : DataW.TrodAll enc P W fr fx o [t1, t2, t3] vs ds p) : ∃ d1 d2 d3, ds = [d1, d2, d3] := by
  match vs, ds, h with
  | _ :: vs1, _ :: ds1, ⟨_, _, _, h, _⟩ =>
    match vs1, ds1, h with
    | _ :: vs2, _ :: ds2, ⟨_, _, _, h, _⟩ =>
      match vs2, ds2, h with
      | _ :: vs3, _ :: ds3, ⟨_, _, _, h, _⟩ =>
        match vs3, ds3, h with
        | [], [], _ => exact ⟨_, _, _, rfl⟩
set_option maxRecDepth 100000 in
theorem lifted (os : Os) (started : os.Started) (H : Type) (enc : TypeId × Value → H) :
    ReturnsInHanded {} Try.checked os 5 .any (Rows.pawnLaterSpec.pre6 enc Try.prog Try.f5 Rows.pawnLaterRow.domain false) (Rows.pawnLaterSpec.post enc Try.prog Try.f5 false true false false) := by
  refine returnsInHanded_of_change_shaped (C := Try.checked) own started (by kernel_rfl) Try.func5
    (ChangeSpec.witness6 (enc := enc) (C := Try.checked) false ⟨#[], #[.agg #[.slice none 0 0, .slice none 0 0, .int .i64 0, .slice none 0 0], .int .u8 0, .agg #[.int .u16 0, .int .u16 0]], []⟩ 8 (by kernel_rfl) (by kernel_rfl) (by kernel_rfl) (by kernel_rfl)) ?_
  intro W base args ds gs before hval0 hW hcnd hwt hso hcalm
  have hval : ∀ (j : Nat) t v, Try.f5.params[j]? = some t → args[j]? = some v → Value.okWide Try.prog W .any base t v := hval0
  have hW' := hW
  obtain ⟨p, q, hA0, hV, rfl, hfz, hnd⟩ := hW
  have hA : DataW.TrodAll enc Try.prog W 0 (fun _ => true) true Try.f5.params.toList args.toList ds p := hA0
  rw [Try.params5] at hA hval
  obtain ⟨rfl, rfl⟩ := trodVars_none hV
  clear hA0 hval0
  simp only [List.append_nil] at hW'
  refine (law_calls2 (enc := enc) (C := K.L.C79) K.L.ok79 (f := 5) (n := 10) (b0 := base) (ts := [26, 5, 51]) (fun h avs w _ ha => K.L.later_run h avs w ha) hso (fun j t v h1 h2 => hval j t v (by simpa using h1) (by simpa using h2)) hA K.L.tys5).mono fun e W' ⟨he, hb⟩ => ?_
  subst he
  obtain ⟨d1, d2, d3, rfl⟩ := three hA
  have hA2 := all_after (n := 10) hb K.L.tys5 hA
  refine ⟨_, rfl, ?_⟩
  exact ⟨[d1, d2, d3], [], p, [], _, [], hW', trodAll_cons_mk (shut_bool Try.underlying4 _) trodAll_mk0, hA2, rfl, hb.frame _, fun h => by cases h⟩
theorem over : Rows.pawnLaterRow.holds Try.pinned (OpenSpec.ofChange Rows.pawnLaterSpec) :=
  OpenClaim.holds_of_wide 5 Try.f5 rfl rfl rfl rfl rfl rfl rfl ⟨rfl, rfl, rfl, rfl, rfl⟩ rfl rfl rfl rfl rfl (by kernel_rfl) Try.func5 (by kernel_rfl)
    (of_decide_eq_true (by kernel_rfl)) (by unfold Func.isWrapper; first | (rw [if_pos (by decide +kernel)]; kernel_rfl) | (rw [if_neg (by decide +kernel)]; exact ⟨rfl, rfl⟩))
    (fun os started H enc _ => lifted os started H enc)
theorem proved : Rows.PawnLaterSaid := over
end Go.Proofs.Ytaegcofpbihmhaa.pawnLater
