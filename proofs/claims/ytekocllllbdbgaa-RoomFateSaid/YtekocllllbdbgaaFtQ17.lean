/- Contracts of told functions: a house whose weather is better known. -/
import Derived.Test.YtekocllllbdbgaaFtQ14
open Go Go.Eng
set_option maxRecDepth 100000
set_option linter.unusedVariables false
namespace Go.Proofs.Ytekocllllbdbgaa.K.L
theorem rem_at {a b : Int} (h0 : 0 ≤ a) (hb : 0 < b) : binW env .rem 3 (.int .i64 a) (.int .i64 b) = some (.int .i64 (a % b)) := by
  unfold binW binV
  rw [show intFast .rem (.int .i64 a) (.int .i64 b) = none from rfl]
  simp only
  rw [binV1_ints rfl]
  simp only [Op.intDiv]
  rw [if_neg (by omega)]
  rw [Int.tmod_eq_emod_of_nonneg h0]
  rfl
theorem slowI_some' {ρ : Type} {k : IntKind} {a : Int} (f : Int → Option ρ) : slowI k (some (.int k a)) f = f a := by
  show intK k (.int k a) f = _
  exact intK_int k a f
theorem valid30_at {h : Hp} (w : Wf h) {s : Ho} {r : List Value} (a : HoA h s r) : ∃ h', F30 [.agg (Array.mk r)] h = some (.bool (decide ((checkH s).2.2 = 0)), h') := by
  have start : F30 [.agg (Array.mk r)] h = P30x0 (rec' T30 999999) (.agg (Array.mk r)) h := rfl
  rw [start]
  unfold P30x0
  rw [rowCells, allocK_add]
  have w1 : Wf (h.add (.cells r 28 none)) := w.add _
  have a1 : At (h.add (.cells r 28 none)) (.pointer (some ⟨h.next, 0, none⟩)) r := At.new
  have s1 := a.sub (Grew.add w (.cells r 28 none)).sub
  obtain ⟨h2, e2⟩ := check14_at (h := shutH (h.add (.cells r 28 none))) (wfShut w1) s1
  rw [a1.loadN (z := 7) a.len, callQ_plain1 e2 rfl, pairK_some']
  unfold trip
  rw [extK_at (v := .int .i64 (checkH s).1) rfl, intK_int, extK_at (v := .int .i64 (checkH s).2.1) rfl, intK_int, extK_at (v := .int .i64 (checkH s).2.2) rfl, intK_int, boolZ_eq, eqZ_dec]
  exact ⟨_, rfl⟩
theorem pow3n : ∀ n : Nat, n ≤ 3 → 2 ^ n ≤ 8 ∧ ((2 ^ n : Nat) : Int) = (2 : Int) ^ n
  | 0, _ => by decide
  | 1, _ => by decide
  | 2, _ => by decide
  | 3, _ => by decide
  | n + 4, h => absurd h (by omega)
def pickI (lo hi n : Int) : Int := lo + n % (hi - lo + 1)
theorem pickI_in {lo hi n : Int} (h : lo ≤ hi) : lo ≤ pickI lo hi n ∧ pickI lo hi n ≤ hi := by
  unfold pickI
  have h0 : 0 ≤ n % (hi - lo + 1) := Int.emod_nonneg _ (by omega)
  have h1 : n % (hi - lo + 1) < hi - lo + 1 := Int.emod_lt_of_pos _ (by omega)
  omega
theorem pick39_at (h : Hp) {lo hi n : Int} (h1 : -1000 ≤ lo) (h2 : lo ≤ hi) (h3 : hi ≤ 1000) (hn : 0 ≤ n ∧ n ≤ 255) : F39 [spV (lo, hi), .int .i64 n] h = some (.int .i64 (pickI lo hi n)) := by
  have hp := pickI_in (n := n) h2
  show plainO (P39x0 h (G.rec' (T39 h) 999999) (.agg (Array.mk [.int .i64 lo, .int .i64 hi])) n) = _
  unfold P39x0
  rw [rowCells, forceL_eq, nthR_get _ _ 0 (.int .i64 lo) rfl, intK_int, nthR_get _ _ 1 (.int .i64 hi) rfl, intK_int, nthR_get _ _ 0 (.int .i64 lo) rfl, intK_int, show Int.sub hi lo = hi - lo from rfl, wrap64_in _ (by omega) (by omega), show Int.add (hi - lo) (Int.ofNat 1) = hi - lo + 1 from rfl, wrap64_in _ (by omega) (by omega), rem_at hn.1 (by omega), slowI_some', show Int.add lo (n % (hi - lo + 1)) = pickI lo hi n from rfl, wrap64_in _ (by omega) (by omega)]
  rfl
theorem span27_at (h : Hp) (a b : Int) : F27 [.int .i64 a, .int .i64 b] h = some (spV (a, b)) := by
  show plainO (P27x0 h (G.rec' (T27 h) 999999) a b) = _
  unfold P27x0
  rw [build23, optK_some']
  unfold spV
  rw [aggK_at, lenR2, ifB_if, if_pos rfl, segR2, dropR_eq, takeR_eq _ _ _ (by simp)]
  rfl
def IdxOk (h : Hp) (p : Value) (z i : Nat) (v : Value) : Prop := ∃ a : Addr, (∀ (ρ : Type) (k : Value → Option ρ), idxAK z 1 p (Int.ofNat i) k = k (.pointer (some a))) ∧ (∀ (ρ : Type) (k : Value → Option ρ) (n m : Nat), load1K (Hp.mk n m h.objs) (.pointer (some a)) k = k v)
theorem idx2 {h : Hp} {p x y : Value} (a : At h p [x, y]) : IdxOk h p 2 0 x ∧ IdxOk h p 2 1 y := by
  obtain ⟨b, o, c, t, s, rfl, h1, h2, h3⟩ := a
  refine ⟨⟨⟨b, o + 0 * 1, none⟩, fun ρ k => ?_, fun ρ k n m => ?_⟩, ⟨⟨b, o + 1 * 1, none⟩, fun ρ k => ?_, fun ρ k n m => ?_⟩⟩
  · show forceN (Nat.add o (Nat.mul 0 1)) (fun o => k (.pointer (some ⟨b, o, none⟩))) = _
    rw [forceN_eq]
  · exact load1K_ptr (h := Hp.mk n m h.objs) h1 (by simpa using h3 0 _ rfl) k
  · show forceN (Nat.add o (Nat.mul 1 1)) (fun o => k (.pointer (some ⟨b, o, none⟩))) = _
    rw [forceN_eq]
  · exact load1K_ptr (h := Hp.mk n m h.objs) h1 (by simpa using h3 1 _ rfl) k
theorem idx3 {h : Hp} {p x y z : Value} (a : At h p [x, y, z]) : IdxOk h p 3 0 x ∧ IdxOk h p 3 1 y ∧ IdxOk h p 3 2 z := by
  obtain ⟨b, o, c, t, s, rfl, h1, h2, h3⟩ := a
  refine ⟨⟨⟨b, o + 0 * 1, none⟩, fun ρ k => ?_, fun ρ k n m => ?_⟩, ⟨⟨b, o + 1 * 1, none⟩, fun ρ k => ?_, fun ρ k n m => ?_⟩, ⟨⟨b, o + 2 * 1, none⟩, fun ρ k => ?_, fun ρ k n m => ?_⟩⟩
  · show forceN (Nat.add o (Nat.mul 0 1)) (fun o => k (.pointer (some ⟨b, o, none⟩))) = _
    rw [forceN_eq]
  · exact load1K_ptr (h := Hp.mk n m h.objs) h1 (by simpa using h3 0 _ rfl) k
  · show forceN (Nat.add o (Nat.mul 1 1)) (fun o => k (.pointer (some ⟨b, o, none⟩))) = _
    rw [forceN_eq]
  · exact load1K_ptr (h := Hp.mk n m h.objs) h1 (by simpa using h3 1 _ rfl) k
  · show forceN (Nat.add o (Nat.mul 2 1)) (fun o => k (.pointer (some ⟨b, o, none⟩))) = _
    rw [forceN_eq]
  · exact load1K_ptr (h := Hp.mk n m h.objs) h1 (by simpa using h3 2 _ rfl) k
def bet (s : Ho) (x y : Int) : Ho := { s with we := ⟨pickI s.we.lo s.we.hi x, pickI (pickI s.we.lo s.we.hi x) s.we.hi y⟩ }
theorem better38_at {h : Hp} (w : Wf h) {s : Ho} {r : List Value} (a : HoA h s r) (ok : HoOk s) {x y : Int} (hx : 0 ≤ x ∧ x ≤ 255) (hy : 0 ≤ y ∧ y ≤ 255) : ∃ h' r', F38 [.agg (Array.mk r), .agg (Array.mk [.int .u8 x, .int .u8 y])] h = some (.agg (Array.mk r'), h') ∧ Grew h h' ∧ ∀ hZ, HoA hZ s r → HoA hZ (bet s x y) r' := by
  have start : F38 [.agg (Array.mk r), .agg (Array.mk [.int .u8 x, .int .u8 y])] h = P38x0 (rec' T38 999999) (.agg (Array.mk r)) (.agg (Array.mk [.int .u8 x, .int .u8 y])) h := rfl
  rw [start]
  clear start
  unfold P38x0
  have hr7 := a.len
  obtain ⟨v1, v2, v3⟩ := ok.we
  have q1 := pickI_in (n := x) v2
  have q2 := pickI_in (n := y) q1.2
  rw [rowCells, rowCells, allocK_add, allocK_add, allocK_add]
  have gA := Grew.add w (.cells r 28 none)
  have aA : At (h.add (.cells r 28 none)) (.pointer (some ⟨h.next, 0, none⟩)) r := At.new
  have cA : (h.add (.cells r 28 none)).get h.next = some (.cells r 28 none) := by rw [get_add, if_pos rfl]
  have nA : (h.add (.cells r 28 none)).next = h.next + 1 := rfl
  generalize h.add (.cells r 28 none) = hA at gA aA cA nA ⊢
  have gB := gA.trans (Grew.add gA.wf (.cells [.int .u8 x, .int .u8 y] 67 none))
  have gAB := Grew.add gA.wf (.cells [.int .u8 x, .int .u8 y] 67 none)
  have bB : At (hA.add (.cells [.int .u8 x, .int .u8 y] 67 none)) (.pointer (some ⟨hA.next, 0, none⟩)) [.int .u8 x, .int .u8 y] := At.new
  have nB : (hA.add (.cells [.int .u8 x, .int .u8 y] 67 none)).next = hA.next + 1 := rfl
  generalize hA.add (.cells [.int .u8 x, .int .u8 y] 67 none) = hB at gB gAB bB nB ⊢
  have gC := gB.trans (Grew.add gB.wf (.cells zero97 28 none))
  have gBC := Grew.add gB.wf (.cells zero97 28 none)
  have cC : (hB.add (.cells zero97 28 none)).get hB.next = some (.cells zero97 28 none) := by rw [get_add, if_pos rfl]
  rw [show [(Value.int .i64 (Int.ofNat 0)), (Value.int .i64 (Int.ofNat 0)), (Value.int .i64 (Int.ofNat 0)), (Value.slice none 0 0), (Value.slice none 0 0), (Value.slice none 0 0), (Value.slice none 0 0)] = zero97 from rfl]
  generalize hB.add (.cells zero97 28 none) = hC at gC gBC cC ⊢
  have aC := (aA.sub gAB.sub).sub gBC.sub
  have cA' := gBC.sub _ _ (gAB.sub _ _ cA)
  have bC := bB.sub gBC.sub
  have sC := a.sub gC.sub
  obtain ⟨vh, vp, vf, vb, hrow, sh, sp, sw, sf, sb⟩ := sC
  obtain ⟨i0, i1⟩ := idx2 bC
  obtain ⟨p0, k0, l0⟩ := i0
  obtain ⟨p1, k1, l1⟩ := i1
  obtain ⟨q, hq, aq⟩ := aC.part 0 2 (by omega)
  have aq2 : At hC q [.int .i64 s.we.lo, .int .i64 s.we.hi] := by rw [hrow] at aq; exact aq
  obtain ⟨q', hq', aq'⟩ := aq2.part 1 1 (by simp)
  have lq : ∀ (n m : Nat) (k : Value → CRes), load1K (Hp.mk n m hC.objs) q' k = k (.int .i64 s.we.hi) := fun n m k => At.load1 (h := Hp.mk n m hC.objs) (x := .int .i64 s.we.hi) aq' rfl k
  rw [hq, aq2.loadN (z := 2) rfl, k0]
  show ∃ h' r', (load1K (Hp.mk hC.next hC.ro hC.objs) (.pointer (some p0)) fun v6 => _) = _ ∧ _
  rw [l0, intK_int, wrap64_in _ (by omega) (by omega)]
  show ∃ h' r', (pairK (optK (F39 [spV (s.we.lo, s.we.hi), .int .i64 x] hC) fun v => some (v, hC)) fun v9 h9 => _) = _ ∧ _
  rw [pick39_at hC (by omega) v2 (by omega) hx, optK_some', pairK_some', intK_int, hq, leftK_same, hq', leftK_same]
  show ∃ h' r', (load1K (Hp.mk hC.next hC.next hC.objs) q' fun v15 => _) = _ ∧ _
  rw [lq, intK_int, span27_at, optK_some', pairK_some']
  show ∃ h' r', (leftK (spV (pickI s.we.lo s.we.hi x, s.we.hi)) hC.next (Hp.mk hC.next hC.next hC.objs) fun w18 n18 => _) = _ ∧ _
  rw [leftK_same, k1, leftK_same]
  show ∃ h' r', (load1K (Hp.mk hC.next hC.next hC.objs) (.pointer (some p1)) fun v21 => _) = _ ∧ _
  rw [l1, intK_int, wrap64_in _ (by omega) (by omega)]
  show ∃ h' r', (pairK (optK (F39 [spV (pickI s.we.lo s.we.hi x, s.we.hi), .int .i64 y] (Hp.mk hC.next hC.ro hC.objs)) fun v => some (v, (Hp.mk hC.next hC.ro hC.objs))) fun v24 h24 => _) = _ ∧ _
  rw [pick39_at _ (by omega) q1.2 (by omega) hy, optK_some', pairK_some', intK_int, span27_at, optK_some', pairK_some']
  show ∃ h' r', (ptrAddK 0 (.pointer (some ⟨h.next, 0, none⟩)) fun v27 => storeNK 2 hC v27 (spV (pickI s.we.lo s.we.hi x, pickI (pickI s.we.lo s.we.hi x) s.we.hi y)) fun h28 => _) = _ ∧ _
  rw [ptrAddK_ptr]
  show ∃ h' r', (storeNK 2 hC (.pointer (some ⟨h.next, 0 + 0, none⟩)) (.agg (Array.mk [.int .i64 (pickI s.we.lo s.we.hi x), .int .i64 (pickI (pickI s.we.lo s.we.hi x) s.we.hi y)])) fun h28 => _) = _ ∧ _
  rw [storeNK_ptr (n := 2) (c := r) cA' (by rw [gC.ro]; exact w.1) rfl rfl (by omega)]
  have gD : Grew h (hC.upd h.next (.cells (r.take (0 + 0) ++ [.int .i64 (pickI s.we.lo s.we.hi x), .int .i64 (pickI (pickI s.we.lo s.we.hi x) s.we.hi y)] ++ r.drop (0 + 0 + [Value.int .i64 (pickI s.we.lo s.we.hi x), Value.int .i64 (pickI (pickI s.we.lo s.we.hi x) s.we.hi y)].length)) 28 none)) := Grew.upd w gC (Nat.le_refl _) (by have := gAB.next; have := gBC.next; omega) _
  have rD : r.take (0 + 0) ++ [Value.int .i64 (pickI s.we.lo s.we.hi x), .int .i64 (pickI (pickI s.we.lo s.we.hi x) s.we.hi y)] ++ r.drop (0 + 0 + [Value.int .i64 (pickI s.we.lo s.we.hi x), Value.int .i64 (pickI (pickI s.we.lo s.we.hi x) s.we.hi y)].length) = hoRow (bet s x y).we s.stoves vh vp vf vb := by rw [hrow]; rfl
  rw [rD] at gD ⊢
  have aD : At (hC.upd h.next (.cells (hoRow (bet s x y).we s.stoves vh vp vf vb) 28 none)) (.pointer (some ⟨h.next, 0, none⟩)) (hoRow (bet s x y).we s.stoves vh vp vf vb) := ⟨h.next, 0, _, 28, none, rfl, by rw [get_upd, if_pos rfl], by simp, fun k x hx => by simpa using hx⟩
  have cD : (hC.upd h.next (.cells (hoRow (bet s x y).we s.stoves vh vp vf vb) 28 none)).get hB.next = some (.cells zero97 28 none) := by rw [get_upd, if_neg (by have := gAB.next; omega)]; exact cC
  generalize hC.upd h.next (.cells (hoRow (bet s x y).we s.stoves vh vp vf vb) 28 none) = hD at gD aD cD ⊢
  have sD : HoA hD (bet s x y) (hoRow (bet s x y).we s.stoves vh vp vf vb) := by
    have sH := a.sub gD.sub
    obtain ⟨vh', vp', vf', vb', hrow', sh', sp', sw', sf', sb'⟩ := sH
    rw [hrow] at hrow'
    simp only [hoRow, List.cons.injEq, and_true, true_and] at hrow'
    obtain ⟨rfl, rfl, rfl, rfl⟩ := hrow'
    exact ⟨_, _, _, _, rfl, sh', sp', sw', sf', sb'⟩
  obtain ⟨hE, gE, aE, kE, _⟩ := put_whole (z := 7) (l := hoRow (bet s x y).we s.stoves vh vp vf vb) w gD (b := hB.next) (by have := gB.next; omega) cD rfl rfl sD.one
  have oE : ∀ hZ, HoA hZ s r → HoA hZ (bet s x y) (hoRow (bet s x y).we s.stoves vh vp vf vb) := by
    intro hZ sH
    obtain ⟨vh', vp', vf', vb', hrow', sh', sp', sw', sf', sb'⟩ := sH
    rw [hrow] at hrow'
    simp only [hoRow, List.cons.injEq, and_true, true_and] at hrow'
    obtain ⟨rfl, rfl, rfl, rfl⟩ := hrow'
    exact ⟨_, _, _, _, rfl, sh', sp', sw', sf', sb'⟩
  rw [aD.loadN (z := 7) rfl, kE, aE.loadN (z := 7) rfl]
  exact ⟨hE, _, rfl, gE, oE⟩
theorem bet_ok {s : Ho} (h : (checkH s).2.2 = 0) (x y : Int) : (checkH (bet s x y)).2.2 = 0 := by
  have ok := check_ok h
  obtain ⟨v1, v2, v3⟩ := ok.we
  have q1 := pickI_in (n := x) v2
  have q2 := pickI_in (n := y) q1.2
  have e1 : spanE (-100) 100 s.we = 0 := by
    unfold spanE
    rw [inB_iff.2 ⟨by omega, by omega⟩, inB_iff.2 ⟨by omega, by omega⟩, if_neg (by simp), if_neg (by omega)]
  have e2 : spanE (-100) 100 (bet s x y).we = 0 := by
    unfold spanE
    show (if !(inB (-100) 100 (pickI s.we.lo s.we.hi x) && inB (-100) 100 (pickI (pickI s.we.lo s.we.hi x) s.we.hi y)) then 7 else if pickI (pickI s.we.lo s.we.hi x) s.we.hi y < pickI s.we.lo s.we.hi x then 2 else 0) = (0 : Int)
    rw [inB_iff.2 ⟨by omega, by omega⟩, inB_iff.2 ⟨by omega, by omega⟩, if_neg (by simp), if_neg (by omega)]
  unfold checkH at h ⊢
  rw [e1] at h
  rw [e2]
  exact h
theorem warmF_shift {lit : Nat} (d e : Int) : ∀ (l : List Sp) (i : Nat) (x : Int × Int), warmF lit i l (x.1 + d, x.2 + e) = ((warmF lit i l x).1 + d, (warmF lit i l x).2 + e)
  | [], i, x => rfl
  | g :: l, i, x => by
    unfold warmF
    cases bitB lit i with
    | true =>
      simp only [if_true]
      rw [← warmF_shift d e l (i + 1) (x.1 + g.lo, x.2 + g.hi)]
      congr 1
      simp only [Prod.mk.injEq]
      omega
    | false =>
      simp only [Bool.false_eq_true, if_false]
      exact warmF_shift d e l (i + 1) x
theorem warmF_mono {a b : Nat} : ∀ (l : List Sp) (i : Nat) (x y : Int × Int), SpsOk l → (∀ j, bitB a j = true → bitB b j = true) → x.1 ≤ y.1 → x.2 ≤ y.2 → (warmF a i l x).1 ≤ (warmF b i l y).1 ∧ (warmF a i l x).2 ≤ (warmF b i l y).2
  | [], i, x, y, ok, hb, h1, h2 => ⟨h1, h2⟩
  | g :: l, i, x, y, ok, hb, h1, h2 => by
    obtain ⟨o1, o2, o3, o4, o5⟩ := ok g (.head _)
    have ok' : SpsOk l := fun y hy => ok y (.tail _ hy)
    unfold warmF
    cases ha : bitB a i with
    | true =>
      rw [hb i ha]
      simp only [if_true]
      exact warmF_mono l (i + 1) _ _ ok' hb (by simp only; omega) (by simp only; omega)
    | false =>
      simp only [Bool.false_eq_true, if_false]
      cases bitB b i with
      | true => simp only [if_true]; exact warmF_mono l (i + 1) _ _ ok' hb (by simp only; omega) (by simp only; omega)
      | false => simp only [Bool.false_eq_true, if_false]; exact warmF_mono l (i + 1) _ _ ok' hb h1 h2
theorem bit_more : ∀ n : Nat, n ≤ 3 → ∀ a : Nat, a < 2 ^ n → ∀ i : Nat, i < n → bitB a i = false → a + 2 ^ i < 2 ^ n ∧ ∀ j : Nat, j < 3 → bitB a j = true → bitB (a + 2 ^ i) j = true
  | 0, _ => by decide
  | 1, _ => by decide
  | 2, _ => by decide
  | 3, _ => by decide
  | n + 4, h => absurd h (by omega)
theorem bit_high : ∀ a : Nat, a < 8 → ∀ j : Nat, 3 ≤ j → bitB a j = false := by
  intro a ha j hj
  unfold bitB
  exact Nat.testBit_lt_two_pow (Nat.lt_of_lt_of_le ha (show 8 ≤ 2 ^ j from Nat.pow_le_pow_right (n := 2) (i := 3) (by decide) hj))
end Go.Proofs.Ytekocllllbdbgaa.K.L
