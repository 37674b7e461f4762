/- Contracts of told functions: sets of figures, who arrives, what an entry can say. -/
import Derived.Test.YtgjdokjoejhepaaGreatDoorTrS7
open Go Go.bP
set_option maxRecDepth 100000
set_option linter.unusedVariables false
namespace Go.Proofs.YtgjdokjoejhepaaGreatDoor.K.L
theorem bS (v : Value) (n : Nat) (o : T aW) (k : List (Nat × aW) → Nat → aT) : eG v n (Hp.mk n n o) k = k [] n := by
 unfold eG
 rw [aI]
 by_cases hp : jS v = true
 ·rw [if_pos hp]
 ·rw [if_neg hp, show Nat.ble n (Hp.mk n n o).next = true from by rw [Nat.ble_eq]; exact Nat.le_refl _, aI, if_pos rfl, show Nat.sub (Hp.mk n n o).next n = 0 from Nat.sub_self n]
  rfl
theorem aLN (v : Value) (hv : jS v = false) (n : Nat) (o : T aW) (x : aW) (k : List (Nat × aW) → Nat → aT) : eG v n ((Hp.mk n n o).add x) k = k [(n, x)] (n + 1) := by
 unfold eG
 rw [hv, aI, if_neg (by simp), show ((Hp.mk n n o).add x).next = n + 1 from rfl, show Nat.ble n (n + 1) = true from by rw [Nat.ble_eq]; omega, aI, if_pos rfl, show Nat.sub (n + 1) n = 1 from by show n + 1 - n = 1; omega]
 have hg : ((Hp.mk n n o).add x).get n = some x := by rw [dM, if_pos rfl]
 show k (match ((Hp.mk n n o).add x).get n with | some o' => (n, o') :: [] | none => []) (n + 1) = _
 rw [hg]
theorem rD (n m : Nat) (o : T aW) (x : aW) (k : List (Nat × aW) → Nat → aT) : eG (.slice (some ⟨n, 0, none⟩) m m) n ((Hp.mk n n o).add x) k = k [(n, x)] (n + 1) := aLN _ rfl n o x k
def bs (l : List Nat) (acc : Nat) : Nat := l.foldl (fun s i => s ||| 2 ^ i) acc
theorem bCF {ρ : Type} (f : Int → Option ρ) {x y : Nat} (hx : x < 64) (hy : y < 64) : nN .i64 (orI (lH env .or 3 (Value.int .i64 (x : Int)) (Value.int .i64 (y : Int))) (Value.int .i64 (x : Int)) (Value.int .i64 (y : Int))) f = f ((x ||| y : Nat) : Int) := by
 have hz : x ||| y < 64 := Nat.or_lt_two_pow (n := 6) hx hy
 have f1 : gK .i64 x = true := by unfold gK; simp; omega
 have f2 : gK .i64 y = true := by unfold gK; simp; omega
 have f3 : gK .i64 (Nat.lor x y) = true := by
  have : Nat.lor x y = x ||| y := rfl
  rw [this]; unfold gK; simp; omega
 have e : orI (lH env .or 3 (Value.int .i64 (x : Int)) (Value.int .i64 (y : Int))) (Value.int .i64 (x : Int)) (Value.int .i64 (y : Int)) = some (Value.int .i64 ((x ||| y : Nat) : Int)) := by
  show aJX Nat.lor _ (Value.int .i64 (Int.ofNat x)) (Value.int .i64 (Int.ofNat y)) = _
  simp only [aJX, bU, yF, Bool.true_and, f1, f2, f3]
  rfl
 rw [e]
 show bI .i64 _ f = _
 exact aK _ _ f
theorem NR : ∀ i < 6, 2 ^ i < 64 := by decide
theorem MO {h : Hp} {v : Value} {l : List Nat} (hr : bP.Rows h 1 v (l.map fun (i : Nat) => dH (i : Int))) (h6 : ∀ i ∈ l, i < 6) (hl : l.length ≤ 100) : ∀ m i n (acc : Nat), acc < 64 → i + m = l.length → m + 2 ≤ n →
  G.aP (SE h) n 1 (aR.i (acc : Int) (aR.v v (aR.i (l.length : Int) (aR.i (i : Int) aR.n)))) = some (.int .i64 ((bs (l.drop i) acc : Nat) : Int))
 | 0, i, n + 2, acc, ha, him, hn => by
  show KC h (G.aP (SE h) (n + 1)) (acc : Int) v (l.length : Int) (i : Int) = _
  unfold KC
  rw [aN, bA, aI, if_neg (by simp; omega), List.drop_of_length_le (by omega)]
  rfl
 | m + 1, i, n + 1, acc, ha, him, hn => by
  have hi : i < l.length := by omega
  have hg : (l.map fun (i : Nat) => dH (i : Int))[i]? = some (dH (l[i] : Int)) := by rw [List.getElem?_map, List.getElem?_eq_getElem hi]; rfl
  obtain ⟨q, hq, haq, hl2⟩ := hr.at hg
  have hi6 := h6 _ (List.getElem_mem hi)
  have hp := NR _ hi6
  show KC h (G.aP (SE h) n) (acc : Int) v (l.length : Int) (i : Int) = _
  unfold KC
  rw [aN, bA, aI, if_pos (by simp; omega), hq, haq.lV (x := .int .i64 (l[i] : Int)) rfl, aK, aFN _ _ (by omega), aUP, bCF _ ha hp, show Int.add (i : Int) (Int.ofNat 1) = ((i + 1 : Nat) : Int) from rfl, wrap64_in _ (by omega) (by omega),
   MO hr h6 hl m (i + 1) n _ (Nat.or_lt_two_pow (n := 6) ha hp) (by omega) (by omega), List.drop_eq_getElem_cons hi]
  rfl
theorem WE {h : Hp} {v : Value} {l : List Nat} (hr : bP.Rows h 1 v (l.map fun (i : Nat) => dH (i : Int))) (h6 : ∀ i ∈ l, i < 6) (hl : l.length ≤ 100) : vR [v] h = some (.int .i64 ((bs l 0 : Nat) : Int)) := by
 have step : ∀ n, G.aP (SE h) (n + 1) 0 (aR.v v aR.n) = YB h (G.aP (SE h) n) v := fun n => rfl
 show plainO (G.aP (SE h) (999999 + 1) 0 (aR.v v aR.n)) = _
 rw [step]
 unfold YB
 have := MO hr h6 hl l.length 0 999999 0 (by decide) (by omega) (by omega)
 rw [List.drop_zero] at this
 rw [hr.len, List.length_map, show (Int.ofNat 0) = ((0 : Nat) : Int) from rfl, this]
 rfl
theorem IZ (h : Hp) (l : List Int) (n : Nat) (hn : l.length = n) : bP.Rows (h.add (.cells (l.map (Value.int .i64)) 3 none)) 1 (.slice (some ⟨h.next, 0, none⟩) n n) (l.map dH) := by
 subst hn
 refine .inr ⟨h.next, 0, l.length, _, 3, none, by rw [List.length_map], fun _ => BO _ _, fun i r hi => ?_⟩
 rw [List.getElem?_map] at hi
 cases hx : l[i]? with
 | none => rw [hx] at hi; cases hi
 | some x =>
  rw [hx] at hi
  cases hi
  have := (List.getElem?_eq_some_iff.1 hx).1
  refine ⟨rfl, by simp; omega, fun k y hy => ?_⟩
  cases k with
  | zero =>
   have hy : Value.int .i64 x = y := by simpa [dH] using hy
   subst hy
   rw [Nat.zero_add, Nat.mul_one, Nat.add_zero, List.getElem?_map, hx]; rfl
  | succ k => simp [dH] at hy
theorem NS {h : Hp} {x : Nat} (hx : x < 6) : vR [.slice (some ⟨h.next, 0, none⟩) 1 1] (h.add (.cells [.int .i64 (x : Int)] 3 none)) = some (.int .i64 ((2 ^ x : Nat) : Int)) := by
 have := WE (l := [x]) (IZ h [(x : Int)] 1 rfl) (by simpa using hx) (by simp)
 rw [show bs [x] 0 = 2 ^ x from by simp [bs]] at this
 exact this
theorem aUR {h : Hp} {x y : Nat} (hx : x < 6) (hy : y < 6) : vR [.slice (some ⟨h.next, 0, none⟩) 2 2] (h.add (.cells [.int .i64 (x : Int), .int .i64 (y : Int)] 3 none)) = some (.int .i64 ((2 ^ x ||| 2 ^ y : Nat) : Int)) := by
 have := WE (l := [x, y]) (IZ h [(x : Int), (y : Int)] 2 rfl) (by simp; omega) (by simp)
 rw [show bs [x, y] 0 = 2 ^ x ||| 2 ^ y from by simp [bs]] at this
 exact this
def lW (ts : List Int) (x : Nat) : Bool := ts.any fun t => IX t.toNat x
theorem aUS (a : Nat) : (decide (Nat.land a 1 = 1)) = a.testBit 0 := by
 have : Nat.land a 1 = a % 2 := Nat.and_one_is_mod a
 rw [this, Nat.testBit_zero]
theorem aLO (h : Hp) {t n : Nat} (ht : t ≤ 1000) (hn : n ≤ 60) : aKS [.int .i64 (t : Int), .int .i64 (n : Int)] h = some (.bool (IX t n)) := by
 have step : aKS [.int .i64 (t : Int), .int .i64 (n : Int)] h = plainO (XZ h (G.aP (aOH h) 999999) (t : Int) (n : Int)) := rfl
 rw [step]
 unfold XZ aDY
 show plainO (dI (Nat.ble n 64) (gN (Nat.shiftRight t n) fun c => _) _) = _
 rw [show Nat.ble n 64 = true from by rw [Nat.ble_eq]; omega, bU]
 have hs : Nat.shiftRight t n ≤ t := by
  rw [show Nat.shiftRight t n = t / 2 ^ n from Nat.shiftRight_eq_div_pow t n]; exact Nat.div_le_self _ _
 generalize hA : Nat.shiftRight t n = A at hs
 have hl : A &&& 1 ≤ A := Nat.and_le_left
 have f1 : gK .i64 A = true := by unfold gK; simp; omega
 have f3 : gK .i64 (Nat.land A 1) = true := by unfold gK; simp; omega
 unfold aDX
 show plainO (gN (Nat.land A 1) (fun c => dI (gK .i64 A && gK .i64 1 && gK .i64 c) _ _)) = _
 rw [bU, f1, f3]
 show plainO (dF (tJ (Int.ofNat (Nat.land A 1)) (Int.ofNat 1)) _) = _
 rw [aN, dJ]
 show some (Value.bool _) = _
 congr 2
 unfold IX
 have e : decide (Int.ofNat (Nat.land A 1) = Int.ofNat 1) = decide (Nat.land A 1 = 1) := by
  rw [Bool.eq_iff_iff]; simp only [decide_eq_true_iff]; exact Int.ofNat_inj
 rw [e, aUS, ← hA]
 show (t >>> n).testBit 0 = _
 rw [Nat.testBit_shiftRight, Nat.add_zero]
end Go.Proofs.YtgjdokjoejhepaaGreatDoor.K.L
