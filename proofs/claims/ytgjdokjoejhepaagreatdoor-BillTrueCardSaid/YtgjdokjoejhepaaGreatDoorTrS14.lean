/- Contracts of told functions: the places of figures in entries (the code). -/
import Derived.Test.YtgjdokjoejhepaaGreatDoorTrS13
open Go Go.bP
set_option maxRecDepth 100000
set_option linter.unusedVariables false
namespace Go.Proofs.YtgjdokjoejhepaaGreatDoor.K.L
def kV (e : En) : List Int := if e.says = 1 then [e.a, e.b] else [e.a]
theorem aFC (h : Hp) (e : En) : dR aE8 [.agg (Array.mk e.row)] h = some (.slice (some ⟨h.next + 1, 0, none⟩) (kV e).length (kV e).length, (h.add (.cells e.row 57 none)).add (.cells ((kV e).map (Value.int .i64)) 3 none)) := by
 have start : aE8 [.agg (Array.mk e.row)] (bK h) = YN (aP aP3 999999) (.agg (Array.mk e.row)) (bK h) := rfl
 have e1 : aE8 [.agg (Array.mk e.row)] (bK h) = some (.slice (some ⟨h.next + 1, 0, none⟩) (kV e).length (kV e).length, ((bK h).add (.cells e.row 57 none)).add (.cells ((kV e).map (Value.int .i64)) 3 none)) := by
  rw [start]
  unfold YN kV
  rw [fQ, bL]
  have a0 : At ((bK h).add (.cells e.row 57 none)) (.pointer (some ⟨(bK h).next, 0, none⟩)) e.row := At.new
  rw [a0.lK 0 (x := .int .i64 e.says) rfl, aK, aN, dJ, aI]
  by_cases c : e.says = 1
  ·rw [if_pos (by simpa using c), if_pos c, a0.lK 1 (x := .int .i64 e.a) rfl, aK, a0.lK 2 (x := .int .i64 e.b) rfl, aK, a1N, aD]
   rfl
  ·rw [if_neg (by simpa using c), if_neg c, a0.lK 1 (x := .int .i64 e.a) rfl, aK, vT, aD]
   rfl
 unfold dR
 rw [show aE8 [.agg (Array.mk e.row)] ⟨h.next, h.next, h.aJ⟩ = _ from e1, aD, show jS (.slice (some ⟨h.next + 1, 0, none⟩) (kV e).length (kV e).length) = false from rfl, aI, if_neg (by simp)]
 rfl
def bump (cnt : List Nat) (x : Nat) : List Nat := cnt.set x (cnt.getD x 0 + 1)
def jI (cnt : List Nat) : List Value := cnt.map fun (n : Nat) => Value.int .i64 (n : Int)
theorem QW (cnt : List Nat) (x : Nat) : (bump cnt x).length = cnt.length := by unfold bump; simp
theorem aUG {cnt : List Nat} {x K : Nat} (h : ∀ n ∈ cnt, n ≤ K) : ∀ n ∈ bump cnt x, n ≤ K + 1 := by
 intro n hn
 unfold bump at hn
 rcases List.mem_or_eq_of_mem_set hn with h1 | h1
 ·have := h n h1; omega
 ·have : cnt.getD x 0 ≤ K := by
   rw [List.getD_eq_getElem?_getD]
   cases hx : cnt[x]? with
   | none => simp
   | some y => simpa using h y (List.mem_of_getElem? hx)
  omega
theorem aQX (cnt : List Nat) (x : Nat) : (jI cnt).set x (.int .i64 ((cnt.getD x 0 + 1 : Nat) : Int)) = jI (bump cnt x) := by
 unfold jI bump
 rw [List.map_set]
theorem VX {hb : Hp} (w : Wf hb) {b3 : Nat} (hb3 : hb.next ≤ b3) {r2 r8 : Value} {r9 kW : Int} {bv : Nat} {l : List Nat} (hl6 : ∀ x ∈ l, x < 6) (hl : l.length ≤ 100) (n : Nat) : ∀ m i (h : Hp) (cnt : List Nat) (K : Nat), bE hb h → h.get b3 = some (.cells (jI cnt) 136 none) → cnt.length = 6 → (∀ n ∈ cnt, n ≤ K) → K + m ≤ 100000 →
   bv ≠ b3 → h.get bv = some (.cells (l.map fun (x : Nat) => Value.int .i64 (x : Int)) 3 none) → i + m = l.length →
  ∃ h', bE hb h' ∧ (∀ k o, k ≠ b3 → h.get k = some o → h'.get k = some o) ∧ h'.get b3 = some (.cells (jI ((l.drop i).foldl bump cnt)) 136 none) ∧ ((l.drop i).foldl bump cnt).length = 6 ∧ (∀ n ∈ (l.drop i).foldl bump cnt, n ≤ K + m) ∧
   aP xC (m + 1 + n) 2 (AL.v r2 (AL.v (.pointer (some ⟨b3, 0, none⟩)) (AL.v r8 (AL.i r9 (AL.i kW (AL.v (.slice (some ⟨bv, 0, none⟩) l.length l.length) (AL.i (l.length : Int) (AL.i (i : Int) AL.n)))))))) h = aP xC n 3 (AL.v r2 (AL.v (.pointer (some ⟨b3, 0, none⟩)) (AL.v r8 (AL.i r9 (AL.i kW AL.n))))) h'
 | 0, i, h, cnt, K, g, hc, h6, hK, hK2, hne, hv, him => by
  refine ⟨h, g, fun k o _ ho => ho, by rw [List.drop_of_length_le (by omega)]; exact hc, by rw [List.drop_of_length_le (by omega)]; exact h6, by rw [List.drop_of_length_le (by omega)]; exact hK, ?_⟩
  have step : aP xC (0 + 1 + n) 2 (AL.v r2 (AL.v (.pointer (some ⟨b3, 0, none⟩)) (AL.v r8 (AL.i r9 (AL.i kW (AL.v (.slice (some ⟨bv, 0, none⟩) l.length l.length) (AL.i (l.length : Int) (AL.i (i : Int) AL.n)))))))) h = KG (aP xC n) r2 (.pointer (some ⟨b3, 0, none⟩)) r8 r9 kW (.slice (some ⟨bv, 0, none⟩) l.length l.length) (l.length : Int) (i : Int) h := by rw [show 0 + 1 + n = n + 1 by omega]; rfl
  rw [step]
  unfold KG
  rw [aN, bA, aI, if_neg (by simp; omega)]
 | m + 1, i, h, cnt, K, g, hc, h6, hK, hK2, hne, hv, him => by
  have hi : i < l.length := by omega
  have hx6 := hl6 _ (List.getElem_mem hi)
  have step : aP xC (m + 1 + 1 + n) 2 (AL.v r2 (AL.v (.pointer (some ⟨b3, 0, none⟩)) (AL.v r8 (AL.i r9 (AL.i kW (AL.v (.slice (some ⟨bv, 0, none⟩) l.length l.length) (AL.i (l.length : Int) (AL.i (i : Int) AL.n)))))))) h = KG (aP xC (m + 1 + n)) r2 (.pointer (some ⟨b3, 0, none⟩)) r8 r9 kW (.slice (some ⟨bv, 0, none⟩) l.length l.length) (l.length : Int) (i : Int) h := by rw [show m + 1 + 1 + n = (m + 1 + n) + 1 by omega]; rfl
  have hcx : cnt.getD l[i] 0 ≤ K := by
   rw [List.getD_eq_getElem?_getD]
   cases hx : cnt[l[i]]? with
   | none => simp
   | some y => simpa using hK y (List.mem_of_getElem? hx)
  have hget : (jI cnt)[0 + l[i] * 1]? = some (.int .i64 ((cnt.getD l[i] 0 : Nat) : Int)) := by
   unfold jI
   rw [Nat.zero_add, Nat.mul_one, List.getElem?_map, List.getD_eq_getElem?_getD, List.getElem?_eq_getElem (show l[i] < cnt.length by omega)]
   rfl
  have hlt := g.wf.2 _ _ hc
  have hro : h.ro ≤ b3 := by rw [g.ro]; have := w.1; omega
  have g1 : bE hb (h.upd b3 (.cells (jI (bump cnt l[i])) 136 none)) := bE.upd w g hb3 hlt _
  have ih := VX (r2 := r2) (r8 := r8) (r9 := r9) (kW := kW) w hb3 hl6 hl n m (i + 1) (h.upd b3 (.cells (jI (bump cnt l[i])) 136 none)) (bump cnt l[i]) (K + 1) g1 (by rw [dL, if_pos rfl]) (by rw [QW]; exact h6) (aUG hK) (by omega) hne (by rw [dL, if_neg hne]; exact hv) (by omega)
  obtain ⟨h', q1, q2, q3, q4, q5, q6⟩ := ih
  refine ⟨h', q1, fun k o hk ho => q2 k o hk (by rw [dL, if_neg hk]; exact ho), ?_, ?_, ?_, ?_⟩
  ·rw [List.drop_eq_getElem_cons hi]; exact q3
  ·rw [List.drop_eq_getElem_cons hi]; exact q4
  ·rw [List.drop_eq_getElem_cons hi, show K + (m + 1) = K + 1 + m by omega]; exact q5
  ·rw [step]
   unfold KG
   rw [aN, bA, aI, if_pos (by simp; omega), PX 1 bv 0 l.length l.length i hi, UO hv (v := .int .i64 (l[i] : Int)) (by rw [Nat.mul_one, Nat.zero_add, List.getElem?_map, List.getElem?_eq_getElem hi]; rfl), aK,
    show ∀ (ρ : Type) (kk : Value → Option ρ), GU 6 1 (.pointer (some ⟨b3, 0, none⟩)) (l[i] : Int) kk = kk (.pointer (some ⟨b3, 0 + l[i] * 1, none⟩)) from fun ρ kk => Go.bP.Y.QR 6 1 b3 0 l[i] hx6 kk,
    lG hc hget, aK, show Int.add ((cnt.getD l[i] 0 : Nat) : Int) (Int.ofNat 1) = ((cnt.getD l[i] 0 + 1 : Nat) : Int) from rfl, wrap64_in _ (by omega) (by omega),
    show ∀ (ρ : Type) (kk : Value → Option ρ), GU 6 1 (.pointer (some ⟨b3, 0, none⟩)) (l[i] : Int) kk = kk (.pointer (some ⟨b3, 0 + l[i] * 1, none⟩)) from fun ρ kk => Go.bP.Y.QR 6 1 b3 0 l[i] hx6 kk,
    qQ hc hro rfl (by unfold jI; rw [List.length_map]; omega), Nat.zero_add, Nat.mul_one, aQX, show Int.add (i : Int) (Int.ofNat 1) = ((i + 1 : Nat) : Int) from rfl, wrap64_in _ (by omega) (by omega)]
   exact q6
end Go.Proofs.YtgjdokjoejhepaaGreatDoor.K.L
