/- Contracts of told functions: costs, Cost. -/
import Derived.Test.YtepepiajmdpiiaaHaS10
open Go Go.Eng
set_option maxRecDepth 100000
set_option linter.unusedVariables false
namespace Go.Proofs.Ytepepiajmdpiiaa.K.L
def qD (c : Nat × Nat) : List Value := [.int .i64 (c.1 : Int), .int .i64 (c.2 : Int)]
theorem aIU (c : Nat × Nat) : Value.agg (Array.mk (qD c)) = oV c.1 c.2 := rfl
def kAt (s : Rm) (c : Nat × Nat) : List Int := jH 0 ((s.cK[c.1]?.map Lk.lk).getD []) ((s.dB[c.2]?.map Lk.lk).getD [])
theorem aAE {s : Rm} {c : Nat × Nat} {f q : Lk} (hf : s.cK[c.1]? = some f) (hq : s.dB[c.2]? = some q) : kAt s c = jH 0 f.lk q.lk := by
 unfold kAt; rw [hf, hq]; rfl
theorem aS2 {s : Rm} (F : qK s) {c : Nat × Nat} (h1 : c.1 < s.cK.length) (h2 : c.2 < s.dB.length) : (kAt s c).length ≤ 4 ∧ ∀ x ∈ kAt s c, ∃ k : Nat, x = (k : Int) ∧ k < s.costs.length := by
 rw [aAE (List.getElem?_eq_getElem h1) (List.getElem?_eq_getElem h2)]
 have l2 := (F.ps _ (List.getElem_mem h2)).1
 have nc := F.nc
 have := ND (s.cK[c.1]).lk (s.dB[c.2]).lk 0
 refine ⟨by omega, fun x hx => ?_⟩
 obtain ⟨k, e, _, h⟩ := H9 _ _ _ x hx
 exact ⟨k, e, by omega⟩
theorem aXH (c : Nat × Nat) (k : List Value → Option Value) : (xJ (qD c) 0 fun d5 => vJ d5 2 k) = k (qD c) := rfl
def InP (s : Rm) (l : List (Nat × Nat)) : Prop := l.length ≤ 10 ∧ ∀ c ∈ l, c.1 < s.cK.length ∧ c.2 < s.dB.length
theorem bCG (h : Hp) (a b : Int) : bO env h 79 1 (List.toArray [(0, .agg (Array.mk [.int .i64 a, .int .i64 b]))]) = some (.slice (some ⟨h.next, 0, none⟩) 1 1, h.add (.cells [.int .i64 a, .int .i64 b] 76 none)) := by kernel_rfl
end Go.Proofs.Ytepepiajmdpiiaa.K.L
