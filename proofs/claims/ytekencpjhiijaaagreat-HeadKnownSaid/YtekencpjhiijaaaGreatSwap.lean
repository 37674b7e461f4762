/- The heads of two bodies exchanged: one statement whose order Go leaves open, by the walk of the code. -/
import Derived.Test.YtekencpjhiijaaaGreatProg
import Derived.Test.YtekencpjhiijaaaGreatEngC
import Derived.WalkKit
import Derived.ProofKit
import Derived.Tactics
import Derived.Tactics2
import Derived.RegionTactic
import Derived.Laws.Pointers
import Derived.Below
import Derived.Laws.Rows
open Go Go.RowKit
namespace Go.Proofs.YtekencpjhiijaaaGreat.K
theorem third (w : World) (a b c : Obj) : (((w.alloc a).alloc b).alloc c).drew.heap[w.heap.size + 1 + 1]? = some c := by
  show (((w.heap.push a).push b).push c)[w.heap.size + 1 + 1]? = some c
  have : w.heap.size + 1 + 1 = ((w.heap.push a).push b).size := by simp
  rw [this, Array.getElem?_push_size]
set_option maxRecDepth 100000 in
theorem ex00 (x0 x1 x2 x3 x4 : Int) (w : World) :
    Calls Tryz.prog 54 #[.agg #[.int .i64 x0, .int .i64 x1, .int .i64 x2, .int .i64 x3, .int .i64 x4], .agg #[.int .i64 0, .int .i64 0]] w fun e w' => e = .returned (.agg #[.int .i64 x0, .int .i64 x1, .int .i64 x2, .int .i64 x3, .int .i64 x4]) ∧ Below w.heap.size w w' := by
  go_enter Tryz.func54, Tryz.ntmps54
  go_wp2
  go_region
  all_goals go_wp2
  all_goals exact bodyPost_ret (results_cell_row rfl _ _ (w.heap.size + 1 + 1) 62 _ (0, 0) _ rfl (third w _ _ _) Tryz.underlying62 rfl (by kernel_rfl)) rfl ⟨rfl, ((((Below.refl _ w).alloc (Nat.le_refl _) _).alloc (by simp) _).alloc (by simp; omega) _).drew⟩
set_option maxRecDepth 100000 in
theorem ex01 (x0 x1 x2 x3 x4 : Int) (w : World) :
    Calls Tryz.prog 54 #[.agg #[.int .i64 x0, .int .i64 x1, .int .i64 x2, .int .i64 x3, .int .i64 x4], .agg #[.int .i64 0, .int .i64 1]] w fun e w' => e = .returned (.agg #[.int .i64 x1, .int .i64 x0, .int .i64 x2, .int .i64 x3, .int .i64 x4]) ∧ Below w.heap.size w w' := by
  go_enter Tryz.func54, Tryz.ntmps54
  go_wp2
  go_region
  all_goals go_wp2
  all_goals exact bodyPost_ret (results_cell_row rfl _ _ (w.heap.size + 1 + 1) 62 _ (0, 0) _ rfl (third w _ _ _) Tryz.underlying62 rfl (by kernel_rfl)) rfl ⟨rfl, ((((Below.refl _ w).alloc (Nat.le_refl _) _).alloc (by simp) _).alloc (by simp; omega) _).drew⟩
set_option maxRecDepth 100000 in
theorem ex02 (x0 x1 x2 x3 x4 : Int) (w : World) :
    Calls Tryz.prog 54 #[.agg #[.int .i64 x0, .int .i64 x1, .int .i64 x2, .int .i64 x3, .int .i64 x4], .agg #[.int .i64 0, .int .i64 2]] w fun e w' => e = .returned (.agg #[.int .i64 x2, .int .i64 x1, .int .i64 x0, .int .i64 x3, .int .i64 x4]) ∧ Below w.heap.size w w' := by
  go_enter Tryz.func54, Tryz.ntmps54
  go_wp2
  go_region
  all_goals go_wp2
  all_goals exact bodyPost_ret (results_cell_row rfl _ _ (w.heap.size + 1 + 1) 62 _ (0, 0) _ rfl (third w _ _ _) Tryz.underlying62 rfl (by kernel_rfl)) rfl ⟨rfl, ((((Below.refl _ w).alloc (Nat.le_refl _) _).alloc (by simp) _).alloc (by simp; omega) _).drew⟩
set_option maxRecDepth 100000 in
theorem ex03 (x0 x1 x2 x3 x4 : Int) (w : World) :
    Calls Tryz.prog 54 #[.agg #[.int .i64 x0, .int .i64 x1, .int .i64 x2, .int .i64 x3, .int .i64 x4], .agg #[.int .i64 0, .int .i64 3]] w fun e w' => e = .returned (.agg #[.int .i64 x3, .int .i64 x1, .int .i64 x2, .int .i64 x0, .int .i64 x4]) ∧ Below w.heap.size w w' := by
  go_enter Tryz.func54, Tryz.ntmps54
  go_wp2
  go_region
  all_goals go_wp2
  all_goals exact bodyPost_ret (results_cell_row rfl _ _ (w.heap.size + 1 + 1) 62 _ (0, 0) _ rfl (third w _ _ _) Tryz.underlying62 rfl (by kernel_rfl)) rfl ⟨rfl, ((((Below.refl _ w).alloc (Nat.le_refl _) _).alloc (by simp) _).alloc (by simp; omega) _).drew⟩
set_option maxRecDepth 100000 in
theorem ex04 (x0 x1 x2 x3 x4 : Int) (w : World) :
    Calls Tryz.prog 54 #[.agg #[.int .i64 x0, .int .i64 x1, .int .i64 x2, .int .i64 x3, .int .i64 x4], .agg #[.int .i64 0, .int .i64 4]] w fun e w' => e = .returned (.agg #[.int .i64 x4, .int .i64 x1, .int .i64 x2, .int .i64 x3, .int .i64 x0]) ∧ Below w.heap.size w w' := by
  go_enter Tryz.func54, Tryz.ntmps54
  go_wp2
  go_region
  all_goals go_wp2
  all_goals exact bodyPost_ret (results_cell_row rfl _ _ (w.heap.size + 1 + 1) 62 _ (0, 0) _ rfl (third w _ _ _) Tryz.underlying62 rfl (by kernel_rfl)) rfl ⟨rfl, ((((Below.refl _ w).alloc (Nat.le_refl _) _).alloc (by simp) _).alloc (by simp; omega) _).drew⟩
set_option maxRecDepth 100000 in
theorem ex12 (x0 x1 x2 x3 x4 : Int) (w : World) :
    Calls Tryz.prog 54 #[.agg #[.int .i64 x0, .int .i64 x1, .int .i64 x2, .int .i64 x3, .int .i64 x4], .agg #[.int .i64 1, .int .i64 2]] w fun e w' => e = .returned (.agg #[.int .i64 x0, .int .i64 x2, .int .i64 x1, .int .i64 x3, .int .i64 x4]) ∧ Below w.heap.size w w' := by
  go_enter Tryz.func54, Tryz.ntmps54
  go_wp2
  go_region
  all_goals go_wp2
  all_goals exact bodyPost_ret (results_cell_row rfl _ _ (w.heap.size + 1 + 1) 62 _ (0, 0) _ rfl (third w _ _ _) Tryz.underlying62 rfl (by kernel_rfl)) rfl ⟨rfl, ((((Below.refl _ w).alloc (Nat.le_refl _) _).alloc (by simp) _).alloc (by simp; omega) _).drew⟩
set_option maxRecDepth 100000 in
theorem ex13 (x0 x1 x2 x3 x4 : Int) (w : World) :
    Calls Tryz.prog 54 #[.agg #[.int .i64 x0, .int .i64 x1, .int .i64 x2, .int .i64 x3, .int .i64 x4], .agg #[.int .i64 1, .int .i64 3]] w fun e w' => e = .returned (.agg #[.int .i64 x0, .int .i64 x3, .int .i64 x2, .int .i64 x1, .int .i64 x4]) ∧ Below w.heap.size w w' := by
  go_enter Tryz.func54, Tryz.ntmps54
  go_wp2
  go_region
  all_goals go_wp2
  all_goals exact bodyPost_ret (results_cell_row rfl _ _ (w.heap.size + 1 + 1) 62 _ (0, 0) _ rfl (third w _ _ _) Tryz.underlying62 rfl (by kernel_rfl)) rfl ⟨rfl, ((((Below.refl _ w).alloc (Nat.le_refl _) _).alloc (by simp) _).alloc (by simp; omega) _).drew⟩
set_option maxRecDepth 100000 in
theorem ex14 (x0 x1 x2 x3 x4 : Int) (w : World) :
    Calls Tryz.prog 54 #[.agg #[.int .i64 x0, .int .i64 x1, .int .i64 x2, .int .i64 x3, .int .i64 x4], .agg #[.int .i64 1, .int .i64 4]] w fun e w' => e = .returned (.agg #[.int .i64 x0, .int .i64 x4, .int .i64 x2, .int .i64 x3, .int .i64 x1]) ∧ Below w.heap.size w w' := by
  go_enter Tryz.func54, Tryz.ntmps54
  go_wp2
  go_region
  all_goals go_wp2
  all_goals exact bodyPost_ret (results_cell_row rfl _ _ (w.heap.size + 1 + 1) 62 _ (0, 0) _ rfl (third w _ _ _) Tryz.underlying62 rfl (by kernel_rfl)) rfl ⟨rfl, ((((Below.refl _ w).alloc (Nat.le_refl _) _).alloc (by simp) _).alloc (by simp; omega) _).drew⟩
set_option maxRecDepth 100000 in
theorem ex23 (x0 x1 x2 x3 x4 : Int) (w : World) :
    Calls Tryz.prog 54 #[.agg #[.int .i64 x0, .int .i64 x1, .int .i64 x2, .int .i64 x3, .int .i64 x4], .agg #[.int .i64 2, .int .i64 3]] w fun e w' => e = .returned (.agg #[.int .i64 x0, .int .i64 x1, .int .i64 x3, .int .i64 x2, .int .i64 x4]) ∧ Below w.heap.size w w' := by
  go_enter Tryz.func54, Tryz.ntmps54
  go_wp2
  go_region
  all_goals go_wp2
  all_goals exact bodyPost_ret (results_cell_row rfl _ _ (w.heap.size + 1 + 1) 62 _ (0, 0) _ rfl (third w _ _ _) Tryz.underlying62 rfl (by kernel_rfl)) rfl ⟨rfl, ((((Below.refl _ w).alloc (Nat.le_refl _) _).alloc (by simp) _).alloc (by simp; omega) _).drew⟩
set_option maxRecDepth 100000 in
theorem ex24 (x0 x1 x2 x3 x4 : Int) (w : World) :
    Calls Tryz.prog 54 #[.agg #[.int .i64 x0, .int .i64 x1, .int .i64 x2, .int .i64 x3, .int .i64 x4], .agg #[.int .i64 2, .int .i64 4]] w fun e w' => e = .returned (.agg #[.int .i64 x0, .int .i64 x1, .int .i64 x4, .int .i64 x3, .int .i64 x2]) ∧ Below w.heap.size w w' := by
  go_enter Tryz.func54, Tryz.ntmps54
  go_wp2
  go_region
  all_goals go_wp2
  all_goals exact bodyPost_ret (results_cell_row rfl _ _ (w.heap.size + 1 + 1) 62 _ (0, 0) _ rfl (third w _ _ _) Tryz.underlying62 rfl (by kernel_rfl)) rfl ⟨rfl, ((((Below.refl _ w).alloc (Nat.le_refl _) _).alloc (by simp) _).alloc (by simp; omega) _).drew⟩
set_option maxRecDepth 100000 in
theorem ex34 (x0 x1 x2 x3 x4 : Int) (w : World) :
    Calls Tryz.prog 54 #[.agg #[.int .i64 x0, .int .i64 x1, .int .i64 x2, .int .i64 x3, .int .i64 x4], .agg #[.int .i64 3, .int .i64 4]] w fun e w' => e = .returned (.agg #[.int .i64 x0, .int .i64 x1, .int .i64 x2, .int .i64 x4, .int .i64 x3]) ∧ Below w.heap.size w w' := by
  go_enter Tryz.func54, Tryz.ntmps54
  go_wp2
  go_region
  all_goals go_wp2
  all_goals exact bodyPost_ret (results_cell_row rfl _ _ (w.heap.size + 1 + 1) 62 _ (0, 0) _ rfl (third w _ _ _) Tryz.underlying62 rfl (by kernel_rfl)) rfl ⟨rfl, ((((Below.refl _ w).alloc (Nat.le_refl _) _).alloc (by simp) _).alloc (by simp; omega) _).drew⟩
end Go.Proofs.YtekencpjhiijaaaGreat.K
namespace Go.Proofs.YtekencpjhiijaaaGreat.K
open Go.Eng
def exR (x0 x1 x2 x3 x4 : Int) : Nat → Nat → Option Value
  | 0, 0 => some (.agg #[.int .i64 x0, .int .i64 x1, .int .i64 x2, .int .i64 x3, .int .i64 x4])
  | 0, 1 => some (.agg #[.int .i64 x1, .int .i64 x0, .int .i64 x2, .int .i64 x3, .int .i64 x4])
  | 0, 2 => some (.agg #[.int .i64 x2, .int .i64 x1, .int .i64 x0, .int .i64 x3, .int .i64 x4])
  | 0, 3 => some (.agg #[.int .i64 x3, .int .i64 x1, .int .i64 x2, .int .i64 x0, .int .i64 x4])
  | 0, 4 => some (.agg #[.int .i64 x4, .int .i64 x1, .int .i64 x2, .int .i64 x3, .int .i64 x0])
  | 1, 2 => some (.agg #[.int .i64 x0, .int .i64 x2, .int .i64 x1, .int .i64 x3, .int .i64 x4])
  | 1, 3 => some (.agg #[.int .i64 x0, .int .i64 x3, .int .i64 x2, .int .i64 x1, .int .i64 x4])
  | 1, 4 => some (.agg #[.int .i64 x0, .int .i64 x4, .int .i64 x2, .int .i64 x3, .int .i64 x1])
  | 2, 3 => some (.agg #[.int .i64 x0, .int .i64 x1, .int .i64 x3, .int .i64 x2, .int .i64 x4])
  | 2, 4 => some (.agg #[.int .i64 x0, .int .i64 x1, .int .i64 x4, .int .i64 x3, .int .i64 x2])
  | 3, 4 => some (.agg #[.int .i64 x0, .int .i64 x1, .int .i64 x2, .int .i64 x4, .int .i64 x3])
  | _, _ => none
def exL : List Value → List Value → Option Value
  | [.int .i64 x0, .int .i64 x1, .int .i64 x2, .int .i64 x3, .int .i64 x4], [.int .i64 (.ofNat a), .int .i64 (.ofNat b)] => exR x0 x1 x2 x3 x4 a b
  | _, _ => none
def exF : List Value → Hp → Option Value := fun args _ => match args with
  | [.agg h, .agg p] => exL h.toList p.toList
  | _ => none
theorem exF_ok (hE : Eng.Enters Tryz.prog 54) : PSound Tryz.prog 54 exF :=
  psound_calls hE fun args h v e => by
    unfold exF at e
    split at e
    · rename_i ha pa
      unfold exL at e
      split at e
      · rename_i x0 x1 x2 x3 x4 a b hh hp
        have hh := arr_eq hh
        have hp := arr_eq hp
        subst hh
        subst hp
        unfold exR at e
        split at e
        · cases e
          refine ⟨rfl, fun base ρ h2 w args' H hs hl => ?_⟩
          have := arr_eq (lrel_plain (by intro x hx; simp at hx; rcases hx with rfl | rfl <;> rfl) hl)
          subst this
          exact (ex00 x0 x1 x2 x3 x4 w).mono fun e w' ⟨h1, h2⟩ => ⟨h1, same_of_below h2⟩
        · cases e
          refine ⟨rfl, fun base ρ h2 w args' H hs hl => ?_⟩
          have := arr_eq (lrel_plain (by intro x hx; simp at hx; rcases hx with rfl | rfl <;> rfl) hl)
          subst this
          exact (ex01 x0 x1 x2 x3 x4 w).mono fun e w' ⟨h1, h2⟩ => ⟨h1, same_of_below h2⟩
        · cases e
          refine ⟨rfl, fun base ρ h2 w args' H hs hl => ?_⟩
          have := arr_eq (lrel_plain (by intro x hx; simp at hx; rcases hx with rfl | rfl <;> rfl) hl)
          subst this
          exact (ex02 x0 x1 x2 x3 x4 w).mono fun e w' ⟨h1, h2⟩ => ⟨h1, same_of_below h2⟩
        · cases e
          refine ⟨rfl, fun base ρ h2 w args' H hs hl => ?_⟩
          have := arr_eq (lrel_plain (by intro x hx; simp at hx; rcases hx with rfl | rfl <;> rfl) hl)
          subst this
          exact (ex03 x0 x1 x2 x3 x4 w).mono fun e w' ⟨h1, h2⟩ => ⟨h1, same_of_below h2⟩
        · cases e
          refine ⟨rfl, fun base ρ h2 w args' H hs hl => ?_⟩
          have := arr_eq (lrel_plain (by intro x hx; simp at hx; rcases hx with rfl | rfl <;> rfl) hl)
          subst this
          exact (ex04 x0 x1 x2 x3 x4 w).mono fun e w' ⟨h1, h2⟩ => ⟨h1, same_of_below h2⟩
        · cases e
          refine ⟨rfl, fun base ρ h2 w args' H hs hl => ?_⟩
          have := arr_eq (lrel_plain (by intro x hx; simp at hx; rcases hx with rfl | rfl <;> rfl) hl)
          subst this
          exact (ex12 x0 x1 x2 x3 x4 w).mono fun e w' ⟨h1, h2⟩ => ⟨h1, same_of_below h2⟩
        · cases e
          refine ⟨rfl, fun base ρ h2 w args' H hs hl => ?_⟩
          have := arr_eq (lrel_plain (by intro x hx; simp at hx; rcases hx with rfl | rfl <;> rfl) hl)
          subst this
          exact (ex13 x0 x1 x2 x3 x4 w).mono fun e w' ⟨h1, h2⟩ => ⟨h1, same_of_below h2⟩
        · cases e
          refine ⟨rfl, fun base ρ h2 w args' H hs hl => ?_⟩
          have := arr_eq (lrel_plain (by intro x hx; simp at hx; rcases hx with rfl | rfl <;> rfl) hl)
          subst this
          exact (ex14 x0 x1 x2 x3 x4 w).mono fun e w' ⟨h1, h2⟩ => ⟨h1, same_of_below h2⟩
        · cases e
          refine ⟨rfl, fun base ρ h2 w args' H hs hl => ?_⟩
          have := arr_eq (lrel_plain (by intro x hx; simp at hx; rcases hx with rfl | rfl <;> rfl) hl)
          subst this
          exact (ex23 x0 x1 x2 x3 x4 w).mono fun e w' ⟨h1, h2⟩ => ⟨h1, same_of_below h2⟩
        · cases e
          refine ⟨rfl, fun base ρ h2 w args' H hs hl => ?_⟩
          have := arr_eq (lrel_plain (by intro x hx; simp at hx; rcases hx with rfl | rfl <;> rfl) hl)
          subst this
          exact (ex24 x0 x1 x2 x3 x4 w).mono fun e w' ⟨h1, h2⟩ => ⟨h1, same_of_below h2⟩
        · cases e
          refine ⟨rfl, fun base ρ h2 w args' H hs hl => ?_⟩
          have := arr_eq (lrel_plain (by intro x hx; simp at hx; rcases hx with rfl | rfl <;> rfl) hl)
          subst this
          exact (ex34 x0 x1 x2 x3 x4 w).mono fun e w' ⟨h1, h2⟩ => ⟨h1, same_of_below h2⟩
        · cases e
      · cases e
    · cases e
end Go.Proofs.YtekencpjhiijaaaGreat.K
