/- Contracts of told functions: a gown's error. -/
import Derived.Test.YtaegcofpbihmhaaS2
open Go Go.Eng
set_option maxRecDepth 100000
namespace Go.Proofs.Ytaegcofpbihmhaa.K.L
theorem wfShut {h : Hp} (w : Wf h) : Wf (shutH h) := ⟨Nat.le_refl _, w.2⟩
theorem atAdd {h : Hp} (w : Wf h) {p : Value} {r : List Value} (a : At h p r) (o : AObj) : At (h.add o) p r := a.sub (Grew.add w o).sub
theorem rowCells (l : List Value) : Array.toList (Value.cells (.agg (Array.mk l))) = l := rfl
theorem pawned68_at {h : Hp} (w : Wf h) (g : Gw) : ∃ h', F68 [.agg (Array.mk g.row)] h = some (.bool (statedB g), h') := by
  have start : F68 [.agg (Array.mk g.row)] h = P68x0 (rec' T68 999999) (.agg (Array.mk g.row)) h := rfl
  rw [start]
  unfold P68x0
  try unfold ki
  rw [rowCells, allocK_add]
  have w1 : Wf (h.add (.cells g.row 54 none)) := w.add _
  have a1 : At (h.add (.cells g.row 54 none)) (.pointer (some ⟨h.next, 0, none⟩)) g.row := At.new
  generalize h.add (.cells g.row 54 none) = h1 at w1 a1 ⊢
  rw [a1.fld 2 (x := .bool g.pawn) rfl, boolK_bool, boolN_eq, ifB_if]
  unfold statedB
  cases hp : g.pawn with
  | false =>
    rw [if_pos (by rfl), a1.fld 3 (x := .int .i64 g.loan) rfl, intK_int, a1.fld 4 (x := .int .i64 g.rate) rfl, intK_int, a1.fld 5 (x := .int .i64 g.fee) rfl, intK_int, a1.fld 6 (x := .int .i64 g.ago) rfl, intK_int, a1.fld 7 (x := .int .i64 g.last) rfl, intK_int,
      five34, pairK_some', show (Int.ofNat 0) = (0 : Int) from rfl, within5, optK_some', pairK_some', boolK_bool]
    exact ⟨_, rfl⟩
  | true =>
    have a2 := atAdd w1 a1 (.cells [.int .i64 g.loan] 3 none)
    have w2 := w1.add (.cells [.int .i64 g.loan] 3 none)
    rw [if_neg (by simp), a1.fld 3 (x := .int .i64 g.loan) rfl, intK_int, one34, pairK_some', show (Int.ofNat 0) = (0 : Int) from rfl, show (Int.ofNat 5000) = (5000 : Int) from rfl, within1, optK_some', pairK_some', boolK_bool, ifB_if]
    generalize h1.add (.cells [.int .i64 g.loan] 3 none) = h2 at a2 w2 ⊢
    cases h5 : inB 0 5000 g.loan with
    | false => exact ⟨_, by rw [if_neg (by simp)]; simp; rfl⟩
    | true =>
    have a3 := atAdd w2 a2 (.cells [.int .i64 g.rate] 3 none)
    have w3 := w2.add (.cells [.int .i64 g.rate] 3 none)
    rw [if_pos (by rfl), a2.fld 4 (x := .int .i64 g.rate) rfl, intK_int, one34, pairK_some', show (Int.ofNat 500) = (500 : Int) from rfl, within1, optK_some', pairK_some', boolK_bool, ifB_if]
    generalize h2.add (.cells [.int .i64 g.rate] 3 none) = h3 at a3 w3 ⊢
    cases h6 : inB 0 500 g.rate with
    | false => exact ⟨_, by rw [if_neg (by simp)]; simp; rfl⟩
    | true =>
    have a4 := atAdd w3 a3 (.cells [.int .i64 g.fee] 3 none)
    have w4 := w3.add (.cells [.int .i64 g.fee] 3 none)
    rw [if_pos (by rfl), a3.fld 5 (x := .int .i64 g.fee) rfl, intK_int, one34, pairK_some', show (Int.ofNat 100) = (100 : Int) from rfl, within1, optK_some', pairK_some', boolK_bool, ifB_if]
    generalize h3.add (.cells [.int .i64 g.fee] 3 none) = h4 at a4 w4 ⊢
    cases h7 : inB 0 100 g.fee with
    | false => exact ⟨_, by rw [if_neg (by simp)]; simp; rfl⟩
    | true =>
    rw [if_pos (by rfl), a4.fld 6 (x := .int .i64 g.ago) rfl, intK_int, a4.fld 7 (x := .int .i64 g.last) rfl, intK_int, two34, pairK_some', show (Int.ofNat 364) = (364 : Int) from rfl, within2, optK_some', pairK_some', boolK_bool]
    exact ⟨_, by simp; rfl⟩
end Go.Proofs.Ytaegcofpbihmhaa.K.L
