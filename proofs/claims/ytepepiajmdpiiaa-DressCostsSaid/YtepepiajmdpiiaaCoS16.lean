/- The arguments of the laws: a room, numbers. -/
import Derived.Test.YtepepiajmdpiiaaCoS15
import Derived.Test.YtepepiajmdpiiaaCoEngC
open Go Go.Eng
set_option maxRecDepth 100000
set_option linter.unusedVariables false
namespace Go.Proofs.Ytepepiajmdpiiaa.K.L
theorem pa25 : partsT Try.prog 25 = some [(0, 22), (1, 22), (2, 23), (3, 23)] := by kernel_rfl
theorem pa59 : partsT Try.prog 59 = some [(0, 9), (1, 22), (2, 3)] := by kernel_rfl
theorem ce25 : Try.prog.cellsOf 25 = 4 := by kernel_rfl
theorem ce59 : Try.prog.cellsOf 59 = 3 := by kernel_rfl
theorem ce22 : Try.prog.cellsOf 22 = 1 := by kernel_rfl
theorem ce23 : Try.prog.cellsOf 23 = 1 := by kernel_rfl
theorem ce3 : Try.prog.cellsOf 3 = 1 := by kernel_rfl
theorem ce9 : Try.prog.cellsOf 9 = 1 := by kernel_rfl
theorem ce26 : Try.prog.cellsOf 26 = 2 := by kernel_rfl
theorem el22 : elemT Try.prog 22 = some 3 := by kernel_rfl
theorem el23 : elemT Try.prog 23 = some 59 := by kernel_rfl
theorem ki3 : kindT Try.prog 3 = some .i64 := by kernel_rfl
theorem st9 : strT Try.prog 9 = true := by kernel_rfl
theorem ar26 : arrT Try.prog 26 = some (2, 3) := by kernel_rfl
theorem pa26 : (arrT Try.prog 26).isSome = true := by kernel_rfl
theorem pa25' : (partsT Try.prog 25).isSome = true := by kernel_rfl
theorem rows_ofP {α : Type} (row : α → List Value) (Q : α → Prop) : ∀ (rs : List (List Value)), (∀ r ∈ rs, ∃ g, r = row g ∧ Q g) → ∃ gs : List α, rs = gs.map row ∧ ∀ g ∈ gs, Q g
  | [], _ => ⟨[], rfl, fun g hg => by cases hg⟩
  | r :: rs, h => by
    obtain ⟨g, rfl, hq⟩ := h r (.head _)
    obtain ⟨gs, rfl, hs⟩ := rows_ofP row Q rs (fun r hr => h r (.tail _ hr))
    exact ⟨g :: gs, rfl, fun x hx => by
      rcases List.mem_cons.1 hx with rfl | hx
      · exact hq
      · exact hs x hx⟩
section
variable {h : Hp} {n : Nat}
theorem in_of {r : List Value} (a : Arg Try.prog h (n + 1) 3 r) : ∃ i : Int, r = inRow i := by
  obtain ⟨i, e, _⟩ := a.int ki3
  exact ⟨i, e⟩
theorem lk_of {r : List Value} (a : Arg Try.prog h (n + 3) 59 r) : ∃ g : Lk, r = g.row ∧ LkA h g := by
  obtain ⟨hl, hp⟩ := a.parts pa59
  rw [ce59] at hl
  match r, hl with
  | [c0, c1, c2], _ =>
    have p0 := hp (0, 9) (by simp)
    have p1 := hp (1, 22) (by simp)
    have p2 := hp (2, 3) (by simp)
    simp only [ce9, ce22, ce3] at p0 p1 p2
    obtain ⟨s0, e0, _⟩ := p0.str st9
    obtain ⟨v1, rs1, e1, s1, h1⟩ := p1.sl el22 ce3
    obtain ⟨i2, e2, _⟩ := p2.int ki3
    obtain ⟨l, rfl⟩ := rows_of inRow rs1 (fun r hr => in_of (h1 r hr))
    simp at e0 e1 e2
    exact ⟨⟨s0, v1, l, i2⟩, by rw [e0, e1, e2]; rfl, SlA.of s1⟩
theorem room_of {r : List Value} (a : Arg Try.prog h (n + 5) 25 r) : ∃ s : Rm, RmA h s r := by
  obtain ⟨hl, hp⟩ := a.parts pa25
  rw [ce25] at hl
  match r, hl with
  | [c0, c1, c2, c3], _ =>
    have p0 := hp (0, 22) (by simp)
    have p1 := hp (1, 22) (by simp)
    have p2 := hp (2, 23) (by simp)
    have p3 := hp (3, 23) (by simp)
    simp only [ce22, ce23] at p0 p1 p2 p3
    obtain ⟨v0, rs0, e0, s0, h0⟩ := p0.sl el22 ce3
    obtain ⟨v1, rs1, e1, s1, h1⟩ := p1.sl el22 ce3
    obtain ⟨v2, rs2, e2, s2, h2⟩ := p2.sl el23 ce59
    obtain ⟨v3, rs3, e3, s3, h3⟩ := p3.sl el23 ce59
    obtain ⟨l0, rfl⟩ := rows_of inRow rs0 (fun r hr => in_of (h0 r hr))
    obtain ⟨l1, rfl⟩ := rows_of inRow rs1 (fun r hr => in_of (h1 r hr))
    obtain ⟨l2, rfl, q2⟩ := rows_ofP Lk.row (fun g => LkA h g) rs2 (fun r hr => lk_of (h2 r hr))
    obtain ⟨l3, rfl, q3⟩ := rows_ofP Lk.row (fun g => LkA h g) rs3 (fun r hr => lk_of (h3 r hr))
    simp at e0 e1 e2 e3
    exact ⟨⟨l0, l1, l2, l3⟩, v0, v1, v2, v3, by rw [e0, e1, e2, e3]; rfl, SlA.of s0, SlA.of s1, SlA.of s2, SlA.of s3, q2, q3⟩
theorem two_of {r : List Value} (a : Arg Try.prog h (n + 2) 26 r) : ∃ x y : Int, r = [.int .i64 x, .int .i64 y] := by
  obtain ⟨l3, p3⟩ := a.arr (n := n + 1) ar26
  rw [ce3] at p3
  rw [ce26] at l3
  match r, l3 with
  | [x, y], _ =>
    obtain ⟨ix, ex⟩ := in_of (p3 0 (by omega))
    obtain ⟨iy, ey⟩ := in_of (p3 1 (by omega))
    simp [inRow] at ex ey
    exact ⟨ix, iy, by rw [ex, ey]⟩
end
end Go.Proofs.Ytepepiajmdpiiaa.K.L
