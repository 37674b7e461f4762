/- The arguments of the laws of room: houses. -/
import Derived.Test.YtekocllllbdbgaaFtQ14
import Derived.Test.YtekocllllbdbgaaFtEngC
open Go Go.Eng
set_option maxRecDepth 100000
set_option linter.unusedVariables false
namespace Go.Proofs.Ytekocllllbdbgaa.K.L
theorem pa28 : partsT Try.prog 28 = some [(0, 23), (2, 3), (3, 24), (4, 25), (5, 26), (6, 24)] := by kernel_rfl
theorem pa23 : partsT Try.prog 23 = some [(0, 3), (1, 3)] := by kernel_rfl
theorem pa80 : partsT Try.prog 80 = some [(0, 9), (1, 4), (2, 78), (3, 3)] := by kernel_rfl
theorem pa56 : partsT Try.prog 56 = some [(0, 9), (1, 3), (2, 3), (3, 3), (4, 3), (5, 3)] := by kernel_rfl
theorem ce28 : Try.prog.cellsOf 28 = 7 := by kernel_rfl
theorem ce23 : Try.prog.cellsOf 23 = 2 := by kernel_rfl
theorem ce80 : Try.prog.cellsOf 80 = 4 := by kernel_rfl
theorem ce56 : Try.prog.cellsOf 56 = 6 := by kernel_rfl
theorem ce3 : Try.prog.cellsOf 3 = 1 := by kernel_rfl
theorem ce4 : Try.prog.cellsOf 4 = 1 := by kernel_rfl
theorem ce9 : Try.prog.cellsOf 9 = 1 := by kernel_rfl
theorem ce24 : Try.prog.cellsOf 24 = 1 := by kernel_rfl
theorem ce25 : Try.prog.cellsOf 25 = 1 := by kernel_rfl
theorem ce26 : Try.prog.cellsOf 26 = 1 := by kernel_rfl
theorem ce78 : Try.prog.cellsOf 78 = 1 := by kernel_rfl
theorem el24 : elemT Try.prog 24 = some 3 := by kernel_rfl
theorem el25 : elemT Try.prog 25 = some 80 := by kernel_rfl
theorem el26 : elemT Try.prog 26 = some 56 := by kernel_rfl
theorem el78 : elemT Try.prog 78 = some 23 := by kernel_rfl
theorem ki3 : kindT Try.prog 3 = some .i64 := by kernel_rfl
theorem st9 : strT Try.prog 9 = true := by kernel_rfl
theorem bo4 : boolT Try.prog 4 = true := by kernel_rfl
theorem rows_ofP {α : Type} (row : α → List Value) (Q : α → Prop) : ∀ (rs : List (List Value)), (∀ r ∈ rs, ∃ g, r = row g ∧ Q g) → ∃ gs : List α, rs = gs.map row ∧ ∀ g ∈ gs, Q g
  | [], _ => ⟨[], rfl, fun g hg => by cases hg⟩
  | r :: rs, h => by
    obtain ⟨g, rfl, hq⟩ := h r (.head _)
    obtain ⟨gs, rfl, hs⟩ := rows_ofP row Q rs (fun r hr => h r (.tail _ hr))
    exact ⟨g :: gs, rfl, fun x hx => by
      rcases List.mem_cons.1 hx with rfl | hx
      · exact hq
      · exact hs x hx⟩
section
variable {h : Hp} {n : Nat}
theorem sp_of {r : List Value} (a : Arg Try.prog h (n + 2) 23 r) : ∃ g : Sp, r = g.row := by
  obtain ⟨hl, hp⟩ := a.parts pa23
  rw [ce23] at hl
  match r, hl with
  | [c0, c1], _ =>
    have p0 := hp (0, 3) (by simp)
    have p1 := hp (1, 3) (by simp)
    simp only [ce3] at p0 p1
    obtain ⟨i0, e0, _⟩ := p0.int ki3
    obtain ⟨i1, e1, _⟩ := p1.int ki3
    simp at e0 e1
    exact ⟨⟨i0, i1⟩, by rw [e0, e1]; rfl⟩
theorem int_of {r : List Value} (a : Arg Try.prog h (n + 1) 3 r) : ∃ i : Int, r = inRow i := by
  obtain ⟨i, e, _⟩ := a.int ki3
  exact ⟨i, e⟩
theorem fi_of {r : List Value} (a : Arg Try.prog h (n + 2) 56 r) : ∃ g : Fi, r = g.row := by
  obtain ⟨hl, hp⟩ := a.parts pa56
  rw [ce56] at hl
  match r, hl with
  | [c0, c1, c2, c3, c4, c5], _ =>
    have p0 := hp (0, 9) (by simp)
    have p1 := hp (1, 3) (by simp)
    have p2 := hp (2, 3) (by simp)
    have p3 := hp (3, 3) (by simp)
    have p4 := hp (4, 3) (by simp)
    have p5 := hp (5, 3) (by simp)
    simp only [ce9, ce3] at p0 p1 p2 p3 p4 p5
    obtain ⟨s0, e0, _⟩ := p0.str st9
    obtain ⟨i1, e1, _⟩ := p1.int ki3
    obtain ⟨i2, e2, _⟩ := p2.int ki3
    obtain ⟨i3, e3, _⟩ := p3.int ki3
    obtain ⟨i4, e4, _⟩ := p4.int ki3
    obtain ⟨i5, e5, _⟩ := p5.int ki3
    simp at e0 e1 e2 e3 e4 e5
    exact ⟨⟨s0, i1, i2, i3, i4, i5⟩, by rw [e0, e1, e2, e3, e4, e5]; rfl⟩
theorem pl_of {r : List Value} (a : Arg Try.prog h (n + 4) 80 r) : ∃ g : Pl, r = g.row ∧ SlA h 2 g.vw (g.ws.map Sp.row) := by
  obtain ⟨hl, hp⟩ := a.parts pa80
  rw [ce80] at hl
  match r, hl with
  | [c0, c1, c2, c3], _ =>
    have p0 := hp (0, 9) (by simp)
    have p1 := hp (1, 4) (by simp)
    have p2 := hp (2, 78) (by simp)
    have p3 := hp (3, 3) (by simp)
    simp only [ce9, ce3, ce4, ce78] at p0 p1 p2 p3
    obtain ⟨s0, e0, _⟩ := p0.str st9
    obtain ⟨b1, e1⟩ := p1.bool bo4
    obtain ⟨v2, rs2, e2, s2, h2⟩ := p2.sl el78 ce23
    obtain ⟨i3, e3, _⟩ := p3.int ki3
    obtain ⟨ws, rfl⟩ := rows_of Sp.row rs2 (fun r hr => sp_of (h2 r hr))
    simp at e0 e1 e2 e3
    exact ⟨⟨s0, b1, v2, ws, i3⟩, by rw [e0, e1, e2, e3]; rfl, SlA.of s2⟩
theorem house_of {r : List Value} (a : Arg Try.prog h (n + 7) 28 r) : ∃ s : Ho, HoA h s r := by
  obtain ⟨hl, hp⟩ := a.parts pa28
  rw [ce28] at hl
  match r, hl with
  | [c0, c1, c2, c3, c4, c5, c6], _ =>
    have p0 := hp (0, 23) (by simp)
    have p1 := hp (2, 3) (by simp)
    have p2 := hp (3, 24) (by simp)
    have p3 := hp (4, 25) (by simp)
    have p4 := hp (5, 26) (by simp)
    have p5 := hp (6, 24) (by simp)
    simp only [ce23, ce24, ce3, ce25, ce26] at p0 p1 p2 p3 p4 p5
    obtain ⟨we, e0⟩ := sp_of p0
    obtain ⟨i1, e1, _⟩ := p1.int ki3
    obtain ⟨v2, rs2, e2, s2, h2⟩ := p2.sl el24 ce3
    obtain ⟨v3, rs3, e3, s3, h3⟩ := p3.sl el25 ce80
    obtain ⟨v4, rs4, e4, s4, h4⟩ := p4.sl el26 ce56
    obtain ⟨v5, rs5, e5, s5, h5⟩ := p5.sl el24 ce3
    obtain ⟨hs, rfl⟩ := rows_of inRow rs2 (fun r hr => int_of (h2 r hr))
    obtain ⟨ps, rfl, hq⟩ := rows_ofP Pl.row (fun g => SlA h 2 g.vw (g.ws.map Sp.row)) rs3 (fun r hr => pl_of (h3 r hr))
    obtain ⟨fs, rfl⟩ := rows_of Fi.row rs4 (fun r hr => fi_of (h4 r hr))
    obtain ⟨bs, rfl⟩ := rows_of inRow rs5 (fun r hr => int_of (h5 r hr))
    simp [Sp.row] at e0 e1 e2 e3 e4 e5
    exact ⟨⟨we, i1, hs, ps, fs, bs⟩, v2, v3, v4, v5, by rw [e0.1, e0.2, e1, e2, e3, e4, e5]; rfl, SlA.of s2, SlA.of s3, hq, SlA.of s4, SlA.of s5⟩
end
end Go.Proofs.Ytekocllllbdbgaa.K.L
