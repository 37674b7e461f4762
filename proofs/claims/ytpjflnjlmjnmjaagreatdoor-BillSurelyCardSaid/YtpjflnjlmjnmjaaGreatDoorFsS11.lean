/- The arguments of the laws of bill: shows, numbers of a byte. -/
import Derived.Test.YtpjflnjlmjnmjaaGreatDoorFsS10
import Derived.Test.YtpjflnjlmjnmjaaGreatDoorFsEngD
open Go Go.Eng
set_option maxRecDepth 100000
set_option linter.unusedVariables false
namespace Go.Proofs.YtpjflnjlmjnmjaaGreatDoor.K.L
theorem pa25 : partsT Tryz.prog 25 = some [(0, 3), (1, 22), (2, 23)] := by kernel_rfl
theorem pa76 : partsT Tryz.prog 76 = some [(0, 9), (1, 9), (2, 3), (3, 3)] := by kernel_rfl
theorem ce25 : Tryz.prog.cellsOf 25 = 3 := by kernel_rfl
theorem ce76 : Tryz.prog.cellsOf 76 = 4 := by kernel_rfl
theorem ce3 : Tryz.prog.cellsOf 3 = 1 := by kernel_rfl
theorem ce5 : Tryz.prog.cellsOf 5 = 1 := by kernel_rfl
theorem ce9 : Tryz.prog.cellsOf 9 = 1 := by kernel_rfl
theorem ce22 : Tryz.prog.cellsOf 22 = 1 := by kernel_rfl
theorem ce23 : Tryz.prog.cellsOf 23 = 1 := by kernel_rfl
theorem ce73 : Tryz.prog.cellsOf 73 = 2 := by kernel_rfl
theorem el22 : elemT Tryz.prog 22 = some 76 := by kernel_rfl
theorem el23 : elemT Tryz.prog 23 = some 3 := by kernel_rfl
theorem ki3 : kindT Tryz.prog 3 = some .i64 := by kernel_rfl
theorem ki5 : kindT Tryz.prog 5 = some .u8 := by kernel_rfl
theorem st9 : strT Tryz.prog 9 = true := by kernel_rfl
theorem ar73 : arrT Tryz.prog 73 = some (2, 5) := by kernel_rfl
theorem pa73 : (arrT Tryz.prog 73).isSome = true := by kernel_rfl
theorem pa25' : (partsT Tryz.prog 25).isSome = true := by kernel_rfl
theorem pa5 : partsT Tryz.prog 5 = none ∧ arrT Tryz.prog 5 = none := ⟨by kernel_rfl, by kernel_rfl⟩
section
variable {h : Hp} {n : Nat}
theorem int_of {r : List Value} (a : Arg Tryz.prog h (n + 1) 3 r) : ∃ i : Int, r = inRow i := by
  obtain ⟨i, e, _⟩ := a.int ki3
  exact ⟨i, e⟩
theorem fg_of {r : List Value} (a : Arg Tryz.prog h (n + 2) 76 r) : ∃ g : Fg, r = g.row := by
  obtain ⟨hl, hp⟩ := a.parts pa76
  rw [ce76] at hl
  match r, hl with
  | [c0, c1, c2, c3], _ =>
    have p0 := hp (0, 9) (by simp)
    have p1 := hp (1, 9) (by simp)
    have p2 := hp (2, 3) (by simp)
    have p3 := hp (3, 3) (by simp)
    simp only [ce9, ce3] at p0 p1 p2 p3
    obtain ⟨s0, e0, _⟩ := p0.str st9
    obtain ⟨s1, e1, _⟩ := p1.str st9
    obtain ⟨i2, e2, _⟩ := p2.int ki3
    obtain ⟨i3, e3, _⟩ := p3.int ki3
    simp at e0 e1 e2 e3
    exact ⟨⟨s0, s1, i2, i3⟩, by rw [e0, e1, e2, e3]; rfl⟩
theorem show_of {r : List Value} (a : Arg Tryz.prog h (n + 4) 25 r) : ∃ s : Sh, ShA h s r := by
  obtain ⟨hl, hp⟩ := a.parts pa25
  rw [ce25] at hl
  match r, hl with
  | [c0, c1, c2], _ =>
    have p0 := hp (0, 3) (by simp)
    have p1 := hp (1, 22) (by simp)
    have p2 := hp (2, 23) (by simp)
    simp only [ce3, ce22, ce23] at p0 p1 p2
    obtain ⟨i0, e0, _⟩ := p0.int ki3
    obtain ⟨v1, rs1, e1, s1, h1⟩ := p1.sl el22 ce76
    obtain ⟨v2, rs2, e2, s2, h2⟩ := p2.sl el23 ce3
    obtain ⟨fs, rfl⟩ := rows_of Fg.row rs1 (fun r hr => fg_of (h1 r hr))
    obtain ⟨ts, rfl⟩ := rows_of inRow rs2 (fun r hr => int_of (h2 r hr))
    simp at e0 e1 e2
    exact ⟨⟨i0, fs, ts⟩, v1, v2, by rw [e0, e1, e2]; rfl, SlA.of s1, SlA.of s2⟩
theorem byte_of {r : List Value} (a : Arg Tryz.prog h (n + 1) 5 r) : ∃ b : Nat, b ≤ 255 ∧ r = [.int .u8 (b : Int)] := by
  obtain ⟨i, e, w⟩ := a.int ki5
  have hm1 : IntKind.u8.min = 0 := by decide +kernel
  have hm2 : IntKind.u8.max = 255 := by decide +kernel
  have hb : 0 ≤ i ∧ i ≤ 255 := by
    simp [Lit.wf] at w
    omega
  exact ⟨i.toNat, by omega, by rw [e]; congr 2; omega⟩
end
end Go.Proofs.YtpjflnjlmjnmjaaGreatDoor.K.L
