/- The arguments of bill.True: a show, a number, entries. -/
import Derived.Test.YtgjdokjoejhepaaGreatDoorTrS28
import Derived.Test.YtgjdokjoejhepaaGreatDoorTrEngC
open Go Go.bP
set_option maxRecDepth 100000
set_option linter.unusedVariables false
namespace Go.Proofs.YtgjdokjoejhepaaGreatDoor.K.L
theorem pa25 : rE Tryz.prog 25 = some [(0, 3), (1, 22), (2, 23)] := by kernel_rfl
theorem bMK : rE Tryz.prog 76 = some [(0, 9), (1, 9), (2, 3), (3, 3)] := by kernel_rfl
theorem bML : Tryz.prog.cellsOf 25 = 3 := by kernel_rfl
theorem bB9 : Tryz.prog.cellsOf 76 = 4 := by kernel_rfl
theorem ce3 : Tryz.prog.cellsOf 3 = 1 := by kernel_rfl
theorem ce9 : Tryz.prog.cellsOf 9 = 1 := by kernel_rfl
theorem bMM : Tryz.prog.cellsOf 22 = 1 := by kernel_rfl
theorem bMN : Tryz.prog.cellsOf 23 = 1 := by kernel_rfl
theorem bMO : SY Tryz.prog 22 = some 76 := by kernel_rfl
theorem bMP : SY Tryz.prog 23 = some 3 := by kernel_rfl
theorem ki3 : aL3 Tryz.prog 3 = some .i64 := by kernel_rfl
theorem st9 : aXR Tryz.prog 9 = true := by kernel_rfl
theorem bCA : (rE Tryz.prog 25).isSome = true := by kernel_rfl
theorem bMQ : rE Tryz.prog 57 = some [(0, 3), (1, 3), (2, 3)] := by kernel_rfl
theorem bCB : Tryz.prog.cellsOf 57 = 3 := by kernel_rfl
theorem bMR : SY Tryz.prog 26 = some 57 := by kernel_rfl
section
variable {h : Hp} {n : Nat}
theorem aQ9 {r : List Value} (a : Arg Tryz.prog h (n + 1) 3 r) : ∃ i : Int, r = dH i := by
 obtain ⟨i, e, _⟩ := a.int ki3
 exact ⟨i, e⟩
theorem bCC {r : List Value} (a : Arg Tryz.prog h (n + 2) 76 r) : ∃ g : Fg, r = g.row := by
 obtain ⟨hl, hp⟩ := a.parts bMK
 rw [bB9] at hl
 match r, hl with
 | [c0, c1, c2, c3], _ =>
  have p0 := hp (0, 9) (by simp)
  have p1 := hp (1, 9) (by simp)
  have p2 := hp (2, 3) (by simp)
  have p3 := hp (3, 3) (by simp)
  simp only [ce9, ce3] at p0 p1 p2 p3
  obtain ⟨s0, e0, _⟩ := p0.str st9
  obtain ⟨s1, e1, _⟩ := p1.str st9
  obtain ⟨i2, e2, _⟩ := p2.int ki3
  obtain ⟨i3, e3, _⟩ := p3.int ki3
  simp at e0 e1 e2 e3
  exact ⟨⟨s0, s1, i2, i3⟩, by rw [e0, e1, e2, e3]; rfl⟩
theorem aUN {r : List Value} (a : Arg Tryz.prog h (n + 4) 25 r) : ∃ s : Sh, yX h s r := by
 obtain ⟨hl, hp⟩ := a.parts pa25
 rw [bML] at hl
 match r, hl with
 | [c0, c1, c2], _ =>
  have p0 := hp (0, 3) (by simp)
  have p1 := hp (1, 22) (by simp)
  have p2 := hp (2, 23) (by simp)
  simp only [ce3, bMM, bMN] at p0 p1 p2
  obtain ⟨i0, e0, _⟩ := p0.int ki3
  obtain ⟨v1, rs1, e1, s1, h1⟩ := p1.sl bMO bB9
  obtain ⟨v2, rs2, e2, s2, h2⟩ := p2.sl bMP ce3
  obtain ⟨fs, rfl⟩ := M8 Fg.row rs1 (fun r hr => bCC (h1 r hr))
  obtain ⟨ts, rfl⟩ := M8 dH rs2 (fun r hr => aQ9 (h2 r hr))
  simp at e0 e1 e2
  exact ⟨⟨i0, fs, ts⟩, v1, v2, by rw [e0, e1, e2]; rfl, CF.of s1, CF.of s2⟩
theorem bCD {r : List Value} (a : Arg Tryz.prog h (n + 2) 57 r) : ∃ g : En, r = g.row := by
 obtain ⟨hl, hp⟩ := a.parts bMQ
 rw [bCB] at hl
 match r, hl with
 | [c0, c1, c2], _ =>
  have p0 := hp (0, 3) (by simp)
  have p1 := hp (1, 3) (by simp)
  have p2 := hp (2, 3) (by simp)
  simp only [ce3] at p0 p1 p2
  obtain ⟨i0, e0, _⟩ := p0.int ki3
  obtain ⟨i1, e1, _⟩ := p1.int ki3
  obtain ⟨i2, e2, _⟩ := p2.int ki3
  simp at e0 e1 e2
  exact ⟨⟨i0, i1, i2⟩, by rw [e0, e1, e2]; rfl⟩
theorem a1U {r : List Value} (a : Arg Tryz.prog h (n + 3) 26 r) : ∃ (v : Value) (c : List En), r = [v] ∧ bP.Rows h 3 v (c.map En.row) := by
 obtain ⟨v1, rs1, e1, s1, h1⟩ := a.sl bMR bCB
 obtain ⟨c, rfl⟩ := M8 En.row rs1 (fun r hr => bCD (h1 r hr))
 exact ⟨v1, c, e1, (CF.of s1).rows⟩
end
end Go.Proofs.YtgjdokjoejhepaaGreatDoor.K.L
