/- The arguments of the law: a book, numbers of a byte. -/
import Derived.Test.YtgomkbcokgeciaaGreatScS9
import Derived.Test.YtgomkbcokgeciaaGreatScEngC
open Go Go.bR
set_option maxRecDepth 100000
set_option linter.unusedVariables false
namespace Go.Proofs.YtgomkbcokgeciaaGreat.K.L
theorem pa25 : qO Tryz.prog 25 = some [(0, 3), (1, 22), (2, 23)] := by kernel_rfl
theorem bPF : qO Tryz.prog 87 = some [(0, 9), (1, 3), (2, 3)] := by kernel_rfl
theorem pa151 : qO Tryz.prog 151 = some [(0, 9), (1, 3)] := by kernel_rfl
theorem bPG : qO Tryz.prog 64 = some [(0, 3), (1, 3)] := by kernel_rfl
theorem bPH : qO Tryz.prog 67 = some [(0, 62), (1, 64), (3, 65), (4, 3)] := by kernel_rfl
theorem bPI : Tryz.prog.cellsOf 25 = 3 := by kernel_rfl
theorem bD6 : Tryz.prog.cellsOf 87 = 3 := by kernel_rfl
theorem a1C : Tryz.prog.cellsOf 151 = 2 := by kernel_rfl
theorem a6L : Tryz.prog.cellsOf 64 = 2 := by kernel_rfl
theorem bD7 : Tryz.prog.cellsOf 67 = 5 := by kernel_rfl
theorem ce3 : Tryz.prog.cellsOf 3 = 1 := by kernel_rfl
theorem ce5 : Tryz.prog.cellsOf 5 = 1 := by kernel_rfl
theorem ce9 : Tryz.prog.cellsOf 9 = 1 := by kernel_rfl
theorem bPJ : Tryz.prog.cellsOf 22 = 1 := by kernel_rfl
theorem bPK : Tryz.prog.cellsOf 23 = 1 := by kernel_rfl
theorem bPL : Tryz.prog.cellsOf 62 = 1 := by kernel_rfl
theorem bPM : Tryz.prog.cellsOf 65 = 1 := by kernel_rfl
theorem bPN : Tryz.prog.cellsOf 80 = 2 := by kernel_rfl
theorem bPO : OH Tryz.prog 22 = some 87 := by kernel_rfl
theorem bPP : OH Tryz.prog 23 = some 67 := by kernel_rfl
theorem bPQ : OH Tryz.prog 62 = some 151 := by kernel_rfl
theorem bPR : OH Tryz.prog 65 = some 64 := by kernel_rfl
theorem ki3 : aH2 Tryz.prog 3 = some .i64 := by kernel_rfl
theorem ki5 : aH2 Tryz.prog 5 = some .u8 := by kernel_rfl
theorem st9 : a5B Tryz.prog 9 = true := by kernel_rfl
theorem bPS : WC Tryz.prog 80 = some (2, 5) := by kernel_rfl
theorem bPT : (WC Tryz.prog 80).isSome = true := by kernel_rfl
theorem bD9 : (qO Tryz.prog 25).isSome = true := by kernel_rfl
theorem pa5 : qO Tryz.prog 5 = none ∧ WC Tryz.prog 5 = none := ⟨by kernel_rfl, by kernel_rfl⟩
theorem aCY {α : Type} (row : α → List Value) (Q : α → Prop) : ∀ (rs : List (List Value)), (∀ r ∈ rs, ∃ g, r = row g ∧ Q g) → ∃ gs : List α, rs = gs.map row ∧ ∀ g ∈ gs, Q g
 | [], _ => ⟨[], rfl, fun g hg => by cases hg⟩
 | r :: rs, h => by
  obtain ⟨g, rfl, hq⟩ := h r (.head _)
  obtain ⟨gs, rfl, hs⟩ := aCY row Q rs (fun r hr => h r (.tail _ hr))
  exact ⟨g :: gs, rfl, fun x hx => by
   rcases List.mem_cons.1 hx with rfl | hx
   ·exact hq
   ·exact hs x hx⟩
section
variable {h : Hp} {n : Nat}
theorem bEA {r : List Value} (a : Arg Tryz.prog h (n + 2) 87 r) : ∃ g : Rm, r = g.row := by
 obtain ⟨hl, hp⟩ := a.parts bPF
 rw [bD6] at hl
 match r, hl with
 | [c0, c1, c2], _ =>
  have p0 := hp (0, 9) (by simp)
  have p1 := hp (1, 3) (by simp)
  have p2 := hp (2, 3) (by simp)
  simp only [ce9, ce3] at p0 p1 p2
  obtain ⟨s0, e0, _⟩ := p0.str st9
  obtain ⟨i1, e1, _⟩ := p1.int ki3
  obtain ⟨i2, e2, _⟩ := p2.int ki3
  simp at e0 e1 e2
  exact ⟨⟨s0, i1, i2⟩, by rw [e0, e1, e2]; rfl⟩
theorem bEB {r : List Value} (a : Arg Tryz.prog h (n + 2) 151 r) : ∃ g : Sc, r = g.row := by
 obtain ⟨hl, hp⟩ := a.parts pa151
 rw [a1C] at hl
 match r, hl with
 | [c0, c1], _ =>
  have p0 := hp (0, 9) (by simp)
  have p1 := hp (1, 3) (by simp)
  simp only [ce9, ce3] at p0 p1
  obtain ⟨s0, e0, _⟩ := p0.str st9
  obtain ⟨i1, e1, _⟩ := p1.int ki3
  simp at e0 e1
  exact ⟨⟨s0, i1⟩, by rw [e0, e1]; rfl⟩
theorem a1D {r : List Value} (a : Arg Tryz.prog h (n + 2) 64 r) : ∃ g : Ct, r = g.row := by
 obtain ⟨hl, hp⟩ := a.parts bPG
 rw [a6L] at hl
 match r, hl with
 | [c0, c1], _ =>
  have p0 := hp (0, 3) (by simp)
  have p1 := hp (1, 3) (by simp)
  simp only [ce3] at p0 p1
  obtain ⟨i0, e0, _⟩ := p0.int ki3
  obtain ⟨i1, e1, _⟩ := p1.int ki3
  simp at e0 e1
  exact ⟨⟨i0, i1⟩, by rw [e0, e1]; rfl⟩
theorem bEC {r : List Value} (a : Arg Tryz.prog h (n + 5) 67 r) : ∃ g : Dy, r = g.row ∧ DyA h g := by
 obtain ⟨hl, hp⟩ := a.parts bPH
 rw [bD7] at hl
 match r, hl with
 | [c0, c1, c2, c3, c4], _ =>
  have p0 := hp (0, 62) (by simp)
  have p1 := hp (1, 64) (by simp)
  have p3 := hp (3, 65) (by simp)
  have p4 := hp (4, 3) (by simp)
  simp only [bPL, a6L, bPM, ce3] at p0 p1 p3 p4
  obtain ⟨v0, rs0, e0, s0, h0⟩ := p0.sl bPQ a1C
  obtain ⟨g1, e1⟩ := a1D p1
  obtain ⟨v3, rs3, e3, s3, h3⟩ := p3.sl bPR a6L
  obtain ⟨i4, e4, _⟩ := p4.int ki3
  obtain ⟨ss, rfl⟩ := NC Sc.row rs0 (fun r hr => bEB (h0 r hr))
  obtain ⟨cs, rfl⟩ := NC Ct.row rs3 (fun r hr => a1D (h3 r hr))
  simp [Ct.row] at e0 e1 e3 e4
  exact ⟨⟨v0, ss, g1.seen, g1.miss, v3, cs, i4⟩, by rw [e0, e1.1, e1.2, e3, e4]; rfl, uP.of s0, uP.of s3⟩
theorem aYA {r : List Value} (a : Arg Tryz.prog h (n + 7) 25 r) : ∃ s : Bk, YC h s r := by
 obtain ⟨hl, hp⟩ := a.parts pa25
 rw [bPI] at hl
 match r, hl with
 | [c0, c1, c2], _ =>
  have p0 := hp (0, 3) (by simp)
  have p1 := hp (1, 22) (by simp)
  have p2 := hp (2, 23) (by simp)
  simp only [ce3, bPJ, bPK] at p0 p1 p2
  obtain ⟨i0, e0, _⟩ := p0.int ki3
  obtain ⟨v1, rs1, e1, s1, h1⟩ := p1.sl bPO bD6
  obtain ⟨v2, rs2, e2, s2, h2⟩ := p2.sl bPP bD7
  obtain ⟨rs, rfl⟩ := NC Rm.row rs1 (fun r hr => bEA (h1 r hr))
  obtain ⟨ds, rfl, hq⟩ := aCY Dy.row (fun g => DyA h g) rs2 (fun r hr => bEC (h2 r hr))
  simp at e0 e1 e2
  exact ⟨⟨i0, rs, ds⟩, v1, v2, by rw [e0, e1, e2]; rfl, uP.of s1, uP.of s2, hq⟩
theorem byte_of {r : List Value} (a : Arg Tryz.prog h (n + 1) 5 r) : ∃ b : Nat, b ≤ 255 ∧ r = [.int .u8 (b : Int)] := by
 obtain ⟨i, e, w⟩ := a.int ki5
 have hm1 : IntKind.u8.min = 0 := by decide +kernel
 have hm2 : IntKind.u8.max = 255 := by decide +kernel
 have hb : 0 ≤ i ∧ i ≤ 255 := by
  simp [Lit.wf] at w
  omega
 exact ⟨i.toNat, by omega, by rw [e]; congr 2; omega⟩
end
end Go.Proofs.YtgomkbcokgeciaaGreat.K.L
