/- Contracts of told functions: the reference's Cost; the law. -/
import Derived.Test.YtdpicdnpiihaaaaOrS14
import Derived.Test.YtdpicdnpiihaaaaOrEngC
open Go Go.bI
set_option maxRecDepth 100000
set_option linter.unusedVariables false
namespace Go.Proofs.Ytdpicdnpiihaaaa.K.L
theorem PU {ρ : Type} (h : Hp) (k : Value → Option ρ) : bR (D9 [] h) k = k (.bool true) := rfl
end Go.Proofs.Ytdpicdnpiihaaaa.K.L
open Go Go.bI
set_option maxRecDepth 100000
set_option linter.unusedVariables false
namespace Go.Proofs.Ytdpicdnpiihaaaa.K.L
theorem pa25 : EZ Try.prog 25 = some [(0, 22), (1, 22), (2, 23), (3, 23)] := by kernel_rfl
theorem bIB : EZ Try.prog 59 = some [(0, 9), (1, 22), (2, 3)] := by kernel_rfl
theorem bIC : Try.prog.cellsOf 25 = 4 := by kernel_rfl
theorem aWU : Try.prog.cellsOf 59 = 3 := by kernel_rfl
theorem a6D : Try.prog.cellsOf 22 = 1 := by kernel_rfl
theorem bID : Try.prog.cellsOf 23 = 1 := by kernel_rfl
theorem ce3 : Try.prog.cellsOf 3 = 1 := by kernel_rfl
theorem ce9 : Try.prog.cellsOf 9 = 1 := by kernel_rfl
theorem aWV : XE Try.prog 22 = some 3 := by kernel_rfl
theorem a6E : XE Try.prog 23 = some 59 := by kernel_rfl
theorem ki3 : aH1 Try.prog 3 = some .i64 := by kernel_rfl
theorem st9 : aUF Try.prog 9 = true := by kernel_rfl
theorem a6F : (EZ Try.prog 25).isSome = true := by kernel_rfl
theorem PV {α : Type} (row : α → List Value) (Q : α → Prop) : ∀ (rs : List (List Value)), (∀ r ∈ rs, ∃ g, r = row g ∧ Q g) → ∃ gs : List α, rs = gs.map row ∧ ∀ g ∈ gs, Q g
 | [], _ => ⟨[], rfl, fun g hg => by cases hg⟩
 | r :: rs, h => by
  obtain ⟨g, rfl, hq⟩ := h r (.head _)
  obtain ⟨gs, rfl, hs⟩ := PV row Q rs (fun r hr => h r (.tail _ hr))
  exact ⟨g :: gs, rfl, fun x hx => by
   rcases List.mem_cons.1 hx with rfl | hx
   ·exact hq
   ·exact hs x hx⟩
section
variable {h : Hp} {n : Nat}
theorem aOA {r : List Value} (a : Arg Try.prog h (n + 1) 3 r) : ∃ i : Int, r = cZ i := by
 obtain ⟨i, e, _⟩ := a.int ki3
 exact ⟨i, e⟩
theorem aT4 {r : List Value} (a : Arg Try.prog h (n + 3) 59 r) : ∃ g : Lk, r = g.row ∧ LD h g := by
 obtain ⟨hl, hp⟩ := a.parts bIB
 rw [aWU] at hl
 match r, hl with
 | [c0, c1, c2], _ =>
  have p0 := hp (0, 9) (by simp)
  have p1 := hp (1, 22) (by simp)
  have p2 := hp (2, 3) (by simp)
  simp only [ce9, a6D, ce3] at p0 p1 p2
  obtain ⟨s0, e0, _⟩ := p0.str st9
  obtain ⟨v1, rs1, e1, s1, h1⟩ := p1.sl aWV ce3
  obtain ⟨i2, e2, _⟩ := p2.int ki3
  obtain ⟨l, rfl⟩ := MI cZ rs1 (fun r hr => aOA (h1 r hr))
  simp at e0 e1 e2
  exact ⟨⟨s0, v1, l, i2⟩, by rw [e0, e1, e2]; rfl, lV.of s1⟩
theorem aRW {r : List Value} (a : Arg Try.prog h (n + 5) 25 r) : ∃ s : Rm, FU h s r := by
 obtain ⟨hl, hp⟩ := a.parts pa25
 rw [bIC] at hl
 match r, hl with
 | [c0, c1, c2, c3], _ =>
  have p0 := hp (0, 22) (by simp)
  have p1 := hp (1, 22) (by simp)
  have p2 := hp (2, 23) (by simp)
  have p3 := hp (3, 23) (by simp)
  simp only [a6D, bID] at p0 p1 p2 p3
  obtain ⟨v0, rs0, e0, s0, h0⟩ := p0.sl aWV ce3
  obtain ⟨v1, rs1, e1, s1, h1⟩ := p1.sl aWV ce3
  obtain ⟨v2, rs2, e2, s2, h2⟩ := p2.sl a6E aWU
  obtain ⟨v3, rs3, e3, s3, h3⟩ := p3.sl a6E aWU
  obtain ⟨l0, rfl⟩ := MI cZ rs0 (fun r hr => aOA (h0 r hr))
  obtain ⟨l1, rfl⟩ := MI cZ rs1 (fun r hr => aOA (h1 r hr))
  obtain ⟨l2, rfl, q2⟩ := PV Lk.row (fun g => LD h g) rs2 (fun r hr => aT4 (h2 r hr))
  obtain ⟨l3, rfl, q3⟩ := PV Lk.row (fun g => LD h g) rs3 (fun r hr => aT4 (h3 r hr))
  simp at e0 e1 e2 e3
  exact ⟨⟨l0, l1, l2, l3⟩, v0, v1, v2, v3, by rw [e0, e1, e2, e3]; rfl, lV.of s0, lV.of s1, lV.of s2, lV.of s3, q2, q3⟩
end
end Go.Proofs.Ytdpicdnpiihaaaa.K.L
