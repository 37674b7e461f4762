/- The law about a figure that looks like the person: Best of the room whose persons are its figures. -/
import Derived.Test.YtdpicdnpiihaaaaAsQ50
import Derived.Test.YtdpicdnpiihaaaaAsS47
open Go Go.bG
set_option maxRecDepth 100000
set_option linter.unusedVariables false
namespace Go.Proofs.Ytdpicdnpiihaaaa.K.L
theorem aNJ (n : Nat) (p q : Value) (b : Bool) (h : Hp) : aK LU (n + 1) 1 (AL.v p (AL.v q (AL.b b AL.n))) h = aDP (aK LU n) p q b h := rfl
theorem aVR (n : Nat) (p q : Value) (h : Hp) : aK LU (n + 1) 6 (AL.v p (AL.v q AL.n)) h = aL6 (aK LU n) p q h := rfl
theorem aVS (n : Nat) (p q : Value) (h : Hp) : aK LU (n + 1) 7 (AL.v p (AL.v q AL.n)) h = aL7 (aK LU n) p q h := rfl
theorem bF4 {ρ : Type} (b : Nat) (k : Value → Option ρ) : aP 3 (.pointer (some ⟨b, 0, none⟩)) k = k (.pointer (some ⟨b, 3, none⟩)) := rfl
def rM (a b : Nat) : List Value := [.int .u8 (a : Int), .int .u8 (b : Int)]
theorem Y5 {F : List Value → Hp → aF} {args : List Value} {h h' : Hp} {v : Value} {x y : Int} {rs : List (List Value)} {z : Nat} (w : Wf h) (e : F args (dI h) = some (.tuple (List.toArray [.int .i64 x, v, .int .i64 y]), h')) (g : aS (dI h) h') (i : lF h' z v rs) :
  ∃ h2, cZ F args h = some (.tuple (List.toArray [.int .i64 x, v, .int .i64 y]), h2) ∧ aS h h2 ∧ lF h2 z v rs := by
 obtain ⟨h2, e2, g2, o2⟩ := qM w e g
 refine ⟨h2, e2, g2, ?_⟩
 rcases i with i | ⟨b, c, t, k, h1, h3, h4⟩
 ·exact .inl i
 ·refine .inr ⟨b, c, t, k, h1, ?_, h4⟩
  have := o2 (by rw [h1, o7]; rfl)
  show h2.aD.get b = _
  rw [this]; exact h3
theorem Z5 {ρ : Type} (len n b o i : Nat) (hi : i < len) (k : Value → Option ρ) : AA len n (.pointer (some ⟨b, o, none⟩)) (i : Int) k = k (.pointer (some ⟨b, o + i * n, none⟩)) := Go.bG.Y.aIH len n b o i hi k
theorem aQJ {h : Hp} (w : Wf h) {s : Rm} (e0 : (gI s).2.2 = 0) {r : List Value} (A : D7 h s r) {p : Value} (ar : At h p r) {b1 a b : Nat} (B : h.get b1 = some (.cells (rM a b) 64 none)) (ha : a ≤ 255) (hb : b ≤ 255) (hf : 0 < s.bA.length) (n : Nat) (hn : 100 ≤ n) :
  ∃ h', aK LU (n + 1) 6 (AL.v p (AL.v (.pointer (some ⟨b1, 0, none⟩)) AL.n)) h = some (.bool true, h') := by
 have F := yL e0
 have nf := F.nf
 have np := F.np
 have nc := F.nc
 obtain ⟨vc, vo, vf, vp, rfl, sc, so, sf, sp, aff, app⟩ := A
 have A : D7 h s (eZ vc vo vf vp) := ⟨vc, vo, vf, vp, rfl, sc, so, sf, sp, aff, app⟩
 rw [aVR]
 unfold aL6
 rw [ar.qL 3 (x := vp) rfl, sp.rows.len, List.length_map, aM, bT, aG]
 by_cases c : s.bN.length = 0
 ·rw [if_pos (by rw [c]; rfl), G9, aB, aU]
  exact ⟨_, rfl⟩
 have B' : (Hp.mk h.next h.next h.aD).get b1 = some (.cells (rM a b) 64 none) := B
 have ar' : At (Hp.mk h.next h.next h.aD) p (eZ vc vo vf vp) := ar
 have e1 : ((a : Int) % (s.bA.length : Int)) = ((a % s.bA.length : Nat) : Int) := (Int.natCast_emod _ _).symm
 have e2 : ((b : Int) % (s.bN.length : Int)) = ((b % s.bN.length : Nat) : Int) := (Int.natCast_emod _ _).symm
 have hx : a % s.bA.length < s.bA.length := Nat.mod_lt _ hf
 have hy : b % s.bN.length < s.bN.length := Nat.mod_lt _ (by omega)
 rw [if_neg (by simpa using c), show (Int.ofNat 0) = ((0 : Nat) : Int) from rfl, Z5 2 1 b1 0 0 (by decide), eX (o := 0 + 0 * 1) B' (v := .int .u8 (a : Int)) rfl, aH, wrap64_in _ (by omega) (by omega), ar'.qL 2 (x := vf) rfl, sf.rows.len, List.length_map, aMY (by omega) (by omega), BL,
  show (Int.ofNat 1) = ((1 : Nat) : Int) from rfl, Z5 2 1 b1 0 1 (by decide), eX (o := 0 + 1 * 1) B' (v := .int .u8 (b : Int)) rfl, aH, wrap64_in _ (by omega) (by omega), ar'.qL 3 (x := vp) rfl, sp.rows.len, List.length_map, aMY (by omega) (by omega), BL, e1, e2]
 generalize a % s.bA.length = x at hx ⊢
 generalize b % s.bN.length = y at hy ⊢
 have pe : JJ s (y : Int) = 0 := by
  unfold JJ
  rw [if_neg (by simpa using e0), if_neg]
  simp only [Bool.not_eq_true', Bool.not_eq_false]
  exact kI.2 (by omega)
 have ce : BH s (x : Int) (y : Int) = (kR s.costs (zG s (x, y)), zG s (x, y), 0) := by
  unfold BH
  rw [if_neg (by simpa using pe), if_neg, Int.toNat_natCast, Int.toNat_natCast]
  simp only [Bool.not_eq_true', Bool.not_eq_false]
  exact kI.2 (by omega)
 obtain ⟨h2', vk, f2, g2', k2'⟩ := SF (h := dI h) (gJ w) A (x : Int) (y : Int)
 rw [ce] at f2 k2'
 obtain ⟨h2, f3, g2, k2⟩ := Y5 w f2 g2' k2'
 rw [show (Hp.mk h.next h.ro h.aD) = h from rfl, ar.eU (z := 4) rfl, f3, aB, bM (v := .int .i64 (kR s.costs (zG s (x, y)))) rfl, aH, bM (v := vk) rfl, bM (v := .int .i64 0) rfl, aH]
 exact aD8 g2.wf F (A.sub g2.sub) (ar.sub g2.sub) (sc.sub g2.sub) (sf.sub g2.sub) (sp.sub g2.sub) hx hy k2 s.costs.length 0 n true (by omega) (by omega) (fun _ j hj => by omega)
theorem aQK {h : Hp} (w : Wf h) {s : Rm} (e0 : (gI s).2.2 = 0) {r : List Value} (A : D7 h s r) {p : Value} (ar : At h p r) {b1 a b : Nat} (B : h.get b1 = some (.cells (rM a b) 64 none)) (ha : a ≤ 255) (hb : b ≤ 255) (hf : 0 < s.bA.length) (n : Nat) (hn : 100 ≤ n) :
  ∃ h', aK LU (n + 2) 7 (AL.v p (AL.v (.pointer (some ⟨b1, 0, none⟩)) AL.n)) h = some (.bool true, h') := by
 have F := yL e0
 have nf := F.nf
 obtain ⟨vc, vo, vf, vp, rfl, sc, so, sf, sp, aff, app⟩ := A
 have A : D7 h s (eZ vc vo vf vp) := ⟨vc, vo, vf, vp, rfl, sc, so, sf, sp, aff, app⟩
 have one := A.one
 rw [aVS]
 unfold aL7
 rw [ar.eU (z := 4) rfl, bK, vI (n := 4) (c := [(Value.slice none 0 0), (Value.slice none 0 0), (Value.slice none 0 0), (Value.slice none 0 0)]) (t := 25) (s := none) (by rw [bO, if_pos rfl]) (by rw [EX]; exact w.1) rfl one (by simp)]
 have g1 : aS h ((h.add (.cells [(Value.slice none 0 0), (Value.slice none 0 0), (Value.slice none 0 0), (Value.slice none 0 0)] 25 none)).upd h.next (.cells (eZ vc vo vf vp) 25 none)) := aS.upd w (aS.add w _) (Nat.le_refl _) (by rw [kZ]; omega) _
 have d1 : ((h.add (.cells [(Value.slice none 0 0), (Value.slice none 0 0), (Value.slice none 0 0), (Value.slice none 0 0)] 25 none)).upd h.next (.cells (eZ vc vo vf vp) 25 none)).get h.next = some (.cells (eZ vc vo vf vp) 25 none) := by rw [cO, if_pos rfl]
 have n1 : ((h.add (.cells [(Value.slice none 0 0), (Value.slice none 0 0), (Value.slice none 0 0), (Value.slice none 0 0)] 25 none)).upd h.next (.cells (eZ vc vo vf vp) 25 none)).next = h.next + 1 := rfl
 rw [show List.take 0 [(Value.slice none 0 0), (Value.slice none 0 0), (Value.slice none 0 0), (Value.slice none 0 0)] ++ eZ vc vo vf vp ++ List.drop (0 + (eZ vc vo vf vp).length) [(Value.slice none 0 0), (Value.slice none 0 0), (Value.slice none 0 0), (Value.slice none 0 0)] = eZ vc vo vf vp from rfl]
 generalize (h.add (.cells [(Value.slice none 0 0), (Value.slice none 0 0), (Value.slice none 0 0), (Value.slice none 0 0)] 25 none)).upd h.next (.cells (eZ vc vo vf vp) 25 none) = h1 at g1 d1 n1 ⊢
 have wr := w.1
 have g2 := g1.trans (aS.add g1.wf (.cells [] 59 none))
 have d2 : (h1.add (.cells [] 59 none)).get h1.next = some (.cells [] 59 none) := by rw [bO, if_pos rfl]
 have d21 : (h1.add (.cells [] 59 none)).get h.next = some (.cells (eZ vc vo vf vp) 25 none) := (aS.add g1.wf _).sub _ _ d1
 have n2 : (h1.add (.cells [] 59 none)).next = h.next + 2 := by rw [kZ]; omega
 rw [bF1, aB, (ar.sub g2.sub).qL 2 (x := vf) rfl, (ar.sub g2.sub).qL 2 (x := vf) rfl, (sf.sub g2.sub).rows.len, List.length_map, aOT, show min (s.bA.length : Int) (Int.ofNat 5) = ((min s.bA.length 5 : Nat) : Int) from by show min (s.bA.length : Int) 5 = _; omega]
 generalize h1.add (.cells [] 59 none) = h2 at g2 d2 d21 n2 ⊢
 obtain ⟨bf, cf, tf, kf, rfl, gf, skf, lf, mk⟩ := aVM (sf.sub g2.sub) (by rw [List.length_map]; exact hf) (by rw [List.length_map]; omega) (k := min s.bA.length 5) ⟨by omega, by rw [List.length_map]; omega⟩
 rw [List.length_map] at *
 obtain ⟨cap, hcut⟩ := a3W gf skf (n := s.bA.length) (k := min s.bA.length 5) (by omega) hf
 rw [hcut, aJ, a3X d2 (by omega) (aF6 gf lf), aB]
 have g3 := g2.trans (aS.add g2.wf (.cells (cf.take (min s.bA.length 5 * 3)) 59 (some 3)))
 have d3 : (h2.add (.cells (cf.take (min s.bA.length 5 * 3)) 59 (some 3))).get h2.next = some (.cells (cf.take (min s.bA.length 5 * 3)) 59 (some 3)) := by rw [bO, if_pos rfl]
 have d31 : (h2.add (.cells (cf.take (min s.bA.length 5 * 3)) 59 (some 3))).get h.next = some (.cells (eZ vc vo (.slice (some ⟨bf, 0, none⟩) s.bA.length s.bA.length) vp) 25 none) := (aS.add g2.wf _).sub _ _ d21
 have n3 : (h2.add (.cells (cf.take (min s.bA.length 5 * 3)) 59 (some 3))).next = h.next + 3 := by rw [kZ]; omega
 generalize h2.add (.cells (cf.take (min s.bA.length 5 * 3)) 59 (some 3)) = h3 at g3 d3 d31 n3 ⊢
 rw [bF4, pI (o := 3) d31 (by rw [g3.ro]; omega) rfl (by show 3 < 4; decide)]
 have g4 : aS h (h3.upd h.next (.cells ((eZ vc vo (.slice (some ⟨bf, 0, none⟩) s.bA.length s.bA.length) vp).set 3 (.slice (some ⟨h2.next, 0, none⟩) (min s.bA.length 5) (min s.bA.length 5))) 25 none)) := aS.upd w g3 (Nat.le_refl _) (by omega) _
 have d4 : (h3.upd h.next (.cells ((eZ vc vo (.slice (some ⟨bf, 0, none⟩) s.bA.length s.bA.length) vp).set 3 (.slice (some ⟨h2.next, 0, none⟩) (min s.bA.length 5) (min s.bA.length 5))) 25 none)).get h2.next = some (.cells (cf.take (min s.bA.length 5 * 3)) 59 (some 3)) := by rw [cO, if_neg (by omega)]; exact d3
 have a4 : At (h3.upd h.next (.cells ((eZ vc vo (.slice (some ⟨bf, 0, none⟩) s.bA.length s.bA.length) vp).set 3 (.slice (some ⟨h2.next, 0, none⟩) (min s.bA.length 5) (min s.bA.length 5))) 25 none)) (.pointer (some ⟨h.next, 0, none⟩)) (eZ vc vo (.slice (some ⟨bf, 0, none⟩) s.bA.length s.bA.length) (.slice (some ⟨h2.next, 0, none⟩) (min s.bA.length 5) (min s.bA.length 5))) :=
  ⟨h.next, 0, eZ vc vo (.slice (some ⟨bf, 0, none⟩) s.bA.length s.bA.length) (.slice (some ⟨h2.next, 0, none⟩) (min s.bA.length 5) (min s.bA.length 5)), 25, none, rfl, by rw [cO, if_pos rfl]; rfl, by show 0 + 4 ≤ 4; decide, fun k x hx => by rw [Nat.zero_add]; exact hx⟩
 generalize h3.upd h.next _ = h4 at g4 d4 a4 ⊢
 have A4 : D7 h4 (L6 s) (eZ vc vo (.slice (some ⟨bf, 0, none⟩) s.bA.length s.bA.length) (.slice (some ⟨h2.next, 0, none⟩) (min s.bA.length 5) (min s.bA.length 5))) := by
  refine ⟨_, _, _, _, rfl, sc.sub g4.sub, so.sub g4.sub, sf.sub g4.sub, ?_, fun g hg => (aff g hg).sub g4.sub, fun g hg => (aff g (List.mem_of_mem_take hg)).sub g4.sub⟩
  have := mk h4 _ d4
  rwa [← List.map_take] at this
 obtain ⟨bb, be, bl⟩ := aQI e0
 obtain ⟨h5', v5, f5, g5', i5'⟩ := aF1 (h := dI h4) (gJ g4.wf) A4
 rw [be] at f5 i5'
 obtain ⟨h5, f6, g5, i5⟩ := aF2 g4.wf f5 g5' i5'
 rw [a4.eU (z := 4) rfl, f6, aB, bM (v := v5) rfl, bM (v := .int .i64 0) rfl, aH, bM (v := .int .i64 0) rfl, aH, aQ, bT, aG, if_neg (by decide), aQ, aG, if_neg (by decide), i5.sl.rows.len]
 have hl : ((vN bb).map dD).length = min s.bA.length 5 := by rw [List.length_map]; unfold vN; rw [List.length_map, bl, aD5]
 have l5 := (a4.sub g5.sub).qL (ρ := Value × Hp) 3 (x := .slice (some ⟨h2.next, 0, none⟩) (min s.bA.length 5) (min s.bA.length 5)) rfl
 rw [l5, A9, hl, aQ, bT, aG, if_neg (by simp)]
 have gg := g4.trans g5
 exact aQJ g5.wf e0 (A.sub gg.sub) (ar.sub gg.sub) (gg.sub _ _ B) ha hb hf n hn
theorem aNK {h : Hp} (w : Wf h) {s : Rm} {r : List Value} (A : D7 h s r) {a b : Nat} (ha : a ≤ 255) (hb : b ≤ 255) : ∃ h', F14 [.agg (Array.mk r), .agg (Array.mk (rM a b))] h = some (.bool true, h') := by
 have start : F14 [.agg (Array.mk r), .agg (Array.mk (rM a b))] h = aL8 (aK LU 999999) (.agg (Array.mk r)) (.agg (Array.mk (rM a b))) h := rfl
 rw [start]
 unfold aL8
 have hr4 := A.len
 rw [fA, bK, fA, bK]
 have g0 := aS.add w (.cells r 25 none)
 have a0 : At (h.add (.cells r 25 none)) (.pointer (some ⟨h.next, 0, none⟩)) r := At.new
 generalize h.add (.cells r 25 none) = h0 at g0 a0 ⊢
 have g1 := g0.trans (aS.add g0.wf (.cells (rM a b) 64 none))
 have a1 := a0.sub (aS.add g0.wf (.cells (rM a b) 64 none)).sub
 have B : (h0.add (.cells (rM a b) 64 none)).get h0.next = some (.cells (rM a b) 64 none) := by rw [bO, if_pos rfl]
 generalize h0.add (.cells (rM a b) 64 none) = h1 at g1 a1 B ⊢
 generalize Value.pointer (some ⟨h.next, 0, none⟩) = p at a1 ⊢
 replace A := A.sub g1.sub
 obtain ⟨h4, e4⟩ := aB0 (h := dI h1) (gJ g1.wf) A
 have bad : (BH s 0 0).2.2 ≠ 0 → ∃ h', aK LU 999999 1 (AL.v p (AL.v (.pointer (some ⟨h0.next, 0, none⟩)) (AL.b true AL.n))) h1 = some (.bool true, h') := by
  intro hc
  obtain ⟨h2', vk, f2, g2', k2'⟩ := SF (h := dI h1) (gJ g1.wf) A 0 0
  obtain ⟨h2, f3, g2, k2⟩ := Y5 g1.wf f2 g2' k2'
  rw [show (999999 : Nat) = 999998 + 1 from rfl, aNJ]
  unfold aDP
  rw [aG, if_pos rfl, a1.eU (z := 4) hr4, show (Int.ofNat 0) = 0 from rfl, f3, aB, bM (v := .int .i64 (BH s 0 0).1) rfl, aH, bM (v := vk) rfl, bM (v := .int .i64 (BH s 0 0).2.2) rfl, aH, aQ, bT, aG, if_pos (by simpa using hc), G9, aB, aU]
  exact ⟨_, rfl⟩
 rw [a1.eU (z := 4) hr4, bR e4 rfl, aB, aU, aQ, aG]
 by_cases e0 : (gI s).2.2 = 0
 case neg =>
  rw [if_pos (by simpa using e0)]
  refine bad ?_
  unfold BH JJ
  rw [if_pos e0, if_pos e0]
  exact e0
 rw [if_neg (by rw [e0]; decide)]
 have vf : ∃ vf, (∀ (ρ : Type) (k : Value → Option ρ), (aP 2 p fun v => aI h1 v k) = k vf) ∧ ∀ (ρ : Type) (k : Int → Option ρ), bU vf k = k (s.bA.length : Int) := by
  obtain ⟨vc, vo, vf, vp, rfl, sc, so, sf, sp, af, ap⟩ := A
  exact ⟨vf, fun ρ k => a1.qL 2 (x := vf) rfl k, fun ρ k => by rw [sf.rows.len, List.length_map]⟩
 obtain ⟨vf, l1, l2⟩ := vf
 rw [l1, l2, aM, bT]
 by_cases c : s.bA.length = 0
 ·rw [show decide ((s.bA.length : Int) = Int.ofNat 0) = true from by rw [c]; rfl]
  refine bad ?_
  unfold BH
  by_cases pe : JJ s 0 = 0
  ·rw [if_neg (by simpa using pe), if_pos (by rw [c]; rfl)]; decide
  ·rw [if_pos pe]; exact pe
 ·rw [show decide ((s.bA.length : Int) = Int.ofNat 0) = false from decide_eq_false (fun q => c (by have : (s.bA.length : Int) = 0 := q; omega)), show (999999 : Nat) = 999998 + 1 from rfl, aNJ]
  unfold aDP
  rw [aG, if_neg (by decide)]
  exact aQK g1.wf e0 A a1 B ha hb (by omega) 999996 (by omega)
end Go.Proofs.Ytdpicdnpiihaaaa.K.L
open Go Go.bG
set_option maxRecDepth 100000
set_option linter.unusedVariables false
namespace Go.Proofs.Ytdpicdnpiihaaaa.K.L
theorem bF5 : aEC Try.prog 64 = some (2, 5) := by kernel_rfl
theorem bF6 : (aEC Try.prog 64).isSome = true := by kernel_rfl
theorem bF7 : Try.prog.cellsOf 64 = 2 := by kernel_rfl
theorem aF7 {h : Hp} {n : Nat} {r : List Value} (a : Arg Try.prog h (n + 2) 64 r) : ∃ x y : Nat, r = rM x y ∧ x ≤ 255 ∧ y ≤ 255 := by
 obtain ⟨l3, p3⟩ := a.arr (n := n + 1) bF5
 rw [ce5] at p3
 rw [bF7] at l3
 match r, l3 with
 | [x, y], _ =>
  obtain ⟨ix, ex, bx⟩ := byte_of (p3 0 (by omega))
  obtain ⟨iy, ey, by'⟩ := byte_of (p3 1 (by omega))
  simp [aMZ] at ex ey
  exact ⟨ix, iy, by rw [ex, ey]; rfl, bx, by'⟩
end Go.Proofs.Ytdpicdnpiihaaaa.K.L
