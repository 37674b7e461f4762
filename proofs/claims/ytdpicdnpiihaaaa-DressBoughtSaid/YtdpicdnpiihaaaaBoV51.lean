/- The law about Buy. -/
import Derived.Test.YtdpicdnpiihaaaaBoV50
open Go Go.bK
set_option maxRecDepth 100000
set_option linter.unusedVariables false
namespace Go.Proofs.Ytdpicdnpiihaaaa.K.L
theorem UB (l : List Int) (x : Int) : mJ (l ++ [x]) = mJ l + x := by rw [PZ]; show mJ l + (x + 0) = _; omega
theorem WM : ∀ (l : List Int) (B : Int), (∀ y ∈ l, 0 ≤ y ∧ y ≤ B) → 0 ≤ mJ l ∧ mJ l ≤ B * (l.length : Int)
 | [], B, _ => ⟨Int.le_refl 0, by show (0 : Int) ≤ B * 0; simp⟩
 | z :: l, B, hy => by
  have ih := WM l B fun y h => hy y (.tail _ h)
  have := hy z (.head _)
  show 0 ≤ z + mJ l ∧ z + mJ l ≤ B * ((l.length + 1 : Nat) : Int)
  rw [show B * ((l.length + 1 : Nat) : Int) = B * (l.length : Int) + B from by rw [Int.natCast_add, Int.mul_add]; simp]
  omega
theorem aQ6 {h : Hp} (w : Wf h) {s : Rm} (e0 : (gK s).2.2 = 0) {b : List Nat} (hb : leastOf s (iR s) = some b) {r : List Value} (A : DI h s r) {p : Value} (ar : At h p r) {l : Value} (sl : kR h 1 l ((nZ s (fK 0 b)).map cZ)) {u : Value} {M : List Int} (su : kR h 1 u (M.map cZ)) (lm : M.length = s.bF.length) (bm : ∀ x ∈ M, 0 ≤ x ∧ x ≤ 7) (n : Nat) (hn : 30 ≤ n) :
  ∃ h', aK LY n 7 (AL.v p (AL.v l (AL.i (iP s (fK 0 b)) (AL.i (qD s).2.1 (AL.i (qD s).2.2 (AL.i (jP s (fK 0 b)) (AL.i (mJ M) (AL.v u AL.n)))))))) h = some (.bool true, h') := by
 obtain ⟨n, rfl⟩ : ∃ n', n = n' + 3 := ⟨n - 3, by omega⟩
 have F := rG e0
 obtain ⟨vc, vo, vf, vp, rfl, sc, so, sf, sp, af, ap⟩ := A
 have A : DI h s (bT vc vo vf vp) := ⟨vc, vo, vf, vp, rfl, sc, so, sf, sp, af, ap⟩
 have two : ∃ h', aK LY (n + 2) 2 (AL.v p (AL.v l (AL.i (iP s (fK 0 b)) (AL.i (jP s (fK 0 b)) (AL.i (mJ M) (AL.v u (AL.b false AL.n))))))) h = some (.bool true, h') := by
  rw [aV7 (n + 1)]
  unfold aMP
  rw [aG, if_neg (by decide)]
  exact aQ5 w F hb A sc sf sp af ap ar sl su lm bm n (by omega)
 rw [aWB (n + 2)]
 unfold aMQ
 obtain ⟨_, q⟩ := ZW e0 hb
 rcases q with ⟨q1, q2, q3⟩ | ⟨q1, q2⟩
 ·rw [q2, q3, aM, bI, aG, if_pos (by decide), aQ, bI, aG, if_neg (by rw [q1]; decide), aQ, bI, aG, if_neg (by simp), aQ, aG, if_neg (by decide)]
  exact two
 ·rw [q2, aM, bI, aG, if_neg (by decide), aQ, aG, if_pos (by decide), aQ, bI, aG, if_neg (by decide), aM, bI, show decide (jP s (fK 0 b) = Int.ofNat 0) = false from decide_eq_false q1]
  exact two
theorem aEU {hb0 : Hp} (w : Wf hb0) {s : Rm} (e0 : (gK s).2.2 = 0) {b : List Nat} (hb : leastOf s (iR s) = some b) {r : List Value} (A : DI hb0 s r) {p : Value} (ar : At hb0 p r) {l : Value} (sl : kR hb0 1 l ((nZ s (fK 0 b)).map cZ)) {v : Value} {xs : List Nat} (sx : kR hb0 1 v (xs.map K9)) (hx : ∀ x ∈ xs, x ≤ 255) :
  ∀ (m i n : Nat) (h : Hp) (u : Value) (M : List Int), aV hb0 h → qO hb0 h u M → M.length = i → (∀ x ∈ M, 0 ≤ x ∧ x ≤ 7) → i + m = s.bF.length → m + 50 ≤ n →
  ∃ h', aK LY n 1 (AL.v v (AL.v p (AL.v l (AL.i (iP s (fK 0 b)) (AL.i (qD s).2.1 (AL.i (qD s).2.2 (AL.i (mJ ((nZ s (fK 0 b)).take i)) (AL.i (mJ M) (AL.v u (AL.i (i : Int) AL.n)))))))))) h = some (.bool true, h')
 | 0, i, n', h, u, M, g, iu, lM, bM, hi, hn => by
  obtain ⟨n, rfl⟩ : ∃ n, n' = n + 1 := ⟨n' - 1, by omega⟩
  have F := rG e0
  have hm : b ∈ iR s := kQ s (P := fun g => g ∈ iR s) (fun g hg => hg) _ hb
  obtain ⟨l1, l2, l3, l4⟩ := IP F (kG F hm).1
  rw [aN0]
  unfold aEC
  rw [(sl.sub g.sub).rows.len, List.length_map, aM, aU, aG, if_neg (by simp; omega), List.take_of_length_le (by omega), l3]
  exact aQ6 g.wf e0 hb (A.sub g.sub) (ar.sub g.sub) (sl.sub g.sub) iu.sl (by omega) bM n (by omega)
 | m + 1, i, n', h, u, M, g, iu, lM, bM, hi, hn => by
  obtain ⟨n, rfl⟩ : ∃ n, n' = n + 1 := ⟨n' - 1, by omega⟩
  have F := rG e0
  have no := F.no
  have hm : b ∈ iR s := kQ s (P := fun g => g ∈ iR s) (fun g hg => hg) _ hb
  obtain ⟨l1, l2, l3, l4⟩ := IP F (kG F hm).1
  have hi' : i < (nZ s (fK 0 b)).length := by omega
  have bi := l2 _ (List.getElem_mem hi')
  obtain ⟨y, ey, ay, _⟩ := (sl.sub g.sub).rows.at (i := i) (r := cZ (nZ s (fK 0 b))[i]) (by rw [List.getElem?_map, List.getElem?_eq_getElem hi']; rfl)
  obtain ⟨t, et, ht⟩ := aGF (h := h) (sx.sub g.sub).rows hx i
  have s1 := WM ((nZ s (fK 0 b)).take i) 2000 fun y hy => l2 y (List.mem_of_mem_take hy)
  have s2 := WM M 7 bM
  rw [List.length_take] at s1
  have mi : ((min i (nZ s (fK 0 b)).length : Nat) : Int) ≤ 4 := by omega
  have e8 : ((t : Int) % (Int.ofNat 8)) = ((t % 8 : Nat) : Int) := (Int.natCast_emod t 8).symm
  rw [aN0]
  unfold aEC
  rw [(sl.sub g.sub).rows.len, List.length_map, aM, aU, aG, if_pos (by simp; omega), ey, ay.jT (x := .int .i64 (nZ s (fK 0 b))[i]) rfl, aH, aM, aU, aG, if_neg (by simp; omega), et, aJ, aB, aH, aNE (by omega) (by decide), BU, e8, ey, ay.jT (x := .int .i64 (nZ s (fK 0 b))[i]) rfl, aH]
  have t8 : t % 8 < 8 := Nat.mod_lt _ (by decide)
  rw [show Int.add (mJ ((nZ s (fK 0 b)).take i)) (nZ s (fK 0 b))[i] = mJ ((nZ s (fK 0 b)).take i) + (nZ s (fK 0 b))[i] from rfl, wrap64_in _ (by omega) (by omega), show Int.add (mJ M) ((t % 8 : Nat) : Int) = mJ M + ((t % 8 : Nat) : Int) from rfl, wrap64_in _ (by omega) (by omega), V7, aB]
  obtain ⟨v2, h2, e2, g2, nm2⟩ := xQ w g iu (by omega) ((t % 8 : Nat) : Int)
  rw [e2, aB, show Int.add (i : Int) (Int.ofNat 1) = ((i + 1 : Nat) : Int) from rfl, wrap64_in _ (by omega) (by omega), ← UB, ← UB, ← List.take_succ_eq_append_getElem hi']
  refine aEU w e0 hb A ar sl sx hx m (i + 1) n h2 v2 (M ++ [((t % 8 : Nat) : Int)]) g2 nm2 (by simp [lM]) (fun x hxm => ?_) (by omega) (by omega)
  rcases List.mem_append.1 hxm with q | q
  ·exact bM x q
  ·rw [List.mem_singleton] at q; omega
theorem aN2 {h : Hp} (w : Wf h) {s : Rm} {r : List Value} (a : DI h s r) {v : Value} {xs : List Nat} (sl : kR h 1 v (xs.map K9)) (hx : ∀ x ∈ xs, x ≤ 255) : ∃ h', F11 [.agg (Array.mk r), v] h = some (.bool true, h') := by
 have start : F11 [.agg (Array.mk r), v] h = aMR (aK LY 999999) (.agg (Array.mk r)) v h := rfl
 rw [start]
 unfold aMR
 have hr4 := a.len
 rw [fA, bO]
 have g1 : aV h (h.add (.cells r 25 none)) := aV.add w _
 have a1 : At (h.add (.cells r 25 none)) (.pointer (some ⟨h.next, 0, none⟩)) r := At.new
 replace a := a.sub g1.sub
 replace sl := sl.sub g1.sub
 clear start
 generalize h.add (.cells r 25 none) = h1 at g1 a1 a sl ⊢
 generalize Value.pointer (some ⟨h.next, 0, none⟩) = p at a1 ⊢
 obtain ⟨h2', v2, e2, g2', i2'⟩ := aNW (h := bZ h1) (fB g1.wf) a
 obtain ⟨h2, e3, g2, i2⟩ := DR g1.wf e2 g2' i2'
 rw [a1.eU (z := 4) hr4, e3, aB, bH (v := v2) rfl, bH (v := .int .i64 (L8 s).2.1) rfl, aH, bH (v := .int .i64 (L8 s).2.2) rfl, aH]
 replace a := a.sub g2.sub
 replace a1 := a1.sub g2.sub
 replace sl := sl.sub g2.sub
 obtain ⟨h4, e4⟩ := FO (h := bZ h2) (fB g2.wf) a
 rw [a1.eU (z := 4) hr4, bJ e4 rfl, aB, aW, aQ, aG]
 by_cases e0 : (gK s).2.2 = 0
 case neg =>
  have be : L8 s = ([], 0, (gK s).2.2) := by unfold L8; rw [if_pos e0]
  rw [be] at i2 ⊢
  rw [if_pos (by simpa using e0), aQ, bI, aG, if_pos (by simpa using e0), i2.sl.rows.len, aM, bI, aG, if_pos (by rfl), aM, bI, aG, if_pos (by rfl), IG, aB, aW]
  exact ⟨_, rfl⟩
 have F := rG e0
 have nf := F.nf
 have np := F.np
 have no := F.no
 obtain ⟨h5', v5, e5, g5', i5'⟩ := J4 (h := bZ h2) (fB g2.wf) a
 obtain ⟨h5, e6, g5, i5⟩ := DR g2.wf e5 g5' i5'
 rw [if_neg (by rw [e0]; decide), a1.eU (z := 4) hr4, e6, aB, bH (v := v5) rfl, bH (v := .int .i64 (qD s).2.1) rfl, aH, bH (v := .int .i64 (qD s).2.2) rfl, aH]
 replace a := a.sub g5.sub
 replace a1 := a1.sub g5.sub
 replace sl := sl.sub g5.sub
 have i2s := (i2.sl).sub g5.sub
 obtain ⟨vo, vf, vp, l1, l2, l3, l4, l5, l6⟩ : ∃ vo vf vp, (∀ (ρ : Type) (k : Value → Option ρ), (aR 3 p fun v => aI h5 v k) = k vp) ∧ (∀ (ρ : Type) (k : Int → Option ρ), bW vp k = k (s.dF.length : Int)) ∧ (∀ (ρ : Type) (k : Value → Option ρ), (aR 2 p fun v => aI h5 v k) = k vf) ∧ (∀ (ρ : Type) (k : Int → Option ρ), bW vf k = k (s.dZ.length : Int)) ∧ (∀ (ρ : Type) (k : Value → Option ρ), (aR 1 p fun v => aI h5 v k) = k vo) ∧ (∀ (ρ : Type) (k : Int → Option ρ), bW vo k = k (s.bF.length : Int)) := by
  obtain ⟨vc, vo, vf, vp, rfl, sc, so, sf, sp, af, ap⟩ := a
  exact ⟨vo, vf, vp, fun ρ k => a1.vV 3 (x := vp) rfl k, fun ρ k => by rw [sp.rows.len, List.length_map], fun ρ k => a1.vV 2 (x := vf) rfl k, fun ρ k => by rw [sf.rows.len, List.length_map], fun ρ k => a1.vV 1 (x := vo) rfl k, fun ρ k => by rw [so.rows.len, List.length_map]⟩
 rw [l1, l2, l3, l4, aM, aU, aG]
 cases hq : leastOf s (iR s) with
 | none =>
  have lt := (QC e0).1 hq
  have be : L8 s = ([], 0, 9) := by unfold L8; rw [if_neg (by simpa using e0), hq]
  have bo : mI s = none := by unfold mI; rw [hq]
  have bb : qD s = ([], 0, 9) := by unfold qD; rw [if_neg (by simpa using e0), bo]
  rw [be] at i2s
  rw [be, bb, if_pos (by simpa using lt), aM, bI, aG, if_pos (by rfl), aM, bI, aG, if_pos (by rfl), i2s.rows.len, aM, bI, aG, if_pos (by rfl), aM, bI, aG, if_pos (by rfl), IG, aB, aW]
  exact ⟨_, rfl⟩
 | some b =>
  have nlt : ¬ s.dZ.length < s.dF.length := fun q => by rw [(QC e0).2 q] at hq; cases hq
  obtain ⟨be, _⟩ := ZW e0 hq
  have hm : b ∈ iR s := kQ s (P := fun g => g ∈ iR s) (fun g hg => hg) _ hq
  obtain ⟨m1, _⟩ := IP F (kG F hm).1
  rw [be] at i2s ⊢
  replace i2s : kR h5 1 v2 ((nZ s (fK 0 b)).map cZ) := i2s
  rw [if_neg (by simp; omega), aQ, bI, aG, if_neg (by exact Bool.false_ne_true), i2s.rows.len, List.length_map, l5, l6, m1, aQ, bI, aG, if_neg (by simp)]
  exact aEU g5.wf e0 hq a a1 i2s sl hx s.bF.length 0 999999 h5 (.slice none 0 0) [] (aV.refl g5.wf) (.inl ⟨rfl, rfl⟩) rfl (fun x h => by cases h) (by omega) (by omega)
end Go.Proofs.Ytdpicdnpiihaaaa.K.L
