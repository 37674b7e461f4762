/- The law about Buy: with more ounces, and with fewer. -/
import Derived.Test.YtdpicdnpiihaaaaBoV49
open Go Go.bK
set_option maxRecDepth 100000
set_option linter.unusedVariables false
namespace Go.Proofs.Ytdpicdnpiihaaaa.K.L
theorem aN0 (n : Nat) (v p l : Value) (a b c d e i : Int) (u : Value) (h : Hp) : aK LY (n + 1) 1 (AL.v v (AL.v p (AL.v l (AL.i a (AL.i b (AL.i c (AL.i d (AL.i e (AL.v u (AL.i i AL.n)))))))))) h = aEC (aK LY n) v p l a b c d e u i h := rfl
theorem aV7 (n : Nat) (p l : Value) (a d e : Int) (u : Value) (o : Bool) (h : Hp) : aK LY (n + 1) 2 (AL.v p (AL.v l (AL.i a (AL.i d (AL.i e (AL.v u (AL.b o AL.n))))))) h = aMP (aK LY n) p l a d e u o h := rfl
theorem aN1 (n : Nat) (p : Value) (o : Bool) (h : Hp) : aK LY (n + 1) 3 (AL.v p (AL.b o AL.n)) h = aEB (aK LY n) p o h := rfl
theorem aV8 (n : Nat) (h : Hp) : aK LY (n + 1) 4 AL.n h = aMM (aK LY n) h := rfl
theorem aV9 (n : Nat) (d e : Int) (p : Value) (h : Hp) : aK LY (n + 1) 5 (AL.i d (AL.i e (AL.v p AL.n))) h = aMN (aK LY n) d e p h := rfl
theorem aWA (n : Nat) (p l : Value) (a d e : Int) (u : Value) (h : Hp) : aK LY (n + 1) 6 (AL.v p (AL.v l (AL.i a (AL.i d (AL.i e (AL.v u AL.n)))))) h = aMO (aK LY n) p l a d e u h := rfl
theorem aWB (n : Nat) (p l : Value) (a b c d e : Int) (u : Value) (h : Hp) : aK LY (n + 1) 7 (AL.v p (AL.v l (AL.i a (AL.i b (AL.i c (AL.i d (AL.i e (AL.v u AL.n)))))))) h = aMQ (aK LY n) p l a b c d e u h := rfl
theorem aQ4 (H : Hp) (ro : Nat) (x y : dG) (h : H.ro = ro) : Hp.mk (H.next + 1 + 1) ro (aP [(H.next + 1, y)] (aP [(H.next, x)] H.aC)) = (H.add x).add y := by
 rw [← h]; rfl
theorem aET {h : Hp} (w : Wf h) {s : Rm} (F : lJ s) {b : List Nat} (hb : leastOf s (iR s) = some b) {M : List Int} (lm : M.length = s.bF.length) (bm : ∀ x ∈ M, 0 ≤ x) {r : List Value} (A : DI h (more s M) r) {p : Value} (ar : At h p r) (n : Nat) (hn : 10 ≤ n) :
  ∃ h', aK LY n 5 (AL.i (jP s (fK 0 b)) (AL.i (mJ M) (AL.v p AL.n))) h = some (.bool true, h') := by
 obtain ⟨n, rfl⟩ : ∃ n', n = n' + 3 := ⟨n - 3, by omega⟩
 have four : ∀ (h : Hp) (n : Nat), ∃ h', aK LY (n + 2) 3 (AL.v p (AL.b false AL.n)) h = some (.bool true, h') := fun h n => by
  rw [aN1 (n + 1)]
  unfold aEB
  rw [aG, if_neg (by decide), aV8]
  unfold aMM
  rw [IG, aB, aW]
  exact ⟨_, rfl⟩
 obtain ⟨h2, e2⟩ := FO (h := bZ h) (fB w) A
 rw [aV9 (n + 2)]
 unfold aMN
 rw [ar.eU (z := 4) A.len, bJ e2 rfl, aB, aW, aG]
 by_cases e0 : (gK (more s M)).2.2 = 0
 case neg =>
  rw [if_neg (by simpa using e0)]
  exact four h n
 rw [if_pos (by simpa using e0), aM, aU]
 by_cases c : mJ M < jP s (fK 0 b)
 case neg =>
  rw [decide_eq_false c]
  exact four h n
 rw [decide_eq_true c, aN1 (n + 1)]
 unfold aEB
 have fb := aNZ F hb lm bm c e0
 obtain ⟨h3', v3, e3, g3, i3⟩ := J4 (h := bZ h) (fB w) A
 rw [fb] at e3 i3
 obtain ⟨h3, e4, g4, i4⟩ := DR w e3 g3 i3
 rw [aG, if_pos rfl, ar.eU (z := 4) A.len, e4, aB, bH (v := v3) rfl, bH (v := .int .i64 0) rfl, aH, bH (v := .int .i64 9) rfl, aH, aM, bI, aG, if_pos (by decide), IG, aB, aW]
 exact ⟨_, rfl⟩
theorem ZX {h : Hp} {s : Rm} (F : lJ s) {vc vo vf vp : Value} (sc : kR h 1 vc (s.costs.map cZ)) : kT (.agg (Array.mk (bT vc vo vf vp))) = false := by
 rcases sc with ⟨_, h2⟩ | ⟨b, c, t, k, rfl, _⟩
 ·have := F.nc
  have := congrArg List.length h2
  rw [List.length_map] at this
  have t0 : s.costs.length = 0 := this
  omega
 ·rw [nP]; rfl
theorem aQ5 {h : Hp} (w : Wf h) {s : Rm} (F : lJ s) {b : List Nat} (hb : leastOf s (iR s) = some b) {vc vo vf vp : Value} (A : DI h s (bT vc vo vf vp)) (sc : kR h 1 vc (s.costs.map cZ)) (sf : kR h 3 vf (s.dZ.map Lk.row)) (sp : kR h 3 vp (s.dF.map Lk.row)) (af : ∀ g ∈ s.dZ, PI h g) (ap : ∀ g ∈ s.dF, PI h g)
  {p : Value} (ar : At h p (bT vc vo vf vp)) {l : Value} (sl : kR h 1 l ((nZ s (fK 0 b)).map cZ)) {u : Value} {M : List Int} (su : kR h 1 u (M.map cZ)) (lm : M.length = s.bF.length) (bm : ∀ x ∈ M, 0 ≤ x ∧ x ≤ 7) (n : Nat) (hn : 20 ≤ n) :
  ∃ h', aK LY (n + 1) 6 (AL.v p (AL.v l (AL.i (iP s (fK 0 b)) (AL.i (jP s (fK 0 b)) (AL.i (mJ M) (AL.v u AL.n)))))) h = some (.bool true, h') := by
 have hm : b ∈ iR s := kQ s (P := fun g => g ∈ iR s) (fun g hg => hg) _ hb
 have ip := (kG F hm).1
 obtain ⟨l1, l2, l3, l4⟩ := IP F ip
 rw [aWA]
 unfold aMO
 have as' : At (Hp.mk h.next h.next h.aC) p (bT vc vo vf vp) := ar
 have As : DI (bZ h) s (bT vc vo vf vp) := A
 have sls : kR (bZ h) 1 l ((nZ s (fK 0 b)).map cZ) := sl
 obtain ⟨h1, v1, e1, g1, i1⟩ := LH (h := bZ h) (fB w) F As sls l1 (fun x hx => by have := l2 x hx; omega)
 obtain ⟨H1, W1, gH1, sH1, eH1, ek1⟩ := LF w e1 (ZX F (vo := v1) (vf := vf) (vp := vp) sc) g1
 rw [as'.eU (z := 4) rfl, ek1]
 have ob1 : aP W1 h.aC = H1.aC := congrArg Hp.aC eH1
 have as1 : At (Hp.mk H1.next H1.next h.aC) p (bT vc vo vf vp) := ar
 have A1 : DI (bZ H1) s (bT vc vo vf vp) := A.sub gH1.sub
 have su1 : kR (bZ H1) 1 u (M.map cZ) := su.sub gH1.sub
 obtain ⟨h2, v2, e2, g2, i2⟩ := LH (h := bZ H1) (fB gH1.wf) F A1 su1 lm (fun x hx => by have := bm x hx; omega)
 obtain ⟨H2, W2, gH2, sH2, eH2, ek2⟩ := LF gH1.wf e2 (ZX F (vo := v2) (vf := vf) (vp := vp) (sc.sub gH1.sub)) g2
 rw [as1.eU (z := 4) rfl, ob1, ek2, bO]
 have aAJ : H2.ro = h.ro := gH2.ro.trans gH1.ro
 have ob2 : aP W2 H1.aC = H2.aC := congrArg Hp.aC eH2
 rw [show (Hp.mk H2.next H2.next T.nil).next = H2.next from rfl, DL, bO, show (Hp.mk (H2.next + 1) (H2.next + 1) T.nil).next = H2.next + 1 from rfl, DL, ob2, aQ4 H2 h.ro _ _ aAJ,
  show [(Value.slice none 0 0), (Value.slice none 0 0), (Value.slice none 0 0), (Value.slice none 0 0)] = kY from rfl]
 have iv1 : qO h H2 v1 (l9 s.bF (nZ s (fK 0 b))) := (i1.kept sH1).sub gH2.sub
 have iv2 : qO H1 H2 v2 (l9 s.bF M) := i2.kept sH2
 have gg := gH1.trans gH2
 have ga := aV.add gH2.wf (.cells kY 25 none)
 have gb := ga.trans (aV.add ga.wf (.cells kY 25 none))
 have d1 : ((H2.add (.cells kY 25 none)).add (.cells kY 25 none)).get H2.next = some (.cells kY 25 none) := by
  rw [bR, if_neg (by rw [mF]; omega), bR]; exact if_pos rfl
 have d2 : ((H2.add (.cells kY 25 none)).add (.cells kY 25 none)).get (H2.next + 1) = some (.cells kY 25 none) := by rw [bR]; exact if_pos rfl
 have nx : ((H2.add (.cells kY 25 none)).add (.cells kY 25 none)).next = H2.next + 2 := rfl
 generalize (H2.add (.cells kY 25 none)).add (.cells kY 25 none) = h3 at gb d1 d2 nx ⊢
 have one := A.one
 have on : ∀ v : Value, oneCell v = true → (bT vc v vf vp).all oneCell = true := fun v hv => by
  simp only [bT, List.all_cons, List.all_nil, Bool.and_true, Bool.and_eq_true] at one ⊢
  exact ⟨one.1, hv, one.2.2⟩
 have wr := gH2.wf.1
 have r3 : h3.ro = H2.ro := gb.ro
 rw [qB (n := 4) (c := kY) (t := 25) (s := none) d1 (by omega) rfl (on v1 iv1.one) (by show 0 + 4 ≤ 4; decide), show List.take 0 kY ++ bT vc v1 vf vp ++ List.drop (0 + (bT vc v1 vf vp).length) kY = bT vc v1 vf vp from rfl]
 have gc : aV H2 (h3.upd H2.next (.cells (bT vc v1 vf vp) 25 none)) := aV.upd gH2.wf gb (Nat.le_refl _) (by omega) _
 have c1 : (h3.upd H2.next (.cells (bT vc v1 vf vp) 25 none)).get H2.next = some (.cells (bT vc v1 vf vp) 25 none) := by rw [bU, if_pos rfl]
 have c2 : (h3.upd H2.next (.cells (bT vc v1 vf vp) 25 none)).get (H2.next + 1) = some (.cells kY 25 none) := by rw [bU, if_neg (by omega)]; exact d2
 have nc : (h3.upd H2.next (.cells (bT vc v1 vf vp) 25 none)).next = H2.next + 2 := nx
 generalize h3.upd H2.next (.cells (bT vc v1 vf vp) 25 none) = h4 at gc c1 c2 nc ⊢
 have r4 : h4.ro = H2.ro := gc.ro
 rw [qB (n := 4) (c := kY) (t := 25) (s := none) c2 (by omega) rfl (on v2 iv2.one) (by show 0 + 4 ≤ 4; decide), show List.take 0 kY ++ bT vc v2 vf vp ++ List.drop (0 + (bT vc v2 vf vp).length) kY = bT vc v2 vf vp from rfl]
 have gd : aV H2 (h4.upd (H2.next + 1) (.cells (bT vc v2 vf vp) 25 none)) := aV.upd gH2.wf gc (by omega) (by omega) _
 have a1 : At (h4.upd (H2.next + 1) (.cells (bT vc v2 vf vp) 25 none)) (.pointer (some ⟨H2.next, 0, none⟩)) (bT vc v1 vf vp) := ⟨H2.next, 0, _, 25, none, rfl, by rw [bU, if_neg (by omega)]; exact c1, by show 0 + 4 ≤ 4; decide, fun k x hx => by rw [Nat.zero_add]; exact hx⟩
 have a2 : At (h4.upd (H2.next + 1) (.cells (bT vc v2 vf vp) 25 none)) (.pointer (some ⟨H2.next + 1, 0, none⟩)) (bT vc v2 vf vp) := ⟨H2.next + 1, 0, _, 25, none, rfl, by rw [bU, if_pos rfl], by show 0 + 4 ≤ 4; decide, fun k x hx => by rw [Nat.zero_add]; exact hx⟩
 generalize h4.upd (H2.next + 1) (.cells (bT vc v2 vf vp) 25 none) = h5 at gd a1 a2 ⊢
 have gz := gg.trans gd
 have R1 : DI h5 (more s (nZ s (fK 0 b))) (bT vc v1 vf vp) := ⟨_, _, _, _, rfl, sc.sub gz.sub, (iv1.sub gd.sub).sl, sf.sub gz.sub, sp.sub gz.sub, fun g hg => (af g hg).sub gz.sub, fun g hg => (ap g hg).sub gz.sub⟩
 have R2 : DI h5 (more s M) (bT vc v2 vf vp) := ⟨_, _, _, _, rfl, sc.sub gz.sub, (iv2.sub gd.sub).sl, sf.sub gz.sub, sp.sub gz.sub, fun g hg => (af g hg).sub gz.sub, fun g hg => (ap g hg).sub gz.sub⟩
 obtain ⟨h6, e6⟩ := FO (h := bZ h5) (fB gz.wf) R1
 rw [a1.eU (z := 4) rfl, bJ e6 rfl, aB, aW, aG]
 by_cases e0 : (gK (more s (nZ s (fK 0 b)))).2.2 = 0
 case neg =>
  rw [if_neg (by simpa using e0)]
  exact aET gz.wf F hb lm (fun x hx => (bm x hx).1) R2 a2 n (by omega)
 obtain ⟨bb, mb⟩ := aGP F hb e0
 obtain ⟨h7', v7, e7, g7, i7⟩ := J4 (h := bZ h5) (fB gz.wf) R1
 rw [mb] at e7 i7
 obtain ⟨h7, e8, g8, i8⟩ := DR gz.wf e7 g7 i7
 rw [if_pos (by simpa using e0), a1.eU (z := 4) rfl, e8, aB, bH (v := v7) rfl, bH (v := .int .i64 (iP s (fK 0 b))) rfl, aH, bH (v := .int .i64 0) rfl, aH, aQ, bI, aG, if_neg (by decide), aQ, bI, aG, if_neg (by simp)]
 exact aET g8.wf F hb lm (fun x hx => (bm x hx).1) (R2.sub g8.sub) (a2.sub g8.sub) n (by omega)
end Go.Proofs.Ytdpicdnpiihaaaa.K.L
