/- The law about hair: what is left is, together, all Ounces, and what is added, less what is taken. -/
import Derived.Test.YtepepiajmdpiiaaHaS29
open Go Go.Eng
set_option maxRecDepth 100000
set_option linter.unusedVariables false
namespace Go.Proofs.Ytepepiajmdpiiaa.K.L
def kI : List Int → Int
 | [] => 0
 | x :: l => x + kI l
theorem NP : ∀ a b : List Int, kI (a ++ b) = kI a + kI b
 | [], b => by show kI b = 0 + kI b; omega
 | x :: a, b => by show x + kI (a ++ b) = x + kI a + kI b; rw [NP a b]; omega
theorem IG : ∀ l : List Int, (∀ x ∈ l, x = 0) → kI l = 0
 | [], _ => rfl
 | x :: l, h => by
  show x + kI l = 0
  rw [h x (.head _), IG l fun y hy => h y (.tail _ hy)]; rfl
theorem NQ : ∀ (W : List Int) (i : Nat) (d : Int), i < W.length → kI (W.set i (W.getD i 0 + d)) = kI W + d
 | [], i, d, h => by simp at h
 | x :: W, 0, d, h => by show x + d + kI W = x + kI W + d; omega
 | x :: W, i + 1, d, h => by
  show x + kI (W.set i (W.getD i 0 + d)) = x + kI W + d
  rw [NQ W i d (by simpa using h)]; omega
def CK (s : Rm) (c : Nat × Nat) : Int := if hch s c then qH s c - BI s c else 0
def FN (s : Rm) : List (Nat × Nat) → Int
 | [] => 0
 | c :: l => CK s c + FN s l
theorem aJI {s : Rm} (F : qK s) {c : Nat × Nat} (h1 : c.1 < s.cK.length) (h2 : c.2 < s.dB.length) : -50 ≤ CK s c ∧ CK s c ≤ 50 := by
 have e1 := F.fs _ (List.getElem_mem h1)
 have e2 := F.ps _ (List.getElem_mem h2)
 have hfo : qH s c = (s.cK[c.1]).iR := by unfold qH; rw [List.getElem?_eq_getElem h1]; rfl
 have hpo : BI s c = (s.dB[c.2]).iR := by unfold BI; rw [List.getElem?_eq_getElem h2]; rfl
 unfold CK
 cases hch s c with
 | false => simp
 | true => rw [if_pos rfl]; omega
theorem QN {s : Rm} (F : qK s) : ∀ (l : List (Nat × Nat)) (W : List Int), W.length = 4 → (∀ ch ∈ l, ch.1 < s.cK.length ∧ ch.2 < s.dB.length) → kI (mM s W l) = kI W + FN s l
 | [], W, _, _ => by show kI W = kI W + 0; omega
 | c :: l, W, hW, hl => by
  obtain ⟨h1, h2⟩ := hl c (.head _)
  have hf : s.cK[c.1]? = some s.cK[c.1] := List.getElem?_eq_getElem h1
  have hq : s.dB[c.2]? = some s.dB[c.2] := List.getElem?_eq_getElem h2
  have e1 := F.fs _ (List.getElem_mem h1)
  have e2 := F.ps _ (List.getElem_mem h2)
  have no := F.no
  have hfh : qG s c = eU s.cK[c.1] := by unfold qG; rw [hf]; rfl
  have hph : zO s c = eU s.dB[c.2] := by unfold zO; rw [hq]; rfl
  have st : kI (stepW s W c) = kI W + CK s c ∧ (stepW s W c).length = 4 := by
   unfold stepW CK
   cases x : hch s c with
   | false => simp [hW]
   | true =>
    rw [if_pos rfl, if_pos rfl]
    refine ⟨?_, by rw [sK, sK]; exact hW⟩
    unfold qF
    rw [NQ _ _ _ (by rw [List.length_set]; omega), NQ _ _ _ (by omega)]
    omega
  show kI (mM s (stepW s W c) l) = kI W + (CK s c + FN s l)
  rw [QN F l (stepW s W c) st.2 (fun d hd => hl d (.tail _ hd)), st.1]
  omega
theorem aJJ {s : Rm} (F : qK s) {l : List (Nat × Nat)} (hl : InP s l) : kI ((mM s (W0 s) l).take s.bH.length) = kI s.bH + FN s l := by
 obtain ⟨w1, _⟩ := aCV F
 have a := QN F l (W0 s) w1 hl.2
 have b := IG _ (aAN F hl)
 have c : kI (W0 s) = kI s.bH := by
  unfold W0
  rw [NP, IG (List.replicate _ 0) fun x hx => (List.mem_replicate.1 hx).2]; omega
 rw [← List.take_append_drop s.bH.length (mM s (W0 s) l), NP, b] at a
 omega
theorem aJK (n : Nat) (p v x : Value) (e a i : Int) (h : Hp) : aP JV (n + 1) 1 (AL.v p (AL.v v (AL.v x (AL.i e (AL.i a (AL.i i AL.n)))))) h = XL (aP JV n) p v x e a i h := rfl
theorem aJL (n : Nat) (p v x : Value) (e a i : Int) (h : Hp) : aP JV (n + 1) 2 (AL.v p (AL.v v (AL.v x (AL.i e (AL.i a (AL.i i AL.n)))))) h = XM (aP JV n) p v x e a i h := rfl
theorem aTR (n : Nat) (p v x : Value) (e a i : Int) (f q : Value) (b : Bool) (h : Hp) : aP JV (n + 1) 3 (AL.v p (AL.v v (AL.v x (AL.i e (AL.i a (AL.i i (AL.v f (AL.v q (AL.b b AL.n))))))))) h = aC9 (aP JV n) p v x e a i f q b h := rfl
theorem aTS (n : Nat) (p v x : Value) (e a i : Int) (h : Hp) : aP JV (n + 1) 4 (AL.v p (AL.v v (AL.v x (AL.i e (AL.i a (AL.i i AL.n)))))) h = aDA (aP JV n) p v x e a i h := rfl
theorem aJM (n : Nat) (p x : Value) (e a i : Int) (h : Hp) : aP JV (n + 1) 5 (AL.v p (AL.v x (AL.i e (AL.i a (AL.i i AL.n))))) h = XN (aP JV n) p x e a i h := rfl
theorem aTT (n : Nat) (p x : Value) (e a : Int) (h : Hp) : aP JV (n + 1) 6 (AL.v p (AL.v x (AL.i e (AL.i a AL.n)))) h = aDB (aP JV n) p x e a h := rfl
theorem aTU (n : Nat) (p x : Value) (e a : Int) (h : Hp) : aP JV (n + 1) 7 (AL.v p (AL.v x (AL.i e (AL.i a AL.n)))) h = aP JV n 5 (AL.v p (AL.v x (AL.i e (AL.i a (AL.i (Int.ofNat 0) AL.n))))) h := rfl
theorem aTV (n : Nat) (p v x : Value) (e a : Int) (h : Hp) : aP JV (n + 1) 8 (AL.v p (AL.v v (AL.v x (AL.i e (AL.i a AL.n))))) h = aP JV n 2 (AL.v p (AL.v v (AL.v x (AL.i e (AL.i a (AL.i (Int.ofNat 0) AL.n)))))) h := rfl
theorem aDC : ∀ (l : List Int) (B : Int), 0 ≤ B → (∀ y ∈ l, -B ≤ y ∧ y ≤ B) → -(B * (l.length : Int)) ≤ kI l ∧ kI l ≤ B * (l.length : Int)
 | [], B, _, _ => ⟨by show -(B * 0) ≤ (0 : Int); simp, by show (0 : Int) ≤ B * 0; simp⟩
 | z :: l, B, hB, hy => by
  have ih := aDC l B hB fun y h => hy y (.tail _ h)
  have := hy z (.head _)
  show -(B * ((l.length + 1 : Nat) : Int)) ≤ z + kI l ∧ z + kI l ≤ B * ((l.length + 1 : Nat) : Int)
  rw [show B * ((l.length + 1 : Nat) : Int) = B * (l.length : Int) + B from by rw [Int.natCast_add, Int.mul_add]; simp]
  omega
theorem aDD {h : Hp} {p vc vo vf vp x : Value} {s : Rm} (ar : At h p (iF vc vo vf vp)) (so : jZ h 1 vo (s.bH.map dL)) {L : List Int} (sx : jZ h 1 x (L.map dL)) (hL : L.length = s.bH.length) (hl : L.length ≤ 4) (hB : ∀ y ∈ L, -2000 ≤ y ∧ y ≤ 2000) : ∀ (m i n : Nat) (a : Int), i + m = L.length → m + 3 ≤ n → a = kI (L.drop i) →
  aP JV n 5 (AL.v p (AL.v x (AL.i 0 (AL.i a (AL.i (i : Int) AL.n))))) h = some (.bool true, h)
 | 0, i, n', a, hi, hn, ha => by
  obtain ⟨n, rfl⟩ : ∃ n, n' = n + 2 := ⟨n' - 2, by omega⟩
  rw [List.drop_of_length_le (by omega)] at ha
  rw [aJM]
  unfold XN
  rw [sx.rows.len, List.length_map, aU, bE, aJ, if_neg (by simp; omega), aTT]
  unfold aDB
  rw [aU, dO, aJ, if_pos (by simp), sx.rows.len, List.length_map, ar.qN 1 (x := vo) rfl, so.rows.len, List.length_map, aU, dO, aJ, if_pos (by simp [hL]), aU, dO, aJ, if_pos (by rw [ha]; rfl), NE, aH, bV]
 | m + 1, i, n', a, hi, hn, ha => by
  obtain ⟨n, rfl⟩ : ∃ n, n' = n + 1 := ⟨n' - 1, by omega⟩
  have hi' : i < L.length := by omega
  obtain ⟨y, ey, ay, _⟩ := sx.rows.at (i := i) (r := dL L[i]) (by rw [List.getElem?_map, List.getElem?_eq_getElem hi']; rfl)
  have b := hB _ (List.getElem_mem hi')
  have k1 := aDC (L.drop (i + 1)) 2000 (by decide) fun y hy => hB y (List.mem_of_mem_drop hy)
  rw [List.length_drop] at k1
  rw [List.drop_eq_getElem_cons hi', show kI (L[i] :: L.drop (i + 1)) = L[i] + kI (L.drop (i + 1)) from rfl] at ha
  rw [aJM]
  unfold XN
  rw [sx.rows.len, List.length_map, aU, bE, aJ, if_pos (by simp; omega), ey, ay.jT (x := .int .i64 L[i]) rfl, aO, show Int.sub a L[i] = a - L[i] from rfl, wrap64_in _ (by omega) (by omega), show Int.add (i : Int) (Int.ofNat 1) = ((i + 1 : Nat) : Int) from rfl, wrap64_in _ (by omega) (by omega)]
  exact aDD ar so sx hL hl hB m (i + 1) n (a - L[i]) (by omega) (by omega) (by omega)
theorem aDE {hb : Hp} {s : Rm} (F : qK s) {p v x vc vo vf vp : Value} (A : FI hb s (iF vc vo vf vp)) (so : jZ hb 1 vo (s.bH.map dL)) (sf : jZ hb 3 vf (s.cK.map Lk.row)) (sp : jZ hb 3 vp (s.dB.map Lk.row)) (ar : At hb p (iF vc vo vf vp)) {pl : List Int} (sl : jZ hb 1 v (pl.map dL)) (hx : ∀ x ∈ pl, 0 ≤ x ∧ x ≤ (s.cK.length : Int) - 1) (hl : pl.length = s.dB.length)
  {L : List Int} (sx : jZ hb 1 x (L.map dL)) (hL : L.length = s.bH.length) (hB : ∀ y ∈ L, -2000 ≤ y ∧ y ≤ 2000) :
  ∀ (m k n : Nat) (h : Hp) (acc : Int), bI hb h → k + m = pl.length → 3 * m + 20 ≤ n → acc + FN s ((BZ 0 pl).drop k) = kI L → -1000 - 100 * (k : Int) ≤ acc → acc ≤ 1000 + 100 * (k : Int) →
  ∃ h', aP JV n 2 (AL.v p (AL.v v (AL.v x (AL.i 0 (AL.i acc (AL.i (k : Int) AL.n)))))) h = some (.bool true, h')
 | 0, k, n', h, acc, g, hk, hn, hs, h0, h1 => by
  obtain ⟨n, rfl⟩ : ∃ n, n' = n + 2 := ⟨n' - 2, by omega⟩
  have no := F.no
  rw [List.drop_of_length_le (by rw [FK]; omega), show FN s [] = 0 from rfl, Int.add_zero] at hs
  rw [aJL]
  unfold XM
  rw [(sl.sub g.sub).rows.len, List.length_map, aU, bE, aJ, if_neg (by simp; omega), aTU, show (Int.ofNat 0) = ((0 : Nat) : Int) from rfl, aDD (ar.sub g.sub) (so.sub g.sub) (sx.sub g.sub) hL (by omega) hB L.length 0 n acc (by omega) (by omega) (by rw [List.drop_zero]; exact hs)]
  exact ⟨h, rfl⟩
 | m + 1, k, n', h, acc, g, hk, hn, hs, h0, h1 => by
  obtain ⟨n, rfl⟩ : ∃ n, n' = n + 3 := ⟨n' - 3, by omega⟩
  have np := F.np
  have hk' : k < pl.length := by omega
  have px := hx _ (List.getElem_mem hk')
  obtain ⟨i, ei⟩ : ∃ i : Nat, pl[k] = (i : Int) := ⟨(pl[k]).toNat, by omega⟩
  have hi : i < s.cK.length := by omega
  have hj : k < s.dB.length := by omega
  have hcg : (BZ 0 pl)[k]? = some (i, k) := by rw [aC1 pl 0 k pl[k] (List.getElem?_eq_getElem hk'), ei, Int.toNat_natCast, Nat.zero_add]
  have hkl : k < (BZ 0 pl).length := by rw [FK]; exact hk'
  have hce : (BZ 0 pl)[k] = (i, k) := by rw [List.getElem?_eq_getElem hkl] at hcg; exact Option.some.inj hcg
  have hf : s.cK[(i, k).1]? = some s.cK[i] := List.getElem?_eq_getElem hi
  have hq : s.dB[(i, k).2]? = some s.dB[k] := List.getElem?_eq_getElem hj
  rw [List.drop_eq_getElem_cons hkl, hce, show FN s ((i, k) :: (BZ 0 pl).drop (k + 1)) = CK s (i, k) + FN s ((BZ 0 pl).drop (k + 1)) from rfl] at hs
  have db := aJI F (c := (i, k)) hi hj
  obtain ⟨y, ey, ay, _⟩ := (sl.sub g.sub).rows.at (i := k) (r := dL pl[k]) (by rw [List.getElem?_map, List.getElem?_eq_getElem hk']; rfl)
  obtain ⟨xf, exf, axf, lxf⟩ := (sf.sub g.sub).rows.at (i := i) (r := (s.cK[i]).row) (by rw [List.getElem?_map, List.getElem?_eq_getElem hi]; rfl)
  obtain ⟨xp, exp, axp, lxp⟩ := (sp.sub g.sub).rows.at (i := k) (r := (s.dB[k]).row) (by rw [List.getElem?_map, List.getElem?_eq_getElem hj]; rfl)
  have p1 : At (Hp.mk h.next h.next h.aG) p (iF vc vo vf vp) := ar.sub g.sub
  have y1 : At (Hp.mk h.next h.next h.aG) y (dL pl[k]) := ay
  have f1 : At (Hp.mk h.next h.next h.aG) xf (s.cK[i]).row := axf
  have q1 : At (Hp.mk h.next h.next h.aG) xp (s.dB[k]).row := axp
  obtain ⟨_, _, _, _, _, _, _, _, _, aff, apf⟩ := A.sub g.sub
  have lf := aff _ (List.getElem_mem hi)
  have lq := apf _ (List.getElem_mem hj)
  obtain ⟨h2, g2, a1, a2, hk2⟩ := NJ g.wf (l1 := (s.cK[i]).row) (l2 := (s.dB[k]).row) rfl rfl lf.one lq.one (fun w14 w16 b => (bY [] b || (bY [] b || (bY [] b || (bY [] b || (bY [] b || (bY [] b || (bY [] b || (bY [] b || (bY w14 b || (bY w16 b || false))))))))))) (fun x w => by
   have hh : bY [(h.next, x)] h.next = true := by unfold bY; simp
   simp only [hh, Bool.true_or, Bool.or_true])
  rw [aJL (n + 2)]
  unfold XM
  rw [(sl.sub g.sub).rows.len, List.length_map, aU, bE, aJ, if_pos (by simp; omega), p1.qN 2 (x := vf) rfl, ey, y1.jT (x := .int .i64 pl[k]) rfl, aO, ei, exf, f1.gU (z := 3) rfl, p1.qN 3 (x := vp) rfl, exp, q1.gU (z := 3) rfl, show [(Value.string (ByteArray.mk #[])), (Value.slice none 0 0), (Value.int .i64 (Int.ofNat 0))] = kZ from rfl, hk2]
  have e1 := F.fs _ (List.getElem_mem hi)
  have e2 := F.ps _ (List.getElem_mem hj)
  have nc := F.nc
  have gb2 := g.trans g2
  have hhf := BA (g := s.cK[i]) (k := s.costs.length - 1) (by omega)
  have hhq := BA (g := s.dB[k]) (k := s.costs.length - 1) (by omega)
  obtain ⟨z1, ez1, az1, _⟩ := (lf.sub g2.sub).rows.at (i := 0) (r := dL (eU s.cK[i])) (by rw [List.getElem?_map, hhf]; rfl)
  obtain ⟨z2, ez2, az2, _⟩ := (lq.sub g2.sub).rows.at (i := 0) (r := dL (eU s.dB[k])) (by rw [List.getElem?_map, hhq]; rfl)
  have hd := aAK F (c := (i, k)) hf hq
  have hfo : qH s (i, k) = (s.cK[i]).iR := by unfold qH; rw [hf]; rfl
  have hpo : BI s (i, k) = (s.dB[k]).iR := by unfold BI; rw [hq]; rfl
  have four : ∀ a : Int, a = acc + CK s (i, k) → ∃ h', aP JV (n + 1) 4 (AL.v p (AL.v v (AL.v x (AL.i 0 (AL.i a (AL.i (k : Int) AL.n)))))) h2 = some (.bool true, h') := by
   intro a ha
   rw [aTS]
   unfold aDA
   rw [show Int.add (k : Int) (Int.ofNat 1) = ((k + 1 : Nat) : Int) from rfl, wrap64_in _ (by omega) (by omega)]
   exact aDE F A so sf sp ar sl hx hl sx hL hB m (k + 1) n h2 a gb2 (by omega) (by omega) (by omega) (by omega) (by omega)
  have three : ∃ h', aP JV (n + 2) 3 (AL.v p (AL.v v (AL.v x (AL.i 0 (AL.i acc (AL.i (k : Int) (AL.v (.pointer (some ⟨h.next, 0, none⟩)) (AL.v (.pointer (some ⟨h.next + 1, 0, none⟩)) (AL.b (hch s (i, k)) AL.n))))))))) h2 = some (.bool true, h') := by
   rw [aTR (n + 1)]
   unfold aC9
   rw [aJ]
   unfold CK at four
   rw [hfo, hpo] at four
   cases c : hch s (i, k) with
   | false =>
    rw [c] at four
    rw [if_neg (by simp)]
    exact four acc (by simp)
   | true =>
    rw [c, if_pos rfl] at four
    rw [if_pos rfl, a1.qN 2 (x := .int .i64 (s.cK[i]).iR) rfl, aO, show Int.add acc (s.cK[i]).iR = acc + (s.cK[i]).iR from rfl, wrap64_in _ (by omega) (by omega), a2.qN 2 (x := .int .i64 (s.dB[k]).iR) rfl, aO, show Int.sub (acc + (s.cK[i]).iR) (s.dB[k]).iR = acc + (s.cK[i]).iR - (s.dB[k]).iR from rfl, wrap64_in _ (by omega) (by omega)]
    exact four _ (by omega)
  rw [a2.qN 1 (x := (s.dB[k]).lv) rfl, show (Int.ofNat 0) = ((0 : Nat) : Int) from rfl, ez2, az2.jT (x := .int .i64 (eU s.dB[k])) rfl, aO, aZ, dO, aJ]
  by_cases d : eU s.dB[k] = -1
  ·rw [if_neg (by rw [d]; decide)]
   rw [show hch s (i, k) = false from by rw [hd, d]; rfl] at three
   exact three
  ·rw [if_pos (by simpa using d), a2.qN 1 (x := (s.dB[k]).lv) rfl, ez2, az2.jT (x := .int .i64 (eU s.dB[k])) rfl, aO, a1.qN 1 (x := (s.cK[i]).lv) rfl, ez1, az1.jT (x := .int .i64 (eU s.cK[i])) rfl, aO, aZ, dO]
   rw [show hch s (i, k) = !(decide (eU s.dB[k] = eU s.cK[i])) from by rw [hd]; simp [d]] at three
   exact three
theorem aDF {h : Hp} {s : Rm} (F : qK s) {p v x vc vo vf vp : Value} (A : FI h s (iF vc vo vf vp)) (w : Wf h) (so : jZ h 1 vo (s.bH.map dL)) (sf : jZ h 3 vf (s.cK.map Lk.row)) (sp : jZ h 3 vp (s.dB.map Lk.row)) (ar : At h p (iF vc vo vf vp)) {pl : List Int} (sl : jZ h 1 v (pl.map dL)) (hx : ∀ x ∈ pl, 0 ≤ x ∧ x ≤ (s.cK.length : Int) - 1) (hl : pl.length = s.dB.length)
  {L : List Int} (sx : jZ h 1 x (L.map dL)) (hL : L.length = s.bH.length) (hB : ∀ y ∈ L, -2000 ≤ y ∧ y ≤ 2000) (hsum : kI s.bH + FN s (BZ 0 pl) = kI L) :
  ∀ (m i n : Nat) (acc : Int), i + m = s.bH.length → m + 100 ≤ n → acc + kI (s.bH.drop i) = kI s.bH → 0 ≤ acc → acc ≤ 50 * (i : Int) →
  ∃ h', aP JV n 1 (AL.v p (AL.v v (AL.v x (AL.i 0 (AL.i acc (AL.i (i : Int) AL.n)))))) h = some (.bool true, h')
 | 0, i, n', acc, hi, hn, hs, h0, h1 => by
  obtain ⟨n, rfl⟩ : ∃ n, n' = n + 2 := ⟨n' - 2, by omega⟩
  have no := F.no
  have np := F.np
  rw [List.drop_of_length_le (by omega), show kI [] = 0 from rfl, Int.add_zero] at hs
  rw [aJK]
  unfold XL
  rw [ar.qN 1 (x := vo) rfl, so.rows.len, List.length_map, aU, bE, aJ, if_neg (by simp; omega), aTV, show (Int.ofNat 0) = ((0 : Nat) : Int) from rfl]
  exact aDE F A so sf sp ar sl hx hl sx hL hB pl.length 0 n h acc (bI.refl w) (by omega) (by omega) (by rw [List.drop_zero]; omega) (by omega) (by omega)
 | m + 1, i, n', acc, hi, hn, hs, h0, h1 => by
  obtain ⟨n, rfl⟩ : ∃ n, n' = n + 1 := ⟨n' - 1, by omega⟩
  have no := F.no
  have hi' : i < s.bH.length := by omega
  have b := F.os _ (List.getElem_mem hi')
  obtain ⟨y, ey, ay, _⟩ := so.rows.at (i := i) (r := dL s.bH[i]) (by rw [List.getElem?_map, List.getElem?_eq_getElem hi']; rfl)
  rw [List.drop_eq_getElem_cons hi', show kI (s.bH[i] :: s.bH.drop (i + 1)) = s.bH[i] + kI (s.bH.drop (i + 1)) from rfl] at hs
  rw [aJK]
  unfold XL
  rw [ar.qN 1 (x := vo) rfl, so.rows.len, List.length_map, aU, bE, aJ, if_pos (by simp; omega), ar.qN 1 (x := vo) rfl, ey, ay.jT (x := .int .i64 s.bH[i]) rfl, aO, show Int.add acc s.bH[i] = acc + s.bH[i] from rfl, wrap64_in _ (by omega) (by omega), show Int.add (i : Int) (Int.ofNat 1) = ((i + 1 : Nat) : Int) from rfl, wrap64_in _ (by omega) (by omega)]
  exact aDF F A w so sf sp ar sl hx hl sx hL hB hsum m (i + 1) n (acc + s.bH[i]) (by omega) (by omega) (by omega) (by omega) (by omega)
theorem aJN {h : Hp} (w : Wf h) {s : Rm} {r : List Value} (a : FI h s r) {v : Value} {xs : List Nat} (sl : jZ h 1 v (xs.map CE)) (hx : ∀ x ∈ xs, x ≤ 255) : ∃ h', F12 [.agg (Array.mk r), v] h = some (.bool true, h') := by
 have start : F12 [.agg (Array.mk r), v] h = aDG (aP JV 999999) (.agg (Array.mk r)) v h := rfl
 rw [start]
 unfold aDG
 have hr4 := a.len
 rw [iT, dQ]
 have g1 : bI h (h.add (.cells r 25 none)) := bI.add w _
 have a1 : At (h.add (.cells r 25 none)) (.pointer (some ⟨h.next, 0, none⟩)) r := At.new
 replace a := a.sub g1.sub
 replace sl := sl.sub g1.sub
 clear start
 generalize h.add (.cells r 25 none) = h1 at g1 a1 a sl ⊢
 generalize Value.pointer (some ⟨h.next, 0, none⟩) = p at a1 ⊢
 have cs : ∀ {h' h2 : Hp} {v : Value} {e : Int} {rs : List (List Value)} (o : kL (.tuple (List.toArray [v, .int .i64 e])) = false → h2.aG = h'.aG) (z : jZ h' 1 v rs), jZ h2 1 v rs := by
  intro h' h2 v e rs o z
  rcases z with z | ⟨b, c, t, k, z1, z2, z3⟩
  ·exact .inl z
  ·refine .inr ⟨b, c, t, k, z1, ?_, z3⟩
   have : h2.aG = h'.aG := o (by rw [z1, nZ]; rfl)
   show h2.aG.get b = _
   rw [this]; exact z2
 obtain ⟨h2, e2⟩ := aAO (h := iG h1) (jV g1.wf) a
 rw [a1.gU (z := 4) hr4, eB e2 rfl, aH, bV, aZ, aJ]
 by_cases e0 : (jE s).2.2 = 0
 case neg =>
  have pe : qE s [] = (jE s).2.2 := by unfold qE; rw [if_pos e0]
  obtain ⟨h3', v3, e3, g3, s3⟩ := QH (h := iG h1) (jV g1.wf) a (vpl := .slice none 0 0) (pl := []) (.inl ⟨rfl, rfl⟩)
  obtain ⟨h3, k3, q3, o3⟩ := vT g1.wf e3 g3
  have le : (zQ s []).2 = (jE s).2.2 := by unfold zQ; rw [pe, if_pos e0]
  rw [if_pos (by simpa using e0), a1.gU (z := 4) hr4, k3, aH, dP (v := v3) rfl, dP (v := .int .i64 (zQ s []).2) rfl, aO, aZ, dO, aJ, if_pos (by rw [le]; simpa using e0), NE, aH, bV]
  exact ⟨_, rfl⟩
 have F := KU e0
 have nf := F.nf
 have np := F.np
 have no := F.no
 obtain ⟨h3, v3, P, e3, g3, i3, pl, nd, px⟩ := aJH (h := iG h1) (jV g1.wf) F a sl hx
 obtain ⟨h4, e4, g4, i4⟩ := FM g1.wf e3 g3 i3
 rw [if_neg (by rw [e0]; decide), a1.gU (z := 4) hr4, e4, aH]
 have g14 := g1.trans g4
 obtain ⟨h5', v5, e5, g5, s5⟩ := QH (h := iG h4) (jV g4.wf) (a.sub g4.sub) i4.sl
 obtain ⟨h5, k5, q5, o5⟩ := vT g4.wf e5 g5
 have S5 := cs o5 s5
 have S4 := (i4.sl).sub q5.sub
 have q15 := g4.trans q5
 obtain ⟨vc, vo, vf, vp, rfl, sc, so, sf, sp, af, ap⟩ := a.sub q15.sub
 have A5 : FI h5 s (iF vc vo vf vp) := ⟨vc, vo, vf, vp, rfl, sc, so, sf, sp, af, ap⟩
 have a5 := a1.sub q15.sub
 rw [(a1.sub g4.sub).gU (z := 4) hr4, k5, aH, dP (v := v5) rfl, dP (v := .int .i64 (zQ s P).2) rfl, aO, S4.rows.len, List.length_map, a5.qN 3 (x := vp) rfl, sp.rows.len, List.length_map, aZ, dO, aJ]
 by_cases c : (P.length : Int) = (s.dB.length : Int)
 case neg =>
  have pe : qE s P = 3 := by unfold qE; rw [if_neg (by simpa using e0), if_pos c]
  have le : zQ s P = ([], 3) := by unfold zQ; rw [pe]; rfl
  rw [le] at S5
  rw [if_pos (by simpa using c), le, aU, dO, aJ, if_pos (by rfl), S5.rows.len, List.length_map, aU, dO, aJ, if_pos (by rfl), NE, aH, bV]
  exact ⟨_, rfl⟩
 have hall : P.all (oU 0 ((s.cK.length : Int) - 1)) = true := List.all_eq_true.2 fun x hx => nL.2 (px x hx)
 have pe : qE s P = 0 := by
  unfold qE
  have d := XG nd P.length 0 (by omega)
  rw [List.drop_zero] at d
  rw [if_neg (by simpa using e0), if_neg (by simpa using c), hall, d]; rfl
 obtain ⟨_, _, l1, l2, ip, _⟩ := WZ pe
 have le : zQ s P = ((mM s (W0 s) (BZ 0 P)).take s.bH.length, 0) := by unfold zQ; rw [pe]; rfl
 obtain ⟨b1, b2⟩ := DW F ip
 rw [le] at S5
 rw [if_neg (by simpa using c), le, show (Int.ofNat 0) = ((0 : Nat) : Int) from rfl]
 refine aDF F A5 q5.wf so sf sp a5 S4 l2 l1 S5 (by rw [List.length_take]; omega) (fun y hy => b2 y (List.mem_of_mem_take hy)) (by rw [aJJ F ip]) s.bH.length 0 999999 ((0 : Nat) : Int) (by omega) (by omega) (by rw [List.drop_zero]; show (0 : Int) + _ = _; omega) (by omega) (by omega)
end Go.Proofs.Ytepepiajmdpiiaa.K.L
