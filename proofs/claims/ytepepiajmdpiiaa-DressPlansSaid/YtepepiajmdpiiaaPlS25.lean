/- Contracts of told functions: the reference's Allowed, Sum, Pays; the law about plans. -/
import Derived.Test.YtepepiajmdpiiaaPlS24
open Go Go.Eng
set_option maxRecDepth 100000
set_option linter.unusedVariables false
namespace Go.Proofs.Ytepepiajmdpiiaa.K.L
def H7 : List Int → Int
 | [] => 0
 | x :: l => lD x + H7 l
theorem XU : ∀ l : List Int, 0 ≤ H7 l
 | [] => Int.le_refl 0
 | x :: l => by
  have := XU l
  unfold H7 lD
  omega
theorem QZ : ∀ l : List Int, H7 l = 0 ↔ ∀ x ∈ l, lD x = 0
 | [] => ⟨fun _ x hx => (by cases hx), fun _ => rfl⟩
 | y :: l => by
  have ih := QZ l
  have p := XU l
  have q : 0 ≤ lD y := by unfold lD; omega
  constructor
  ·intro h x hx
   unfold H7 at h
   rcases List.mem_cons.1 hx with rfl | hx
   ·omega
   ·exact ih.1 (by omega) x hx
  ·intro h
   unfold H7
   have a := h y (.head _)
   have b := ih.2 fun x hx => h x (.tail _ hx)
   omega
theorem aKH {s : Rm} (F : oU s) {l : List (Nat × Nat)} (hl : InP s l) : DK (jY s (W0 s) l) = decide (H7 ((jY s (W0 s) l).take s.bN.length) = 0) := by
 obtain ⟨b1, _⟩ := pK F hl
 have z := aA8 F hl
 unfold DK
 apply decide_eq_decide.2
 rw [QZ]
 generalize jY s (W0 s) l = W at b1 z ⊢
 have key : W.map lD = [0, 0, 0, 0] ↔ ∀ x ∈ W, lD x = 0 := by
  obtain ⟨a, b, c, d, rfl⟩ : ∃ a b c d, W = [a, b, c, d] := by
   match W, b1 with
   | [a, b, c, d], _ => exact ⟨a, b, c, d, rfl⟩
  simp
 rw [key]
 constructor
 ·intro h x hx
  exact h x (List.mem_of_mem_take hx)
 ·intro h x hx
  rw [← List.take_append_drop s.bN.length W] at hx
  rcases List.mem_append.1 hx with hx | hx
  ·exact h x hx
  ·rw [z x hx]; rfl
theorem aKI (n : Nat) (v x : Value) (a i : Int) (h : Hp) : aK T78 (n + 1) 1 (AL.v v (AL.v x (AL.i a (AL.i i AL.n)))) h = XV (aK T78 n) v x a i h := rfl
theorem aTS (n : Nat) (x : Value) (a : Int) (h : Hp) : aK T78 (n + 1) 2 (AL.v x (AL.i a AL.n)) h = some (.tuple (List.toArray [x, .int .i64 a]), h) := rfl
theorem FF {hb : Hp} (w : Wf hb) {v : Value} {l : List Int} (sl : jE hb 1 v (l.map bF)) (hl : l.length ≤ 10) (hB : ∀ x ∈ l, -2000 ≤ x ∧ x ≤ 2000) : ∀ (m i n : Nat) (h : Hp) (x : Value) (ns : List Int) (acc : Int), bA hb h → zI hb h x ns → ns.length = i → i + m = l.length → m + 3 ≤ n → 0 ≤ acc → acc ≤ 2000 * (i : Int) →
  ∃ h' x', aK T78 n 1 (AL.v v (AL.v x (AL.i acc (AL.i (i : Int) AL.n)))) h = some (.tuple (List.toArray [x', .int .i64 (acc + H7 (l.drop i))]), h') ∧ bA hb h'
 | 0, i, n', h, x, ns, acc, g, nm, hns, hi, hn, h0, h1 => by
  obtain ⟨n, rfl⟩ : ∃ n, n' = n + 2 := ⟨n' - 2, by omega⟩
  rw [aKI]
  unfold XV
  rw [sl.rows.len, List.length_map, aM, aU, aH, if_neg (by simp; omega), aTS, List.drop_of_length_le (by omega), show H7 [] = 0 from rfl, Int.add_zero]
  exact ⟨h, x, rfl, g⟩
 | m + 1, i, n', h, x, ns, acc, g, nm, hns, hi, hn, h0, h1 => by
  obtain ⟨n, rfl⟩ : ∃ n, n' = n + 1 := ⟨n' - 1, by omega⟩
  have hi' : i < l.length := by omega
  have b := hB _ (List.getElem_mem hi')
  obtain ⟨y, ey, ay, _⟩ := (sl.sub g.sub).rows.at (i := i) (r := bF l[i]) (by rw [List.getElem?_map, List.getElem?_eq_getElem hi']; rfl)
  obtain ⟨x3, h3, e3, g3, nm3⟩ := AZ w g nm (by omega) (lD l[i])
  have lb : 0 ≤ lD l[i] ∧ lD l[i] ≤ 2000 := by unfold lD; omega
  rw [aKI]
  unfold XV
  rw [sl.rows.len, List.length_map, aM, aU, aH, if_pos (by simp; omega), ey, ay.gT (x := .int .i64 l[i]) rfl, aJ, show Int.sub (Int.ofNat 0) l[i] = 0 - l[i] from rfl, wrap64_in _ (by omega) (by omega), aCB, show max (Int.ofNat 0) (0 - l[i]) = lD l[i] from rfl, WQ, aG, e3, aG, show Int.add acc (lD l[i]) = acc + lD l[i] from rfl, wrap64_in _ (by omega) (by omega), show Int.add (i : Int) (Int.ofNat 1) = ((i + 1 : Nat) : Int) from rfl, wrap64_in _ (by omega) (by omega)]
  obtain ⟨h4, x4, e4, g4⟩ := FF w sl hl hB m (i + 1) n h3 x3 (ns ++ [lD l[i]]) (acc + lD l[i]) g3 nm3 (by simp; omega) (by omega) (by omega) (by omega) (by omega)
  refine ⟨h4, x4, ?_, g4⟩
  rw [e4, List.drop_eq_getElem_cons hi', show H7 (l[i] :: l.drop (i + 1)) = lD l[i] + H7 (l.drop (i + 1)) from rfl, Int.add_assoc]
theorem aA9 {h : Hp} (w : Wf h) {v : Value} {l : List Int} (sl : jE h 1 v (l.map bF)) (hl : l.length ≤ 10) (hB : ∀ x ∈ l, -2000 ≤ x ∧ x ≤ 2000) : ∃ h' x', F78 [v] h = some (.tuple (List.toArray [x', .int .i64 (H7 l)]), h') ∧ bA h h' := by
 obtain ⟨h', x', e, g⟩ := FF w sl hl hB l.length 0 999999 h (.slice none 0 0) [] 0 (bA.refl w) (.inl ⟨rfl, rfl⟩) rfl (by omega) (by omega) (by omega) (by omega)
 rw [List.drop_zero, Int.zero_add] at e
 refine ⟨h', x', ?_, g⟩
 have step : ∀ n, aK T78 (n + 1) 0 (AL.v v AL.n) h = aK T78 n 1 (AL.v v (AL.v (.slice none 0 0) (AL.i 0 (AL.i ((0 : Nat) : Int) AL.n)))) h := fun n => rfl
 have s := step 999999
 rw [e] at s
 exact s
theorem UI {h : Hp} (w : Wf h) {s : Rm} (F : oU s) {r : List Value} (a : xN h s r) {v : Value} {pl : List Int} (sl : jE h 1 v (pl.map bF)) (hx : ∀ x ∈ pl, 0 ≤ x ∧ x ≤ (s.dA.length : Int) - 1) (hl : pl.length = s.cB.length) (ip : InP s (qF 0 pl)) : ∃ h', F39 [.agg (Array.mk r), v] h = some (.bool (DK (jY s (W0 s) (qF 0 pl))), h') := by
 have start : F39 [.agg (Array.mk r), v] h = aDX (aK T39 999999) (.agg (Array.mk r)) v h := rfl
 rw [start]
 unfold aDX
 have hr4 := a.len
 rw [dS, bJ]
 have g1 : bA h (h.add (.cells r 25 none)) := bA.add w _
 have a1 : At (h.add (.cells r 25 none)) (.pointer (some ⟨h.next, 0, none⟩)) r := At.new
 replace a := a.sub g1.sub
 replace sl := sl.sub g1.sub
 clear start
 generalize h.add (.cells r 25 none) = h1 at g1 a1 a sl ⊢
 generalize Value.pointer (some ⟨h.next, 0, none⟩) = p at a1 ⊢
 obtain ⟨h3, v3, e3, g3, n3⟩ := QW (h := fH h1) (fT g1.wf) F a sl hx hl
 obtain ⟨h4, e4, g4, n4⟩ := sF g1.wf e3 g3 n3
 rw [aDV F ip] at n4
 have no := F.no
 obtain ⟨b1, b2⟩ := pK F ip
 obtain ⟨h5, x5, e5, g5⟩ := aA9 (h := fH h4) (fT g4.wf) (n4.sl) (by rw [List.length_take]; omega) (fun x hx => b2 x (List.mem_of_mem_take hx))
 obtain ⟨h6, e6, g6, _⟩ := pJ g4.wf e5 g5
 rw [a1.dX (z := 4) hr4, e4, aG, e6, aG, bY (v := x5) rfl, bY (v := .int .i64 (H7 ((jY s (W0 s) (qF 0 pl)).take s.bN.length))) rfl, aJ, aM, bR, aKH F ip]
 exact ⟨h6, rfl⟩
theorem aKJ (n : Nat) (v p : Value) (a i : Int) (h : Hp) : aK T41 (n + 1) 1 (AL.v v (AL.v p (AL.i a (AL.i i AL.n)))) h = XW (aK T41 n) v p a i h := rfl
theorem aTT (n : Nat) (a : Int) (h : Hp) : aK T41 (n + 1) 2 (AL.i a AL.n) h = some (.int .i64 a, h) := rfl
theorem NY {h : Hp} (w : Wf h) {s : Rm} (F : oU s) {p v vc vo vf vp : Value} (A : xN h s (fV vc vo vf vp)) (sf : jE h 3 vf (s.dA.map Lk.row)) (sp : jE h 3 vp (s.cB.map Lk.row)) (af : ∀ g ∈ s.dA, E9 h g) (aq : ∀ g ∈ s.cB, E9 h g) (ar : At h p (fV vc vo vf vp)) {pl : List Int} (sl : jE h 1 v (pl.map bF)) (hx : ∀ x ∈ pl, 0 ≤ x ∧ x ≤ (s.dA.length : Int) - 1) (hl : pl.length = s.cB.length) :
  ∀ (m k n : Nat) (acc : Int), k + m = pl.length → m + 2 ≤ n → 0 ≤ acc → acc ≤ 400 * (k : Int) → aK T41 n 1 (AL.v v (AL.v p (AL.i acc (AL.i (k : Int) AL.n)))) h = some (.int .i64 (acc + xL s ((qF 0 pl).drop k)), h)
 | 0, k, n', acc, hk, hn, h0, h1 => by
  obtain ⟨n, rfl⟩ : ∃ n, n' = n + 2 := ⟨n' - 2, by omega⟩
  rw [aKJ]
  unfold XW
  rw [sl.rows.len, List.length_map, aM, aU, aH, if_neg (by simp; omega), aTT, List.drop_of_length_le (by rw [xB]; omega), show xL s [] = 0 from rfl, Int.add_zero]
 | m + 1, k, n', acc, hk, hn, h0, h1 => by
  obtain ⟨n, rfl⟩ : ∃ n, n' = n + 1 := ⟨n' - 1, by omega⟩
  have np := F.np
  have hk' : k < pl.length := by omega
  have px := hx _ (List.getElem_mem hk')
  obtain ⟨i, ei⟩ : ∃ i : Nat, pl[k] = (i : Int) := ⟨(pl[k]).toNat, by omega⟩
  have hi : i < s.dA.length := by omega
  have hj : k < s.cB.length := by omega
  have hcg : (qF 0 pl)[k]? = some (i, k) := by rw [UH pl 0 k pl[k] (List.getElem?_eq_getElem hk'), ei, Int.toNat_natCast, Nat.zero_add]
  have hkl : k < (qF 0 pl).length := by rw [xB]; exact hk'
  have hce : (qF 0 pl)[k] = (i, k) := by rw [List.getElem?_eq_getElem hkl] at hcg; exact Option.some.inj hcg
  have hf : s.dA[(i, k).1]? = some s.dA[i] := List.getElem?_eq_getElem hi
  have hq : s.cB[(i, k).2]? = some s.cB[k] := List.getElem?_eq_getElem hj
  obtain ⟨y, ey, ay, _⟩ := sl.rows.at (i := k) (r := bF pl[k]) (by rw [List.getElem?_map, List.getElem?_eq_getElem hk']; rfl)
  obtain ⟨xf, exf, axf, lxf⟩ := sf.rows.at (i := i) (r := (s.dA[i]).row) (by rw [List.getElem?_map, List.getElem?_eq_getElem hi]; rfl)
  obtain ⟨xp, exp, axp, lxp⟩ := sp.rows.at (i := k) (r := (s.cB[k]).row) (by rw [List.getElem?_map, List.getElem?_eq_getElem hj]; rfl)
  obtain ⟨h2, e2⟩ := aJY (h := fH h) (fT w) A F (c := (i, k)) hf hq (af _ (List.getElem_mem hi)) (aq _ (List.getElem_mem hj))
  obtain ⟨k1, _⟩ := NG F (c := (i, k)) hi hj
  have cb := G9 F.cs (KA s (i, k))
  rw [aKJ]
  unfold XW
  rw [sl.rows.len, List.length_map, aM, aU, aH, if_pos (by simp; omega), ar.dX (z := 4) rfl, ar.qB 2 (x := vf) rfl, ey, ay.gT (x := .int .i64 pl[k]) rfl, aJ, ei, exf, axf.dX (z := 3) rfl, ar.qB 3 (x := vp) rfl, exp, axp.dX (z := 3) rfl, bS e2 rfl, aG, aJ, show Int.add acc (j5 s.costs (KA s (i, k))) = acc + j5 s.costs (KA s (i, k)) from rfl, wrap64_in _ (by omega) (by omega), show Int.add (k : Int) (Int.ofNat 1) = ((k + 1 : Nat) : Int) from rfl, wrap64_in _ (by omega) (by omega),
   NY w F A sf sp af aq ar sl hx hl m (k + 1) n (acc + j5 s.costs (KA s (i, k))) (by omega) (by omega) (by omega) (by omega), List.drop_eq_getElem_cons hkl, hce, show xL s ((i, k) :: (qF 0 pl).drop (k + 1)) = j5 s.costs (KA s (i, k)) + xL s ((qF 0 pl).drop (k + 1)) from rfl, Int.add_assoc]
theorem aKK {h : Hp} (w : Wf h) {s : Rm} (F : oU s) {r : List Value} (a : xN h s r) {v : Value} {pl : List Int} (sl : jE h 1 v (pl.map bF)) (hx : ∀ x ∈ pl, 0 ≤ x ∧ x ≤ (s.dA.length : Int) - 1) (hl : pl.length = s.cB.length) : ∃ h', F41 [.agg (Array.mk r), v] h = some (.int .i64 (xL s (qF 0 pl)), h') := by
 have start : F41 [.agg (Array.mk r), v] h = aDY (aK T41 999999) (.agg (Array.mk r)) v h := rfl
 rw [start]
 unfold aDY
 rw [dS, bJ]
 have g1 : bA h (h.add (.cells r 25 none)) := bA.add w _
 have a1 : At (h.add (.cells r 25 none)) (.pointer (some ⟨h.next, 0, none⟩)) r := At.new
 replace a := a.sub g1.sub
 replace sl := sl.sub g1.sub
 clear start
 generalize h.add (.cells r 25 none) = h1 at g1 a1 a sl ⊢
 generalize Value.pointer (some ⟨h.next, 0, none⟩) = p at a1 ⊢
 obtain ⟨vc, vo, vf, vp, rfl, sc, so, sf, sp, af, aq⟩ := a
 have A : xN h1 s (fV vc vo vf vp) := ⟨vc, vo, vf, vp, rfl, sc, so, sf, sp, af, aq⟩
 have np := F.np
 have := NY g1.wf F A sf sp af aq a1 sl hx hl pl.length 0 999999 0 (by omega) (by omega) (by omega) (by omega)
 rw [List.drop_zero, Int.zero_add] at this
 exact ⟨h1, this⟩
theorem aKL (n : Nat) (v p : Value) (e : Int) (h : Hp) : aK T25 (n + 1) 1 (AL.v v (AL.v p (AL.i e AL.n))) h = XX (aK T25 n) v p e h := rfl
theorem aGS {h : Hp} (w : Wf h) {s : Rm} {r : List Value} (a : xN h s r) {A7 : Value} {pl : List Int} (sl : jE h 1 A7 (pl.map bF)) : ∃ h', F25 [.agg (Array.mk r), A7] h = some (jU (JR s pl), h') := by
 have start : F25 [.agg (Array.mk r), A7] h = aDZ (aK T25 999999) (.agg (Array.mk r)) A7 h := rfl
 rw [start]
 unfold aDZ
 have hr4 := a.len
 rw [dS, bJ]
 have g1 : bA h (h.add (.cells r 25 none)) := bA.add w _
 have a1 : At (h.add (.cells r 25 none)) (.pointer (some ⟨h.next, 0, none⟩)) r := At.new
 replace a := a.sub g1.sub
 replace sl := sl.sub g1.sub
 clear start
 generalize h.add (.cells r 25 none) = h1 at g1 a1 a sl ⊢
 generalize Value.pointer (some ⟨h.next, 0, none⟩) = p at a1 ⊢
 obtain ⟨h2, e2⟩ := QU (h := fH h1) (fT g1.wf) a sl
 have bad : ∀ e : Int, e ≠ 0 → ∃ h', aK T25 999999 1 (AL.v A7 (AL.v p (AL.i e AL.n))) h1 = some (jU (0, e), h') := by
  intro e he
  rw [aKL 999998]
  unfold XX
  rw [aT, bR, aH, if_pos (by simpa using he)]
  exact ⟨h1, rfl⟩
 rw [a1.dX (z := 4) hr4, bS e2 rfl, aG, aJ, aM, bR, aH]
 unfold JR
 by_cases e0 : mF s pl = 0
 case neg =>
  rw [if_neg (by simpa using e0), if_pos e0]
  exact bad _ e0
 obtain ⟨_, F, l1, l2, ip, _⟩ := zM e0
 obtain ⟨h3, e3⟩ := UI (h := fH h1) (fT g1.wf) F a sl l2 l1 ip
 have e0n : ¬ (mF s pl ≠ 0) := by simpa using e0
 rw [if_pos (by rw [e0]; simp), if_neg e0n, a1.dX (z := 4) hr4, bS e3 rfl, aG, bK, aT, aH]
 cases c : DK (jY s (W0 s) (qF 0 pl)) with
 | false => rw [if_pos (by rfl), if_pos (by rfl)]; exact bad 9 (by decide)
 | true =>
 obtain ⟨h4, e4⟩ := aKK (h := fH h1) (fT g1.wf) F a sl l2 l1
 rw [if_neg (by simp), if_neg (by simp), e0, aKL 999998]
 unfold XX
 rw [aT, bR, aH, if_neg (by simp), a1.dX (z := 4) hr4, bS e4 rfl, aG, aJ]
 exact ⟨h1, rfl⟩
theorem aGT (s : Rm) (pl : List Int) : (BS s pl).1.length ≤ 900 := by
 unfold BS
 by_cases e0 : mF s pl = 0
 case neg => rw [if_pos e0]; simp
 rw [if_neg (by simpa using e0)]
 obtain ⟨_, F, _⟩ := zM e0
 have := F.no
 rw [List.length_take]
 omega
theorem aYU (n : Nat) (v p : Value) (h : Hp) : aK T4 (n + 1) 1 (AL.v v (AL.v p AL.n)) h = aOH (aK T4 n) v p h := rfl
theorem aOI {h : Hp} (w : Wf h) {s : Rm} {r : List Value} (a : xN h s r) {A7 : Value} {pl : List Int} (sl : jE h 1 A7 (pl.map bF)) : ∃ h', F4 [.agg (Array.mk r), A7] h = some (.bool true, h') := by
 have start : F4 [.agg (Array.mk r), A7] h = aOJ (aK T4 999999) (.agg (Array.mk r)) A7 h := rfl
 rw [start]
 unfold aOJ
 have hr4 := a.len
 rw [dS, bJ]
 have g1 : bA h (h.add (.cells r 25 none)) := bA.add w _
 have a1 : At (h.add (.cells r 25 none)) (.pointer (some ⟨h.next, 0, none⟩)) r := At.new
 replace a := a.sub g1.sub
 replace sl := sl.sub g1.sub
 clear start
 generalize h.add (.cells r 25 none) = h1 at g1 a1 a sl ⊢
 generalize Value.pointer (some ⟨h.next, 0, none⟩) = p at a1 ⊢
 have cs : ∀ {h h' h2 : Hp} {v : Value} {e : Int} {rs : List (List Value)} (o : kI (.tuple (List.toArray [v, .int .i64 e])) = false → h2.aI = h'.aI) (z : jE h' 1 v rs), jE h2 1 v rs := by
  intro h h' h2 v e rs o z
  rcases z with z | ⟨b, c, t, k, z1, z2, z3⟩
  ·exact .inl z
  ·refine .inr ⟨b, c, t, k, z1, ?_, z3⟩
   have : h2.aI = h'.aI := o (by rw [z1, lG]; rfl)
   show h2.aI.get b = _
   rw [this]; exact z2
 obtain ⟨h2', v2, e2, g2, s2⟩ := aGO (h := fH h1) (fT g1.wf) a sl
 obtain ⟨h2, k2, q2, o2⟩ := pJ g1.wf e2 g2
 have S2 := cs (h := h) o2 s2
 obtain ⟨h3', v3, e3, g3, s3⟩ := aGR (h := fH h2) (fT q2.wf) (a.sub q2.sub) (sl.sub q2.sub)
 obtain ⟨h3, k3, q3, o3⟩ := pJ q2.wf e3 g3
 have S3 := cs (h := h) o3 s3
 rw [a1.dX (z := 4) hr4, k2, aG, bY (v := v2) rfl, bY (v := .int .i64 (BS s pl).2) rfl, aJ, (a1.sub q2.sub).dX (z := 4) hr4, k3, aG, bY (v := v3) rfl, bY (v := .int .i64 (BS s pl).2) rfl, aJ, aGH (S2.sub q3.sub).rows S3.rows (aGT s pl), aO, aG, bK, aT, aH, if_neg (by simp), aT, bR, aH, if_neg (by simp), aYU 999998]
 unfold aOH
 have q13 := q2.trans q3
 obtain ⟨h5, e5⟩ := aGP (h := fH h3) (fT q3.wf) (a.sub q13.sub) (sl.sub q13.sub)
 obtain ⟨h6, e6⟩ := aGS (h := fH h3) (fT q3.wf) (a.sub q13.sub) (sl.sub q13.sub)
 rw [(a1.sub q13.sub).dX (z := 4) hr4, bS e5 rfl, aG]
 unfold jU
 rw [bY (v := .int .i64 (JR s pl).1) rfl, aJ, bY (v := .int .i64 (JR s pl).2) rfl, aJ, (a1.sub q13.sub).dX (z := 4) hr4, bS e6 rfl, aG]
 unfold jU
 rw [bY (v := .int .i64 (JR s pl).1) rfl, aJ, bY (v := .int .i64 (JR s pl).2) rfl, aJ, aM, bR, aH, if_pos (by simp), aM, bR, aH, if_pos (by simp), aJ1, aG, bK]
 exact ⟨_, rfl⟩
end Go.Proofs.Ytepepiajmdpiiaa.K.L
