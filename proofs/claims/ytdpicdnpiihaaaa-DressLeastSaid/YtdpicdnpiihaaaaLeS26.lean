/- Contracts of told functions: the reference's Allowed, Sum, Pays; the law about plans. -/
import Derived.Test.YtdpicdnpiihaaaaLeS24
open Go Go.bK
set_option maxRecDepth 100000
set_option linter.unusedVariables false
namespace Go.Proofs.Ytdpicdnpiihaaaa.K.L
def EC : List Int → Int
 | [] => 0
 | x :: l => gG x + EC l
theorem QG : ∀ l : List Int, 0 ≤ EC l
 | [] => Int.le_refl 0
 | x :: l => by
  have := QG l
  unfold EC gG
  omega
theorem KF : ∀ l : List Int, EC l = 0 ↔ ∀ x ∈ l, gG x = 0
 | [] => ⟨fun _ x hx => (by cases hx), fun _ => rfl⟩
 | y :: l => by
  have ih := KF l
  have p := QG l
  have q : 0 ≤ gG y := by unfold gG; omega
  constructor
  ·intro h x hx
   unfold EC at h
   rcases List.mem_cons.1 hx with rfl | hx
   ·omega
   ·exact ih.1 (by omega) x hx
  ·intro h
   unfold EC
   have a := h y (.head _)
   have b := ih.2 fun x hx => h x (.tail _ hx)
   omega
theorem aO2 {s : Rm} (F : kY s) {l : List (Nat × Nat)} (hl : M5 s l) : nR (iQ s (W0 s) l) = decide (EC ((iQ s (W0 s) l).take s.bV.length) = 0) := by
 obtain ⟨b1, _⟩ := pG F hl
 have z := aC7 F hl
 unfold nR
 apply decide_eq_decide.2
 rw [KF]
 generalize iQ s (W0 s) l = W at b1 z ⊢
 have key : W.map gG = [0, 0, 0, 0] ↔ ∀ x ∈ W, gG x = 0 := by
  obtain ⟨a, b, c, d, rfl⟩ : ∃ a b c d, W = [a, b, c, d] := by
   match W, b1 with
   | [a, b, c, d], _ => exact ⟨a, b, c, d, rfl⟩
  simp
 rw [key]
 constructor
 ·intro h x hx
  exact h x (List.mem_of_mem_take hx)
 ·intro h x hx
  rw [← List.take_append_drop s.bV.length W] at hx
  rcases List.mem_append.1 hx with hx | hx
  ·exact h x hx
  ·rw [z x hx]; rfl
theorem aO3 (n : Nat) (v x : Value) (a i : Int) (h : Hp) : aI T78 (n + 1) 1 (AL.v v (AL.v x (AL.i a (AL.i i AL.n)))) h = aE5 (aI T78 n) v x a i h := rfl
theorem aXT (n : Nat) (x : Value) (a : Int) (h : Hp) : aI T78 (n + 1) 2 (AL.v x (AL.i a AL.n)) h = some (.tuple (List.toArray [x, .int .i64 a]), h) := rfl
theorem IY {hb : Hp} (w : Wf hb) {v : Value} {l : List Int} (sl : jC hb 1 v (l.map bB)) (hl : l.length ≤ 10) (hB : ∀ x ∈ l, -2000 ≤ x ∧ x ≤ 2000) : ∀ (m i n : Nat) (h : Hp) (x : Value) (ns : List Int) (acc : Int), aR hb h → oL hb h x ns → ns.length = i → i + m = l.length → m + 3 ≤ n → 0 ≤ acc → acc ≤ 2000 * (i : Int) →
  ∃ h' x', aI T78 n 1 (AL.v v (AL.v x (AL.i acc (AL.i (i : Int) AL.n)))) h = some (.tuple (List.toArray [x', .int .i64 (acc + EC (l.drop i))]), h') ∧ aR hb h'
 | 0, i, n', h, x, ns, acc, g, nm, hns, hi, hn, h0, h1 => by
  obtain ⟨n, rfl⟩ : ∃ n, n' = n + 2 := ⟨n' - 2, by omega⟩
  rw [aO3]
  unfold aE5
  rw [sl.rows.len, List.length_map, aH, aN, aC, if_neg (by simp; omega), aXT, List.drop_of_length_le (by omega), show EC [] = 0 from rfl, Int.add_zero]
  exact ⟨h, x, rfl, g⟩
 | m + 1, i, n', h, x, ns, acc, g, nm, hns, hi, hn, h0, h1 => by
  obtain ⟨n, rfl⟩ : ∃ n, n' = n + 1 := ⟨n' - 1, by omega⟩
  have hi' : i < l.length := by omega
  have b := hB _ (List.getElem_mem hi')
  obtain ⟨y, ey, ay, _⟩ := (sl.sub g.sub).rows.at (i := i) (r := bB l[i]) (by rw [List.getElem?_map, List.getElem?_eq_getElem hi']; rfl)
  obtain ⟨x3, h3, e3, g3, nm3⟩ := qX w g nm (by omega) (gG l[i])
  have lb : 0 ≤ gG l[i] ∧ gG l[i] ≤ 2000 := by unfold gG; omega
  rw [aO3]
  unfold aE5
  rw [sl.rows.len, List.length_map, aH, aN, aC, if_pos (by simp; omega), ey, ay.gL (x := .int .i64 l[i]) rfl, aG, show Int.sub (Int.ofNat 0) l[i] = 0 - l[i] from rfl, wrap64_in _ (by omega) (by omega), aD1, show max (Int.ofNat 0) (0 - l[i]) = gG l[i] from rfl, MJ, aB, e3, aB, show Int.add acc (gG l[i]) = acc + gG l[i] from rfl, wrap64_in _ (by omega) (by omega), show Int.add (i : Int) (Int.ofNat 1) = ((i + 1 : Nat) : Int) from rfl, wrap64_in _ (by omega) (by omega)]
  obtain ⟨h4, x4, e4, g4⟩ := IY w sl hl hB m (i + 1) n h3 x3 (ns ++ [gG l[i]]) (acc + gG l[i]) g3 nm3 (by simp; omega) (by omega) (by omega) (by omega) (by omega)
  refine ⟨h4, x4, ?_, g4⟩
  rw [e4, List.drop_eq_getElem_cons hi', show EC (l[i] :: l.drop (i + 1)) = gG l[i] + EC (l.drop (i + 1)) from rfl, Int.add_assoc]
theorem aC8 {h : Hp} (w : Wf h) {v : Value} {l : List Int} (sl : jC h 1 v (l.map bB)) (hl : l.length ≤ 10) (hB : ∀ x ∈ l, -2000 ≤ x ∧ x ≤ 2000) : ∃ h' x', F78 [v] h = some (.tuple (List.toArray [x', .int .i64 (EC l)]), h') ∧ aR h h' := by
 obtain ⟨h', x', e, g⟩ := IY w sl hl hB l.length 0 999999 h (.slice none 0 0) [] 0 (aR.refl w) (.inl ⟨rfl, rfl⟩) rfl (by omega) (by omega) (by omega) (by omega)
 rw [List.drop_zero, Int.zero_add] at e
 refine ⟨h', x', ?_, g⟩
 have step : ∀ n, aI T78 (n + 1) 0 (AL.v v AL.n) h = aI T78 n 1 (AL.v v (AL.v (.slice none 0 0) (AL.i 0 (AL.i ((0 : Nat) : Int) AL.n)))) h := fun n => rfl
 have s := step 999999
 rw [e] at s
 exact s
theorem IZ {h : Hp} (w : Wf h) {s : Rm} (F : kY s) {r : List Value} (a : zC h s r) {v : Value} {pl : List Int} (sl : jC h 1 v (pl.map bB)) (hx : ∀ x ∈ pl, 0 ≤ x ∧ x ≤ (s.bR.length : Int) - 1) (hl : pl.length = s.bE.length) (ip : M5 s (tJ 0 pl)) : ∃ h', F39 [.agg (Array.mk r), v] h = some (.bool (nR (iQ s (W0 s) (tJ 0 pl))), h') := by
 have start : F39 [.agg (Array.mk r), v] h = aNU (aI T39 999999) (.agg (Array.mk r)) v h := rfl
 rw [start]
 unfold aNU
 have hr4 := a.len
 rw [dN, aX]
 have g1 : aR h (h.add (.cells r 25 none)) := aR.add w _
 have a1 : At (h.add (.cells r 25 none)) (.pointer (some ⟨h.next, 0, none⟩)) r := At.new
 replace a := a.sub g1.sub
 replace sl := sl.sub g1.sub
 clear start
 generalize h.add (.cells r 25 none) = h1 at g1 a1 a sl ⊢
 generalize Value.pointer (some ⟨h.next, 0, none⟩) = p at a1 ⊢
 obtain ⟨h3, v3, e3, g3, n3⟩ := aG9 (h := bY h1) (eF g1.wf) F a sl hx hl
 obtain ⟨h4, e4, g4, n4⟩ := xR g1.wf e3 g3 n3
 rw [aSJ F ip] at n4
 have no := F.no
 obtain ⟨b1, b2⟩ := pG F ip
 obtain ⟨h5, x5, e5, g5⟩ := aC8 (h := bY h4) (eF g4.wf) (n4.sl) (by rw [List.length_take]; omega) (fun x hx => b2 x (List.mem_of_mem_take hx))
 obtain ⟨h6, e6, g6, _⟩ := qY g4.wf e5 g5
 rw [a1.dL (z := 4) hr4, e4, aB, e6, aB, bP (v := x5) rfl, bP (v := .int .i64 (EC ((iQ s (W0 s) (tJ 0 pl)).take s.bV.length))) rfl, aG, aH, aY, aO2 F ip]
 exact ⟨h6, rfl⟩
theorem aO4 (n : Nat) (v p : Value) (a i : Int) (h : Hp) : aI T41 (n + 1) 1 (AL.v v (AL.v p (AL.i a (AL.i i AL.n)))) h = aE7 (aI T41 n) v p a i h := rfl
theorem aXU (n : Nat) (a : Int) (h : Hp) : aI T41 (n + 1) 2 (AL.i a AL.n) h = some (.int .i64 a, h) := rfl
theorem QH {h : Hp} (w : Wf h) {s : Rm} (F : kY s) {p v vc vo vf vp : Value} (A : zC h s (fP vc vo vf vp)) (sf : jC h 3 vf (s.bR.map Lk.row)) (sp : jC h 3 vp (s.bE.map Lk.row)) (af : ∀ g ∈ s.bR, IU h g) (aq : ∀ g ∈ s.bE, IU h g) (ar : At h p (fP vc vo vf vp)) {pl : List Int} (sl : jC h 1 v (pl.map bB)) (hx : ∀ x ∈ pl, 0 ≤ x ∧ x ≤ (s.bR.length : Int) - 1) (hl : pl.length = s.bE.length) :
  ∀ (m k n : Nat) (acc : Int), k + m = pl.length → m + 2 ≤ n → 0 ≤ acc → acc ≤ 400 * (k : Int) → aI T41 n 1 (AL.v v (AL.v p (AL.i acc (AL.i (k : Int) AL.n)))) h = some (.int .i64 (acc + jY s ((tJ 0 pl).drop k)), h)
 | 0, k, n', acc, hk, hn, h0, h1 => by
  obtain ⟨n, rfl⟩ : ∃ n, n' = n + 2 := ⟨n' - 2, by omega⟩
  rw [aO4]
  unfold aE7
  rw [sl.rows.len, List.length_map, aH, aN, aC, if_neg (by simp; omega), aXU, List.drop_of_length_le (by rw [zD]; omega), show jY s [] = 0 from rfl, Int.add_zero]
 | m + 1, k, n', acc, hk, hn, h0, h1 => by
  obtain ⟨n, rfl⟩ : ∃ n, n' = n + 1 := ⟨n' - 1, by omega⟩
  have np := F.np
  have hk' : k < pl.length := by omega
  have px := hx _ (List.getElem_mem hk')
  obtain ⟨i, ei⟩ : ∃ i : Nat, pl[k] = (i : Int) := ⟨(pl[k]).toNat, by omega⟩
  have hi : i < s.bR.length := by omega
  have hj : k < s.bE.length := by omega
  have hcg : (tJ 0 pl)[k]? = some (i, k) := by rw [WW pl 0 k pl[k] (List.getElem?_eq_getElem hk'), ei, Int.toNat_natCast, Nat.zero_add]
  have hkl : k < (tJ 0 pl).length := by rw [zD]; exact hk'
  have hce : (tJ 0 pl)[k] = (i, k) := by rw [List.getElem?_eq_getElem hkl] at hcg; exact Option.some.inj hcg
  have hf : s.bR[(i, k).1]? = some s.bR[i] := List.getElem?_eq_getElem hi
  have hq : s.bE[(i, k).2]? = some s.bE[k] := List.getElem?_eq_getElem hj
  obtain ⟨y, ey, ay, _⟩ := sl.rows.at (i := k) (r := bB pl[k]) (by rw [List.getElem?_map, List.getElem?_eq_getElem hk']; rfl)
  obtain ⟨xf, exf, axf, lxf⟩ := sf.rows.at (i := i) (r := (s.bR[i]).row) (by rw [List.getElem?_map, List.getElem?_eq_getElem hi]; rfl)
  obtain ⟨xp, exp, axp, lxp⟩ := sp.rows.at (i := k) (r := (s.bE[k]).row) (by rw [List.getElem?_map, List.getElem?_eq_getElem hj]; rfl)
  obtain ⟨h2, e2⟩ := aON (h := bY h) (eF w) A F (c := (i, k)) hf hq (af _ (List.getElem_mem hi)) (aq _ (List.getElem_mem hj))
  obtain ⟨k1, _⟩ := PR F (c := (i, k)) hi hj
  have cb := J9 F.cs (MK s (i, k))
  rw [aO4]
  unfold aE7
  rw [sl.rows.len, List.length_map, aH, aN, aC, if_pos (by simp; omega), ar.dL (z := 4) rfl, ar.pF 2 (x := vf) rfl, ey, ay.gL (x := .int .i64 pl[k]) rfl, aG, ei, exf, axf.dL (z := 3) rfl, ar.pF 3 (x := vp) rfl, exp, axp.dL (z := 3) rfl, aZ e2 rfl, aB, aG, show Int.add acc (kK s.costs (MK s (i, k))) = acc + kK s.costs (MK s (i, k)) from rfl, wrap64_in _ (by omega) (by omega), show Int.add (k : Int) (Int.ofNat 1) = ((k + 1 : Nat) : Int) from rfl, wrap64_in _ (by omega) (by omega),
   QH w F A sf sp af aq ar sl hx hl m (k + 1) n (acc + kK s.costs (MK s (i, k))) (by omega) (by omega) (by omega) (by omega), List.drop_eq_getElem_cons hkl, hce, show jY s ((i, k) :: (tJ 0 pl).drop (k + 1)) = kK s.costs (MK s (i, k)) + jY s ((tJ 0 pl).drop (k + 1)) from rfl, Int.add_assoc]
theorem ZY {h : Hp} (w : Wf h) {s : Rm} (F : kY s) {r : List Value} (a : zC h s r) {v : Value} {pl : List Int} (sl : jC h 1 v (pl.map bB)) (hx : ∀ x ∈ pl, 0 ≤ x ∧ x ≤ (s.bR.length : Int) - 1) (hl : pl.length = s.bE.length) : ∃ h', F41 [.agg (Array.mk r), v] h = some (.int .i64 (jY s (tJ 0 pl)), h') := by
 have start : F41 [.agg (Array.mk r), v] h = aN2 (aI T41 999999) (.agg (Array.mk r)) v h := rfl
 rw [start]
 unfold aN2
 rw [dN, aX]
 have g1 : aR h (h.add (.cells r 25 none)) := aR.add w _
 have a1 : At (h.add (.cells r 25 none)) (.pointer (some ⟨h.next, 0, none⟩)) r := At.new
 replace a := a.sub g1.sub
 replace sl := sl.sub g1.sub
 clear start
 generalize h.add (.cells r 25 none) = h1 at g1 a1 a sl ⊢
 generalize Value.pointer (some ⟨h.next, 0, none⟩) = p at a1 ⊢
 obtain ⟨vc, vo, vf, vp, rfl, sc, so, sf, sp, af, aq⟩ := a
 have A : zC h1 s (fP vc vo vf vp) := ⟨vc, vo, vf, vp, rfl, sc, so, sf, sp, af, aq⟩
 have np := F.np
 have := QH g1.wf F A sf sp af aq a1 sl hx hl pl.length 0 999999 0 (by omega) (by omega) (by omega) (by omega)
 rw [List.drop_zero, Int.zero_add] at this
 exact ⟨h1, this⟩
end Go.Proofs.Ytdpicdnpiihaaaa.K.L
open Go Go.bK
set_option maxRecDepth 100000
set_option linter.unusedVariables false
namespace Go.Proofs.Ytdpicdnpiihaaaa.K.L
end Go.Proofs.Ytdpicdnpiihaaaa.K.L
