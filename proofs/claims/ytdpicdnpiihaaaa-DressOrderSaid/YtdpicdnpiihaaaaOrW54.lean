/- The law about an order of figures. -/
import Derived.Test.YtdpicdnpiihaaaaOrW52
open Go Go.bI
set_option maxRecDepth 100000
set_option linter.unusedVariables false
namespace Go.Proofs.Ytdpicdnpiihaaaa.K.L
theorem aO7 (h : Hp) (n : Nat) (a b : Value) (c : Bool) (i : Int) : G.aN (T20 h) (n + 1) 1 (aD.v a (aD.v b (aD.b c (aD.i i aD.n)))) = aE0 h (G.aN (T20 h) n) a b c i := rfl
theorem aXJ (h : Hp) (n : Nat) (a b : Value) (i : Int) : G.aN (T20 h) (n + 1) 2 (aD.v a (aD.v b (aD.i i aD.n))) = aNO h (G.aN (T20 h) n) a b i := rfl
theorem aXK (h : Hp) (n : Nat) (c : Bool) : G.aN (T20 h) (n + 1) 3 (aD.b c aD.n) = some (.bool c) := rfl
theorem LV {h : Hp} {a b : Value} {l : List Int} (ra : bI.Rows h 1 a (l.map cZ)) (rb : bI.Rows h 1 b (l.map cZ)) (hl : l.length ≤ 900) : ∀ (m i n : Nat), i + m = l.length → 2 * m + 2 ≤ n → G.aN (T20 h) n 1 (aD.v a (aD.v b (aD.b true (aD.i (i : Int) aD.n)))) = some (.bool true)
 | 0, i, n', hi, hn => by
  obtain ⟨n, rfl⟩ : ∃ n, n' = n + 2 := ⟨n' - 2, by omega⟩
  rw [aO7]
  unfold aE0
  rw [aH, if_pos rfl, ra.len, List.length_map, aQ, aW, aH, if_neg (by simp; omega), aXK]
 | m + 1, i, n', hi, hn => by
  obtain ⟨n, rfl⟩ : ∃ n, n' = n + 2 := ⟨n' - 2, by omega⟩
  have hi' : i < l.length := by omega
  have hg : (l.map cZ)[i]? = some (cZ l[i]) := by rw [List.getElem?_map, List.getElem?_eq_getElem hi']; rfl
  obtain ⟨p, hp, ap, _⟩ := ra.at hg
  obtain ⟨q, hq, aq, _⟩ := rb.at hg
  rw [aO7]
  unfold aE0
  rw [aH, if_pos rfl, ra.len, List.length_map, aQ, aW, aH, if_pos (by simp; omega), aXJ]
  unfold aNO
  rw [hp, ap.j6 (x := .int .i64 l[i]) rfl, aI, hq, aq.j6 (x := .int .i64 l[i]) rfl, aI, aQ, cK, decide_eq_true rfl, show Int.add (i : Int) (Int.ofNat 1) = ((i + 1 : Nat) : Int) from rfl, wrap64_in _ (by omega) (by omega)]
  exact LV ra rb hl m (i + 1) n (by omega) (by omega)
theorem aHP {h : Hp} {a b : Value} {l : List Int} (ra : bI.Rows h 1 a (l.map cZ)) (rb : bI.Rows h 1 b (l.map cZ)) (hl : l.length ≤ 900) : F20 [a, b] h = some (.bool true) := by
 show plainO (aNP h (G.aN (T20 h) 999999) a b) = _
 unfold aNP
 rw [ra.len, List.length_map, rb.len, List.length_map, aQ, cK, decide_eq_true rfl]
 have := LV ra rb hl l.length 0 999999 (by omega) (by omega)
 exact congrArg plainO this
theorem QV {s : Rm} (F : nI s) : ∀ l : List (Nat × Nat), 0 ≤ iL s l
 | [] => Int.le_refl 0
 | c :: l => by
  have := QV F l
  have := (DR F.cs (IY s c)).1
  show 0 ≤ kM s.costs (IY s c) + iL s l
  omega
theorem UW (l : List Int) (x : Int) : lK (l ++ [x]) = lK l + x := by rw [QO]; show lK l + (x + 0) = _; omega
theorem XA : ∀ (l : List Int) (B : Int), (∀ y ∈ l, 0 ≤ y ∧ y ≤ B) → 0 ≤ lK l ∧ lK l ≤ B * (l.length : Int)
 | [], B, _ => ⟨Int.le_refl 0, by show (0 : Int) ≤ B * 0; simp⟩
 | z :: l, B, hy => by
  have ih := XA l B fun y h => hy y (.tail _ h)
  have := hy z (.head _)
  show 0 ≤ z + lK l ∧ z + lK l ≤ B * ((l.length + 1 : Nat) : Int)
  rw [show B * ((l.length + 1 : Nat) : Int) = B * (l.length : Int) + B from by rw [Int.natCast_add, Int.mul_add]; simp]
  omega
theorem aAM {s : Rm} (F : nI s) : ∀ l : List (Nat × Nat), (∀ c ∈ l, c.1 < s.bP.length ∧ c.2 < s.dR.length) → iL s l ≤ 400 * (l.length : Int)
 | [], _ => by show (0 : Int) ≤ 400 * 0; omega
 | c :: l, h => by
  have ih := aAM F l fun d hd => h d (.tail _ hd)
  have hc := h c (.head _)
  have k4 := (aC2 F hc.1 hc.2).1
  have cb := (DR F.cs (IY s c)).2
  show kM s.costs (IY s c) + iL s l ≤ 400 * ((l.length + 1 : Nat) : Int)
  omega
theorem aSB {s : Rm} (e0 : (fC s).2.2 = 0) : 0 ≤ (jN s).2.1 ∧ (jN s).2.1 ≤ 4000 ∧ (jN s).1.length ≤ 900 := by
 have F := rF e0
 have np := F.np
 unfold jN
 rw [if_neg (by simpa using e0)]
 cases hB : jW s with
 | none => exact ⟨Int.le_refl 0, by show (0 : Int) ≤ 4000; decide, by show 0 ≤ 900; decide⟩
 | some b =>
  obtain ⟨ip, hl, _⟩ := oZ F (UI hB).1
  have a := QV F (gQ 0 b)
  have c := aAM F (gQ 0 b) ip.2
  rw [qM, hl] at c
  refine ⟨a, by show iL s (gQ 0 b) ≤ 4000; omega, ?_⟩
  show (wE b).length ≤ 900
  unfold wE
  rw [List.length_map]; omega
theorem aO8 (n : Nat) (r4 r7 tQ r16 : Value) (r8 r9 jB mO GA FT sI MW JZ ME : Int) (h : Hp) : aN EP (n + 1) 3 (AL.v r4 (AL.v r7 (AL.i r8 (AL.i r9 (AL.i jB (AL.i mO (AL.v tQ (AL.i GA (AL.i FT (AL.v r16 (AL.i sI (AL.i MW (AL.i JZ (AL.i ME AL.n)))))))))))))) h = aE1 (aN EP n) r4 r7 r8 r9 jB mO tQ GA FT r16 sI MW JZ ME h := rfl
theorem aXL (n : Nat) (r4 r7 tQ r16 : Value) (r8 r9 jB mO GA FT sI MW JZ ME : Int) (h : Hp) : aN EP (n + 1) 4 (AL.v r4 (AL.v r7 (AL.i r8 (AL.i r9 (AL.i jB (AL.i mO (AL.v tQ (AL.i GA (AL.i FT (AL.v r16 (AL.i sI (AL.i MW (AL.i JZ (AL.i ME AL.n)))))))))))))) h = aNV (aN EP n) r4 r7 r8 r9 jB mO tQ GA FT r16 sI MW JZ ME h := rfl
theorem aXM (n : Nat) (r4 r7 tQ r16 : Value) (r8 r9 jB mO GA FT sI MW JZ : Int) (h : Hp) : aN EP (n + 1) 7 (AL.v r4 (AL.v r7 (AL.i r8 (AL.i r9 (AL.i jB (AL.i mO (AL.v tQ (AL.i GA (AL.i FT (AL.v r16 (AL.i sI (AL.i MW (AL.i JZ AL.n))))))))))))) h = aNU (aN EP n) r4 r7 r8 r9 jB mO tQ GA FT r16 sI MW JZ h := rfl
theorem aXN (n : Nat) (r4 r7 : Value) (r8 r9 : Int) (b : Bool) (h : Hp) : aN EP (n + 1) 5 (AL.v r4 (AL.v r7 (AL.i r8 (AL.i r9 (AL.b b AL.n))))) h = aNT (aN EP n) r4 r7 r8 r9 b h := rfl
theorem aXO (n : Nat) (r4 r7 : Value) (r8 r9 : Int) (h : Hp) : aN EP (n + 1) 6 (AL.v r4 (AL.v r7 (AL.i r8 (AL.i r9 AL.n)))) h = aNS (aN EP n) r4 r7 r8 r9 h := rfl
theorem aSC {h : Hp} (w : Wf h) {s : Rm} (e0 : (fC s).2.2 = 0) {r4 : Value} {r : List Value} (R : FU h (tw s) r) (ar : At h r4 r) {v : Value} (sv : lV h 1 v ((jN s).1.map cZ)) (n : Nat) :
  ∃ h', aN EP (n + 2) 5 (AL.v r4 (AL.v v (AL.i (jN s).2.1 (AL.i (jN s).2.2 (AL.b false AL.n))))) h = some (.bool true, h') := by
 obtain ⟨b1, b2, b3⟩ := aSB e0
 rw [aXN (n + 1)]
 unfold aNT
 rw [aH, if_neg (by decide), aXO]
 unfold aNS
 obtain ⟨h2, e2⟩ := PZ (h := dF h) (fM w) R
 rw [ar.eX (z := 4) R.len, bO e2 rfl, aB, aZ, aR, aH]
 by_cases e1 : (fC (tw s)).2.2 = 0
 case neg =>
  rw [if_pos (by simpa using e1), PU, aB, aZ]
  exact ⟨_, rfl⟩
 have bt := aO1 e0 e1
 obtain ⟨h3', v3, e3, g3, i3⟩ := KA (h := dF h) (fM w) R
 rw [bt] at e3 i3
 obtain ⟨h3, e4, g4, i4⟩ := xV w e3 g3 i3
 rw [if_neg (by simpa using e1), ar.eX (z := 4) R.len, e4, aB, bG (v := v3) rfl, bG (v := .int .i64 (2 * (jN s).2.1)) rfl, aI, bG (v := .int .i64 (jN s).2.2) rfl, aI, aHP i4.sl.rows (sv.sub g4.sub).rows b3, aM, aB, aZ, aH, if_pos rfl, show Int.mul (Int.ofNat 2) (jN s).2.1 = 2 * (jN s).2.1 from rfl, wrap64_in _ (by omega) (by omega), aQ, cK, aH, if_pos (by simp), aQ, cK, aH, if_pos (by simp), PU, aB, aZ]
 exact ⟨_, rfl⟩
theorem aFP {h : Hp} (w : Wf h) {s : Rm} (e0 : (fC s).2.2 = 0) {r4 : Value} {r : List Value} (R : FU h (tw s) r) (ar : At h r4 r) {v : Value} (sv : lV h 1 v ((jN s).1.map cZ)) {a c : Value} {A C : List Int} (sa : lV h 1 a (A.map cZ)) (sc : lV h 1 c (C.map cZ)) (hl : A.length = C.length) (hA : ∀ x ∈ A, 0 ≤ x ∧ x ≤ 2000) (hC : ∀ x ∈ C, 0 ≤ x ∧ x ≤ 2000) (h4 : A.length ≤ 4) (hs : lK C = lK A) (x y : Int) :
  ∀ (m i n : Nat), i + m = A.length → 3 * m + 10 ≤ n → ∃ h', aN EP n 3 (AL.v r4 (AL.v v (AL.i (jN s).2.1 (AL.i (jN s).2.2 (AL.i (jN s).2.1 (AL.i (jN s).2.2 (AL.v a (AL.i x (AL.i y (AL.v c (AL.i x (AL.i y (AL.i (lK (A.take i) - lK (C.take i)) (AL.i (i : Int) AL.n)))))))))))))) h = some (.bool true, h')
 | 0, i, n', hi, hn => by
  obtain ⟨n, rfl⟩ : ∃ n, n' = n + 4 := ⟨n' - 4, by omega⟩
  rw [aO8 (n + 3)]
  unfold aE1
  rw [sa.rows.len, List.length_map, aQ, aW, aH, if_neg (by simp; omega), aXM (n + 2), List.take_of_length_le (by omega), List.take_of_length_le (by omega), hs]
  unfold aNU
  rw [aR, cK, aH, if_neg (by simp), aR, cK, aH, if_neg (by simp), sa.rows.len, sc.rows.len, List.length_map, List.length_map, aR, cK, aH, if_neg (by simp [hl]), aR, cK, aH, if_neg (by simp), aR, cK, aH, if_neg (by simp), aR, cK, show (!decide (y = y)) = false from by simp]
  exact aSC w e0 R ar sv n
 | m + 1, i, n', hi, hn => by
  obtain ⟨n, rfl⟩ : ∃ n, n' = n + 2 := ⟨n' - 2, by omega⟩
  have i1 : i < A.length := by omega
  have i2 : i < C.length := by omega
  obtain ⟨p, hp, ap, _⟩ := sa.rows.at (i := i) (r := cZ A[i]) (by rw [List.getElem?_map, List.getElem?_eq_getElem i1]; rfl)
  obtain ⟨q, hq, aq, _⟩ := sc.rows.at (i := i) (r := cZ C[i]) (by rw [List.getElem?_map, List.getElem?_eq_getElem i2]; rfl)
  have b1 := hA _ (List.getElem_mem i1)
  have b2 := hC _ (List.getElem_mem i2)
  have s1 := XA (A.take i) 2000 fun y hy => hA y (List.mem_of_mem_take hy)
  have s2 := XA (C.take i) 2000 fun y hy => hC y (List.mem_of_mem_take hy)
  rw [List.length_take] at s1 s2
  have m1 : ((min i A.length : Nat) : Int) ≤ 4 := by omega
  have m2 : ((min i C.length : Nat) : Int) ≤ 4 := by omega
  rw [aO8 (n + 1)]
  unfold aE1
  rw [sa.rows.len, List.length_map, aQ, aW, aH, if_pos (by simp; omega), sc.rows.len, List.length_map, aQ, aW, aH, if_pos (by simp; omega), aXL]
  unfold aNV
  rw [hp, ap.j6 (x := .int .i64 A[i]) rfl, aI, show Int.add (lK (A.take i) - lK (C.take i)) A[i] = lK (A.take i) - lK (C.take i) + A[i] from rfl, wrap64_in _ (by omega) (by omega), hq, aq.j6 (x := .int .i64 C[i]) rfl, aI, show Int.sub (lK (A.take i) - lK (C.take i) + A[i]) C[i] = lK (A.take i) - lK (C.take i) + A[i] - C[i] from rfl, wrap64_in _ (by omega) (by omega), show Int.add (i : Int) (Int.ofNat 1) = ((i + 1 : Nat) : Int) from rfl, wrap64_in _ (by omega) (by omega)]
  have := aFP w e0 R ar sv sa sc hl hA hC h4 hs x y m (i + 1) n (by omega) (by omega)
  rw [List.take_succ_eq_append_getElem i1, List.take_succ_eq_append_getElem i2, UW, UW, show lK (A.take i) + A[i] - (lK (C.take i) + C[i]) = lK (A.take i) - lK (C.take i) + A[i] - C[i] by omega] at this
  exact this
end Go.Proofs.Ytdpicdnpiihaaaa.K.L
open Go Go.bI
set_option maxRecDepth 100000
set_option linter.unusedVariables false
namespace Go.Proofs.Ytdpicdnpiihaaaa.K.L
theorem aSD {h0 h : Hp} (w0 : Wf h0) {s : Rm} (e0 : (fC s).2.2 = 0) {p vc vo vf vp : Value} (A : FU h0 s (dO vc vo vf vp)) (sc : lV h0 1 vc (s.costs.map cZ)) (so : lV h0 1 vo (s.bW.map cZ)) (sf : lV h0 3 vf (s.bP.map Lk.row)) (sp : lV h0 3 vp (s.dR.map Lk.row)) (af : ∀ g ∈ s.bP, LD h0 g) (ap : ∀ g ∈ s.dR, LD h0 g)
  {b3 b4 : Nat} {v3 v : Value} (T : aO6 h0 h s p vc vo vf vp b3 b4 (dO vc vo v3 vp) (dO v vo vf vp)) (R : CK h v3 s.bP.reverse) (W : TwA h v (s.costs.map fun x => 2 * x)) (n : Nat) (hn : 100 ≤ n) :
  ∃ h', aN EP n 8 (AL.v p (AL.v (.pointer (some ⟨b3, 0, none⟩)) (AL.v (.pointer (some ⟨b4, 0, none⟩)) AL.n))) h = some (.bool true, h') := by
 obtain ⟨n, rfl⟩ : ∃ n', n = n' + 1 := ⟨n - 1, by omega⟩
 have g := T.g
 have R0 : FU h s (dO vc vo vf vp) := A.sub g.sub
 have R3 : FU h (bk s) (dO vc vo v3 vp) := ⟨_, _, _, _, rfl, sc.sub g.sub, so.sub g.sub, R.sl, sp.sub g.sub, fun x hx => (af x (List.mem_reverse.1 hx)).sub g.sub, fun x hx => (ap x hx).sub g.sub⟩
 have R4 : FU h (tw s) (dO v vo vf vp) := ⟨_, _, _, _, rfl, W.sl, so.sub g.sub, sf.sub g.sub, sp.sub g.sub, fun x hx => (af x hx).sub g.sub, fun x hx => (ap x hx).sub g.sub⟩
 have ar := T.ar.sub g.sub
 have a3 : At h (.pointer (some ⟨b3, 0, none⟩)) (dO vc vo v3 vp) := ⟨b3, 0, _, 25, none, rfl, T.d3, by show 0 + 4 ≤ 4; decide, fun k x hx => by rw [Nat.zero_add]; exact hx⟩
 have a4 : At h (.pointer (some ⟨b4, 0, none⟩)) (dO v vo vf vp) := ⟨b4, 0, _, 25, none, rfl, T.d4, by show 0 + 4 ≤ 4; decide, fun k x hx => by rw [Nat.zero_add]; exact hx⟩
 have e1 := a7H e0
 have bb := aSA e0 e1
 obtain ⟨u1, u2, u3, u4, u5, u6⟩ := aXE e0 e1
 rw [aXH]
 unfold aNW
 obtain ⟨h1', v1, f1, g1', i1'⟩ := KA (h := dF h) (fM g.wf) R0
 obtain ⟨h1, k1, g1, i1⟩ := xV g.wf f1 g1' i1'
 rw [ar.eX (z := 4) rfl, k1, aB, bG (v := v1) rfl, bG (v := .int .i64 (jN s).2.1) rfl, aI, bG (v := .int .i64 (jN s).2.2) rfl, aI]
 obtain ⟨h2', v2, f2, g2', i2'⟩ := KA (h := dF h1) (fM g1.wf) (R3.sub g1.sub)
 obtain ⟨h2, k2, g2, i2⟩ := xV g1.wf f2 g2' i2'
 rw [(a3.sub g1.sub).eX (z := 4) rfl, k2, aB, bG (v := v2) rfl, bG (v := .int .i64 (jN (bk s)).2.1) rfl, aI, bG (v := .int .i64 (jN (bk s)).2.2) rfl, aI]
 have g02 := g1.trans g2
 obtain ⟨h3', v5, f3, g3', i3'⟩ := aAC (h := dF h2) (fM g2.wf) (R0.sub g02.sub)
 obtain ⟨h3, k3, g3, i3⟩ := xV g2.wf f3 g3' i3'
 rw [(ar.sub g02.sub).eX (z := 4) rfl, k3, aB, bG (v := v5) rfl, bG (v := .int .i64 (sD s).2.1) rfl, aI, bG (v := .int .i64 (sD s).2.2) rfl, aI]
 have g03 := g02.trans g3
 obtain ⟨h4', v6, f4, g4', i4'⟩ := aAC (h := dF h3) (fM g3.wf) (R3.sub g03.sub)
 obtain ⟨h4, k4, g4, i4⟩ := xV g3.wf f4 g4' i4'
 rw [(a3.sub g03.sub).eX (z := 4) rfl, k4, aB, bG (v := v6) rfl, bG (v := .int .i64 (sD (bk s)).2.1) rfl, aI, bG (v := .int .i64 (sD (bk s)).2.2) rfl, aI, bb, u1]
 have g04 := g03.trans g4
 exact aFP g4.wf e0 (R4.sub g04.sub) (a4.sub g04.sub) (i1.sl.sub ((g2.trans g3).trans g4).sub) (i3.sl.sub g4.sub) i4.sl u2.symm u4 u5 u6 u3 (sD s).2.1 (sD s).2.2 (sD s).1.length 0 n (by omega) (by omega)
theorem aFQ {h0 : Hp} (w0 : Wf h0) {s : Rm} (F : nI s) {p vc vo vf vp : Value} (sf : lV h0 3 vf (s.bP.map Lk.row)) (af : ∀ g ∈ s.bP, LD h0 g) {b3 b4 : Nat} {v4 : Value}
  (done : ∀ (h : Hp) (n : Nat) (v : Value), 400 ≤ n → aO6 h0 h s p vc vo vf vp b3 b4 (dO vc vo v vp) (dO v4 vo vf vp) → CK h v s.bP.reverse → ∃ h', aN EP n 2 (AL.v p (AL.v (.pointer (some ⟨b3, 0, none⟩)) (AL.v (.pointer (some ⟨b4, 0, none⟩)) (AL.i (Int.ofNat 0) AL.n)))) h = some (.bool true, h')) :
  ∀ (k n : Nat) (h : Hp) (v : Value), k ≤ s.bP.length → k + 500 ≤ n → aO6 h0 h s p vc vo vf vp b3 b4 (dO vc vo v vp) (dO v4 vo vf vp) → CK h v (s.bP.reverse.take (s.bP.length - k)) →
  ∃ h', aN EP n 1 (AL.v p (AL.v (.pointer (some ⟨b3, 0, none⟩)) (AL.v (.pointer (some ⟨b4, 0, none⟩)) (AL.i ((k : Int) - 1) AL.n)))) h = some (.bool true, h')
 | 0, n', h, v, hk, hn, T, R => by
  obtain ⟨n, rfl⟩ : ∃ n, n' = n + 2 := ⟨n' - 2, by omega⟩
  rw [aO4 (n + 1)]
  unfold aE3
  rw [aR, aW, aH, if_neg (by decide), aXI]
  rw [List.take_of_length_le (by rw [List.length_reverse]; omega)] at R
  exact done h n v (by omega) T R
 | k + 1, n', h, v, hk, hn, T, R => by
  obtain ⟨n, rfl⟩ : ∃ n, n' = n + 1 := ⟨n' - 1, by omega⟩
  have nf := F.nf
  have hk' : k < s.bP.length := by omega
  have ar := T.ar.sub T.g.sub
  have lf := (af _ (List.getElem_mem hk')).sub T.g.sub
  obtain ⟨q, eq, aq, _⟩ := (sf.sub T.g.sub).rows.at (i := k) (r := (s.bP[k]).row) (by rw [List.getElem?_map, List.getElem?_eq_getElem hk']; rfl)
  have ki : (((k + 1 : Nat) : Int) - 1) = (k : Int) := by omega
  obtain ⟨v2, h2, g2, W2, e2⟩ := aXF T.g.wf R (by rw [List.length_take]; omega) (f := s.bP[k]) lf
   (X := fun n2 K => aO 2 (.pointer (some ⟨b3, 0, none⟩)) fun v3 => aJ (Hp.mk n2 n2 h.aC) v3 K)
   (Y := fun n6 K => aO 2 p fun v7 => aJ (Hp.mk n6 n6 h.aC) v7 fun v8 => dN 3 v8 (k : Int) fun v9 => aT 3 (Hp.mk n6 n6 h.aC) v9 K)
   (fun n K => fB (h := Hp.mk n n h.aC) (o := 2) T.d3 rfl K)
   (fun n K => by
    have ar' : At (Hp.mk n n h.aC) p (dO vc vo vf vp) := ar
    have aq' : At (Hp.mk n n h.aC) q (s.bP[k]).row := aq
    rw [ar'.wP 2 (x := vf) rfl, eq, aq'.eX (z := 3) rfl])
  rw [aO4, ki]
  unfold aE3
  rw [aR, aW, aH, if_pos (by simp)]
  have ee := e2 fun v13 zT => aO 2 (.pointer (some ⟨b3, 0, none⟩)) fun v14 => iB zT v14 v13 fun h15 => wrap64 (Int.sub (k : Int) (Int.ofNat 1)) fun i16 => aN EP n 1 (AL.v p (AL.v (.pointer (some ⟨b3, 0, none⟩)) (AL.v (.pointer (some ⟨b4, 0, none⟩)) (AL.i i16 AL.n)))) h15
  refine Eq.mp (congrArg (fun x => ∃ h', x = some (Value.bool true, h')) ee.symm) ?_
  have d3 := g2.sub _ _ T.d3
  have d4 := g2.sub _ _ T.d4
  have w0r := w0.1
  have n3 := T.n3
  have ro : h2.ro = h0.ro := g2.ro.trans T.g.ro
  have p2 : ∀ K : Value → aF, aO 2 (.pointer (some ⟨b3, 0, none⟩)) K = K (.pointer (some ⟨b3, 2, none⟩)) := fun _ => rfl
  rw [p2, kY (o := 2) d3 (by omega) W2.one (by show 2 < 4; decide), show (dO vc vo v vp).set 2 v2 = dO vc vo v2 vp from rfl, show Int.sub (k : Int) (Int.ofNat 1) = (k : Int) - 1 from rfl, wrap64_in _ (by omega) (by omega)]
  have lt3 := g2.wf.2 _ _ d3
  refine aFQ w0 F sf af done k n _ v2 (by omega) (by omega) ⟨aV.upd w0 (T.g.trans g2) T.n3 lt3 _, T.ar, by rw [bL, if_pos rfl], by rw [bL, if_neg (Ne.symm T.ne)]; exact d4, T.n3, T.n4, T.ne⟩ ?_
  have hr : s.bP.length - (k + 1) < s.bP.reverse.length := by rw [List.length_reverse]; omega
  have : s.bP.reverse.take (s.bP.length - k) = s.bP.reverse.take (s.bP.length - (k + 1)) ++ [s.bP[k]] := by
   rw [show s.bP.length - k = s.bP.length - (k + 1) + 1 by omega, List.take_succ_eq_append_getElem hr, List.getElem_reverse]
   congr 3
   simp only [show s.bP.length - 1 - (s.bP.length - (k + 1)) = k by omega]
  rw [this]
  exact W2.off d3 _
theorem aXP : gT env 25 = some 4 := by kernel_rfl
theorem aAN (h : Hp) {b : Nat} {c l : List Value} {e : TypeId} {s : Option Nat} (hg : h.get b = some (.cells c e s)) (hc : c.length = 4) (hl : l.length = 4) (hx : l.all oneCell = true) (hro : h.ro ≤ b) : mW env h 25 (.pointer (some ⟨b, 0, none⟩)) (.agg (Array.mk l)) = some (h.upd b (.cells l e s)) := by
 unfold mW
 rw [show addrOf (.pointer (some ⟨b, 0, none⟩)) = some ⟨b, 0, none⟩ from rfl]
 simp only [Option.bind_some, aXP]
 show ok? (Nat.beq l.length 4) (putCells h ⟨b, 0, none⟩ l) = _
 rw [hl]
 show putCells h ⟨b, 0, none⟩ l = _
 unfold putCells
 simp only [ok?, hg]
 rw [show Nat.ble h.ro b = true from by rw [Nat.ble_eq]; exact hro]
 simp only
 rw [show Nat.ble (0 + l.length) c.length = true from by rw [Nat.ble_eq, hc, hl]; exact Nat.le_refl _, hx]
 rw [show c.drop (0 + l.length) = [] from List.drop_of_length_le (by rw [hc, hl]; exact Nat.le_refl _), List.append_nil]
 rfl
theorem aHQ {h : Hp} (w : Wf h) {l : List Value} (e1 : l.length = 4) (x1 : l.all oneCell = true) (chk : List (Nat × bY) → List (Nat × bY) → Nat → Bool) (hc : ∀ x w, chk [(h.next, x)] w h.next = true) :
  ∃ h', aV h h' ∧ h'.get h.next = some (.cells l 25 none) ∧ h'.get (h.next + 1) = some (.cells l 25 none) ∧ ∀ K : Value → Value → Hp → aF,
   (bC (Hp.mk h.next h.next T.nil) 25 kH fun a9 h9 => eP a9 h.next h9 fun TV n10 => bC (Hp.mk n10 n10 T.nil) 25 kH fun a11 h11 => eP a11 n10 h11 fun QY n12 => uH env 25 a9 (.agg (Array.mk l)) n12 h.next (aG QY (aG TV h.aC)) (chk TV QY) fun w13 => dY 4 (Hp.mk n12 h.ro (aG w13 (aG QY (aG TV h.aC)))) a11 (.agg (Array.mk l)) fun ZB => K a9 a11 ZB) = K (.pointer (some ⟨h.next, 0, none⟩)) (.pointer (some ⟨h.next + 1, 0, none⟩)) h' := by
 have gN : aV h (((h.add (.cells kH 25 none)).add (.cells kH 25 none)).upd h.next (.cells l 25 none)) :=
  aV.upd w ((aV.add w _).trans (aV.add (w.add _) _)) (Nat.le_refl _) (by rw [kZ, kZ]; omega) _
 have cx : (((h.add (.cells kH 25 none)).add (.cells kH 25 none)).upd h.next (.cells l 25 none)).get h.next = some (.cells l 25 none) := by rw [bL, if_pos rfl]
 have cz : (((h.add (.cells kH 25 none)).add (.cells kH 25 none)).upd h.next (.cells l 25 none)).get (h.next + 1) = some (.cells kH 25 none) := by
  rw [bL, if_neg (by omega), bD, if_pos (by rw [kZ])]
 have wr := w.1
 have ro : (((h.add (.cells kH 25 none)).add (.cells kH 25 none)).upd h.next (.cells l 25 none)).ro = h.ro := rfl
 have nx : (((h.add (.cells kH 25 none)).add (.cells kH 25 none)).upd h.next (.cells l 25 none)).next = h.next + 2 := rfl
 refine ⟨(((h.add (.cells kH 25 none)).add (.cells kH 25 none)).upd h.next (.cells l 25 none)).upd (h.next + 1) (.cells l 25 none), aV.upd w gN (by omega) (by omega) _, by rw [bL, if_neg (by omega)]; exact cx, by rw [bL, if_pos rfl], fun K => ?_⟩
 rw [bT, show (Hp.mk h.next h.next T.nil).next = h.next from rfl, DV, bT, show (Hp.mk (h.next + 1) (h.next + 1) T.nil).next = h.next + 1 from rfl, DV]
 have hget : Hp.get ⟨h.next + 1 + 1, h.next, aG [(h.next + 1, bY.cells kH 25 none)] (aG [(h.next, bY.cells kH 25 none)] h.aC)⟩ h.next = some (.cells kH 25 none) := by
  show ((h.add (.cells kH 25 none)).add (.cells kH 25 none)).get h.next = _
  rw [bD, if_neg (by rw [kZ]; omega), bD, if_pos rfl]
 have sq : ∀ k : List (Nat × bY) → aF, uH env 25 (.pointer (some ⟨h.next, 0, none⟩)) (.agg (Array.mk l)) (h.next + 1 + 1) h.next (aG [(h.next + 1, .cells kH 25 none)] (aG [(h.next, .cells kH 25 none)] h.aC)) (chk [(h.next, .cells kH 25 none)] [(h.next + 1, .cells kH 25 none)]) k = k [(h.next, .cells l 25 none)] := by
  intro k
  unfold uH
  rw [show addrOf (.pointer (some ⟨h.next, 0, none⟩)) = some ⟨h.next, 0, none⟩ from rfl]
  simp only [hc]
  rw [aH, if_pos rfl, aAN _ hget rfl e1 x1 (Nat.le_refl _), aM]
  rw [show Nat.beq (Hp.upd ⟨h.next + 1 + 1, h.next, aG [(h.next + 1, bY.cells kH 25 none)] (aG [(h.next, bY.cells kH 25 none)] h.aC)⟩ h.next (.cells l 25 none)).next (h.next + 1 + 1) = true from Nat.beq_refl _, aH, if_pos rfl, bL, if_pos rfl, aM]
 rw [sq]
 have fin : ∀ k : Hp → aF, dY 4 (((h.add (.cells kH 25 none)).add (.cells kH 25 none)).upd h.next (.cells l 25 none)) (.pointer (some ⟨h.next + 1, 0, none⟩)) (.agg (Array.mk l)) k = k ((((h.add (.cells kH 25 none)).add (.cells kH 25 none)).upd h.next (.cells l 25 none)).upd (h.next + 1) (.cells l 25 none)) := fun k => by
  rw [vY (n := 4) (c := kH) (t := 25) (s := none) cz (by rw [ro]; omega) e1 x1 (by show 0 + 4 ≤ 4; decide), List.drop_of_length_le (by rw [e1]; show 4 ≤ 0 + 4; decide)]
  simp
 exact fin _
theorem aO9 {h : Hp} (w : Wf h) {s : Rm} {r : List Value} (a : FU h s r) : ∃ h', F15 [.agg (Array.mk r)] h = some (.bool true, h') := by
 have start : F15 [.agg (Array.mk r)] h = aNX (aN EP 999999) (.agg (Array.mk r)) h := rfl
 rw [start]
 unfold aNX
 have hr4 := a.len
 rw [fF, bT]
 have g1 : aV h (h.add (.cells r 25 none)) := aV.add w _
 have a1 : At (h.add (.cells r 25 none)) (.pointer (some ⟨h.next, 0, none⟩)) r := At.new
 replace a := a.sub g1.sub
 clear start
 generalize h.add (.cells r 25 none) = h1 at g1 a1 a ⊢
 generalize Value.pointer (some ⟨h.next, 0, none⟩) = p at a1 ⊢
 obtain ⟨h4, e4⟩ := PZ (h := dF h1) (fM g1.wf) a
 rw [a1.eX (z := 4) hr4, bO e4 rfl, aB, aZ, aR, aH]
 by_cases e0 : (fC s).2.2 = 0
 case neg =>
  rw [if_pos (by simpa using e0), PU, aB, aZ]
  exact ⟨_, rfl⟩
 have F := rF e0
 have nf := F.nf
 have one := a.one
 obtain ⟨vc, vo, vf, vp, rfl, sc, so, sf, sp, af, ap⟩ := a
 have A : FU h1 s (dO vc vo vf vp) := ⟨vc, vo, vf, vp, rfl, sc, so, sf, sp, af, ap⟩
 have a1s : At (Hp.mk h1.next h1.next h1.aC) p (dO vc vo vf vp) := a1
 obtain ⟨H, gH, d3, d4, eH⟩ := aHQ g1.wf (l := dO vc vo vf vp) rfl one (fun TV QY b => (fI [] b || (fI TV b || (fI QY b || false)))) (fun x w => by
  have hh : fI [(h1.next, x)] h1.next = true := by unfold fI; simp
  simp only [hh, Bool.true_or, Bool.or_true])
 rw [if_neg (by rw [e0]; decide), a1s.eX (z := 4) rfl, a1s.eX (z := 4) rfl, show [(Value.slice none 0 0), (Value.slice none 0 0), (Value.slice none 0 0), (Value.slice none 0 0)] = kH from rfl, eH]
 have wr := g1.wf.1
 have hro : H.ro = h1.ro := gH.ro
 have lt3 := gH.wf.2 _ _ d3
 have lt4 := gH.wf.2 _ _ d4
 have p2 : ∀ K : Value → aF, aO 2 (.pointer (some ⟨h1.next, 0, none⟩)) K = K (.pointer (some ⟨h1.next, 2, none⟩)) := fun _ => rfl
 have p0 : ∀ K : Value → aF, aO 0 (.pointer (some ⟨h1.next + 1, 0, none⟩)) K = K (.pointer (some ⟨h1.next + 1, 0, none⟩)) := fun _ => rfl
 rw [p2, kY (o := 2) d3 (by omega) rfl (by show 2 < 4; decide), show (dO vc vo vf vp).set 2 (.slice none 0 0) = dO vc vo (.slice none 0 0) vp from rfl]
 have gA : aV h1 (H.upd h1.next (.cells (dO vc vo (.slice none 0 0) vp) 25 none)) := aV.upd g1.wf gH (Nat.le_refl _) lt3 _
 have x3 : (H.upd h1.next (.cells (dO vc vo (.slice none 0 0) vp) 25 none)).get h1.next = some (.cells (dO vc vo (.slice none 0 0) vp) 25 none) := by rw [bL, if_pos rfl]
 have x4 : (H.upd h1.next (.cells (dO vc vo (.slice none 0 0) vp) 25 none)).get (h1.next + 1) = some (.cells (dO vc vo vf vp) 25 none) := by rw [bL, if_neg (by omega)]; exact d4
 have nA : (H.upd h1.next (.cells (dO vc vo (.slice none 0 0) vp) 25 none)).next = H.next := rfl
 generalize H.upd h1.next (.cells (dO vc vo (.slice none 0 0) vp) 25 none) = HA at gA x3 x4 nA ⊢
 have roA : HA.ro = h1.ro := gA.ro
 rw [p0, kY (o := 0) x4 (by omega) rfl (by show 0 < 4; decide), show (dO vc vo vf vp).set 0 (.slice none 0 0) = dO (.slice none 0 0) vo vf vp from rfl]
 have gB : aV h1 (HA.upd (h1.next + 1) (.cells (dO (.slice none 0 0) vo vf vp) 25 none)) := aV.upd g1.wf gA (by omega) (by omega) _
 have y3 : (HA.upd (h1.next + 1) (.cells (dO (.slice none 0 0) vo vf vp) 25 none)).get h1.next = some (.cells (dO vc vo (.slice none 0 0) vp) 25 none) := by rw [bL, if_neg (by omega)]; exact x3
 have y4 : (HA.upd (h1.next + 1) (.cells (dO (.slice none 0 0) vo vf vp) 25 none)).get (h1.next + 1) = some (.cells (dO (.slice none 0 0) vo vf vp) 25 none) := by rw [bL, if_pos rfl]
 generalize HA.upd (h1.next + 1) (.cells (dO (.slice none 0 0) vo vf vp) 25 none) = HB at gB y3 y4 ⊢
 rw [(a1.sub gB.sub).wP 2 (x := vf) rfl, (sf.sub gB.sub).rows.len, List.length_map, show Int.sub (s.bP.length : Int) (Int.ofNat 1) = (s.bP.length : Int) - 1 from rfl, wrap64_in _ (by omega) (by omega)]
 refine aFQ g1.wf F sf af (fun h n v hn T R => ?_) s.bP.length 999999 HB (.slice none 0 0) (Nat.le_refl _) (by omega) ⟨gB, a1, y3, y4, Nat.le_refl _, by omega, by omega⟩ (.inl ⟨rfl, by rw [Nat.sub_self]; rfl⟩)
 have nc := F.nc
 exact aFO g1.wf F sc s.bP.reverse (fun h n v hn T R W => aSD g1.wf e0 A sc so sf sp af ap T R W n hn) s.costs.length 0 n h (.slice none 0 0) (by omega) (by omega) T R (.inl ⟨rfl, rfl⟩)
end Go.Proofs.Ytdpicdnpiihaaaa.K.L
