/- Contracts of told functions: openPlan. -/
import Derived.Test.YtdpicdnpiihaaaaLeS17
open Go Go.bK
set_option maxRecDepth 100000
set_option linter.unusedVariables false
namespace Go.Proofs.Ytdpicdnpiihaaaa.K.L
theorem aOQ (n : Nat) (v p q x u : Value) (k i : Int) (h : Hp) : aI T58 (n + 1) 1 (AL.v v (AL.v p (AL.v q (AL.v x (AL.v u (AL.i k (AL.i i AL.n))))))) h = aEL (aI T58 n) v p q x u k i h := rfl
theorem aXF (n : Nat) (p q x : Value) (h : Hp) : aI T58 (n + 1) 2 (AL.v p (AL.v q (AL.v x AL.n))) h = aLJ (aI T58 n) p q x h := rfl
theorem RwA.but {hb h h' : Hp} {z : Nat} {el : TypeId} {v : Value} {n : Nat} {c : List Value} {b : Nat} (hk : ∀ i o, i ≠ b → h.get i = some o → h'.get i = some o) (h2 : b < hb.next) (a : RwA hb h z el v n c) : RwA hb h' z el v n c := by
 rcases a with a | ⟨d, y1, y2, y3⟩
 ·exact .inl a
 ·exact .inr ⟨d, y1, y2, hk _ _ (by omega) y3⟩
theorem LJ {h0 hb : Hp} (w0 : Wf h0) (g0 : aR h0 hb) {vpl : Value} {pl : List Int} (sl : jC hb 1 vpl (pl.map bB)) (hlen : pl.length ≤ 5) (hpos : ∀ x ∈ pl, 0 ≤ x) {b1 : Nat} (hb1 : h0.next ≤ b1) (c1 : hb.get b1 = some (.cells zeroV 71 none)) {q : Value} {lk : List Value} (aq : At hb q lk) (hl5 : lk.length = 5) (h1c : lk.all oneCell = true) :
  ∀ (m i n : Nat) (h : Hp) (x : Value), aR hb h → RwA hb h 2 76 x (tJ 0 (pl.take i)).length ((tJ 0 (pl.take i)).flatMap gI) → i + m = pl.length → m + 3 ≤ n →
  ∃ h' x' lk', aI T58 n 1 (AL.v vpl (AL.v (.pointer (some ⟨b1, 0, none⟩)) (AL.v q (AL.v x (AL.v vpl (AL.i (pl.length : Int) (AL.i (i : Int) AL.n))))))) h = some (.tuple (List.toArray [.agg (Array.mk lk'), x', .int .i64 (if FW pl i (pl.drop i) then 5 else 0)]), h') ∧ aR h0 h' ∧ lk'.length = 5 ∧ lk'.all oneCell = true ∧ (FW pl i (pl.drop i) = false → lk' = lk ∧ jC h' 2 x' ((tJ 0 pl).map gI) ∧ ∃ hk, aR hb hk ∧ ∀ i o, i ≠ b1 → hk.get i = some o → h'.get i = some o)
 | 0, i, n', h, x, g, rw, hi, hn => by
  obtain ⟨n, rfl⟩ : ∃ n, n' = n + 2 := ⟨n' - 2, by omega⟩
  have lt1 := hb.next
  have hb1' : b1 < hb.next := by
   by_cases c : b1 < hb.next
   ·exact c
   ·have := g.wf.2 b1 _ (g.sub _ _ c1)
    exact (Nat.lt_or_ge b1 hb.next).elim id fun k => absurd c1 (by
     intro e
     exact c ((show Wf hb from g0.wf).2 b1 _ e))
  rw [aOQ]
  unfold aEL
  rw [aH, aN, aC, if_neg (by simp; omega), aXF]
  unfold aLJ
  obtain ⟨h3, g3, a3, k3, o3⟩ := pW (z := 5) (l := lk) w0 (g0.trans g) hb1 (g.sub _ _ c1) rfl hl5 h1c
  rw [(aq.sub g.sub).dL (z := 5) hl5, k3, a3.dL (z := 5) hl5, List.drop_of_length_le (by omega), show FW pl i [] = false from rfl]
  rw [List.take_of_length_le (by omega)] at rw
  exact ⟨h3, x, lk, rfl, g3, hl5, h1c, fun _ => ⟨rfl, (rw.but o3 hb1').ch, h, g, o3⟩⟩
 | m + 1, i, n', h, x, g, rw, hi, hn => by
  obtain ⟨n, rfl⟩ : ∃ n, n' = n + 1 := ⟨n' - 1, by omega⟩
  have hi' : i < pl.length := by omega
  obtain ⟨y, hy, ay, _⟩ := (sl.sub g.sub).rows.at (i := i) (r := bB pl[i]) (by rw [List.getElem?_map, List.getElem?_eq_getElem hi']; rfl)
  obtain ⟨v4, e4, r4⟩ := (sl.sub g.sub).pre CF zO (i := i) (by rw [List.length_map]; exact hi')
  rw [← List.map_take] at r4
  rw [aOQ]
  unfold aEL
  rw [aH, aN, aC, if_pos (by simp; omega), hy, ay.gL (x := .int .i64 pl[i]) rfl, aG, e4, aK, ET r4 _ (by rw [List.length_take]; omega), aK, aB, aS, aC, List.drop_eq_getElem_cons hi']
  unfold FW
  cases c : (pl.take i).contains pl[i] with
  | true =>
   obtain ⟨h6, g6, a6, k6, _⟩ := pW (z := 5) (l := zeroV) w0 (g0.trans g) hb1 (g.sub _ _ c1) rfl rfl rfl
   rw [if_pos rfl, aC2, aK, k6, a6.dL (z := 5) rfl]
   exact ⟨h6, _, zeroV, rfl, g6, rfl, rfl, fun e => by simp at e⟩
  | false =>
  have p0 := hpos _ (List.getElem_mem hi')
  obtain ⟨k, ek⟩ : ∃ k : Nat, pl[i] = (k : Int) := ⟨(pl[i]).toNat, by omega⟩
  obtain ⟨x2, h2, e2, g2, a2, _⟩ := PX aFA WS (by omega) WR (by omega) aC0 g0.wf g rw (by rw [zD, List.length_take]; omega) (u7 _) (x := gI (k, i)) rfl rfl
  have a2' : RwA hb h2 2 76 x2 (tJ 0 (pl.take (i + 1))).length ((tJ 0 (pl.take (i + 1))).flatMap gI) := by
   rw [List.take_succ_eq_append_getElem hi', ZQ, List.length_append, List.flatMap_append, ek, Int.toNat_natCast, List.length_take, Nat.min_eq_left (by omega), Nat.zero_add, show ([(k, i)] : List (Nat × Nat)).flatMap gI = gI (k, i) from by rw [List.flatMap_cons, List.flatMap_nil, List.append_nil]]
   exact a2
  rw [if_neg (by simp), ek, aXG, aK, show qB k i = .agg (Array.mk [.int .i64 (k : Int), .int .i64 (i : Int)]) from rfl, bGX, aB, show [.int .i64 (k : Int), .int .i64 (i : Int)] = gI (k, i) from rfl, e2, aB, show Int.add (i : Int) (Int.ofNat 1) = ((i + 1 : Nat) : Int) from rfl, wrap64_in _ (by omega) (by omega)]
  exact LJ w0 g0 sl hlen hpos hb1 c1 aq hl5 h1c m (i + 1) n h2 x2 g2 a2' (by omega) (by omega)
theorem TZ.low {hb h : Hp} {mb : Nat} {s : Rm} {P : Nat → Nat → Prop} (M : TZ hb h mb s P) : ∀ o c e k, h.get o = some (.cells c e k) → mb ≠ o := by
 intro o c e k ho he
 obtain ⟨es, m1, _⟩ := M
 rw [he, ho] at m1; cases m1
theorem aG4 {h : Hp} (w : Wf h) {s : Rm} {r : List Value} (a : zC h s r) {vpl : Value} {pl : List Int} (sl : jC h 1 vpl (pl.map bB)) : ∃ h' lk x, F58 [.agg (Array.mk r), vpl] h = some (.tuple (List.toArray [.agg (Array.mk lk), x, .int .i64 (vB s pl)]), h') ∧ aR h h' ∧ lk.length = 5 ∧ lk.all oneCell = true ∧ (vB s pl = 0 → IQ h.next h' s lk ∧ lk.take 4 = r ∧ jC h' 2 x ((tJ 0 pl).map gI)) := by
 have start : F58 [.agg (Array.mk r), vpl] h = aLK (aI T58 999999) (.agg (Array.mk r)) vpl h := rfl
 rw [start]
 unfold aLK
 have hr4 := a.len
 rw [dN, aX, aX]
 have g0 : aR h (h.add (.cells r 25 none)) := aR.add w _
 have a0 : At (h.add (.cells r 25 none)) (.pointer (some ⟨h.next, 0, none⟩)) r := At.new
 generalize h.add (.cells r 25 none) = h0 at g0 a0 ⊢
 have g1 : aR h (h0.add (.cells zeroV 71 none)) := g0.trans (aR.add g0.wf _)
 have a1 : At (h0.add (.cells zeroV 71 none)) (.pointer (some ⟨h.next, 0, none⟩)) r := LH g0.wf a0 _
 have c1 : (h0.add (.cells zeroV 71 none)).get h0.next = some (.cells zeroV 71 none) := by rw [bM, if_pos rfl]
 rw [show [(Value.slice none 0 0), (Value.slice none 0 0), (Value.slice none 0 0), (Value.slice none 0 0), (Value.map none)] = zeroV from rfl]
 have n0 := g0.next
 generalize h0.next = b1 at c1 n0 ⊢
 generalize h0.add (.cells zeroV 71 none) = h1 at g1 a1 c1 ⊢
 obtain ⟨h2', lk, e2, gg, hl5, h1c, hlk⟩ := UA (h := bY h1) (eF g1.wf) (a.sub g1.sub)
 obtain ⟨h2, e3, g2, o2⟩ := qY g1.wf e2 gg
 rw [a1.dL (z := 4) hr4, e3, aB, bP (v := .agg (Array.mk lk)) rfl, bP (v := .int .i64 (gD s).2.2) rfl, aG, aX]
 have c3 : (h2.add (.cells zeroV 71 none)).get h2.next = some (.cells zeroV 71 none) := by rw [bM, if_pos rfl]
 have bQB := g1.wf.2 _ _ c1
 obtain ⟨h4, g4, a4, k4, o4⟩ := pW (z := 5) (l := lk) g2.wf (aR.add g2.wf (.cells zeroV 71 none)) (b := h2.next) (Nat.le_refl _) c3 rfl hl5 h1c
 have g4h : aR h h4 := (g1.trans g2).trans g4
 rw [k4, aP, aY, aC]
 have c4 : h4.get b1 = some (.cells zeroV 71 none) := g4.sub _ _ (g2.sub _ _ c1)
 unfold vB
 have fail : ∃ h6, (∀ e : Int, (bT (jK env 71 (List.toArray [])) fun v10 => fA 5 h4 (.pointer (some ⟨b1, 0, none⟩)) v10 fun h11 => bC 5 h11 (.pointer (some ⟨b1, 0, none⟩)) fun v12 => some (Value.tuple (List.toArray [v12, (Value.slice none 0 0), (Value.int .i64 e)]), h11)) = some (.tuple (List.toArray [.agg (Array.mk zeroV), .slice none 0 0, .int .i64 e]), h6)) ∧ aR h h6 := by
  obtain ⟨h6, g6, a6, k6, _⟩ := pW (z := 5) (l := zeroV) w g4h (b := b1) n0 c4 rfl rfl rfl
  exact ⟨h6, fun e => by rw [aC2, aK, k6, a6.dL (z := 5) rfl], g6⟩
 obtain ⟨h6, k6, g6⟩ := fail
 by_cases e0 : (gD s).2.2 = 0
 case neg =>
  rw [if_pos (by simpa using e0), if_pos e0, k6]
  exact ⟨h6, zeroV, _, rfl, g6, rfl, rfl, fun e => absurd e e0⟩
 have F := wD e0
 have np := F.np
 have nf := F.nf
 have e0n : ¬ ((gD s).2.2 ≠ 0) := by simpa using e0
 obtain ⟨V2, T2⟩ := hlk e0
 have V4 : IQ h1.next h4 s lk := (aBD (o2 (V2.loud _)) V2).sub g4.sub
 obtain ⟨r', mb, hb, hlr, A, M, hlo⟩ := V4
 have hr' : r' = r := by
  rw [hlr, List.take_append_of_le_length (by rw [A.len]; omega), List.take_of_length_le (by rw [A.len]; omega)] at T2
  exact T2
 subst hr'
 obtain ⟨q4, hq4, aq4⟩ := a4.part 0 4 (by rw [hl5]; decide)
 replace aq4 : At h4 q4 r' := by rw [hlr] at aq4; rw [List.drop_zero, List.take_append_of_le_length (by rw [A.len]; omega), List.take_of_length_le (by rw [A.len]; omega)] at aq4; exact aq4
 obtain ⟨vc, vo, vf, vp, rfl, sc, so, sf, sp, af, ap⟩ := A
 have sl4 := sl.sub g4h.sub
 rw [if_neg (by simpa using e0), if_neg e0n, sl4.rows.len, List.length_map, hq4, aq4.pF 3 (x := vp) rfl, sp.rows.len, List.length_map, aP, aY, aC]
 by_cases e1 : (pl.length : Int) = (s.bE.length : Int)
 case neg =>
  rw [if_pos (by simpa using e1), if_pos e1, show (Int.ofNat 3) = (3 : Int) from rfl, k6]
  exact ⟨h6, zeroV, _, rfl, g6, rfl, rfl, fun e => absurd e (by decide)⟩
 have e1n : ¬ ((pl.length : Int) ≠ (s.bE.length : Int)) := by simpa using e1
 rw [if_neg (by simpa using e1), if_neg e1n, hq4, aq4.pF 2 (x := vf) rfl, sf.rows.len, List.length_map, aC1 sl4 (by omega) (by omega), aK, aB, aS, aP, aC]
 cases c : pl.all (qC 0 ((s.bR.length : Int) - 1)) with
 | false =>
  rw [if_pos (by rfl), if_pos (by rfl), show (Int.ofNat 4) = (4 : Int) from rfl, k6]
  exact ⟨h6, zeroV, _, rfl, g6, rfl, rfl, fun e => absurd e (by decide)⟩
 | true =>
 rw [if_neg (by simp), if_neg (by simp), sl4.rows.len, List.length_map, show (Int.ofNat 0) = ((0 : Nat) : Int) from rfl]
 obtain ⟨h7, x7, lk7, k7, g7, l7, o7, f7⟩ := LJ w g4h sl4 (by omega) (fun x hx => (oK.1 (List.all_eq_true.1 c x hx)).1) n0 c4 a4 hl5 h1c pl.length 0 999999 h4 (.slice none 0 0) (aR.refl g4.wf) (.inl ⟨rfl, by simp [tJ], by simp [tJ]⟩) (by omega) (by omega)
 rw [List.drop_zero] at k7 f7
 refine ⟨h7, lk7, x7, k7, g7, l7, o7, fun e => ?_⟩
 cases hd : FW pl 0 pl with
 | true => rw [hd] at e; exact absurd e (by decide)
 | false =>
  obtain ⟨f1, f2, hk, f3, f4⟩ := f7 hd
  subst f1
  have A6 : zC h s (fP vc vo vf vp) := a
  exact ⟨⟨_, mb, hb, hlr, A6.sub g7.sub, TZ.but f4 (M.low _ _ _ _ c4) (by omega) (M.sub f3.sub), by have := g1.next; omega⟩, T2, f2⟩
end Go.Proofs.Ytdpicdnpiihaaaa.K.L
