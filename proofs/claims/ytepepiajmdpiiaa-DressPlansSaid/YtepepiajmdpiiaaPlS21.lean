/- Contracts of told functions: lack, allows, Left, Pays. -/
import Derived.Test.YtepepiajmdpiiaaPlS20
open Go Go.Eng
set_option maxRecDepth 100000
set_option linter.unusedVariables false
namespace Go.Proofs.Ytepepiajmdpiiaa.K.L
def lD (x : Int) : Int := max 0 (0 - x)
theorem ixW (a b c d : Int) : kL env 87 (.agg (Array.mk [.int .i64 a, .int .i64 b, .int .i64 c, .int .i64 d])) (.int .i64 (Int.ofNat 0)) = some (.int .i64 a) ∧ kL env 87 (.agg (Array.mk [.int .i64 a, .int .i64 b, .int .i64 c, .int .i64 d])) (.int .i64 (Int.ofNat 1)) = some (.int .i64 b) ∧ kL env 87 (.agg (Array.mk [.int .i64 a, .int .i64 b, .int .i64 c, .int .i64 d])) (.int .i64 (Int.ofNat 2)) = some (.int .i64 c) ∧ kL env 87 (.agg (Array.mk [.int .i64 a, .int .i64 b, .int .i64 c, .int .i64 d])) (.int .i64 (Int.ofNat 3)) = some (.int .i64 d) :=
 ⟨by kernel_rfl, by kernel_rfl, by kernel_rfl, by kernel_rfl⟩
theorem aJ9 (h : Hp) (n : Nat) (v : Value) (i a b c d e f g k : Int) : G.aK (T77 h) (n + 1) 1 (aC.v v (aC.i i (aC.i a (aC.i b (aC.i c (aC.i d (aC.i e (aC.i f (aC.i g (aC.i k aC.n)))))))))) = XL h (G.aK (T77 h) n) v i a b c d e f g k := rfl
theorem aTI (h : Hp) (n : Nat) (a b c d e f g k : Int) : G.aK (T77 h) (n + 1) 2 (aC.i a (aC.i b (aC.i c (aC.i d (aC.i e (aC.i f (aC.i g (aC.i k aC.n)))))))) = some (.agg (Array.mk [.int .i64 e, .int .i64 f, .int .i64 g, .int .i64 k])) := rfl
theorem aOF (h : Hp) (n : Nat) (v : Value) (i : Nat) (hi : i < 4) {x : Int} (hx : kL env 87 v (.int .i64 (Int.ofNat i)) = some (.int .i64 x)) (hb : -100000 ≤ x ∧ x ≤ 100000) (a b c d : Int) (l : List Int) (hl : l.length = 4) :
  ∀ e f g k, l = [e, f, g, k] → ∀ e2 f2 g2 k2, l.set i (lD x) = [e2, f2, g2, k2] → G.aK (T77 h) (n + 1) 1 (aC.v v (aC.i (Int.ofNat i) (aC.i a (aC.i b (aC.i c (aC.i d (aC.i e (aC.i f (aC.i g (aC.i k aC.n)))))))))) = G.aK (T77 h) n 1 (aC.v v (aC.i (Int.ofNat (i + 1)) (aC.i a (aC.i b (aC.i c (aC.i d (aC.i e2 (aC.i f2 (aC.i g2 (aC.i k2 aC.n)))))))))) := by
 intro e f g k hl1 e2 f2 g2 k2 hl2
 subst hl1
 rw [aJ9]
 unfold XL
 rw [aM, aU, aH, if_pos (by simp; omega), hx, aO, aJ, show Int.sub 0 x = 0 - x from rfl, wrap64_in _ (by omega) (by omega), aCB, show max (Int.ofNat 0) (0 - x) = lD x from rfl]
 have : i = 0 ∨ i = 1 ∨ i = 2 ∨ i = 3 := by omega
 rcases this with rfl | rfl | rfl | rfl <;> (simp only [List.set_cons_zero, List.set_cons_succ, List.cons.injEq, and_true] at hl2; obtain ⟨rfl, rfl, rfl, rfl⟩ := hl2; rfl)
theorem aGN (h : Hp) {W : List Int} (hW : W.length = 4) (hB : ∀ x ∈ W, -100000 ≤ x ∧ x ≤ 100000) : F77 [.agg (Array.mk (W.map (Value.int .i64)))] h = some (.agg (Array.mk ((W.map lD).map (Value.int .i64)))) := by
 obtain ⟨a, b, c, d, rfl⟩ : ∃ a b c d, W = [a, b, c, d] := by
  match W, hW with
  | [a, b, c, d], _ => exact ⟨a, b, c, d, rfl⟩
 obtain ⟨i0, i1, i2, i3⟩ := ixW a b c d
 show plainO (aDJ h (G.aK (T77 h) 999999) (.agg (Array.mk [.int .i64 a, .int .i64 b, .int .i64 c, .int .i64 d]))) = _
 unfold aDJ
 have e : G.aK (T77 h) (999993 + 6) 1 (aC.v (.agg (Array.mk [.int .i64 a, .int .i64 b, .int .i64 c, .int .i64 d])) (aC.i (Int.ofNat 0) (aC.i (Int.ofNat 0) (aC.i (Int.ofNat 0) (aC.i (Int.ofNat 0) (aC.i (Int.ofNat 0) (aC.i (Int.ofNat 0) (aC.i (Int.ofNat 0) (aC.i (Int.ofNat 0) (aC.i (Int.ofNat 0) aC.n)))))))))) = some (.agg (Array.mk [.int .i64 (lD a), .int .i64 (lD b), .int .i64 (lD c), .int .i64 (lD d)])) := by
  rw [aOF h (999993 + 5) _ 0 (by omega) i0 (hB a (by simp)) _ _ _ _ _ rfl _ _ _ _ rfl _ _ _ _ rfl, aOF h (999993 + 4) _ 1 (by omega) i1 (hB b (by simp)) _ _ _ _ _ rfl _ _ _ _ rfl _ _ _ _ rfl, aOF h (999993 + 3) _ 2 (by omega) i2 (hB c (by simp)) _ _ _ _ _ rfl _ _ _ _ rfl _ _ _ _ rfl, aOF h (999993 + 2) _ 3 (by omega) i3 (hB d (by simp)) _ _ _ _ _ rfl _ _ _ _ rfl _ _ _ _ rfl, aJ9]
  unfold XL
  rw [aM, aU, aH, if_neg (by decide), aTI]
 rw [dS, j6]
 exact congrArg plainO e
theorem aYE : jP env 87 (List.toArray []) = some (.agg (Array.mk (([0, 0, 0, 0] : List Int).map (Value.int .i64)))) := by kernel_rfl
theorem bB1 : nR env.P (sizeOf 3) = some 1 := by kernel_rfl
theorem bB2 : gG env 3 = some (.int .i64) := by kernel_rfl
theorem aYF : env.P.eqGuardType env.P.depth 87 = false := by kernel_rfl
theorem aYG : ((env.ty.get 87).bind fun i => i.eqs) = none := by kernel_rfl
def DK (W : List Int) : Bool := decide (W.map lD = [0, 0, 0, 0])
theorem XM (s : Rm) (F : oU s) : ∀ (l : List (Nat × Nat)) (W : List Int) (B : Int), (∀ c ∈ l, c.1 < s.dA.length ∧ c.2 < s.cB.length) → 0 ≤ B → (∀ x ∈ W, -B ≤ x ∧ x ≤ B) → (jY s W l).length = W.length ∧ ∀ x ∈ jY s W l, -(B + 100 * (l.length : Int)) ≤ x ∧ x ≤ B + 100 * (l.length : Int)
 | [], W, B, _, _, hB => ⟨rfl, fun x hx => by have := hB x hx; simp; omega⟩
 | c :: l, W, B, hl, h0, hB => by
  obtain ⟨i1, i2⟩ := hl c (.head _)
  have hf : s.dA[c.1]? = some s.dA[c.1] := List.getElem?_eq_getElem i1
  have hq : s.cB[c.2]? = some s.cB[c.2] := List.getElem?_eq_getElem i2
  have f1 := F.fs _ (List.getElem_mem i1)
  have f2 := F.ps _ (List.getElem_mem i2)
  have st : (stepW s W c).length = W.length ∧ ∀ x ∈ stepW s W c, -(B + 100) ≤ x ∧ x ≤ B + 100 := by
   unfold stepW
   cases hch s c with
   | false => exact ⟨rfl, fun x hx => by have := hB x (by simpa using hx); omega⟩
   | true =>
    refine ⟨by rw [if_pos rfl, zK, zK], fun x hx => ?_⟩
    have b1 := KY (i := qE s c) (d := sG s c) hB h0 (by unfold sG; rw [hf]; simp only [Option.map_some, Option.getD_some]; omega)
    have b2 := KY (i := zJ s c) (d := -(HY s c)) b1 (by omega) (by unfold HY; rw [hq]; simp only [Option.map_some, Option.getD_some]; omega)
    have := b2 x (by simpa using hx)
    omega
  obtain ⟨r1, r2⟩ := XM s F l (stepW s W c) (B + 100) (fun d hd => hl d (.tail _ hd)) (by omega) st.2
  refine ⟨r1.trans st.1, fun x hx => ?_⟩
  have := r2 x hx
  simp only [List.length_cons]
  omega
theorem pK {s : Rm} (F : oU s) {l : List (Nat × Nat)} (hl : InP s l) : (jY s (W0 s) l).length = 4 ∧ ∀ x ∈ jY s (W0 s) l, -2000 ≤ x ∧ x ≤ 2000 := by
 obtain ⟨a, b⟩ := aDE F
 obtain ⟨c, d⟩ := XM s F l (W0 s) 50 hl.2 (by decide) b
 refine ⟨c.trans a, fun x hx => ?_⟩
 have := d x hx
 have := hl.1
 omega
theorem XN {h : Hp} (w : Wf h) {s : Rm} (F : oU s) {lo : Nat} {lk : List Value} (V : QK lo h s lk) {u : Value} {l : List (Nat × Nat)} (sl : jE h 2 u (l.map mR)) (hl : InP s l) : ∃ h', F62 [.agg (Array.mk lk), u] h = some (.bool (DK (jY s (W0 s) l)), h') := by
 have start : F62 [.agg (Array.mk lk), u] h = aDK (aK T62 999999) (.agg (Array.mk lk)) u h := rfl
 rw [start]
 unfold aDK
 rw [dS, bJ]
 have g0 : bA h (h.add (.cells lk 71 none)) := bA.add w _
 have a0 : At (h.add (.cells lk 71 none)) (.pointer (some ⟨h.next, 0, none⟩)) lk := At.new
 generalize h.add (.cells lk 71 none) = h0 at g0 a0 ⊢
 obtain ⟨h1, e1, g1⟩ := QR (h := fH h0) (fT g0.wf) F (V.sub g0.sub) (sl.sub g0.sub) hl
 obtain ⟨b1, b2⟩ := pK F hl
 have pl : kI (.agg (Array.mk ((jY s (W0 s) l).map (Value.int .i64)))) = true := by
  rw [lG]
  show ((jY s (W0 s) l).map (Value.int .i64)).all (dM 5) = true
  rw [List.all_map, List.all_eq_true]
  intro x _
  rfl
 rw [a0.dX (z := 5) V.len, bS e1 pl, aG, aGN _ b1 (fun x hx => by have := b2 x hx; omega), aO, aG, aYE, aO, aHI eB aP8 bB2 bB1 aYF aYG _ _ (by rw [List.length_map]; exact b1) rfl, aO, bK]
 exact ⟨_, rfl⟩
theorem aKB {s : Rm} : ∀ (pl : List Int) (i : Nat), (∀ x ∈ pl, 0 ≤ x ∧ x ≤ (s.dA.length : Int) - 1) → i + pl.length ≤ s.cB.length → ∀ c ∈ qF i pl, c.1 < s.dA.length ∧ c.2 < s.cB.length
 | [], _, _, _, c, hc => by cases hc
 | x :: l, i, hx, hl, c, hc => by
  simp only [List.length_cons] at hl
  rcases List.mem_cons.1 hc with rfl | hc
  ·have := hx x (.head _)
   exact ⟨by show x.toNat < _; omega, by show i < _; omega⟩
  ·exact aKB l (i + 1) (fun y hy => hx y (.tail _ hy)) (by omega) c hc
theorem zM {s : Rm} {pl : List Int} (h : mF s pl = 0) : (jH s).2.2 = 0 ∧ oU s ∧ pl.length = s.cB.length ∧ (∀ x ∈ pl, 0 ≤ x ∧ x ≤ (s.dA.length : Int) - 1) ∧ InP s (qF 0 pl) ∧ KD pl 0 pl = false := by
 unfold mF at h
 by_cases e0 : (jH s).2.2 = 0
 case neg => rw [if_pos e0] at h; exact absurd h e0
 rw [if_neg (by simpa using e0)] at h
 by_cases e1 : (pl.length : Int) = (s.cB.length : Int)
 case neg => rw [if_pos e1] at h; exact absurd h (by decide)
 rw [if_neg (by simpa using e1)] at h
 cases c : pl.all (oF 0 ((s.dA.length : Int) - 1)) with
 | false => rw [c, if_pos (by rfl)] at h; exact absurd h (by decide)
 | true =>
 rw [c, if_neg (by simp)] at h
 cases d : KD pl 0 pl with
 | true => rw [d] at h; exact absurd h (by decide)
 | false =>
 have F := KW e0
 have np := F.np
 have hx : ∀ x ∈ pl, 0 ≤ x ∧ x ≤ (s.dA.length : Int) - 1 := fun x hx => oV.1 (List.all_eq_true.1 c x hx)
 exact ⟨e0, F, by omega, hx, ⟨by rw [xB]; omega, aKB pl 0 hx (by omega)⟩, rfl⟩
def BS (s : Rm) (pl : List Int) : List Int × Int := if mF s pl ≠ 0 then ([], mF s pl) else ((jY s (W0 s) (qF 0 pl)).take s.bN.length, 0)
theorem aGO {h : Hp} (w : Wf h) {s : Rm} {r : List Value} (a : xN h s r) {A7 : Value} {pl : List Int} (sl : jE h 1 A7 (pl.map bF)) : ∃ h' v', F22 [.agg (Array.mk r), A7] h = some (.tuple (List.toArray [v', .int .i64 (BS s pl).2]), h') ∧ bA h h' ∧ jE h' 1 v' ((BS s pl).1.map bF) := by
 have start : F22 [.agg (Array.mk r), A7] h = aDL (aK T22 999999) (.agg (Array.mk r)) A7 h := rfl
 rw [start]
 unfold aDL
 have hr4 := a.len
 rw [dS, bJ]
 have g0 : bA h (h.add (.cells r 25 none)) := bA.add w _
 have a0 : At (h.add (.cells r 25 none)) (.pointer (some ⟨h.next, 0, none⟩)) r := At.new
 generalize h.add (.cells r 25 none) = h0 at g0 a0 ⊢
 obtain ⟨h2', lk, x, e2, gg, hl5, h1c, hlk⟩ := QM (h := fH h0) (fT g0.wf) (a.sub g0.sub) (sl.sub g0.sub)
 obtain ⟨h2, e3, g2, o2⟩ := pJ g0.wf e2 gg
 rw [a0.dX (z := 4) hr4, e3, aG, bY (v := .agg (Array.mk lk)) rfl, bY (v := x) rfl, bY (v := .int .i64 (mF s pl)) rfl, aJ]
 obtain ⟨h4, p4, g4, a4, hk⟩ := oD (ρ := Value × Hp) (z := 5) g2.wf 71 (c := zeroV) (l := lk) rfl hl5 h1c (fun _ _ => none)
 rw [show [(Value.slice none 0 0), (Value.slice none 0 0), (Value.slice none 0 0), (Value.slice none 0 0), (Value.map none)] = zeroV from rfl, hk, aT, bR, aH]
 have g4h : bA h h4 := (g0.trans g2).trans g4
 unfold BS
 by_cases e0 : mF s pl = 0
 case neg =>
  rw [if_pos (by simpa using e0), if_pos e0]
  exact ⟨h4, _, rfl, g4h, .inl ⟨rfl, rfl⟩⟩
 obtain ⟨_, F, l1, l2, ip, _⟩ := zM e0
 obtain ⟨V2, T2, S2⟩ := hlk e0
 have loud : kI (.tuple (List.toArray [.agg (Array.mk lk), x, .int .i64 (mF s pl)])) = false := by
  have := V2.loud 0
  rw [lG] at this ⊢
  have h1 : (dM 5 (.agg (Array.mk lk)) && (dM 5 (.int .i64 0) && true)) = false := this
  show (dM 5 (.agg (Array.mk lk)) && (dM 5 x && (dM 5 (.int .i64 (mF s pl)) && true))) = false
  have h2 : dM 5 (.agg (Array.mk lk)) = false := by
   cases c : dM 5 (.agg (Array.mk lk)) with
   | false => rfl
   | true => rw [c] at h1; cases h1
  rw [h2]; rfl
 have V4 := (ZO (o2 loud) V2).sub g4.sub
 have S4 : jE h4 2 x ((qF 0 pl).map mR) := (S2.sub (h' := h2) fun i o e => by show h2.aI.get i = some o; rw [o2 loud]; exact e).sub g4.sub
 obtain ⟨h5, e5, g5⟩ := QR (h := fH h4) (fT g4.wf) F V4 S4 ip
 obtain ⟨b1, b2⟩ := pK F ip
 have plw : kI (.agg (Array.mk ((jY s (W0 s) (qF 0 pl)).map (Value.int .i64)))) = true := by
  rw [lG]
  show ((jY s (W0 s) (qF 0 pl)).map (Value.int .i64)).all (dM 5) = true
  rw [List.all_map, List.all_eq_true]
  intro x _
  rfl
 have e5' : dZ F60 [.agg (Array.mk lk), x] (Hp.mk h4.next h4.next h4.aI) = some (.agg (Array.mk ((jY s (W0 s) (qF 0 pl)).map (Value.int .i64))), Hp.mk h4.next h4.next h4.aI) := bS e5 plw
 obtain ⟨h6', v6, e6, g6, i6⟩ := aGM (h := fH h4) (fT g4.wf) F V4 b1
 obtain ⟨h6, e7, g7, i7⟩ := sF g4.wf e6 g6 i6
 rw [if_neg (by simpa using e0), if_neg (by simpa using e0), a4.dX (z := 5) hl5, a4.dX (z := 5) hl5, e5', aG, plw, aH, if_pos rfl, aG, e7, aG]
 exact ⟨h6, v6, rfl, g4h.trans g7, i7.sl⟩
def JR (s : Rm) (pl : List Int) : Int × Int := if mF s pl ≠ 0 then (0, mF s pl) else if !(DK (jY s (W0 s) (qF 0 pl))) then (0, 9) else (xL s (qF 0 pl), 0)
theorem aGP {h : Hp} (w : Wf h) {s : Rm} {r : List Value} (a : xN h s r) {A7 : Value} {pl : List Int} (sl : jE h 1 A7 (pl.map bF)) : ∃ h', F24 [.agg (Array.mk r), A7] h = some (jU (JR s pl), h') := by
 have start : F24 [.agg (Array.mk r), A7] h = aDM (aK T24 999999) (.agg (Array.mk r)) A7 h := rfl
 rw [start]
 unfold aDM
 have hr4 := a.len
 rw [dS, bJ]
 have g0 : bA h (h.add (.cells r 25 none)) := bA.add w _
 have a0 : At (h.add (.cells r 25 none)) (.pointer (some ⟨h.next, 0, none⟩)) r := At.new
 generalize h.add (.cells r 25 none) = h0 at g0 a0 ⊢
 obtain ⟨h2', lk, x, e2, gg, hl5, h1c, hlk⟩ := QM (h := fH h0) (fT g0.wf) (a.sub g0.sub) (sl.sub g0.sub)
 obtain ⟨h2, e3, g2, o2⟩ := pJ g0.wf e2 gg
 rw [a0.dX (z := 4) hr4, e3, aG, bY (v := .agg (Array.mk lk)) rfl, bY (v := x) rfl, bY (v := .int .i64 (mF s pl)) rfl, aJ]
 obtain ⟨h4, p4, g4, a4, hk⟩ := oD (ρ := Value × Hp) (z := 5) g2.wf 71 (c := zeroV) (l := lk) rfl hl5 h1c (fun _ _ => none)
 rw [show [(Value.slice none 0 0), (Value.slice none 0 0), (Value.slice none 0 0), (Value.slice none 0 0), (Value.map none)] = zeroV from rfl, hk, aT, bR, aH]
 unfold JR
 by_cases e0 : mF s pl = 0
 case neg =>
  rw [if_pos (by simpa using e0), if_pos e0]
  exact ⟨h4, rfl⟩
 obtain ⟨_, F, l1, l2, ip, _⟩ := zM e0
 obtain ⟨V2, T2, S2⟩ := hlk e0
 have loud : kI (.tuple (List.toArray [.agg (Array.mk lk), x, .int .i64 (mF s pl)])) = false := by
  have := V2.loud 0
  rw [lG] at this ⊢
  have h1 : (dM 5 (.agg (Array.mk lk)) && (dM 5 (.int .i64 0) && true)) = false := this
  show (dM 5 (.agg (Array.mk lk)) && (dM 5 x && (dM 5 (.int .i64 (mF s pl)) && true))) = false
  have h2 : dM 5 (.agg (Array.mk lk)) = false := by
   cases c : dM 5 (.agg (Array.mk lk)) with
   | false => rfl
   | true => rw [c] at h1; cases h1
  rw [h2]; rfl
 have V4 := (ZO (o2 loud) V2).sub g4.sub
 have S4 : jE h4 2 x ((qF 0 pl).map mR) := (S2.sub (h' := h2) fun i o e => by show h2.aI.get i = some o; rw [o2 loud]; exact e).sub g4.sub
 obtain ⟨h5, e5⟩ := XN (h := fH h4) (fT g4.wf) F V4 S4 ip
 rw [if_neg (by simpa using e0), if_neg (by simpa using e0), a4.dX (z := 5) hl5, bS e5 rfl, aG, bK, aT, aH]
 cases c : DK (jY s (W0 s) (qF 0 pl)) with
 | false => rw [if_pos (by rfl), if_pos (by rfl)]; exact ⟨h4, rfl⟩
 | true =>
 rw [if_neg (by simp), if_neg (by simp), a4.dX (z := 5) hl5, aAR F V4 S4.rows ip, aO, aG, aJ]
 exact ⟨h4, rfl⟩
end Go.Proofs.Ytepepiajmdpiiaa.K.L
