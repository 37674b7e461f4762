/- Contracts of told functions: lack, allows, Left, Pays. -/
import Derived.Test.YtdpicdnpiihaaaaLeS20
open Go Go.bK
set_option maxRecDepth 100000
set_option linter.unusedVariables false
namespace Go.Proofs.Ytdpicdnpiihaaaa.K.L
def gG (x : Int) : Int := max 0 (0 - x)
theorem ixW (a b c d : Int) : jW env 87 (.agg (Array.mk [.int .i64 a, .int .i64 b, .int .i64 c, .int .i64 d])) (.int .i64 (Int.ofNat 0)) = some (.int .i64 a) ∧ jW env 87 (.agg (Array.mk [.int .i64 a, .int .i64 b, .int .i64 c, .int .i64 d])) (.int .i64 (Int.ofNat 1)) = some (.int .i64 b) ∧ jW env 87 (.agg (Array.mk [.int .i64 a, .int .i64 b, .int .i64 c, .int .i64 d])) (.int .i64 (Int.ofNat 2)) = some (.int .i64 c) ∧ jW env 87 (.agg (Array.mk [.int .i64 a, .int .i64 b, .int .i64 c, .int .i64 d])) (.int .i64 (Int.ofNat 3)) = some (.int .i64 d) :=
 ⟨by kernel_rfl, by kernel_rfl, by kernel_rfl, by kernel_rfl⟩
theorem aOV (h : Hp) (n : Nat) (v : Value) (i a b c d e f g k : Int) : G.aI (T77 h) (n + 1) 1 (aD.v v (aD.i i (aD.i a (aD.i b (aD.i c (aD.i d (aD.i e (aD.i f (aD.i g (aD.i k aD.n)))))))))) = aEK h (G.aI (T77 h) n) v i a b c d e f g k := rfl
theorem aXJ (h : Hp) (n : Nat) (a b c d e f g k : Int) : G.aI (T77 h) (n + 1) 2 (aD.i a (aD.i b (aD.i c (aD.i d (aD.i e (aD.i f (aD.i g (aD.i k aD.n)))))))) = some (.agg (Array.mk [.int .i64 e, .int .i64 f, .int .i64 g, .int .i64 k])) := rfl
theorem aSI (h : Hp) (n : Nat) (v : Value) (i : Nat) (hi : i < 4) {x : Int} (hx : jW env 87 v (.int .i64 (Int.ofNat i)) = some (.int .i64 x)) (hb : -100000 ≤ x ∧ x ≤ 100000) (a b c d : Int) (l : List Int) (hl : l.length = 4) :
  ∀ e f g k, l = [e, f, g, k] → ∀ e2 f2 g2 k2, l.set i (gG x) = [e2, f2, g2, k2] → G.aI (T77 h) (n + 1) 1 (aD.v v (aD.i (Int.ofNat i) (aD.i a (aD.i b (aD.i c (aD.i d (aD.i e (aD.i f (aD.i g (aD.i k aD.n)))))))))) = G.aI (T77 h) n 1 (aD.v v (aD.i (Int.ofNat (i + 1)) (aD.i a (aD.i b (aD.i c (aD.i d (aD.i e2 (aD.i f2 (aD.i g2 (aD.i k2 aD.n)))))))))) := by
 intro e f g k hl1 e2 f2 g2 k2 hl2
 subst hl1
 rw [aOV]
 unfold aEK
 rw [aH, aN, aC, if_pos (by simp; omega), hx, aK, aG, show Int.sub 0 x = 0 - x from rfl, wrap64_in _ (by omega) (by omega), aD1, show max (Int.ofNat 0) (0 - x) = gG x from rfl]
 have : i = 0 ∨ i = 1 ∨ i = 2 ∨ i = 3 := by omega
 rcases this with rfl | rfl | rfl | rfl <;> (simp only [List.set_cons_zero, List.set_cons_succ, List.cons.injEq, and_true] at hl2; obtain ⟨rfl, rfl, rfl, rfl⟩ := hl2; rfl)
theorem UD (h : Hp) {W : List Int} (hW : W.length = 4) (hB : ∀ x ∈ W, -100000 ≤ x ∧ x ≤ 100000) : F77 [.agg (Array.mk (W.map (Value.int .i64)))] h = some (.agg (Array.mk ((W.map gG).map (Value.int .i64)))) := by
 obtain ⟨a, b, c, d, rfl⟩ : ∃ a b c d, W = [a, b, c, d] := by
  match W, hW with
  | [a, b, c, d], _ => exact ⟨a, b, c, d, rfl⟩
 obtain ⟨i0, i1, i2, i3⟩ := ixW a b c d
 show plainO (aK9 h (G.aI (T77 h) 999999) (.agg (Array.mk [.int .i64 a, .int .i64 b, .int .i64 c, .int .i64 d]))) = _
 unfold aK9
 have e : G.aI (T77 h) (999993 + 6) 1 (aD.v (.agg (Array.mk [.int .i64 a, .int .i64 b, .int .i64 c, .int .i64 d])) (aD.i (Int.ofNat 0) (aD.i (Int.ofNat 0) (aD.i (Int.ofNat 0) (aD.i (Int.ofNat 0) (aD.i (Int.ofNat 0) (aD.i (Int.ofNat 0) (aD.i (Int.ofNat 0) (aD.i (Int.ofNat 0) (aD.i (Int.ofNat 0) aD.n)))))))))) = some (.agg (Array.mk [.int .i64 (gG a), .int .i64 (gG b), .int .i64 (gG c), .int .i64 (gG d)])) := by
  rw [aSI h (999993 + 5) _ 0 (by omega) i0 (hB a (by simp)) _ _ _ _ _ rfl _ _ _ _ rfl _ _ _ _ rfl, aSI h (999993 + 4) _ 1 (by omega) i1 (hB b (by simp)) _ _ _ _ _ rfl _ _ _ _ rfl _ _ _ _ rfl, aSI h (999993 + 3) _ 2 (by omega) i2 (hB c (by simp)) _ _ _ _ _ rfl _ _ _ _ rfl _ _ _ _ rfl, aSI h (999993 + 2) _ 3 (by omega) i3 (hB d (by simp)) _ _ _ _ _ rfl _ _ _ _ rfl _ _ _ _ rfl, aOV]
  unfold aEK
  rw [aH, aN, aC, if_neg (by decide), aXJ]
 rw [dN, j5]
 exact congrArg plainO e
theorem a6C : jK env 87 (List.toArray []) = some (.agg (Array.mk (([0, 0, 0, 0] : List Int).map (Value.int .i64)))) := by kernel_rfl
theorem bHG : pI env.P (sizeOf 3) = some 1 := by kernel_rfl
theorem bHH : gK env 3 = some (.int .i64) := by kernel_rfl
theorem a6D : env.P.eqGuardType env.P.depth 87 = false := by kernel_rfl
theorem a6E : ((env.ty.get 87).bind fun i => i.eqs) = none := by kernel_rfl
def nR (W : List Int) : Bool := decide (W.map gG = [0, 0, 0, 0])
theorem ZV (s : Rm) (F : kY s) : ∀ (l : List (Nat × Nat)) (W : List Int) (B : Int), (∀ c ∈ l, c.1 < s.bR.length ∧ c.2 < s.bE.length) → 0 ≤ B → (∀ x ∈ W, -B ≤ x ∧ x ≤ B) → (iQ s W l).length = W.length ∧ ∀ x ∈ iQ s W l, -(B + 100 * (l.length : Int)) ≤ x ∧ x ≤ B + 100 * (l.length : Int)
 | [], W, B, _, _, hB => ⟨rfl, fun x hx => by have := hB x hx; simp; omega⟩
 | c :: l, W, B, hl, h0, hB => by
  obtain ⟨i1, i2⟩ := hl c (.head _)
  have hf : s.bR[c.1]? = some s.bR[c.1] := List.getElem?_eq_getElem i1
  have hq : s.bE[c.2]? = some s.bE[c.2] := List.getElem?_eq_getElem i2
  have f1 := F.fs _ (List.getElem_mem i1)
  have f2 := F.ps _ (List.getElem_mem i2)
  have st : (stepW s W c).length = W.length ∧ ∀ x ∈ stepW s W c, -(B + 100) ≤ x ∧ x ≤ B + 100 := by
   unfold stepW
   cases hch s c with
   | false => exact ⟨rfl, fun x hx => by have := hB x (by simpa using hx); omega⟩
   | true =>
    refine ⟨by rw [if_pos rfl, CJ, CJ], fun x hx => ?_⟩
    have b1 := M6 (i := rZ s c) (d := vC s c) hB h0 (by unfold vC; rw [hf]; simp only [Option.map_some, Option.getD_some]; omega)
    have b2 := M6 (i := CG s c) (d := -(KC s c)) b1 (by omega) (by unfold KC; rw [hq]; simp only [Option.map_some, Option.getD_some]; omega)
    have := b2 x (by simpa using hx)
    omega
  obtain ⟨r1, r2⟩ := ZV s F l (stepW s W c) (B + 100) (fun d hd => hl d (.tail _ hd)) (by omega) st.2
  refine ⟨r1.trans st.1, fun x hx => ?_⟩
  have := r2 x hx
  simp only [List.length_cons]
  omega
theorem pG {s : Rm} (F : kY s) {l : List (Nat × Nat)} (hl : M5 s l) : (iQ s (W0 s) l).length = 4 ∧ ∀ x ∈ iQ s (W0 s) l, -2000 ≤ x ∧ x ≤ 2000 := by
 obtain ⟨a, b⟩ := aFD F
 obtain ⟨c, d⟩ := ZV s F l (W0 s) 50 hl.2 (by decide) b
 refine ⟨c.trans a, fun x hx => ?_⟩
 have := d x hx
 have := hl.1
 omega
theorem LM {h : Hp} (w : Wf h) {s : Rm} (F : kY s) {lo : Nat} {lk : List Value} (V : IQ lo h s lk) {u : Value} {l : List (Nat × Nat)} (sl : jC h 2 u (l.map gI)) (hl : M5 s l) : ∃ h', F62 [.agg (Array.mk lk), u] h = some (.bool (nR (iQ s (W0 s) l)), h') := by
 have start : F62 [.agg (Array.mk lk), u] h = aLP (aI T62 999999) (.agg (Array.mk lk)) u h := rfl
 rw [start]
 unfold aLP
 rw [dN, aX]
 have g0 : aR h (h.add (.cells lk 71 none)) := aR.add w _
 have a0 : At (h.add (.cells lk 71 none)) (.pointer (some ⟨h.next, 0, none⟩)) lk := At.new
 generalize h.add (.cells lk 71 none) = h0 at g0 a0 ⊢
 obtain ⟨h1, e1, g1⟩ := UC (h := bY h0) (eF g0.wf) F (V.sub g0.sub) (sl.sub g0.sub) hl
 obtain ⟨b1, b2⟩ := pG F hl
 have pl : kT (.agg (Array.mk ((iQ s (W0 s) l).map (Value.int .i64)))) = true := by
  rw [pK]
  show ((iQ s (W0 s) l).map (Value.int .i64)).all (eX 5) = true
  rw [List.all_map, List.all_eq_true]
  intro x _
  rfl
 rw [a0.dL (z := 5) V.len, aZ e1 pl, aB, UD _ b1 (fun x hx => by have := b2 x hx; omega), aK, aB, a6C, aK, aH2 dM aUN bHH bHG a6D a6E _ _ (by rw [List.length_map]; exact b1) rfl, aK, aS]
 exact ⟨_, rfl⟩
theorem aOW {s : Rm} : ∀ (pl : List Int) (i : Nat), (∀ x ∈ pl, 0 ≤ x ∧ x ≤ (s.bR.length : Int) - 1) → i + pl.length ≤ s.bE.length → ∀ c ∈ tJ i pl, c.1 < s.bR.length ∧ c.2 < s.bE.length
 | [], _, _, _, c, hc => by cases hc
 | x :: l, i, hx, hl, c, hc => by
  simp only [List.length_cons] at hl
  rcases List.mem_cons.1 hc with rfl | hc
  ·have := hx x (.head _)
   exact ⟨by show x.toNat < _; omega, by show i < _; omega⟩
  ·exact aOW l (i + 1) (fun y hy => hx y (.tail _ hy)) (by omega) c hc
theorem aOX {s : Rm} {pl : List Int} (h : vB s pl = 0) : (gD s).2.2 = 0 ∧ kY s ∧ pl.length = s.bE.length ∧ (∀ x ∈ pl, 0 ≤ x ∧ x ≤ (s.bR.length : Int) - 1) ∧ M5 s (tJ 0 pl) ∧ FW pl 0 pl = false := by
 unfold vB at h
 by_cases e0 : (gD s).2.2 = 0
 case neg => rw [if_pos e0] at h; exact absurd h e0
 rw [if_neg (by simpa using e0)] at h
 by_cases e1 : (pl.length : Int) = (s.bE.length : Int)
 case neg => rw [if_pos e1] at h; exact absurd h (by decide)
 rw [if_neg (by simpa using e1)] at h
 cases c : pl.all (qC 0 ((s.bR.length : Int) - 1)) with
 | false => rw [c, if_pos (by rfl)] at h; exact absurd h (by decide)
 | true =>
 rw [c, if_neg (by simp)] at h
 cases d : FW pl 0 pl with
 | true => rw [d] at h; exact absurd h (by decide)
 | false =>
 have F := wD e0
 have np := F.np
 have hx : ∀ x ∈ pl, 0 ≤ x ∧ x ≤ (s.bR.length : Int) - 1 := fun x hx => oK.1 (List.all_eq_true.1 c x hx)
 exact ⟨e0, F, by omega, hx, ⟨by rw [zD]; omega, aOW pl 0 hx (by omega)⟩, rfl⟩
def aFE (s : Rm) (pl : List Int) : Int × Int := if vB s pl ≠ 0 then (0, vB s pl) else if !(nR (iQ s (W0 s) (tJ 0 pl))) then (0, 9) else (jY s (tJ 0 pl), 0)
theorem aG7 {h : Hp} (w : Wf h) {s : Rm} {r : List Value} (a : zC h s r) {vpl : Value} {pl : List Int} (sl : jC h 1 vpl (pl.map bB)) : ∃ h', F24 [.agg (Array.mk r), vpl] h = some (lD (aFE s pl), h') := by
 have start : F24 [.agg (Array.mk r), vpl] h = aLR (aI T24 999999) (.agg (Array.mk r)) vpl h := rfl
 rw [start]
 unfold aLR
 have hr4 := a.len
 rw [dN, aX]
 have g0 : aR h (h.add (.cells r 25 none)) := aR.add w _
 have a0 : At (h.add (.cells r 25 none)) (.pointer (some ⟨h.next, 0, none⟩)) r := At.new
 generalize h.add (.cells r 25 none) = h0 at g0 a0 ⊢
 obtain ⟨h2', lk, x, e2, gg, hl5, h1c, hlk⟩ := aG4 (h := bY h0) (eF g0.wf) (a.sub g0.sub) (sl.sub g0.sub)
 obtain ⟨h2, e3, g2, o2⟩ := qY g0.wf e2 gg
 rw [a0.dL (z := 4) hr4, e3, aB, bP (v := .agg (Array.mk lk)) rfl, bP (v := x) rfl, bP (v := .int .i64 (vB s pl)) rfl, aG]
 obtain ⟨h4, p4, g4, a4, hk⟩ := lS (ρ := Value × Hp) (z := 5) g2.wf 71 (c := zeroV) (l := lk) rfl hl5 h1c (fun _ _ => none)
 rw [show [(Value.slice none 0 0), (Value.slice none 0 0), (Value.slice none 0 0), (Value.slice none 0 0), (Value.map none)] = zeroV from rfl, hk, aP, aY, aC]
 unfold aFE
 by_cases e0 : vB s pl = 0
 case neg =>
  rw [if_pos (by simpa using e0), if_pos e0]
  exact ⟨h4, rfl⟩
 obtain ⟨_, F, l1, l2, ip, _⟩ := aOX e0
 obtain ⟨V2, T2, S2⟩ := hlk e0
 have loud : kT (.tuple (List.toArray [.agg (Array.mk lk), x, .int .i64 (vB s pl)])) = false := by
  have := V2.loud 0
  rw [pK] at this ⊢
  have h1 : (eX 5 (.agg (Array.mk lk)) && (eX 5 (.int .i64 0) && true)) = false := this
  show (eX 5 (.agg (Array.mk lk)) && (eX 5 x && (eX 5 (.int .i64 (vB s pl)) && true))) = false
  have h2 : eX 5 (.agg (Array.mk lk)) = false := by
   cases c : eX 5 (.agg (Array.mk lk)) with
   | false => rfl
   | true => rw [c] at h1; cases h1
  rw [h2]; rfl
 have V4 := (aBD (o2 loud) V2).sub g4.sub
 have S4 : jC h4 2 x ((tJ 0 pl).map gI) := (S2.sub (h' := h2) fun i o e => by show h2.aF.get i = some o; rw [o2 loud]; exact e).sub g4.sub
 obtain ⟨h5, e5⟩ := LM (h := bY h4) (eF g4.wf) F V4 S4 ip
 rw [if_neg (by simpa using e0), if_neg (by simpa using e0), a4.dL (z := 5) hl5, aZ e5 rfl, aB, aS, aP, aC]
 cases c : nR (iQ s (W0 s) (tJ 0 pl)) with
 | false => rw [if_pos (by rfl), if_pos (by rfl)]; exact ⟨h4, rfl⟩
 | true =>
 rw [if_neg (by simp), if_neg (by simp), a4.dL (z := 5) hl5, zB F V4 S4.rows ip, aK, aB, aG]
 exact ⟨h4, rfl⟩
end Go.Proofs.Ytdpicdnpiihaaaa.K.L
