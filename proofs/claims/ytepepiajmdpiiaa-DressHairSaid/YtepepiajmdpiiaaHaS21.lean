/- Contracts of told functions: lack, allows, Left, Pays. -/
import Derived.Test.YtepepiajmdpiiaaHaS20
open Go Go.Eng
set_option maxRecDepth 100000
set_option linter.unusedVariables false
namespace Go.Proofs.Ytepepiajmdpiiaa.K.L
theorem WY (s : Rm) (F : qK s) : ∀ (l : List (Nat × Nat)) (W : List Int) (B : Int), (∀ c ∈ l, c.1 < s.cK.length ∧ c.2 < s.dB.length) → 0 ≤ B → (∀ x ∈ W, -B ≤ x ∧ x ≤ B) → (mM s W l).length = W.length ∧ ∀ x ∈ mM s W l, -(B + 100 * (l.length : Int)) ≤ x ∧ x ≤ B + 100 * (l.length : Int)
 | [], W, B, _, _, hB => ⟨rfl, fun x hx => by have := hB x hx; simp; omega⟩
 | c :: l, W, B, hl, h0, hB => by
  obtain ⟨i1, i2⟩ := hl c (.head _)
  have hf : s.cK[c.1]? = some s.cK[c.1] := List.getElem?_eq_getElem i1
  have hq : s.dB[c.2]? = some s.dB[c.2] := List.getElem?_eq_getElem i2
  have f1 := F.fs _ (List.getElem_mem i1)
  have f2 := F.ps _ (List.getElem_mem i2)
  have st : (stepW s W c).length = W.length ∧ ∀ x ∈ stepW s W c, -(B + 100) ≤ x ∧ x ≤ B + 100 := by
   unfold stepW
   cases hch s c with
   | false => exact ⟨rfl, fun x hx => by have := hB x (by simpa using hx); omega⟩
   | true =>
    refine ⟨by rw [if_pos rfl, sK, sK], fun x hx => ?_⟩
    have b1 := KV (i := qG s c) (d := qH s c) hB h0 (by unfold qH; rw [hf]; simp only [Option.map_some, Option.getD_some]; omega)
    have b2 := KV (i := zO s c) (d := -(BI s c)) b1 (by omega) (by unfold BI; rw [hq]; simp only [Option.map_some, Option.getD_some]; omega)
    have := b2 x (by simpa using hx)
    omega
  obtain ⟨r1, r2⟩ := WY s F l (stepW s W c) (B + 100) (fun d hd => hl d (.tail _ hd)) (by omega) st.2
  refine ⟨r1.trans st.1, fun x hx => ?_⟩
  have := r2 x hx
  simp only [List.length_cons]
  omega
theorem DW {s : Rm} (F : qK s) {l : List (Nat × Nat)} (hl : InP s l) : (mM s (W0 s) l).length = 4 ∧ ∀ x ∈ mM s (W0 s) l, -2000 ≤ x ∧ x ≤ 2000 := by
 obtain ⟨a, b⟩ := aCV F
 obtain ⟨c, d⟩ := WY s F l (W0 s) 50 hl.2 (by decide) b
 refine ⟨c.trans a, fun x hx => ?_⟩
 have := d x hx
 have := hl.1
 omega
theorem aJC {s : Rm} : ∀ (pl : List Int) (i : Nat), (∀ x ∈ pl, 0 ≤ x ∧ x ≤ (s.cK.length : Int) - 1) → i + pl.length ≤ s.dB.length → ∀ c ∈ BZ i pl, c.1 < s.cK.length ∧ c.2 < s.dB.length
 | [], _, _, _, c, hc => by cases hc
 | x :: l, i, hx, hl, c, hc => by
  simp only [List.length_cons] at hl
  rcases List.mem_cons.1 hc with rfl | hc
  ·have := hx x (.head _)
   exact ⟨by show x.toNat < _; omega, by show i < _; omega⟩
  ·exact aJC l (i + 1) (fun y hy => hx y (.tail _ hy)) (by omega) c hc
theorem WZ {s : Rm} {pl : List Int} (h : qE s pl = 0) : (jE s).2.2 = 0 ∧ qK s ∧ pl.length = s.dB.length ∧ (∀ x ∈ pl, 0 ≤ x ∧ x ≤ (s.cK.length : Int) - 1) ∧ InP s (BZ 0 pl) ∧ NI pl 0 pl = false := by
 unfold qE at h
 by_cases e0 : (jE s).2.2 = 0
 case neg => rw [if_pos e0] at h; exact absurd h e0
 rw [if_neg (by simpa using e0)] at h
 by_cases e1 : (pl.length : Int) = (s.dB.length : Int)
 case neg => rw [if_pos e1] at h; exact absurd h (by decide)
 rw [if_neg (by simpa using e1)] at h
 cases c : pl.all (oU 0 ((s.cK.length : Int) - 1)) with
 | false => rw [c, if_pos (by rfl)] at h; exact absurd h (by decide)
 | true =>
 rw [c, if_neg (by simp)] at h
 cases d : NI pl 0 pl with
 | true => rw [d] at h; exact absurd h (by decide)
 | false =>
 have F := KU e0
 have np := F.np
 have hx : ∀ x ∈ pl, 0 ≤ x ∧ x ≤ (s.cK.length : Int) - 1 := fun x hx => nL.1 (List.all_eq_true.1 c x hx)
 exact ⟨e0, F, by omega, hx, ⟨by rw [FK]; omega, aJC pl 0 hx (by omega)⟩, rfl⟩
def zQ (s : Rm) (pl : List Int) : List Int × Int := if qE s pl ≠ 0 then ([], qE s pl) else ((mM s (W0 s) (BZ 0 pl)).take s.bH.length, 0)
theorem QH {h : Hp} (w : Wf h) {s : Rm} {r : List Value} (a : FI h s r) {vpl : Value} {pl : List Int} (sl : jZ h 1 vpl (pl.map dL)) : ∃ h' v', F22 [.agg (Array.mk r), vpl] h = some (.tuple (List.toArray [v', .int .i64 (zQ s pl).2]), h') ∧ bI h h' ∧ jZ h' 1 v' ((zQ s pl).1.map dL) := by
 have start : F22 [.agg (Array.mk r), vpl] h = aCZ (aP T22 999999) (.agg (Array.mk r)) vpl h := rfl
 rw [start]
 unfold aCZ
 have hr4 := a.len
 rw [iT, dQ]
 have g0 : bI h (h.add (.cells r 25 none)) := bI.add w _
 have a0 : At (h.add (.cells r 25 none)) (.pointer (some ⟨h.next, 0, none⟩)) r := At.new
 generalize h.add (.cells r 25 none) = h0 at g0 a0 ⊢
 obtain ⟨h2', lk, x, e2, gg, hl5, h1c, hlk⟩ := aFZ (h := iG h0) (jV g0.wf) (a.sub g0.sub) (sl.sub g0.sub)
 obtain ⟨h2, e3, g2, o2⟩ := vT g0.wf e2 gg
 rw [a0.gU (z := 4) hr4, e3, aH, dP (v := .agg (Array.mk lk)) rfl, dP (v := x) rfl, dP (v := .int .i64 (qE s pl)) rfl, aO]
 obtain ⟨h4, p4, g4, a4, hk⟩ := qI (ρ := Value × Hp) (z := 5) g2.wf 71 (c := zeroV) (l := lk) rfl hl5 h1c (fun _ _ => none)
 rw [show [(Value.slice none 0 0), (Value.slice none 0 0), (Value.slice none 0 0), (Value.slice none 0 0), (Value.map none)] = zeroV from rfl, hk, aZ, dO, aJ]
 have g4h : bI h h4 := (g0.trans g2).trans g4
 unfold zQ
 by_cases e0 : qE s pl = 0
 case neg =>
  rw [if_pos (by simpa using e0), if_pos e0]
  exact ⟨h4, _, rfl, g4h, .inl ⟨rfl, rfl⟩⟩
 obtain ⟨_, F, l1, l2, ip, _⟩ := WZ e0
 obtain ⟨V2, T2, S2⟩ := hlk e0
 have loud : kL (.tuple (List.toArray [.agg (Array.mk lk), x, .int .i64 (qE s pl)])) = false := by
  have := V2.loud 0
  rw [nZ] at this ⊢
  have h1 : (eZ 5 (.agg (Array.mk lk)) && (eZ 5 (.int .i64 0) && true)) = false := this
  show (eZ 5 (.agg (Array.mk lk)) && (eZ 5 x && (eZ 5 (.int .i64 (qE s pl)) && true))) = false
  have h2 : eZ 5 (.agg (Array.mk lk)) = false := by
   cases c : eZ 5 (.agg (Array.mk lk)) with
   | false => rfl
   | true => rw [c] at h1; cases h1
  rw [h2]; rfl
 have V4 := (aE5 (o2 loud) V2).sub g4.sub
 have S4 : jZ h4 2 x ((BZ 0 pl).map qD) := (S2.sub (h' := h2) fun i o e => by show h2.aG.get i = some o; rw [o2 loud]; exact e).sub g4.sub
 obtain ⟨h5, e5, g5⟩ := aF3 (h := iG h4) (jV g4.wf) F V4 S4 ip
 obtain ⟨b1, b2⟩ := DW F ip
 have plw : kL (.agg (Array.mk ((mM s (W0 s) (BZ 0 pl)).map (Value.int .i64)))) = true := by
  rw [nZ]
  show ((mM s (W0 s) (BZ 0 pl)).map (Value.int .i64)).all (eZ 5) = true
  rw [List.all_map, List.all_eq_true]
  intro x _
  rfl
 have e5' : dV F60 [.agg (Array.mk lk), x] (Hp.mk h4.next h4.next h4.aG) = some (.agg (Array.mk ((mM s (W0 s) (BZ 0 pl)).map (Value.int .i64))), Hp.mk h4.next h4.next h4.aG) := eB e5 plw
 obtain ⟨h6', v6, e6, g6, i6⟩ := aF4 (h := iG h4) (jV g4.wf) F V4 b1
 obtain ⟨h6, e7, g7, i7⟩ := FM g4.wf e6 g6 i6
 rw [if_neg (by simpa using e0), if_neg (by simpa using e0), a4.gU (z := 5) hl5, a4.gU (z := 5) hl5, e5', aH, plw, aJ, if_pos rfl, aH, e7, aH]
 exact ⟨h6, v6, rfl, g4h.trans g7, i7.sl⟩
end Go.Proofs.Ytepepiajmdpiiaa.K.L
