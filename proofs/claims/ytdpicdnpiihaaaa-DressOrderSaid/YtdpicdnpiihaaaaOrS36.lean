/- Contracts of told functions: plans. -/
import Derived.Test.YtdpicdnpiihaaaaOrS35
open Go Go.bI Go.bI.Y
set_option maxRecDepth 100000
set_option linter.unusedVariables false
namespace Go.Proofs.Ytdpicdnpiihaaaa.K.L
structure Tak (Y : YF) (np nf n lim : Nat) (own : Nat → Prop) (J : List (List Nat) → Hp → Prop) (Stop : Hp → Prop) : Prop where
 wf : ∀ d h, J d h → Wf h
 grew : ∀ d h H, J d h → aV h H → J d H
 upd : ∀ d h b o, J d h → ¬ own b → lim ≤ b → b < h.next → 0 < np → (∃ c, h.get b = some (.cells c 76 none)) → J d (h.upd b o)
 yld : ∀ d h b fs, J d h → fs.length = np → (∀ x ∈ fs, x < nf) → RJ h b (gQ 0 fs) → lim ≤ b → ∃ r h', Y n [LQ b (gQ 0 fs)] h = some (.bool r, h') ∧ (r = true → J (d ++ [fs]) h' ∧ (∀ i o, ¬ own i → h.get i = some o → h'.get i = some o) ∧ h'.ro = h.ro ∧ h.next ≤ h'.next) ∧ (r = false → Stop h')
theorem aW4 (h : Hp) (np : Nat) (hp : np ≤ 5) : o9 env h 79 (.int .i64 (np : Int)) (.int .i64 (np : Int)) = some (.slice (some ⟨h.next, 0, none⟩) np np, h.add (.cells ((List.replicate np (0, 0)).flatMap iG) 76 none)) :=
 LK (P := fun np => o9 env h 79 (.int .i64 (np : Int)) (.int .i64 (np : Int)) = some (.slice (some ⟨h.next, 0, none⟩) np np, h.add (.cells ((List.replicate np (0, 0)).flatMap iG) 76 none))) (by kernel_rfl) (by kernel_rfl) (by kernel_rfl) (by kernel_rfl) (by kernel_rfl) (by kernel_rfl) np hp
theorem aFI {h : Hp} (w : Wf h) (e : TypeId) (c0 : Value) {x : Value} (hx : oneCell x = true) : ∃ h1, aV h h1 ∧ h1.next = h.next + 1 ∧ h1.get h.next = some (.cells [x] e none) ∧
  ∀ (ρ : Type) (k : Value → Hp → Option ρ), (bC h e [c0] fun a h3 => iB h3 a x fun h4 => k a h4) = k (.pointer (some ⟨h.next, 0, none⟩)) h1 := by
 refine ⟨(h.add (.cells [c0] e none)).upd h.next (.cells [x] e none), aV.upd w (aV.add w _) (Nat.le_refl _) (by rw [kZ]; omega) _, rfl, by rw [bL, if_pos rfl], fun ρ k => ?_⟩
 rw [bT, kY (c := [c0]) (t := e) (s := none) (h := h.add (.cells [c0] e none)) (b := h.next) (o := 0) (by rw [bD, if_pos rfl]) (by rw [FN]; exact w.1) hx (by simp)]
 rfl
theorem aW5 {h : Hp} (w : Wf h) (r1 p1 p2 r2 : Value) : ∃ h1, aV h h1 ∧ h1.get h.next = some (.cells [.func (.func 95) #[] #[r1, p1, p2, r2, .pointer (some ⟨h.next, 0, none⟩)]] 105 none) ∧
  ∀ (ρ : Type) (k : Value → Hp → Option ρ), (bC h 105 [Value.nilFunc] fun a h3 => iB h3 a (.func (.func 95) (List.toArray []) (List.toArray [r1, p1, p2, r2, a])) fun h4 => k a h4) = k (.pointer (some ⟨h.next, 0, none⟩)) h1 := by
 refine ⟨(h.add (.cells [Value.nilFunc] 105 none)).upd h.next (.cells [.func (.func 95) #[] #[r1, p1, p2, r2, .pointer (some ⟨h.next, 0, none⟩)]] 105 none), aV.upd w (aV.add w _) (Nat.le_refl _) (by rw [kZ]; omega) _, by rw [bL, if_pos rfl], fun ρ k => ?_⟩
 rw [bT, kY (c := [Value.nilFunc]) (t := 105) (s := none) (h := h.add (.cells [Value.nilFunc] 105 none)) (b := h.next) (o := 0) (by rw [bD, if_pos rfl]) (by rw [FN]; exact w.1) rfl (by simp)]
 rfl
def Z4 (own : Nat → Prop) (h H : Hp) : Prop := ∀ i o, ¬ own i → h.get i = some o → H.get i = some o
theorem call94 (Y : YF) (a r1 r2 r3 r4 r5 : Value) (h : Hp) : EN BU J3 Y (.func (.func 95) #[] #[r1, r2, r3, r4, r5]) [a] h = IG J2 64 Y [a, r1, r2, r3, r4, r5] h := rfl
def MH (n : Nat) : Value := .func (.yield n) #[] #[]
theorem aR1 (Y : YF) (a r1 r2 : Value) (h : Hp) : aG3 Y [a, r1, r2] h = aL5 Y (lH (T94 Y) 999999) a r1 r2 ⟨some (jK [a, r1, r2] 0 bI.T.nil), []⟩ h := by
 unfold aG3
 show lH (T94 Y) 1000000 0 (AL.v a (AL.v r1 (AL.v r2 AL.n))) _ h = _
 rfl
theorem aDE {Y : YF} {np nf n lim : Nat} {own : Nat → Prop} {J : List (List Nat) → Hp → Prop} {Stop : Hp → Prop} (T : Tak Y np nf n lim own J Stop) (hnp : np ≤ 5) (hnf : nf ≤ 6) {h : Hp} (w : Wf h) (hlim : lim ≤ h.next) (hJ : J [] h) (hown : ∀ i, own i → i < h.next) {r1 r2 : Value}
  (H1 : ∀ H, Z4 own h H → ∃ vl, (∀ (ρ : Type) (k : Value → Option ρ), aJ H r1 k = k vl) ∧ (∀ (ρ : Type) (k : Int → Option ρ), bS vl k = k (np : Int)) ∧ ∀ i : Nat, i < np → ∃ p, (∀ (ρ : Type) (k : Value → Option ρ), dN 1 vl (i : Int) k = k p) ∧ At H p (cZ (i : Int)))
  (H2 : ∀ H, Z4 own h H → ∃ vf, (∀ (ρ : Type) (k : Value → Option ρ), aO 0 r2 (fun v => aO 2 v fun v => aJ H v k) = k vf) ∧ ∀ (ρ : Type) (k : Int → Option ρ), bS vf k = k (nf : Int)) :
  ∃ h', aG3 Y [MH n, r1, r2] h = some (.tuple (List.toArray []), h') ∧ ((J (onL nf np []) h' ∧ Z4 own h h' ∧ h'.ro = h.ro ∧ h.next ≤ h'.next) ∨ Stop h') := by
 rw [aR1]
 generalize lH (T94 Y) 999999 = S
 unfold aL5
 rw [show Array.toList (Value.cells (MH n)) = [MH n] from rfl, bT]
 have g1 := aV.add w (.cells [MH n] 90 none)
 obtain ⟨vl, l1, l2, _⟩ := H1 _ (fun i o _ e => g1.sub i o e)
 rw [l1, l2, aW4 _ np hnp, aB, kZ]
 have g2 := g1.trans (aV.add g1.wf (.cells ((List.replicate np (0, 0)).flatMap iG) 76 none))
 have b2 : ((h.add (.cells [MH n] 90 none)).add (.cells ((List.replicate np (0, 0)).flatMap iG) 76 none)).get (h.next + 1) = some (.cells ((List.replicate np (0, 0)).flatMap iG) 76 none) := by rw [bD, if_pos (show h.next + 1 = (h.add (.cells [MH n] 90 none)).next from rfl)]
 have b1 : ((h.add (.cells [MH n] 90 none)).add (.cells ((List.replicate np (0, 0)).flatMap iG) 76 none)).get h.next = some (.cells [MH n] 90 none) := by
  rw [bD, if_neg (by rw [kZ]; omega), bD, if_pos rfl]
 have n2 : ((h.add (.cells [MH n] 90 none)).add (.cells ((List.replicate np (0, 0)).flatMap iG) 76 none)).next = h.next + 2 := rfl
 generalize (h.add (.cells [MH n] 90 none)).add (.cells ((List.replicate np (0, 0)).flatMap iG) 76 none) = h2 at g2 b1 b2 n2 ⊢
 obtain ⟨h3, g3, n3, b3, e3⟩ := aFI g2.wf 79 (Value.slice none 0 0) (x := .slice (some ⟨h.next + 1, 0, none⟩) np np) rfl
 rw [e3]
 obtain ⟨h4, g4, b4, e4⟩ := aW5 g3.wf r1 (.pointer (some ⟨h.next, 0, none⟩)) (.pointer (some ⟨h2.next, 0, none⟩)) r2
 have gS : aV h h4 := (g2.trans g3).trans g4
 have hS1 : h4.get h.next = some (.cells [MH n] 90 none) := g4.sub _ _ (g3.sub _ _ b1)
 have hS2 : h4.get (h.next + 1) = some (.cells ((List.replicate np (0, 0)).flatMap iG) 76 none) := g4.sub _ _ (g3.sub _ _ b2)
 have hS3 : h4.get h2.next = some (.cells [.slice (some ⟨h.next + 1, 0, none⟩) np np] 79 none) := g4.sub _ _ b3
 rw [e4, fB (o := 0) b4 rfl, call94]
 have l4 : h.next + 1 < h4.next := g4.wf.2 _ _ hS2
 have C : Chs Y np nf (h.next + 1) n lim r1 (.pointer (some ⟨h.next, 0, none⟩)) (.pointer (some ⟨h2.next, 0, none⟩)) r2 (.pointer (some ⟨h3.next, 0, none⟩))
   (fun d H => J d H ∧ (∀ i o, ¬ own i → i ≠ h.next + 1 → h4.get i = some o → H.get i = some o) ∧ H.ro = h.ro ∧ h4.next ≤ H.next) Stop := by
  have a6S : ∀ H, (∀ i o, ¬ own i → i ≠ h.next + 1 → h4.get i = some o → H.get i = some o) → Z4 own h H := fun H a i o hi e => a i o hi (by have := w.2 i o e; omega) (gS.sub i o e)
  have no : ∀ i, h.next ≤ i → ¬ own i := fun i hi ho => by have := hown i ho; omega
  refine ⟨fun d H a => T.wf d H a.1, fun d H a => ?_, fun d H a => H1 H (a6S H a.2.1), fun d H a ρ k => ?_, fun d H a ρ k => ?_, fun d H a => H2 H (a6S H a.2.1), fun d H a ρ k => ?_, fun d H H' a g => ?_, fun d H q a hq h0 hc => ?_, fun d H b fs a hl hx pa ca hb => ?_, fun d H a => by have := a.2.2.2; have := gS.next; omega⟩
  ·rw [a.2.2.1]; have := w.1; omega
  ·exact fB (o := 0) (a.2.1 _ _ (no _ (by omega)) (by omega) hS1) rfl k
  ·exact fB (o := 0) (a.2.1 _ _ (no _ (by omega)) (by omega) hS3) rfl k
  ·exact fB (o := 0) (a.2.1 _ _ (no _ (by omega)) (by omega) b4) rfl k
  ·exact ⟨T.grew d H H' a.1 g, fun i o h1 h2 h3 => g.sub _ _ (a.2.1 i o h1 h2 h3), g.ro.trans a.2.2.1, by have := g.next; omega⟩
  ·refine ⟨T.upd d H _ _ a.1 (no _ (by omega)) (by omega) (by omega) h0 hc, fun i o h1 h2 h3 => ?_, a.2.2.1, a.2.2.2⟩
   rw [bL, if_neg h2]; exact a.2.1 i o h1 h2 h3
  ·obtain ⟨r, h', e5, t5, f5⟩ := T.yld d H b fs a.1 hl hx ca hb
   refine ⟨r, h', e5, fun hr => ?_, f5⟩
   obtain ⟨j1, j2, j3, j4⟩ := t5 hr
   refine ⟨⟨j1, fun i o h1 h2 h3 => j2 i o h1 (a.2.1 i o h1 h2 h3), j3.trans a.2.2.1, by have := a.2.2.2; omega⟩, ?_⟩
   obtain ⟨q, q1, q2, q3⟩ := pa
   exact ⟨q, q1, q2, j2 _ _ (no _ (by omega)) q3⟩
 obtain ⟨r, h', e5, t5, f5⟩ := LU C hnp hnf np 64 (by omega) [] [] h4 (by simp) (by simp) ⟨T.grew [] h h4 hJ gS, fun i o _ _ e => e, gS.ro, Nat.le_refl _⟩ ⟨_, by simp, by simp [gQ], hS2⟩
 rw [show (Int.ofNat 0) = (([] : List Nat).length : Int) from rfl, e5, aB, aZ]
 refine ⟨h', rfl, ?_⟩
 cases r with
 | false => exact .inr (f5 rfl)
 | true =>
  obtain ⟨⟨a1, a2, a3, a4⟩, _⟩ := t5 rfl
  refine .inl ⟨by simpa using a1, fun i o hi e => a2 i o hi (by have := w.2 i o e; omega) (gS.sub i o e), a3, by have := gS.next; omega⟩
end Go.Proofs.Ytdpicdnpiihaaaa.K.L
