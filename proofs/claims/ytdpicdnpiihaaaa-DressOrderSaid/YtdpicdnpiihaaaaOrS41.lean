/- Contracts of told functions: Least. -/
import Derived.Test.YtdpicdnpiihaaaaOrS39
open Go Go.bI Go.bI.Y
set_option maxRecDepth 100000
set_option linter.unusedVariables false
namespace Go.Proofs.Ytdpicdnpiihaaaa.K.L
theorem WZ {H : Hp} {b : Nat} {c x : Value} {t : TypeId} (hg : H.get b = some (.cells [c] t none)) (hr : H.ro ≤ b) (hx : oneCell x = true) (ρ : Type) (k : Hp → Option ρ) : iB H (.pointer (some ⟨b, 0, none⟩)) x k = k (H.upd b (.cells [x] t none)) := by
 rw [kY (c := [c]) (t := t) (s := none) (h := H) (b := b) (o := 0) hg hr hx (by simp)]
 rfl
theorem call103 (Y : YF) (o a b : Value) (h : Hp) : EN BU vD Y (.func (.func 103) (List.toArray [o]) (List.toArray [])) [a, b] h = orK (bQ aG2 [o, a, b] h) (vD 103 Y [o, a, b] h) := rfl
theorem bIW (Y : YF) (l : List Value) (h : Hp) : vD 94 Y l h = aG3 Y l h := rfl
theorem aOQ (g c : Value) (h : Hp) : aCW [g, c] h = aCV yN (lH (WO yN) 999999) g c ⟨some (jK [g, c] 0 bI.T.nil), []⟩ h := by
 unfold aCW aL9
 show lH (WO yN) 1000000 0 (AL.v g (AL.v c AL.n)) _ h = _
 rfl
theorem aR3 (n : Nat) (r6 r7 : Value) (z : Z) (h : Hp) : lH (WO yN) (n + 1) 2 (AL.v r6 (AL.v r7 AL.n)) z h = aCU yN (lH (WO yN) n) r6 r7 z h := rfl
theorem aW6 (l n : Nat) (r3 r6 r7 r8 : Value) (z : Z) (h : Hp) : lH (vE yN l) (n + 1) 1 (AL.v r3 (AL.v r6 (AL.v r7 (AL.v r8 AL.n)))) z h = PN yN l (lH (vE yN l) n) r3 r6 r7 r8 z h := rfl
theorem a6U (l : Nat) (a0 a1 a2 x : Value) (z : Z) (h : Hp) : ∃ z' : Z, ZJ yN 1 l (AL.v a0 (AL.v a1 (AL.v a2 AL.n))) z [x] h = EM l h fun h0 => lH (vE yN l) 999999 1 (AL.v a0 (AL.v a1 (AL.v a2 (AL.v x AL.n)))) z' h0 := by
 refine ⟨Z.lose (Z.put ⟨z.tm, []⟩ 10 x), ?_⟩
 show lH (vE yN l) (999999 + 1) 0 (AL.v x (AL.v a0 (AL.v a1 (AL.v a2 AL.n)))) (Z.put ⟨z.tm, []⟩ 10 x) h = _
 generalize 999999 = n
 rfl
end Go.Proofs.Ytdpicdnpiihaaaa.K.L
open Go Go.bI Go.bI.Y
set_option maxRecDepth 100000
set_option linter.unusedVariables false
namespace Go.Proofs.Ytdpicdnpiihaaaa.K.L
def QI (H : Hp) (a1 a2 : Nat) (lim : Nat) : Option (List Nat) → Prop
 | none => H.get a2 = some (.cells [.bool false] 4 none) ∧ H.get a1 = some (.cells [.slice none 0 0] 79 none)
 | some b => H.get a2 = some (.cells [.bool true] 4 none) ∧ ∃ k, H.get a1 = some (.cells [LQ k (gQ 0 b)] 79 none) ∧ RJ H k (gQ 0 b) ∧ lim ≤ k
theorem QI.keep {H H' : Hp} {a1 a2 lim : Nat} (h1 : ∀ o, H.get a1 = some o → H'.get a1 = some o) (h2 : ∀ o, H.get a2 = some o → H'.get a2 = some o) (h3 : ∀ k l, lim ≤ k → RJ H k l → RJ H' k l) : ∀ {o : Option (List Nat)}, QI H a1 a2 lim o → QI H' a1 a2 lim o
 | none, ⟨a, b⟩ => ⟨h2 _ a, h1 _ b⟩
 | some b, ⟨a, k, c, d, e⟩ => ⟨h2 _ a, k, h1 _ c, h3 _ _ e d, e⟩
theorem RJ.keep {H H' : Hp} {k : Nat} {l : List (Nat × Nat)} (h : ∀ o, H.get k = some o → H'.get k = some o) (a : RJ H k l) : RJ H' k l := by
 obtain ⟨q, h1, h2⟩ := a
 exact ⟨q, h _ h1, h2⟩
theorem QZ.gQ {s : Rm} {fs : List Nat} (hl : fs.length = s.dR.length) (hx : ∀ x ∈ fs, x < s.bP.length) (hp : s.dR.length ≤ 5) : QZ s (gQ 0 fs) := by
 refine ⟨by rw [qM]; omega, fun c hc => ?_⟩
 obtain ⟨j, hj, he⟩ := List.mem_iff_getElem.1 hc
 rw [qM] at hj
 have h1 := WX fs 0 j fs[j] (List.getElem?_eq_getElem hj)
 rw [List.getElem?_eq_getElem (by rw [qM]; exact hj), he, Nat.zero_add] at h1
 obtain rfl := Option.some.inj h1
 exact ⟨hx _ (List.getElem_mem hj), by show j < _; omega⟩
theorem aR4 {s : Rm} (F : nI s) {lo : Nat} {lk : List Value} {l n a0 a1 a2 lim b : Nat} {z : Z} {h : Hp} (w : Wf h) (V : GD lo h s lk) (n1 : a1 ≠ a2) (l0 : a0 < lim) (l1 : a1 < lim) (l2 : a2 < lim) (hr1 : h.ro ≤ a1) (hr2 : h.ro ≤ a2)
  (g0 : h.get a0 = some (.cells [.func (.func 103) (List.toArray [vF lk]) (List.toArray [])] 133 none)) {o : Option (List Nat)} (B : QI h a1 a2 lim o) {fs : List Nat} (hp : QZ s (gQ 0 fs)) (ho : ∀ g, o = some g → QZ s (gQ 0 g)) (ca : RJ h b (gQ 0 fs)) (hb : lim ≤ b) :
  ∃ h', lH (vE yN l) (n + 1) 1 (AL.v (.pointer (some ⟨a0, 0, none⟩)) (AL.v (.pointer (some ⟨a1, 0, none⟩)) (AL.v (.pointer (some ⟨a2, 0, none⟩)) (AL.v (LQ b (gQ 0 fs)) AL.n)))) z h = some (.bool true, h') ∧
   QI h' a1 a2 lim (sO s o fs) ∧ (∀ i, i ≠ a1 → i ≠ a2 → h'.get i = h.get i) ∧ h'.ro = h.ro ∧ h'.next = h.next := by
 rw [aW6]
 generalize lH (vE yN l) n = S
 unfold PN
 have take : ∃ h', (iB h (.pointer (some ⟨a1, 0, none⟩)) (LQ b (gQ 0 fs)) fun h3 => iB h3 (.pointer (some ⟨a2, 0, none⟩)) (Value.bool true) fun h4 => (some (Value.bool true, h4) : aF)) = some (.bool true, h') ∧
   QI h' a1 a2 lim (some fs) ∧ (∀ i, i ≠ a1 → i ≠ a2 → h'.get i = h.get i) ∧ h'.ro = h.ro ∧ h'.next = h.next := by
  obtain ⟨c1, c2, e1, e2⟩ : ∃ c1 c2, h.get a1 = some (.cells [c1] 79 none) ∧ h.get a2 = some (.cells [c2] 4 none) := by
   cases o with
   | none => obtain ⟨x, y⟩ := B; exact ⟨_, _, y, x⟩
   | some g => obtain ⟨x, k, y, _⟩ := B; exact ⟨_, _, y, x⟩
  rw [WZ e1 hr1 rfl, WZ (H := h.upd a1 _) (c := c2) (t := 4) (by rw [bL, if_neg (Ne.symm n1)]; exact e2) hr2 rfl]
  refine ⟨_, rfl, ⟨by rw [bL, if_pos rfl], b, by rw [bL, if_neg n1, bL, if_pos rfl], ?_, hb⟩, fun i h1 h2 => by rw [bL, if_neg h2, bL, if_neg h1], rfl, rfl⟩
  exact ca.keep fun o ho => by rw [bL, if_neg (by omega), bL, if_neg (by omega)]; exact ho
 cases o with
 | none =>
  obtain ⟨x, y⟩ := B
  rw [fB (o := 0) x rfl, aZ, aR, aH, if_pos (by decide)]
  exact take
 | some g =>
  obtain ⟨x, k, y, ck, hk⟩ := B
  have e1 : bQ aG2 [vF lk, LQ b (gQ 0 fs), LQ k (gQ 0 g)] h = some (.int .i64 (MG s (gQ 0 fs) (gQ 0 g)), h) := by
   obtain ⟨h2, e2, _⟩ := RI (h := dF h) (fM w) F (lo := lo) V (a := gQ 0 fs) (b := gQ 0 g) ca.sl hp ck.sl (ho g rfl)
   exact bO e2 rfl
  rw [fB (o := 0) x rfl, aZ, aR, aH, if_neg (by decide), fB (o := 0) g0 rfl, fB (o := 0) y rfl, call103, e1]
  rw [show orK (some (Value.int .i64 (MG s (gQ 0 fs) (gQ 0 g)), h)) (vD 103 yN [vF lk, LQ b (gQ 0 fs), LQ k (gQ 0 g)] h) = some (Value.int .i64 (MG s (gQ 0 fs) (gQ 0 g)), h) from rfl, aB, aI, aQ, aW, aH]
  unfold sO
  by_cases c : MG s (gQ 0 fs) (gQ 0 g) < 0
  ·rw [if_pos (by simpa using c)]
   simp only [if_pos c]
   exact take
  ·rw [if_neg (by simpa using c)]
   simp only [if_neg c]
   exact ⟨h, rfl, ⟨x, k, y, ck, hk⟩, fun _ _ _ => rfl, rfl, rfl⟩
end Go.Proofs.Ytdpicdnpiihaaaa.K.L
