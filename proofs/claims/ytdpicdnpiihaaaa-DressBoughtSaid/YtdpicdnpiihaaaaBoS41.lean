/- Contracts of told functions: Least. -/
import Derived.Test.YtdpicdnpiihaaaaBoS39
open Go Go.bK Go.bK.Y
set_option maxRecDepth 100000
set_option linter.unusedVariables false
namespace Go.Proofs.Ytdpicdnpiihaaaa.K.L
theorem WK {H : Hp} {b : Nat} {c x : Value} {t : TypeId} (hg : H.get b = some (.cells [c] t none)) (hr : H.ro ≤ b) (hx : oneCell x = true) (ρ : Type) (k : Hp → Option ρ) : jW H (.pointer (some ⟨b, 0, none⟩)) x k = k (H.upd b (.cells [x] t none)) := by
 rw [qA (c := [c]) (t := t) (s := none) (h := H) (b := b) (o := 0) hg hr hx (by simp)]
 rfl
theorem call103 (Y : YF) (o a b : Value) (h : Hp) : EG BQ u6 Y (.func (.func 103) (List.toArray [o]) (List.toArray [])) [a, b] h = orK (bV aF7 [o, a, b] h) (u6 103 Y [o, a, b] h) := rfl
theorem bG0 (Y : YF) (l : List Value) (h : Hp) : u6 94 Y l h = aF8 Y l h := rfl
theorem aNM (g c : Value) (h : Hp) : aB9 [g, c] h = aB8 yN (kW (V3 yN) 999999) g c ⟨some (jE [g, c] 0 bK.T.nil), []⟩ h := by
 unfold aB9 aK6
 show kW (V3 yN) 1000000 0 (AL.v g (AL.v c AL.n)) _ h = _
 rfl
theorem aQV (n : Nat) (r6 r7 : Value) (z : Z) (h : Hp) : kW (V3 yN) (n + 1) 2 (AL.v r6 (AL.v r7 AL.n)) z h = aB7 yN (kW (V3 yN) n) r6 r7 z h := rfl
theorem aVY (l n : Nat) (r3 r6 r7 r8 : Value) (z : Z) (h : Hp) : kW (u7 yN l) (n + 1) 1 (AL.v r3 (AL.v r6 (AL.v r7 (AL.v r8 AL.n)))) z h = O6 yN l (kW (u7 yN l) n) r3 r6 r7 r8 z h := rfl
theorem a4R (l : Nat) (a0 a1 a2 x : Value) (z : Z) (h : Hp) : ∃ z' : Z, Y2 yN 1 l (AL.v a0 (AL.v a1 (AL.v a2 AL.n))) z [x] h = EF l h fun h0 => kW (u7 yN l) 999999 1 (AL.v a0 (AL.v a1 (AL.v a2 (AL.v x AL.n)))) z' h0 := by
 refine ⟨Z.lose (Z.put ⟨z.tm, []⟩ 10 x), ?_⟩
 show kW (u7 yN l) (999999 + 1) 0 (AL.v x (AL.v a0 (AL.v a1 (AL.v a2 AL.n)))) (Z.put ⟨z.tm, []⟩ 10 x) h = _
 generalize 999999 = n
 rfl
end Go.Proofs.Ytdpicdnpiihaaaa.K.L
open Go Go.bK Go.bK.Y
set_option maxRecDepth 100000
set_option linter.unusedVariables false
namespace Go.Proofs.Ytdpicdnpiihaaaa.K.L
def PU (H : Hp) (a1 a2 : Nat) (lim : Nat) : Option (List Nat) → Prop
 | none => H.get a2 = some (.cells [.bool false] 4 none) ∧ H.get a1 = some (.cells [.slice none 0 0] 79 none)
 | some b => H.get a2 = some (.cells [.bool true] 4 none) ∧ ∃ k, H.get a1 = some (.cells [LD k (fK 0 b)] 79 none) ∧ QW H k (fK 0 b) ∧ lim ≤ k
theorem PU.keep {H H' : Hp} {a1 a2 lim : Nat} (h1 : ∀ o, H.get a1 = some o → H'.get a1 = some o) (h2 : ∀ o, H.get a2 = some o → H'.get a2 = some o) (h3 : ∀ k l, lim ≤ k → QW H k l → QW H' k l) : ∀ {o : Option (List Nat)}, PU H a1 a2 lim o → PU H' a1 a2 lim o
 | none, ⟨a, b⟩ => ⟨h2 _ a, h1 _ b⟩
 | some b, ⟨a, k, c, d, e⟩ => ⟨h2 _ a, k, h1 _ c, h3 _ _ e d, e⟩
theorem QW.keep {H H' : Hp} {k : Nat} {l : List (Nat × Nat)} (h : ∀ o, H.get k = some o → H'.get k = some o) (a : QW H k l) : QW H' k l := by
 obtain ⟨q, h1, h2⟩ := a
 exact ⟨q, h _ h1, h2⟩
theorem PG.fK {s : Rm} {fs : List Nat} (hl : fs.length = s.dF.length) (hx : ∀ x ∈ fs, x < s.dZ.length) (hp : s.dF.length ≤ 5) : PG s (fK 0 fs) := by
 refine ⟨by rw [rF]; omega, fun c hc => ?_⟩
 obtain ⟨j, hj, he⟩ := List.mem_iff_getElem.1 hc
 rw [rF] at hj
 have h1 := WI fs 0 j fs[j] (List.getElem?_eq_getElem hj)
 rw [List.getElem?_eq_getElem (by rw [rF]; exact hj), he, Nat.zero_add] at h1
 obtain rfl := Option.some.inj h1
 exact ⟨hx _ (List.getElem_mem hj), by show j < _; omega⟩
theorem aQW {s : Rm} (F : lJ s) {lo : Nat} {lk : List Value} {l n a0 a1 a2 lim b : Nat} {z : Z} {h : Hp} (w : Wf h) (V : FR lo h s lk) (n1 : a1 ≠ a2) (l0 : a0 < lim) (l1 : a1 < lim) (l2 : a2 < lim) (hr1 : h.ro ≤ a1) (hr2 : h.ro ≤ a2)
  (g0 : h.get a0 = some (.cells [.func (.func 103) (List.toArray [vB lk]) (List.toArray [])] 133 none)) {o : Option (List Nat)} (B : PU h a1 a2 lim o) {fs : List Nat} (hp : PG s (fK 0 fs)) (ho : ∀ g, o = some g → PG s (fK 0 g)) (ca : QW h b (fK 0 fs)) (hb : lim ≤ b) :
  ∃ h', kW (u7 yN l) (n + 1) 1 (AL.v (.pointer (some ⟨a0, 0, none⟩)) (AL.v (.pointer (some ⟨a1, 0, none⟩)) (AL.v (.pointer (some ⟨a2, 0, none⟩)) (AL.v (LD b (fK 0 fs)) AL.n)))) z h = some (.bool true, h') ∧
   PU h' a1 a2 lim (BZ s o fs) ∧ (∀ i, i ≠ a1 → i ≠ a2 → h'.get i = h.get i) ∧ h'.ro = h.ro ∧ h'.next = h.next := by
 rw [aVY]
 generalize kW (u7 yN l) n = S
 unfold O6
 have take : ∃ h', (jW h (.pointer (some ⟨a1, 0, none⟩)) (LD b (fK 0 fs)) fun h3 => jW h3 (.pointer (some ⟨a2, 0, none⟩)) (Value.bool true) fun h4 => (some (Value.bool true, h4) : aF)) = some (.bool true, h') ∧
   PU h' a1 a2 lim (some fs) ∧ (∀ i, i ≠ a1 → i ≠ a2 → h'.get i = h.get i) ∧ h'.ro = h.ro ∧ h'.next = h.next := by
  obtain ⟨c1, c2, e1, e2⟩ : ∃ c1 c2, h.get a1 = some (.cells [c1] 79 none) ∧ h.get a2 = some (.cells [c2] 4 none) := by
   cases o with
   | none => obtain ⟨x, y⟩ := B; exact ⟨_, _, y, x⟩
   | some g => obtain ⟨x, k, y, _⟩ := B; exact ⟨_, _, y, x⟩
  rw [WK e1 hr1 rfl, WK (H := h.upd a1 _) (c := c2) (t := 4) (by rw [bU, if_neg (Ne.symm n1)]; exact e2) hr2 rfl]
  refine ⟨_, rfl, ⟨by rw [bU, if_pos rfl], b, by rw [bU, if_neg n1, bU, if_pos rfl], ?_, hb⟩, fun i h1 h2 => by rw [bU, if_neg h2, bU, if_neg h1], rfl, rfl⟩
  exact ca.keep fun o ho => by rw [bU, if_neg (by omega), bU, if_neg (by omega)]; exact ho
 cases o with
 | none =>
  obtain ⟨x, y⟩ := B
  rw [fP (o := 0) x rfl, aW, aQ, aG, if_pos (by decide)]
  exact take
 | some g =>
  obtain ⟨x, k, y, ck, hk⟩ := B
  have e1 : bV aF7 [vB lk, LD b (fK 0 fs), LD k (fK 0 g)] h = some (.int .i64 (WH s (fK 0 fs) (fK 0 g)), h) := by
   obtain ⟨h2, e2, _⟩ := QV (h := bZ h) (fB w) F (lo := lo) V (a := fK 0 fs) (b := fK 0 g) ca.sl hp ck.sl (ho g rfl)
   exact bJ e2 rfl
  rw [fP (o := 0) x rfl, aW, aQ, aG, if_neg (by decide), fP (o := 0) g0 rfl, fP (o := 0) y rfl, call103, e1]
  rw [show orK (some (Value.int .i64 (WH s (fK 0 fs) (fK 0 g)), h)) (u6 103 yN [vB lk, LD b (fK 0 fs), LD k (fK 0 g)] h) = some (Value.int .i64 (WH s (fK 0 fs) (fK 0 g)), h) from rfl, aB, aH, aM, aU, aG]
  unfold BZ
  by_cases c : WH s (fK 0 fs) (fK 0 g) < 0
  ·rw [if_pos (by simpa using c)]
   simp only [if_pos c]
   exact take
  ·rw [if_neg (by simpa using c)]
   simp only [if_neg c]
   exact ⟨h, rfl, ⟨x, k, y, ck, hk⟩, fun _ _ _ => rfl, rfl, rfl⟩
end Go.Proofs.Ytdpicdnpiihaaaa.K.L
