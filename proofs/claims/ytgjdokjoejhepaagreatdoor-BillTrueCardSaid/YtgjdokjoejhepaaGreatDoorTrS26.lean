/- A catalogue is true, in the code's words and in the reference's: the same (second part). -/
import Derived.Test.YtgjdokjoejhepaaGreatDoorTrS25
open Go Go.bP
set_option maxRecDepth 100000
set_option linter.unusedVariables false
namespace Go.Proofs.YtgjdokjoejhepaaGreatDoor.K.L
theorem V8 : ∀ (r pre : List Int), vW (pre ++ r) pre.length r = true ↔ r.Nodup ∧ ∀ x ∈ r, x ∉ pre
 | [], pre => by unfold vW; simp
 | x :: r, pre => by
  have ih := V8 r (pre ++ [x])
  rw [List.append_assoc, List.length_append] at ih
  unfold vW
  rw [Bool.and_eq_true, show pre ++ x :: r = pre ++ ([x] ++ r) from rfl, show pre.length + 1 = pre.length + [x].length from rfl, ih, List.take_left]
  simp only [Bool.not_eq_true', List.any_eq_false, decide_eq_true_eq, List.nodup_cons, List.mem_cons, List.mem_append, List.not_mem_nil, or_false]
  constructor
  ·rintro ⟨h1, h2, h3⟩
   refine ⟨⟨fun hx => h3 x hx (.inr rfl), h2⟩, ?_⟩
   rintro y (rfl | hy) hp
   ·exact h1 y hp rfl
   ·exact h3 y hy (.inl hp)
  ·rintro ⟨⟨h1, h2⟩, h3⟩
   refine ⟨fun y hy e => h3 x (.inl rfl) (e ▸ hy), h2, ?_⟩
   rintro y hy (hp | rfl)
   ·exact h3 y (.inr hy) hp
   ·exact h1 hy
theorem V9 (s : Sh) (l : List Int) : ∀ m i, FO s l m i = true ↔ ∀ x, i ≤ x → x < i + m → nC s.ts [(x : Int)] = true → (x : Int) ∈ l
 | 0, i => by unfold FO; simp; intro x h1 h2; omega
 | m + 1, i => by
  unfold FO
  rw [Bool.and_eq_true, V9 s l m (i + 1), Bool.or_eq_true, Bool.not_eq_true', List.any_eq_true]
  constructor
  ·rintro ⟨h1, h2⟩ x hx hm hs
   by_cases e : x = i
   ·subst e
    rcases h1 with h1 | ⟨y, hy, he⟩
    ·rw [h1] at hs; cases hs
    ·rw [decide_eq_true_eq] at he; rw [he]; exact hy
   ·exact h2 x (by omega) (by omega) hs
  ·intro h
   refine ⟨?_, fun x hx hm hs => h x (by omega) (by omega) hs⟩
   cases hs : nC s.ts [(i : Int)] with
   | false => exact .inl rfl
   | true => exact .inr ⟨(i : Int), h i (Nat.le_refl _) (by omega) hs, by simp⟩
theorem WA : ∀ {c : List En}, (∀ e ∈ c, InE e) → named c = (lQ c).map fun (x : Nat) => (x : Int)
 | [], _ => rfl
 | e :: c, h => by
  have h1 : named (e :: c) = kV e ++ named c := by unfold named; rw [List.flatMap_cons]
  have h2 : lQ (e :: c) = kG e ++ lQ c := by unfold lQ; rw [List.flatMap_cons]
  rw [h1, h2, List.map_append, WA fun x hx => h x (List.mem_cons_of_mem _ hx)]
  congr 1
  unfold kG
  rw [List.map_map]
  refine (List.map_id _).symm.trans (List.map_congr_left fun x hx => ?_)
  have := (h e (List.mem_cons_self ..) x hx).1
  show x = ((x.toNat : Nat) : Int)
  omega
theorem Q9 : ∀ {l : List Nat}, (l.map fun (x : Nat) => (x : Int)).Nodup ↔ l.Nodup
 | [] => by simp
 | x :: l => by
  rw [List.map_cons, List.nodup_cons, List.nodup_cons, Q9]
  simp only [List.mem_map]
  constructor
  ·rintro ⟨h1, h2⟩; exact ⟨fun h => h1 ⟨x, h, rfl⟩, h2⟩
  ·rintro ⟨h1, h2⟩; exact ⟨fun ⟨y, hy, e⟩ => h1 (Int.ofNat.inj e ▸ hy), h2⟩
theorem aCI {l : List Nat} {x : Nat} : (x : Int) ∈ (l.map fun (x : Nat) => (x : Int)) ↔ x ∈ l := by
 simp only [List.mem_map]
 exact ⟨fun ⟨y, hy, e⟩ => by have : y = x := (by omega); subst this; exact hy, fun h => ⟨x, h, rfl⟩⟩
section
variable {s : Sh} (f : mZ s)
include f
theorem all_some {l : List Int} (h : kH s.ts l = true) : nC s.ts l = true := by
 unfold kH at h
 unfold nC
 rw [List.all_eq_true] at h
 rw [List.any_eq_true]
 have := f.some
 exact ⟨s.ts[0], List.getElem_mem this, h _ (List.getElem_mem this)⟩
omit f in
theorem aCJ {x y : Int} (h : kH s.ts [x, y] = true) (hy : kH s.ts [y] = false) : nC s.ts [x] = true := by
 unfold kH at h hy
 unfold nC
 rw [List.all_eq_true] at h
 rw [List.all_eq_false] at hy
 rw [List.any_eq_true]
 obtain ⟨t, ht, hn⟩ := hy
 have := h t ht
 refine ⟨t, ht, ?_⟩
 unfold KQ at this hn ⊢
 simp only [List.any_cons, List.any_nil, Bool.or_false, Bool.or_eq_true] at this hn ⊢
 rcases this with h1 | h1
 ·exact h1
 ·exact absurd h1 hn
theorem aLF {e : En} (h : rF s e = true) : ∀ x ∈ kG e, x < s.aU.length ∧ lW s.ts x = true := by
 rw [aI3 f] at h
 unfold Q5 at h
 rw [Bool.and_eq_true, Bool.and_eq_true] at h
 obtain ⟨ha, hb, h⟩ := h
 obtain ⟨a0, a1⟩ := jH.1 ha
 obtain ⟨b0, b1⟩ := jH.1 hb
 obtain ⟨x, hx⟩ : ∃ x : Nat, e.a = (x : Int) := ⟨e.a.toNat, by omega⟩
 obtain ⟨y, hy⟩ : ∃ y : Nat, e.b = (y : Int) := ⟨e.b.toNat, by omega⟩
 intro z hz
 unfold kG kV at hz
 unfold aQ1 at h
 rw [hx, hy] at hz h
 rw [Int.toNat_natCast, Int.toNat_natCast] at h
 by_cases c1 : e.says = 1
 ·rw [if_pos c1] at hz
  rw [if_neg (by omega), if_pos c1] at h
  unfold KS at h
  simp only [Bool.and_eq_true, Bool.not_eq_true'] at h
  obtain ⟨_, _, _, h1, h2, h3⟩ := h
  have hz' : z = x ∨ z = y := by simpa using hz
  have h3' : kH s.ts [(y : Int), (x : Int)] = true := by
   rw [← h3]; unfold kH; apply BX; intro t ht; unfold KQ
   simp only [List.any_cons, List.any_nil, Bool.or_false]; exact Bool.or_comm _ _
  rcases hz' with rfl | rfl
  ·exact ⟨by omega, by rw [xE]; exact aCJ h3 h2⟩
  ·exact ⟨by omega, by rw [xE]; exact aCJ h3' h1⟩
 ·rw [if_neg c1] at hz
  have hz' : z = x := by simpa using hz
  subst hz'
  refine ⟨by omega, ?_⟩
  rw [xE]
  by_cases c0 : e.says = 0
  ·rw [if_pos c0, Bool.and_eq_true] at h
   exact all_some f h.2
  rw [if_neg c0, if_neg c1] at h
  by_cases c2 : e.says = 2
  ·rw [if_pos c2, Bool.and_eq_true, Bool.and_eq_true] at h
   exact h.2.2
  ·rw [if_neg c2] at h; cases h
theorem aCK : ∀ {c : List En} {p : Option Int}, uC s p c = true → ∀ x ∈ lQ c, x < s.aU.length ∧ lW s.ts x = true
 | [], _, _, x, hx => by simp [lQ] at hx
 | e :: c, p, h, x, hx => by
  unfold uC at h
  simp only [Bool.and_eq_true] at h
  have : lQ (e :: c) = kG e ++ lQ c := by unfold lQ; rw [List.flatMap_cons]
  rw [this, List.mem_append] at hx
  rcases hx with hx | hx
  ·exact aLF f h.1 x hx
  ·exact aCK h.2.2 x hx
omit f in
theorem WB : ∀ {c : List En} {x : Int}, 0 ≤ x → uC s (some x) c = true → c = [] ∨ x + c.length < s.aU.length
 | [], x, _, _ => .inl rfl
 | e :: c, x, h0, h => by
  unfold uC okP at h
  simp only [Bool.and_eq_true, decide_eq_true_eq] at h
  have h1 := h.1
  unfold rF at h1
  rw [Bool.and_eq_true] at h1
  have h2 := jH.1 h1.1
  right
  rcases WB (x := e.a) h2.1 h.2.2 with h3 | h3
  ·subst h3; simp only [List.length_cons, List.length_nil]; omega
  ·simp only [List.length_cons]; omega
omit f in
theorem aFJ {c : List En} (h : uC s none c = true) : c.length ≤ s.aU.length := by
 cases c with
 | nil => simp
 | cons e c =>
  unfold uC at h
  simp only [Bool.and_eq_true] at h
  have h1 := h.1
  unfold rF at h1
  rw [Bool.and_eq_true] at h1
  have h2 := jH.1 h1.1
  rcases WB h2.1 h.2.2 with h3 | h3
  ·subst h3; simp only [List.length_cons, List.length_nil]; omega
  ·simp only [List.length_cons]; omega
theorem aFK (c : List En) : aB6 s c = Q8 s c := by
 unfold aB6 Q8
 rw [← aQ7 f c none]
 cases ho : uC s none c with
 | false => simp
 | true =>
  rw [decide_eq_true (aFJ ho), Bool.true_and, Bool.true_and, Bool.true_and, Bool.eq_iff_iff, decide_eq_true_eq, counts_iff f (aCK f ho), Bool.and_eq_true]
  have hn := WA (aFE f ho)
  have hf := V8 (named c) []
  rw [List.nil_append, List.length_nil] at hf
  rw [hf, V9, hn, Q9]
  constructor
  ·rintro ⟨h1, h2⟩
   exact ⟨⟨h1, fun x _ hx => by cases hx⟩, fun x _ hx hs => aCI.2 (h2 x (by omega) (by rw [xE]; exact hs))⟩
  ·rintro ⟨⟨h1, _⟩, h2⟩
   exact ⟨h1, fun x hx hs => aCI.1 (h2 x (Nat.zero_le _) (by omega) (by rw [← xE]; exact hs))⟩
theorem true_eq (c : List En) (h : (fT s).2.2 = 0) : EE s c = V5 s c := by
 unfold EE V5
 rw [aFK f]
end
end Go.Proofs.YtgjdokjoejhepaaGreatDoor.K.L
