/- The least plan: of all plans, in order, the first of those that lack, and then cost, least. -/
import Derived.Test.YtdpicdnpiihaaaaOrS38
open Go Go.bI
set_option maxRecDepth 100000
set_option linter.unusedVariables false
namespace Go.Proofs.Ytdpicdnpiihaaaa.K.L
theorem Z5 : ∀ (p l m : List Int), QC (p ++ l) (p ++ m) = QC l m
 | [], l, m => rfl
 | x :: p, l, m => by
  show (if x ≠ x then decide (x < x) else QC (p ++ l) (p ++ m)) = _
  rw [if_neg (by simp)]
  exact Z5 p l m
theorem QE : ∀ (l m n : List Int), QC l m = true → QC m n = true → QC l n = true
 | [], [], n, h, _ => by cases h
 | _ :: _, [], n, h, _ => by cases h
 | l, y :: m, [], _, h => by cases h
 | [], y :: m, z :: n, _, _ => rfl
 | x :: l, y :: m, z :: n, h1, h2 => by
  unfold QC at h1 h2 ⊢
  by_cases c : x = y
  ·rw [if_neg (by simp [c])] at h1
   subst c
   by_cases d : x = z
   ·rw [if_neg (by simp [d])] at h2
    rw [if_neg (by simp [d])]
    exact QE l m n h1 h2
   ·rw [if_pos d] at h2 ⊢
    exact h2
  ·rw [if_pos c] at h1
   simp at h1
   by_cases d : y = z
   ·subst d
    rw [if_pos c]; simpa using h1
   ·rw [if_pos d] at h2
    simp at h2
    rw [if_pos (by omega)]
    simp; omega
def wE (l : List Nat) : List Int := l.map Int.ofNat
theorem UG (a b : List Nat) : wE (a ++ b) = wE a ++ wE b := List.map_append
def RL (a b : List Nat) : Prop := QC (wE a) (wE b) = true
theorem zG (nf : Nat) : ∀ (m : Nat) (fs g : List Nat), g ∈ onL nf m fs ↔ ∃ t, g = fs ++ t ∧ t.length = m ∧ (∀ x ∈ t, x < nf ∧ x ∉ fs) ∧ t.Nodup
 | 0, fs, g => by
  unfold onL
  constructor
  ·intro h
   refine ⟨[], by simpa using h, rfl, fun x hx => by simp at hx, List.nodup_nil⟩
  ·rintro ⟨t, rfl, ht, _⟩
   rw [List.length_eq_zero_iff.1 ht]; simp
 | m + 1, fs, g => by
  unfold onL
  rw [List.mem_flatMap]
  constructor
  ·rintro ⟨f, hf, hg⟩
   rw [List.mem_range] at hf
   by_cases c : fs.contains f = true
   ·rw [if_pos c] at hg; simp at hg
   ·rw [if_neg c] at hg
    obtain ⟨t, rfl, ht, hx, hn⟩ := (zG nf m (fs ++ [f]) g).1 hg
    have c' : f ∉ fs := by simpa using c
    refine ⟨f :: t, by simp, by simp [ht], fun x hx' => ?_, ?_⟩
    ·rcases List.mem_cons.1 hx' with rfl | e
     ·exact ⟨hf, c'⟩
     ·have := hx x e
      exact ⟨this.1, fun q => this.2 (by simp [q])⟩
    ·exact List.nodup_cons.2 ⟨fun q => (hx f q).2 (by simp), hn⟩
  ·rintro ⟨t, rfl, ht, hx, hn⟩
   match t, ht with
   | f :: t, ht =>
    have hf := hx f (.head _)
    have hn' := List.nodup_cons.1 hn
    refine ⟨f, List.mem_range.2 hf.1, ?_⟩
    rw [if_neg (by simpa using hf.2)]
    refine (zG nf m (fs ++ [f]) _).2 ⟨t, by simp, by simpa using ht, fun x h => ⟨(hx x (.tail _ h)).1, fun q => ?_⟩, hn'.2⟩
    rcases List.mem_append.1 q with q | q
    ·exact (hx x (.tail _ h)).2 q
    ·rw [List.mem_singleton] at q
     subst q
     exact hn'.1 h
theorem QF (nf : Nat) : ∀ (m : Nat) (fs : List Nat), (onL nf m fs).Pairwise RL
 | 0, fs => by unfold onL; exact List.pairwise_singleton _ _
 | m + 1, fs => by
  unfold onL
  rw [List.pairwise_flatMap]
  refine ⟨fun f _ => ?_, ?_⟩
  ·by_cases c : fs.contains f = true
   ·rw [if_pos c]; exact List.Pairwise.nil
   ·rw [if_neg c]; exact QF nf m (fs ++ [f])
  ·refine List.pairwise_lt_range.imp fun {a b} hab x hx y hy => ?_
   by_cases ca : fs.contains a = true
   ·rw [if_pos ca] at hx; simp at hx
   by_cases cb : fs.contains b = true
   ·rw [if_pos cb] at hy; simp at hy
   rw [if_neg ca] at hx
   rw [if_neg cb] at hy
   obtain ⟨t, rfl, _⟩ := (zG nf m _ x).1 hx
   obtain ⟨u, rfl, _⟩ := (zG nf m _ y).1 hy
   unfold RL
   rw [List.append_assoc, List.append_assoc, UG fs, UG fs, Z5]
   show QC (Int.ofNat a :: wE t) (Int.ofNat b :: wE u) = true
   unfold QC
   have : Int.ofNat a < Int.ofNat b := Int.ofNat_lt.2 hab
   rw [if_pos (by omega)]
   simpa using hab
def kLt (s : Rm) (a b : List Nat) : Prop := kD s (gQ 0 a) < kD s (gQ 0 b) ∨ (kD s (gQ 0 a) = kD s (gQ 0 b) ∧ iL s (gQ 0 a) < iL s (gQ 0 b))
def kEq (s : Rm) (a b : List Nat) : Prop := kD s (gQ 0 a) = kD s (gQ 0 b) ∧ iL s (gQ 0 a) = iL s (gQ 0 b)
theorem M5 (s : Rm) (a b : List Nat) : MG s (gQ 0 a) (gQ 0 b) < 0 ↔ kLt s a b := by
 unfold MG orZ aDC kLt
 generalize kD s (gQ 0 a) = x
 generalize kD s (gQ 0 b) = y
 generalize iL s (gQ 0 a) = u
 generalize iL s (gQ 0 b) = v
 by_cases c1 : x < y
 ·rw [if_pos c1]; simp [c1]
 ·rw [if_neg c1]
  by_cases c2 : y < x
  ·rw [if_pos c2]; simp; omega
  ·rw [if_neg c2]
   by_cases c3 : u < v
   ·rw [if_pos c3]; simp; omega
   ·rw [if_neg c3]
    by_cases c4 : v < u
    ·rw [if_pos c4]; simp; omega
    ·rw [if_neg c4]; simp; omega
def sO (s : Rm) (o : Option (List Nat)) (f : List Nat) : Option (List Nat) := match o with
 | none => some f
 | some b => if MG s (gQ 0 f) (gQ 0 b) < 0 then some f else some b
def leastOf (s : Rm) (d : List (List Nat)) : Option (List Nat) := d.foldl (sO s) none
theorem IR (s : Rm) (d : List (List Nat)) (f : List Nat) : leastOf s (d ++ [f]) = sO s (leastOf s d) f := by unfold leastOf; rw [List.foldl_append]; rfl
theorem QG (s : Rm) : ∀ (l : List (List Nat)) (b0 : List Nat), (b0 :: l).Pairwise RL → ∃ b, l.foldl (sO s) (some b0) = some b ∧ b ∈ b0 :: l ∧ ∀ f ∈ b0 :: l, ¬ kLt s f b ∧ (kEq s f b → f = b ∨ RL b f)
 | [], b0, _ => ⟨b0, rfl, .head _, fun f hf => by
  rw [List.mem_singleton] at hf; subst hf
  exact ⟨by unfold kLt; omega, fun _ => .inl rfl⟩⟩
 | x :: l, b0, hp => by
  obtain ⟨h0, hx, hl⟩ : (∀ y ∈ x :: l, RL b0 y) ∧ (∀ y ∈ l, RL x y) ∧ l.Pairwise RL := by
   have := List.pairwise_cons.1 hp
   have t := List.pairwise_cons.1 this.2
   exact ⟨this.1, t.1, t.2⟩
  rw [List.foldl_cons]
  by_cases c : MG s (gQ 0 x) (gQ 0 b0) < 0
  ·obtain ⟨b, e, hb, hall⟩ := QG s l x (List.pairwise_cons.2 ⟨hx, hl⟩)
   have cx := (M5 s x b0).1 c
   refine ⟨b, by rw [show sO s (some b0) x = some x from if_pos c]; exact e, .tail _ hb, fun f hf => ?_⟩
   rcases List.mem_cons.1 hf with rfl | hf
   ·have := (hall x (.head _)).1
    unfold kLt at cx this
    unfold kLt kEq
    exact ⟨by omega, fun q => by omega⟩
   ·exact hall f hf
  ·obtain ⟨b, e, hb, hall⟩ := QG s l b0 (List.pairwise_cons.2 ⟨fun y hy => h0 y (.tail _ hy), hl⟩)
   refine ⟨b, by rw [show sO s (some b0) x = some b0 from if_neg c]; exact e, ?_, fun f hf => ?_⟩
   ·rcases List.mem_cons.1 hb with q | q
    ·rw [q]; exact .head _
    ·exact .tail _ (.tail _ q)
   rcases List.mem_cons.1 hf with q | hf
   ·rw [q]; exact hall b0 (.head _)
   rcases List.mem_cons.1 hf with q | hf
   ·subst q
    have cx : ¬ kLt s f b0 := fun q => c ((M5 s f b0).2 q)
    obtain ⟨a1, a2⟩ := hall b0 (.head _)
    have R0 := h0 f (.head _)
    refine ⟨?_, fun q => ?_⟩
    ·unfold kLt at cx a1 ⊢; omega
    ·have : kEq s b0 b := by unfold kLt at cx a1; unfold kEq at q ⊢; omega
     rcases a2 this with q2 | q2
     ·subst q2; exact .inr R0
     ·exact .inr (QE _ _ _ q2 R0)
   ·exact hall f (.tail _ hf)
theorem QH (s : Rm) {d : List (List Nat)} (hd : d.Pairwise RL) : (d = [] ∧ leastOf s d = none) ∨ ∃ b, leastOf s d = some b ∧ b ∈ d ∧ ∀ f ∈ d, ¬ kLt s f b ∧ (kEq s f b → f = b ∨ RL b f) := by
 match d, hd with
 | [], _ => exact .inl ⟨rfl, rfl⟩
 | x :: l, hd =>
  obtain ⟨b, e, hb, h⟩ := QG s l x hd
  exact .inr ⟨b, e, hb, h⟩
end Go.Proofs.Ytdpicdnpiihaaaa.K.L
