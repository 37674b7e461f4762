/- Contracts of told functions: rows, slices, names met before. -/
import Derived.Test.YtdpicdnpiihaaaaOrS1
open Go Go.bI
set_option maxRecDepth 100000
set_option linter.unusedVariables false
namespace Go.Proofs.Ytdpicdnpiihaaaa.K.L
theorem ZN {F : List Value → Hp → aF} {args : List Value} {h : Hp} {v : Value} (e : ∀ h : Hp, ∃ h', F args ⟨h.next, h.next, h.aC⟩ = some (v, h')) (hp : lD v = true) : bQ F args h = some (v, h) := by
 obtain ⟨h', e⟩ := e h
 unfold bQ
 rw [e, aB, hp]
theorem bO {F : List Value → Hp → aF} {args : List Value} {h h' : Hp} {v : Value} (e : F args ⟨h.next, h.next, h.aC⟩ = some (v, h')) (hp : lD v = true) : bQ F args h = some (v, h) := by
 unfold bQ
 rw [e, aB, hp]
abbrev dF (h : Hp) : Hp := ⟨h.next, h.next, h.aC⟩
structure Lk where
 nm : ByteArray
 lv : Value
 lk : List Int
 lJ : Int
def Lk.row (g : Lk) : List Value := [.string g.nm, g.lv, .int .i64 g.lJ]
def cZ (n : Int) : List Value := [.int .i64 n]
def kN (a b : ByteArray) : Bool := a.toList == b.toList
def idxFrom {α : Type} (p : α → Bool) : Nat → List α → Int
 | _, [] => -1
 | i, g :: l => if p g then i else idxFrom p (i + 1) l
theorem BZ {α : Type} (p : α → Bool) : ∀ (l : List α) (i : Nat), decide (idxFrom p i l < 0) = !(l.any p)
 | [], i => rfl
 | g :: l, i => by
  unfold idxFrom
  rw [List.any_cons]
  cases hp : p g with
  | true => simp
  | false => simp only [Bool.false_or]; exact BZ p l (i + 1)
theorem aG7 {h : Hp} {p : Value} {x : Lk} (a : At h p x.row) (g : Lk) : F87 [.agg (Array.mk g.row), p] h = some (.bool (kN g.nm x.nm)) := by
 show plainO (aJ7 h (G.aN (T87 h) 999999) (.agg (Array.mk g.row)) p) = _
 unfold aJ7
 rw [show Array.toList (Value.cells (.agg (Array.mk g.row))) = g.row from rfl, kI, oP _ _ 0 (.string g.nm) rfl, a.wP 0 (x := .string x.nm) rfl, OX, aM, aZ]
 rfl
theorem ET {h : Hp} {v p : Value} {x : Lk} {gs : List Lk} (hr : bI.Rows h 3 v (gs.map Lk.row)) (ha : At h p x.row) (hlen : gs.length ≤ 900000) : ∀ m i n, i + m = gs.length → m + 2 ≤ n →
  aN Y8 n 1 (AL.v v (AL.v (.func (.func 87) #[] #[p]) (AL.i (gs.length : Int) (AL.i (i : Int) AL.n)))) h = some (.int .i64 (idxFrom (fun g => kN g.nm x.nm) i (gs.drop i)), h)
 | 0, i, n + 2, him, hn => by
  show PG (aN Y8 (n + 1)) v (.func (.func 87) #[] #[p]) (gs.length : Int) (i : Int) h = _
  unfold PG
  rw [aQ, aW, aH, if_neg (by simp; omega), List.drop_of_length_le (by omega)]
  rfl
 | m + 1, i, n + 1, him, hn => by
  have hi : i < gs.length := by omega
  have hg : (gs.map Lk.row)[i]? = some (gs[i]).row := by rw [List.getElem?_map, List.getElem?_eq_getElem hi]; rfl
  obtain ⟨q, hq, haq, hl⟩ := hr.at hg
  show PG (aN Y8 n) v (.func (.func 87) #[] #[p]) (gs.length : Int) (i : Int) h = _
  unfold PG
  rw [aQ, aW, aH, if_pos (by simp; omega), hq, haq.eX hl]
  rw [show qP aKD (.func (.func 87) #[] #[p]) [.agg (Array.mk (gs[i]).row)] h = bR (F87 [.agg (Array.mk (gs[i]).row), p] h) (fun v => some (v, h)) from rfl]
  rw [aG7 ha, aM, aB, aZ, aH, List.drop_eq_getElem_cons hi]
  unfold idxFrom
  cases hs : kN (gs[i]).nm x.nm with
  | true => rfl
  | false =>
   simp only [Bool.false_eq_true, if_false]
   rw [show Int.add (i : Int) (Int.ofNat 1) = ((i + 1 : Nat) : Int) from rfl, wrap64_in _ (by omega) (by omega)]
   exact ET hr ha hlen m (i + 1) n (by omega) (by omega)
theorem ZO {h : Hp} {v p : Value} {x : Lk} {gs : List Lk} (hr : bI.Rows h 3 v (gs.map Lk.row)) (ha : At h p x.row) (hlen : gs.length ≤ 900000) :
  aQ0 [v, .func (.func 87) #[] #[p]] h = some (.int .i64 (idxFrom (fun g => kN g.nm x.nm) 0 gs), h) := by
 show aCJ (aN Y8 999999) v (.func (.func 87) #[] #[p]) h = _
 unfold aCJ
 rw [hr.len, List.length_map]
 have := ET hr ha hlen gs.length 0 999999 (by omega) (by omega)
 rw [List.drop_zero] at this
 exact this
theorem RH {h : Hp} {v p : Value} {x : Lk} {gs : List Lk} (hr : bI.Rows h 3 v (gs.map Lk.row)) (ha : At h p x.row) (hlen : gs.length ≤ 900000) :
  F86 [v, .func (.func 87) #[] #[p]] h = some (.bool (gs.any fun g => kN g.nm x.nm), h) := by
 show aKF (aN T86 999999) v (.func (.func 87) #[] #[p]) h = _
 unfold aKF
 rw [bO (ZO (h := dF h) hr ha hlen) rfl, aB, aI, aR, aW, show (Int.ofNat 0) = (0 : Int) from rfl, BZ, Bool.not_not]
theorem bIK (h : Hp) (a b : Int) : aU env h 22 2 (List.toArray [(0, (Value.int .i64 a)), (1, (Value.int .i64 b))]) = some (.slice (some ⟨h.next, 0, none⟩) 2 2, h.add (.cells [.int .i64 a, .int .i64 b] 3 none)) := by kernel_rfl
theorem aC8 (h : Hp) (lo hi : Int) (l : List Int) (n : Nat) (hn : l.length = n) (hlen : n ≤ 900000) : F82 [.int .i64 lo, .int .i64 hi, .slice (some ⟨h.next, 0, none⟩) n n] (h.add (.cells (l.map (Value.int .i64)) 3 none)) = some (.bool (l.all (rY lo hi))) := by
 subst hn
 refine J5 _ lo hi h.next 0 l.length _ 3 none (BP _ _) l (fun j x hx => ?_) hlen
 rw [Nat.zero_add, List.getElem?_map, hx]; rfl
theorem WW (h : Hp) (lo hi a : Int) : F82 [.int .i64 lo, .int .i64 hi, .slice (some ⟨h.next, 0, none⟩) 1 1] (h.add (.cells [.int .i64 a] 3 none)) = some (.bool (rY lo hi a)) := by
 have := aC8 h lo hi [a] 1 rfl (by omega)
 simpa using this
theorem fM {h : Hp} (w : Wf h) : Wf (dF h) := ⟨Nat.le_refl _, w.2⟩
theorem aE8 {h : Hp} (w : Wf h) {p : Value} {r : List Value} (a : At h p r) (o : bY) : At (h.add o) p r := a.sub (aV.add w o).sub
theorem fF (l : List Value) : Array.toList (Value.cells (.agg (Array.mk l))) = l := rfl
def lV (h : Hp) (z : Nat) (v : Value) (rs : List (List Value)) : Prop := (v = .slice none 0 0 ∧ rs = []) ∨ ∃ b c t k, v = .slice (some ⟨b, 0, none⟩) rs.length rs.length ∧ h.get b = some (.cells c t k) ∧ (k = some z ∨ k = none) ∧
 ∀ i r, rs[i]? = some r → r.length = z ∧ i * z + z ≤ c.length ∧ ∀ (k : Nat) (x : Value), r[k]? = some x → c[i * z + k]? = some x
theorem lV.of {h : Hp} {z : Nat} {v : Value} {rs : List (List Value)} (a : (v = .slice none 0 0 ∧ rs = []) ∨ ∃ b c t, v = .slice (some ⟨b, 0, none⟩) rs.length rs.length ∧ h.get b = some (.cells c t (some z)) ∧
  ∀ i r, rs[i]? = some r → r.length = z ∧ i * z + z ≤ c.length ∧ ∀ (k : Nat) (x : Value), r[k]? = some x → c[i * z + k]? = some x) : lV h z v rs := by
 rcases a with a | ⟨b, c, t, h1, h2, h3⟩
 ·exact .inl a
 ·exact .inr ⟨b, c, t, some z, h1, h2, .inl rfl, h3⟩
theorem lV.rows {h : Hp} {z : Nat} {v : Value} {rs : List (List Value)} (a : lV h z v rs) : bI.Rows h z v rs := by
 rcases a with ⟨h1, h2⟩ | ⟨b, c, t, k, h1, h2, _, h3⟩
 ·exact .inl ⟨0, by rw [h1, h2]; rfl, h2⟩
 ·exact .inr ⟨b, 0, rs.length, c, t, k, h1, fun _ => h2, fun i r hi => by
   obtain ⟨g1, g2, g3⟩ := h3 i r hi
   exact ⟨g1, by omega, fun k x hx => by rw [Nat.zero_add]; exact g3 k x hx⟩⟩
theorem lV.sub {h h' : Hp} (hs : Sub h h') {z : Nat} {v : Value} {rs : List (List Value)} (a : lV h z v rs) : lV h' z v rs := by
 rcases a with a | ⟨b, c, t, k, h1, h2, hk, h3⟩
 ·exact .inl a
 ·exact .inr ⟨b, c, t, k, h1, hs _ _ h2, hk, h3⟩
theorem lV.pre {h : Hp} {z : Nat} {v : Value} {rs : List (List Value)} (a : lV h z v rs) {ty el : TypeId} (hu : gL env ty = some (.slice el)) (hz : gT env el = some z) {i : Nat} (hi : i < rs.length) :
  ∃ v', jG env h ty v none (some (.int .i64 (i : Int))) none = some v' ∧ bI.Rows h z v' (rs.take i) := by
 rcases a with ⟨h1, h2⟩ | ⟨b, c, t, k, h1, h2, hk, h3⟩
 ·rw [h2] at hi; simp at hi
 ·subst h1
  have hb : mG none (some (.int .i64 (i : Int))) rs.length rs.length = some (0, i) := by
   unfold mG
   rw [show ((i : Nat) : Int) = Int.ofNat i from rfl]
   simp only [xC, Option.bind_some]
   rw [show Nat.ble i rs.length = true from by rw [Nat.ble_eq]; omega]
   rfl
  have hz0 : Nat.beq rs.length 0 = false := by
   cases hl : rs.length with
   | zero => omega
   | succ n => rfl
  have hr : kG h b = some k := by unfold kG; rw [h2]
  have hrow : ∀ j r, (rs.take i)[j]? = some r → r.length = z ∧ 0 + j * z + z ≤ c.length ∧ ∀ (k : Nat) (x : Value), r[k]? = some x → c[0 + j * z + k]? = some x := by
   intro j r hj
   rw [List.getElem?_take] at hj
   split at hj
   ·obtain ⟨g1, g2, g3⟩ := h3 j r hj
    exact ⟨g1, by omega, fun k x hx => by rw [Nat.zero_add]; exact g3 k x hx⟩
   ·cases hj
  rcases hk with rfl | rfl
  ·refine ⟨.slice (some ⟨b, 0, none⟩) i i, ?_, .inr ⟨b, 0, i, c, t, some z, by rw [List.length_take, Nat.min_eq_left (by omega)], fun _ => h2, ?_⟩⟩
   ·unfold jG
    simp only [hu, Option.bind_some, hz]
    rw [hr]
    simp only [Option.bind_some, Nat.beq_refl, hb, ok?, hz0, cond_false, Nat.sub_zero, Nat.zero_mul]
    rfl
   ·intro j r hj
    obtain ⟨g1, g2, g3⟩ := hrow j r hj
    exact ⟨g1, by omega, fun k x hx => g3 k x hx⟩
  ·refine ⟨.slice (some ⟨b, 0, none⟩) i rs.length, ?_, .inr ⟨b, 0, rs.length, c, t, none, by rw [List.length_take, Nat.min_eq_left (by omega)], fun _ => h2, ?_⟩⟩
   ·unfold jG
    simp only [hu, Option.bind_some, hz]
    rw [hr]
    simp only [Option.bind_some, hb, hz0, cond_false, Nat.sub_zero, Nat.zero_mul]
    rfl
   ·intro j r hj
    obtain ⟨g1, g2, g3⟩ := hrow j r hj
    exact ⟨g1, by omega, fun k x hx => g3 k x hx⟩
theorem aE9 : gL env 23 = some (.slice 59) := by kernel_rfl
theorem PT : gT env 59 = some 3 := by kernel_rfl
theorem PW : gL env 22 = some (.slice 3) := by kernel_rfl
theorem LH : gT env 3 = some 1 := by kernel_rfl
theorem aC9 : gT env 76 = some 2 := by kernel_rfl
theorem l9 {ρ : Type} {z : Nat} {h : Hp} (w : Wf h) (e : TypeId) {c l : List Value} (hc : c.length = z) (hl : l.length = z) (hx : l.all oneCell = true) (k : Value → Hp → Option ρ) :
  ∃ h1 p, aV h h1 ∧ At h1 p l ∧ (∀ (ρ : Type) (k : Value → Hp → Option ρ), (bC h e c fun a h3 => dY z h3 a (.agg (Array.mk l)) fun h4 => k a h4) = k p h1) := by
 refine ⟨(h.add (.cells c e none)).upd h.next (.cells l e none), .pointer (some ⟨h.next, 0, none⟩), aV.upd w (aV.add w _) (Nat.le_refl _) (by rw [kZ]; omega) _, ⟨h.next, 0, l, e, none, rfl, by rw [bL, if_pos rfl], by simp, fun k x hx => by simpa using hx⟩, fun ρ k => ?_⟩
 rw [bT, vY (n := z) (c := c) (by rw [bD, if_pos rfl]) (by rw [FN]; exact w.1) hl hx (by omega), List.drop_of_length_le (by omega)]
 simp
def kT {α : Type} (f : List α → α → Int) (all : List α) : Nat → List α → Int × Int
 | _, [] => (0, 0)
 | i, g :: l => if f (all.take i) g = 0 then kT f all (i + 1) l else ((i : Int), f (all.take i) g)
end Go.Proofs.Ytdpicdnpiihaaaa.K.L
