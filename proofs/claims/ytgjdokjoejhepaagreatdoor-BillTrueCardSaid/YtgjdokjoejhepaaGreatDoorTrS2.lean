/- Contracts of told functions: rows, slices, names met before. -/
import Derived.Test.YtgjdokjoejhepaaGreatDoorTrS1
open Go Go.bP
set_option maxRecDepth 100000
set_option linter.unusedVariables false
namespace Go.Proofs.YtgjdokjoejhepaaGreatDoor.K.L
theorem MJ {F : List Value → Hp → aT} {args : List Value} {h : Hp} {v : Value} (e : ∀ h : Hp, ∃ h', F args ⟨h.next, h.next, h.aJ⟩ = some (v, h')) (hp : jS v = true) : dR F args h = some (v, h) := by
 obtain ⟨h', e⟩ := e h
 unfold dR
 rw [e, aD, hp]
theorem bD {F : List Value → Hp → aT} {args : List Value} {h h' : Hp} {v : Value} (e : F args ⟨h.next, h.next, h.aJ⟩ = some (v, h')) (hp : jS v = true) : dR F args h = some (v, h) := by
 unfold dR
 rw [e, aD, hp]
abbrev bK (h : Hp) : Hp := ⟨h.next, h.next, h.aJ⟩
structure Fg where
 nm : ByteArray
 as_ : ByteArray
 room : Int
 hi : Int
def Fg.row (g : Fg) : List Value := [.string g.nm, .string g.as_, .int .i64 g.room, .int .i64 g.hi]
def dH (n : Int) : List Value := [.int .i64 n]
def nD (a b : ByteArray) : Bool := a.toList == b.toList
def idxFrom {α : Type} (p : α → Bool) : Nat → List α → Int
 | _, [] => -1
 | i, g :: l => if p g then i else idxFrom p (i + 1) l
theorem oV {α : Type} (p : α → Bool) : ∀ (l : List α) (i : Nat), decide (idxFrom p i l < 0) = !(l.any p)
 | [], i => rfl
 | g :: l, i => by
  unfold idxFrom
  rw [List.any_cons]
  cases hp : p g with
  | true => simp
  | false => simp only [Bool.false_or]; exact oV p l (i + 1)
theorem oH {h : Hp} {p : Value} {r : List Value} (a : At h p r) : At (bK h) p r := a
theorem aLC {h : Hp} {p : Value} {x : Fg} (a : At h p x.row) (g : Fg) : F96 [.agg (Array.mk g.row), p] h = some (.bool (nD g.nm x.nm)) := by
 show plainO (aGP h (G.aP (T96 h) 999999) (.agg (Array.mk g.row)) p) = _
 unfold aGP
 rw [show Array.toList (Value.cells (.agg (Array.mk g.row))) = g.row from rfl, mP, IE _ _ 0 (.string g.nm) rfl, a.lK 0 (x := .string x.nm) rfl, PY, aM, aO]
 rfl
theorem EF {h : Hp} {v p : Value} {x : Fg} {gs : List Fg} (hr : bP.Rows h 4 v (gs.map Fg.row)) (ha : At h p x.row) (hlen : gs.length ≤ 900000) : ∀ m i n, i + m = gs.length → m + 2 ≤ n →
  aP aBH n 1 (AL.v v (AL.v (.func (.func 96) #[] #[p]) (AL.i (gs.length : Int) (AL.i (i : Int) AL.n)))) h = some (.int .i64 (idxFrom (fun g => nD g.nm x.nm) i (gs.drop i)), h)
 | 0, i, n + 2, him, hn => by
  show J7 (aP aBH (n + 1)) v (.func (.func 96) #[] #[p]) (gs.length : Int) (i : Int) h = _
  unfold J7
  rw [aN, bA, aI, if_neg (by simp; omega), List.drop_of_length_le (by omega)]
  rfl
 | m + 1, i, n + 1, him, hn => by
  have hi : i < gs.length := by omega
  have hg : (gs.map Fg.row)[i]? = some (gs[i]).row := by rw [List.getElem?_map, List.getElem?_eq_getElem hi]; rfl
  obtain ⟨q, hq, haq, hl⟩ := hr.at hg
  show J7 (aP aBH n) v (.func (.func 96) #[] #[p]) (gs.length : Int) (i : Int) h = _
  unfold J7
  rw [aN, bA, aI, if_pos (by simp; omega), hq, haq.fF hl]
  rw [show oO aBG (.func (.func 96) #[] #[p]) [.agg (Array.mk (gs[i]).row)] h = dD (F96 [.agg (Array.mk (gs[i]).row), p] h) (fun v => some (v, h)) from rfl]
  rw [aLC ha, aM, aD, aO, aI, List.drop_eq_getElem_cons hi]
  unfold idxFrom
  cases hs : nD (gs[i]).nm x.nm with
  | true => rfl
  | false =>
   simp only [Bool.false_eq_true, if_false]
   rw [show Int.add (i : Int) (Int.ofNat 1) = ((i + 1 : Nat) : Int) from rfl, wrap64_in _ (by omega) (by omega)]
   exact EF hr ha hlen m (i + 1) n (by omega) (by omega)
theorem aCD {h : Hp} {v p : Value} {x : Fg} {gs : List Fg} (hr : bP.Rows h 4 v (gs.map Fg.row)) (ha : At h p x.row) (hlen : gs.length ≤ 900000) :
  aS1 [v, .func (.func 96) #[] #[p]] h = some (.int .i64 (idxFrom (fun g => nD g.nm x.nm) 0 gs), h) := by
 show X5 (aP aBH 999999) v (.func (.func 96) #[] #[p]) h = _
 unfold X5
 rw [hr.len, List.length_map]
 have := EF hr ha hlen gs.length 0 999999 (by omega) (by omega)
 rw [List.drop_zero] at this
 exact this
theorem SK {h : Hp} {v p : Value} {x : Fg} {gs : List Fg} (hr : bP.Rows h 4 v (gs.map Fg.row)) (ha : At h p x.row) (hlen : gs.length ≤ 900000) :
  F95 [v, .func (.func 96) #[] #[p]] h = some (.bool (gs.any fun g => nD g.nm x.nm), h) := by
 show aGV (aP T95 999999) v (.func (.func 96) #[] #[p]) h = _
 unfold aGV
 rw [bD (aCD (h := bK h) hr ha hlen) rfl, aD, aK, aX, bA, show (Int.ofNat 0) = (0 : Int) from rfl, oV, Bool.not_not]
theorem a1N (h : Hp) (a b : Int) : bJ env h 23 2 (List.toArray [(0, (Value.int .i64 a)), (1, (Value.int .i64 b))]) = some (.slice (some ⟨h.next, 0, none⟩) 2 2, h.add (.cells [.int .i64 a, .int .i64 b] 3 none)) := by kernel_rfl
theorem aFF (h : Hp) (lo hi : Int) (l : List Int) (n : Nat) (hn : l.length = n) (hlen : n ≤ 900000) : F54 [.int .i64 lo, .int .i64 hi, .slice (some ⟨h.next, 0, none⟩) n n] (h.add (.cells (l.map (Value.int .i64)) 3 none)) = some (.bool (l.all (oZ lo hi))) := by
 subst hn
 refine VT _ lo hi h.next 0 l.length _ 3 none (BO _ _) l (fun j x hx => ?_) hlen
 rw [Nat.zero_add, List.getElem?_map, hx]; rfl
theorem NP (h : Hp) (lo hi a : Int) : F54 [.int .i64 lo, .int .i64 hi, .slice (some ⟨h.next, 0, none⟩) 1 1] (h.add (.cells [.int .i64 a] 3 none)) = some (.bool (oZ lo hi a)) := by
 have := aFF h lo hi [a] 1 rfl (by omega)
 simpa using this
theorem fZ {h : Hp} (w : Wf h) : Wf (bK h) := ⟨Nat.le_refl _, w.2⟩
theorem VW {h : Hp} (w : Wf h) {p : Value} {r : List Value} (a : At h p r) (o : aW) : At (h.add o) p r := a.sub (bE.add w o).sub
theorem fQ (l : List Value) : Array.toList (Value.cells (.agg (Array.mk l))) = l := rfl
def CF (h : Hp) (z : Nat) (v : Value) (rs : List (List Value)) : Prop := (v = .slice none 0 0 ∧ rs = []) ∨ ∃ b c t k, v = .slice (some ⟨b, 0, none⟩) rs.length rs.length ∧ h.get b = some (.cells c t k) ∧ (k = some z ∨ k = none) ∧
 ∀ i r, rs[i]? = some r → r.length = z ∧ i * z + z ≤ c.length ∧ ∀ (k : Nat) (x : Value), r[k]? = some x → c[i * z + k]? = some x
theorem CF.of {h : Hp} {z : Nat} {v : Value} {rs : List (List Value)} (a : (v = .slice none 0 0 ∧ rs = []) ∨ ∃ b c t, v = .slice (some ⟨b, 0, none⟩) rs.length rs.length ∧ h.get b = some (.cells c t (some z)) ∧
  ∀ i r, rs[i]? = some r → r.length = z ∧ i * z + z ≤ c.length ∧ ∀ (k : Nat) (x : Value), r[k]? = some x → c[i * z + k]? = some x) : CF h z v rs := by
 rcases a with a | ⟨b, c, t, h1, h2, h3⟩
 ·exact .inl a
 ·exact .inr ⟨b, c, t, some z, h1, h2, .inl rfl, h3⟩
theorem CF.rows {h : Hp} {z : Nat} {v : Value} {rs : List (List Value)} (a : CF h z v rs) : bP.Rows h z v rs := by
 rcases a with ⟨h1, h2⟩ | ⟨b, c, t, k, h1, h2, _, h3⟩
 ·exact .inl ⟨0, by rw [h1, h2]; rfl, h2⟩
 ·exact .inr ⟨b, 0, rs.length, c, t, k, h1, fun _ => h2, fun i r hi => by
   obtain ⟨g1, g2, g3⟩ := h3 i r hi
   exact ⟨g1, by omega, fun k x hx => by rw [Nat.zero_add]; exact g3 k x hx⟩⟩
theorem CF.sub {h h' : Hp} (hs : Sub h h') {z : Nat} {v : Value} {rs : List (List Value)} (a : CF h z v rs) : CF h' z v rs := by
 rcases a with a | ⟨b, c, t, k, h1, h2, hk, h3⟩
 ·exact .inl a
 ·exact .inr ⟨b, c, t, k, h1, hs _ _ h2, hk, h3⟩
theorem CF.pre {h : Hp} {z : Nat} {v : Value} {rs : List (List Value)} (a : CF h z v rs) {ty el : TypeId} (hu : iC env ty = some (.slice el)) (hz : iE env el = some z) {i : Nat} (hi : i < rs.length) :
  ∃ v', o5 env h ty v none (some (.int .i64 (i : Int))) none = some v' ∧ bP.Rows h z v' (rs.take i) := by
 rcases a with ⟨h1, h2⟩ | ⟨b, c, t, k, h1, h2, hk, h3⟩
 ·rw [h2] at hi; simp at hi
 ·subst h1
  have hb : rM none (some (.int .i64 (i : Int))) rs.length rs.length = some (0, i) := by
   unfold rM
   rw [show ((i : Nat) : Int) = Int.ofNat i from rfl]
   simp only [DY, Option.bind_some]
   rw [show Nat.ble i rs.length = true from by rw [Nat.ble_eq]; omega]
   rfl
  have hz0 : Nat.beq rs.length 0 = false := by
   cases hl : rs.length with
   | zero => omega
   | succ n => rfl
  have hr : zA h b = some k := by unfold zA; rw [h2]
  have hrow : ∀ j r, (rs.take i)[j]? = some r → r.length = z ∧ 0 + j * z + z ≤ c.length ∧ ∀ (k : Nat) (x : Value), r[k]? = some x → c[0 + j * z + k]? = some x := by
   intro j r hj
   rw [List.getElem?_take] at hj
   split at hj
   ·obtain ⟨g1, g2, g3⟩ := h3 j r hj
    exact ⟨g1, by omega, fun k x hx => by rw [Nat.zero_add]; exact g3 k x hx⟩
   ·cases hj
  rcases hk with rfl | rfl
  ·refine ⟨.slice (some ⟨b, 0, none⟩) i i, ?_, .inr ⟨b, 0, i, c, t, some z, by rw [List.length_take, Nat.min_eq_left (by omega)], fun _ => h2, ?_⟩⟩
   ·unfold o5
    simp only [hu, Option.bind_some, hz]
    rw [hr]
    simp only [Option.bind_some, Nat.beq_refl, hb, ok?, hz0, cond_false, Nat.sub_zero, Nat.zero_mul]
    rfl
   ·intro j r hj
    obtain ⟨g1, g2, g3⟩ := hrow j r hj
    exact ⟨g1, by omega, fun k x hx => g3 k x hx⟩
  ·refine ⟨.slice (some ⟨b, 0, none⟩) i rs.length, ?_, .inr ⟨b, 0, rs.length, c, t, none, by rw [List.length_take, Nat.min_eq_left (by omega)], fun _ => h2, ?_⟩⟩
   ·unfold o5
    simp only [hu, Option.bind_some, hz]
    rw [hr]
    simp only [Option.bind_some, hb, hz0, cond_false, Nat.sub_zero, Nat.zero_mul]
    rfl
   ·intro j r hj
    obtain ⟨g1, g2, g3⟩ := hrow j r hj
    exact ⟨g1, by omega, fun k x hx => g3 k x hx⟩
theorem bB5 : iC env 22 = some (.slice 76) := by kernel_rfl
theorem a1S : iE env 76 = some 4 := by kernel_rfl
theorem aI1 : iC env 23 = some (.slice 3) := by kernel_rfl
theorem aI2 : iE env 3 = some 1 := by kernel_rfl
theorem MK {ρ : Type} {z : Nat} {h : Hp} (w : Wf h) (e : TypeId) {c l : List Value} (hc : c.length = z) (hl : l.length = z) (hx : l.all oneCell = true) (k : Value → Hp → Option ρ) :
  ∃ h1 p, bE h h1 ∧ At h1 p l ∧ (∀ (ρ : Type) (k : Value → Hp → Option ρ), (dP h e c fun a h3 => iY z h3 a (.agg (Array.mk l)) fun h4 => k a h4) = k p h1) := by
 refine ⟨(h.add (.cells c e none)).upd h.next (.cells l e none), .pointer (some ⟨h.next, 0, none⟩), bE.upd w (bE.add w _) (Nat.le_refl _) (by rw [BK]; omega) _, ⟨h.next, 0, l, e, none, rfl, by rw [dL, if_pos rfl], by simp, fun k x hx => by simpa using hx⟩, fun ρ k => ?_⟩
 rw [bL, qR (n := z) (c := c) (by rw [dM, if_pos rfl]) (by rw [PW]; exact w.1) hl hx (by omega), List.drop_of_length_le (by omega)]
 simp
def jR {α : Type} (f : List α → α → Int) (all : List α) : Nat → List α → Int × Int
 | _, [] => (0, 0)
 | i, g :: l => if f (all.take i) g = 0 then jR f all (i + 1) l else ((i : Int), f (all.take i) g)
end Go.Proofs.YtgjdokjoejhepaaGreatDoor.K.L
