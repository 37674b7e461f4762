/- Contracts of told functions: rows, slices, names met before. -/
import Derived.Test.YtgomkbcokgeciaaGreatScS1
open Go Go.bR
set_option maxRecDepth 100000
set_option linter.unusedVariables false
namespace Go.Proofs.YtgomkbcokgeciaaGreat.K.L
theorem MN {F : List Value → Hp → bE} {args : List Value} {h : Hp} {v : Value} (e : ∀ h : Hp, ∃ h', F args ⟨h.next, h.next, h.aK⟩ = some (v, h')) (hp : nK v = true) : iN F args h = some (v, h) := by
 obtain ⟨h', e⟩ := e h
 unfold iN
 rw [e, aC, hp]
theorem bF {F : List Value → Hp → bE} {args : List Value} {h h' : Hp} {v : Value} (e : F args ⟨h.next, h.next, h.aK⟩ = some (v, h')) (hp : nK v = true) : iN F args h = some (v, h) := by
 unfold iN
 rw [e, aC, hp]
abbrev eT (h : Hp) : Hp := ⟨h.next, h.next, h.aK⟩
structure Rm where
 nm : ByteArray
 more : Int
 full : Int
def Rm.row (g : Rm) : List Value := [.string g.nm, .int .i64 g.more, .int .i64 g.full]
structure Sc where
 nm : ByteArray
 kids : Int
def Sc.row (g : Sc) : List Value := [.string g.nm, .int .i64 g.kids]
structure Ct where
 seen : Int
 miss : Int
def Ct.row (g : Ct) : List Value := [.int .i64 g.seen, .int .i64 g.miss]
structure Dy where
 sv : Value
 ss : List Sc
 seen : Int
 miss : Int
 cv : Value
 cs : List Ct
 taken : Int
def Dy.row (g : Dy) : List Value := [g.sv, .int .i64 g.seen, .int .i64 g.miss, g.cv, .int .i64 g.taken]
def bVE (n : Int) : List Value := [.int .i64 n]
def jS (a b : ByteArray) : Bool := a.toList == b.toList
def idxFrom {α : Type} (p : α → Bool) : Nat → List α → Int
 | _, [] => -1
 | i, g :: l => if p g then i else idxFrom p (i + 1) l
theorem vS {α : Type} (p : α → Bool) : ∀ (l : List α) (i : Nat), decide (idxFrom p i l < 0) = !(l.any p)
 | [], i => rfl
 | g :: l, i => by
  unfold idxFrom
  rw [List.any_cons]
  cases hp : p g with
  | true => simp
  | false => simp only [Bool.false_or]; exact vS p l (i + 1)
theorem bED {h : Hp} {z : Nat} {v : Value} {rs : List (List Value)} (a : bR.Rows h z v rs) : bR.Rows (eT h) z v rs := a
theorem bPU {h : Hp} {p : Value} {r : List Value} (a : At h p r) : At (eT h) p r := a
theorem aGZ {h : Hp} {p : Value} {x : Rm} (a : At h p x.row) (g : Rm) : aQT [.agg (Array.mk g.row), p] h = some (.bool (jS g.nm x.nm)) := by
 show plainO (YD h (G.aQ (aQU h) 999999) (.agg (Array.mk g.row)) p) = _
 unfold YD
 rw [show Array.toList (Value.cells (.agg (Array.mk g.row))) = g.row from rfl, kZ, mU _ _ 0 (.string g.nm) rfl, a.sF 0 (x := .string x.nm) rfl, FY, aM, aV]
 rfl
theorem EQ {h : Hp} {v p : Value} {x : Rm} {gs : List Rm} (hr : bR.Rows h 3 v (gs.map Rm.row)) (ha : At h p x.row) (hlen : gs.length ≤ 900000) : ∀ m i n, i + m = gs.length → m + 2 ≤ n →
  aQ aCZ n 1 (AL.v v (AL.v (.func (.func 103) #[] #[p]) (AL.i (gs.length : Int) (AL.i (i : Int) AL.n)))) h = some (.int .i64 (idxFrom (fun g => jS g.nm x.nm) i (gs.drop i)), h)
 | 0, i, n + 2, him, hn => by
  show KV (aQ aCZ (n + 1)) v (.func (.func 103) #[] #[p]) (gs.length : Int) (i : Int) h = _
  unfold KV
  rw [aS, aZ, aI, if_neg (by simp; omega), List.drop_of_length_le (by omega)]
  rfl
 | m + 1, i, n + 1, him, hn => by
  have hi : i < gs.length := by omega
  have hg : (gs.map Rm.row)[i]? = some (gs[i]).row := by rw [List.getElem?_map, List.getElem?_eq_getElem hi]; rfl
  obtain ⟨q, hq, haq, hl⟩ := hr.at hg
  show KV (aQ aCZ n) v (.func (.func 103) #[] #[p]) (gs.length : Int) (i : Int) h = _
  unfold KV
  rw [aS, aZ, aI, if_pos (by simp; omega), hq, haq.gG hl]
  rw [show qM aC0 (.func (.func 103) #[] #[p]) [.agg (Array.mk (gs[i]).row)] h = dG (aQT [.agg (Array.mk (gs[i]).row), p] h) (fun v => some (v, h)) from rfl]
  rw [aGZ ha, aM, aC, aV, aI, List.drop_eq_getElem_cons hi]
  unfold idxFrom
  cases hs : jS (gs[i]).nm x.nm with
  | true => rfl
  | false =>
   simp only [Bool.false_eq_true, if_false]
   rw [show Int.add (i : Int) (Int.ofNat 1) = ((i + 1 : Nat) : Int) from rfl, wrap64_in _ (by omega) (by omega)]
   exact EQ hr ha hlen m (i + 1) n (by omega) (by omega)
theorem aC1 {h : Hp} {v p : Value} {x : Rm} {gs : List Rm} (hr : bR.Rows h 3 v (gs.map Rm.row)) (ha : At h p x.row) (hlen : gs.length ≤ 900000) :
  aYB [v, .func (.func 103) #[] #[p]] h = some (.int .i64 (idxFrom (fun g => jS g.nm x.nm) 0 gs), h) := by
 show YE (aQ aCZ 999999) v (.func (.func 103) #[] #[p]) h = _
 unfold YE
 rw [hr.len, List.length_map]
 have := EQ hr ha hlen gs.length 0 999999 (by omega) (by omega)
 rw [List.drop_zero] at this
 exact this
theorem Q6 {h : Hp} {v p : Value} {x : Rm} {gs : List Rm} (hr : bR.Rows h 3 v (gs.map Rm.row)) (ha : At h p x.row) (hlen : gs.length ≤ 900000) :
  aYC [v, .func (.func 103) #[] #[p]] h = some (.bool (gs.any fun g => jS g.nm x.nm), h) := by
 show YF (aQ aQV 999999) v (.func (.func 103) #[] #[p]) h = _
 unfold YF
 rw [bF (aC1 (h := eT h) hr ha hlen) rfl, aC, aJ, aO, aZ, show (Int.ofNat 0) = (0 : Int) from rfl, vS, Bool.not_not]
theorem aG0 {h : Hp} {p : Value} {x : Sc} (a : At h p x.row) (g : Sc) : aQW [.agg (Array.mk g.row), p] h = some (.bool (jS g.nm x.nm)) := by
 show plainO (YG h (G.aQ (aQX h) 999999) (.agg (Array.mk g.row)) p) = _
 unfold YG
 rw [show Array.toList (Value.cells (.agg (Array.mk g.row))) = g.row from rfl, kZ, mU _ _ 0 (.string g.nm) rfl, a.sF 0 (x := .string x.nm) rfl, FY, aM, aV]
 rfl
theorem ER {h : Hp} {v p : Value} {x : Sc} {gs : List Sc} (hr : bR.Rows h 2 v (gs.map Sc.row)) (ha : At h p x.row) (hlen : gs.length ≤ 900000) : ∀ m i n, i + m = gs.length → m + 2 ≤ n →
  aQ aC2 n 1 (AL.v v (AL.v (.func (.func 135) #[] #[p]) (AL.i (gs.length : Int) (AL.i (i : Int) AL.n)))) h = some (.int .i64 (idxFrom (fun g => jS g.nm x.nm) i (gs.drop i)), h)
 | 0, i, n + 2, him, hn => by
  show KW (aQ aC2 (n + 1)) v (.func (.func 135) #[] #[p]) (gs.length : Int) (i : Int) h = _
  unfold KW
  rw [aS, aZ, aI, if_neg (by simp; omega), List.drop_of_length_le (by omega)]
  rfl
 | m + 1, i, n + 1, him, hn => by
  have hi : i < gs.length := by omega
  have hg : (gs.map Sc.row)[i]? = some (gs[i]).row := by rw [List.getElem?_map, List.getElem?_eq_getElem hi]; rfl
  obtain ⟨q, hq, haq, hl⟩ := hr.at hg
  show KW (aQ aC2 n) v (.func (.func 135) #[] #[p]) (gs.length : Int) (i : Int) h = _
  unfold KW
  rw [aS, aZ, aI, if_pos (by simp; omega), hq, haq.gG hl]
  rw [show qM aC3 (.func (.func 135) #[] #[p]) [.agg (Array.mk (gs[i]).row)] h = dG (aQW [.agg (Array.mk (gs[i]).row), p] h) (fun v => some (v, h)) from rfl]
  rw [aG0 ha, aM, aC, aV, aI, List.drop_eq_getElem_cons hi]
  unfold idxFrom
  cases hs : jS (gs[i]).nm x.nm with
  | true => rfl
  | false =>
   simp only [Bool.false_eq_true, if_false]
   rw [show Int.add (i : Int) (Int.ofNat 1) = ((i + 1 : Nat) : Int) from rfl, wrap64_in _ (by omega) (by omega)]
   exact ER hr ha hlen m (i + 1) n (by omega) (by omega)
theorem aC4 {h : Hp} {v p : Value} {x : Sc} {gs : List Sc} (hr : bR.Rows h 2 v (gs.map Sc.row)) (ha : At h p x.row) (hlen : gs.length ≤ 900000) :
  aYD [v, .func (.func 135) #[] #[p]] h = some (.int .i64 (idxFrom (fun g => jS g.nm x.nm) 0 gs), h) := by
 show YH (aQ aC2 999999) v (.func (.func 135) #[] #[p]) h = _
 unfold YH
 rw [hr.len, List.length_map]
 have := ER hr ha hlen gs.length 0 999999 (by omega) (by omega)
 rw [List.drop_zero] at this
 exact this
theorem Q7 {h : Hp} {v p : Value} {x : Sc} {gs : List Sc} (hr : bR.Rows h 2 v (gs.map Sc.row)) (ha : At h p x.row) (hlen : gs.length ≤ 900000) :
  aYE [v, .func (.func 135) #[] #[p]] h = some (.bool (gs.any fun g => jS g.nm x.nm), h) := by
 show YI (aQ aQY 999999) v (.func (.func 135) #[] #[p]) h = _
 unfold YI
 rw [bF (aC4 (h := eT h) hr ha hlen) rfl, aC, aJ, aO, aZ, show (Int.ofNat 0) = (0 : Int) from rfl, vS, Bool.not_not]
theorem bX8 (h : Hp) (a b : Int) : bQ env h 40 2 (List.toArray [(0, (Value.int .i64 a)), (1, (Value.int .i64 b))]) = some (.slice (some ⟨h.next, 0, none⟩) 2 2, h.add (.cells [.int .i64 a, .int .i64 b] 3 none)) := by kernel_rfl
theorem Q8 (h : Hp) (lo hi : Int) (l : List Int) (n : Nat) (hn : l.length = n) (hlen : n ≤ 900000) : F63 [.int .i64 lo, .int .i64 hi, .slice (some ⟨h.next, 0, none⟩) n n] (h.add (.cells (l.map (Value.int .i64)) 3 none)) = some (.bool (l.all (qI lo hi))) := by
 subst hn
 refine VD _ lo hi h.next 0 l.length _ 3 none (BR _ _) l (fun j x hx => ?_) hlen
 rw [Nat.zero_add, List.getElem?_map, hx]; rfl
theorem sI (h : Hp) (lo hi a : Int) : F63 [.int .i64 lo, .int .i64 hi, .slice (some ⟨h.next, 0, none⟩) 1 1] (h.add (.cells [.int .i64 a] 3 none)) = some (.bool (qI lo hi a)) := by
 have := Q8 h lo hi [a] 1 rfl (by omega)
 simpa using this
theorem bK0 (h : Hp) (lo hi a b : Int) : F63 [.int .i64 lo, .int .i64 hi, .slice (some ⟨h.next, 0, none⟩) 2 2] (h.add (.cells [.int .i64 a, .int .i64 b] 3 none)) = some (.bool (qI lo hi a && qI lo hi b)) := by
 have := Q8 h lo hi [a, b] 2 rfl (by omega)
 simpa using this
theorem jG {h : Hp} (w : Wf h) : Wf (eT h) := ⟨Nat.le_refl _, w.2⟩
theorem ET {h : Hp} (w : Wf h) {p : Value} {r : List Value} (a : At h p r) (o : aD) : At (h.add o) p r := a.sub (dW.add w o).sub
theorem iC (l : List Value) : Array.toList (Value.cells (.agg (Array.mk l))) = l := rfl
def uP (h : Hp) (z : Nat) (v : Value) (rs : List (List Value)) : Prop := (v = .slice none 0 0 ∧ rs = []) ∨ ∃ b c t k, v = .slice (some ⟨b, 0, none⟩) rs.length rs.length ∧ h.get b = some (.cells c t k) ∧ (k = some z ∨ k = none) ∧
 ∀ i r, rs[i]? = some r → r.length = z ∧ i * z + z ≤ c.length ∧ ∀ (k : Nat) (x : Value), r[k]? = some x → c[i * z + k]? = some x
theorem uP.of {h : Hp} {z : Nat} {v : Value} {rs : List (List Value)} (a : (v = .slice none 0 0 ∧ rs = []) ∨ ∃ b c t, v = .slice (some ⟨b, 0, none⟩) rs.length rs.length ∧ h.get b = some (.cells c t (some z)) ∧
  ∀ i r, rs[i]? = some r → r.length = z ∧ i * z + z ≤ c.length ∧ ∀ (k : Nat) (x : Value), r[k]? = some x → c[i * z + k]? = some x) : uP h z v rs := by
 rcases a with a | ⟨b, c, t, h1, h2, h3⟩
 ·exact .inl a
 ·exact .inr ⟨b, c, t, some z, h1, h2, .inl rfl, h3⟩
theorem uP.rows {h : Hp} {z : Nat} {v : Value} {rs : List (List Value)} (a : uP h z v rs) : bR.Rows h z v rs := by
 rcases a with ⟨h1, h2⟩ | ⟨b, c, t, k, h1, h2, _, h3⟩
 ·exact .inl ⟨0, by rw [h1, h2]; rfl, h2⟩
 ·exact .inr ⟨b, 0, rs.length, c, t, k, h1, fun _ => h2, fun i r hi => by
   obtain ⟨g1, g2, g3⟩ := h3 i r hi
   exact ⟨g1, by omega, fun k x hx => by rw [Nat.zero_add]; exact g3 k x hx⟩⟩
theorem uP.sub {h h' : Hp} (hs : Sub h h') {z : Nat} {v : Value} {rs : List (List Value)} (a : uP h z v rs) : uP h' z v rs := by
 rcases a with a | ⟨b, c, t, k, h1, h2, hk, h3⟩
 ·exact .inl a
 ·exact .inr ⟨b, c, t, k, h1, hs _ _ h2, hk, h3⟩
theorem uP.pre {h : Hp} {z : Nat} {v : Value} {rs : List (List Value)} (a : uP h z v rs) {ty el : TypeId} (hu : gM env ty = some (.slice el)) (hz : fM env el = some z) {i : Nat} (hi : i < rs.length) :
  ∃ v', qQ env h ty v none (some (.int .i64 (i : Int))) none = some v' ∧ bR.Rows h z v' (rs.take i) := by
 rcases a with ⟨h1, h2⟩ | ⟨b, c, t, k, h1, h2, hk, h3⟩
 ·rw [h2] at hi; simp at hi
 ·subst h1
  have hb : rX none (some (.int .i64 (i : Int))) rs.length rs.length = some (0, i) := by
   unfold rX
   rw [show ((i : Nat) : Int) = Int.ofNat i from rfl]
   simp only [EG, Option.bind_some]
   rw [show Nat.ble i rs.length = true from by rw [Nat.ble_eq]; omega]
   rfl
  have hz0 : Nat.beq rs.length 0 = false := by
   cases hl : rs.length with
   | zero => omega
   | succ n => rfl
  have hr : EE h b = some k := by unfold EE; rw [h2]
  have hrow : ∀ j r, (rs.take i)[j]? = some r → r.length = z ∧ 0 + j * z + z ≤ c.length ∧ ∀ (k : Nat) (x : Value), r[k]? = some x → c[0 + j * z + k]? = some x := by
   intro j r hj
   rw [List.getElem?_take] at hj
   split at hj
   ·obtain ⟨g1, g2, g3⟩ := h3 j r hj
    exact ⟨g1, by omega, fun k x hx => by rw [Nat.zero_add]; exact g3 k x hx⟩
   ·cases hj
  rcases hk with rfl | rfl
  ·refine ⟨.slice (some ⟨b, 0, none⟩) i i, ?_, .inr ⟨b, 0, i, c, t, some z, by rw [List.length_take, Nat.min_eq_left (by omega)], fun _ => h2, ?_⟩⟩
   ·unfold qQ
    simp only [hu, Option.bind_some, hz]
    rw [hr]
    simp only [Option.bind_some, Nat.beq_refl, hb, ok?, hz0, cond_false, Nat.sub_zero, Nat.zero_mul]
    rfl
   ·intro j r hj
    obtain ⟨g1, g2, g3⟩ := hrow j r hj
    exact ⟨g1, by omega, fun k x hx => g3 k x hx⟩
  ·refine ⟨.slice (some ⟨b, 0, none⟩) i rs.length, ?_, .inr ⟨b, 0, rs.length, c, t, none, by rw [List.length_take, Nat.min_eq_left (by omega)], fun _ => h2, ?_⟩⟩
   ·unfold qQ
    simp only [hu, Option.bind_some, hz]
    rw [hr]
    simp only [Option.bind_some, hb, hz0, cond_false, Nat.sub_zero, Nat.zero_mul]
    rfl
   ·intro j r hj
    obtain ⟨g1, g2, g3⟩ := hrow j r hj
    exact ⟨g1, by omega, fun k x hx => g3 k x hx⟩
theorem bEE : gM env 22 = some (.slice 87) := by kernel_rfl
theorem a6N : fM env 87 = some 3 := by kernel_rfl
theorem bEF : gM env 62 = some (.slice 151) := by kernel_rfl
theorem aYF : fM env 151 = some 2 := by kernel_rfl
theorem bVF : gM env 40 = some (.slice 3) := by kernel_rfl
theorem bVG : fM env 3 = some 1 := by kernel_rfl
theorem bEG : gM env 23 = some (.slice 67) := by kernel_rfl
theorem a6O : fM env 67 = some 5 := by kernel_rfl
theorem bVH : gM env 65 = some (.slice 64) := by kernel_rfl
theorem bPV : fM env 64 = some 2 := by kernel_rfl
theorem vT {ρ : Type} {z : Nat} {h : Hp} (w : Wf h) (e : TypeId) {c l : List Value} (hc : c.length = z) (hl : l.length = z) (hx : l.all oneCell = true) (k : Value → Hp → Option ρ) :
  ∃ h1 p, dW h h1 ∧ At h1 p l ∧ (∀ (ρ : Type) (k : Value → Hp → Option ρ), (fH h e c fun a h3 => jM z h3 a (.agg (Array.mk l)) fun h4 => k a h4) = k p h1) := by
 refine ⟨(h.add (.cells c e none)).upd h.next (.cells l e none), .pointer (some ⟨h.next, 0, none⟩), dW.upd w (dW.add w _) (Nat.le_refl _) (by rw [aQD]; omega) _, ⟨h.next, 0, l, e, none, rfl, by rw [qA, if_pos rfl], by simp, fun k x hx => by simpa using hx⟩, fun ρ k => ?_⟩
 rw [dS, MH (n := z) (c := c) (by rw [gT, if_pos rfl]) (by rw [aQE]; exact w.1) hl hx (by omega), List.drop_of_length_le (by omega)]
 simp
def gJ {α : Type} (f : List α → α → Int) (all : List α) : Nat → List α → Int × Int
 | _, [] => (0, 0)
 | i, g :: l => if f (all.take i) g = 0 then gJ f all (i + 1) l else ((i : Int), f (all.take i) g)
end Go.Proofs.YtgomkbcokgeciaaGreat.K.L
