/- Contracts of told functions: shows, names met before, numbers of gowns. -/
import Derived.Test.YtaegcofpbihmhaaS1
open Go Go.Eng
set_option maxRecDepth 100000
namespace Go.Proofs.Ytaegcofpbihmhaa.K.L
theorem callQ_plain {F : List Value → Hp → CRes} {args : List Value} {h : Hp} {v : Value} (e : ∀ h : Hp, ∃ h', F args ⟨h.next, h.next, h.objs⟩ = some (v, h')) (hp : plainK v = true) : callQ F args h = some (v, h) := by
  obtain ⟨h', e⟩ := e h
  unfold callQ
  rw [e, pairK_some', hp]
theorem callQ_plain1 {F : List Value → Hp → CRes} {args : List Value} {h h' : Hp} {v : Value} (e : F args ⟨h.next, h.next, h.objs⟩ = some (v, h')) (hp : plainK v = true) : callQ F args h = some (v, h) := by
  unfold callQ
  rw [e, pairK_some', hp]
abbrev shutH (h : Hp) : Hp := ⟨h.next, h.next, h.objs⟩
structure Gw where
  nm : ByteArray
  looks : Int
  pawn : Bool
  loan : Int
  rate : Int
  fee : Int
  ago : Int
  last : Int
def Gw.row (g : Gw) : List Value := [.string g.nm, .int .i64 g.looks, .bool g.pawn, .int .i64 g.loan, .int .i64 g.rate, .int .i64 g.fee, .int .i64 g.ago, .int .i64 g.last]
def sameNm (a b : ByteArray) : Bool := a.toList == b.toList
theorem closure67 {h : Hp} {p : Value} {x : Gw} (a : At h p x.row) (g : Gw) : F67 [.agg (Array.mk g.row), p] h = some (.bool (sameNm g.nm x.nm)) := by
  show plainO (P67x0 h (G.rec' (T67 h) 999999) (.agg (Array.mk g.row)) p) = _
  unfold P67x0
  try unfold ki
  rw [show Array.toList (Value.cells (.agg (Array.mk g.row))) = g.row from rfl, forceL_eq, nthR_get _ _ 0 (.string g.nm) rfl, a.fld 0 (x := .string x.nm) rfl, eql_string, optK_some', boolK_bool]
  rfl
def idxFrom {α : Type} (p : α → Bool) : Nat → List α → Int
  | _, [] => -1
  | i, g :: l => if p g then i else idxFrom p (i + 1) l
theorem idxFrom_neg {α : Type} (p : α → Bool) : ∀ (l : List α) (i : Nat), decide (idxFrom p i l < 0) = !(l.any p)
  | [], i => rfl
  | g :: l, i => by
    unfold idxFrom
    rw [List.any_cons]
    cases hp : p g with
    | true => simp
    | false => simp only [Bool.false_or]; exact idxFrom_neg p l (i + 1)
theorem index93_loop {h : Hp} {v p : Value} {x : Gw} {gs : List Gw} (hr : Eng.Rows h 8 v (gs.map Gw.row)) (ha : At h p x.row) (hlen : gs.length ≤ 900000) : ∀ m i n, i + m = gs.length → m + 2 ≤ n →
    rec' T93 n 1 (AL.v v (AL.v (.func (.func 67) #[] #[p]) (AL.i (gs.length : Int) (AL.i (i : Int) AL.n)))) h = some (.int .i64 (idxFrom (fun g => sameNm g.nm x.nm) i (gs.drop i)), h)
  | 0, i, n + 2, him, hn => by
    show P93x1 (rec' T93 (n + 1)) v (.func (.func 67) #[] #[p]) (gs.length : Int) (i : Int) h = _
    unfold P93x1
    try unfold ki
    rw [boolZ_eq, ltZ_dec, ifB_if, if_neg (by simp; omega), List.drop_of_length_le (by omega)]
    rfl
  | m + 1, i, n + 1, him, hn => by
    have hi : i < gs.length := by omega
    have hg : (gs.map Gw.row)[i]? = some (gs[i]).row := by rw [List.getElem?_map, List.getElem?_eq_getElem hi]; rfl
    obtain ⟨q, hq, haq, hl⟩ := hr.at hg
    show P93x1 (rec' T93 n) v (.func (.func 67) #[] #[p]) (gs.length : Int) (i : Int) h = _
    unfold P93x1
    try unfold ki
    rw [boolZ_eq, ltZ_dec, ifB_if, if_pos (by simp; omega), hq, haq.loadN hl]
    rw [show callF orc6 (.func (.func 67) #[] #[p]) [.agg (Array.mk (gs[i]).row)] h = optK (F67 [.agg (Array.mk (gs[i]).row), p] h) (fun v => some (v, h)) from rfl]
    rw [closure67 ha, optK_some', pairK_some', boolK_bool, ifB_if, List.drop_eq_getElem_cons hi]
    unfold idxFrom
    cases hs : sameNm (gs[i]).nm x.nm with
    | true => rfl
    | false =>
      simp only [Bool.false_eq_true, if_false]
      rw [show Int.add (i : Int) (Int.ofNat 1) = ((i + 1 : Nat) : Int) from rfl, wrap64_in _ (by omega) (by omega)]
      exact index93_loop hr ha hlen m (i + 1) n (by omega) (by omega)
theorem index93_at {h : Hp} {v p : Value} {x : Gw} {gs : List Gw} (hr : Eng.Rows h 8 v (gs.map Gw.row)) (ha : At h p x.row) (hlen : gs.length ≤ 900000) :
    F93 [v, .func (.func 67) #[] #[p]] h = some (.int .i64 (idxFrom (fun g => sameNm g.nm x.nm) 0 gs), h) := by
  show P93x0 (rec' T93 999999) v (.func (.func 67) #[] #[p]) h = _
  unfold P93x0
  try unfold ki
  rw [hr.len, List.length_map]
  have := index93_loop hr ha hlen gs.length 0 999999 (by omega) (by omega)
  rw [List.drop_zero] at this
  exact this
theorem rowsShut {h : Hp} {z : Nat} {v : Value} {rs : List (List Value)} (a : Eng.Rows h z v rs) : Eng.Rows (shutH h) z v rs := a
theorem atShut {h : Hp} {p : Value} {r : List Value} (a : At h p r) : At (shutH h) p r := a
theorem contains66_at {h : Hp} {v p : Value} {x : Gw} {gs : List Gw} (hr : Eng.Rows h 8 v (gs.map Gw.row)) (ha : At h p x.row) (hlen : gs.length ≤ 900000) :
    F66 [v, .func (.func 67) #[] #[p]] h = some (.bool (gs.any fun g => sameNm g.nm x.nm), h) := by
  show P66x0 (rec' T66 999999) v (.func (.func 67) #[] #[p]) h = _
  unfold P66x0
  try unfold ki
  rw [callQ_plain1 (index93_at (h := shutH h) hr ha hlen) rfl, pairK_some', intK_int, boolN_eq, ltZ_dec, show (Int.ofNat 0) = (0 : Int) from rfl, idxFrom_neg, Bool.not_not]
theorem two34 (h : Hp) (a b : Int) : buildSliceV env h 34 2 (List.toArray [(0, (Value.int .i64 a)), (1, (Value.int .i64 b))]) = some (.slice (some ⟨h.next, 0, none⟩) 2 2, h.add (.cells [.int .i64 a, .int .i64 b] 3 none)) := by kernel_rfl
theorem five34 (h : Hp) (a b c d e : Int) : buildSliceV env h 34 5 (List.toArray [(0, (Value.int .i64 a)), (1, (Value.int .i64 b)), (2, (Value.int .i64 c)), (3, (Value.int .i64 d)), (4, (Value.int .i64 e))]) = some (.slice (some ⟨h.next, 0, none⟩) 5 5, h.add (.cells [.int .i64 a, .int .i64 b, .int .i64 c, .int .i64 d, .int .i64 e] 3 none)) := by kernel_rfl
theorem within_new (h : Hp) (lo hi : Int) (l : List Int) (n : Nat) (hn : l.length = n) (hlen : n ≤ 900000) : F33 [.int .i64 lo, .int .i64 hi, .slice (some ⟨h.next, 0, none⟩) n n] (h.add (.cells (l.map (Value.int .i64)) 3 none)) = some (.bool (l.all (inB lo hi))) := by
  subst hn
  refine within_at _ lo hi h.next 0 l.length _ 3 none (add_get_new _ _) l (fun j x hx => ?_) hlen
  rw [Nat.zero_add, List.getElem?_map, hx]; rfl
theorem within1 (h : Hp) (lo hi a : Int) : F33 [.int .i64 lo, .int .i64 hi, .slice (some ⟨h.next, 0, none⟩) 1 1] (h.add (.cells [.int .i64 a] 3 none)) = some (.bool (inB lo hi a)) := by
  have := within_new h lo hi [a] 1 rfl (by omega)
  simpa using this
theorem within2 (h : Hp) (lo hi a b : Int) : F33 [.int .i64 lo, .int .i64 hi, .slice (some ⟨h.next, 0, none⟩) 2 2] (h.add (.cells [.int .i64 a, .int .i64 b] 3 none)) = some (.bool (inB lo hi a && inB lo hi b)) := by
  have := within_new h lo hi [a, b] 2 rfl (by omega)
  simpa using this
theorem within5 (h : Hp) (lo hi a b c d e : Int) : F33 [.int .i64 lo, .int .i64 hi, .slice (some ⟨h.next, 0, none⟩) 5 5] (h.add (.cells [.int .i64 a, .int .i64 b, .int .i64 c, .int .i64 d, .int .i64 e] 3 none)) = some (.bool (inB lo hi a && (inB lo hi b && (inB lo hi c && (inB lo hi d && inB lo hi e))))) := by
  have := within_new h lo hi [a, b, c, d, e] 5 rfl (by omega)
  simpa using this
def statedB (g : Gw) : Bool := if g.pawn then inB 0 5000 g.loan && (inB 0 500 g.rate && (inB 0 100 g.fee && (inB 0 364 g.ago && inB 0 364 g.last)))
  else inB 0 0 g.loan && (inB 0 0 g.rate && (inB 0 0 g.fee && (inB 0 0 g.ago && inB 0 0 g.last)))
end Go.Proofs.Ytaegcofpbihmhaa.K.L
