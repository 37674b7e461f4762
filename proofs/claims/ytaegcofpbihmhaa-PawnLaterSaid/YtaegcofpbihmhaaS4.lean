/- Contracts of told functions: the first thing with an error; gowns. -/
import Derived.Test.YtaegcofpbihmhaaS3
open Go Go.Eng
set_option maxRecDepth 100000
set_option linter.unusedVariables false
namespace Go.Proofs.Ytaegcofpbihmhaa.K.L
def gownE (prev : List Gw) (g : Gw) : Int :=
  if !(nameB g.nm.data.toList) then 6 else if prev.any (fun x => sameNm x.nm g.nm) then 5 else if !(inB 0 15 g.looks) then 7 else if !(statedB g) then 7 else 0
theorem gown30_at {h : Hp} (w : Wf h) {v : Value} {prev : List Gw} (hr : Eng.Rows h 8 v (prev.map Gw.row)) (hlen : prev.length ≤ 900000) (g : Gw) : ∃ h', F30 [v, .agg (Array.mk g.row)] h = some (.int .i64 (gownE prev g), h') := by
  have start : F30 [v, .agg (Array.mk g.row)] h = P30x0 (rec' T30 999999) v (.agg (Array.mk g.row)) h := rfl
  rw [start]
  unfold P30x0
  try unfold ki
  rw [rowCells, allocK_add]
  have w1 : Wf (h.add (.cells g.row 54 none)) := w.add _
  have a1 : At (h.add (.cells g.row 54 none)) (.pointer (some ⟨h.next, 0, none⟩)) g.row := At.new
  have r1 := hr.sub (Grew.add w (.cells g.row 54 none)).sub
  generalize h.add (.cells g.row 54 none) = h1 at w1 a1 r1 ⊢
  generalize Value.pointer (some ⟨h.next, 0, none⟩) = p at a1 ⊢
  rw [a1.fld 0 (x := .string g.nm) rfl, callQ_plain (fun h => name_at g.nm (shutH h)) rfl, pairK_some', boolK_bool, boolN_eq, ifB_if]
  unfold gownE
  cases hn : nameB g.nm.data.toList with
  | false => rw [if_pos (by rfl), if_pos (by rfl)]; exact ⟨_, rfl⟩
  | true =>
  rw [if_neg (by simp), if_neg (by simp), show (Value.func (.func 67) (List.toArray []) (List.toArray [p])) = .func (.func 67) #[] #[p] from rfl, callQ_plain1 (contains66_at (h := shutH h1) r1 a1 hlen) rfl, pairK_some', boolK_bool, ifB_if]
  cases hc : prev.any (fun x => sameNm x.nm g.nm) with
  | true => rw [if_pos (by rfl), if_pos (by rfl)]; exact ⟨_, rfl⟩
  | false =>
  have a2 := atAdd w1 a1 (.cells [.int .i64 g.looks] 3 none)
  have w2 := w1.add (.cells [.int .i64 g.looks] 3 none)
  rw [if_neg (by simp), if_neg (by simp), a1.fld 1 (x := .int .i64 g.looks) rfl, intK_int, one34, pairK_some', show (Int.ofNat 0) = (0 : Int) from rfl, show (Int.ofNat 15) = (15 : Int) from rfl, within1, optK_some', pairK_some', boolK_bool, boolN_eq, ifB_if]
  generalize h1.add (.cells [.int .i64 g.looks] 3 none) = h2 at a2 w2 ⊢
  cases hl : inB 0 15 g.looks with
  | false => rw [if_pos (by rfl), if_pos (by rfl)]; exact ⟨_, rfl⟩
  | true =>
  rw [if_neg (by simp), if_neg (by simp), a2.loadN (z := 8) rfl, callQ_plain1 (pawned68_at (wfShut w2) g).choose_spec rfl, pairK_some', boolK_bool, boolN_eq, ifB_if]
  cases hs : statedB g with
  | false => rw [if_pos (by rfl), if_pos (by rfl)]; exact ⟨_, rfl⟩
  | true => rw [if_neg (by simp), if_neg (by simp)]; exact ⟨_, rfl⟩
def SlA (h : Hp) (z : Nat) (v : Value) (rs : List (List Value)) : Prop := (v = .slice none 0 0 ∧ rs = []) ∨ ∃ b c t, v = .slice (some ⟨b, 0, none⟩) rs.length rs.length ∧ h.get b = some (.cells c t (some z)) ∧
  ∀ i r, rs[i]? = some r → r.length = z ∧ i * z + z ≤ c.length ∧ ∀ (k : Nat) (x : Value), r[k]? = some x → c[i * z + k]? = some x
theorem SlA.rows {h : Hp} {z : Nat} {v : Value} {rs : List (List Value)} (a : SlA h z v rs) : Eng.Rows h z v rs := by
  rcases a with ⟨h1, h2⟩ | ⟨b, c, t, h1, h2, h3⟩
  · exact .inl ⟨0, by rw [h1, h2]; rfl, h2⟩
  · exact .inr ⟨b, 0, rs.length, c, t, some z, h1, fun _ => h2, fun i r hi => by
      obtain ⟨g1, g2, g3⟩ := h3 i r hi
      exact ⟨g1, by omega, fun k x hx => by rw [Nat.zero_add]; exact g3 k x hx⟩⟩
theorem SlA.sub {h h' : Hp} (hs : Sub h h') {z : Nat} {v : Value} {rs : List (List Value)} (a : SlA h z v rs) : SlA h' z v rs := by
  rcases a with a | ⟨b, c, t, h1, h2, h3⟩
  · exact .inl a
  · exact .inr ⟨b, c, t, h1, hs _ _ h2, h3⟩
theorem SlA.pre {h : Hp} {z : Nat} {v : Value} {rs : List (List Value)} (a : SlA h z v rs) {ty el : TypeId} (hu : undP env ty = some (.slice el)) (hz : sizeP env el = some z) {i : Nat} (hi : i < rs.length) :
    ∃ v', sliceV env h ty v none (some (.int .i64 (i : Int))) none = some v' ∧ Eng.Rows h z v' (rs.take i) := by
  rcases a with ⟨h1, h2⟩ | ⟨b, c, t, h1, h2, h3⟩
  · rw [h2] at hi; simp at hi
  · subst h1
    refine ⟨.slice (some ⟨b, 0, none⟩) i i, ?_, .inr ⟨b, 0, i, c, t, some z, by rw [List.length_take, Nat.min_eq_left (by omega)], fun _ => h2, ?_⟩⟩
    · unfold sliceV
      simp only [hu, Option.bind_some, hz]
      have hr : rowEs h b = some (some z) := by unfold rowEs; rw [h2]
      rw [hr]
      have hb : boundsV none (some (.int .i64 (i : Int))) rs.length rs.length = some (0, i) := by
        unfold boundsV
        rw [show ((i : Nat) : Int) = Int.ofNat i from rfl]
        simp only [natOf, Option.bind_some]
        rw [show Nat.ble i rs.length = true from by rw [Nat.ble_eq]; omega]
        rfl
      have hz : Nat.beq rs.length 0 = false := by
        cases hl : rs.length with
        | zero => omega
        | succ n => rfl
      simp only [Option.bind_some, Nat.beq_refl, hb, ok?, hz, cond_false, Nat.sub_zero, Nat.zero_mul]
      rfl
    · intro j r hj
      rw [List.getElem?_take] at hj
      split at hj
      · obtain ⟨g1, g2, g3⟩ := h3 j r hj
        exact ⟨g1, by omega, fun k x hx => by rw [Nat.zero_add]; exact g3 k x hx⟩
      · cases hj
theorem und22 : undP env 22 = some (.slice 54) := by kernel_rfl
theorem size54 : sizeP env 54 = some 8 := by kernel_rfl
theorem und23 : undP env 23 = some (.slice 63) := by kernel_rfl
theorem size63 : sizeP env 63 = some 4 := by kernel_rfl
theorem und24 : undP env 24 = some (.slice 57) := by kernel_rfl
theorem size57 : sizeP env 57 = some 2 := by kernel_rfl
theorem alloc_store {ρ : Type} {z : Nat} {h : Hp} (w : Wf h) (e : TypeId) {c l : List Value} (hc : c.length = z) (hl : l.length = z) (hx : l.all oneCell = true) (k : Value → Hp → Option ρ) :
    ∃ h1 p, Grew h h1 ∧ At h1 p l ∧ (∀ (ρ : Type) (k : Value → Hp → Option ρ), (allocK h e c fun a h3 => storeNK z h3 a (.agg (Array.mk l)) fun h4 => k a h4) = k p h1) := by
  refine ⟨(h.add (.cells c e none)).upd h.next (.cells l e none), .pointer (some ⟨h.next, 0, none⟩), Grew.upd w (Grew.add w _) (Nat.le_refl _) (by rw [add_next]; omega) _, ⟨h.next, 0, l, e, none, rfl, by rw [get_upd, if_pos rfl], by simp, fun k x hx => by simpa using hx⟩, fun ρ k => ?_⟩
  rw [allocK_add, storeNK_ptr (n := z) (c := c) (by rw [get_add, if_pos rfl]) (by rw [add_ro]; exact w.1) hl hx (by omega), List.drop_of_length_le (by omega)]
  simp
def firstE {α : Type} (f : List α → α → Int) (all : List α) : Nat → List α → Int × Int
  | _, [] => (0, 0)
  | i, g :: l => if f (all.take i) g = 0 then firstE f all (i + 1) l else ((i : Int), f (all.take i) g)
theorem first29_loop {v : Value} {gs : List Gw} (hlen : gs.length ≤ 900000) : ∀ m i n (h : Hp), Wf h → SlA h 8 v (gs.map Gw.row) → i + m = gs.length → m + 2 ≤ n →
    ∃ h', rec' T29 n 1 (AL.v v (AL.v (.func (.func 30) #[] #[]) (AL.v v (AL.i (gs.length : Int) (AL.i (i : Int) AL.n))))) h = some (.tuple (List.toArray [.int .i64 (firstE gownE gs i (gs.drop i)).1, .int .i64 (firstE gownE gs i (gs.drop i)).2]), h')
  | 0, i, n + 2, h, w, hr, him, hn => by
    show ∃ h', P29x1 (rec' T29 (n + 1)) v (.func (.func 30) #[] #[]) v (gs.length : Int) (i : Int) h = _
    unfold P29x1
    try unfold ki
    rw [boolZ_eq, ltZ_dec, ifB_if, if_neg (by simp; omega), List.drop_of_length_le (by omega)]
    exact ⟨h, rfl⟩
  | m + 1, i, n + 1, h, w, hr, him, hn => by
    have hi : i < gs.length := by omega
    have hg : (gs.map Gw.row)[i]? = some (gs[i]).row := by rw [List.getElem?_map, List.getElem?_eq_getElem hi]; rfl
    obtain ⟨q, hq, haq, hl⟩ := hr.rows.at hg
    show ∃ h', P29x1 (rec' T29 n) v (.func (.func 30) #[] #[]) v (gs.length : Int) (i : Int) h = _
    unfold P29x1
    try unfold ki
    rw [boolZ_eq, ltZ_dec, ifB_if, if_pos (by simp; omega), hq, haq.loadN hl]
    obtain ⟨h1, p, g1, a1, hk⟩ := alloc_store (ρ := Value × Hp) (z := 8) w 54 (c := [(Value.string (ByteArray.mk #[])), (Value.int .i64 (Int.ofNat 0)), (Value.bool false), (Value.int .i64 (Int.ofNat 0)), (Value.int .i64 (Int.ofNat 0)), (Value.int .i64 (Int.ofNat 0)), (Value.int .i64 (Int.ofNat 0)), (Value.int .i64 (Int.ofNat 0))]) (l := (gs[i]).row) rfl rfl rfl (fun _ _ => none)
    rw [hk]
    have r1 := hr.sub g1.sub
    obtain ⟨v', hv', hp⟩ := r1.pre und22 size54 (i := i) (by simpa using hi)
    rw [hv', optK_some', a1.loadN (z := 8) rfl]
    rw [← List.map_take] at hp
    obtain ⟨h2, he⟩ := gown30_at (h := shutH h1) (wfShut g1.wf) (v := v') (prev := gs.take i) hp (by rw [List.length_take]; omega) (gs[i])
    rw [show callF orc15 (.func (.func 30) #[] #[]) [v', .agg (Array.mk (gs[i]).row)] h1 = callQ F30 [v', .agg (Array.mk (gs[i]).row)] h1 from rfl, callQ_plain1 he rfl, pairK_some', intK_int, boolN_eq, eqZ_dec, ifB_if, List.drop_eq_getElem_cons hi]
    unfold firstE
    by_cases e0 : gownE (gs.take i) (gs[i]) = 0
    · rw [if_neg (by rw [e0]; simp), if_pos e0, show Int.add (i : Int) (Int.ofNat 1) = ((i + 1 : Nat) : Int) from rfl, wrap64_in _ (by omega) (by omega)]
      exact first29_loop hlen m (i + 1) n h1 g1.wf r1 (by omega) (by omega)
    · rw [if_pos (by simpa using e0), if_neg e0]
      exact ⟨h1, rfl⟩
theorem first29_at {v : Value} {gs : List Gw} (hlen : gs.length ≤ 900000) {h : Hp} (w : Wf h) (hr : SlA h 8 v (gs.map Gw.row)) :
    ∃ h', F29 [v, .func (.func 30) #[] #[]] h = some (.tuple (List.toArray [.int .i64 (firstE gownE gs 0 gs).1, .int .i64 (firstE gownE gs 0 gs).2]), h') := by
  show ∃ h', P29x0 (rec' T29 999999) v (.func (.func 30) #[] #[]) h = _
  unfold P29x0
  try unfold ki
  rw [hr.rows.len, List.length_map]
  exact first29_loop hlen gs.length 0 999999 h w hr (by omega) (by omega)
end Go.Proofs.Ytaegcofpbihmhaa.K.L
