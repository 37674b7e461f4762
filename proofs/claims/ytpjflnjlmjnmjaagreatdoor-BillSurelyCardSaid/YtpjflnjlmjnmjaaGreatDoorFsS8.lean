/- Contracts of told functions: lists of numbers that grow; what a show with fewer truths is. -/
import Derived.Test.YtpjflnjlmjnmjaaGreatDoorFsS7
open Go Go.Eng
set_option maxRecDepth 100000
set_option linter.unusedVariables false
namespace Go.Proofs.YtpjflnjlmjnmjaaGreatDoor.K.L
theorem zero3 : (zeroP env 3).map (fun z => Nat.beq z.cells.size 1) = some true := by kernel_rfl
theorem bytes3 : (env.ty.get 3).map (fun ti => ti.info.bytes) = some 8 := by kernel_rfl
def InA (hb h : Hp) (v : Value) (ns : List Int) : Prop := (v = .slice none 0 0 ∧ ns = []) ∨ ∃ b, v = .slice (some ⟨b, 0, none⟩) ns.length ns.length ∧ hb.next ≤ b ∧ h.get b = some (.cells (ns.map (Value.int .i64)) 3 (some 1))
theorem InA.rows {hb h : Hp} {v : Value} {ns : List Int} (a : InA hb h v ns) : Eng.Rows h 1 v (ns.map inRow) := by
  rcases a with ⟨rfl, rfl⟩ | ⟨b, rfl, _, h2⟩
  · exact .inl ⟨0, rfl, rfl⟩
  · refine .inr ⟨b, 0, ns.length, _, 3, some 1, by rw [List.length_map], fun _ => h2, fun i r hi => ?_⟩
    rw [List.getElem?_map] at hi
    cases hx : ns[i]? with
    | none => rw [hx] at hi; cases hi
    | some x =>
      rw [hx] at hi
      cases hi
      have := (List.getElem?_eq_some_iff.1 hx).1
      refine ⟨rfl, by simp; omega, fun k y hy => ?_⟩
      cases k with
      | zero =>
        have hy : Value.int .i64 x = y := by simpa [inRow] using hy
        subst hy
        rw [Nat.zero_add, Nat.mul_one, Nat.add_zero, List.getElem?_map, hx]; rfl
      | succ k => simp [inRow] at hy
theorem append_in {hb h : Hp} (w : Wf hb) (g : Grew hb h) {v : Value} {ns : List Int} (a : InA hb h v ns) (hlen : ns.length ≤ 100) (s : Int) :
    ∃ v' h', appendV env (h.add (.cells [.int .i64 s] 3 none)) #[23, 23] (List.toArray [v, .slice (some ⟨h.next, 0, none⟩) 1 1]) = some (v', h') ∧ Grew hb h' ∧ InA hb h' v' (ns ++ [s]) := by
  have g1 : Grew hb (h.add (.cells [.int .i64 s] 3 none)) := g.trans (Grew.add g.wf _)
  have hx : (h.add (.cells [.int .i64 s] 3 none)).get h.next = some (.cells [.int .i64 s] 3 none) := by rw [get_add, if_pos rfl]
  obtain ⟨ti, hti⟩ : ∃ ti, env.ty.get 3 = some ti := by
    cases e : env.ty.get 3 with
    | none => have := bytes3; rw [e] at this; cases this
    | some ti => exact ⟨ti, rfl⟩
  have hb3 : ti.info.bytes = 8 := by have := bytes3; rw [hti] at this; simpa using this
  obtain ⟨z, hz⟩ : ∃ z, zeroP env 3 = some z := by
    cases e : zeroP env 3 with
    | none => have := zero3; rw [e] at this; cases this
    | some z => exact ⟨z, rfl⟩
  have hzs : Nat.beq z.cells.size 1 = true := by have := zero3; rw [hz] at this; simpa using this
  have hsrc : srcV (h.add (.cells [.int .i64 s] 3 none)) 1 1 (.slice (some ⟨h.next, 0, none⟩) 1 1) = some [.int .i64 s] := by
    show cellsN _ ⟨h.next, 0, none⟩ (1 * 1) = _
    exact cellsN_row hx rfl
  unfold appendV
  rw [show (#[23, 23] : Array TypeId)[0]? = some 23 from rfl, show (#[23, 23] : Array TypeId)[1]? = some 23 from rfl, show (List.toArray [v, .slice (some ⟨h.next, 0, none⟩) 1 1])[0]? = some v from rfl, show (List.toArray [v, .slice (some ⟨h.next, 0, none⟩) 1 1])[1]? = some (.slice (some ⟨h.next, 0, none⟩) 1 1) from rfl]
  simp only [Option.bind_some, und23, size3, hti, hz, lenV, hb3]
  rw [show (Nat.blt 0 1 && Nat.blt 0 8 && Nat.ble 8 65536 && Nat.beq z.cells.size 1) = true from by rw [hzs]; rfl]
  simp only [ok?]
  rcases a with ⟨rfl, rfl⟩ | ⟨b, rfl, hle, hg⟩
  · refine ⟨.slice (some ⟨h.next + 1, 0, none⟩) 1 1, (h.add (.cells [.int .i64 s] 3 none)).add (.cells [.int .i64 s] 3 (some 1)), ?_, g1.trans (Grew.add g1.wf _), .inr ⟨h.next + 1, rfl, by have := g.next; omega, by rw [get_add, if_pos (show h.next + 1 = (h.add (.cells [.int .i64 s] 3 none)).next from rfl)]; rfl⟩⟩
    simp only [hsrc, Option.bind_some]
    rfl
  · have hlt : b < h.next := g.wf.2 b _ hg
    have hg1 : (h.add (.cells [.int .i64 s] 3 none)).get b = some (.cells (ns.map (Value.int .i64)) 3 (some 1)) := by rw [get_add, if_neg (by omega)]; exact hg
    have hre : rowEs (h.add (.cells [.int .i64 s] 3 none)) b = some (some 1) := by unfold rowEs; rw [hg1]
    have hold : cellsN (h.add (.cells [.int .i64 s] 3 none)) ⟨b, 0, none⟩ (ns.length * 1) = some (ns.map (Value.int .i64)) := cellsN_row hg1 (by simp)
    have hro : Nat.ble (h.add (.cells [.int .i64 s] 3 none)).ro b = true := by
      rw [Nat.ble_eq, add_ro, g.ro]
      have := w.1
      omega
    have gd := Grew.del w g1 hle
    refine ⟨.slice (some ⟨h.next + 1, 0, none⟩) (ns.length + 1) (ns.length + 1), ((h.add (.cells [.int .i64 s] 3 none)).del b).add (.cells (ns.map (Value.int .i64) ++ [.int .i64 s]) 3 (some 1)), ?_, gd.trans (Grew.add gd.wf _), .inr ⟨h.next + 1, by simp, by have := g.next; omega, ?_⟩⟩
    · simp only [hre, Option.bind_some, hg1, hold, hsrc, hro, Nat.beq_refl]
      rw [show Nat.ble ((ns.length + 1) * 8) 1099511627776 = true from by rw [Nat.ble_eq]; omega]
      rfl
    · rw [get_add, if_pos (show h.next + 1 = ((h.add (.cells [.int .i64 s] 3 none)).del b).next from rfl)]; simp
theorem addAll_blocks (h : Hp) : ∀ (n a : Nat) (t : T AObj) (i : Nat), (addAll (blocksV h a n) t).get i = if a ≤ i ∧ i < a + n then (match h.get i with | some o => some o | none => t.get i) else t.get i
  | 0, a, t, i => by
    rw [if_neg (by omega)]; rfl
  | n + 1, a, t, i => by
    unfold blocksV
    cases hg : h.get a with
    | some o =>
      show (addAll (blocksV h (a + 1) n) (t.put a (some o))).get i = _
      rw [addAll_blocks h n (a + 1), T.get_put]
      by_cases ha : i = a
      · subst ha
        rw [if_neg (by omega), if_pos rfl, if_pos (by omega), hg]
      · rw [if_neg ha]
        by_cases hi : a + 1 ≤ i ∧ i < a + 1 + n
        · rw [if_pos hi, if_pos (by omega)]
        · rw [if_neg hi, if_neg (by omega)]
    | none =>
      show (addAll (blocksV h (a + 1) n) t).get i = _
      rw [addAll_blocks h n (a + 1)]
      by_cases ha : i = a
      · subst ha
        rw [if_neg (by omega), if_pos (by omega), hg]
      · by_cases hi : a + 1 ≤ i ∧ i < a + 1 + n
        · rw [if_pos hi, if_pos (by omega)]
        · rw [if_neg hi, if_neg (by omega)]
theorem laid {h h2 : Hp} (w : Wf h) (w2 : Wf h2) (hn : h.next ≤ h2.next) : Grew h (Hp.mk h2.next h.ro (addAll (blocksV h2 h.next (Nat.sub h2.next h.next)) h.objs)) ∧
    (∀ i o, h.next ≤ i → h2.get i = some o → (Hp.mk h2.next h.ro (addAll (blocksV h2 h.next (Nat.sub h2.next h.next)) h.objs)).get i = some o) := by
  have hw := w.1
  have key : ∀ i, (Hp.mk h2.next h.ro (addAll (blocksV h2 h.next (Nat.sub h2.next h.next)) h.objs)).get i = if h.next ≤ i ∧ i < h2.next then (match h2.get i with | some o => some o | none => h.get i) else h.get i := by
    intro i
    show (addAll (blocksV h2 h.next (h2.next - h.next)) h.objs).get i = _
    rw [addAll_blocks, show h.next + (h2.next - h.next) = h2.next by omega]
    rfl
  refine ⟨⟨⟨by show h.ro ≤ h2.next; omega, fun i o hi => ?_⟩, fun i o hi => ?_, hn, rfl⟩, fun i o hi hg => ?_⟩
  · show i < h2.next
    rw [key] at hi
    by_cases c : h.next ≤ i ∧ i < h2.next
    · exact c.2
    · rw [if_neg c] at hi
      have := w.2 i o hi; omega
  · have := w.2 i o hi
    rw [key, if_neg (by omega)]; exact hi
  · have := w2.2 i o hg
    rw [key, if_pos ⟨hi, this⟩, hg]
theorem leftK_same (v : Value) (n : Nat) (o : T AObj) (k : List (Nat × AObj) → Nat → CRes) : leftK v n (Hp.mk n n o) k = k [] n := by
  unfold leftK
  rw [ifB_if]
  by_cases hp : plainK v = true
  · rw [if_pos hp]
  · rw [if_neg hp, show Nat.ble n (Hp.mk n n o).next = true from by rw [Nat.ble_eq]; exact Nat.le_refl _, ifB_if, if_pos rfl, show Nat.sub (Hp.mk n n o).next n = 0 from Nat.sub_self n]
    rfl
theorem leftK_new (n : Nat) (o : T AObj) (x : AObj) (k : List (Nat × AObj) → Nat → CRes) : leftK (.pointer (some ⟨n, 0, none⟩)) n ((Hp.mk n n o).add x) k = k [(n, x)] (n + 1) := by
  unfold leftK
  rw [show plainK (.pointer (some ⟨n, 0, none⟩)) = false from rfl, ifB_if, if_neg (by simp), show ((Hp.mk n n o).add x).next = n + 1 from rfl, show Nat.ble n (n + 1) = true from by rw [Nat.ble_eq]; omega, ifB_if, if_pos rfl, show Nat.sub (n + 1) n = 1 from by show n + 1 - n = 1; omega]
  have hg : ((Hp.mk n n o).add x).get n = some x := by rw [get_add, if_pos rfl]
  show k (match ((Hp.mk n n o).add x).get n with | some o' => (n, o') :: [] | none => []) (n + 1) = _
  rw [hg]
theorem kept {h : Hp} (w : Wf h) {F : List Value → Hp → CRes} {args : List Value} {h1 : Hp} {l : List Value} (e : F args (shutH h) = some (.agg (Array.mk l), h1)) (hp : plainK (.agg (Array.mk l)) = false) (g : Grew (shutH h) h1) :
    ∃ H W, Grew h H ∧ (∀ i o, h.next ≤ i → h1.get i = some o → H.get i = some o) ∧ addAll W h.objs = H.objs ∧
    ∀ k : Value → List (Nat × AObj) → Nat → CRes, (pairK (callQ F args (Hp.mk h.next h.next h.objs)) fun v h12 => leftK v h.next h12 fun w n => k v w n) = k (.agg (Array.mk l)) W H.next := by
  have hn : h.next ≤ h1.next := g.next
  obtain ⟨lg, ls⟩ := laid w g.wf hn
  refine ⟨_, blocksV h1 h.next (Nat.sub h1.next h.next), lg, ls, rfl, fun k => ?_⟩
  unfold callQ
  rw [show (⟨(Hp.mk h.next h.next h.objs).next, (Hp.mk h.next h.next h.objs).next, (Hp.mk h.next h.next h.objs).objs⟩ : Hp) = shutH h from rfl, e, pairK_some', hp]
  show (leftK (.agg (Array.mk l)) h.next (Hp.mk h1.next h.next h1.objs) fun w n => k (.agg (Array.mk l)) w n) = _
  unfold leftK
  rw [hp]
  show ifB (Nat.ble h.next h1.next) _ none = _
  rw [show Nat.ble h.next h1.next = true from by rw [Nat.ble_eq]; exact hn]
  have bl : ∀ n a, blocksV (Hp.mk h1.next h.next h1.objs) a n = blocksV h1 a n := by
    intro n
    induction n with
    | zero => intro a; rfl
    | succ n ih => intro a; unfold blocksV; rw [show (Hp.mk h1.next h.next h1.objs).get a = h1.get a from rfl, ih]
  show k _ (blocksV (Hp.mk h1.next h.next h1.objs) h.next (Nat.sub h1.next h.next)) h1.next = _
  rw [bl]
theorem InA.sl {hb h : Hp} {v : Value} {ns : List Int} (a : InA hb h v ns) : SlA h 1 v (ns.map inRow) := by
  rcases a with ⟨rfl, rfl⟩ | ⟨b, rfl, _, h2⟩
  · exact .inl ⟨rfl, rfl⟩
  · refine .inr ⟨b, _, 3, some 1, by rw [List.length_map], h2, .inl rfl, fun i r hi => ?_⟩
    rw [List.getElem?_map] at hi
    cases hx : ns[i]? with
    | none => rw [hx] at hi; cases hi
    | some x =>
      rw [hx] at hi
      cases hi
      have := (List.getElem?_eq_some_iff.1 hx).1
      refine ⟨rfl, by simp; omega, fun k y hy => ?_⟩
      cases k with
      | zero =>
        have hy : Value.int .i64 x = y := by simpa [inRow] using hy
        subst hy
        rw [Nat.mul_one, Nat.add_zero, List.getElem?_map, hx]; rfl
      | succ k => simp [inRow] at hy
def leftF (n : Nat) : Nat → List Int → List Int
  | _, [] => []
  | i, t :: l => if bitB n i then t :: leftF n (i + 1) l else leftF n (i + 1) l
theorem leftF_sub (n : Nat) : ∀ (l : List Int) (i : Nat), (leftF n i l).Sublist l
  | [], _ => .slnil
  | t :: l, i => by
    unfold leftF
    by_cases c : bitB n i = true
    · rw [if_pos c]; exact (leftF_sub n l (i + 1)).cons_cons t
    · rw [if_neg c]; exact (leftF_sub n l (i + 1)).cons t
theorem leftF_pos (n : Nat) : ∀ (l : List Int) (i j : Nat), j < l.length → bitB n (i + j) = true → 0 < (leftF n i l).length
  | t :: l, i, 0, _, hb => by
    unfold leftF
    rw [if_pos (by simpa using hb)]; simp
  | t :: l, i, j + 1, hj, hb => by
    unfold leftF
    have := leftF_pos n l (i + 1) j (by simpa using hj) (by rw [show i + 1 + j = i + (j + 1) by omega]; exact hb)
    by_cases c : bitB n i = true
    · rw [if_pos c]; simp
    · rw [if_neg c]; exact this
theorem left51_loop {h0 hb : Hp} (w : Wf hb) (left : Nat) {s : Sh} {p q vf vt : Value} (a : At hb p (shRow s.lines vf vt)) (st : SlA hb 1 vt (s.ts.map inRow)) (hlen : s.ts.length ≤ 6) (r : Nat) : ∀ m i (h : Hp) (v : Value) (ns : List Int), Grew hb h → InA hb h v ns → ns.length ≤ i → i + m = s.ts.length →
    ∃ h' v', Grew hb h' ∧ InA hb h' v' (ns ++ leftF left i (s.ts.drop i)) ∧ rec' T51 (m + 1 + r) 1 (AL.i (left : Int) (AL.v p (AL.v q (AL.v v (AL.i (i : Int) AL.n))))) h = rec' T51 r 2 (AL.v p (AL.v q (AL.v v' AL.n))) h'
  | 0, i, h, v, ns, g, nm, hn, him => by
    refine ⟨h, v, g, by rw [List.drop_of_length_le (by omega)]; simpa [leftF] using nm, ?_⟩
    have step : rec' T51 (0 + 1 + r) 1 (AL.i (left : Int) (AL.v p (AL.v q (AL.v v (AL.i (i : Int) AL.n))))) h = P51x1 (rec' T51 r) (left : Int) p q v (i : Int) h := by rw [show 0 + 1 + r = r + 1 by omega]; rfl
    rw [step]
    unfold P51x1
    have a1 := a.sub g.sub
    have s1 := (st.sub g.sub).rows
    rw [a1.fld 2 (x := vt) rfl, s1.len, List.length_map, boolZ_eq, ltZ_dec, ifB_if, if_neg (by simp; omega)]
  | m + 1, i, h, v, ns, g, nm, hn, him => by
    have hi : i < s.ts.length := by omega
    have hg : (s.ts.map inRow)[i]? = some (inRow s.ts[i]) := by rw [List.getElem?_map, List.getElem?_eq_getElem hi]; rfl
    have a1 := a.sub g.sub
    have s1 := (st.sub g.sub).rows
    obtain ⟨q1, hq, haq, hl⟩ := s1.at hg
    have step : rec' T51 (m + 1 + 1 + r) 1 (AL.i (left : Int) (AL.v p (AL.v q (AL.v v (AL.i (i : Int) AL.n))))) h = P51x1 (rec' T51 (m + 1 + r)) (left : Int) p q v (i : Int) h := by rw [show m + 1 + 1 + r = (m + 1 + r) + 1 by omega]; rfl
    have hdrop : leftF left i (s.ts.drop i) = if bitB left i then s.ts[i] :: leftF left (i + 1) (s.ts.drop (i + 1)) else leftF left (i + 1) (s.ts.drop (i + 1)) := by rw [List.drop_eq_getElem_cons hi]; rfl
    by_cases c : bitB left i = true
    · obtain ⟨v2, h2, hap, g2, nm2⟩ := append_in w g nm (by omega) s.ts[i]
      obtain ⟨hf, vf', gf, nf, IH⟩ := left51_loop (h0 := h0) w left (q := q) a st hlen r m (i + 1) h2 v2 (ns ++ [s.ts[i]]) g2 nm2 (by simp; omega) (by omega)
      refine ⟨hf, vf', gf, by rw [hdrop, if_pos c]; simpa using nf, ?_⟩
      rw [step]
      unfold P51x1
      rw [a1.fld 2 (x := vt) rfl, s1.len, List.length_map, boolZ_eq, ltZ_dec, ifB_if, if_pos (by simp; omega), bit42_at h left i (by omega), optK_some', pairK_some', boolK_bool, ifB_if, if_pos c, a1.fld 2 (x := vt) rfl, hq, haq.load1 (x := .int .i64 s.ts[i]) rfl, intK_int, oneI, pairK_some', hap, pairK_some', show Int.add (i : Int) (Int.ofNat 1) = ((i + 1 : Nat) : Int) from rfl, wrap64_in _ (by omega) (by omega)]
      exact IH
    · obtain ⟨hf, vf', gf, nf, IH⟩ := left51_loop (h0 := h0) w left (q := q) a st hlen r m (i + 1) h v ns g nm (by omega) (by omega)
      refine ⟨hf, vf', gf, by rw [hdrop, if_neg c]; exact nf, ?_⟩
      rw [step]
      unfold P51x1
      rw [a1.fld 2 (x := vt) rfl, s1.len, List.length_map, boolZ_eq, ltZ_dec, ifB_if, if_pos (by simp; omega), bit42_at h left i (by omega), optK_some', pairK_some', boolK_bool, ifB_if, if_neg c, show Int.add (i : Int) (Int.ofNat 1) = ((i + 1 : Nat) : Int) from rfl, wrap64_in _ (by omega) (by omega)]
      exact IH
theorem left51_at {h : Hp} (w : Wf h) (left : Nat) {s : Sh} {vf vt : Value} (sf : SlA h 4 vf (s.figs.map Fg.row)) (st : SlA h 1 vt (s.ts.map inRow)) (hlen : s.ts.length ≤ 6) : ∃ h' v', F51 [.agg (Array.mk (shRow s.lines vf vt)), .int .i64 (left : Int)] h = some (.agg (Array.mk (shRow s.lines vf v')), h') ∧ Grew h h' ∧ InA h h' v' (leftF left 0 s.ts) := by
  have start : F51 [.agg (Array.mk (shRow s.lines vf vt)), .int .i64 (left : Int)] h = P51x0 (rec' T51 999999) (.agg (Array.mk (shRow s.lines vf vt))) (left : Int) h := rfl
  rw [start]
  unfold P51x0
  rw [rowCells, allocK_add, allocK_add]
  have g0 : Grew h (h.add (.cells (shRow s.lines vf vt) 25 none)) := Grew.add w _
  have a0 : At (h.add (.cells (shRow s.lines vf vt) 25 none)) (.pointer (some ⟨h.next, 0, none⟩)) (shRow s.lines vf vt) := At.new
  have c0 : (h.add (.cells (shRow s.lines vf vt) 25 none)).get h.next = some (.cells (shRow s.lines vf vt) 25 none) := by rw [get_add, if_pos rfl]
  have n0 : (h.add (.cells (shRow s.lines vf vt) 25 none)).next = h.next + 1 := rfl
  generalize h.add (.cells (shRow s.lines vf vt) 25 none) = h0 at g0 a0 c0 n0 ⊢
  rw [show [(Value.int .i64 (Int.ofNat 0)), (Value.slice none 0 0), (Value.slice none 0 0)] = zeroS from rfl]
  have g1' := Grew.add g0.wf (.cells zeroS 25 none)
  have g1 : Grew h (h0.add (.cells zeroS 25 none)) := g0.trans g1'
  have a1 := a0.sub g1'.sub
  have c1 := g1'.sub _ _ c0
  have d1 : (h0.add (.cells zeroS 25 none)).get h0.next = some (.cells zeroS 25 none) := by rw [get_add, if_pos rfl]
  generalize h0.add (.cells zeroS 25 none) = hb at g1 a1 c1 d1 ⊢
  obtain ⟨r1, hr1⟩ : ∃ r1, 999999 = s.ts.length + 1 + (r1 + 1) := ⟨999999 - s.ts.length - 2, by omega⟩
  obtain ⟨h2, v2, g2, nm2, e2⟩ := left51_loop (h0 := h) g1.wf left (q := .pointer (some ⟨h0.next, 0, none⟩)) a1 (st.sub g1.sub) hlen (r1 + 1) s.ts.length 0 hb (.slice none 0 0) [] (Grew.refl g1.wf) (.inl ⟨rfl, rfl⟩) (by simp) (by omega)
  rw [← hr1, List.drop_zero, List.nil_append] at *
  rw [show (Int.ofNat 0) = ((0 : Nat) : Int) from rfl, e2]
  have step2 : rec' T51 (r1 + 1) 2 (AL.v (.pointer (some ⟨h.next, 0, none⟩)) (AL.v (.pointer (some ⟨h0.next, 0, none⟩)) (AL.v v2 AL.n))) h2 = P51x2 (rec' T51 r1) (.pointer (some ⟨h.next, 0, none⟩)) (.pointer (some ⟨h0.next, 0, none⟩)) v2 h2 := rfl
  rw [step2]
  unfold P51x2
  have g3 : Grew h h2 := g1.trans g2
  have c2 := g2.sub _ _ c1
  have d2 := g2.sub _ _ d1
  have ne : h.next ≠ h0.next := by omega
  obtain ⟨bb, nn, cc, ev⟩ := nm2.sl.sl
  have hone : oneCell v2 = true := by rw [ev]; rfl
  have hlt := g3.wf.2 _ _ c2
  have hro : h2.ro ≤ h.next := by rw [g3.ro]; exact w.1
  rw [ptrAddK_ptr, store1K_ptr c2 hro hone (by show 0 + 2 < 3; decide)]
  have eset : (shRow s.lines vf vt).set (0 + 2) v2 = shRow s.lines vf v2 := rfl
  rw [eset]
  have g4 : Grew h (h2.upd h.next (.cells (shRow s.lines vf v2) 25 none)) := Grew.upd w g3 (Nat.le_refl _) hlt _
  have c4 : (h2.upd h.next (.cells (shRow s.lines vf v2) 25 none)).get h.next = some (.cells (shRow s.lines vf v2) 25 none) := by rw [get_upd, if_pos rfl]
  have d4 : (h2.upd h.next (.cells (shRow s.lines vf v2) 25 none)).get h0.next = some (.cells zeroS 25 none) := by rw [get_upd, if_neg (fun e => ne e.symm)]; exact d2
  have s4 : InA hb (h2.upd h.next (.cells (shRow s.lines vf v2) 25 none)) v2 (leftF left 0 s.ts) := by
    rcases nm2 with x | ⟨b, e, hle, hgb⟩
    · exact .inl x
    · have hb1 := g1.wf.2 _ _ c1
      exact .inr ⟨b, e, hle, by rw [get_upd, if_neg (by omega)]; exact hgb⟩
  generalize h2.upd h.next (.cells (shRow s.lines vf v2) 25 none) = h4 at g4 c4 d4 s4 ⊢
  have a4 : At h4 (.pointer (some ⟨h.next, 0, none⟩)) (shRow s.lines vf v2) := ⟨h.next, 0, _, 25, none, rfl, c4, by simp, fun k x hx => by simpa using hx⟩
  rw [a4.loadN (z := 3) rfl]
  obtain ⟨bf, nf, cf, evf⟩ := sf.sl
  obtain ⟨h5, g5, a5, k5, o5⟩ := put_whole (z := 3) (l := shRow s.lines vf v2) w g4 (b := h0.next) (by have := g0.next; omega) d4 rfl rfl (by rw [ev, evf]; rfl)
  rw [k5, a5.loadN (z := 3) rfl]
  refine ⟨h5, _, rfl, g5, ?_⟩
  rcases s4 with x | ⟨b, e, hle, hgb⟩
  · exact .inl x
  · have hb1 := g1.wf.2 _ _ d1
    have hb2 := g1.next
    exact .inr ⟨b, e, by omega, o5 _ _ (by omega) hgb⟩
end Go.Proofs.YtpjflnjlmjnmjaaGreatDoor.K.L
