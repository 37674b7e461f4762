/- Contracts of told functions: two looks at once; the reference's Kinds, One, Cost. -/
import Derived.Test.YtepepiajmdpiiaaCoS13
open Go Go.Eng
set_option maxRecDepth 100000
set_option linter.unusedVariables false
namespace Go.Proofs.Ytepepiajmdpiiaa.K.L
theorem storeV_three (h : Hp) {b : Nat} {c l : List Value} {e : TypeId} {s : Option Nat} (hg : h.get b = some (.cells c e s)) (hc : c.length = 3) (hl : l.length = 3) (hx : l.all oneCell = true) (hro : h.ro ≤ b) : storeV env h 59 (.pointer (some ⟨b, 0, none⟩)) (.agg (Array.mk l)) = some (h.upd b (.cells l e s)) := by
  unfold storeV
  rw [show addrOf (.pointer (some ⟨b, 0, none⟩)) = some ⟨b, 0, none⟩ from rfl]
  simp only [Option.bind_some, size59]
  show ok? (Nat.beq l.length 3) (putCells h ⟨b, 0, none⟩ l) = _
  rw [hl]
  show putCells h ⟨b, 0, none⟩ l = _
  unfold putCells
  simp only [ok?, hg]
  rw [show Nat.ble h.ro b = true from by rw [Nat.ble_eq]; exact hro]
  simp only
  rw [show Nat.ble (0 + l.length) c.length = true from by rw [Nat.ble_eq, hc, hl]; exact Nat.le_refl _, hx]
  rw [show c.drop (0 + l.length) = [] from List.drop_of_length_le (by rw [hc, hl]; exact Nat.le_refl _), List.append_nil]
  rfl
theorem two_looks {h : Hp} (w : Wf h) {l1 l2 : List Value} (e1 : l1.length = 3) (e2 : l2.length = 3) (x1 : l1.all oneCell = true) (x2 : l2.all oneCell = true) (chk : List (Nat × AObj) → List (Nat × AObj) → Nat → Bool) (hc : ∀ x w, chk [(h.next, x)] w h.next = true) :
    ∃ h' p1 p2, Grew h h' ∧ At h' p1 l1 ∧ At h' p2 l2 ∧ ∀ K : Value → Value → Hp → CRes,
      (allocK (Hp.mk h.next h.next T.nil) 59 zeroL fun a9 h9 => leftK a9 h.next h9 fun w10 n10 => allocK (Hp.mk n10 n10 T.nil) 59 zeroL fun a11 h11 => leftK a11 n10 h11 fun w12 n12 => storeQ env 59 a9 (.agg (Array.mk l1)) n12 h.next (addAll w12 (addAll w10 h.objs)) (chk w10 w12) fun w13 => storeNK 3 (Hp.mk n12 h.ro (addAll w13 (addAll w12 (addAll w10 h.objs)))) a11 (.agg (Array.mk l2)) fun h14 => K a9 a11 h14) = K p1 p2 h' := by
  have gN : Grew h (((h.add (.cells zeroL 59 none)).add (.cells zeroL 59 none)).upd h.next (.cells l1 59 none)) :=
    Grew.upd w ((Grew.add w _).trans (Grew.add (w.add _) _)) (Nat.le_refl _) (by rw [add_next, add_next]; omega) _
  have cx : (((h.add (.cells zeroL 59 none)).add (.cells zeroL 59 none)).upd h.next (.cells l1 59 none)).get h.next = some (.cells l1 59 none) := by rw [get_upd, if_pos rfl]
  have cz : (((h.add (.cells zeroL 59 none)).add (.cells zeroL 59 none)).upd h.next (.cells l1 59 none)).get (h.next + 1) = some (.cells zeroL 59 none) := by
    rw [get_upd, if_neg (by omega), get_add, if_pos (by rw [add_next])]
  obtain ⟨h22, g22, a22, k22, o22⟩ := put_whole (z := 3) (l := l2) w gN (b := h.next + 1) (by omega) cz rfl e2 x2
  have ax : At h22 (.pointer (some ⟨h.next, 0, none⟩)) l1 := ⟨h.next, 0, _, 59, none, rfl, o22 _ _ (by omega) cx, by simp, fun k y hy => by simpa using hy⟩
  refine ⟨h22, _, _, g22, ax, a22, fun K => ?_⟩
  rw [allocK_add, show (Hp.mk h.next h.next T.nil).next = h.next from rfl, leftK_new, allocK_add, show (Hp.mk (h.next + 1) (h.next + 1) T.nil).next = h.next + 1 from rfl, leftK_new]
  have hget : Hp.get ⟨h.next + 1 + 1, h.next, addAll [(h.next + 1, AObj.cells zeroL 59 none)] (addAll [(h.next, AObj.cells zeroL 59 none)] h.objs)⟩ h.next = some (.cells zeroL 59 none) := by
    show ((h.add (.cells zeroL 59 none)).add (.cells zeroL 59 none)).get h.next = _
    rw [get_add, if_neg (by rw [add_next]; omega), get_add, if_pos rfl]
  have sq : ∀ k : List (Nat × AObj) → CRes, storeQ env 59 (.pointer (some ⟨h.next, 0, none⟩)) (.agg (Array.mk l1)) (h.next + 1 + 1) h.next (addAll [(h.next + 1, .cells zeroL 59 none)] (addAll [(h.next, .cells zeroL 59 none)] h.objs)) (chk [(h.next, .cells zeroL 59 none)] [(h.next + 1, .cells zeroL 59 none)]) k = k [(h.next, .cells l1 59 none)] := by
    intro k
    unfold storeQ
    rw [show addrOf (.pointer (some ⟨h.next, 0, none⟩)) = some ⟨h.next, 0, none⟩ from rfl]
    simp only [hc]
    rw [ifB_if, if_pos rfl, storeV_three _ hget rfl e1 x1 (Nat.le_refl _), optK_some']
    rw [show Nat.beq (Hp.upd ⟨h.next + 1 + 1, h.next, addAll [(h.next + 1, AObj.cells zeroL 59 none)] (addAll [(h.next, AObj.cells zeroL 59 none)] h.objs)⟩ h.next (.cells l1 59 none)).next (h.next + 1 + 1) = true from Nat.beq_refl _, ifB_if, if_pos rfl, get_upd, if_pos rfl, optK_some']
  rw [sq]
  exact k22 _ _
theorem st57_1 (n : Nat) (p q v : Value) (i : Int) (h : Hp) : rec' T57 (n + 1) 1 (AL.v p (AL.v q (AL.v v (AL.i i AL.n)))) h = P57x1 (rec' T57 n) p q v i h := rfl
theorem st57_2 (n : Nat) (v : Value) (h : Hp) : rec' T57 (n + 1) 2 (AL.v v AL.n) h = some (v, h) := rfl
theorem kinds57_loop {hb : Hp} (w : Wf hb) {f q : Lk} {p1 p2 : Value} (a1 : At hb p1 f.row) (a2 : At hb p2 q.row) (l1 : LkA hb f) (l2 : LkA hb q) (hl : f.lk.length = q.lk.length) (hm : q.lk.length ≤ 50) : ∀ (m i n : Nat) (h : Hp) (v : Value) (ns : List Int), Grew hb h → InA hb h v ns → ns.length ≤ i → i + m = q.lk.length → m + 3 ≤ n →
    ∃ h' v', rec' T57 n 1 (AL.v p1 (AL.v p2 (AL.v v (AL.i (i : Int) AL.n)))) h = some (v', h') ∧ Grew hb h' ∧ InA hb h' v' (ns ++ kindsF i (f.lk.drop i) (q.lk.drop i))
  | 0, i, n', h, v, ns, g, nm, hni, him, hn => by
    obtain ⟨n, rfl⟩ : ∃ n, n' = n + 2 := ⟨n' - 2, by omega⟩
    rw [st57_1]
    unfold P57x1
    rw [(a1.sub g.sub).fld 1 (x := f.lv) rfl, l1.rows.len, List.length_map, boolZ_eq, ltZ_dec, ifB_if, if_neg (by simp; omega), st57_2, List.drop_of_length_le (show q.lk.length ≤ i by omega)]
    refine ⟨h, v, rfl, g, ?_⟩
    rw [show kindsF i (f.lk.drop i) [] = [] from by cases f.lk.drop i <;> rfl, List.append_nil]; exact nm
  | m + 1, i, n', h, v, ns, g, nm, hni, him, hn => by
    obtain ⟨n, rfl⟩ : ∃ n, n' = n + 1 := ⟨n' - 1, by omega⟩
    have hi : i < q.lk.length := by omega
    have hi2 : i < f.lk.length := by omega
    obtain ⟨y, hy, ay, _⟩ := (l2.sub g.sub).rows.at (i := i) (r := inRow q.lk[i]) (by rw [List.getElem?_map, List.getElem?_eq_getElem hi]; rfl)
    obtain ⟨x, hx, ax, _⟩ := (l1.sub g.sub).rows.at (i := i) (r := inRow f.lk[i]) (by rw [List.getElem?_map, List.getElem?_eq_getElem hi2]; rfl)
    have next : ∀ (h2 : Hp) (v2 : Value) (ns2 : List Int), Grew hb h2 → InA hb h2 v2 ns2 → ns2.length ≤ i + 1 → ∃ h' v', (wrap64 (Int.add (i : Int) (Int.ofNat 1)) fun i12 => rec' T57 n 1 (AL.v p1 (AL.v p2 (AL.v v2 (AL.i i12 AL.n)))) h2) = some (v', h') ∧ Grew hb h' ∧ InA hb h' v' (ns2 ++ kindsF (i + 1) (f.lk.drop (i + 1)) (q.lk.drop (i + 1))) := by
      intro h2 v2 ns2 g2 nm2 hl2
      rw [show Int.add (i : Int) (Int.ofNat 1) = ((i + 1 : Nat) : Int) from rfl, wrap64_in _ (by omega) (by omega)]
      exact kinds57_loop w a1 a2 l1 l2 hl hm m (i + 1) n h2 v2 ns2 g2 nm2 hl2 (by omega) (by omega)
    rw [st57_1]
    unfold P57x1
    rw [(a1.sub g.sub).fld 1 (x := f.lv) rfl, l1.rows.len, List.length_map, boolZ_eq, ltZ_dec, ifB_if, if_pos (by simp; omega), (a2.sub g.sub).fld 1 (x := q.lv) rfl, hy, ay.load1 (x := .int .i64 q.lk[i]) rfl, intK_int, boolN_eq, eqZ_dec, ifB_if, List.drop_eq_getElem_cons hi, List.drop_eq_getElem_cons hi2]
    unfold kindsF
    by_cases c1 : q.lk[i] = -1
    · rw [if_neg (by rw [c1]; simp), if_neg (by simp [c1])]
      exact next h v ns g nm (by omega)
    rw [if_pos (by simpa using c1), (a2.sub g.sub).fld 1 (x := q.lv) rfl, hy, ay.load1 (x := .int .i64 q.lk[i]) rfl, intK_int, (a1.sub g.sub).fld 1 (x := f.lv) rfl, hx, ax.load1 (x := .int .i64 f.lk[i]) rfl, intK_int, boolN_eq, eqZ_dec, ifB_if]
    by_cases c2 : q.lk[i] = f.lk[i]
    · rw [if_neg (by rw [c2]; simp), if_neg (by simp [c2])]
      exact next h v ns g nm (by omega)
    rw [if_pos (by simpa using c2), if_pos ⟨c1, c2⟩, oneI, pairK_some']
    obtain ⟨v2, h2, hap, g2, nm2⟩ := append_in w g nm (by omega) (i : Int)
    rw [hap, pairK_some']
    obtain ⟨h', v', e1, e2, e3⟩ := next h2 v2 (ns ++ [(i : Int)]) g2 nm2 (by simp; omega)
    refine ⟨h', v', e1, e2, ?_⟩
    rw [List.append_assoc] at e3
    exact e3
theorem kinds57_at {h : Hp} (w : Wf h) {f q : Lk} (l1 : LkA h f) (l2 : LkA h q) (hl : f.lk.length = q.lk.length) (hm : q.lk.length ≤ 50) : ∃ h' v', F57 [.agg (Array.mk f.row), .agg (Array.mk q.row)] h = some (v', h') ∧ Grew h h' ∧ InA h h' v' (kindsF 0 f.lk q.lk) := by
  have start : F57 [.agg (Array.mk f.row), .agg (Array.mk q.row)] h = P57x0 (rec' T57 999999) (.agg (Array.mk f.row)) (.agg (Array.mk q.row)) h := rfl
  rw [start]
  unfold P57x0
  rw [rowCells, rowCells, allocK_add, allocK_add]
  have g0 : Grew h (h.add (.cells f.row 59 none)) := Grew.add w _
  have a0 : At (h.add (.cells f.row 59 none)) (.pointer (some ⟨h.next, 0, none⟩)) f.row := At.new
  generalize h.add (.cells f.row 59 none) = h0 at g0 a0 ⊢
  have g1 : Grew h (h0.add (.cells q.row 59 none)) := g0.trans (Grew.add g0.wf _)
  have a1 : At (h0.add (.cells q.row 59 none)) (.pointer (some ⟨h.next, 0, none⟩)) f.row := atAdd g0.wf a0 _
  have b1 : At (h0.add (.cells q.row 59 none)) (.pointer (some ⟨h0.next, 0, none⟩)) q.row := At.new
  generalize h0.add (.cells q.row 59 none) = h1 at g1 a1 b1 ⊢
  obtain ⟨h', v', e1, e2, e3⟩ := kinds57_loop g1.wf a1 b1 (l1.sub g1.sub) (l2.sub g1.sub) hl hm q.lk.length 0 999999 h1 (.slice none 0 0) [] (Grew.refl g1.wf) (.inl ⟨rfl, rfl⟩) (by simp) (by omega) (by omega)
  rw [List.drop_zero, List.drop_zero, List.nil_append] at e3
  exact ⟨h', v', e1, g1.trans e2, e3.low g1.next⟩
theorem st56_1 (n : Nat) (p : Value) (a : Int) (v : Value) (i : Int) (h : Hp) : rec' T56 (n + 1) 1 (AL.v p (AL.i a (AL.v v (AL.i i AL.n)))) h = P56x1 (rec' T56 n) p a v i h := rfl
theorem st56_2 (n : Nat) (a : Int) (h : Hp) : rec' T56 (n + 1) 2 (AL.i a AL.n) h = some (.int .i64 a, h) := rfl
theorem one56_loop {h : Hp} {p vc vo vf vp : Value} (ar : At h p (rmRow vc vo vf vp)) {cs : List Int} (sc : SlA h 1 vc (cs.map inRow)) (hb : ∀ n ∈ cs, 0 ≤ n ∧ n ≤ 100) {u : Value} {ks : List Int} (su : Eng.Rows h 1 u (ks.map inRow)) (hk : ∀ x ∈ ks, ∃ k : Nat, x = (k : Int) ∧ k < cs.length) (hl : ks.length ≤ 4) :
    ∀ (m j n : Nat) (acc : Int), j + m = ks.length → m + 2 ≤ n → 0 ≤ acc → acc ≤ 100 * j → rec' T56 n 1 (AL.v p (AL.i acc (AL.v u (AL.i (j : Int) AL.n)))) h = some (.int .i64 (acc + costOf cs (ks.drop j)), h)
  | 0, j, n', acc, hj, hn, h0, h1 => by
    obtain ⟨n, rfl⟩ : ∃ n, n' = n + 2 := ⟨n' - 2, by omega⟩
    rw [st56_1]
    unfold P56x1
    rw [su.len, List.length_map, boolZ_eq, ltZ_dec, ifB_if, if_neg (by simp; omega), List.drop_of_length_le (by omega), st56_2, show costOf cs [] = 0 from rfl, Int.add_zero]
  | m + 1, j, n', acc, hj, hn, h0, h1 => by
    obtain ⟨n, rfl⟩ : ∃ n, n' = n + 1 := ⟨n' - 1, by omega⟩
    have hj' : j < ks.length := by omega
    obtain ⟨q, hq, aq, _⟩ := su.at (i := j) (r := inRow ks[j]) (by rw [List.getElem?_map, List.getElem?_eq_getElem hj']; rfl)
    obtain ⟨k, ek, hkl⟩ := hk _ (List.getElem_mem hj')
    obtain ⟨y, hy, ay, _⟩ := sc.rows.at (i := k) (r := inRow cs[k]) (by rw [List.getElem?_map, List.getElem?_eq_getElem hkl]; rfl)
    have cb := hb _ (List.getElem_mem hkl)
    rw [st56_1]
    unfold P56x1
    rw [su.len, List.length_map, boolZ_eq, ltZ_dec, ifB_if, if_pos (by simp; omega), ar.fld 0 (x := vc) rfl, hq, aq.load1 (x := .int .i64 ks[j]) rfl, intK_int, ek, hy, ay.load1 (x := .int .i64 cs[k]) rfl, intK_int, show Int.add acc cs[k] = acc + cs[k] from rfl, wrap64_in _ (by omega) (by omega), show Int.add (j : Int) (Int.ofNat 1) = ((j + 1 : Nat) : Int) from rfl, wrap64_in _ (by omega) (by omega),
      one56_loop ar sc hb su hk hl m (j + 1) n (acc + cs[k]) (by omega) (by omega) (by omega) (by omega), List.drop_eq_getElem_cons hj']
    rw [show costOf cs (ks[j] :: ks.drop (j + 1)) = cs.getD (ks[j]).toNat 0 + costOf cs (ks.drop (j + 1)) from rfl, ek, Int.toNat_natCast, List.getD_eq_getElem?_getD, List.getElem?_eq_getElem hkl, Option.getD_some, Int.add_assoc]
theorem one56_at {h : Hp} (w : Wf h) {s : Rm} {r : List Value} (a : RmA h s r) (F : Fine s) {c : Nat × Nat} {f q : Lk} (hf : s.figs[c.1]? = some f) (hq : s.pers[c.2]? = some q) (l1 : LkA h f) (l2 : LkA h q) : ∃ h', F56 [.agg (Array.mk r), .agg (Array.mk f.row), .agg (Array.mk q.row)] h = some (.int .i64 (costOf s.costs (kAt s c)), h') := by
  obtain ⟨vc, vo, vf, vp, rfl, sc, so, sf, sp, af, ap⟩ := a
  have start : F56 [.agg (Array.mk (rmRow vc vo vf vp)), .agg (Array.mk f.row), .agg (Array.mk q.row)] h = P56x0 (rec' T56 999999) (.agg (Array.mk (rmRow vc vo vf vp))) (.agg (Array.mk f.row)) (.agg (Array.mk q.row)) h := rfl
  rw [start]
  unfold P56x0
  rw [rowCells, rowCells, rowCells, allocK_add, allocK_add, allocK_add]
  have g0 : Grew h (h.add (.cells (rmRow vc vo vf vp) 25 none)) := Grew.add w _
  have a0 : At (h.add (.cells (rmRow vc vo vf vp) 25 none)) (.pointer (some ⟨h.next, 0, none⟩)) (rmRow vc vo vf vp) := At.new
  generalize h.add (.cells (rmRow vc vo vf vp) 25 none) = h0 at g0 a0 ⊢
  have g1 : Grew h (h0.add (.cells f.row 59 none)) := g0.trans (Grew.add g0.wf _)
  have a1 := atAdd g0.wf a0 (.cells f.row 59 none)
  have b1 : At (h0.add (.cells f.row 59 none)) (.pointer (some ⟨h0.next, 0, none⟩)) f.row := At.new
  generalize h0.add (.cells f.row 59 none) = h1 at g1 a1 b1 ⊢
  have g2 : Grew h (h1.add (.cells q.row 59 none)) := g1.trans (Grew.add g1.wf _)
  have a2 := atAdd g1.wf a1 (.cells q.row 59 none)
  have b2 := atAdd g1.wf b1 (.cells q.row 59 none)
  have d2 : At (h1.add (.cells q.row 59 none)) (.pointer (some ⟨h1.next, 0, none⟩)) q.row := At.new
  generalize h1.add (.cells q.row 59 none) = h2 at g2 a2 b2 d2 ⊢
  have i1 := (List.getElem?_eq_some_iff.1 hf).1
  have i2 := (List.getElem?_eq_some_iff.1 hq).1
  have f1 := (F.fs f (List.mem_of_getElem? hf)).1
  have f2 := (F.ps q (List.mem_of_getElem? hq)).1
  have nc := F.nc
  obtain ⟨h3, v3, e3, g3, n3⟩ := kinds57_at (h := shutH h2) (wfShut g2.wf) (l1.sub g2.sub) (l2.sub g2.sub) (by omega) (by omega)
  obtain ⟨h4, e4, g4, n4⟩ := callQ_in g2.wf e3 g3 n3
  rw [← kAt_eq (s := s) (c := c) hf hq] at n4
  obtain ⟨k1, k2⟩ := kAt_ok F i1 i2
  rw [b2.loadN (z := 3) rfl, d2.loadN (z := 3) rfl, e4, pairK_some']
  have := one56_loop (a2.sub g4.sub) (sc.sub (g2.trans g4).sub) F.cs n4.rows k2 k1 (kAt s c).length 0 999999 0 (by omega) (by omega) (by omega) (by omega)
  rw [List.drop_zero, Int.zero_add] at this
  exact ⟨h4, this⟩
end Go.Proofs.Ytepepiajmdpiiaa.K.L
