/- Contracts of told functions: the reference's Cost; the law. -/
import Derived.Test.YtepepiajmdpiiaaCoS14
open Go Go.Eng
set_option maxRecDepth 100000
set_option linter.unusedVariables false
namespace Go.Proofs.Ytepepiajmdpiiaa.K.L
theorem st19_1 (n : Nat) (x y : Int) (p : Value) (e : Int) (h : Hp) : rec' T19 (n + 1) 1 (AL.i x (AL.i y (AL.v p (AL.i e AL.n)))) h = P19x1 (rec' T19 n) x y p e h := rfl
theorem cost19_go {h : Hp} (w : Wf h) {s : Rm} {r : List Value} (a : RmA h s r) {p : Value} (ap : At h p r) (n : Nat) (F : Fine s) {i j : Nat} (hi : i < s.figs.length) (hj : j < s.pers.length) :
    ∃ h' vk, rec' T19 (n + 1) 1 (AL.i (i : Int) (AL.i (j : Int) (AL.v p (AL.i 0 AL.n)))) h = some (.tuple (List.toArray [.int .i64 (costOf s.costs (kAt s (i, j))), vk, .int .i64 0]), h') ∧ Grew h h' ∧ SlA h' 1 vk ((kAt s (i, j)).map inRow) := by
  obtain ⟨vc, vo, vf, vp, rfl, sc, so, sf, sp, af, aq⟩ := a
  have A : RmA h s (rmRow vc vo vf vp) := ⟨vc, vo, vf, vp, rfl, sc, so, sf, sp, af, aq⟩
  have p1 : At (Hp.mk h.next h.next h.objs) p (rmRow vc vo vf vp) := ap
  have hf : s.figs[(i, j).1]? = some s.figs[i] := List.getElem?_eq_getElem hi
  have hq : s.pers[(i, j).2]? = some s.pers[j] := List.getElem?_eq_getElem hj
  obtain ⟨x, ex, ax, lx⟩ := sf.rows.at (i := i) (r := (s.figs[i]).row) (by rw [List.getElem?_map, List.getElem?_eq_getElem hi]; rfl)
  obtain ⟨y, ey, ay, ly⟩ := sp.rows.at (i := j) (r := (s.pers[j]).row) (by rw [List.getElem?_map, List.getElem?_eq_getElem hj]; rfl)
  have x1 : At (Hp.mk h.next h.next h.objs) x (s.figs[i]).row := ax
  have y1 : At (Hp.mk h.next h.next h.objs) y (s.pers[j]).row := ay
  have lf := af _ (List.getElem_mem hi)
  have lq := aq _ (List.getElem_mem hj)
  obtain ⟨h2, q1, q2, g2, a1, a2, hk⟩ := two_looks w (l1 := (s.figs[i]).row) (l2 := (s.pers[j]).row) rfl rfl lf.one lq.one (fun w10 w12 b => (hasBlk [] b || (hasBlk [] b || (hasBlk [] b || (hasBlk [] b || (hasBlk [] b || (hasBlk w10 b || (hasBlk w12 b || false)))))))) (fun x w => by
    have hh : hasBlk [(h.next, x)] h.next = true := by unfold hasBlk; simp
    simp only [hh, Bool.true_or, Bool.or_true])
  rw [st19_1]
  unfold P19x1
  rw [boolN_eq, eqZ_dec, ifB_if, if_neg (by simp), p1.fld 2 (x := vf) rfl, ex, x1.loadN (z := 3) rfl, p1.fld 3 (x := vp) rfl, ey, y1.loadN (z := 3) rfl, show [(Value.string (ByteArray.mk #[])), (Value.slice none 0 0), (Value.int .i64 (Int.ofNat 0))] = zeroL from rfl, hk]
  obtain ⟨h3, e3⟩ := one56_at (h := shutH h2) (wfShut g2.wf) (A.sub g2.sub) F (c := (i, j)) hf hq (lf.sub g2.sub) (lq.sub g2.sub)
  rw [(ap.sub g2.sub).loadN (z := 4) rfl, a1.loadN (z := 3) rfl, a2.loadN (z := 3) rfl]
  have f1 := (F.fs _ (List.getElem_mem hi)).1
  have f2 := (F.ps _ (List.getElem_mem hj)).1
  have nc := F.nc
  have e3' : callQ F56 [.agg (Array.mk (rmRow vc vo vf vp)), .agg (Array.mk (s.figs[i]).row), .agg (Array.mk (s.pers[j]).row)] (Hp.mk h2.next h2.next h2.objs) = some (.int .i64 (costOf s.costs (kAt s (i, j))), Hp.mk h2.next h2.next h2.objs) := callQ_plain1 e3 rfl
  obtain ⟨h4, v4, e4, g4, n4⟩ := kinds57_at (h := shutH h2) (wfShut g2.wf) (lf.sub g2.sub) (lq.sub g2.sub) (by omega) (by omega)
  obtain ⟨h5, e5, g5, n5⟩ := callQ_in g2.wf e4 g4 n4
  rw [← kAt_eq (s := s) (c := (i, j)) hf hq] at n5
  rw [e3', pairK_some', ifB_if, if_pos (by rfl), pairK_some', intK_int, a1.loadN (z := 3) rfl, a2.loadN (z := 3) rfl, e5, pairK_some']
  exact ⟨h5, v4, rfl, g2.trans g5, n5.sl⟩
theorem cost19_at {h : Hp} (w : Wf h) {s : Rm} {r : List Value} (a : RmA h s r) (x y : Int) : ∃ h' vk, F19 [.agg (Array.mk r), .int .i64 x, .int .i64 y] h = some (.tuple (List.toArray [.int .i64 (costE s x y).1, vk, .int .i64 (costE s x y).2.2]), h') ∧ Grew h h' ∧ SlA h' 1 vk ((costE s x y).2.1.map inRow) := by
  have start : F19 [.agg (Array.mk r), .int .i64 x, .int .i64 y] h = P19x0 (rec' T19 999999) (.agg (Array.mk r)) x y h := rfl
  rw [start]
  unfold P19x0
  have hr4 := a.len
  rw [rowCells, allocK_add]
  have g1 : Grew h (h.add (.cells r 25 none)) := Grew.add w _
  have a1 : At (h.add (.cells r 25 none)) (.pointer (some ⟨h.next, 0, none⟩)) r := At.new
  replace a := a.sub g1.sub
  clear start
  generalize h.add (.cells r 25 none) = h1 at g1 a1 a ⊢
  generalize Value.pointer (some ⟨h.next, 0, none⟩) = p at a1 ⊢
  obtain ⟨h2, e2⟩ := check17_at (h := shutH h1) (wfShut g1.wf) a
  rw [a1.loadN (z := 4) hr4, callQ_plain1 e2 rfl, pairK_some']
  unfold trip
  rw [extK_at (v := .int .i64 (checkR s).1) rfl, intK_int, extK_at (v := .int .i64 (checkR s).2.1) rfl, intK_int, extK_at (v := .int .i64 (checkR s).2.2) rfl, intK_int, boolZ_eq, eqZ_dec, ifB_if]
  have bad : ∀ e : Int, e ≠ 0 → ∃ h' vk, rec' T19 999999 1 (AL.i x (AL.i y (AL.v p (AL.i e AL.n)))) h1 = some (.tuple (List.toArray [.int .i64 0, vk, .int .i64 e]), h') ∧ Grew h h' ∧ SlA h' 1 vk (([] : List Int).map inRow) := by
    intro e he
    rw [st19_1 999998]
    unfold P19x1
    rw [boolN_eq, eqZ_dec, ifB_if, if_pos (by simpa using he)]
    exact ⟨h1, _, rfl, g1, .inl ⟨rfl, rfl⟩⟩
  unfold costE perE
  by_cases e0 : (checkR s).2.2 = 0
  case neg =>
    rw [if_neg (by simpa using e0), if_pos e0, if_pos e0]
    exact bad _ e0
  have F := fine_of e0
  have nf := F.nf
  have np := F.np
  obtain ⟨vc, vo, vf, vp, rfl, sc, so, sf, sp, af, aq⟩ := a
  have A : RmA h1 s (rmRow vc vo vf vp) := ⟨vc, vo, vf, vp, rfl, sc, so, sf, sp, af, aq⟩
  have e0n : ¬ ((checkR s).2.2 ≠ 0) := by simpa using e0
  rw [if_pos (by rw [e0]; simp), if_neg e0n, a1.fld 2 (x := vf) rfl, sf.rows.len, List.length_map, show Int.sub (s.figs.length : Int) (Int.ofNat 1) = (s.figs.length : Int) - 1 from rfl, wrap64_in _ (by omega) (by omega), show (Int.ofNat 0) = (0 : Int) from rfl, in55_at, optK_some', pairK_some', boolK_bool, boolN_eq, ifB_if, show (Int.ofNat 4) = (4 : Int) from rfl]
  cases c1 : inB 0 ((s.figs.length : Int) - 1) x with
  | false =>
    rw [if_pos (by rfl)]
    cases c2 : inB 0 ((s.pers.length : Int) - 1) y with
    | false => rw [if_pos (by decide)]; exact bad 4 (by decide)
    | true => rw [if_neg (show ¬ ((if (!true) = true then (4 : Int) else 0) ≠ 0) from by decide), if_pos (by rfl)]; exact bad 4 (by decide)
  | true =>
  rw [if_neg (by simp), a1.fld 3 (x := vp) rfl, sp.rows.len, List.length_map, show Int.sub (s.pers.length : Int) (Int.ofNat 1) = (s.pers.length : Int) - 1 from rfl, wrap64_in _ (by omega) (by omega), in55_at, optK_some', pairK_some', boolK_bool, boolN_eq, ifB_if]
  cases c2 : inB 0 ((s.pers.length : Int) - 1) y with
  | false => rw [if_pos (by rfl), if_pos (by decide)]; exact bad 4 (by decide)
  | true =>
  obtain ⟨x0, x1⟩ := inB_iff.1 c1
  obtain ⟨y0, y1⟩ := inB_iff.1 c2
  obtain ⟨i, rfl⟩ : ∃ i : Nat, x = (i : Int) := ⟨x.toNat, by omega⟩
  obtain ⟨j, rfl⟩ : ∃ j : Nat, y = (j : Int) := ⟨y.toNat, by omega⟩
  rw [if_neg (by simp), if_neg (show ¬ ((if (!true) = true then (4 : Int) else 0) ≠ 0) from by decide), if_neg (by decide), Int.toNat_natCast, Int.toNat_natCast, e0]
  obtain ⟨h', vk, e1, e2, e3⟩ := cost19_go g1.wf A a1 999998 F (i := i) (j := j) (by omega) (by omega)
  exact ⟨h', vk, e1, g1.trans e2, e3⟩
theorem st20_1 (h : Hp) (n : Nat) (a b : Value) (c : Bool) (i : Int) : G.rec' (T20 h) (n + 1) 1 (PAL.v a (PAL.v b (PAL.b c (PAL.i i PAL.n)))) = P20x1 h (G.rec' (T20 h) n) a b c i := rfl
theorem st20_2 (h : Hp) (n : Nat) (a b : Value) (i : Int) : G.rec' (T20 h) (n + 1) 2 (PAL.v a (PAL.v b (PAL.i i PAL.n))) = P20x2 h (G.rec' (T20 h) n) a b i := rfl
theorem st20_3 (h : Hp) (n : Nat) (c : Bool) : G.rec' (T20 h) (n + 1) 3 (PAL.b c PAL.n) = some (.bool c) := rfl
theorem ints20_loop {h : Hp} {a b : Value} {l : List Int} (ra : Eng.Rows h 1 a (l.map inRow)) (rb : Eng.Rows h 1 b (l.map inRow)) (hl : l.length ≤ 900) : ∀ (m i n : Nat), i + m = l.length → 2 * m + 2 ≤ n → G.rec' (T20 h) n 1 (PAL.v a (PAL.v b (PAL.b true (PAL.i (i : Int) PAL.n)))) = some (.bool true)
  | 0, i, n', hi, hn => by
    obtain ⟨n, rfl⟩ : ∃ n, n' = n + 2 := ⟨n' - 2, by omega⟩
    rw [st20_1]
    unfold P20x1
    rw [ifB_if, if_pos rfl, ra.len, List.length_map, boolZ_eq, ltZ_dec, ifB_if, if_neg (by simp; omega), st20_3]
  | m + 1, i, n', hi, hn => by
    obtain ⟨n, rfl⟩ : ∃ n, n' = n + 2 := ⟨n' - 2, by omega⟩
    have hi' : i < l.length := by omega
    have hg : (l.map inRow)[i]? = some (inRow l[i]) := by rw [List.getElem?_map, List.getElem?_eq_getElem hi']; rfl
    obtain ⟨p, hp, ap, _⟩ := ra.at hg
    obtain ⟨q, hq, aq, _⟩ := rb.at hg
    rw [st20_1]
    unfold P20x1
    rw [ifB_if, if_pos rfl, ra.len, List.length_map, boolZ_eq, ltZ_dec, ifB_if, if_pos (by simp; omega), st20_2]
    unfold P20x2
    rw [hp, ap.load1 (x := .int .i64 l[i]) rfl, intK_int, hq, aq.load1 (x := .int .i64 l[i]) rfl, intK_int, boolZ_eq, eqZ_dec, decide_eq_true rfl, show Int.add (i : Int) (Int.ofNat 1) = ((i + 1 : Nat) : Int) from rfl, wrap64_in _ (by omega) (by omega)]
    exact ints20_loop ra rb hl m (i + 1) n (by omega) (by omega)
theorem ints20_at {h : Hp} {a b : Value} {l : List Int} (ra : Eng.Rows h 1 a (l.map inRow)) (rb : Eng.Rows h 1 b (l.map inRow)) (hl : l.length ≤ 900) : F20 [a, b] h = some (.bool true) := by
  show plainO (P20x0 h (G.rec' (T20 h) 999999) a b) = _
  unfold P20x0
  rw [ra.len, List.length_map, rb.len, List.length_map, boolZ_eq, eqZ_dec, decide_eq_true rfl]
  have := ints20_loop ra rb hl l.length 0 999999 (by omega) (by omega)
  exact congrArg plainO this
theorem awake_at {ρ : Type} (h : Hp) (k : Value → Option ρ) : optK (FM21 [] h) k = k (.bool true) := rfl
theorem costE_len (s : Rm) (x y : Int) : (costE s x y).2.1.length ≤ 900 := by
  unfold costE
  by_cases c : perE s y = 0
  case neg => rw [if_pos c]; simp
  rw [if_neg (by simpa using c)]
  obtain ⟨F, y0, y1, _⟩ := perE_ok c
  cases c1 : inB 0 ((s.figs.length : Int) - 1) x with
  | false => simp
  | true =>
    obtain ⟨x0, x1⟩ := inB_iff.1 c1
    have := (kAt_ok F (c := (x.toNat, y.toNat)) (show x.toNat < s.figs.length by omega) (show y.toNat < s.pers.length by omega)).1
    simp only [Bool.not_true, Bool.false_eq_true, if_false]
    omega
theorem st3_1 (n : Nat) (p q : Value) (h : Hp) : rec' T3 (n + 1) 1 (AL.v p (AL.v q AL.n)) h = P3x1 (rec' T3 n) p q h := rfl
theorem law3_at {h : Hp} (w : Wf h) {s : Rm} {r : List Value} (a : RmA h s r) (x y : Int) : ∃ h', F3 [.agg (Array.mk r), .agg (Array.mk [.int .i64 x, .int .i64 y])] h = some (.bool true, h') := by
  have start : F3 [.agg (Array.mk r), .agg (Array.mk [.int .i64 x, .int .i64 y])] h = P3x0 (rec' T3 999999) (.agg (Array.mk r)) (.agg (Array.mk [.int .i64 x, .int .i64 y])) h := rfl
  rw [start]
  unfold P3x0
  have hr4 := a.len
  rw [rowCells, rowCells, allocK_add, allocK_add]
  have g0 : Grew h (h.add (.cells r 25 none)) := Grew.add w _
  have a0 : At (h.add (.cells r 25 none)) (.pointer (some ⟨h.next, 0, none⟩)) r := At.new
  generalize h.add (.cells r 25 none) = h0 at g0 a0 ⊢
  have g1 : Grew h (h0.add (.cells [.int .i64 x, .int .i64 y] 26 none)) := g0.trans (Grew.add g0.wf _)
  have a1 : At (h0.add (.cells [.int .i64 x, .int .i64 y] 26 none)) (.pointer (some ⟨h.next, 0, none⟩)) r := atAdd g0.wf a0 _
  have c1 : (h0.add (.cells [.int .i64 x, .int .i64 y] 26 none)).get h0.next = some (.cells [.int .i64 x, .int .i64 y] 26 none) := by rw [get_add, if_pos rfl]
  generalize h0.next = b1 at c1 ⊢
  generalize h0.add (.cells [.int .i64 x, .int .i64 y] 26 none) = h1 at g1 a1 c1 ⊢
  generalize Value.pointer (some ⟨h.next, 0, none⟩) = p at a1 ⊢
  replace a := a.sub g1.sub
  have w1 := g1.wf
  obtain ⟨h2, e2⟩ := check16_at (h := shutH h1) (wfShut w1) a
  obtain ⟨h3, e3⟩ := check17_at (h := shutH h1) (wfShut w1) a
  rw [a1.loadN (z := 4) hr4, callQ_plain1 e2 rfl, pairK_some']
  unfold trip
  rw [extK_at (v := .int .i64 (checkR s).1) rfl, intK_int, extK_at (v := .int .i64 (checkR s).2.1) rfl, intK_int, extK_at (v := .int .i64 (checkR s).2.2) rfl, intK_int, a1.loadN (z := 4) hr4, callQ_plain1 e3 rfl, pairK_some']
  unfold trip
  rw [extK_at (v := .int .i64 (checkR s).1) rfl, intK_int, extK_at (v := .int .i64 (checkR s).2.1) rfl, intK_int, extK_at (v := .int .i64 (checkR s).2.2) rfl, intK_int, boolN_eq, eqZ_dec, ifB_if, if_neg (by simp), boolN_eq, eqZ_dec, ifB_if, if_neg (by simp), boolN_eq, eqZ_dec, ifB_if, if_neg (by simp), st3_1 999998]
  unfold P3x1
  obtain ⟨h4', v4, e4, g4, s4⟩ := cost18_at (h := shutH h1) (wfShut w1) a x y
  obtain ⟨h4, k4, q4, o4⟩ := callQ_any w1 e4 g4
  have i0 : ∀ (h : Hp) (hg : h.get b1 = some (.cells [.int .i64 x, .int .i64 y] 26 none)) (k : Value → CRes), (idxAK 2 1 (.pointer (some ⟨b1, 0, none⟩)) (Int.ofNat 0) fun v => load1K h v k) = k (.int .i64 x) := fun h hg k => by
    show load1K h (.pointer (some ⟨b1, 0, none⟩)) k = _
    exact load1K_ptr hg rfl k
  have i1 : ∀ (h : Hp) (hg : h.get b1 = some (.cells [.int .i64 x, .int .i64 y] 26 none)) (k : Value → CRes), (idxAK 2 1 (.pointer (some ⟨b1, 0, none⟩)) (Int.ofNat 1) fun v => load1K h v k) = k (.int .i64 y) := fun h hg k => by
    show load1K h (.pointer (some ⟨b1, 1, none⟩)) k = _
    exact load1K_ptr hg rfl k
  have s4' : SlA h4 1 v4 ((costE s x y).2.1.map inRow) := by
    rcases s4 with z | ⟨b, c, t, k, z1, z2, z3⟩
    · exact .inl z
    · refine .inr ⟨b, c, t, k, z1, ?_, z3⟩
      have : h4.objs = h4'.objs := o4 (by rw [z1, plainK_eq]; rfl)
      show h4.objs.get b = _
      rw [this]; exact z2
  rw [a1.loadN (z := 4) hr4, i0 h1 c1, intK_int, i1 h1 c1, intK_int, k4, pairK_some', extK_at (v := .int .i64 (costE s x y).1) rfl, intK_int, extK_at (v := v4) rfl, extK_at (v := .int .i64 (costE s x y).2.2) rfl, intK_int]
  obtain ⟨h5', v5, e5, g5, s5⟩ := cost19_at (h := shutH h4) (wfShut q4.wf) (a.sub q4.sub) x y
  obtain ⟨h5, k5, q5, o5⟩ := callQ_any q4.wf e5 g5
  have s5' : SlA h5 1 v5 ((costE s x y).2.1.map inRow) := by
    rcases s5 with z | ⟨b, c, t, k, z1, z2, z3⟩
    · exact .inl z
    · refine .inr ⟨b, c, t, k, z1, ?_, z3⟩
      have : h5.objs = h5'.objs := o5 (by rw [z1, plainK_eq]; rfl)
      show h5.objs.get b = _
      rw [this]; exact z2
  rw [(a1.sub q4.sub).loadN (z := 4) hr4, i0 h4 (q4.sub _ _ c1), intK_int, i1 h4 (q4.sub _ _ c1), intK_int, k5, pairK_some', extK_at (v := .int .i64 (costE s x y).1) rfl, intK_int, extK_at (v := v5) rfl, extK_at (v := .int .i64 (costE s x y).2.2) rfl, intK_int,
    boolZ_eq, eqZ_dec, ifB_if, if_pos (by simp), ints20_at (s4'.sub q5.sub).rows s5'.rows (costE_len s x y), optK_some', pairK_some', boolK_bool, ifB_if, if_pos rfl, boolZ_eq, eqZ_dec, ifB_if, if_pos (by simp), awake_at, pairK_some', boolK_bool]
  exact ⟨_, rfl⟩
end Go.Proofs.Ytepepiajmdpiiaa.K.L
