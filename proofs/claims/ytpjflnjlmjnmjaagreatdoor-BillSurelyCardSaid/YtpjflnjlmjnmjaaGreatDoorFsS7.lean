/- Contracts of told functions: the reference's Check. -/
import Derived.Test.YtpjflnjlmjnmjaaGreatDoorFsS6
open Go Go.Eng
set_option maxRecDepth 100000
set_option linter.unusedVariables false
namespace Go.Proofs.YtpjflnjlmjnmjaaGreatDoor.K.L
theorem NmA.up {hb h h1 : Hp} {v : Value} {ns : List ByteArray} (a : NmA hb h v ns) (s : Sub h h1) : NmA hb h1 v ns := by
  rcases a with a | ⟨b, e, hle, hg⟩
  · exact .inl a
  · exact .inr ⟨b, e, hle, s _ _ hg⟩
def e1 (prev : List Fg) (g : Fg) : Int := newE g.nm (prev.map Fg.nm)
def e2 (prev : List Fg) (g : Fg) : Int := if e1 prev g = 0 then (if nameB g.as_.data.toList then 0 else 6) else e1 prev g
def e3 (g : Fg) (e : Int) : Int := if e = 0 then (if figNum g then 0 else 7) else e
def e4 (prev : List Fg) (g : Fg) (e : Int) : Int := if e = 0 then lowE prev g else e
theorem e_eq (prev : List Fg) (g : Fg) : e4 prev g (e3 g (e2 prev g)) = figE prev g := by
  unfold e2 e1 newE figE
  rw [any_nm]
  cases nameB g.nm.data.toList with
  | false => simp [e3, e4]
  | true =>
  cases prev.any (fun x => sameNm x.nm g.nm) with
  | true => simp [e3, e4]
  | false =>
  cases nameB g.as_.data.toList with
  | false => simp [e3, e4]
  | true =>
  cases h : figNum g with
  | false => simp [e3, e4, h]
  | true => simp [e3, e4, h]
theorem figs17_loop {hb : Hp} (w : Wf hb) {s : Sh} {p vf vt : Value} (a : At hb p (shRow s.lines vf vt)) (sg : SlA hb 4 vf (s.figs.map Fg.row)) (hlen : s.figs.length ≤ 6) (r : Nat) : ∀ m i (h : Hp) (v : Value), Grew hb h → NmA hb h v ((s.figs.take i).map Fg.nm) → i + m = s.figs.length →
    ∃ h', Grew hb h' ∧ rec' T17 (5 * m + 1 + r) 1 (AL.v p (AL.v v (AL.i (i : Int) AL.n))) h = if (firstE figE s.figs i (s.figs.drop i)).2 = 0 then rec' T17 r 8 (AL.v p AL.n) h' else some (trip (2, firstE figE s.figs i (s.figs.drop i)), h')
  | 0, i, h, v, g, nm, him => by
    refine ⟨h, g, ?_⟩
    have st : rec' T17 (5 * 0 + 1 + r) 1 (AL.v p (AL.v v (AL.i (i : Int) AL.n))) h = P17x1 (rec' T17 r) p v (i : Int) h := by rw [show 5 * 0 + 1 + r = r + 1 by omega]; rfl
    rw [st]
    unfold P17x1
    have a1 := a.sub g.sub
    have s1 := (sg.sub g.sub).rows
    rw [a1.fld 1 (x := vf) rfl, s1.len, List.length_map, boolZ_eq, ltZ_dec, ifB_if, if_neg (by simp; omega), List.drop_of_length_le (by omega)]
    rfl
  | m + 1, i, h, v, g, nm, him => by
    have hi : i < s.figs.length := by omega
    have hg : (s.figs.map Fg.row)[i]? = some (s.figs[i]).row := by rw [List.getElem?_map, List.getElem?_eq_getElem hi]; rfl
    have a1 := a.sub g.sub
    have s1 := (sg.sub g.sub).rows
    obtain ⟨q, hq, haq, hl⟩ := s1.at hg
    have st : rec' T17 (5 * (m + 1) + 1 + r) 1 (AL.v p (AL.v v (AL.i (i : Int) AL.n))) h = P17x1 (rec' T17 (5 * m + 1 + r + 4)) p v (i : Int) h := by rw [show 5 * (m + 1) + 1 + r = (5 * m + 1 + r + 4) + 1 by omega]; rfl
    have st4 : ∀ (q : Value) (e : Int) (h : Hp), rec' T17 (5 * m + 1 + r + 4) 4 (AL.v p (AL.v v (AL.i (i : Int) (AL.v q (AL.i e AL.n))))) h = P17x4 (rec' T17 (5 * m + 1 + r + 3)) p v (i : Int) q e h := fun q e h => rfl
    have st3 : ∀ (q : Value) (e : Int) (h : Hp), rec' T17 (5 * m + 1 + r + 3) 3 (AL.v p (AL.v v (AL.i (i : Int) (AL.v q (AL.i e AL.n))))) h = P17x3 (rec' T17 (5 * m + 1 + r + 2)) p v (i : Int) q e h := fun q e h => rfl
    have st2 : ∀ (q : Value) (e : Int) (h : Hp), rec' T17 (5 * m + 1 + r + 2) 2 (AL.v p (AL.v v (AL.i (i : Int) (AL.v q (AL.i e AL.n))))) h = P17x2 (rec' T17 (5 * m + 1 + r + 1)) p v (i : Int) q e h := fun q e h => rfl
    have st5 : ∀ (v : Value) (h : Hp), rec' T17 (5 * m + 1 + r + 1) 5 (AL.v p (AL.v v (AL.i (i : Int) AL.n))) h = P17x5 (rec' T17 (5 * m + 1 + r)) p v (i : Int) h := fun v h => rfl
    obtain ⟨h1, q1, g1', b1, hk⟩ := alloc_store (ρ := Value × Hp) (z := 4) g.wf 76 (c := [(Value.string (ByteArray.mk #[])), (Value.string (ByteArray.mk #[])), (Value.int .i64 (Int.ofNat 0)), (Value.int .i64 (Int.ofNat 0))]) (l := (s.figs[i]).row) rfl rfl rfl (fun _ _ => none)
    have g1 : Grew hb h1 := g.trans g1'
    have nm1 := nm.up g1'.sub
    have a2 := a.sub g1.sub
    have s2 := (sg.sub g1.sub).rows
    obtain ⟨v', h', hap, g', nm'⟩ := append_nm w g1 nm1 (by rw [List.length_map, List.length_take]; omega) (s.figs[i]).nm
    rw [take_succ_map] at nm'
    obtain ⟨hf, gf, IH⟩ := figs17_loop w a sg hlen r m (i + 1) h' v' g' nm' (by omega)
    have two : ∀ e : Int, P17x2 (rec' T17 (5 * m + 1 + r + 1)) p v (i : Int) q1 e h1 = if e = 0 then rec' T17 (5 * m + 1 + r) 1 (AL.v p (AL.v v' (AL.i ((i + 1 : Nat) : Int) AL.n))) h' else some (trip (2, (i : Int), e), h1) := by
      intro e
      unfold P17x2
      rw [boolN_eq, eqZ_dec, ifB_if]
      by_cases he : e = 0
      · rw [if_neg (by rw [he]; simp), if_pos he, b1.fld 0 (x := .string (s.figs[i]).nm) rfl, oneS, pairK_some', hap, pairK_some', st5]
        unfold P17x5
        rw [show Int.add (i : Int) (Int.ofNat 1) = ((i + 1 : Nat) : Int) from rfl, wrap64_in _ (by omega) (by omega)]
      · rw [if_pos (by simpa using he), if_neg he]; rfl
    have three : ∀ e : Int, P17x3 (rec' T17 (5 * m + 1 + r + 2)) p v (i : Int) q1 e h1 = P17x2 (rec' T17 (5 * m + 1 + r + 1)) p v (i : Int) q1 (e4 (s.figs.take i) s.figs[i] e) h1 := by
      intro e
      unfold P17x3 e4
      rw [boolZ_eq, eqZ_dec, ifB_if]
      by_cases he : e = 0
      · rw [if_pos (by rw [he]; simp), if_pos he, boolZ_eq, ltZ_dec, ifB_if]
        by_cases h0 : 0 < i
        · have hp : 0 < (s.figs.take i).length := by rw [List.length_take]; omega
          have hj : i - 1 < s.figs.length := by omega
          have hgj : (s.figs.map Fg.row)[i - 1]? = some (s.figs[i - 1]).row := by rw [List.getElem?_map, List.getElem?_eq_getElem hj]; rfl
          obtain ⟨qj, hqj, haj, hlj⟩ := s2.at hgj
          have elast : lowE (s.figs.take i) s.figs[i] = if (s.figs[i]).room < (s.figs[i - 1]).room then 2 else 0 := by
            unfold lowE
            rw [last_get _ hp]
            dsimp only
            congr 3
            simp only [List.getElem_take, List.length_take]
            congr 2
            omega
          rw [if_pos (by simp; omega), b1.fld 2 (x := .int .i64 (s.figs[i]).room) rfl, intK_int, a2.fld 1 (x := vf) rfl, show Int.sub (i : Int) (Int.ofNat 1) = ((i - 1 : Nat) : Int) from by show (i : Int) - 1 = _; omega, wrap64_in _ (by omega) (by omega), hqj, haj.fld 2 (x := .int .i64 (s.figs[i - 1]).room) rfl, intK_int, boolZ_eq, ltZ_dec, ifB_if, elast]
          by_cases hd : (s.figs[i]).room < (s.figs[i - 1]).room
          · rw [if_pos (by simpa using hd), if_pos hd, st2]; rfl
          · rw [if_neg (by simpa using hd), if_neg hd, st2, he]
        · have hi0 : i = 0 := by omega
          rw [if_neg (by simp; omega), st2, he]
          subst hi0
          rfl
      · rw [if_neg (by simpa using he), if_neg he, st2]
    have four : ∀ e : Int, P17x4 (rec' T17 (5 * m + 1 + r + 3)) p v (i : Int) q1 e h1 = P17x3 (rec' T17 (5 * m + 1 + r + 2)) p v (i : Int) q1 (e3 s.figs[i] e) h1 := by
      intro e
      unfold P17x4 e3 figNum
      rw [boolZ_eq, eqZ_dec, ifB_if]
      by_cases he : e = 0
      · rw [if_pos (by rw [he]; simp), if_pos he, b1.fld 2 (x := .int .i64 (s.figs[i]).room) rfl, intK_int, show (Int.ofNat 0) = (0 : Int) from rfl, show (Int.ofNat 9) = (9 : Int) from rfl, in60_at, optK_some', pairK_some', boolK_bool, boolN_eq, ifB_if]
        cases x1 : inB 0 9 (s.figs[i]).room with
        | false => rw [if_pos (by rfl), st3]; simp
        | true =>
        rw [if_neg (by simp), b1.fld 3 (x := .int .i64 (s.figs[i]).hi) rfl, intK_int, show (Int.ofNat 1) = (1 : Int) from rfl, show (Int.ofNat 6) = (6 : Int) from rfl, in60_at, optK_some', pairK_some', boolK_bool, boolN_eq, ifB_if]
        cases x2 : inB 1 6 (s.figs[i]).hi with
        | false => rw [if_pos (by rfl), st3]; simp
        | true => rw [if_neg (by simp), st3, he]; simp
      · rw [if_neg (by simpa using he), if_neg he, st3]
    have one : rec' T17 (5 * (m + 1) + 1 + r) 1 (AL.v p (AL.v v (AL.i (i : Int) AL.n))) h = P17x4 (rec' T17 (5 * m + 1 + r + 3)) p v (i : Int) q1 (e2 (s.figs.take i) s.figs[i]) h1 := by
      rw [st]
      unfold P17x1 e2
      rw [a1.fld 1 (x := vf) rfl, s1.len, List.length_map, boolZ_eq, ltZ_dec, ifB_if, if_pos (by simp; omega), a1.fld 1 (x := vf) rfl, hq, haq.loadN (z := 4) hl, hk, b1.fld 0 (x := .string (s.figs[i]).nm) rfl,
        new61_at (s.figs[i]).nm nm1.rows (by rw [List.length_map, List.length_take]; omega), optK_some', pairK_some', intK_int, boolZ_eq, eqZ_dec, ifB_if]
      show (if decide (e1 (s.figs.take i) s.figs[i] = _) = true then _ else _) = _
      by_cases c : e1 (s.figs.take i) s.figs[i] = 0
      · rw [if_pos (by simpa using c), if_pos c, b1.fld 1 (x := .string (s.figs[i]).as_) rfl, name62_at, optK_some', pairK_some', boolK_bool, boolN_eq, ifB_if]
        cases nameB (s.figs[i]).as_.data.toList with
        | false => rw [if_pos (by rfl), st4]; rfl
        | true =>
          rw [if_neg (by simp), st4]
          show P17x4 _ p v (i : Int) q1 (e1 (s.figs.take i) s.figs[i]) h1 = _
          rw [c]; simp
      · rw [if_neg (by simpa using c), if_neg c, st4]
        rfl
    rw [one, four, three, two, e_eq, List.drop_eq_getElem_cons hi]
    unfold firstE
    by_cases e0 : figE (s.figs.take i) (s.figs[i]) = 0
    · rw [if_pos e0, if_pos e0]
      exact ⟨hf, gf, IH⟩
    · rw [if_neg e0, if_neg e0]
      exact ⟨h1, g1, (if_neg e0).symm⟩
theorem truths17_loop {hb : Hp} {s : Sh} {p vf vt : Value} (a : At hb p (shRow s.lines vf vt)) (sf : SlA hb 4 vf (s.figs.map Fg.row)) (st : SlA hb 1 vt (s.ts.map inRow)) (hm : s.figs.length ≤ 6) (hlen : s.ts.length ≤ 6) (r : Nat) : ∀ m i, i + m = s.ts.length →
    rec' T17 (m + 1 + r) 6 (AL.v p (AL.i (i : Int) AL.n)) hb = if (firstE (truthE s.figs.length) s.ts i (s.ts.drop i)).2 = 0 then rec' T17 r 7 AL.n hb else some (trip (3, firstE (truthE s.figs.length) s.ts i (s.ts.drop i)), hb)
  | 0, i, him => by
    have step : rec' T17 (0 + 1 + r) 6 (AL.v p (AL.i (i : Int) AL.n)) hb = P17x6 (rec' T17 r) p (i : Int) hb := by rw [show 0 + 1 + r = r + 1 by omega]; rfl
    rw [step]
    unfold P17x6
    rw [a.fld 2 (x := vt) rfl, st.rows.len, List.length_map, boolZ_eq, ltZ_dec, ifB_if, if_neg (by simp; omega), List.drop_of_length_le (by omega)]
    rfl
  | m + 1, i, him => by
    have hi : i < s.ts.length := by omega
    have hg : (s.ts.map inRow)[i]? = some (inRow s.ts[i]) := by rw [List.getElem?_map, List.getElem?_eq_getElem hi]; rfl
    obtain ⟨q, hq, haq, hl⟩ := st.rows.at hg
    obtain ⟨v', hv', hp⟩ := st.pre und23 size3 (i := i) (by simpa using hi)
    rw [← List.map_take] at hp
    obtain ⟨p1, p2⟩ := pow_le _ hm
    have step : rec' T17 (m + 1 + 1 + r) 6 (AL.v p (AL.i (i : Int) AL.n)) hb = P17x6 (rec' T17 (m + 1 + r)) p (i : Int) hb := by rw [show m + 1 + 1 + r = (m + 1 + r) + 1 by omega]; rfl
    rw [step]
    unfold P17x6
    rw [a.fld 2 (x := vt) rfl, st.rows.len, List.length_map, boolZ_eq, ltZ_dec, ifB_if, if_pos (by simp; omega), a.fld 2 (x := vt) rfl, hq, haq.load1 (x := .int .i64 s.ts[i]) rfl, intK_int, a.fld 1 (x := vf) rfl, sf.rows.len, List.length_map, sets_at _ _ hm, optK_some', pairK_some',
      show (ifB (plainK (Value.int .i64 (2 ^ s.figs.length : Int))) (some (Value.int .i64 (2 ^ s.figs.length : Int), hb)) none : Option (Value × Hp)) = some (Value.int .i64 (2 ^ s.figs.length : Int), hb) from rfl, pairK_some', intK_int,
      show Int.sub (2 ^ s.figs.length) (Int.ofNat 1) = (2 : Int) ^ s.figs.length - 1 from rfl, wrap64_in _ (by omega) (by omega), show (Int.ofNat 0) = (0 : Int) from rfl, in60_at, optK_some', pairK_some', boolK_bool, boolN_eq, ifB_if, List.drop_eq_getElem_cons hi]
    unfold firstE
    cases h1 : inB 0 (2 ^ s.figs.length - 1) s.ts[i] with
    | false =>
      have e7 : truthE s.figs.length (s.ts.take i) (s.ts[i]) = 4 := by unfold truthE; rw [h1]; rfl
      rw [if_pos (by rfl), e7]; rfl
    | true =>
    rw [if_neg (by simp), a.fld 2 (x := vt) rfl, hv', optK_some', a.fld 2 (x := vt) rfl, hq, haq.load1 (x := .int .i64 s.ts[i]) rfl, intK_int, has44_at s.ts[i] hp (by rw [List.length_take]; omega), optK_some', pairK_some', boolK_bool, ifB_if]
    cases h2 : (s.ts.take i).any (fun g => decide (s.ts[i] = g)) with
    | true =>
      have e5 : truthE s.figs.length (s.ts.take i) (s.ts[i]) = 5 := by unfold truthE; rw [h1, h2]; rfl
      rw [if_pos rfl, e5]; rfl
    | false =>
      have e0 : truthE s.figs.length (s.ts.take i) (s.ts[i]) = 0 := by unfold truthE; rw [h1, h2]; rfl
      rw [if_neg (by simp), e0, if_pos rfl, show Int.add (i : Int) (Int.ofNat 1) = ((i + 1 : Nat) : Int) from rfl, wrap64_in _ (by omega) (by omega)]
      exact truths17_loop a sf st hm hlen r m (i + 1) (by omega)
theorem check17_at {h : Hp} (w : Wf h) {s : Sh} {r : List Value} (a : ShA h s r) : ∃ h', F17 [.agg (Array.mk r)] h = some (trip (checkS s), h') := by
  obtain ⟨vf, vt, rfl, sf, st⟩ := a
  have start : F17 [.agg (Array.mk (shRow s.lines vf vt))] h = P17x0 (rec' T17 999999) (.agg (Array.mk (shRow s.lines vf vt))) h := rfl
  rw [start]
  unfold P17x0
  rw [rowCells, allocK_add]
  have w1 := w.add (.cells (shRow s.lines vf vt) 25 none)
  have a1 : At (h.add (.cells (shRow s.lines vf vt) 25 none)) (.pointer (some ⟨h.next, 0, none⟩)) (shRow s.lines vf vt) := At.new
  have gr := (Grew.add w (.cells (shRow s.lines vf vt) 25 none)).sub
  replace sf := sf.sub gr
  replace st := st.sub gr
  clear gr start
  generalize h.add (.cells (shRow s.lines vf vt) 25 none) = hb at w1 a1 sf st ⊢
  generalize Value.pointer (some ⟨h.next, 0, none⟩) = p at a1 ⊢
  unfold checkS
  rw [a1.fld 0 (x := .int .i64 s.lines) rfl, intK_int, show (Int.ofNat 14) = (14 : Int) from rfl, show (Int.ofNat 30) = (30 : Int) from rfl, in60_at, optK_some', pairK_some', boolK_bool, boolN_eq, ifB_if]
  cases c1 : inB 14 30 s.lines with
  | false => rw [if_pos (by rfl), if_pos (by rfl)]; exact ⟨_, rfl⟩
  | true =>
  rw [if_neg (by simp), if_neg (by simp), a1.fld 1 (x := vf) rfl, sf.rows.len, List.length_map, boolZ_eq, ltZ_dec, ifB_if, show (Int.ofNat 6) = (6 : Int) from rfl]
  by_cases l1 : (6 : Int) < (s.figs.length : Int)
  · have x1 : listE 6 figE s.figs = (0, 3) := by unfold listE; rw [if_pos l1]
    rw [if_pos (by simpa using l1), x1, if_pos (by decide)]; exact ⟨_, rfl⟩
  have x1 : listE 6 figE s.figs = firstE figE s.figs 0 s.figs := by unfold listE; rw [if_neg l1]
  rw [if_neg (by simpa using l1), x1]
  obtain ⟨r1, hr1⟩ : ∃ r1, 999999 = 5 * s.figs.length + 1 + (r1 + 1) := ⟨999999 - 5 * s.figs.length - 2, by omega⟩
  obtain ⟨h2, g2, y2⟩ := figs17_loop w1 a1 sf (by omega) (r1 + 1) s.figs.length 0 hb (.slice none 0 0) (Grew.refl w1) (.inl ⟨rfl, by simp⟩) (by omega)
  rw [List.drop_zero, ← hr1] at y2
  rw [show (Int.ofNat 0) = ((0 : Nat) : Int) from rfl, y2]
  by_cases c2 : (firstE figE s.figs 0 s.figs).2 = 0
  case neg => rw [if_neg c2, if_pos (by simpa using c2)]; exact ⟨_, rfl⟩
  rw [if_pos c2, if_neg (by simpa using c2)]
  have st8 : rec' T17 (r1 + 1) 8 (AL.v p AL.n) h2 = P17x8 (rec' T17 r1) p h2 := rfl
  rw [st8]
  unfold P17x8
  have a2 := a1.sub g2.sub
  have sf2 := sf.sub g2.sub
  have st2 := st.sub g2.sub
  rw [a2.fld 2 (x := vt) rfl, st2.rows.len, List.length_map, show (Int.ofNat 1) = (1 : Int) from rfl, show (Int.ofNat 6) = (6 : Int) from rfl, in60_at, optK_some', pairK_some', boolK_bool, boolN_eq, ifB_if]
  by_cases c3 : s.ts.length = 0
  · rw [if_pos (by rw [c3]; rfl), if_pos c3]; exact ⟨_, rfl⟩
  rw [if_neg c3]
  by_cases l2 : (6 : Int) < (s.ts.length : Int)
  · have x2 : listE 6 (truthE s.figs.length) s.ts = (0, 3) := by unfold listE; rw [if_pos l2]
    have : inB 1 6 (s.ts.length : Int) = false := by
      cases c : inB 1 6 (s.ts.length : Int) with
      | false => rfl
      | true => have := (inB_iff.1 c).2; omega
    rw [if_pos (by rw [this]; rfl), x2, if_pos (by decide)]; exact ⟨_, rfl⟩
  have x2 : listE 6 (truthE s.figs.length) s.ts = firstE (truthE s.figs.length) s.ts 0 s.ts := by unfold listE; rw [if_neg l2]
  have hin : inB 1 6 (s.ts.length : Int) = true := inB_iff.2 ⟨by omega, by omega⟩
  rw [if_neg (by rw [hin]; simp), x2]
  obtain ⟨r2, hr2⟩ : ∃ r2, r1 = s.ts.length + 1 + (r2 + 1) := ⟨r1 - s.ts.length - 2, by omega⟩
  have y3 := truths17_loop a2 sf2 st2 (by omega) (by omega) (r2 + 1) s.ts.length 0 (by omega)
  rw [List.drop_zero, ← hr2] at y3
  rw [show (Int.ofNat 0) = ((0 : Nat) : Int) from rfl, y3]
  by_cases c4 : (firstE (truthE s.figs.length) s.ts 0 s.ts).2 = 0
  case neg => rw [if_neg c4, if_pos (by simpa using c4)]; exact ⟨_, rfl⟩
  rw [if_pos c4, if_neg (by simpa using c4)]
  exact ⟨_, rfl⟩
theorem valid41_at {h : Hp} (w : Wf h) {s : Sh} {r : List Value} (a : ShA h s r) : ∃ h', F41 [.agg (Array.mk r)] h = some (.bool (decide ((checkS s).2.2 = 0)), h') := by
  have start : F41 [.agg (Array.mk r)] h = P41x0 (rec' T41 999999) (.agg (Array.mk r)) h := rfl
  rw [start]
  unfold P41x0
  have hr3 := a.len
  rw [rowCells, allocK_add]
  have g0 := Grew.add w (.cells r 25 none)
  have a0 : At (h.add (.cells r 25 none)) (.pointer (some ⟨h.next, 0, none⟩)) r := At.new
  obtain ⟨h2, e2⟩ := check17_at (h := shutH (h.add (.cells r 25 none))) (wfShut g0.wf) (a.sub g0.sub)
  rw [a0.loadN (z := 3) hr3, callQ_plain1 e2 rfl, pairK_some']
  unfold trip
  rw [extK_at (v := .int .i64 (checkS s).1) rfl, intK_int, extK_at (v := .int .i64 (checkS s).2.1) rfl, intK_int, extK_at (v := .int .i64 (checkS s).2.2) rfl, intK_int, boolZ_eq, eqZ_dec]
  exact ⟨_, rfl⟩
end Go.Proofs.YtpjflnjlmjnmjaaGreatDoor.K.L
