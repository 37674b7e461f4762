/- Contracts of told functions: the reference's Check. -/
import Derived.Test.YtaegcofpbihmhaaS8
open Go Go.Eng
set_option maxRecDepth 100000
set_option linter.unusedVariables false
namespace Go.Proofs.Ytaegcofpbihmhaa.K.L
theorem any_nm {α : Type} (f : α → ByteArray) (l : List α) (s : ByteArray) : (l.map f).any (fun x => sameNm x s) = l.any (fun x => sameNm (f x) s) := by
  rw [List.any_map]; rfl
theorem take_succ_map {α β : Type} (f : α → β) (l : List α) (i : Nat) (hi : i < l.length) : (l.take i).map f ++ [f l[i]] = (l.take (i + 1)).map f := by
  rw [List.take_succ_eq_append_getElem hi, List.map_append]; rfl
theorem gowns_loop {hb : Hp} (w : Wf hb) {p vg vf vi : Value} {s : Sh} (a : At hb p [vg, vf, .int .i64 s.purse, vi]) (sg : SlA hb 8 vg (s.gs.map Gw.row)) (hlen : s.gs.length ≤ 5) (r : Nat) : ∀ m i (h : Hp) (v : Value), Grew hb h → NmA hb h v ((s.gs.take i).map Gw.nm) → i + m = s.gs.length →
    ∃ h', Grew hb h' ∧ rec' T9 (3 * m + 1 + r) 1 (AL.v p (AL.v v (AL.i (i : Int) AL.n))) h = if (firstE gownE s.gs i (s.gs.drop i)).2 = 0 then rec' T9 r 10 (AL.v p AL.n) h' else some (trip (1, firstE gownE s.gs i (s.gs.drop i)), h')
  | 0, i, h, v, g, nm, him => by
    refine ⟨h, g, ?_⟩
    have st : rec' T9 (3 * 0 + 1 + r) 1 (AL.v p (AL.v v (AL.i (i : Int) AL.n))) h = P9x1 (rec' T9 r) p v (i : Int) h := by rw [show 3 * 0 + 1 + r = r + 1 by omega]; rfl
    rw [st]
    unfold P9x1
    try unfold ki
    have a1 := a.sub g.sub
    have s1 := (sg.sub g.sub).rows
    rw [a1.fld 0 (x := vg) rfl, s1.len, List.length_map, boolZ_eq, ltZ_dec, ifB_if, if_neg (by simp; omega), List.drop_of_length_le (by omega)]
    rfl
  | m + 1, i, h, v, g, nm, him => by
    have hi : i < s.gs.length := by omega
    have hg : (s.gs.map Gw.row)[i]? = some (s.gs[i]).row := by rw [List.getElem?_map, List.getElem?_eq_getElem hi]; rfl
    have a1 := a.sub g.sub
    have s1 := (sg.sub g.sub).rows
    obtain ⟨q, hq, haq, hl⟩ := s1.at hg
    have st : rec' T9 (3 * (m + 1) + 1 + r) 1 (AL.v p (AL.v v (AL.i (i : Int) AL.n))) h = P9x1 (rec' T9 (3 * m + 1 + r + 2)) p v (i : Int) h := by rw [show 3 * (m + 1) + 1 + r = (3 * m + 1 + r + 2) + 1 by omega]; rfl
    have st2 : ∀ (v : Value) (e : Int) (h : Hp), rec' T9 (3 * m + 1 + r + 2) 2 (AL.v p (AL.v v (AL.i (i : Int) (AL.i e AL.n)))) h = P9x2 (rec' T9 (3 * m + 1 + r + 1)) p v (i : Int) e h := fun v e h => rfl
    have st3 : ∀ (v : Value) (h : Hp), rec' T9 (3 * m + 1 + r + 1) 3 (AL.v p (AL.v v (AL.i (i : Int) AL.n))) h = P9x3 (rec' T9 (3 * m + 1 + r)) p v (i : Int) h := fun v h => rfl
    obtain ⟨v', h', hap, g', nm'⟩ := append_nm w g nm (by rw [List.length_map, List.length_take]; omega) (s.gs[i]).nm
    rw [take_succ_map] at nm'
    have haq' := (haq.sub (show Sub h h from fun _ _ e => e))
    have r' := ((sg.sub g'.sub).rows)
    obtain ⟨q', hq', haq', hl'⟩ := r'.at hg
    have a' := a.sub g'.sub
    obtain ⟨hf, gf, IH⟩ := gowns_loop w a sg hlen r m (i + 1) h' v' g' nm' (by omega)
    have two : ∀ e : Int, P9x2 (rec' T9 (3 * m + 1 + r + 1)) p v' (i : Int) e h' = if e = 0 then rec' T9 (3 * m + 1 + r) 1 (AL.v p (AL.v v' (AL.i ((i + 1 : Nat) : Int) AL.n))) h' else some (trip (1, (i : Int), e), h') := by
      intro e
      unfold P9x2
      try unfold ki
      rw [boolN_eq, eqZ_dec, ifB_if]
      by_cases he : e = 0
      · rw [if_neg (by rw [he]; simp), if_pos he, st3]
        unfold P9x3
        try unfold ki
        rw [show Int.add (i : Int) (Int.ofNat 1) = ((i + 1 : Nat) : Int) from rfl, wrap64_in _ (by omega) (by omega)]
      · rw [if_pos (by simpa using he), if_neg he]; rfl
    have key : rec' T9 (3 * (m + 1) + 1 + r) 1 (AL.v p (AL.v v (AL.i (i : Int) AL.n))) h = P9x2 (rec' T9 (3 * m + 1 + r + 1)) p v' (i : Int) (gownE (s.gs.take i) (s.gs[i])) h' := by
      rw [st]
      unfold P9x1
      try unfold ki
      rw [a1.fld 0 (x := vg) rfl, s1.len, List.length_map, boolZ_eq, ltZ_dec, ifB_if, if_pos (by simp; omega), a1.fld 0 (x := vg) rfl, hq, haq.fld 0 (x := .string (s.gs[i]).nm) rfl,
        new36_at (s.gs[i]).nm nm.rows (by rw [List.length_map, List.length_take]; omega), optK_some', pairK_some', intK_int, a1.fld 0 (x := vg) rfl, hq, haq.fld 0 (x := .string (s.gs[i]).nm) rfl, one74, pairK_some', hap, pairK_some', boolZ_eq, eqZ_dec, ifB_if]
      cases hn : nameB (s.gs[i]).nm.data.toList with
      | false =>
        rw [show newE (s.gs[i]).nm ((s.gs.take i).map Gw.nm) = 6 from by unfold newE; rw [hn]; rfl, show gownE (s.gs.take i) (s.gs[i]) = 6 from by unfold gownE; rw [hn]; rfl, if_neg (by decide), st2]
      | true =>
      cases hc : (s.gs.take i).any (fun x => sameNm x.nm (s.gs[i]).nm) with
      | true =>
        rw [show newE (s.gs[i]).nm ((s.gs.take i).map Gw.nm) = 5 from by unfold newE; rw [hn, any_nm, hc]; rfl, show gownE (s.gs.take i) (s.gs[i]) = 5 from by unfold gownE; rw [hn, hc]; rfl, if_neg (by decide), st2]
      | false =>
      rw [show newE (s.gs[i]).nm ((s.gs.take i).map Gw.nm) = 0 from by unfold newE; rw [hn, any_nm, hc]; rfl, if_pos (by decide), a'.fld 0 (x := vg) rfl, hq', haq'.loadN (z := 8) hl', gown37_at, optK_some', pairK_some', boolK_bool, boolN_eq, ifB_if]
      cases h1 : inB 0 15 (s.gs[i]).looks with
      | false => rw [show gownE (s.gs.take i) (s.gs[i]) = 7 from by unfold gownE; rw [hn, hc, h1]; rfl, if_pos (by simp), st2]; rfl
      | true =>
      cases h2 : statedB (s.gs[i]) with
      | false => rw [show gownE (s.gs.take i) (s.gs[i]) = 7 from by unfold gownE; rw [hn, hc, h1, h2]; rfl, if_pos (by simp), st2]; rfl
      | true => rw [show gownE (s.gs.take i) (s.gs[i]) = 0 from by unfold gownE; rw [hn, hc, h1, h2]; rfl, if_neg (by simp), st2]
    rw [key, two, List.drop_eq_getElem_cons hi]
    unfold firstE
    by_cases e0 : gownE (s.gs.take i) (s.gs[i]) = 0
    · rw [if_pos e0, if_pos e0]
      exact ⟨hf, gf, IH⟩
    · rw [if_neg e0, if_neg e0]
      exact ⟨h', g', (if_neg e0).symm⟩
theorem figs_loop {hb : Hp} (w : Wf hb) {p vg vf vi : Value} {s : Sh} (a : At hb p [vg, vf, .int .i64 s.purse, vi]) (sg : SlA hb 4 vf (s.fs.map Fg.row)) (hlen : s.fs.length ≤ 3) (r : Nat) : ∀ m i (h : Hp) (v : Value), Grew hb h → NmA hb h v ((s.fs.take i).map Fg.nm) → i + m = s.fs.length →
    ∃ h', Grew hb h' ∧ rec' T9 (3 * m + 1 + r) 4 (AL.v p (AL.v v (AL.i (i : Int) AL.n))) h = if (firstE figE s.fs i (s.fs.drop i)).2 = 0 then rec' T9 r 9 (AL.v p AL.n) h' else some (trip (2, firstE figE s.fs i (s.fs.drop i)), h')
  | 0, i, h, v, g, nm, him => by
    refine ⟨h, g, ?_⟩
    have st : rec' T9 (3 * 0 + 1 + r) 4 (AL.v p (AL.v v (AL.i (i : Int) AL.n))) h = P9x4 (rec' T9 r) p v (i : Int) h := by rw [show 3 * 0 + 1 + r = r + 1 by omega]; rfl
    rw [st]
    unfold P9x4
    try unfold ki
    have a1 := a.sub g.sub
    have s1 := (sg.sub g.sub).rows
    rw [a1.fld 1 (x := vf) rfl, s1.len, List.length_map, boolZ_eq, ltZ_dec, ifB_if, if_neg (by simp; omega), List.drop_of_length_le (by omega)]
    rfl
  | m + 1, i, h, v, g, nm, him => by
    have hi : i < s.fs.length := by omega
    have hg : (s.fs.map Fg.row)[i]? = some (s.fs[i]).row := by rw [List.getElem?_map, List.getElem?_eq_getElem hi]; rfl
    have a1 := a.sub g.sub
    have s1 := (sg.sub g.sub).rows
    obtain ⟨q, hq, haq, hl⟩ := s1.at hg
    have st : rec' T9 (3 * (m + 1) + 1 + r) 4 (AL.v p (AL.v v (AL.i (i : Int) AL.n))) h = P9x4 (rec' T9 (3 * m + 1 + r + 2)) p v (i : Int) h := by rw [show 3 * (m + 1) + 1 + r = (3 * m + 1 + r + 2) + 1 by omega]; rfl
    have st2 : ∀ (v : Value) (e : Int) (h : Hp), rec' T9 (3 * m + 1 + r + 2) 5 (AL.v p (AL.v v (AL.i (i : Int) (AL.i e AL.n)))) h = P9x5 (rec' T9 (3 * m + 1 + r + 1)) p v (i : Int) e h := fun v e h => rfl
    have st3 : ∀ (v : Value) (h : Hp), rec' T9 (3 * m + 1 + r + 1) 6 (AL.v p (AL.v v (AL.i (i : Int) AL.n))) h = P9x6 (rec' T9 (3 * m + 1 + r)) p v (i : Int) h := fun v h => rfl
    obtain ⟨v', h', hap, g', nm'⟩ := append_nm w g nm (by rw [List.length_map, List.length_take]; omega) (s.fs[i]).nm
    rw [take_succ_map] at nm'
    have haq' := (haq.sub (show Sub h h from fun _ _ e => e))
    have r' := ((sg.sub g'.sub).rows)
    obtain ⟨q', hq', haq', hl'⟩ := r'.at hg
    have a' := a.sub g'.sub
    obtain ⟨hf, gf, IH⟩ := figs_loop w a sg hlen r m (i + 1) h' v' g' nm' (by omega)
    have two : ∀ e : Int, P9x5 (rec' T9 (3 * m + 1 + r + 1)) p v' (i : Int) e h' = if e = 0 then rec' T9 (3 * m + 1 + r) 4 (AL.v p (AL.v v' (AL.i ((i + 1 : Nat) : Int) AL.n))) h' else some (trip (2, (i : Int), e), h') := by
      intro e
      unfold P9x5
      try unfold ki
      rw [boolN_eq, eqZ_dec, ifB_if]
      by_cases he : e = 0
      · rw [if_neg (by rw [he]; simp), if_pos he, st3]
        unfold P9x6
        try unfold ki
        rw [show Int.add (i : Int) (Int.ofNat 1) = ((i + 1 : Nat) : Int) from rfl, wrap64_in _ (by omega) (by omega)]
      · rw [if_pos (by simpa using he), if_neg he]; rfl
    have key : rec' T9 (3 * (m + 1) + 1 + r) 4 (AL.v p (AL.v v (AL.i (i : Int) AL.n))) h = P9x5 (rec' T9 (3 * m + 1 + r + 1)) p v' (i : Int) (figE (s.fs.take i) (s.fs[i])) h' := by
      rw [st]
      unfold P9x4
      try unfold ki
      rw [a1.fld 1 (x := vf) rfl, s1.len, List.length_map, boolZ_eq, ltZ_dec, ifB_if, if_pos (by simp; omega), a1.fld 1 (x := vf) rfl, hq, haq.fld 0 (x := .string (s.fs[i]).nm) rfl,
        new36_at (s.fs[i]).nm nm.rows (by rw [List.length_map, List.length_take]; omega), optK_some', pairK_some', intK_int, a1.fld 1 (x := vf) rfl, hq, haq.fld 0 (x := .string (s.fs[i]).nm) rfl, one74, pairK_some', hap, pairK_some', boolZ_eq, eqZ_dec, ifB_if]
      cases hn : nameB (s.fs[i]).nm.data.toList with
      | false =>
        rw [show newE (s.fs[i]).nm ((s.fs.take i).map Fg.nm) = 6 from by unfold newE; rw [hn]; rfl, show figE (s.fs.take i) (s.fs[i]) = 6 from by unfold figE; rw [hn]; rfl, if_neg (by decide), st2]
      | true =>
      cases hc : (s.fs.take i).any (fun x => sameNm x.nm (s.fs[i]).nm) with
      | true =>
        rw [show newE (s.fs[i]).nm ((s.fs.take i).map Fg.nm) = 5 from by unfold newE; rw [hn, any_nm, hc]; rfl, show figE (s.fs.take i) (s.fs[i]) = 5 from by unfold figE; rw [hn, hc]; rfl, if_neg (by decide), st2]
      | false =>
      rw [show newE (s.fs[i]).nm ((s.fs.take i).map Fg.nm) = 0 from by unfold newE; rw [hn, any_nm, hc]; rfl, if_pos (by decide), a'.fld 1 (x := vf) rfl, hq', haq'.loadN (z := 4) hl', fig38_at, optK_some', pairK_some', intK_int, st2, show figE (s.fs.take i) (s.fs[i]) = (if !(inB 0 364 (s.fs[i]).day && inB 0 364 (s.fs[i]).til) then 7 else if !(inB 0 15 (s.fs[i]).needs) then 7 else if (s.fs[i]).til < (s.fs[i]).day then 2 else 0) from by unfold figE; rw [hn, hc]; rfl]
    rw [key, two, List.drop_eq_getElem_cons hi]
    unfold firstE
    by_cases e0 : figE (s.fs.take i) (s.fs[i]) = 0
    · rw [if_pos e0, if_pos e0]
      exact ⟨hf, gf, IH⟩
    · rw [if_neg e0, if_neg e0]
      exact ⟨h', g', (if_neg e0).symm⟩
end Go.Proofs.Ytaegcofpbihmhaa.K.L
