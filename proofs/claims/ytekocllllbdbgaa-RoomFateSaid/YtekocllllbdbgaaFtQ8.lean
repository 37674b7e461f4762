/- Contracts of told functions: the reference's Check. -/
import Derived.Test.YtekocllllbdbgaaFtQ7
open Go Go.Eng
set_option maxRecDepth 100000
set_option linter.unusedVariables false
namespace Go.Proofs.Ytekocllllbdbgaa.K.L
theorem pls_loop {hb : Hp} (w : Wf hb) {s : Ho} {p vh vp vf vb : Value} (a : At hb p (hoRow s.we s.stoves vh vp vf vb)) (sg : SlA hb 4 vp (s.pls.map Pl.row)) (sw : ∀ g ∈ s.pls, SlA hb 2 g.vw (g.ws.map Sp.row)) (sh : SlA hb 1 vh (s.holds.map inRow)) (hl4 : s.holds.length ≤ 4) (hst : s.stoves ≤ 3) (hlen : s.pls.length ≤ 5) (r : Nat) : ∀ m i (h : Hp) (v : Value), Grew hb h → NmA hb h v ((s.pls.take i).map Pl.nm) → i + m = s.pls.length →
    ∃ h', Grew hb h' ∧ rec' T14 (3 * m + 1 + r) 2 (AL.v p (AL.v v (AL.i (i : Int) AL.n))) h = if (firstE (placeE s.stoves s.holds.length) s.pls i (s.pls.drop i)).2 = 0 then rec' T14 r 11 (AL.v p AL.n) h' else some (trip (4, firstE (placeE s.stoves s.holds.length) s.pls i (s.pls.drop i)), h')
  | 0, i, h, v, g, nm, him => by
    refine ⟨h, g, ?_⟩
    have st : rec' T14 (3 * 0 + 1 + r) 2 (AL.v p (AL.v v (AL.i (i : Int) AL.n))) h = P14x2 (rec' T14 r) p v (i : Int) h := by rw [show 3 * 0 + 1 + r = r + 1 by omega]; rfl
    rw [st]
    unfold P14x2
    have a1 := a.sub g.sub
    have s1 := (sg.sub g.sub).rows
    rw [a1.fld 4 (x := vp) rfl, s1.len, List.length_map, boolZ_eq, ltZ_dec, ifB_if, if_neg (by simp; omega), List.drop_of_length_le (by omega)]
    rfl
  | m + 1, i, h, v, g, nm, him => by
    have hi : i < s.pls.length := by omega
    have hg : (s.pls.map Pl.row)[i]? = some (s.pls[i]).row := by rw [List.getElem?_map, List.getElem?_eq_getElem hi]; rfl
    have a1 := a.sub g.sub
    have s1 := (sg.sub g.sub).rows
    obtain ⟨q, hq, haq, hl⟩ := s1.at hg
    have st : rec' T14 (3 * (m + 1) + 1 + r) 2 (AL.v p (AL.v v (AL.i (i : Int) AL.n))) h = P14x2 (rec' T14 (3 * m + 1 + r + 2)) p v (i : Int) h := by rw [show 3 * (m + 1) + 1 + r = (3 * m + 1 + r + 2) + 1 by omega]; rfl
    have st2 : ∀ (v : Value) (e : Int) (h : Hp), rec' T14 (3 * m + 1 + r + 2) 3 (AL.v p (AL.i e (AL.v v (AL.i (i : Int) AL.n)))) h = P14x3 (rec' T14 (3 * m + 1 + r + 1)) p e v (i : Int) h := fun v e h => rfl
    have st3 : ∀ (v : Value) (h : Hp), rec' T14 (3 * m + 1 + r + 1) 4 (AL.v p (AL.v v (AL.i (i : Int) AL.n))) h = P14x4 (rec' T14 (3 * m + 1 + r)) p v (i : Int) h := fun v h => rfl
    obtain ⟨v', h', hap, g', nm'⟩ := append_nm w g nm (by rw [List.length_map, List.length_take]; omega) (s.pls[i]).nm
    rw [take_succ_map] at nm'
    obtain ⟨hf, gf, IH⟩ := pls_loop w a sg sw sh hl4 hst hlen r m (i + 1) h' v' g' nm' (by omega)
    have two : ∀ e : Int, P14x3 (rec' T14 (3 * m + 1 + r + 1)) p e v (i : Int) h = if e = 0 then rec' T14 (3 * m + 1 + r) 2 (AL.v p (AL.v v' (AL.i ((i + 1 : Nat) : Int) AL.n))) h' else some (trip (4, (i : Int), e), h) := by
      intro e
      unfold P14x3
      rw [boolN_eq, eqZ_dec, ifB_if]
      by_cases he : e = 0
      · rw [if_neg (by rw [he]; simp), if_pos he, a1.fld 4 (x := vp) rfl, hq, haq.fld 0 (x := .string (s.pls[i]).nm) rfl, one92, pairK_some', hap, pairK_some', st3]
        unfold P14x4
        rw [show Int.add (i : Int) (Int.ofNat 1) = ((i + 1 : Nat) : Int) from rfl, wrap64_in _ (by omega) (by omega)]
      · rw [if_pos (by simpa using he), if_neg he]; rfl
    have key : rec' T14 (3 * (m + 1) + 1 + r) 2 (AL.v p (AL.v v (AL.i (i : Int) AL.n))) h = P14x3 (rec' T14 (3 * m + 1 + r + 1)) p ((placeE s.stoves s.holds.length) (s.pls.take i) (s.pls[i])) v (i : Int) h := by
      rw [st]
      unfold P14x2
      rw [a1.fld 4 (x := vp) rfl, s1.len, List.length_map, boolZ_eq, ltZ_dec, ifB_if, if_pos (by simp; omega), a1.fld 4 (x := vp) rfl, hq, haq.fld 0 (x := .string (s.pls[i]).nm) rfl,
        new55_at (s.pls[i]).nm nm.rows (by rw [List.length_map, List.length_take]; omega), optK_some', pairK_some', intK_int, boolZ_eq, eqZ_dec, ifB_if]
      cases hn : nameB (s.pls[i]).nm.data.toList with
      | false =>
        rw [show newE (s.pls[i]).nm ((s.pls.take i).map Pl.nm) = 6 from by unfold newE; rw [hn]; rfl, show (placeE s.stoves s.holds.length) (s.pls.take i) (s.pls[i]) = 6 from by unfold placeE; rw [hn]; rfl, if_neg (by decide), st2]
      | true =>
      cases hc : (s.pls.take i).any (fun x => sameNm x.nm (s.pls[i]).nm) with
      | true =>
        rw [show newE (s.pls[i]).nm ((s.pls.take i).map Pl.nm) = 5 from by unfold newE; rw [hn, any_nm, hc]; rfl, show (placeE s.stoves s.holds.length) (s.pls.take i) (s.pls[i]) = 5 from by unfold placeE; rw [hn, hc]; rfl, if_neg (by decide), st2]
      | false =>
      rw [show newE (s.pls[i]).nm ((s.pls.take i).map Pl.nm) = 0 from by unfold newE; rw [hn, any_nm, hc]; rfl, if_pos (by decide), a1.loadN (z := 7) rfl, a1.fld 4 (x := vp) rfl, hq, haq.loadN (z := 4) hl, place56_at s.we s.stoves vh vp vf vb (sh.sub g.sub) hl4 (s.pls[i]) ((sw _ (List.getElem_mem hi)).sub g.sub) hst, optK_some', pairK_some', intK_int, st2, show (placeE s.stoves s.holds.length) (s.pls.take i) (s.pls[i]) = placeN s.stoves s.holds.length (s.pls[i]) from by unfold placeE; rw [hn, hc]; rfl]
    rw [key, two, List.drop_eq_getElem_cons hi]
    unfold firstE
    by_cases e0 : (placeE s.stoves s.holds.length) (s.pls.take i) (s.pls[i]) = 0
    · rw [if_pos e0, if_pos e0]
      exact ⟨hf, gf, IH⟩
    · rw [if_neg e0, if_neg e0]
      exact ⟨h, g, (if_neg e0).symm⟩
theorem figs_loop {hb : Hp} (w : Wf hb) {s : Ho} {p vh vp vf vb : Value} (a : At hb p (hoRow s.we s.stoves vh vp vf vb)) (sg : SlA hb 6 vf (s.figs.map Fi.row))  (hlen : s.figs.length ≤ 5) (r : Nat) : ∀ m i (h : Hp) (v : Value), Grew hb h → NmA hb h v ((s.figs.take i).map Fi.nm) → i + m = s.figs.length →
    ∃ h', Grew hb h' ∧ rec' T14 (3 * m + 1 + r) 5 (AL.v p (AL.v v (AL.i (i : Int) AL.n))) h = if (firstE figE s.figs i (s.figs.drop i)).2 = 0 then rec' T14 r 10 (AL.v p AL.n) h' else some (trip (5, firstE figE s.figs i (s.figs.drop i)), h')
  | 0, i, h, v, g, nm, him => by
    refine ⟨h, g, ?_⟩
    have st : rec' T14 (3 * 0 + 1 + r) 5 (AL.v p (AL.v v (AL.i (i : Int) AL.n))) h = P14x5 (rec' T14 r) p v (i : Int) h := by rw [show 3 * 0 + 1 + r = r + 1 by omega]; rfl
    rw [st]
    unfold P14x5
    have a1 := a.sub g.sub
    have s1 := (sg.sub g.sub).rows
    rw [a1.fld 5 (x := vf) rfl, s1.len, List.length_map, boolZ_eq, ltZ_dec, ifB_if, if_neg (by simp; omega), List.drop_of_length_le (by omega)]
    rfl
  | m + 1, i, h, v, g, nm, him => by
    have hi : i < s.figs.length := by omega
    have hg : (s.figs.map Fi.row)[i]? = some (s.figs[i]).row := by rw [List.getElem?_map, List.getElem?_eq_getElem hi]; rfl
    have a1 := a.sub g.sub
    have s1 := (sg.sub g.sub).rows
    obtain ⟨q, hq, haq, hl⟩ := s1.at hg
    have st : rec' T14 (3 * (m + 1) + 1 + r) 5 (AL.v p (AL.v v (AL.i (i : Int) AL.n))) h = P14x5 (rec' T14 (3 * m + 1 + r + 2)) p v (i : Int) h := by rw [show 3 * (m + 1) + 1 + r = (3 * m + 1 + r + 2) + 1 by omega]; rfl
    have st2 : ∀ (v : Value) (e : Int) (h : Hp), rec' T14 (3 * m + 1 + r + 2) 6 (AL.v p (AL.i e (AL.v v (AL.i (i : Int) AL.n)))) h = P14x6 (rec' T14 (3 * m + 1 + r + 1)) p e v (i : Int) h := fun v e h => rfl
    have st3 : ∀ (v : Value) (h : Hp), rec' T14 (3 * m + 1 + r + 1) 7 (AL.v p (AL.v v (AL.i (i : Int) AL.n))) h = P14x7 (rec' T14 (3 * m + 1 + r)) p v (i : Int) h := fun v h => rfl
    obtain ⟨v', h', hap, g', nm'⟩ := append_nm w g nm (by rw [List.length_map, List.length_take]; omega) (s.figs[i]).nm
    rw [take_succ_map] at nm'
    obtain ⟨hf, gf, IH⟩ := figs_loop w a sg hlen r m (i + 1) h' v' g' nm' (by omega)
    have two : ∀ e : Int, P14x6 (rec' T14 (3 * m + 1 + r + 1)) p e v (i : Int) h = if e = 0 then rec' T14 (3 * m + 1 + r) 5 (AL.v p (AL.v v' (AL.i ((i + 1 : Nat) : Int) AL.n))) h' else some (trip (5, (i : Int), e), h) := by
      intro e
      unfold P14x6
      rw [boolN_eq, eqZ_dec, ifB_if]
      by_cases he : e = 0
      · rw [if_neg (by rw [he]; simp), if_pos he, a1.fld 5 (x := vf) rfl, hq, haq.fld 0 (x := .string (s.figs[i]).nm) rfl, one92, pairK_some', hap, pairK_some', st3]
        unfold P14x7
        rw [show Int.add (i : Int) (Int.ofNat 1) = ((i + 1 : Nat) : Int) from rfl, wrap64_in _ (by omega) (by omega)]
      · rw [if_pos (by simpa using he), if_neg he]; rfl
    have key : rec' T14 (3 * (m + 1) + 1 + r) 5 (AL.v p (AL.v v (AL.i (i : Int) AL.n))) h = P14x6 (rec' T14 (3 * m + 1 + r + 1)) p (figE (s.figs.take i) (s.figs[i])) v (i : Int) h := by
      rw [st]
      unfold P14x5
      rw [a1.fld 5 (x := vf) rfl, s1.len, List.length_map, boolZ_eq, ltZ_dec, ifB_if, if_pos (by simp; omega), a1.fld 5 (x := vf) rfl, hq, haq.fld 0 (x := .string (s.figs[i]).nm) rfl,
        new55_at (s.figs[i]).nm nm.rows (by rw [List.length_map, List.length_take]; omega), optK_some', pairK_some', intK_int, boolZ_eq, eqZ_dec, ifB_if]
      cases hn : nameB (s.figs[i]).nm.data.toList with
      | false =>
        rw [show newE (s.figs[i]).nm ((s.figs.take i).map Fi.nm) = 6 from by unfold newE; rw [hn]; rfl, show figE (s.figs.take i) (s.figs[i]) = 6 from by unfold figE; rw [hn]; rfl, if_neg (by decide), st2]
      | true =>
      cases hc : (s.figs.take i).any (fun x => sameNm x.nm (s.figs[i]).nm) with
      | true =>
        rw [show newE (s.figs[i]).nm ((s.figs.take i).map Fi.nm) = 5 from by unfold newE; rw [hn, any_nm, hc]; rfl, show figE (s.figs.take i) (s.figs[i]) = 5 from by unfold figE; rw [hn, hc]; rfl, if_neg (by decide), st2]
      | false =>
      rw [show newE (s.figs[i]).nm ((s.figs.take i).map Fi.nm) = 0 from by unfold newE; rw [hn, any_nm, hc]; rfl, if_pos (by decide), a1.fld 5 (x := vf) rfl, hq, haq.loadN (z := 6) hl, fig57_at, optK_some', pairK_some', intK_int, st2, show figE (s.figs.take i) (s.figs[i]) = (if !(figNum (s.figs[i])) then 7 else if (s.figs[i]).sl < (s.figs[i]).cr then 2 else 0) from by unfold figE; rw [hn, hc]; rfl]
    rw [key, two, List.drop_eq_getElem_cons hi]
    unfold firstE
    by_cases e0 : figE (s.figs.take i) (s.figs[i]) = 0
    · rw [if_pos e0, if_pos e0]
      exact ⟨hf, gf, IH⟩
    · rw [if_neg e0, if_neg e0]
      exact ⟨h, g, (if_neg e0).symm⟩
theorem holds_loop {hb : Hp} {s : Ho} {p vh vp vf vb : Value} (a : At hb p (hoRow s.we s.stoves vh vp vf vb)) (si : SlA hb 1 vh (s.holds.map inRow)) (hlen : s.holds.length ≤ 5) (r : Nat) : ∀ m i, i + m = s.holds.length →
    rec' T14 (m + 1 + r) 1 (AL.v p (AL.i (i : Int) AL.n)) hb = if (firstE holdE s.holds i (s.holds.drop i)).2 = 0 then rec' T14 r 12 (AL.v p AL.n) hb else some (trip (3, firstE holdE s.holds i (s.holds.drop i)), hb)
  | 0, i, him => by
    have st : rec' T14 (0 + 1 + r) 1 (AL.v p (AL.i (i : Int) AL.n)) hb = P14x1 (rec' T14 r) p (i : Int) hb := by rw [show 0 + 1 + r = r + 1 by omega]; rfl
    rw [st]
    unfold P14x1
    rw [a.fld 3 (x := vh) rfl, si.rows.len, List.length_map, boolZ_eq, ltZ_dec, ifB_if, if_neg (by simp; omega), List.drop_of_length_le (by omega)]
    rfl
  | m + 1, i, him => by
    have hi : i < s.holds.length := by omega
    have hg : (s.holds.map inRow)[i]? = some (inRow s.holds[i]) := by rw [List.getElem?_map, List.getElem?_eq_getElem hi]; rfl
    obtain ⟨q, hq, haq, hl⟩ := si.rows.at hg
    have st : rec' T14 (m + 1 + 1 + r) 1 (AL.v p (AL.i (i : Int) AL.n)) hb = P14x1 (rec' T14 (m + 1 + r)) p (i : Int) hb := by rw [show m + 1 + 1 + r = (m + 1 + r) + 1 by omega]; rfl
    rw [st]
    unfold P14x1
    rw [a.fld 3 (x := vh) rfl, si.rows.len, List.length_map, boolZ_eq, ltZ_dec, ifB_if, if_pos (by simp; omega), a.fld 3 (x := vh) rfl, hq, haq.load1 (x := .int .i64 s.holds[i]) rfl, intK_int, in54_at, optK_some', pairK_some', boolK_bool, boolN_eq, ifB_if, List.drop_eq_getElem_cons hi, show (Int.ofNat 0) = (0 : Int) from rfl, show (Int.ofNat 2000) = (2000 : Int) from rfl]
    unfold firstE
    cases h1 : inB 0 2000 s.holds[i] with
    | false =>
      have e7 : holdE (s.holds.take i) (s.holds[i]) = 7 := by unfold holdE; rw [h1]; rfl
      rw [if_pos (by rfl), e7]; rfl
    | true =>
      have e0 : holdE (s.holds.take i) (s.holds[i]) = 0 := by unfold holdE; rw [h1]; rfl
      rw [if_neg (by simp), e0, if_pos rfl, show Int.add (i : Int) (Int.ofNat 1) = ((i + 1 : Nat) : Int) from rfl, wrap64_in _ (by omega) (by omega)]
      exact holds_loop a si hlen r m (i + 1) (by omega)
theorem bill_loop {hb : Hp} {s : Ho} {p vh vp vf vb : Value} (a : At hb p (hoRow s.we s.stoves vh vp vf vb)) (si : SlA hb 1 vb (s.bill.map inRow)) (hlen : s.bill.length ≤ 5) (r : Nat) : ∀ m i, i + m = s.bill.length →
    rec' T14 (m + 1 + r) 8 (AL.v p (AL.i (i : Int) AL.n)) hb = if (firstE classE s.bill i (s.bill.drop i)).2 = 0 then rec' T14 r 9 AL.n hb else some (trip (6, firstE classE s.bill i (s.bill.drop i)), hb)
  | 0, i, him => by
    have st : rec' T14 (0 + 1 + r) 8 (AL.v p (AL.i (i : Int) AL.n)) hb = P14x8 (rec' T14 r) p (i : Int) hb := by rw [show 0 + 1 + r = r + 1 by omega]; rfl
    rw [st]
    unfold P14x8
    rw [a.fld 6 (x := vb) rfl, si.rows.len, List.length_map, boolZ_eq, ltZ_dec, ifB_if, if_neg (by simp; omega), List.drop_of_length_le (by omega)]
    rfl
  | m + 1, i, him => by
    have hi : i < s.bill.length := by omega
    have hg : (s.bill.map inRow)[i]? = some (inRow s.bill[i]) := by rw [List.getElem?_map, List.getElem?_eq_getElem hi]; rfl
    obtain ⟨q, hq, haq, hl⟩ := si.rows.at hg
    have st : rec' T14 (m + 1 + 1 + r) 8 (AL.v p (AL.i (i : Int) AL.n)) hb = P14x8 (rec' T14 (m + 1 + r)) p (i : Int) hb := by rw [show m + 1 + 1 + r = (m + 1 + r) + 1 by omega]; rfl
    rw [st]
    unfold P14x8
    rw [a.fld 6 (x := vb) rfl, si.rows.len, List.length_map, boolZ_eq, ltZ_dec, ifB_if, if_pos (by simp; omega), a.fld 6 (x := vb) rfl, hq, haq.load1 (x := .int .i64 s.bill[i]) rfl, intK_int, in54_at, optK_some', pairK_some', boolK_bool, boolN_eq, ifB_if, List.drop_eq_getElem_cons hi, show (Int.ofNat 0) = (0 : Int) from rfl, show (Int.ofNat 9) = (9 : Int) from rfl]
    unfold firstE
    cases h1 : inB 0 9 s.bill[i] with
    | false =>
      have e7 : classE (s.bill.take i) (s.bill[i]) = 7 := by unfold classE; rw [h1]; rfl
      rw [if_pos (by rfl), e7]; rfl
    | true =>
      have e0 : classE (s.bill.take i) (s.bill[i]) = 0 := by unfold classE; rw [h1]; rfl
      rw [if_neg (by simp), e0, if_pos rfl, show Int.add (i : Int) (Int.ofNat 1) = ((i + 1 : Nat) : Int) from rfl, wrap64_in _ (by omega) (by omega)]
      exact bill_loop a si hlen r m (i + 1) (by omega)
end Go.Proofs.Ytekocllllbdbgaa.K.L
