/- Contracts of told functions: the reference's Check, whole; valid. -/
import Derived.Test.YtaegcofpbihmhaaS9
open Go Go.Eng
set_option maxRecDepth 100000
set_option linter.unusedVariables false
namespace Go.Proofs.Ytaegcofpbihmhaa.K.L
theorem incs_loop {hb : Hp} {p vg vf vi : Value} {s : Sh} (a : At hb p [vg, vf, .int .i64 s.purse, vi]) (si : SlA hb 2 vi (s.is.map Ic.row)) (hlen : s.is.length ≤ 3) (r : Nat) : ∀ m i, i + m = s.is.length →
    rec' T9 (m + 1 + r) 7 (AL.v p (AL.i (i : Int) AL.n)) hb = if (firstE incE s.is i (s.is.drop i)).2 = 0 then rec' T9 r 8 AL.n hb else some (trip (4, firstE incE s.is i (s.is.drop i)), hb)
  | 0, i, him => by
    have st : rec' T9 (0 + 1 + r) 7 (AL.v p (AL.i (i : Int) AL.n)) hb = P9x7 (rec' T9 r) p (i : Int) hb := by rw [show 0 + 1 + r = r + 1 by omega]; rfl
    rw [st]
    unfold P9x7
    try unfold ki
    rw [a.fld 3 (x := vi) rfl, si.rows.len, List.length_map, boolZ_eq, ltZ_dec, ifB_if, if_neg (by simp; omega), List.drop_of_length_le (by omega)]
    rfl
  | m + 1, i, him => by
    have hi : i < s.is.length := by omega
    have hg : (s.is.map Ic.row)[i]? = some (s.is[i]).row := by rw [List.getElem?_map, List.getElem?_eq_getElem hi]; rfl
    obtain ⟨q, hq, haq, hl⟩ := si.rows.at hg
    have st : rec' T9 (m + 1 + 1 + r) 7 (AL.v p (AL.i (i : Int) AL.n)) hb = P9x7 (rec' T9 (m + 1 + r)) p (i : Int) hb := by rw [show m + 1 + 1 + r = (m + 1 + r) + 1 by omega]; rfl
    rw [st]
    unfold P9x7
    try unfold ki
    rw [a.fld 3 (x := vi) rfl, si.rows.len, List.length_map, boolZ_eq, ltZ_dec, ifB_if, if_pos (by simp; omega), a.fld 3 (x := vi) rfl, hq, haq.fld 0 (x := .int .i64 (s.is[i]).day) rfl, intK_int, in39_at, optK_some', pairK_some', boolK_bool, boolN_eq, ifB_if, List.drop_eq_getElem_cons hi, show (Int.ofNat 0) = (0 : Int) from rfl, show (Int.ofNat 364) = (364 : Int) from rfl]
    unfold firstE
    cases h1 : inB 0 364 (s.is[i]).day with
    | false =>
      have e7 : incE (s.is.take i) (s.is[i]) = 7 := by unfold incE; rw [h1]; rfl
      rw [if_pos (by rfl), e7]; rfl
    | true =>
    rw [if_neg (by simp), a.fld 3 (x := vi) rfl, hq, haq.fld 1 (x := .int .i64 (s.is[i]).pence) rfl, intK_int, in39_at, optK_some', pairK_some', boolK_bool, boolN_eq, ifB_if, show (Int.ofNat 10000) = (10000 : Int) from rfl]
    cases h2 : inB 0 10000 (s.is[i]).pence with
    | false =>
      have e7 : incE (s.is.take i) (s.is[i]) = 7 := by unfold incE; rw [h1, h2]; rfl
      rw [if_pos (by rfl), e7]; rfl
    | true =>
      have e0 : incE (s.is.take i) (s.is[i]) = 0 := by unfold incE; rw [h1, h2]; rfl
      rw [if_neg (by simp), e0, if_pos rfl, show Int.add (i : Int) (Int.ofNat 1) = ((i + 1 : Nat) : Int) from rfl, wrap64_in _ (by omega) (by omega)]
      exact incs_loop a si hlen r m (i + 1) (by omega)
theorem check9_at {h : Hp} (w : Wf h) {s : Sh} {r : List Value} (a : ShA h s r) : ∃ h', F9 [.agg (Array.mk r)] h = some (trip (checkS s), h') := by
  obtain ⟨vg, vf, vi, rfl, sg, sf, si⟩ := a
  have start : F9 [.agg (Array.mk [vg, vf, .int .i64 s.purse, vi])] h = P9x0 (rec' T9 999999) (.agg (Array.mk [vg, vf, .int .i64 s.purse, vi])) h := rfl
  rw [start]
  unfold P9x0
  try unfold ki
  rw [rowCells, allocK_add]
  have w1 : Wf (h.add (.cells [vg, vf, .int .i64 s.purse, vi] 26 none)) := w.add _
  have a1 : At (h.add (.cells [vg, vf, .int .i64 s.purse, vi] 26 none)) (.pointer (some ⟨h.next, 0, none⟩)) [vg, vf, .int .i64 s.purse, vi] := At.new
  have gr := (Grew.add w (.cells [vg, vf, .int .i64 s.purse, vi] 26 none)).sub
  replace sg := sg.sub gr
  replace sf := sf.sub gr
  replace si := si.sub gr
  clear gr start
  generalize h.add (.cells [vg, vf, .int .i64 s.purse, vi] 26 none) = hb at w1 a1 sg sf si ⊢
  generalize Value.pointer (some ⟨h.next, 0, none⟩) = p at a1 ⊢
  unfold checkS
  rw [a1.fld 0 (x := vg) rfl, sg.rows.len, List.length_map, boolZ_eq, ltZ_dec, ifB_if]
  by_cases c1 : 5 < s.gs.length
  · rw [if_pos (by simp; omega), if_pos c1]; exact ⟨_, rfl⟩
  rw [if_neg (by simp; omega), if_neg c1]
  obtain ⟨r1, hr1⟩ : ∃ r1, 999999 = 3 * s.gs.length + 1 + (r1 + 1) ∧ 100 ≤ r1 := ⟨999999 - 3 * s.gs.length - 2, by omega, by omega⟩
  obtain ⟨h1, g1, e1⟩ := gowns_loop w1 a1 sg (by omega) (r1 + 1) s.gs.length 0 hb (.slice none 0 0) (Grew.refl w1) (.inl ⟨rfl, rfl⟩) (by omega)
  rw [List.drop_zero, ← hr1.1] at e1
  rw [show (Int.ofNat 0) = ((0 : Nat) : Int) from rfl, e1]
  by_cases c2 : (firstE gownE s.gs 0 s.gs).2 ≠ 0
  · rw [if_neg c2, if_pos c2]; exact ⟨_, rfl⟩
  rw [if_pos (by simpa using c2), if_neg c2]
  have st10 : rec' T9 (r1 + 1) 10 (AL.v p AL.n) h1 = P9x10 (rec' T9 r1) p h1 := rfl
  rw [st10]
  unfold P9x10
  try unfold ki
  have a2 := a1.sub g1.sub
  have s2 := (sf.sub g1.sub)
  rw [a2.fld 1 (x := vf) rfl, s2.rows.len, List.length_map, boolZ_eq, ltZ_dec, ifB_if]
  by_cases c3 : 3 < s.fs.length
  · rw [if_pos (by simp; omega), if_pos c3]; exact ⟨_, rfl⟩
  rw [if_neg (by simp; omega), if_neg c3]
  obtain ⟨r2, hr2⟩ : ∃ r2, r1 = 3 * s.fs.length + 1 + (r2 + 1) ∧ 50 ≤ r2 := ⟨r1 - 3 * s.fs.length - 2, by omega, by omega⟩
  obtain ⟨h2, g2, e2⟩ := figs_loop w1 a1 sf (by omega) (r2 + 1) s.fs.length 0 h1 (.slice none 0 0) g1 (.inl ⟨rfl, rfl⟩) (by omega)
  rw [List.drop_zero, ← hr2.1] at e2
  rw [show (Int.ofNat 0) = ((0 : Nat) : Int) from rfl, e2]
  by_cases c4 : (firstE figE s.fs 0 s.fs).2 ≠ 0
  · rw [if_neg c4, if_pos c4]; exact ⟨_, rfl⟩
  rw [if_pos (by simpa using c4), if_neg c4]
  have st9 : rec' T9 (r2 + 1) 9 (AL.v p AL.n) h2 = P9x9 (rec' T9 r2) p h2 := rfl
  rw [st9]
  unfold P9x9
  try unfold ki
  have a3 := a1.sub g2.sub
  have s3 := (si.sub g2.sub)
  rw [a3.fld 2 (x := .int .i64 s.purse) rfl, intK_int, in39_at, optK_some', pairK_some', boolK_bool, boolN_eq, ifB_if, show (Int.ofNat 0) = (0 : Int) from rfl, show (Int.ofNat 10000) = (10000 : Int) from rfl]
  cases c5 : inB 0 10000 s.purse with
  | false => rw [if_pos (by rfl), if_pos (by rfl)]; exact ⟨_, rfl⟩
  | true =>
  rw [if_neg (by simp), if_neg (by simp), a3.fld 3 (x := vi) rfl, s3.rows.len, List.length_map, boolZ_eq, ltZ_dec, ifB_if]
  by_cases c6 : 3 < s.is.length
  · rw [if_pos (by simp; omega), if_pos c6]; exact ⟨_, rfl⟩
  rw [if_neg (by simp; omega), if_neg c6]
  obtain ⟨r3, hr3⟩ : ∃ r3, r2 = s.is.length + 1 + (r3 + 1) := ⟨r2 - s.is.length - 2, by omega⟩
  have e3 := incs_loop a3 s3 (by omega) (r3 + 1) s.is.length 0 (by omega)
  rw [List.drop_zero, ← hr3] at e3
  rw [show (0 : Int) = ((0 : Nat) : Int) from rfl, e3]
  by_cases c7 : (firstE incE s.is 0 s.is).2 ≠ 0
  · rw [if_neg c7, if_pos (by simpa using c7)]; exact ⟨_, rfl⟩
  rw [if_pos (by simpa using c7), if_neg (by simpa using c7)]
  exact ⟨_, rfl⟩
def validS (s : Sh) : Bool := decide ((checkS s).2.2 = 0)
theorem valid24_at {h : Hp} (w : Wf h) {s : Sh} {r : List Value} (a : ShA h s r) (hr4 : r.length = 4) : ∃ h', F24 [.agg (Array.mk r)] h = some (.bool (validS s), h') := by
  have start : F24 [.agg (Array.mk r)] h = P24x0 (rec' T24 999999) (.agg (Array.mk r)) h := rfl
  rw [start]
  unfold P24x0
  try unfold ki
  rw [rowCells, allocK_add]
  have w1 : Wf (h.add (.cells r 26 none)) := w.add _
  have a1 : At (h.add (.cells r 26 none)) (.pointer (some ⟨h.next, 0, none⟩)) r := At.new
  have s1 := a.sub (Grew.add w (.cells r 26 none)).sub
  obtain ⟨h2, e2⟩ := check9_at (h := shutH (h.add (.cells r 26 none))) (wfShut w1) s1
  rw [a1.loadN (z := 4) hr4, callQ_plain1 e2 rfl, pairK_some']
  unfold trip
  rw [extK_at (v := .int .i64 (checkS s).1) rfl, intK_int, extK_at (v := .int .i64 (checkS s).2.1) rfl, intK_int, extK_at (v := .int .i64 (checkS s).2.2) rfl, intK_int, boolZ_eq, eqZ_dec]
  exact ⟨_, rfl⟩
end Go.Proofs.Ytaegcofpbihmhaa.K.L
