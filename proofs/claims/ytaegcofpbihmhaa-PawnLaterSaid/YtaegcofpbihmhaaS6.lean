/- Contracts of told functions: Check. -/
import Derived.Test.YtaegcofpbihmhaaS5
open Go Go.Eng
set_option maxRecDepth 100000
set_option linter.unusedVariables false
namespace Go.Proofs.Ytaegcofpbihmhaa.K.L
structure Sh where
  gs : List Gw
  fs : List Fg
  purse : Int
  is : List Ic
def ShA (h : Hp) (s : Sh) (r : List Value) : Prop := ∃ vg vf vi, r = [vg, vf, .int .i64 s.purse, vi] ∧ SlA h 8 vg (s.gs.map Gw.row) ∧ SlA h 4 vf (s.fs.map Fg.row) ∧ SlA h 2 vi (s.is.map Ic.row)
theorem ShA.sub {h h' : Hp} (hs : Sub h h') {s : Sh} {r : List Value} (a : ShA h s r) : ShA h' s r := by
  obtain ⟨vg, vf, vi, h1, h2, h3, h4⟩ := a
  exact ⟨vg, vf, vi, h1, h2.sub hs, h3.sub hs, h4.sub hs⟩
def checkS (s : Sh) : Int × Int × Int :=
  if 5 < s.gs.length then (1, 0, 3)
  else if (firstE gownE s.gs 0 s.gs).2 ≠ 0 then (1, (firstE gownE s.gs 0 s.gs).1, (firstE gownE s.gs 0 s.gs).2)
  else if 3 < s.fs.length then (2, 0, 3)
  else if (firstE figE s.fs 0 s.fs).2 ≠ 0 then (2, (firstE figE s.fs 0 s.fs).1, (firstE figE s.fs 0 s.fs).2)
  else if !(inB 0 10000 s.purse) then (3, 0, 7)
  else if 3 < s.is.length then (4, 0, 3)
  else if (firstE incE s.is 0 s.is).2 ≠ 0 then (4, (firstE incE s.is 0 s.is).1, (firstE incE s.is 0 s.is).2)
  else (0, 0, 0)
def trip (x : Int × Int × Int) : Value := .tuple (List.toArray [.int .i64 x.1, .int .i64 x.2.1, .int .i64 x.2.2])
theorem check8_at {h : Hp} (w : Wf h) {s : Sh} {r : List Value} (a : ShA h s r) : ∃ h', F8 [.agg (Array.mk r)] h = some (trip (checkS s), h') := by
  obtain ⟨vg, vf, vi, rfl, sg, sf, si⟩ := a
  have start : F8 [.agg (Array.mk [vg, vf, .int .i64 s.purse, vi])] h = P8x0 (rec' T8 999999) (.agg (Array.mk [vg, vf, .int .i64 s.purse, vi])) h := rfl
  rw [start]
  unfold P8x0
  try unfold ki
  rw [rowCells, allocK_add]
  have w1 : Wf (h.add (.cells [vg, vf, .int .i64 s.purse, vi] 26 none)) := w.add _
  have a1 : At (h.add (.cells [vg, vf, .int .i64 s.purse, vi] 26 none)) (.pointer (some ⟨h.next, 0, none⟩)) [vg, vf, .int .i64 s.purse, vi] := At.new
  have gr := (Grew.add w (.cells [vg, vf, .int .i64 s.purse, vi] 26 none)).sub
  replace sg := sg.sub gr
  replace sf := sf.sub gr
  replace si := si.sub gr
  clear gr
  generalize h.add (.cells [vg, vf, .int .i64 s.purse, vi] 26 none) = h1 at w1 a1 sg sf si ⊢
  generalize Value.pointer (some ⟨h.next, 0, none⟩) = p at a1 ⊢
  unfold checkS
  rw [a1.fld 0 (x := vg) rfl, sg.rows.len, List.length_map, boolZ_eq, ltZ_dec, ifB_if]
  by_cases c1 : 5 < s.gs.length
  · rw [if_pos (by simp; omega), if_pos c1]; exact ⟨_, rfl⟩
  rw [if_neg (by simp; omega), if_neg c1, a1.fld 0 (x := vg) rfl]
  obtain ⟨h2, e2⟩ := first29_at (v := vg) (gs := s.gs) (by omega) (h := shutH h1) (wfShut w1) sg
  rw [callQ_plain1 e2 rfl, pairK_some', extK_at (v := .int .i64 (firstE gownE s.gs 0 s.gs).1) rfl, intK_int, extK_at (v := .int .i64 (firstE gownE s.gs 0 s.gs).2) rfl, intK_int, boolN_eq, eqZ_dec, ifB_if]
  by_cases c2 : (firstE gownE s.gs 0 s.gs).2 ≠ 0
  · rw [if_pos (by simpa using c2), if_pos c2]; exact ⟨_, rfl⟩
  rw [if_neg (by simpa using c2), if_neg c2, a1.fld 1 (x := vf) rfl, sf.rows.len, List.length_map, boolZ_eq, ltZ_dec, ifB_if]
  by_cases c3 : 3 < s.fs.length
  · rw [if_pos (by simp; omega), if_pos c3]; exact ⟨_, rfl⟩
  rw [if_neg (by simp; omega), if_neg c3, a1.fld 1 (x := vf) rfl]
  obtain ⟨h3, e3⟩ := first31_at (v := vf) (gs := s.fs) (by omega) (h := shutH h1) (wfShut w1) sf
  rw [callQ_plain1 e3 rfl, pairK_some', extK_at (v := .int .i64 (firstE figE s.fs 0 s.fs).1) rfl, intK_int, extK_at (v := .int .i64 (firstE figE s.fs 0 s.fs).2) rfl, intK_int, boolN_eq, eqZ_dec, ifB_if]
  by_cases c4 : (firstE figE s.fs 0 s.fs).2 ≠ 0
  · rw [if_pos (by simpa using c4), if_pos c4]; exact ⟨_, rfl⟩
  have w4 := w1.add (.cells [.int .i64 s.purse] 3 none)
  have a4 := atAdd w1 a1 (.cells [.int .i64 s.purse] 3 none)
  have s4 := si.sub (Grew.add w1 (.cells [.int .i64 s.purse] 3 none)).sub
  rw [if_neg (by simpa using c4), if_neg c4, a1.fld 2 (x := .int .i64 s.purse) rfl, intK_int, one34, pairK_some', show (Int.ofNat 0) = (0 : Int) from rfl, show (Int.ofNat 10000) = (10000 : Int) from rfl, within1, optK_some', pairK_some', boolK_bool, boolN_eq, ifB_if]
  generalize h1.add (.cells [.int .i64 s.purse] 3 none) = h4 at w4 a4 s4 ⊢
  cases c5 : inB 0 10000 s.purse with
  | false => rw [if_pos (by rfl), if_pos (by rfl)]; exact ⟨_, rfl⟩
  | true =>
  rw [if_neg (by simp), if_neg (by simp), a4.fld 3 (x := vi) rfl, s4.rows.len, List.length_map, boolZ_eq, ltZ_dec, ifB_if]
  by_cases c6 : 3 < s.is.length
  · rw [if_pos (by simp; omega), if_pos c6]; exact ⟨_, rfl⟩
  rw [if_neg (by simp; omega), if_neg c6, a4.fld 3 (x := vi) rfl]
  obtain ⟨h5, e5⟩ := first34_at (v := vi) (gs := s.is) (by omega) (h := shutH h4) (wfShut w4) s4
  rw [callQ_plain1 e5 rfl, pairK_some', extK_at (v := .int .i64 (firstE incE s.is 0 s.is).1) rfl, intK_int, extK_at (v := .int .i64 (firstE incE s.is 0 s.is).2) rfl, intK_int, boolN_eq, eqZ_dec, ifB_if]
  by_cases c7 : (firstE incE s.is 0 s.is).2 ≠ 0
  · rw [if_pos (by simpa using c7), if_pos c7]; exact ⟨_, rfl⟩
  rw [if_neg (by simpa using c7), if_neg c7]
  exact ⟨_, rfl⟩
end Go.Proofs.Ytaegcofpbihmhaa.K.L
