/- Contracts of told functions: a house, Check. -/
import Derived.Test.YtekocllllbdbgaaFtQ4
open Go Go.Eng
set_option maxRecDepth 100000
set_option linter.unusedVariables false
namespace Go.Proofs.Ytekocllllbdbgaa.K.L
structure Ho where
  we : Sp
  stoves : Int
  holds : List Int
  pls : List Pl
  figs : List Fi
  bill : List Int
def HoA (h : Hp) (s : Ho) (r : List Value) : Prop := ∃ vh vp vf vb, r = hoRow s.we s.stoves vh vp vf vb ∧ SlA h 1 vh (s.holds.map inRow) ∧ SlA h 4 vp (s.pls.map Pl.row) ∧ (∀ g ∈ s.pls, SlA h 2 g.vw (g.ws.map Sp.row)) ∧ SlA h 6 vf (s.figs.map Fi.row) ∧ SlA h 1 vb (s.bill.map inRow)
theorem HoA.sub {h h' : Hp} (hs : Sub h h') {s : Ho} {r : List Value} (a : HoA h s r) : HoA h' s r := by
  obtain ⟨vh, vp, vf, vb, h1, h2, h3, h4, h5, h6⟩ := a
  exact ⟨vh, vp, vf, vb, h1, h2.sub hs, h3.sub hs, fun g hg => (h4 g hg).sub hs, h5.sub hs, h6.sub hs⟩
theorem SlA.sl {h : Hp} {z : Nat} {v : Value} {rs : List (List Value)} (a : SlA h z v rs) : ∃ b n c, v = .slice b n c := by
  rcases a with ⟨h1, _⟩ | ⟨b, c, t, k, h1, _⟩
  · exact ⟨none, 0, 0, h1⟩
  · exact ⟨_, _, _, h1⟩
theorem HoA.len {h : Hp} {s : Ho} {r : List Value} (a : HoA h s r) : r.length = 7 := by
  obtain ⟨_, _, _, _, rfl, _⟩ := a; rfl
theorem HoA.one {h : Hp} {s : Ho} {r : List Value} (a : HoA h s r) : r.all oneCell = true := by
  obtain ⟨vh, vp, vf, vb, rfl, h2, h3, h4, h5, h6⟩ := a
  obtain ⟨_, _, _, rfl⟩ := h2.sl
  obtain ⟨_, _, _, rfl⟩ := h3.sl
  obtain ⟨_, _, _, rfl⟩ := h5.sl
  obtain ⟨_, _, _, rfl⟩ := h6.sl
  rfl
def trip (x : Int × Int × Int) : Value := .tuple (List.toArray [.int .i64 x.1, .int .i64 x.2.1, .int .i64 x.2.2])
def checkH (s : Ho) : Int × Int × Int :=
  if spanE (-100) 100 s.we ≠ 0 then (1, 0, spanE (-100) 100 s.we)
  else if !(inB 0 3 s.stoves) then (2, 0, 7)
  else if (listE 4 holdE s.holds).2 ≠ 0 then (3, listE 4 holdE s.holds)
  else if (listE 5 (placeE s.stoves s.holds.length) s.pls).2 ≠ 0 then (4, listE 5 (placeE s.stoves s.holds.length) s.pls)
  else if (listE 5 figE s.figs).2 ≠ 0 then (5, listE 5 figE s.figs)
  else if (listE 3 classE s.bill).2 ≠ 0 then (6, listE 3 classE s.bill)
  else (0, 0, 0)
theorem one78 (h : Hp) (a b : Int) : buildSliceV env h 78 1 (List.toArray [(0, .agg (Array.mk [(Value.int .i64 a), (Value.int .i64 b)]))]) = some (.slice (some ⟨h.next, 0, none⟩) 1 1, h.add (.cells [.int .i64 a, .int .i64 b] 23 none)) := by kernel_rfl
theorem spans_one (lo hi : Int) (s : Sp) : spansE lo hi [s] = spanE lo hi s := by
  unfold spansE firstE
  by_cases e : spanE lo hi s = 0
  · rw [if_pos e, e]; rfl
  · rw [if_neg e]
theorem listE_len {α : Type} {most : Int} {f : List α → α → Int} {gs : List α} (h : (listE most f gs).2 = 0) : (gs.length : Int) ≤ most := by
  unfold listE at h
  by_cases c : most < (gs.length : Int)
  · rw [if_pos c] at h; exact absurd h (by decide)
  · omega
theorem inB_iff {lo hi n : Int} : inB lo hi n = true ↔ lo ≤ n ∧ n ≤ hi := by
  unfold inB; simp
theorem check13_at {h : Hp} (w : Wf h) {s : Ho} {r : List Value} (a : HoA h s r) : ∃ h', F13 [.agg (Array.mk r)] h = some (trip (checkH s), h') := by
  obtain ⟨vh, vp, vf, vb, rfl, sh, sp, sw, sf, sb⟩ := a
  have start : F13 [.agg (Array.mk (hoRow s.we s.stoves vh vp vf vb))] h = P13x0 (rec' T13 999999) (.agg (Array.mk (hoRow s.we s.stoves vh vp vf vb))) h := rfl
  rw [start]
  unfold P13x0
  rw [rowCells, allocK_add]
  have w1 := w.add (.cells (hoRow s.we s.stoves vh vp vf vb) 28 none)
  have a1 : At (h.add (.cells (hoRow s.we s.stoves vh vp vf vb) 28 none)) (.pointer (some ⟨h.next, 0, none⟩)) (hoRow s.we s.stoves vh vp vf vb) := At.new
  have gr := (Grew.add w (.cells (hoRow s.we s.stoves vh vp vf vb) 28 none)).sub
  replace sh := sh.sub gr
  replace sp := sp.sub gr
  replace sw := fun g hg => (sw g hg).sub gr
  replace sf := sf.sub gr
  replace sb := sb.sub gr
  clear gr start
  generalize h.add (.cells (hoRow s.we s.stoves vh vp vf vb) 28 none) = h1 at w1 a1 sh sp sw sf sb ⊢
  generalize Value.pointer (some ⟨h.next, 0, none⟩) = p at a1 ⊢
  obtain ⟨q, hq, aq⟩ := a1.part 0 2 (by show 2 ≤ 7; decide)
  unfold checkH
  rw [hq, aq.loadN (z := 2) rfl, show List.take 2 (List.drop 0 (hoRow s.we s.stoves vh vp vf vb)) = [.int .i64 s.we.lo, .int .i64 s.we.hi] from rfl, one78, pairK_some']
  have w2 := w1.add (.cells [.int .i64 s.we.lo, .int .i64 s.we.hi] 23 none)
  have s2 : SlA (h1.add (.cells [.int .i64 s.we.lo, .int .i64 s.we.hi] 23 none)) 2 (.slice (some ⟨h1.next, 0, none⟩) 1 1) ([s.we].map Sp.row) :=
    .inr ⟨h1.next, _, 23, none, rfl, add_get_new _ _, .inr rfl, fun i r hi => by
      cases i with
      | zero => simp at hi; subst hi; exact ⟨rfl, by simp, fun k x hx => by simpa [Sp.row] using hx⟩
      | succ i => simp at hi⟩
  have gr := (Grew.add w1 (.cells [.int .i64 s.we.lo, .int .i64 s.we.hi] 23 none)).sub
  replace a1 := a1.sub gr
  replace sh := sh.sub gr
  replace sp := sp.sub gr
  replace sw := fun g hg => (sw g hg).sub gr
  replace sf := sf.sub gr
  replace sb := sb.sub gr
  clear gr
  generalize h1.add (.cells [.int .i64 s.we.lo, .int .i64 s.we.hi] 23 none) = h2 at w2 a1 s2 sh sp sw sf sb ⊢
  obtain ⟨h3, e3⟩ := spans43_at (h := shutH h2) (wfShut w2) (-100) 100 (ws := [s.we]) (by simp) s2
  rw [show (Int.negSucc 99) = (-100 : Int) from rfl, show (Int.ofNat 100) = (100 : Int) from rfl, callQ_plain1 e3 rfl, pairK_some', intK_int, spans_one, boolN_eq, eqZ_dec, ifB_if]
  by_cases c1 : spanE (-100) 100 s.we = 0
  case neg => rw [if_pos (by simpa using c1), if_pos c1]; exact ⟨_, rfl⟩
  have w4 := w2.add (.cells [.int .i64 s.stoves] 3 none)
  have gr := (Grew.add w2 (.cells [.int .i64 s.stoves] 3 none)).sub
  rw [if_neg (by simpa using c1), if_neg (by simpa using c1), a1.fld 2 (x := .int .i64 s.stoves) rfl, intK_int, one24, pairK_some', show (Int.ofNat 0) = (0 : Int) from rfl, show (Int.ofNat 3) = (3 : Int) from rfl, within1, optK_some', pairK_some', boolK_bool, boolN_eq, ifB_if]
  replace a1 := a1.sub gr
  replace sh := sh.sub gr
  replace sp := sp.sub gr
  replace sw := fun g hg => (sw g hg).sub gr
  replace sf := sf.sub gr
  replace sb := sb.sub gr
  clear gr
  generalize h2.add (.cells [.int .i64 s.stoves] 3 none) = h4 at w4 a1 sh sp sw sf sb ⊢
  cases c2 : inB 0 3 s.stoves with
  | false => rw [if_pos (by rfl), if_pos (by rfl)]; exact ⟨_, rfl⟩
  | true =>
  obtain ⟨st0, st3⟩ := inB_iff.1 c2
  rw [if_neg (by simp), if_neg (by simp), a1.fld 3 (x := vh) rfl]
  obtain ⟨h5, e5⟩ := list45_at (v := vh) (fv := .func (.func 46) #[] #[]) (gs := s.holds) (most := 4) (by omega) holdE (fun h v' i hi _ w => by
      obtain ⟨h9, e9⟩ := hold46_at (shutH h) v' s.holds[i]
      rw [show callF orc23 (.func (.func 46) #[] #[]) [v', .int .i64 s.holds[i]] h = callQ F46 [v', .int .i64 s.holds[i]] h from rfl]
      exact callQ_plain1 e9 rfl) (h := shutH h4) (wfShut w4) sh
  rw [show (Int.ofNat 4) = (4 : Int) from rfl, callQ_plain1 e5 rfl, pairK_some']
  unfold pairV
  rw [extK_at (v := .int .i64 (listE 4 holdE s.holds).1) rfl, intK_int, extK_at (v := .int .i64 (listE 4 holdE s.holds).2) rfl, intK_int, boolN_eq, eqZ_dec, ifB_if]
  by_cases c3 : (listE 4 holdE s.holds).2 = 0
  case neg => rw [if_pos (by simpa using c3), if_pos c3]; exact ⟨_, rfl⟩
  have l4 := listE_len c3
  rw [if_neg (by simpa using c3), if_neg (by simpa using c3), a1.fld 4 (x := vp) rfl]
  obtain ⟨h6, e6⟩ := list47_at (row := Pl.row) (fun _ => rfl) (v := vp) (fv := .func (.func 48) #[] #[p]) (gs := s.pls) (most := 5) (fun g hg => by
      obtain ⟨b, n, c, e⟩ := (sw g hg).sl
      unfold Pl.row; rw [e]; rfl) (by omega) (fun h => At h p (hoRow s.we s.stoves vh vp vf vb) ∧ SlA h 1 vh (s.holds.map inRow) ∧ ∀ g ∈ s.pls, SlA h 2 g.vw (g.ws.map Sp.row))
    (fun h h' g x => ⟨x.1.sub g.sub, x.2.1.sub g.sub, fun y hy => (x.2.2 y hy).sub g.sub⟩) (fun h x => x) (placeE s.stoves s.holds.length) (fun h v' i hi hl w q hr => by
      obtain ⟨h9, e9⟩ := place48_at (h := shutH h) (wfShut w) s.we s.stoves vh vp vf vb q.2.1 (by omega) (v := v') (prev := s.pls.take i) hr (by rw [List.length_take]; omega) s.pls[i] (q.2.2 _ (List.getElem_mem hi)) st3 q.1
      rw [show callF orc25 (.func (.func 48) #[] #[p]) [v', .agg (Array.mk (s.pls[i]).row)] h = callQ F48 [v', .agg (Array.mk (s.pls[i]).row), p] h from rfl]
      exact callQ_plain1 e9 rfl) (h := shutH h4) (wfShut w4) ⟨a1, sh, sw⟩ sp
  rw [show (Int.ofNat 5) = (5 : Int) from rfl, show (Value.func (.func 48) (List.toArray []) (List.toArray [p])) = .func (.func 48) #[] #[p] from rfl, callQ_plain1 e6 rfl, pairK_some']
  unfold pairV
  rw [extK_at (v := .int .i64 (listE 5 (placeE s.stoves s.holds.length) s.pls).1) rfl, intK_int, extK_at (v := .int .i64 (listE 5 (placeE s.stoves s.holds.length) s.pls).2) rfl, intK_int, boolN_eq, eqZ_dec, ifB_if]
  by_cases c4 : (listE 5 (placeE s.stoves s.holds.length) s.pls).2 = 0
  case neg => rw [if_pos (by simpa using c4), if_pos c4]; exact ⟨_, rfl⟩
  rw [if_neg (by simpa using c4), if_neg (by simpa using c4), a1.fld 5 (x := vf) rfl]
  obtain ⟨h7, e7⟩ := list50_at (row := Fi.row) (fun _ => rfl) (v := vf) (fv := .func (.func 51) #[] #[]) (gs := s.figs) (most := 5) (fun g hg => rfl) (by omega) (fun h => True) (fun h h' g x => trivial) (fun h x => x) figE (fun h v' i hi hl w q hr => by
      obtain ⟨h9, e9⟩ := fig51_at (h := shutH h) (wfShut w) (v := v') (prev := s.figs.take i) hr (by rw [List.length_take]; omega) s.figs[i]
      rw [show callF orc27 (.func (.func 51) #[] #[]) [v', .agg (Array.mk (s.figs[i]).row)] h = callQ F51 [v', .agg (Array.mk (s.figs[i]).row)] h from rfl]
      exact callQ_plain1 e9 rfl) (h := shutH h4) (wfShut w4) trivial sf
  rw [callQ_plain1 e7 rfl, pairK_some']
  unfold pairV
  rw [extK_at (v := .int .i64 (listE 5 figE s.figs).1) rfl, intK_int, extK_at (v := .int .i64 (listE 5 figE s.figs).2) rfl, intK_int, boolN_eq, eqZ_dec, ifB_if]
  by_cases c5 : (listE 5 figE s.figs).2 = 0
  case neg => rw [if_pos (by simpa using c5), if_pos c5]; exact ⟨_, rfl⟩
  rw [if_neg (by simpa using c5), if_neg (by simpa using c5), a1.fld 6 (x := vb) rfl]
  obtain ⟨h8, e8⟩ := list45_at (v := vb) (fv := .func (.func 52) #[] #[]) (gs := s.bill) (most := 3) (by omega) classE (fun h v' i hi _ w => by
      obtain ⟨h9, e9⟩ := class52_at (shutH h) v' s.bill[i]
      rw [show callF orc23 (.func (.func 52) #[] #[]) [v', .int .i64 s.bill[i]] h = callQ F52 [v', .int .i64 s.bill[i]] h from rfl]
      exact callQ_plain1 e9 rfl) (h := shutH h4) (wfShut w4) sb
  rw [callQ_plain1 e8 rfl, pairK_some']
  unfold pairV
  rw [extK_at (v := .int .i64 (listE 3 classE s.bill).1) rfl, intK_int, extK_at (v := .int .i64 (listE 3 classE s.bill).2) rfl, intK_int, boolN_eq, eqZ_dec, ifB_if]
  by_cases c6 : (listE 3 classE s.bill).2 = 0
  case neg => rw [if_pos (by simpa using c6), if_pos c6]; exact ⟨_, rfl⟩
  rw [if_neg (by simpa using c6), if_neg (by simpa using c6)]
  exact ⟨_, rfl⟩
end Go.Proofs.Ytekocllllbdbgaa.K.L
