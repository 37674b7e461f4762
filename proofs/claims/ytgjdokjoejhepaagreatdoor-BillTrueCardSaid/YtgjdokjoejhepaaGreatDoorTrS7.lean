/- Contracts of told functions: the reference's Check. -/
import Derived.Test.YtgjdokjoejhepaaGreatDoorTrS6
open Go Go.bP
set_option maxRecDepth 100000
set_option linter.unusedVariables false
namespace Go.Proofs.YtgjdokjoejhepaaGreatDoor.K.L
theorem NmA.up {hb h h1 : Hp} {v : Value} {ns : List ByteArray} (a : NmA hb h v ns) (s : Sub h h1) : NmA hb h1 v ns := by
 rcases a with a | ⟨b, e, hle, hg⟩
 ·exact .inl a
 ·exact .inr ⟨b, e, hle, s _ _ hg⟩
def e1 (prev : List Fg) (g : Fg) : Int := aUQ g.nm (prev.map Fg.nm)
def e2 (prev : List Fg) (g : Fg) : Int := if e1 prev g = 0 then (if qY g.as_.data.toList then 0 else 6) else e1 prev g
def e3 (g : Fg) (e : Int) : Int := if e = 0 then (if RD g then 0 else 7) else e
def e4 (prev : List Fg) (g : Fg) (e : Int) : Int := if e = 0 then aRA prev g else e
theorem bMU (prev : List Fg) (g : Fg) : e4 prev g (e3 g (e2 prev g)) = zQ prev g := by
 unfold e2 e1 aUQ zQ
 rw [a1Y]
 cases qY g.nm.data.toList with
 | false => simp [e3, e4]
 | true =>
 cases prev.any (fun x => nD x.nm g.nm) with
 | true => simp [e3, e4]
 | false =>
 cases qY g.as_.data.toList with
 | false => simp [e3, e4]
 | true =>
 cases h : RD g with
 | false => simp [e3, e4, h]
 | true => simp [e3, e4, h]
theorem MN {hb : Hp} (w : Wf hb) {s : Sh} {p vf vt : Value} (a : At hb p (eT s.lines vf vt)) (sg : CF hb 4 vf (s.aU.map Fg.row)) (hlen : s.aU.length ≤ 6) (r : Nat) : ∀ m i (h : Hp) (v : Value), bE hb h → NmA hb h v ((s.aU.take i).map Fg.nm) → i + m = s.aU.length →
  ∃ h', bE hb h' ∧ aP BS (5 * m + 1 + r) 1 (AL.v p (AL.v v (AL.i (i : Int) AL.n))) h = if (jR zQ s.aU i (s.aU.drop i)).2 = 0 then aP BS r 8 (AL.v p AL.n) h' else some (SN (2, jR zQ s.aU i (s.aU.drop i)), h')
 | 0, i, h, v, g, nm, him => by
  refine ⟨h, g, ?_⟩
  have st : aP BS (5 * 0 + 1 + r) 1 (AL.v p (AL.v v (AL.i (i : Int) AL.n))) h = U9 (aP BS r) p v (i : Int) h := by rw [show 5 * 0 + 1 + r = r + 1 by omega]; rfl
  rw [st]
  unfold U9
  have a1 := a.sub g.sub
  have s1 := (sg.sub g.sub).rows
  rw [a1.lK 1 (x := vf) rfl, s1.len, List.length_map, aN, bA, aI, if_neg (by simp; omega), List.drop_of_length_le (by omega)]
  rfl
 | m + 1, i, h, v, g, nm, him => by
  have hi : i < s.aU.length := by omega
  have hg : (s.aU.map Fg.row)[i]? = some (s.aU[i]).row := by rw [List.getElem?_map, List.getElem?_eq_getElem hi]; rfl
  have a1 := a.sub g.sub
  have s1 := (sg.sub g.sub).rows
  obtain ⟨q, hq, haq, hl⟩ := s1.at hg
  have st : aP BS (5 * (m + 1) + 1 + r) 1 (AL.v p (AL.v v (AL.i (i : Int) AL.n))) h = U9 (aP BS (5 * m + 1 + r + 4)) p v (i : Int) h := by rw [show 5 * (m + 1) + 1 + r = (5 * m + 1 + r + 4) + 1 by omega]; rfl
  have st4 : ∀ (q : Value) (e : Int) (h : Hp), aP BS (5 * m + 1 + r + 4) 4 (AL.v p (AL.v v (AL.i (i : Int) (AL.v q (AL.i e AL.n))))) h = QS (aP BS (5 * m + 1 + r + 3)) p v (i : Int) q e h := fun q e h => rfl
  have st3 : ∀ (q : Value) (e : Int) (h : Hp), aP BS (5 * m + 1 + r + 3) 3 (AL.v p (AL.v v (AL.i (i : Int) (AL.v q (AL.i e AL.n))))) h = U8 (aP BS (5 * m + 1 + r + 2)) p v (i : Int) q e h := fun q e h => rfl
  have st2 : ∀ (q : Value) (e : Int) (h : Hp), aP BS (5 * m + 1 + r + 2) 2 (AL.v p (AL.v v (AL.i (i : Int) (AL.v q (AL.i e AL.n))))) h = U7 (aP BS (5 * m + 1 + r + 1)) p v (i : Int) q e h := fun q e h => rfl
  have st5 : ∀ (v : Value) (h : Hp), aP BS (5 * m + 1 + r + 1) 5 (AL.v p (AL.v v (AL.i (i : Int) AL.n))) h = aHR (aP BS (5 * m + 1 + r)) p v (i : Int) h := fun v h => rfl
  obtain ⟨h1, q1, g1', b1, hk⟩ := MK (ρ := Value × Hp) (z := 4) g.wf 76 (c := [(Value.string (ByteArray.mk #[])), (Value.string (ByteArray.mk #[])), (Value.int .i64 (Int.ofNat 0)), (Value.int .i64 (Int.ofNat 0))]) (l := (s.aU[i]).row) rfl rfl rfl (fun _ _ => none)
  have g1 : bE hb h1 := g.trans g1'
  have nm1 := nm.up g1'.sub
  have a2 := a.sub g1.sub
  have s2 := (sg.sub g1.sub).rows
  obtain ⟨v', h', hap, g', nm'⟩ := aLM w g1 nm1 (by rw [List.length_map, List.length_take]; omega) (s.aU[i]).nm
  rw [SV] at nm'
  obtain ⟨hf, gf, IH⟩ := MN w a sg hlen r m (i + 1) h' v' g' nm' (by omega)
  have two : ∀ e : Int, U7 (aP BS (5 * m + 1 + r + 1)) p v (i : Int) q1 e h1 = if e = 0 then aP BS (5 * m + 1 + r) 1 (AL.v p (AL.v v' (AL.i ((i + 1 : Nat) : Int) AL.n))) h' else some (SN (2, (i : Int), e), h1) := by
   intro e
   unfold U7
   rw [aX, dJ, aI]
   by_cases he : e = 0
   ·rw [if_neg (by rw [he]; simp), if_pos he, b1.lK 0 (x := .string (s.aU[i]).nm) rfl, bMW, aD, hap, aD, st5]
    unfold aHR
    rw [show Int.add (i : Int) (Int.ofNat 1) = ((i + 1 : Nat) : Int) from rfl, wrap64_in _ (by omega) (by omega)]
   ·rw [if_pos (by simpa using he), if_neg he]; rfl
  have three : ∀ e : Int, U8 (aP BS (5 * m + 1 + r + 2)) p v (i : Int) q1 e h1 = U7 (aP BS (5 * m + 1 + r + 1)) p v (i : Int) q1 (e4 (s.aU.take i) s.aU[i] e) h1 := by
   intro e
   unfold U8 e4
   rw [aN, dJ, aI]
   by_cases he : e = 0
   ·rw [if_pos (by rw [he]; simp), if_pos he, aN, bA, aI]
    by_cases h0 : 0 < i
    ·have hp : 0 < (s.aU.take i).length := by rw [List.length_take]; omega
     have hj : i - 1 < s.aU.length := by omega
     have hgj : (s.aU.map Fg.row)[i - 1]? = some (s.aU[i - 1]).row := by rw [List.getElem?_map, List.getElem?_eq_getElem hj]; rfl
     obtain ⟨qj, hqj, haj, hlj⟩ := s2.at hgj
     have elast : aRA (s.aU.take i) s.aU[i] = if (s.aU[i]).room < (s.aU[i - 1]).room then 2 else 0 := by
      unfold aRA
      rw [aCN _ hp]
      dsimp only
      congr 3
      simp only [List.getElem_take, List.length_take]
      congr 2
      omega
     rw [if_pos (by simp; omega), b1.lK 2 (x := .int .i64 (s.aU[i]).room) rfl, aK, a2.lK 1 (x := vf) rfl, show Int.sub (i : Int) (Int.ofNat 1) = ((i - 1 : Nat) : Int) from by show (i : Int) - 1 = _; omega, wrap64_in _ (by omega) (by omega), hqj, haj.lK 2 (x := .int .i64 (s.aU[i - 1]).room) rfl, aK, aN, bA, aI, elast]
     by_cases hd : (s.aU[i]).room < (s.aU[i - 1]).room
     ·rw [if_pos (by simpa using hd), if_pos hd, st2]; rfl
     ·rw [if_neg (by simpa using hd), if_neg hd, st2, he]
    ·have hi0 : i = 0 := by omega
     rw [if_neg (by simp; omega), st2, he]
     subst hi0
     rfl
   ·rw [if_neg (by simpa using he), if_neg he, st2]
  have four : ∀ e : Int, QS (aP BS (5 * m + 1 + r + 3)) p v (i : Int) q1 e h1 = U8 (aP BS (5 * m + 1 + r + 2)) p v (i : Int) q1 (e3 s.aU[i] e) h1 := by
   intro e
   unfold QS e3 RD
   rw [aN, dJ, aI]
   by_cases he : e = 0
   ·rw [if_pos (by rw [he]; simp), if_pos he, b1.lK 2 (x := .int .i64 (s.aU[i]).room) rfl, aK, show (Int.ofNat 0) = (0 : Int) from rfl, show (Int.ofNat 9) = (9 : Int) from rfl, vF, aM, aD, aO, aX, aI]
    cases x1 : oZ 0 9 (s.aU[i]).room with
    | false => rw [if_pos (by rfl), st3]; simp
    | true =>
    rw [if_neg (by simp), b1.lK 3 (x := .int .i64 (s.aU[i]).hi) rfl, aK, show (Int.ofNat 1) = (1 : Int) from rfl, show (Int.ofNat 6) = (6 : Int) from rfl, vF, aM, aD, aO, aX, aI]
    cases x2 : oZ 1 6 (s.aU[i]).hi with
    | false => rw [if_pos (by rfl), st3]; simp
    | true => rw [if_neg (by simp), st3, he]; simp
   ·rw [if_neg (by simpa using he), if_neg he, st3]
  have one : aP BS (5 * (m + 1) + 1 + r) 1 (AL.v p (AL.v v (AL.i (i : Int) AL.n))) h = QS (aP BS (5 * m + 1 + r + 3)) p v (i : Int) q1 (e2 (s.aU.take i) s.aU[i]) h1 := by
   rw [st]
   unfold U9 e2
   rw [a1.lK 1 (x := vf) rfl, s1.len, List.length_map, aN, bA, aI, if_pos (by simp; omega), a1.lK 1 (x := vf) rfl, hq, haq.fF (z := 4) hl, hk, b1.lK 0 (x := .string (s.aU[i]).nm) rfl,
    aRC (s.aU[i]).nm nm1.rows (by rw [List.length_map, List.length_take]; omega), aM, aD, aK, aN, dJ, aI]
   show (if decide (e1 (s.aU.take i) s.aU[i] = _) = true then _ else _) = _
   by_cases c : e1 (s.aU.take i) s.aU[i] = 0
   ·rw [if_pos (by simpa using c), if_pos c, b1.lK 1 (x := .string (s.aU[i]).as_) rfl, WC, aM, aD, aO, aX, aI]
    cases qY (s.aU[i]).as_.data.toList with
    | false => rw [if_pos (by rfl), st4]; rfl
    | true =>
     rw [if_neg (by simp), st4]
     show QS _ p v (i : Int) q1 (e1 (s.aU.take i) s.aU[i]) h1 = _
     rw [c]; simp
   ·rw [if_neg (by simpa using c), if_neg c, st4]
    rfl
  rw [one, four, three, two, bMU, List.drop_eq_getElem_cons hi]
  unfold jR
  by_cases e0 : zQ (s.aU.take i) (s.aU[i]) = 0
  ·rw [if_pos e0, if_pos e0]
   exact ⟨hf, gf, IH⟩
  ·rw [if_neg e0, if_neg e0]
   exact ⟨h1, g1, (if_neg e0).symm⟩
theorem EJ {hb : Hp} {s : Sh} {p vf vt : Value} (a : At hb p (eT s.lines vf vt)) (sf : CF hb 4 vf (s.aU.map Fg.row)) (st : CF hb 1 vt (s.ts.map dH)) (hm : s.aU.length ≤ 6) (hlen : s.ts.length ≤ 6) (r : Nat) : ∀ m i, i + m = s.ts.length →
  aP BS (m + 1 + r) 6 (AL.v p (AL.i (i : Int) AL.n)) hb = if (jR (jN s.aU.length) s.ts i (s.ts.drop i)).2 = 0 then aP BS r 7 AL.n hb else some (SN (3, jR (jN s.aU.length) s.ts i (s.ts.drop i)), hb)
 | 0, i, him => by
  have step : aP BS (0 + 1 + r) 6 (AL.v p (AL.i (i : Int) AL.n)) hb = U6 (aP BS r) p (i : Int) hb := by rw [show 0 + 1 + r = r + 1 by omega]; rfl
  rw [step]
  unfold U6
  rw [a.lK 2 (x := vt) rfl, st.rows.len, List.length_map, aN, bA, aI, if_neg (by simp; omega), List.drop_of_length_le (by omega)]
  rfl
 | m + 1, i, him => by
  have hi : i < s.ts.length := by omega
  have hg : (s.ts.map dH)[i]? = some (dH s.ts[i]) := by rw [List.getElem?_map, List.getElem?_eq_getElem hi]; rfl
  obtain ⟨q, hq, haq, hl⟩ := st.rows.at hg
  obtain ⟨v', hv', hp⟩ := st.pre aI1 aI2 (i := i) (by simpa using hi)
  rw [← List.map_take] at hp
  obtain ⟨p1, p2⟩ := RA _ hm
  have step : aP BS (m + 1 + 1 + r) 6 (AL.v p (AL.i (i : Int) AL.n)) hb = U6 (aP BS (m + 1 + r)) p (i : Int) hb := by rw [show m + 1 + 1 + r = (m + 1 + r) + 1 by omega]; rfl
  rw [step]
  unfold U6
  rw [a.lK 2 (x := vt) rfl, st.rows.len, List.length_map, aN, bA, aI, if_pos (by simp; omega), a.lK 2 (x := vt) rfl, hq, haq.lV (x := .int .i64 s.ts[i]) rfl, aK, a.lK 1 (x := vf) rfl, sf.rows.len, List.length_map, aI4 _ _ hm, aM, aD,
   show (dI (jS (Value.int .i64 (2 ^ s.aU.length : Int))) (some (Value.int .i64 (2 ^ s.aU.length : Int), hb)) none : Option (Value × Hp)) = some (Value.int .i64 (2 ^ s.aU.length : Int), hb) from rfl, aD, aK,
   show Int.sub (2 ^ s.aU.length) (Int.ofNat 1) = (2 : Int) ^ s.aU.length - 1 from rfl, wrap64_in _ (by omega) (by omega), show (Int.ofNat 0) = (0 : Int) from rfl, vF, aM, aD, aO, aX, aI, List.drop_eq_getElem_cons hi]
  unfold jR
  cases h1 : oZ 0 (2 ^ s.aU.length - 1) s.ts[i] with
  | false =>
   have e7 : jN s.aU.length (s.ts.take i) (s.ts[i]) = 4 := by unfold jN; rw [h1]; rfl
   rw [if_pos (by rfl), e7]; rfl
  | true =>
  rw [if_neg (by simp), a.lK 2 (x := vt) rfl, hv', aM, a.lK 2 (x := vt) rfl, hq, haq.lV (x := .int .i64 s.ts[i]) rfl, aK, Q7 s.ts[i] hp (by rw [List.length_take]; omega), aM, aD, aO, aI]
  cases h2 : (s.ts.take i).any (fun g => decide (s.ts[i] = g)) with
  | true =>
   have e5 : jN s.aU.length (s.ts.take i) (s.ts[i]) = 5 := by unfold jN; rw [h1, h2]; rfl
   rw [if_pos rfl, e5]; rfl
  | false =>
   have e0 : jN s.aU.length (s.ts.take i) (s.ts[i]) = 0 := by unfold jN; rw [h1, h2]; rfl
   rw [if_neg (by simp), e0, if_pos rfl, show Int.add (i : Int) (Int.ofNat 1) = ((i + 1 : Nat) : Int) from rfl, wrap64_in _ (by omega) (by omega)]
   exact EJ a sf st hm hlen r m (i + 1) (by omega)
theorem FP {h : Hp} (w : Wf h) {s : Sh} {r : List Value} (a : yX h s r) : ∃ h', F17 [.agg (Array.mk r)] h = some (SN (fT s), h') := by
 obtain ⟨vf, vt, rfl, sf, st⟩ := a
 have start : F17 [.agg (Array.mk (eT s.lines vf vt))] h = aHS (aP BS 999999) (.agg (Array.mk (eT s.lines vf vt))) h := rfl
 rw [start]
 unfold aHS
 rw [fQ, bL]
 have w1 := w.add (.cells (eT s.lines vf vt) 25 none)
 have a1 : At (h.add (.cells (eT s.lines vf vt) 25 none)) (.pointer (some ⟨h.next, 0, none⟩)) (eT s.lines vf vt) := At.new
 have gr := (bE.add w (.cells (eT s.lines vf vt) 25 none)).sub
 replace sf := sf.sub gr
 replace st := st.sub gr
 clear gr start
 generalize h.add (.cells (eT s.lines vf vt) 25 none) = hb at w1 a1 sf st ⊢
 generalize Value.pointer (some ⟨h.next, 0, none⟩) = p at a1 ⊢
 unfold fT
 rw [a1.lK 0 (x := .int .i64 s.lines) rfl, aK, show (Int.ofNat 14) = (14 : Int) from rfl, show (Int.ofNat 30) = (30 : Int) from rfl, vF, aM, aD, aO, aX, aI]
 cases c1 : oZ 14 30 s.lines with
 | false => rw [if_pos (by rfl), if_pos (by rfl)]; exact ⟨_, rfl⟩
 | true =>
 rw [if_neg (by simp), if_neg (by simp), a1.lK 1 (x := vf) rfl, sf.rows.len, List.length_map, aN, bA, aI, show (Int.ofNat 6) = (6 : Int) from rfl]
 by_cases l1 : (6 : Int) < (s.aU.length : Int)
 ·have x1 : kQ 6 zQ s.aU = (0, 3) := by unfold kQ; rw [if_pos l1]
  rw [if_pos (by simpa using l1), x1, if_pos (by decide)]; exact ⟨_, rfl⟩
 have x1 : kQ 6 zQ s.aU = jR zQ s.aU 0 s.aU := by unfold kQ; rw [if_neg l1]
 rw [if_neg (by simpa using l1), x1]
 obtain ⟨r1, hr1⟩ : ∃ r1, 999999 = 5 * s.aU.length + 1 + (r1 + 1) := ⟨999999 - 5 * s.aU.length - 2, by omega⟩
 obtain ⟨h2, g2, y2⟩ := MN w1 a1 sf (by omega) (r1 + 1) s.aU.length 0 hb (.slice none 0 0) (bE.refl w1) (.inl ⟨rfl, by simp⟩) (by omega)
 rw [List.drop_zero, ← hr1] at y2
 rw [show (Int.ofNat 0) = ((0 : Nat) : Int) from rfl, y2]
 by_cases c2 : (jR zQ s.aU 0 s.aU).2 = 0
 case neg => rw [if_neg c2, if_pos (by simpa using c2)]; exact ⟨_, rfl⟩
 rw [if_pos c2, if_neg (by simpa using c2)]
 have st8 : aP BS (r1 + 1) 8 (AL.v p AL.n) h2 = aHQ (aP BS r1) p h2 := rfl
 rw [st8]
 unfold aHQ
 have a2 := a1.sub g2.sub
 have sf2 := sf.sub g2.sub
 have st2 := st.sub g2.sub
 rw [a2.lK 2 (x := vt) rfl, st2.rows.len, List.length_map, show (Int.ofNat 1) = (1 : Int) from rfl, show (Int.ofNat 6) = (6 : Int) from rfl, vF, aM, aD, aO, aX, aI]
 by_cases c3 : s.ts.length = 0
 ·rw [if_pos (by rw [c3]; rfl), if_pos c3]; exact ⟨_, rfl⟩
 rw [if_neg c3]
 by_cases l2 : (6 : Int) < (s.ts.length : Int)
 ·have x2 : kQ 6 (jN s.aU.length) s.ts = (0, 3) := by unfold kQ; rw [if_pos l2]
  have : oZ 1 6 (s.ts.length : Int) = false := by
   cases c : oZ 1 6 (s.ts.length : Int) with
   | false => rfl
   | true => have := (jH.1 c).2; omega
  rw [if_pos (by rw [this]; rfl), x2, if_pos (by decide)]; exact ⟨_, rfl⟩
 have x2 : kQ 6 (jN s.aU.length) s.ts = jR (jN s.aU.length) s.ts 0 s.ts := by unfold kQ; rw [if_neg l2]
 have hin : oZ 1 6 (s.ts.length : Int) = true := jH.2 ⟨by omega, by omega⟩
 rw [if_neg (by rw [hin]; simp), x2]
 obtain ⟨r2, hr2⟩ : ∃ r2, r1 = s.ts.length + 1 + (r2 + 1) := ⟨r1 - s.ts.length - 2, by omega⟩
 have y3 := EJ a2 sf2 st2 (by omega) (by omega) (r2 + 1) s.ts.length 0 (by omega)
 rw [List.drop_zero, ← hr2] at y3
 rw [show (Int.ofNat 0) = ((0 : Nat) : Int) from rfl, y3]
 by_cases c4 : (jR (jN s.aU.length) s.ts 0 s.ts).2 = 0
 case neg => rw [if_neg c4, if_pos (by simpa using c4)]; exact ⟨_, rfl⟩
 rw [if_pos c4, if_neg (by simpa using c4)]
 exact ⟨_, rfl⟩
end Go.Proofs.YtgjdokjoejhepaaGreatDoor.K.L
