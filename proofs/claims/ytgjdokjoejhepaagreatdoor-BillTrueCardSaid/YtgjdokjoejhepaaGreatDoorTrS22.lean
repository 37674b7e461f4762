/- Contracts of told functions: whether a catalogue is valid (the reference). -/
import Derived.Test.YtgjdokjoejhepaaGreatDoorTrS21
open Go Go.bP
set_option maxRecDepth 100000
set_option linter.unusedVariables false
namespace Go.Proofs.YtgjdokjoejhepaaGreatDoor.K.L
def Y5 (s : Sh) : Option Int → List En → Bool
 | _, [] => true
 | p, e :: l => Q5 s e && (okP p e && Y5 s (some e.a) l)
def vW (l : List Int) : Nat → List Int → Bool
 | _, [] => true
 | i, x :: r => !((l.take i).any fun g => decide (x = g)) && vW l (i + 1) r
def FO (s : Sh) (l : List Int) : Nat → Nat → Bool
 | 0, _ => true
 | m + 1, i => (!(nC s.ts [(i : Int)]) || l.any fun g => decide ((i : Int) = g)) && FO s l m (i + 1)
def RInv (c : List En) (i : Nat) : Option Int → Prop
 | none => i = 0
 | some x => 0 < i ∧ ∃ e, c[i - 1]? = some e ∧ e.a = x
section
variable {s : Sh} {r : List Value}
theorem Q6 {h : Hp} (w : Wf h) (a : yX h s r) (f : mZ s) {r1 r2 : Value} {c : List En} (hc : bP.Rows h 3 r1 (c.map En.row)) (h2 : At h r2 r) (hlen : c.length ≤ 6) : ∀ m i n (p : Option Int), RInv c i p → i + m = c.length →
  aP RJ (m + 2 + n) 1 (AL.v r1 (AL.v r2 (AL.i (i : Int) AL.n))) h = if Y5 s p (c.drop i) then aII (aP RJ n) r1 r2 h else some (.bool false, h)
 | 0, i, n, p, hp, him => by
  have step : aP RJ (0 + 2 + n) 1 (AL.v r1 (AL.v r2 (AL.i (i : Int) AL.n))) h = VR (aP RJ (n + 1)) r1 r2 (i : Int) h := by rw [show 0 + 2 + n = (n + 1) + 1 by omega]; rfl
  rw [step]
  unfold VR
  rw [hc.len, List.length_map, aN, bA, aI, if_neg (by simp; omega), List.drop_of_length_le (by omega), show Y5 s p [] = true from by unfold Y5; rfl, if_pos rfl]
  rfl
 | m + 1, i, n, p, hp, him => by
  have hi : i < c.length := by omega
  have hg : (c.map En.row)[i]? = some (c[i]).row := by rw [List.getElem?_map, List.getElem?_eq_getElem hi]; rfl
  obtain ⟨q, hq, haq, hl⟩ := hc.at hg
  have step : aP RJ (m + 1 + 2 + n) 1 (AL.v r1 (AL.v r2 (AL.i (i : Int) AL.n))) h = VR (aP RJ (m + 2 + n)) r1 r2 (i : Int) h := by rw [show m + 1 + 2 + n = (m + 2 + n) + 1 by omega]; rfl
  obtain ⟨hH, eH⟩ := aCE (h := bK (bK h)) (fZ (fZ w)) a f c[i]
  rw [step]
  unfold VR
  rw [hc.len, List.length_map, aN, bA, aI, if_pos (by simp; omega), h2.fF (z := 3) a.len, hq, haq.fF hl, bD (h := bK h) eH rfl, aXL, aD, aO, aX, aI, List.drop_eq_getElem_cons hi]
  unfold Y5
  cases hs : Q5 s c[i] with
  | false => rw [if_pos (by rfl), if_neg (by simp)]
  | true =>
   rw [if_neg (by simp), aN, bA, aI, show Int.add (i : Int) (Int.ofNat 1) = ((i + 1 : Nat) : Int) from rfl, Bool.true_and]
   have hei : c[i + 1 - 1]? = some c[i] := by rw [Nat.add_sub_cancel, List.getElem?_eq_getElem hi]
   have nx := Q6 w a f hc h2 hlen m (i + 1) n (some (c[i]).a) ⟨by omega, c[i], hei, rfl⟩ (by omega)
   cases p with
   | none =>
    have h0 : i = 0 := hp
    rw [if_neg (by simp; omega), wrap64_in _ (by omega) (by omega), show okP none c[i] = true from rfl, Bool.true_and]
    exact nx
   | some x =>
    obtain ⟨h0, e0, he0, hx⟩ := hp
    have hg0 : (c.map En.row)[i - 1]? = some e0.row := by rw [List.getElem?_map, he0]; rfl
    obtain ⟨q0, hq0, a1R, hl0⟩ := hc.at hg0
    rw [if_pos (by simp; omega), hq, haq.lK 1 (x := .int .i64 (c[i]).a) rfl, aK, show Int.sub (i : Int) (Int.ofNat 1) = ((i - 1 : Nat) : Int) by (show (i : Int) - 1 = _; omega), wrap64_in (n := ((i - 1 : Nat) : Int)) _ (by omega) (by omega), hq0, a1R.lK 1 (x := .int .i64 e0.a) rfl, aK, aX, bA, aI, hx]
    rw [show okP (some x) c[i] = decide (x < (c[i]).a) from rfl]
    by_cases hlt : x < (c[i]).a
    ·rw [if_neg (by simpa using hlt), wrap64_in _ (by omega) (by omega), decide_eq_true hlt, Bool.true_and]
     exact nx
    ·rw [if_pos (by simpa using hlt), decide_eq_false hlt, if_neg (by simp)]
theorem I1 {h : Hp} {r2 v : Value} {l : List Int} (hv : CF h 1 v (l.map dH)) (hlen : l.length ≤ 100) : ∀ m i n, i + m = l.length →
  aP RJ (m + 2 + n) 2 (AL.v r2 (AL.v v (AL.i (i : Int) AL.n))) h = if vW l i (l.drop i) then aIH (aP RJ n) r2 v h else some (.bool false, h)
 | 0, i, n, him => by
  have step : aP RJ (0 + 2 + n) 2 (AL.v r2 (AL.v v (AL.i (i : Int) AL.n))) h = VQ (aP RJ (n + 1)) r2 v (i : Int) h := by rw [show 0 + 2 + n = (n + 1) + 1 by omega]; rfl
  rw [step]
  unfold VQ
  rw [hv.rows.len, List.length_map, aN, bA, aI, if_neg (by simp; omega), List.drop_of_length_le (by omega), show vW l i [] = true from by unfold vW; rfl, if_pos rfl]
  rfl
 | m + 1, i, n, him => by
  have hi : i < l.length := by omega
  have hg : (l.map dH)[i]? = some (dH l[i]) := by rw [List.getElem?_map, List.getElem?_eq_getElem hi]; rfl
  obtain ⟨q, hq, haq, _⟩ := hv.rows.at hg
  have step : aP RJ (m + 1 + 2 + n) 2 (AL.v r2 (AL.v v (AL.i (i : Int) AL.n))) h = VQ (aP RJ (m + 2 + n)) r2 v (i : Int) h := by rw [show m + 1 + 2 + n = (m + 2 + n) + 1 by omega]; rfl
  obtain ⟨v', hs, rs⟩ := hv.pre aI1 aI2 (i := i) (by rw [List.length_map]; exact hi)
  rw [← List.map_take] at rs
  rw [step]
  unfold VQ
  rw [hv.rows.len, List.length_map, aN, bA, aI, if_pos (by simp; omega), hs, aM, hq, haq.lV (x := .int .i64 l[i]) rfl, aK, Q7 l[i] rs (by rw [List.length_take]; omega), aM, aD, aO, aI, List.drop_eq_getElem_cons hi]
  unfold vW
  cases hb : (l.take i).any fun g => decide (l[i] = g) with
  | true => rw [if_pos rfl, if_neg (by simp)]
  | false =>
   rw [if_neg (by simp), show Int.add (i : Int) (Int.ofNat 1) = ((i + 1 : Nat) : Int) from rfl, wrap64_in _ (by omega) (by omega), I1 hv hlen m (i + 1) n (by omega)]
   rfl
theorem I4 {hb : Hp} (w : Wf hb) (a : yX hb s r) (f : mZ s) {r2 v : Value} {l : List Int} (h2 : At hb r2 r) (hv : CF hb 1 v (l.map dH)) (hlen : l.length ≤ 100) : ∀ m i n (h : Hp), bE hb h → i + m = s.aU.length →
  ∃ h', aP RJ (m + 2 + n) 3 (AL.v r2 (AL.v v (AL.i (i : Int) AL.n))) h = some (.bool (FO s l m i), h')
 | 0, i, n, h, g, him => by
  have step : aP RJ (0 + 2 + n) 3 (AL.v r2 (AL.v v (AL.i (i : Int) AL.n))) h = VP (aP RJ (n + 1)) r2 v (i : Int) h := by rw [show 0 + 2 + n = (n + 1) + 1 by omega]; rfl
  obtain ⟨vf, vt, hrow, sf, st⟩ := id a
  rw [step]
  unfold VP
  rw [(h2.sub g.sub).lK 1 (x := vf) (by rw [hrow]; rfl), (sf.sub g.sub).rows.len, List.length_map, aN, bA, aI, if_neg (by simp; omega)]
  exact ⟨h, rfl⟩
 | m + 1, i, n, h, g, him => by
  have f6 := f.aU
  have t6 := f.six
  have t0 : ∀ t ∈ s.ts, 0 ≤ t := fun t ht => (f.small t ht).1
  have step : aP RJ (m + 1 + 2 + n) 3 (AL.v r2 (AL.v v (AL.i (i : Int) AL.n))) h = VP (aP RJ (m + 2 + n)) r2 v (i : Int) h := by rw [show m + 1 + 2 + n = (m + 2 + n) + 1 by omega]; rfl
  obtain ⟨vf, vt, hrow, sf, st⟩ := id a
  have g1' := bE.add g.wf (.cells [.int .i64 (i : Int)] 3 none)
  have g1 := g.trans g1'
  have e2 := aCB (c := s.lines) (vf := vf) (vt := vt) (ts := s.ts) h [(i : Int)] 1 rfl ((st.sub g.sub).sub g1'.sub).rows (by omega) t0 (by omega) (by simp; omega)
  have h2' := h2.sub g.sub
  rw [step]
  unfold VP
  rw [h2'.lK 1 (x := vf) (by rw [hrow]; rfl), (sf.sub g.sub).rows.len, List.length_map, aN, bA, aI, if_pos (by simp; omega), h2'.fF (z := 3) a.len, vT, aD, hrow,
   show F52 [.agg (Array.mk (eT s.lines vf vt)), .slice (some ⟨h.next, 0, none⟩) 1 1] (h.add (.cells [.int .i64 (i : Int)] 3 none)) = _ from e2, aM, aD, aO, aI, show Int.add (i : Int) (Int.ofNat 1) = ((i + 1 : Nat) : Int) from rfl]
  unfold FO
  obtain ⟨h', nx⟩ := I4 w a f h2 hv hlen m (i + 1) n _ g1 (by omega)
  cases hs : nC s.ts [(i : Int)] with
  | false =>
   rw [if_neg (by simp), wrap64_in _ (by omega) (by omega), Bool.not_false, Bool.true_or, Bool.true_and]
   exact ⟨h', nx⟩
  | true =>
   rw [if_pos rfl, Q7 (i : Int) ((hv.sub g1.sub).rows) (by omega), aM, aD, aO, aX, aI, Bool.not_true, Bool.false_or]
   cases hb : l.any fun g => decide ((i : Int) = g) with
   | false => rw [if_pos (by rfl)]; exact ⟨_, by rw [Bool.false_and]⟩
   | true =>
    rw [if_neg (by simp), wrap64_in _ (by omega) (by omega), Bool.true_and]
    exact ⟨h', nx⟩
def Q8 (s : Sh) (c : List En) : Bool := decide (c.length ≤ s.aU.length) && (Y5 s none c && (vW (named c) 0 (named c) && FO s (named c) s.aU.length 0))
theorem V4 : ∀ (c : List En), (named c).length ≤ 2 * c.length
 | [] => by simp [named]
 | e :: c => by
  have h1 := V4 c
  have h2 : (kV e).length ≤ 2 := by unfold kV; split <;> simp
  have : named (e :: c) = kV e ++ named c := by unfold named; rw [List.flatMap_cons]
  rw [this, List.length_append, List.length_cons]; omega
theorem aFI {h : Hp} (w : Wf h) (a : yX h s r) (f : mZ s) {v : Value} {c : List En} (hc : bP.Rows h 3 v (c.map En.row)) : ∃ h', F67 [.agg (Array.mk r), v] h = some (.bool (Q8 s c), h') := by
 have start : F67 [.agg (Array.mk r), v] h = aIJ (aP RJ 999999) (.agg (Array.mk r)) v h := rfl
 rw [start]
 unfold aIJ Q8
 have f6 := f.aU
 rw [fQ, bL]
 have g0 : bE h (h.add (.cells r 25 none)) := bE.add w _
 have a0 : At (h.add (.cells r 25 none)) (.pointer (some ⟨h.next, 0, none⟩)) r := At.new
 generalize h.add (.cells r 25 none) = h0 at g0 a0 ⊢
 generalize Value.pointer (some ⟨h.next, 0, none⟩) = p at a0 ⊢
 have sh := a.sub g0.sub
 have hc0 := hc.sub g0.sub
 obtain ⟨vf, vt, hrow, sf, st⟩ := id sh
 rw [hc0.len, List.length_map, a0.lK 1 (x := vf) (by rw [hrow]; rfl), sf.rows.len, List.length_map, aN, bA, aI]
 by_cases hl : c.length ≤ s.aU.length
 case neg =>
  rw [if_pos (by simp; omega), decide_eq_false hl, Bool.false_and]
  exact ⟨_, rfl⟩
 rw [if_neg (by simp; omega), decide_eq_true hl, Bool.true_and, show (Int.ofNat 0) = ((0 : Nat) : Int) from rfl, show (999999 : Nat) = c.length + 2 + (999997 - c.length) by omega, Q6 g0.wf sh f hc0 a0 (by omega) c.length 0 _ none rfl (by omega), List.drop_zero]
 cases ho : Y5 s none c with
 | false => rw [if_neg (by simp)]; exact ⟨_, rfl⟩
 | true =>
 rw [if_pos rfl, Bool.true_and]
 unfold aII
 obtain ⟨h1, v1, e1, g1, s1⟩ := aFH g0.wf hc0 (by omega)
 have n2 := V4 c
 rw [e1, aD, show (Int.ofNat 0) = ((0 : Nat) : Int) from rfl, show 999997 - c.length = (named c).length + 2 + (999995 - c.length - (named c).length) by omega, I1 s1 (by omega) (named c).length 0 _ (by omega), List.drop_zero]
 cases hf : vW (named c) 0 (named c) with
 | false => rw [if_neg (by simp)]; exact ⟨_, rfl⟩
 | true =>
 rw [if_pos rfl, Bool.true_and]
 unfold aIH
 obtain ⟨h2, e2⟩ := I4 g1.wf (sh.sub g1.sub) f (a0.sub g1.sub) s1 (by omega) s.aU.length 0 (999993 - c.length - (named c).length - s.aU.length) h1 (bE.refl g1.wf) (by omega)
 rw [show s.aU.length + 2 + (999993 - c.length - (named c).length - s.aU.length) = 999995 - c.length - (named c).length by omega] at e2
 exact ⟨h2, e2⟩
end
end Go.Proofs.YtgjdokjoejhepaaGreatDoor.K.L
