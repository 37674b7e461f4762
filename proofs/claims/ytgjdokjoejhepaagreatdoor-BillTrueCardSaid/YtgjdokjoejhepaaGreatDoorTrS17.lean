/- Contracts of told functions: whether a catalogue is true (the code). -/
import Derived.Test.YtgjdokjoejhepaaGreatDoorTrS16
open Go Go.bP
set_option maxRecDepth 100000
set_option linter.unusedVariables false
namespace Go.Proofs.YtgjdokjoejhepaaGreatDoor.K.L
def okP (p : Option Int) (e : En) : Bool := match p with
 | none => true
 | some a => decide (a < e.a)
def uC (s : Sh) : Option Int → List En → Bool
 | _, [] => true
 | p, e :: l => rF s e && (okP p e && uC s (some e.a) l)
theorem NM {s : Sh} {e : En} (f : mZ s) (h : rF s e = true) : 0 ≤ e.a ∧ e.a ≤ 5 ∧ 0 ≤ e.b ∧ e.b ≤ 5 := by
 unfold rF IV at h
 simp only [Bool.and_eq_true] at h
 have h1 := jH.1 h.1
 have h2 := jH.1 h.2.2.1
 have := f.aU
 omega
theorem aQZ {s : Sh} {e : En} (f : mZ s) (h : rF s e = true) : InE e := by
 obtain ⟨h1, h2, h3, h4⟩ := NM f h
 intro x hx
 unfold kV at hx
 split at hx
 ·simp only [List.mem_cons, List.not_mem_nil, or_false] at hx
  rcases hx with rfl | rfl <;> omega
 ·simp only [List.mem_cons, List.not_mem_nil, or_false] at hx
  subst hx; omega
theorem aFE {s : Sh} (f : mZ s) : ∀ {c : List En} {p : Option Int}, uC s p c = true → ∀ e ∈ c, InE e
 | [], _, _, e, he => by cases he
 | x :: c, p, h, e, he => by
  unfold uC at h
  simp only [Bool.and_eq_true] at h
  rcases List.mem_cons.1 he with rfl | he
  ·exact aQZ f h.1
  ·exact aFE f h.2.2 e he
theorem aI0 {s : Sh} (f : mZ s) : ∀ {c : List En} {x : Int}, 0 ≤ x → x ≤ 5 → uC s (some x) c = true → x + c.length ≤ 5
 | [], x, _, h5, _ => by simp; omega
 | e :: c, x, h0, h5, h => by
  unfold uC okP at h
  simp only [Bool.and_eq_true, decide_eq_true_eq] at h
  obtain ⟨h1, h2, h3, h4⟩ := NM f h.1
  have := aI0 f h1 h2 h.2.2
  simp only [List.length_cons]; omega
theorem aQ0 {s : Sh} (f : mZ s) {c : List En} (h : uC s none c = true) : c.length ≤ 6 := by
 cases c with
 | nil => simp
 | cons e c =>
  unfold uC at h
  simp only [Bool.and_eq_true] at h
  obtain ⟨h1, h2, h3, h4⟩ := NM f h.1
  have := aI0 f h1 h2 h.2.2
  simp only [List.length_cons]; omega
theorem aXL (b : Bool) (h h' : Hp) : (aY (some (Value.bool b, h')) fun v _ => dI (jS v) (some (v, h)) none) = some (.bool b, h) := rfl
theorem bB3 {v : Value} (hp : jS v = true) (h h' : Hp) : (aY (some (v, h')) fun v _ => dI (jS v) (some (v, h)) none) = some (v, h) := by
 rw [aD, hp]
def bB4 (c : List En) (i m : Nat) : Option Int → Prop
 | none => i = 0 ∧ 7 ≤ m
 | some x => 0 < i ∧ 0 ≤ x ∧ x ≤ 5 ∧ 6 ≤ x + m ∧ ∃ e, c[i - 1]? = some e ∧ e.a = x
theorem VZ {hb : Hp} (w : Wf hb) {s : Sh} {r : List Value} (a : yX hb s r) (f : mZ s) {r1 r2 : Value} {c : List En} (hc : bP.Rows hb 3 r1 (c.map En.row)) (h2 : At hb r2 r) : ∀ m i n (h : Hp) (p : Option Int), bE hb h → bB4 c i m p → i + m ≤ 8 → i ≤ c.length →
  ∃ h', bE hb h' ∧ aP T66 (m + 2 + n) 1 (AL.v r1 (AL.v r2 (AL.v r1 (AL.i (c.length : Int) (AL.i (i : Int) AL.n))))) h = if uC s p (c.drop i) then aBP (aP T66 0) r1 r2 h' else some (.bool false, h')
 | 0, i, n, h, p, g, hp, him, hic => by
  exfalso
  cases p with
  | none => have := hp.2; omega
  | some x => have := hp.2.2.1; have := hp.2.2.2.1; omega
 | m + 1, i, n, h, p, g, hp, him, hic => by
  have step : aP T66 (m + 1 + 2 + n) 1 (AL.v r1 (AL.v r2 (AL.v r1 (AL.i (c.length : Int) (AL.i (i : Int) AL.n))))) h = aIA (aP T66 (m + 2 + n)) r1 r2 r1 (c.length : Int) (i : Int) h := by rw [show m + 1 + 2 + n = (m + 2 + n) + 1 by omega]; rfl
  rw [step]
  unfold aIA
  by_cases hi : i < c.length
  case neg =>
   refine ⟨h, g, ?_⟩
   rw [aN, bA, aI, if_neg (by simp; omega), List.drop_of_length_le (by omega), show uC s p [] = true from by unfold uC; rfl, if_pos rfl, show m + 2 + n = (m + 1 + n) + 1 by omega]
   rfl
  have hg : (c.map En.row)[i]? = some (c[i]).row := by rw [List.getElem?_map, List.getElem?_eq_getElem hi]; rfl
  obtain ⟨q, hq, haq, hl⟩ := (hc.sub g.sub).at hg
  obtain ⟨hA, gA, rA, kA⟩ := aFB g.wf 57 [(Value.int .i64 (Int.ofNat 0)), (Value.int .i64 (Int.ofNat 0)), (Value.int .i64 (Int.ofNat 0))] rfl (c[i]).row rfl rfl
  have aA : At hA (.pointer (some ⟨h.next, 0, none⟩)) (c[i]).row := ⟨h.next, 0, _, 57, none, rfl, rA, by simp, fun k x hx => by simpa using hx⟩
  have gg := g.trans gA
  obtain ⟨hH, eH⟩ := aB4 (h := bK (bK hA)) (fZ (fZ gg.wf)) (a.sub gg.sub) f c[i]
  rw [aN, bA, aI, if_pos (by simp; omega), hq, haq.fF hl, kA, (h2.sub gg.sub).fF (z := 3) a.len, aA.fF (z := 3) rfl, bD (h := bK hA) eH rfl, aXL, aD, aO, aX, aI, List.drop_eq_getElem_cons hi]
  unfold uC
  cases hs : rF s c[i] with
  | false => exact ⟨hA, gg, by rw [if_pos (by rfl), if_neg (by simp)]⟩
  | true =>
   obtain ⟨b1, b2, b3, b4⟩ := NM f hs
   rw [if_neg (by simp), aN, bA, aI, show Int.add (i : Int) (Int.ofNat 1) = ((i + 1 : Nat) : Int) from rfl, Bool.true_and]
   have nx : bB4 c (i + 1) m (some (c[i]).a) → ∃ h', bE hb h' ∧ aP T66 (m + 2 + n) 1 (AL.v r1 (AL.v r2 (AL.v r1 (AL.i (c.length : Int) (AL.i ((i + 1 : Nat) : Int) AL.n))))) hA = if uC s (some (c[i]).a) (c.drop (i + 1)) then aBP (aP T66 0) r1 r2 h' else some (.bool false, h') := fun hp' => VZ w a f hc h2 m (i + 1) n hA (some (c[i]).a) gg hp' (by omega) (by omega)
   have hei : c[i + 1 - 1]? = some c[i] := by rw [Nat.add_sub_cancel, List.getElem?_eq_getElem hi]
   cases p with
   | none =>
    obtain ⟨h0, h7⟩ := hp
    rw [if_neg (by simp; omega), wrap64_in _ (by omega) (by omega), show okP none c[i] = true from rfl, Bool.true_and]
    exact nx ⟨by omega, b1, b2, by omega, c[i], hei, rfl⟩
   | some x =>
    obtain ⟨h0, x0, x5, x6, e0, he0, hx⟩ := hp
    have hg0 : (c.map En.row)[i - 1]? = some e0.row := by rw [List.getElem?_map, he0]; rfl
    obtain ⟨q0, hq0, a1R, hl0⟩ := (hc.sub gg.sub).at hg0
    rw [if_pos (by simp; omega), aA.lK 1 (x := .int .i64 (c[i]).a) rfl, aK, show Int.sub (i : Int) (Int.ofNat 1) = ((i - 1 : Nat) : Int) by (show (i : Int) - 1 = _; omega), wrap64_in (n := ((i - 1 : Nat) : Int)) _ (by omega) (by omega), hq0, a1R.lK 1 (x := .int .i64 e0.a) rfl, aK, aX, bA, aI, hx]
    rw [show okP (some x) c[i] = decide (x < (c[i]).a) from rfl]
    by_cases hlt : x < (c[i]).a
    ·rw [if_neg (by simpa using hlt), wrap64_in _ (by omega) (by omega), decide_eq_true hlt, Bool.true_and]
     exact nx ⟨by omega, b1, b2, by omega, c[i], hei, rfl⟩
    ·exact ⟨hA, gg, by rw [if_pos (by simpa using hlt), decide_eq_false hlt, if_neg (by simp)]⟩
def aB6 (s : Sh) (c : List En) : Bool := uC s none c && decide (c.foldl zL jO = vV s)
theorem aB7 {h : Hp} (w : Wf h) {s : Sh} {r : List Value} (a : yX h s r) (f : mZ s) (ht : ∀ t ∈ s.ts, 0 ≤ t ∧ t ≤ 63) {v : Value} {c : List En} (hc : bP.Rows h 3 v (c.map En.row)) : ∃ h', F66 [.agg (Array.mk r), v] h = some (.bool (aB6 s c), h') := by
 have start : F66 [.agg (Array.mk r), v] h = aIB (aP T66 999999) (.agg (Array.mk r)) v h := rfl
 rw [start]
 unfold aIB
 rw [fQ, bL]
 have g0 : bE h (h.add (.cells r 88 none)) := bE.add w _
 have a0 : At (h.add (.cells r 88 none)) (.pointer (some ⟨h.next, 0, none⟩)) r := At.new
 generalize h.add (.cells r 88 none) = h0 at g0 a0 ⊢
 have c0 := hc.sub g0.sub
 have s0 := a.sub g0.sub
 rw [c0.len, List.length_map]
 obtain ⟨h1, g1, e1⟩ := VZ g0.wf s0 f c0 a0 7 0 999990 h0 none (bE.refl g0.wf) ⟨rfl, by omega⟩ (by omega) (by omega)
 rw [show (Int.ofNat 0) = ((0 : Nat) : Int) from rfl, show (999999 : Nat) = 7 + 2 + 999990 from rfl, e1, List.drop_zero]
 unfold aB6
 cases ho : uC s none c with
 | false => rw [if_neg (by simp)]; exact ⟨_, rfl⟩
 | true =>
  rw [if_pos rfl]
  unfold aBP
  obtain ⟨hp, gp, ep⟩ := QY (h := bK (bK h1)) (fZ (fZ g1.wf)) (c0.sub g1.sub) (aFE f ho) (by have := aQ0 f ho; omega)
  obtain ⟨hq, eq⟩ := M7 (h := bK h1) (fZ g1.wf) (s0.sub g1.sub) f ht
  rw [bD (h := bK h1) ep (aFD (rU c)), bB3 (aFD (rU c)), aD, (a0.sub g1.sub).fF (z := 3) a.len, bD eq (aFD (FM s)), aD, bME _ _ (rU c) (FM s), aM, aO]
  exact ⟨_, rfl⟩
def EE (s : Sh) (c : List En) : Bool × Int := if (fT s).2.2 ≠ 0 then (false, (fT s).2.2) else (aB6 s c, 0)
theorem aLA {h : Hp} (w : Wf h) {s : Sh} {r : List Value} (a : yX h s r) {v : Value} {c : List En} (hc : bP.Rows h 3 v (c.map En.row)) : ∃ h', F20 [.agg (Array.mk r), v] h = some (MH (EE s c), h') := by
 have start : F20 [.agg (Array.mk r), v] h = aID (aP T20 999999) (.agg (Array.mk r)) v h := rfl
 rw [start]
 unfold aID
 have hr3 := a.len
 rw [fQ, bL]
 have g0 : bE h (h.add (.cells r 25 none)) := bE.add w _
 have a0 : At (h.add (.cells r 25 none)) (.pointer (some ⟨h.next, 0, none⟩)) r := At.new
 generalize h.add (.cells r 25 none) = h0 at g0 a0 ⊢
 obtain ⟨h2', lk, e2, gg, hl3, h1c, hlk⟩ := V3 (h := bK h0) (fZ g0.wf) (a.sub g0.sub)
 obtain ⟨h2, e3, g2⟩ := KM g0.wf e2 gg
 rw [a0.fF (z := 3) hr3, e3, aD, eP (v := .agg (Array.mk lk)) rfl, eP (v := .int .i64 (fT s).2.2) rfl, aK, bL]
 have g3 : bE h (h2.add (.cells qZ 88 none)) := (g0.trans g2).trans (bE.add g2.wf _)
 have c3 : (h2.add (.cells qZ 88 none)).get h2.next = some (.cells qZ 88 none) := by rw [dM, if_pos rfl]
 rw [show [(Value.int .i64 (Int.ofNat 0)), (Value.slice none 0 0), (Value.slice none 0 0)] = qZ from rfl]
 obtain ⟨h4, g4, a4, k4, _⟩ := xD (z := 3) (l := lk) w g3 (b := h2.next) (by have := (g0.trans g2).next; omega) c3 rfl hl3 h1c
 rw [k4, aX, dJ, aI]
 unfold EE
 by_cases e0 : (fT s).2.2 = 0
 case neg =>
  rw [if_pos (by simpa using e0), if_pos e0]
  exact ⟨_, rfl⟩
 have F := BV e0
 rw [hlk e0] at a4
 rw [if_neg (by simpa using e0), if_neg (by simpa using e0), a4.fF (z := 3) hr3]
 obtain ⟨h5, e5⟩ := aB7 (h := bK h4) (fZ g4.wf) (a.sub g4.sub) F (fun t ht => by have := F.small t ht; omega) (hc.sub g4.sub)
 rw [bD e5 rfl, aD, aO]
 exact ⟨_, rfl⟩
end Go.Proofs.YtgjdokjoejhepaaGreatDoor.K.L
