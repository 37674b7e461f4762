/- Contracts of told functions: what an entry can say (the code). -/
import Derived.Test.YtgjdokjoejhepaaGreatDoorTrS8
open Go Go.bP
set_option maxRecDepth 100000
set_option linter.unusedVariables false
namespace Go.Proofs.YtgjdokjoejhepaaGreatDoor.K.L
theorem CB {h : Hp} {v fv : Value} {P : Int → Bool} {ts : List Int} (hr : bP.Rows h 1 v (ts.map dH)) (hlen : ts.length ≤ 900000) (hf : ∀ t ∈ ts, oO zI fv [.int .i64 t] h = some (.bool (P t), h)) : ∀ m i k, i + m = ts.length → m + 2 ≤ k →
  aP M6 k 1 (AL.v v (AL.v fv (AL.i (ts.length : Int) (AL.i (i : Int) AL.n)))) h = some (.int .i64 (idxFrom P i (ts.drop i)), h)
 | 0, i, k + 2, him, hk => by
  show vQ (aP M6 (k + 1)) v fv (ts.length : Int) (i : Int) h = _
  unfold vQ
  rw [aN, bA, aI, if_neg (by simp; omega), List.drop_of_length_le (by omega)]
  rfl
 | m + 1, i, k + 1, him, hk => by
  have hi : i < ts.length := by omega
  have hg : (ts.map dH)[i]? = some (dH ts[i]) := by rw [List.getElem?_map, List.getElem?_eq_getElem hi]; rfl
  obtain ⟨q, hq, haq, hl⟩ := hr.at hg
  show vQ (aP M6 k) v fv (ts.length : Int) (i : Int) h = _
  unfold vQ
  rw [aN, bA, aI, if_pos (by simp; omega), hq, haq.lV (x := .int .i64 ts[i]) rfl, aK, hf _ (List.getElem_mem hi), aD, aO, aI, List.drop_eq_getElem_cons hi]
  unfold idxFrom
  cases hs : P ts[i] with
  | true => rfl
  | false =>
   simp only [Bool.false_eq_true, if_false]
   rw [show Int.add (i : Int) (Int.ofNat 1) = ((i + 1 : Nat) : Int) from rfl, wrap64_in _ (by omega) (by omega)]
   exact CB hr hlen hf m (i + 1) k (by omega) (by omega)
theorem Y7 {h : Hp} {v fv : Value} {P : Int → Bool} {ts : List Int} (hr : bP.Rows h 1 v (ts.map dH)) (hlen : ts.length ≤ 900000) (hf : ∀ t ∈ ts, oO zI fv [.int .i64 t] (bK h) = some (.bool (P t), bK h)) : aKX [v, fv] h = some (.bool (ts.any P), h) := by
 have e : aOZ [v, fv] (bK h) = some (.int .i64 (idxFrom P 0 ts), bK h) := by
  show J9 (aP M6 999999) v fv (bK h) = _
  unfold J9
  have := CB (h := bK h) hr hlen hf ts.length 0 999999 (by omega) (by omega)
  rw [List.drop_zero] at this
  rw [hr.len, List.length_map]
  exact this
 show KA (aP aKW 999999) v fv h = _
 unfold KA
 rw [bD e rfl, aD, aK, aX, bA, show (Int.ofNat 0) = (0 : Int) from rfl, oV, Bool.not_not]
theorem IW {h : Hp} (w : Wf h) {s : Sh} {r : List Value} (a : yX h s r) (x : Nat) (hx : x ≤ 60) (hlen : s.ts.length ≤ 900000) (ht : ∀ t ∈ s.ts, 0 ≤ t ∧ t ≤ 63) : ∃ h', F86 [.agg (Array.mk r), .int .i64 (x : Int)] h = some (.bool (lW s.ts x), h') := by
 obtain ⟨vf, vt, rfl, sf, st⟩ := a
 have start : F86 [.agg (Array.mk (eT s.lines vf vt)), .int .i64 (x : Int)] h = aH2 (aP T86 999999) (.agg (Array.mk (eT s.lines vf vt))) (x : Int) h := rfl
 rw [start]
 unfold aH2
 rw [fQ, bL, bL]
 have g0 : bE h (h.add (.cells (eT s.lines vf vt) 88 none)) := bE.add w _
 have a0 : At (h.add (.cells (eT s.lines vf vt) 88 none)) (.pointer (some ⟨h.next, 0, none⟩)) (eT s.lines vf vt) := At.new
 generalize h.add (.cells (eT s.lines vf vt) 88 none) = h0 at g0 a0 ⊢
 have g1 : bE h (h0.add (.cells [.int .i64 (x : Int)] 3 none)) := g0.trans (bE.add g0.wf _)
 have a1 : At (h0.add (.cells [.int .i64 (x : Int)] 3 none)) (.pointer (some ⟨h.next, 0, none⟩)) (eT s.lines vf vt) := VW g0.wf a0 _
 have b1 : At (h0.add (.cells [.int .i64 (x : Int)] 3 none)) (.pointer (some ⟨h0.next, 0, none⟩)) [.int .i64 (x : Int)] := At.new
 generalize h0.add (.cells [.int .i64 (x : Int)] 3 none) = h1 at g1 a1 b1 ⊢
 have t1 := (st.sub g1.sub).rows
 generalize Value.pointer (some ⟨h0.next, 0, none⟩) = q at b1 ⊢
 obtain ⟨q0, hq0, aq0⟩ := a1.part 0 3 (by show 3 ≤ 3; decide)
 have hf : ∀ t ∈ s.ts, oO zI (.func (.func 136) #[] #[q]) [.int .i64 t] (bK (bK h1)) = some (.bool (IX t.toNat x), bK (bK h1)) := by
  intro t hm
  have hb := ht t hm
  rw [show oO zI (.func (.func 136) #[] #[q]) [.int .i64 t] (bK (bK h1)) = dD (aOJ [.int .i64 t, q] (bK (bK h1))) (fun v => some (v, bK (bK h1))) from rfl]
  have e : aOJ [.int .i64 t, q] (bK (bK h1)) = some (.bool (IX t.toNat x)) := by
   show plainO (X0 (bK (bK h1)) (G.aP (aOI (bK (bK h1))) 999999) t q) = _
   unfold X0
   have eb := aLO (bK (bK h1)) (t := t.toNat) (n := x) (by omega) hx
   rw [show ((t.toNat : Nat) : Int) = t by omega] at eb
   rw [(oH (oH b1)).lV (x := .int .i64 (x : Int)) rfl, aK, eb, aM, aO]
   rfl
  rw [e, aM]
 rw [hq0, (show At h1 q0 (eT s.lines vf vt) from aq0).lK 2 (x := vt) rfl, show (Value.func (.func 136) (List.toArray []) (List.toArray [q])) = .func (.func 136) #[] #[q] from rfl, bD (Y7 (h := bK h1) t1 hlen hf) rfl, aD, aO]
 exact ⟨_, rfl⟩
theorem uD {h : Hp} (w : Wf h) {s : Sh} {r : List Value} (a : yX h s r) (f : mZ s) (n : Nat) (hn : n ≤ 63) : dR F65 [.agg (Array.mk r), .int .i64 (n : Int)] h = some (.bool (oU s.ts (n : Int)), h) := by
 obtain ⟨h9, e9⟩ := MM (h := bK h) (fZ w) a (n : Int) (by have := f.six; omega) (fun t ht => by have := f.small t ht; omega) (by omega)
 exact bD e9 rfl
theorem aI5 {x : Nat} (hx : x < 6) : 2 ^ x ≤ 63 := by have := NR x hx; omega
theorem SH {h : Hp} (w : Wf h) {s : Sh} {r : List Value} (a : yX h s r) (f : mZ s) (x : Nat) (hx : x < 6) (b : Int) : ∃ h', aPQ [.agg (Array.mk r), .int .i64 (x : Int), .int .i64 b] h = some (.bool (decide (b = 0) && oU s.ts ((2 ^ x : Nat) : Int)), h') := by
 have start : aPQ [.agg (Array.mk r), .int .i64 (x : Int), .int .i64 b] h = YC (aP aPP 999999) (.agg (Array.mk r)) (x : Int) b h := rfl
 rw [start]
 unfold YC
 have hr3 := a.len
 rw [fQ, bL]
 have g0 : bE h (h.add (.cells r 88 none)) := bE.add w _
 have a0 : At (h.add (.cells r 88 none)) (.pointer (some ⟨h.next, 0, none⟩)) r := At.new
 generalize h.add (.cells r 88 none) = h0 at g0 a0 ⊢
 rw [aN, dJ, aI, show (Int.ofNat 0) = (0 : Int) from rfl]
 by_cases hb : b = 0
 ·rw [if_pos (by simpa using hb), (oH a0).fF (z := 3) hr3, vT, aD, rD]
  have e1 : vR [.slice (some ⟨Hp.next h0, 0, none⟩) 1 1] (Hp.mk (Hp.next h0 + 1) (Hp.next h0 + 1) (aF [(Hp.next h0, aW.cells [.int .i64 (x : Int)] 3 none)] (Hp.aJ h0))) = some (.int .i64 ((2 ^ x : Nat) : Int)) := NS (h := ⟨h0.next, h0.next + 1, h0.aJ⟩) hx
  have e2 := uD (h := h0.add (.cells [.int .i64 (x : Int)] 3 none)) (g0.wf.add _) ((a.sub g0.sub).sub (bE.add g0.wf _).sub) f (2 ^ x) (aI5 hx)
  rw [show vR [.slice (some ⟨(Hp.mk (Hp.next h0) (Hp.next h0) T.nil).next, 0, none⟩) 1 1] (Hp.mk (Hp.next h0 + 1) (Hp.next h0 + 1) (aF [(Hp.next h0, aW.cells [.int .i64 (x : Int)] 3 none)] (Hp.aJ h0))) = _ from e1, aM, aD, aK,
   show dR F65 [.agg (Array.mk r), .int .i64 ((2 ^ x : Nat) : Int)] (Hp.mk (Hp.next h0 + 1) (Hp.ro h0) (aF [(Hp.next h0, aW.cells [.int .i64 (x : Int)] 3 none)] (Hp.aJ h0))) = _ from e2, aD, aO]
  exact ⟨_, by rw [hb]; simp; rfl⟩
 ·rw [if_neg (by simpa using hb), bS, bS]
  exact ⟨_, by simp [hb]; rfl⟩
theorem aB3 {h : Hp} (w : Wf h) {s : Sh} {r : List Value} (a : yX h s r) (f : mZ s) (x : Nat) (hx : x < 6) (b : Int) : ∃ h', aPU [.agg (Array.mk r), .int .i64 (x : Int), .int .i64 b] h = some (.bool (decide (b = 0) && (lW s.ts x && !(oU s.ts ((2 ^ x : Nat) : Int)))), h') := by
 have start : aPU [.agg (Array.mk r), .int .i64 (x : Int), .int .i64 b] h = YE (aP aPT 999999) (.agg (Array.mk r)) (x : Int) b h := rfl
 rw [start]
 unfold YE
 have hr3 := a.len
 rw [fQ, bL]
 have g0 : bE h (h.add (.cells r 88 none)) := bE.add w _
 have a0 : At (h.add (.cells r 88 none)) (.pointer (some ⟨h.next, 0, none⟩)) r := At.new
 generalize h.add (.cells r 88 none) = h0 at g0 a0 ⊢
 rw [aN, dJ, aI, show (Int.ofNat 0) = (0 : Int) from rfl]
 by_cases hb : b = 0
 case neg =>
  rw [if_neg (by simpa using hb), bS, bS, bS]
  exact ⟨_, by simp [hb]; rfl⟩
 obtain ⟨h8, e8⟩ := IW (h := bK (bK h0)) (fZ (fZ g0.wf)) (a.sub g0.sub) x (by omega) (by have := f.six; omega) f.small
 rw [if_pos (by simpa using hb), (oH a0).fF (z := 3) hr3, bD (h := bK h0) e8 rfl, aD, aO, aI]
 cases hs : lW s.ts x with
 | false => rw [if_neg (by simp), bS, bS]; exact ⟨_, by simp; rfl⟩
 | true =>
 rw [if_pos rfl, (oH a0).fF (z := 3) hr3, vT, aD, rD]
 have e1 : vR [.slice (some ⟨Hp.next h0, 0, none⟩) 1 1] (Hp.mk (Hp.next h0 + 1) (Hp.next h0 + 1) (aF [(Hp.next h0, aW.cells [.int .i64 (x : Int)] 3 none)] (Hp.aJ h0))) = some (.int .i64 ((2 ^ x : Nat) : Int)) := NS (h := ⟨h0.next, h0.next + 1, h0.aJ⟩) hx
 have e2 := uD (h := h0.add (.cells [.int .i64 (x : Int)] 3 none)) (g0.wf.add _) ((a.sub g0.sub).sub (bE.add g0.wf _).sub) f (2 ^ x) (aI5 hx)
 rw [show vR [.slice (some ⟨(Hp.mk (Hp.next h0) (Hp.next h0) T.nil).next, 0, none⟩) 1 1] (Hp.mk (Hp.next h0 + 1) (Hp.next h0 + 1) (aF [(Hp.next h0, aW.cells [.int .i64 (x : Int)] 3 none)] (Hp.aJ h0))) = _ from e1, aM, aD, aK,
  show dR F65 [.agg (Array.mk r), .int .i64 ((2 ^ x : Nat) : Int)] (Hp.mk (Hp.next h0 + 1) (Hp.ro h0) (aF [(Hp.next h0, aW.cells [.int .i64 (x : Int)] 3 none)] (Hp.aJ h0))) = _ from e2, aD, aO, aX]
 exact ⟨_, by rw [hb]; simp; rfl⟩
def KU (s : Sh) (x : Nat) : Int := ((s.aU[x]?).map Fg.room).getD 0
def KL (s : Sh) (x y : Nat) : Bool := decide (x < y) && (decide (KU s x = KU s y) && (!(oU s.ts ((2 ^ x : Nat) : Int)) && (!(oU s.ts ((2 ^ y : Nat) : Int)) && oU s.ts ((2 ^ x ||| 2 ^ y : Nat) : Int))))
theorem NN {s : Sh} {x : Nat} (hx : x < s.aU.length) : KU s x = (s.aU[x]).room := by
 unfold KU; rw [List.getElem?_eq_getElem hx]; rfl
theorem aB2 {h : Hp} (w : Wf h) {s : Sh} {r : List Value} (a : yX h s r) (f : mZ s) (x y : Nat) (hx : x < s.aU.length) (hy : y < s.aU.length) : ∃ h', aPS [.agg (Array.mk r), .int .i64 (x : Int), .int .i64 (y : Int)] h = some (.bool (KL s x y), h') := by
 have start : aPS [.agg (Array.mk r), .int .i64 (x : Int), .int .i64 (y : Int)] h = YD (aP aPR 999999) (.agg (Array.mk r)) (x : Int) (y : Int) h := rfl
 rw [start]
 unfold YD KL
 have f6 := f.aU
 have hr3 := a.len
 rw [fQ, bL]
 have g0 : bE h (h.add (.cells r 88 none)) := bE.add w _
 have a0 : At (h.add (.cells r 88 none)) (.pointer (some ⟨h.next, 0, none⟩)) r := At.new
 generalize h.add (.cells r 88 none) = h0 at g0 a0 ⊢
 have sh := a.sub g0.sub
 generalize Value.pointer (some ⟨h.next, 0, none⟩) = p at a0 ⊢
 obtain ⟨vf, vt, hrow, sf, st⟩ := id sh
 rw [aN, bA, aI]
 by_cases c1 : x < y
 case neg =>
  rw [if_neg (by simpa using c1), bS, bS, bS, bS, bS, bS, bS, bS]
  exact ⟨_, by simp [c1]; rfl⟩
 have aS := oH a0
 obtain ⟨q0, hq0, aq0⟩ := aS.part 0 3 (by rw [hr3]; decide)
 have aq : At (bK h0) q0 (eT s.lines vf vt) := by rw [← hrow]; simpa [List.take_of_length_le (show r.length ≤ 3 by omega)] using aq0
 have hgx : (s.aU.map Fg.row)[x]? = some (s.aU[x]).row := by rw [List.getElem?_map, List.getElem?_eq_getElem hx]; rfl
 have hgy : (s.aU.map Fg.row)[y]? = some (s.aU[y]).row := by rw [List.getElem?_map, List.getElem?_eq_getElem hy]; rfl
 obtain ⟨qx, hqx, ax, _⟩ := sf.rows.at hgx
 obtain ⟨qy, hqy, ay, _⟩ := sf.rows.at hgy
 rw [if_pos (by simpa using c1), hq0, aq.lK 1 (x := vf) rfl, hqx, (oH ax).lK 2 (x := .int .i64 (s.aU[x]).room) rfl, aK, hq0, aq.lK 1 (x := vf) rfl, hqy, (oH ay).lK 2 (x := .int .i64 (s.aU[y]).room) rfl, aK, aN, dJ, aI, NN hx, NN hy]
 by_cases c2 : (s.aU[x]).room = (s.aU[y]).room
 case neg =>
  rw [if_neg (by simpa using c2), bS, bS, bS, bS, bS, bS, bS, bS]
  exact ⟨_, by simp [c2]; rfl⟩
 have x6 : x < 6 := by omega
 have y6 : y < 6 := by omega
 have e1 : vR [.slice (some ⟨Hp.next h0, 0, none⟩) 1 1] (Hp.mk (Hp.next h0 + 1) (Hp.next h0 + 1) (aF [(Hp.next h0, aW.cells [.int .i64 (x : Int)] 3 none)] (Hp.aJ h0))) = some (.int .i64 ((2 ^ x : Nat) : Int)) := NS (h := ⟨h0.next, h0.next + 1, h0.aJ⟩) x6
 have w1 := g0.wf.add (.cells [.int .i64 (x : Int)] 3 none)
 have s1 := sh.sub (bE.add g0.wf (.cells [.int .i64 (x : Int)] 3 none)).sub
 have b1 := a0.sub (bE.add g0.wf (.cells [.int .i64 (x : Int)] 3 none)).sub
 have e2 := uD (h := bK (h0.add (.cells [.int .i64 (x : Int)] 3 none))) (fZ w1) s1 f (2 ^ x) (aI5 x6)
 rw [if_pos (by simpa using c2), aS.fF (z := 3) hr3, vT, aD, rD,
  show vR [.slice (some ⟨(Hp.mk (Hp.next h0) (Hp.next h0) T.nil).next, 0, none⟩) 1 1] (Hp.mk (Hp.next h0 + 1) (Hp.next h0 + 1) (aF [(Hp.next h0, aW.cells [.int .i64 (x : Int)] 3 none)] (Hp.aJ h0))) = _ from e1, aM, aD, aK,
  show dR F65 [.agg (Array.mk r), .int .i64 ((2 ^ x : Nat) : Int)] (Hp.mk (Hp.next h0 + 1) (Hp.next h0 + 1) (aF [(Hp.next h0, aW.cells [.int .i64 (x : Int)] 3 none)] (Hp.aJ h0))) = _ from e2, aD, aO, aX, aI]
 cases c3 : oU s.ts ((2 ^ x : Nat) : Int) with
 | true =>
  rw [if_neg (by simp), bS, bS, bS, bS, bS]
  exact ⟨_, by simp; rfl⟩
 | false =>
 have e3 : vR [.slice (some ⟨Hp.next h0 + 1, 0, none⟩) 1 1] (Hp.mk (Hp.next h0 + 1 + 1) (Hp.next h0 + 1 + 1) (aF [(Hp.next h0 + 1, aW.cells [.int .i64 (y : Int)] 3 none)] (aF [(Hp.next h0, aW.cells [.int .i64 (x : Int)] 3 none)] (Hp.aJ h0)))) = some (.int .i64 ((2 ^ y : Nat) : Int)) := NS (h := ⟨h0.next + 1, h0.next + 1 + 1, aF [(Hp.next h0, aW.cells [.int .i64 (x : Int)] 3 none)] (Hp.aJ h0)⟩) y6
 have w2 := w1.add (.cells [.int .i64 (y : Int)] 3 none)
 have s2 := s1.sub (bE.add w1 (.cells [.int .i64 (y : Int)] 3 none)).sub
 have b2 := b1.sub (bE.add w1 (.cells [.int .i64 (y : Int)] 3 none)).sub
 have e4 := uD (h := bK ((h0.add (.cells [.int .i64 (x : Int)] 3 none)).add (.cells [.int .i64 (y : Int)] 3 none))) (fZ w2) s2 f (2 ^ y) (aI5 y6)
 have l1 : ∀ (ρ : Type) (k : Value → Option ρ), bQ 3 (Hp.mk (Hp.next h0 + 1) (Hp.next h0 + 1) (aF [(Hp.next h0, aW.cells [.int .i64 (x : Int)] 3 none)] (Hp.aJ h0))) p k = k (.agg (Array.mk r)) := fun ρ k => (oH b1).fF (z := 3) hr3 k
 rw [if_pos (by rfl), l1, vT, aD, rD,
  show vR [.slice (some ⟨(Hp.mk (Hp.next h0 + 1) (Hp.next h0 + 1) T.nil).next, 0, none⟩) 1 1] (Hp.mk (Hp.next h0 + 1 + 1) (Hp.next h0 + 1 + 1) (aF [(Hp.next h0 + 1, aW.cells [.int .i64 (y : Int)] 3 none)] (aF [(Hp.next h0, aW.cells [.int .i64 (x : Int)] 3 none)] (Hp.aJ h0)))) = _ from e3, aM, aD, aK,
  show dR F65 [.agg (Array.mk r), .int .i64 ((2 ^ y : Nat) : Int)] (Hp.mk (Hp.next h0 + 1 + 1) (Hp.next h0 + 1 + 1) (aF [(Hp.next h0 + 1, aW.cells [.int .i64 (y : Int)] 3 none)] (aF [(Hp.next h0, aW.cells [.int .i64 (x : Int)] 3 none)] (Hp.aJ h0)))) = _ from e4, aD, aO, aX, aI]
 cases c4 : oU s.ts ((2 ^ y : Nat) : Int) with
 | true =>
  rw [if_neg (by simp), bS, bS]
  exact ⟨_, by simp; rfl⟩
 | false =>
 have e5 : vR [.slice (some ⟨Hp.next h0 + 1 + 1, 0, none⟩) 2 2] (Hp.mk (Hp.next h0 + 1 + 1 + 1) (Hp.next h0 + 1 + 1 + 1) (aF [(Hp.next h0 + 1 + 1, aW.cells [.int .i64 (x : Int), .int .i64 (y : Int)] 3 none)] (aF [(Hp.next h0 + 1, aW.cells [.int .i64 (y : Int)] 3 none)] (aF [(Hp.next h0, aW.cells [.int .i64 (x : Int)] 3 none)] (Hp.aJ h0))))) = some (.int .i64 ((2 ^ x ||| 2 ^ y : Nat) : Int)) := aUR (h := ⟨h0.next + 1 + 1, h0.next + 1 + 1 + 1, aF [(Hp.next h0 + 1, aW.cells [.int .i64 (y : Int)] 3 none)] (aF [(Hp.next h0, aW.cells [.int .i64 (x : Int)] 3 none)] (Hp.aJ h0))⟩) x6 y6
 have w3 := w2.add (.cells [.int .i64 (x : Int), .int .i64 (y : Int)] 3 none)
 have s3 := s2.sub (bE.add w2 (.cells [.int .i64 (x : Int), .int .i64 (y : Int)] 3 none)).sub
 have hor : 2 ^ x ||| 2 ^ y < 64 := Nat.or_lt_two_pow (n := 6) (NR x x6) (NR y y6)
 have e6 := uD (h := ((h0.add (.cells [.int .i64 (x : Int)] 3 none)).add (.cells [.int .i64 (y : Int)] 3 none)).add (.cells [.int .i64 (x : Int), .int .i64 (y : Int)] 3 none)) w3 s3 f (2 ^ x ||| 2 ^ y) (by omega)
 have l2 : ∀ (ρ : Type) (k : Value → Option ρ), bQ 3 (Hp.mk (Hp.next h0 + 1 + 1) (Hp.next h0 + 1 + 1) (aF [(Hp.next h0 + 1, aW.cells [.int .i64 (y : Int)] 3 none)] (aF [(Hp.next h0, aW.cells [.int .i64 (x : Int)] 3 none)] (Hp.aJ h0)))) p k = k (.agg (Array.mk r)) := fun ρ k => (oH b2).fF (z := 3) hr3 k
 rw [if_pos (by rfl), l2, a1N, aD, rD,
  show vR [.slice (some ⟨(Hp.mk (Hp.next h0 + 1 + 1) (Hp.next h0 + 1 + 1) T.nil).next, 0, none⟩) 2 2] (Hp.mk (Hp.next h0 + 1 + 1 + 1) (Hp.next h0 + 1 + 1 + 1) (aF [(Hp.next h0 + 1 + 1, aW.cells [.int .i64 (x : Int), .int .i64 (y : Int)] 3 none)] (aF [(Hp.next h0 + 1, aW.cells [.int .i64 (y : Int)] 3 none)] (aF [(Hp.next h0, aW.cells [.int .i64 (x : Int)] 3 none)] (Hp.aJ h0))))) = _ from e5, aM, aD, aK,
  show dR F65 [.agg (Array.mk r), .int .i64 ((2 ^ x ||| 2 ^ y : Nat) : Int)] (Hp.mk (Hp.next h0 + 1 + 1 + 1) (Hp.ro h0) (aF [(Hp.next h0 + 1 + 1, aW.cells [.int .i64 (x : Int), .int .i64 (y : Int)] 3 none)] (aF [(Hp.next h0 + 1, aW.cells [.int .i64 (y : Int)] 3 none)] (aF [(Hp.next h0, aW.cells [.int .i64 (x : Int)] 3 none)] (Hp.aJ h0))))) = _ from e6, aD, aO]
 exact ⟨_, by simp [c1, c2]; rfl⟩
end Go.Proofs.YtgjdokjoejhepaaGreatDoor.K.L
