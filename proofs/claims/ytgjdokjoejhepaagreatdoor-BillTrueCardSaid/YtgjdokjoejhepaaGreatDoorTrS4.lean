/- Contracts of told functions: figures, truths. -/
import Derived.Test.YtgjdokjoejhepaaGreatDoorTrSN
import Derived.Test.YtgjdokjoejhepaaGreatDoorTrS3
open Go Go.bP
set_option maxRecDepth 100000
set_option linter.unusedVariables false
namespace Go.Proofs.YtgjdokjoejhepaaGreatDoor.K.L
def RD (g : Fg) : Bool := oZ 0 9 g.room && oZ 1 6 g.hi
def aRA (prev : List Fg) (g : Fg) : Int := match prev.getLast? with | some x => if g.room < x.room then 2 else 0 | none => 0
def zQ (prev : List Fg) (g : Fg) : Int :=
 if !(qY g.nm.data.toList) then 6 else if prev.any (fun x => nD x.nm g.nm) then 5 else if !(qY g.as_.data.toList) then 6 else if !(RD g) then 7 else aRA prev g
theorem aCN {α : Type} (l : List α) (h : 0 < l.length) : l.getLast? = some (l[l.length - 1]'(by omega)) := by
 rw [List.getLast?_eq_getElem?, List.getElem?_eq_getElem]
theorem aRB {h : Hp} (w : Wf h) {v : Value} {prev : List Fg} (hr : bP.Rows h 4 v (prev.map Fg.row)) (hlen : prev.length ≤ 900000) (g : Fg) : ∃ h', F56 [v, .agg (Array.mk g.row)] h = some (.int .i64 (zQ prev g), h') := by
 have start : F56 [v, .agg (Array.mk g.row)] h = aGW (aP T56 999999) v (.agg (Array.mk g.row)) h := rfl
 rw [start]
 unfold aGW
 rw [fQ, bL]
 have w1 : Wf (h.add (.cells g.row 76 none)) := w.add _
 have a1 : At (h.add (.cells g.row 76 none)) (.pointer (some ⟨h.next, 0, none⟩)) g.row := At.new
 have r1 := hr.sub (bE.add w (.cells g.row 76 none)).sub
 generalize h.add (.cells g.row 76 none) = h1 at w1 a1 r1 ⊢
 generalize Value.pointer (some ⟨h.next, 0, none⟩) = p at a1 ⊢
 rw [a1.lK 0 (x := .string g.nm) rfl, MJ (fun h => aIY g.nm (bK h)) rfl, aD, aO, aX, aI]
 unfold zQ
 cases hn : qY g.nm.data.toList with
 | false => rw [if_pos (by rfl), if_pos (by rfl)]; exact ⟨_, rfl⟩
 | true =>
 rw [if_neg (by simp), if_neg (by simp), show (Value.func (.func 96) (List.toArray []) (List.toArray [p])) = .func (.func 96) #[] #[p] from rfl, bD (SK (h := bK h1) r1 a1 hlen) rfl, aD, aO, aI]
 cases hc : prev.any (fun x => nD x.nm g.nm) with
 | true => rw [if_pos (by rfl), if_pos (by rfl)]; exact ⟨_, rfl⟩
 | false =>
 rw [if_neg (by simp), if_neg (by simp), a1.lK 1 (x := .string g.as_) rfl, MJ (fun h => aIY g.as_ (bK h)) rfl, aD, aO, aX, aI]
 cases hm : qY g.as_.data.toList with
 | false => rw [if_pos (by rfl), if_pos (by rfl)]; exact ⟨_, rfl⟩
 | true =>
 rw [if_neg (by simp), if_neg (by simp)]
 have aXN : ∀ (b : Bool) (h : Hp), aP T56 999999 1 (AL.v v (AL.v p (AL.b b AL.n))) h = aBI (aP T56 999998) v p b h := fun b h => rfl
 have bCE : ∀ (h : Hp), aP T56 999998 2 AL.n h = some ((Value.int .i64 (Int.ofNat 0)), h) := fun h => rfl
 have bad : ∀ h : Hp, ∃ h', aP T56 999999 1 (AL.v v (AL.v p (AL.b true AL.n))) h = some (.int .i64 7, h') := by
  intro h
  rw [aXN]
  unfold aBI
  rw [aI, if_pos rfl]
  exact ⟨_, rfl⟩
 have w2 := w1.add (.cells [.int .i64 g.room] 3 none)
 have a2 := VW w1 a1 (.cells [.int .i64 g.room] 3 none)
 have r2 := r1.sub (bE.add w1 (.cells [.int .i64 g.room] 3 none)).sub
 unfold RD
 rw [a1.lK 2 (x := .int .i64 g.room) rfl, aK, vT, aD, show (Int.ofNat 0) = (0 : Int) from rfl, show (Int.ofNat 9) = (9 : Int) from rfl, NP, aM, aD, aO, aX, aI]
 generalize h1.add (.cells [.int .i64 g.room] 3 none) = h2 at w2 a2 r2 ⊢
 cases x1 : oZ 0 9 g.room with
 | false => rw [if_pos (by rfl)]; exact bad _
 | true =>
 have w3 := w2.add (.cells [.int .i64 g.hi] 3 none)
 have a3 := VW w2 a2 (.cells [.int .i64 g.hi] 3 none)
 have r3 := r2.sub (bE.add w2 (.cells [.int .i64 g.hi] 3 none)).sub
 rw [if_neg (by simp), a2.lK 3 (x := .int .i64 g.hi) rfl, aK, vT, aD, show (Int.ofNat 1) = (1 : Int) from rfl, show (Int.ofNat 6) = (6 : Int) from rfl, NP, aM, aD, aO, aX]
 generalize h2.add (.cells [.int .i64 g.hi] 3 none) = h3 at w3 a3 r3 ⊢
 cases x2 : oZ 1 6 g.hi with
 | false => exact bad _
 | true =>
 rw [if_neg (by simp), aXN]
 unfold aBI
 rw [aI, if_neg (by simp), r3.len, List.length_map, aN, bA, aI, bCE]
 by_cases hp : 0 < prev.length
 ·have hi : prev.length - 1 < prev.length := by omega
  have hg : (prev.map Fg.row)[prev.length - 1]? = some (prev[prev.length - 1]).row := by rw [List.getElem?_map, List.getElem?_eq_getElem hi]; rfl
  obtain ⟨q, hq, haq, hl⟩ := r3.at hg
  rw [if_pos (by simp; omega), a3.lK 2 (x := .int .i64 g.room) rfl, aK, r3.len, List.length_map, show Int.sub (prev.length : Int) (Int.ofNat 1) = ((prev.length - 1 : Nat) : Int) from by show (prev.length : Int) - 1 = _; omega, wrap64_in _ (by omega) (by omega), hq, haq.lK 2 (x := .int .i64 (prev[prev.length - 1]).room) rfl, aK, aN, bA, aI]
  unfold aRA
  rw [aCN prev hp]
  dsimp only
  by_cases hd : g.room < (prev[prev.length - 1]).room
  ·rw [if_pos (by simpa using hd), if_pos hd]; exact ⟨_, rfl⟩
  ·rw [if_neg (by simpa using hd), if_neg hd]; exact ⟨_, rfl⟩
 ·have : prev = [] := List.length_eq_zero_iff.1 (by omega)
  subst this
  rw [if_neg (by simp)]
  exact ⟨_, rfl⟩
theorem aFN {ρ : Type} (f : Int → Option ρ) : ∀ n : Nat, n ≤ 6 → nN .i64 (RQ (lH env .shl 3 (Value.int .i64 (Int.ofNat 1)) (Value.int .i64 (n : Int))) (Value.int .i64 (Int.ofNat 1)) (Value.int .i64 (n : Int))) f = f (2 ^ n : Int)
 | 0, _ => by kernel_rfl
 | 1, _ => by kernel_rfl
 | 2, _ => by kernel_rfl
 | 3, _ => by kernel_rfl
 | 4, _ => by kernel_rfl
 | 5, _ => by kernel_rfl
 | 6, _ => by kernel_rfl
 | n + 7, h => absurd h (by omega)
theorem RA : ∀ n : Nat, n ≤ 6 → (1 : Int) ≤ 2 ^ n ∧ (2 : Int) ^ n ≤ 64
 | 0, _ => by decide
 | 1, _ => by decide
 | 2, _ => by decide
 | 3, _ => by decide
 | 4, _ => by decide
 | 5, _ => by decide
 | 6, _ => by decide
 | n + 7, h => absurd h (by omega)
theorem aI4 (h : Hp) : ∀ n : Nat, n ≤ 6 → F50 [.int .i64 (n : Int)] h = some (.int .i64 (2 ^ n : Int))
 | 0, _ => by kernel_rfl
 | 1, _ => by kernel_rfl
 | 2, _ => by kernel_rfl
 | 3, _ => by kernel_rfl
 | 4, _ => by kernel_rfl
 | 5, _ => by kernel_rfl
 | 6, _ => by kernel_rfl
 | n + 7, h => absurd h (by omega)
theorem FK (h : Hp) {n g : Int} (hn : 0 ≤ n ∧ n ≤ 1000000) : F64 [.int .i64 n, .slice (some ⟨h.next, 0, none⟩) 1 1] (h.add (.cells [.int .i64 g] 3 none)) = some (.bool (oZ 0 (n - 1) g)) := by
 have step : F64 [.int .i64 n, .slice (some ⟨h.next, 0, none⟩) 1 1] (h.add (.cells [.int .i64 g] 3 none)) = plainO (aGX (h.add (.cells [.int .i64 g] 3 none)) (G.aP (T64 (h.add (.cells [.int .i64 g] 3 none))) 999999) n (.slice (some ⟨h.next, 0, none⟩) 1 1)) := rfl
 rw [step]
 unfold aGX
 rw [show Int.sub n (Int.ofNat 1) = n - 1 from rfl, wrap64_in _ (by omega) (by omega), show (Int.ofNat 0) = (0 : Int) from rfl, NP, aM, aO]
 rfl
theorem EH {h : Hp} {v : Value} {gs : List Int} (x : Int) (hr : bP.Rows h 1 v (gs.map dH)) (hlen : gs.length ≤ 900000) : ∀ m i n, i + m = gs.length → m + 2 ≤ n →
  G.aP (aBJ h) n 1 (aR.v v (aR.i x (aR.i (gs.length : Int) (aR.i (i : Int) aR.n)))) = some (.int .i64 (idxFrom (fun g => decide (x = g)) i (gs.drop i)))
 | 0, i, n + 2, him, hn => by
  show J8 h (G.aP (aBJ h) (n + 1)) v x (gs.length : Int) (i : Int) = _
  unfold J8
  rw [aN, bA, aI, if_neg (by simp; omega), List.drop_of_length_le (by omega)]
  rfl
 | m + 1, i, n + 1, him, hn => by
  have hi : i < gs.length := by omega
  have hg : (gs.map dH)[i]? = some (dH gs[i]) := by rw [List.getElem?_map, List.getElem?_eq_getElem hi]; rfl
  obtain ⟨q, hq, haq, hl⟩ := hr.at hg
  show J8 h (G.aP (aBJ h) n) v x (gs.length : Int) (i : Int) = _
  unfold J8
  rw [aN, bA, aI, if_pos (by simp; omega), hq, haq.lV (x := .int .i64 gs[i]) rfl, aK, aN, dJ, aI, List.drop_eq_getElem_cons hi]
  unfold idxFrom
  by_cases e : x = gs[i]
  ·rw [if_pos (by simpa using e), if_pos (by simpa using e)]
  ·rw [if_neg (by simpa using e), if_neg (by simpa using e), show Int.add (i : Int) (Int.ofNat 1) = ((i + 1 : Nat) : Int) from rfl, wrap64_in _ (by omega) (by omega)]
   exact EH x hr hlen m (i + 1) n (by omega) (by omega)
theorem SQ {h : Hp} {v : Value} {gs : List Int} (x : Int) (hr : bP.Rows h 1 v (gs.map dH)) (hlen : gs.length ≤ 900000) : F98 [v, .int .i64 x] h = some (.bool (gs.any fun g => decide (x = g))) := by
 have e : aOT [v, .int .i64 x] h = some (.int .i64 (idxFrom (fun g => decide (x = g)) 0 gs)) := by
  show plainO (X7 h (G.aP (aBJ h) 999999) v x) = _
  unfold X7
  have := EH x hr hlen gs.length 0 999999 (by omega) (by omega)
  rw [List.drop_zero] at this
  rw [hr.len, List.length_map, show (Int.ofNat 0) = ((0 : Nat) : Int) from rfl, this]
  rfl
 show plainO (aGZ h (G.aP (T98 h) 999999) v x) = _
 unfold aGZ
 rw [e, aM, aK, aX, bA, show (Int.ofNat 0) = (0 : Int) from rfl, oV, Bool.not_not]
 rfl
def jN (m : Nat) (prev : List Int) (t : Int) : Int := if !(oZ 0 (2 ^ m - 1) t) then 4 else if prev.any (fun g => decide (t = g)) then 5 else 0
theorem aFO {h : Hp} (w : Wf h) {v : Value} {prev : List Int} (hr : bP.Rows h 1 v (prev.map dH)) (hlen : prev.length ≤ 900000) (m : Nat) (hm : m ≤ 6) (t : Int) : ∃ h', F59 [.int .i64 (m : Int), v, .int .i64 t] h = some (.int .i64 (jN m prev t), h') := by
 have start : F59 [.int .i64 (m : Int), v, .int .i64 t] h = aG1 (aP T59 999999) (m : Int) v t h := rfl
 obtain ⟨p1, p2⟩ := RA m hm
 have r1 := hr.sub (bE.add w (.cells [.int .i64 t] 3 none)).sub
 rw [start]
 unfold aG1 jN
 rw [aFN _ m hm, vT, aD, FK h (by omega), aM, aD, aO, aX, aI]
 cases oZ 0 (2 ^ m - 1) t with
 | false => rw [if_pos (by rfl), if_pos (by rfl)]; exact ⟨_, rfl⟩
 | true =>
 rw [if_neg (by simp), if_neg (by simp), SQ t r1 hlen, aM, aD, aO, aI]
 cases prev.any (fun g => decide (t = g)) with
 | true => exact ⟨_, rfl⟩
 | false => exact ⟨_, rfl⟩
theorem aFP {h : Hp} (w : Wf h) {p lines vf vt : Value} {aU : List Fg} (a : At h p [lines, vf, vt]) (hf : CF h 4 vf (aU.map Fg.row)) (hm : aU.length ≤ 6) {v : Value} {prev : List Int} (hr : bP.Rows h 1 v (prev.map dH)) (hlen : prev.length ≤ 900000) (t : Int) : ∃ h', F58 [v, .int .i64 t, p] h = some (.int .i64 (jN aU.length prev t), h') := by
 have start : F58 [v, .int .i64 t, p] h = aG3 (aP T58 999999) v t p h := rfl
 obtain ⟨h2, e⟩ := aFO (h := bK h) (fZ w) hr hlen aU.length hm t
 rw [start]
 unfold aG3
 rw [a.lK 1 (x := vf) rfl, hf.rows.len, List.length_map, bD e rfl, aD, aK]
 exact ⟨_, rfl⟩
end Go.Proofs.YtgjdokjoejhepaaGreatDoor.K.L
