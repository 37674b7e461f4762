/- Contracts of told functions: numbers, classes, figures, places. -/
import Derived.Test.YtekocllllbdbgaaFtQ3
open Go Go.Eng
set_option maxRecDepth 100000
set_option linter.unusedVariables false
namespace Go.Proofs.Ytekocllllbdbgaa.K.L
def holdE (_ : List Int) (n : Int) : Int := if !(inB 0 2000 n) then 7 else 0
theorem hold46_at (h : Hp) (v : Value) (n : Int) : ∃ h', F46 [v, .int .i64 n] h = some (.int .i64 (holdE [] n), h') := by
  have start : F46 [v, .int .i64 n] h = P46x0 (rec' T46 999999) v n h := rfl
  rw [start]
  unfold P46x0 holdE
  rw [one24, pairK_some', show (Int.ofNat 0) = (0 : Int) from rfl, show (Int.ofNat 2000) = (2000 : Int) from rfl, within1, optK_some', pairK_some', boolK_bool, boolN_eq, ifB_if]
  cases inB 0 2000 n with
  | false => rw [if_pos (by rfl), if_pos (by rfl)]; exact ⟨_, rfl⟩
  | true => rw [if_neg (by simp), if_neg (by simp)]; exact ⟨_, rfl⟩
theorem class95_at (h : Hp) (n : Int) : ∃ h', F95 [.int .i64 n] h = some (.bool (inB 0 9 n), h') := by
  have start : F95 [.int .i64 n] h = P95x0 (rec' T95 999999) n h := rfl
  rw [start]
  unfold P95x0
  rw [one24, pairK_some', show (Int.ofNat 0) = (0 : Int) from rfl, show (Int.ofNat 9) = (9 : Int) from rfl, within1, optK_some', pairK_some', boolK_bool]
  exact ⟨_, rfl⟩
def classE (_ : List Int) (n : Int) : Int := if !(inB 0 9 n) then 7 else 0
theorem class52_at (h : Hp) (v : Value) (n : Int) : ∃ h', F52 [v, .int .i64 n] h = some (.int .i64 (classE [] n), h') := by
  have start : F52 [v, .int .i64 n] h = P52x0 (rec' T52 999999) v n h := rfl
  rw [start]
  unfold P52x0 classE
  obtain ⟨h2, e⟩ := class95_at (shutH h) n
  rw [callQ_plain1 e rfl, pairK_some', boolK_bool, boolN_eq, ifB_if]
  cases inB 0 9 n with
  | false => rw [if_pos (by rfl), if_pos (by rfl)]; exact ⟨_, rfl⟩
  | true => rw [if_neg (by simp), if_neg (by simp)]; exact ⟨_, rfl⟩
def figNum (g : Fi) : Bool := inB 0 9 g.cls && (inB 1 500 g.wt && ((inB (-100) 100 g.cr && inB (-100) 100 g.sl) && inB 0 100 g.worth))
def figE (prev : List Fi) (g : Fi) : Int :=
  if !(nameB g.nm.data.toList) then 6 else if prev.any (fun x => sameNm x.nm g.nm) then 5 else if !(figNum g) then 7 else if g.sl < g.cr then 2 else 0
theorem fig51_at {h : Hp} (w : Wf h) {v : Value} {prev : List Fi} (hr : Eng.Rows h 6 v (prev.map Fi.row)) (hlen : prev.length ≤ 900000) (g : Fi) : ∃ h', F51 [v, .agg (Array.mk g.row)] h = some (.int .i64 (figE prev g), h') := by
  have start : F51 [v, .agg (Array.mk g.row)] h = P51x0 (rec' T51 999999) v (.agg (Array.mk g.row)) h := rfl
  rw [start]
  unfold P51x0
  rw [rowCells, allocK_add]
  have w1 : Wf (h.add (.cells g.row 56 none)) := w.add _
  have a1 : At (h.add (.cells g.row 56 none)) (.pointer (some ⟨h.next, 0, none⟩)) g.row := At.new
  have r1 := hr.sub (Grew.add w (.cells g.row 56 none)).sub
  generalize h.add (.cells g.row 56 none) = h1 at w1 a1 r1 ⊢
  generalize Value.pointer (some ⟨h.next, 0, none⟩) = p at a1 ⊢
  rw [a1.fld 0 (x := .string g.nm) rfl, callQ_plain (fun h => name_at g.nm (shutH h)) rfl, pairK_some', boolK_bool, boolN_eq, ifB_if]
  unfold figE
  cases hn : nameB g.nm.data.toList with
  | false => rw [if_pos (by rfl), if_pos (by rfl)]; exact ⟨_, rfl⟩
  | true =>
  rw [if_neg (by simp), if_neg (by simp), show (Value.func (.func 94) (List.toArray []) (List.toArray [p])) = .func (.func 94) #[] #[p] from rfl, callQ_plain1 (contains93_at (h := shutH h1) r1 a1 hlen) rfl, pairK_some', boolK_bool, ifB_if]
  cases hc : prev.any (fun x => sameNm x.nm g.nm) with
  | true => rw [if_pos (by rfl), if_pos (by rfl)]; exact ⟨_, rfl⟩
  | false =>
  rw [if_neg (by simp), if_neg (by simp)]
  have stepS : ∀ (q : Value) (b : Bool) (h : Hp), rec' T51 999999 1 (AL.v q (AL.b b AL.n)) h = P51x1 (rec' T51 999998) q b h := fun q b h => rfl
  have lastS : ∀ (h : Hp), rec' T51 999998 2 AL.n h = some ((Value.int .i64 (Int.ofNat 0)), h) := fun h => rfl
  have bad : ∀ h : Hp, ∃ h', rec' T51 999999 1 (AL.v p (AL.b true AL.n)) h = some (.int .i64 7, h') := by
    intro h
    rw [stepS]
    unfold P51x1
    rw [ifB_if, if_pos rfl]
    exact ⟨_, rfl⟩
  unfold figNum
  obtain ⟨hc2, ec⟩ := class95_at (shutH h1) g.cls
  rw [a1.fld 1 (x := .int .i64 g.cls) rfl, intK_int, callQ_plain1 ec rfl, pairK_some', boolK_bool, boolN_eq, ifB_if]
  cases x1 : inB 0 9 g.cls with
  | false => rw [if_pos (by rfl), if_pos (by rfl)]; exact bad _
  | true =>
  have a2 := atAdd w1 a1 (.cells [.int .i64 g.wt] 3 none)
  have w2 := w1.add (.cells [.int .i64 g.wt] 3 none)
  rw [if_neg (by simp), a1.fld 2 (x := .int .i64 g.wt) rfl, intK_int, one24, pairK_some', show (Int.ofNat 1) = (1 : Int) from rfl, show (Int.ofNat 500) = (500 : Int) from rfl, within1, optK_some', pairK_some', boolK_bool, boolN_eq, ifB_if]
  generalize h1.add (.cells [.int .i64 g.wt] 3 none) = h2 at a2 w2 ⊢
  cases x2 : inB 1 500 g.wt with
  | false => rw [if_pos (by rfl), if_pos (by rfl)]; exact bad _
  | true =>
  have a3 := atAdd w2 a2 (.cells [.int .i64 g.cr, .int .i64 g.sl] 3 none)
  have w3 := w2.add (.cells [.int .i64 g.cr, .int .i64 g.sl] 3 none)
  rw [if_neg (by simp), a2.fld 3 (x := .int .i64 g.cr) rfl, intK_int, a2.fld 4 (x := .int .i64 g.sl) rfl, intK_int, two24, pairK_some', show (Int.negSucc 99) = (-100 : Int) from rfl, show (Int.ofNat 100) = (100 : Int) from rfl, within2, optK_some', pairK_some', boolK_bool, boolN_eq, ifB_if]
  generalize h2.add (.cells [.int .i64 g.cr, .int .i64 g.sl] 3 none) = h3 at a3 w3 ⊢
  cases x3 : (inB (-100) 100 g.cr && inB (-100) 100 g.sl) with
  | false => rw [if_pos (by rfl), if_pos (by rfl)]; exact bad _
  | true =>
  have a4 := atAdd w3 a3 (.cells [.int .i64 g.worth] 3 none)
  rw [if_neg (by simp), a3.fld 5 (x := .int .i64 g.worth) rfl, intK_int, one24, pairK_some', show (Int.ofNat 0) = (0 : Int) from rfl, within1, optK_some', pairK_some', boolK_bool, boolN_eq]
  generalize h3.add (.cells [.int .i64 g.worth] 3 none) = h4 at a4 ⊢
  cases x4 : inB 0 100 g.worth with
  | false => rw [if_pos (by rfl)]; exact bad _
  | true =>
  rw [if_neg (by simp), stepS]
  unfold P51x1
  rw [ifB_if, if_neg (by simp), a4.fld 3 (x := .int .i64 g.cr) rfl, intK_int, a4.fld 4 (x := .int .i64 g.sl) rfl, intK_int, boolZ_eq, ltZ_dec, ifB_if, lastS]
  by_cases hd : g.sl < g.cr
  · rw [if_pos (by simpa using hd), if_pos hd]; exact ⟨_, rfl⟩
  · rw [if_neg (by simpa using hd), if_neg hd]; exact ⟨_, rfl⟩
def spansE (lo hi : Int) (ws : List Sp) : Int := (firstE (fun _ s => spanE lo hi s) ws 0 ws).2
theorem spans43_at {h : Hp} (w : Wf h) (lo hi : Int) {v : Value} {ws : List Sp} (hlen : ws.length ≤ 900000) (hr : SlA h 2 v (ws.map Sp.row)) : ∃ h', F43 [.int .i64 lo, .int .i64 hi, v] h = some (.int .i64 (spansE lo hi ws), h') := by
  have start : F43 [.int .i64 lo, .int .i64 hi, v] h = P43x0 (rec' T43 999999) lo hi v h := rfl
  rw [start]
  unfold P43x0
  rw [allocK_add, allocK_add]
  have w1 := w.add (.cells [.int .i64 lo] 3 none)
  have a1 : At (h.add (.cells [.int .i64 lo] 3 none)) (.pointer (some ⟨h.next, 0, none⟩)) [.int .i64 lo] := At.new
  have r1 := hr.sub (Grew.add w (.cells [.int .i64 lo] 3 none)).sub
  generalize h.add (.cells [.int .i64 lo] 3 none) = h1 at w1 a1 r1 ⊢
  have w2 := w1.add (.cells [.int .i64 hi] 3 none)
  have a2 : At (h1.add (.cells [.int .i64 hi] 3 none)) (.pointer (some ⟨h1.next, 0, none⟩)) [.int .i64 hi] := At.new
  have b2 := atAdd w1 a1 (.cells [.int .i64 hi] 3 none)
  have r2 := r1.sub (Grew.add w1 (.cells [.int .i64 hi] 3 none)).sub
  generalize h1.add (.cells [.int .i64 hi] 3 none) = h2 at w2 a2 b2 r2 ⊢
  generalize Value.pointer (some ⟨h.next, 0, none⟩) = p at b2 ⊢
  generalize Value.pointer (some ⟨h1.next, 0, none⟩) = q at a2 ⊢
  obtain ⟨h3, e⟩ := first85_at (row := Sp.row) (fun _ => rfl) (gs := ws) (fv := .func (.func 86) #[] #[p, q]) (fun _ _ => rfl) hlen (fun h => At h p [.int .i64 lo] ∧ At h q [.int .i64 hi]) (fun h h' g x => ⟨x.1.sub g.sub, x.2.sub g.sub⟩) (fun _ s => spanE lo hi s)
    (fun h v' i hi' w q' _ => by
      obtain ⟨h9, e9⟩ := span86_at (h := shutH h) (wfShut w) v' q'.1 q'.2 ws[i]
      rw [show callF orc12 (.func (.func 86) #[] #[p, q]) [v', .agg (Array.mk (ws[i]).row)] h = callQ F86 [v', .agg (Array.mk (ws[i]).row), p, q] h from rfl]
      exact callQ_plain1 e9 rfl) (h := shutH h2) (wfShut w2) ⟨b2, a2⟩ r2
  rw [show (Value.func (.func 86) (List.toArray []) (List.toArray [p, q])) = .func (.func 86) #[] #[p, q] from rfl, callQ_plain1 e rfl, pairK_some']
  unfold pairV
  rw [extK_at (v := .int .i64 (firstE (fun _ s => spanE lo hi s) ws 0 ws).1) rfl, intK_int, extK_at (v := .int .i64 (firstE (fun _ s => spanE lo hi s) ws 0 ws).2) rfl, intK_int]
  exact ⟨_, rfl⟩
theorem pow_at {ρ : Type} (f : Int → Option ρ) : ∀ n : Nat, n ≤ 4 → slowI .i64 (shlI (binW env .shl 3 (Value.int .i64 (Int.ofNat 1)) (Value.int .i64 (n : Int))) (Value.int .i64 (Int.ofNat 1)) (Value.int .i64 (n : Int))) f = f (2 ^ n : Int)
  | 0, _ => by kernel_rfl
  | 1, _ => by kernel_rfl
  | 2, _ => by kernel_rfl
  | 3, _ => by kernel_rfl
  | 4, _ => by kernel_rfl
  | n + 5, h => absurd h (by omega)
theorem pow_le : ∀ n : Nat, n ≤ 4 → (1 : Int) ≤ 2 ^ n ∧ (2 : Int) ^ n ≤ 16
  | 0, _ => by decide
  | 1, _ => by decide
  | 2, _ => by decide
  | 3, _ => by decide
  | 4, _ => by decide
  | n + 5, h => absurd h (by omega)
theorem index59_at (h : Hp) {n g : Int} (hn : 0 ≤ n ∧ n ≤ 1000000) : F59 [.int .i64 n, .slice (some ⟨h.next, 0, none⟩) 1 1] (h.add (.cells [.int .i64 g] 3 none)) = some (.bool (inB 0 (n - 1) g)) := by
  have step : F59 [.int .i64 n, .slice (some ⟨h.next, 0, none⟩) 1 1] (h.add (.cells [.int .i64 g] 3 none)) = plainO (P59x0 (h.add (.cells [.int .i64 g] 3 none)) (G.rec' (T59 (h.add (.cells [.int .i64 g] 3 none))) 999999) n (.slice (some ⟨h.next, 0, none⟩) 1 1)) := rfl
  rw [step]
  unfold P59x0
  rw [show Int.sub n (Int.ofNat 1) = n - 1 from rfl, wrap64_in _ (by omega) (by omega), show (Int.ofNat 0) = (0 : Int) from rfl, within1, optK_some', boolK_bool]
  rfl
def placeN (stoves : Int) (joists : Nat) (g : Pl) : Int :=
  if (g.ws.length : Int) ≠ stoves then 3 else if spansE 0 60 g.ws ≠ 0 then spansE 0 60 g.ws else if !(inB 0 (2 ^ joists - 1) g.joists) then 4 else 0
def placeE (stoves : Int) (joists : Nat) (prev : List Pl) (g : Pl) : Int :=
  if !(nameB g.nm.data.toList) then 6 else if prev.any (fun x => sameNm x.nm g.nm) then 5 else placeN stoves joists g
def hoRow (we : Sp) (stoves : Int) (vh vp vf vb : Value) : List Value := [.int .i64 we.lo, .int .i64 we.hi, .int .i64 stoves, vh, vp, vf, vb]
theorem place49_at {h : Hp} (w : Wf h) (we : Sp) (stoves : Int) (vh vp vf vb : Value) {hs : List Int} (hh : SlA h 1 vh (hs.map inRow)) (hl4 : hs.length ≤ 4) {v : Value} {prev : List Pl} (hr : Eng.Rows h 4 v (prev.map Pl.row)) (hlen : prev.length ≤ 900000) (g : Pl) (hw : SlA h 2 g.vw (g.ws.map Sp.row)) (hwl : stoves ≤ 3) :
    ∃ h', F49 [.agg (Array.mk (hoRow we stoves vh vp vf vb)), v, .agg (Array.mk g.row)] h = some (.int .i64 (placeE stoves hs.length prev g), h') := by
  have start : F49 [.agg (Array.mk (hoRow we stoves vh vp vf vb)), v, .agg (Array.mk g.row)] h = P49x0 (rec' T49 999999) (.agg (Array.mk (hoRow we stoves vh vp vf vb))) v (.agg (Array.mk g.row)) h := rfl
  rw [start]
  unfold P49x0
  rw [rowCells, rowCells, allocK_add, allocK_add]
  have w0 := w.add (.cells (hoRow we stoves vh vp vf vb) 28 none)
  have a0 : At (h.add (.cells (hoRow we stoves vh vp vf vb) 28 none)) (.pointer (some ⟨h.next, 0, none⟩)) (hoRow we stoves vh vp vf vb) := At.new
  have g0 := (Grew.add w (.cells (hoRow we stoves vh vp vf vb) 28 none)).sub
  replace hr := hr.sub g0
  replace hw := hw.sub g0
  replace hh := hh.sub g0
  clear g0 start
  generalize h.add (.cells (hoRow we stoves vh vp vf vb) 28 none) = h0 at w0 a0 hr hw hh ⊢
  generalize Value.pointer (some ⟨h.next, 0, none⟩) = ph at a0 ⊢
  have w1 := w0.add (.cells g.row 80 none)
  have a1 : At (h0.add (.cells g.row 80 none)) (.pointer (some ⟨h0.next, 0, none⟩)) g.row := At.new
  have g1 := (Grew.add w0 (.cells g.row 80 none)).sub
  replace hr := hr.sub g1
  replace hw := hw.sub g1
  replace hh := hh.sub g1
  replace a0 := a0.sub g1
  clear g1
  generalize h0.add (.cells g.row 80 none) = h1 at w1 a1 a0 hr hw hh ⊢
  generalize Value.pointer (some ⟨h0.next, 0, none⟩) = p at a1 ⊢
  rw [a1.fld 0 (x := .string g.nm) rfl, callQ_plain (fun h => name_at g.nm (shutH h)) rfl, pairK_some', boolK_bool, boolN_eq, ifB_if]
  unfold placeE
  cases hn : nameB g.nm.data.toList with
  | false => rw [if_pos (by rfl), if_pos (by rfl)]; exact ⟨_, rfl⟩
  | true =>
  rw [if_neg (by simp), if_neg (by simp), show (Value.func (.func 91) (List.toArray []) (List.toArray [p])) = .func (.func 91) #[] #[p] from rfl, callQ_plain1 (contains90_at (h := shutH h1) hr a1 hlen) rfl, pairK_some', boolK_bool, ifB_if]
  cases hc : prev.any (fun x => sameNm x.nm g.nm) with
  | true => rw [if_pos (by rfl), if_pos (by rfl)]; exact ⟨_, rfl⟩
  | false =>
  unfold placeN
  rw [if_neg (by simp), if_neg (by simp), a1.fld 2 (x := g.vw) rfl, hw.rows.len, List.length_map, a0.fld 2 (x := .int .i64 stoves) rfl, intK_int, boolN_eq, eqZ_dec, ifB_if]
  by_cases hs1 : (g.ws.length : Int) = stoves
  case neg => rw [if_pos (by simpa using hs1), if_pos hs1]; exact ⟨_, rfl⟩
  rw [if_neg (by simpa using hs1), if_neg (by simpa using hs1), a1.fld 2 (x := g.vw) rfl]
  obtain ⟨h2, e2⟩ := spans43_at (h := shutH h1) (wfShut w1) 0 60 (v := g.vw) (ws := g.ws) (by omega) hw
  rw [show (Int.ofNat 0) = (0 : Int) from rfl, show (Int.ofNat 60) = (60 : Int) from rfl, callQ_plain1 e2 rfl, pairK_some', intK_int, boolN_eq, eqZ_dec, ifB_if]
  by_cases hs2 : spansE 0 60 g.ws = 0
  case neg => rw [if_pos (by simpa using hs2), if_pos hs2]; exact ⟨_, rfl⟩
  obtain ⟨p1, p2⟩ := pow_le hs.length hl4
  rw [if_neg (by simpa using hs2), if_neg (by simpa using hs2), a0.fld 3 (x := vh) rfl, hh.rows.len, List.length_map, pow_at _ hs.length hl4, a1.fld 3 (x := .int .i64 g.joists) rfl, intK_int, one24, pairK_some', index59_at h1 (by omega), optK_some', pairK_some', boolK_bool, boolN_eq, ifB_if]
  cases inB 0 (2 ^ hs.length - 1) g.joists with
  | false => rw [if_pos (by rfl), if_pos (by rfl)]; exact ⟨_, rfl⟩
  | true => rw [if_neg (by simp), if_neg (by simp)]; exact ⟨_, rfl⟩
theorem place48_at {h : Hp} (w : Wf h) (we : Sp) (stoves : Int) (vh vp vf vb : Value) {hs : List Int} (hh : SlA h 1 vh (hs.map inRow)) (hl4 : hs.length ≤ 4) {v : Value} {prev : List Pl} (hr : Eng.Rows h 4 v (prev.map Pl.row)) (hlen : prev.length ≤ 900000) (g : Pl) (hw : SlA h 2 g.vw (g.ws.map Sp.row)) (hwl : stoves ≤ 3) {p : Value} (hp : At h p (hoRow we stoves vh vp vf vb)) :
    ∃ h', F48 [v, .agg (Array.mk g.row), p] h = some (.int .i64 (placeE stoves hs.length prev g), h') := by
  have start : F48 [v, .agg (Array.mk g.row), p] h = P48x0 (rec' T48 999999) v (.agg (Array.mk g.row)) p h := rfl
  rw [start]
  unfold P48x0
  rw [rowCells, allocK_add]
  have w1 := w.add (.cells g.row 80 none)
  have a1 : At (h.add (.cells g.row 80 none)) (.pointer (some ⟨h.next, 0, none⟩)) g.row := At.new
  have g1 := (Grew.add w (.cells g.row 80 none)).sub
  replace hr := hr.sub g1
  replace hw := hw.sub g1
  replace hh := hh.sub g1
  replace hp := hp.sub g1
  clear g1 start
  generalize h.add (.cells g.row 80 none) = h1 at w1 a1 hp hr hw hh ⊢
  obtain ⟨h2, e2⟩ := place49_at (h := shutH h1) (wfShut w1) we stoves vh vp vf vb hh hl4 hr hlen g hw hwl
  rw [hp.loadN (z := 7) rfl, a1.loadN (z := 4) rfl, callQ_plain1 e2 rfl, pairK_some', intK_int]
  exact ⟨_, rfl⟩
end Go.Proofs.Ytekocllllbdbgaa.K.L
