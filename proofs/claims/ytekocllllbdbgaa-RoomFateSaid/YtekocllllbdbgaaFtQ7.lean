/- Contracts of told functions: the reference's errors of a place and a figure. -/
import Derived.Test.YtekocllllbdbgaaFtQ6
open Go Go.Eng
set_option maxRecDepth 100000
set_option linter.unusedVariables false
namespace Go.Proofs.Ytekocllllbdbgaa.K.L
theorem uncons_at {ρ : Type} (a : Value) (l : List Value) (f : Value → List Value → Option ρ) : unconsK (a :: l) f = f a l := rfl
theorem nil_at {ρ : Type} (f : Option ρ) : nilK [] f = f := rfl
theorem ends53_at (h : Hp) (s : Sp) (lo hi : Int) : F53 [.agg (Array.mk s.row), .int .i64 lo, .int .i64 hi] h = some (.int .i64 (spanE lo hi s)) := by
  show plainO (P53x0 h (G.rec' (T53 h) 999999) (.agg (Array.mk s.row)) lo hi) = _
  have step : ∀ a b : Int, G.rec' (T53 h) 999999 1 (PAL.i a (PAL.i b PAL.n)) = P53x1 h (G.rec' (T53 h) 999998) a b := fun a b => rfl
  unfold P53x0 spanE
  rw [rowCells, forceL_eq, nthR_get _ _ 0 (.int .i64 s.lo) rfl, intK_int, within96_at, optK_some', boolK_bool, boolN_eq, ifB_if]
  cases x1 : inB lo hi s.lo with
  | false => rw [if_pos (by rfl)]; simp; rfl
  | true =>
  rw [if_neg (by simp), nthR_get _ _ 1 (.int .i64 s.hi) rfl, intK_int, within96_at, optK_some', boolK_bool, boolN_eq, ifB_if]
  cases x2 : inB lo hi s.hi with
  | false => rw [if_pos (by rfl)]; simp; rfl
  | true =>
  rw [if_neg (by simp), show s.row = [.int .i64 s.lo, .int .i64 s.hi] from rfl, uncons_at, intK_int, uncons_at, intK_int, nil_at, step]
  unfold P53x1
  rw [boolZ_eq, ltZ_dec, ifB_if]
  by_cases c : s.hi < s.lo
  · rw [if_pos (by simpa using c)]; simp [c]; rfl
  · rw [if_neg (by simpa using c)]; simp [c]; rfl
theorem sets_at (h : Hp) : ∀ n : Nat, n ≤ 4 → F99 [.int .i64 (n : Int)] h = some (.int .i64 (2 ^ n : Int))
  | 0, _ => by kernel_rfl
  | 1, _ => by kernel_rfl
  | 2, _ => by kernel_rfl
  | 3, _ => by kernel_rfl
  | 4, _ => by kernel_rfl
  | n + 5, h => absurd h (by omega)
theorem place56_loop (h : Hp) {c : List Value} {a : Value} {b : Bool} {vw : Value} {j : Int} {ws : List Sp} (hr : Eng.Rows h 2 vw (ws.map Sp.row)) (hlen : ws.length ≤ 900) : ∀ m i n, i + m = ws.length → m + 2 ≤ n →
    ∃ k, G.rec' (T56 h) n 1 (PAL.i (i : Int) (PAL.l c (PAL.v a (PAL.b b (PAL.v vw (PAL.i j PAL.n)))))) = if (firstE (fun _ s => spanE 0 60 s) ws i (ws.drop i)).2 = 0 then P56x2 h (G.rec' (T56 h) k) c a b vw j else some (.int .i64 (firstE (fun _ s => spanE 0 60 s) ws i (ws.drop i)).2)
  | 0, i, n + 2, him, hn => by
    refine ⟨n, ?_⟩
    have st : G.rec' (T56 h) (n + 2) 1 (PAL.i (i : Int) (PAL.l c (PAL.v a (PAL.b b (PAL.v vw (PAL.i j PAL.n)))))) = P56x1 h (G.rec' (T56 h) (n + 1)) (i : Int) c a b vw j := rfl
    have st2 : G.rec' (T56 h) (n + 1) 2 (PAL.l c (PAL.v a (PAL.b b (PAL.v vw (PAL.i j PAL.n))))) = P56x2 h (G.rec' (T56 h) n) c a b vw j := rfl
    rw [st]
    unfold P56x1
    rw [hr.len, List.length_map, boolZ_eq, ltZ_dec, ifB_if, if_neg (by simp; omega), List.drop_of_length_le (by omega), st2]
    rfl
  | m + 1, i, n + 1, him, hn => by
    have hi : i < ws.length := by omega
    have hg : (ws.map Sp.row)[i]? = some (ws[i]).row := by rw [List.getElem?_map, List.getElem?_eq_getElem hi]; rfl
    obtain ⟨q, hq, haq, hl⟩ := hr.at hg
    have st : G.rec' (T56 h) (n + 1) 1 (PAL.i (i : Int) (PAL.l c (PAL.v a (PAL.b b (PAL.v vw (PAL.i j PAL.n)))))) = P56x1 h (G.rec' (T56 h) n) (i : Int) c a b vw j := rfl
    obtain ⟨k, ih⟩ := place56_loop h hr hlen m (i + 1) n (by omega) (by omega) (c := c) (a := a) (b := b) (j := j)
    refine ⟨k, ?_⟩
    rw [st]
    unfold P56x1
    rw [hr.len, List.length_map, boolZ_eq, ltZ_dec, ifB_if, if_pos (by simp; omega), hq, haq.loadN hl, show (Int.ofNat 0) = (0 : Int) from rfl, show (Int.ofNat 60) = (60 : Int) from rfl, ends53_at, optK_some', intK_int, boolN_eq, eqZ_dec, ifB_if, List.drop_eq_getElem_cons hi]
    unfold firstE
    by_cases e0 : spanE 0 60 (ws[i]) = 0
    · rw [if_neg (by simpa using e0), if_pos e0, show Int.add (i : Int) (Int.ofNat 1) = ((i + 1 : Nat) : Int) from rfl, wrap64_in _ (by omega) (by omega)]
      exact ih
    · rw [if_pos (by simpa using e0), if_neg e0, if_neg e0]
theorem place56_at {h : Hp} (we : Sp) (stoves : Int) (vh vp vf vb : Value) {hs : List Int} (hh : SlA h 1 vh (hs.map inRow)) (hl4 : hs.length ≤ 4) (g : Pl) (hw : SlA h 2 g.vw (g.ws.map Sp.row)) (hwl : stoves ≤ 3) :
    F56 [.agg (Array.mk (hoRow we stoves vh vp vf vb)), .agg (Array.mk g.row)] h = some (.int .i64 (placeN stoves hs.length g)) := by
  show plainO (P56x0 h (G.rec' (T56 h) 999999) (.agg (Array.mk (hoRow we stoves vh vp vf vb))) (.agg (Array.mk g.row))) = _
  unfold P56x0 placeN
  rw [rowCells, rowCells, forceL_eq, forceL_eq, nthR_get _ _ 2 g.vw rfl, hw.rows.len, List.length_map, nthR_get _ _ 2 (.int .i64 stoves) rfl, intK_int, boolN_eq, eqZ_dec, ifB_if]
  by_cases hs1 : (g.ws.length : Int) = stoves
  case neg => rw [if_pos (by simpa using hs1), if_pos hs1]; rfl
  obtain ⟨k, e⟩ := place56_loop h (c := hoRow we stoves vh vp vf vb) (a := .string g.nm) (b := g.dear) (j := g.joists) hw.rows (by omega) g.ws.length 0 999999 (by omega) (by omega)
  rw [List.drop_zero] at e
  rw [if_neg (by simpa using hs1), if_neg (by simpa using hs1), show g.row = [.string g.nm, .bool g.dear, g.vw, .int .i64 g.joists] from rfl, uncons_at, uncons_at, boolK_bool, uncons_at, uncons_at, intK_int, nil_at, show (Int.ofNat 0) = ((0 : Nat) : Int) from rfl, e]
  show plainO (if spansE 0 60 g.ws = 0 then _ else some (.int .i64 (spansE 0 60 g.ws))) = _
  by_cases hs2 : spansE 0 60 g.ws = 0
  case neg => rw [if_neg hs2, if_pos hs2]; rfl
  obtain ⟨p1, p2⟩ := pow_le hs.length hl4
  rw [if_pos hs2, if_neg (by simpa using hs2)]
  unfold P56x2
  rw [nthR_get _ _ 3 vh rfl, hh.rows.len, List.length_map, sets_at h _ hl4, optK_some', intK_int, show Int.sub (2 ^ hs.length) (Int.ofNat 1) = 2 ^ hs.length - 1 from rfl, wrap64_in _ (by omega) (by omega), show (Int.ofNat 0) = (0 : Int) from rfl, in54_at, optK_some', boolK_bool, boolN_eq, ifB_if]
  cases inB 0 (2 ^ hs.length - 1) g.joists with
  | false => rw [if_pos (by rfl), if_pos (by rfl)]; rfl
  | true => rw [if_neg (by simp), if_neg (by simp)]; rfl
theorem fig57_at (h : Hp) (g : Fi) : F57 [.agg (Array.mk g.row)] h = some (.int .i64 (if !(figNum g) then 7 else if g.sl < g.cr then 2 else 0)) := by
  show plainO (P57x0 h (G.rec' (T57 h) 999999) (.agg (Array.mk g.row))) = _
  have step : ∀ (b : Bool) (c : List Value), G.rec' (T57 h) 999999 1 (PAL.b b (PAL.l c PAL.n)) = P57x1 h (G.rec' (T57 h) 999998) b c := fun b c => rfl
  have step2 : ∀ (c : List Value), G.rec' (T57 h) 999998 2 (PAL.l c PAL.n) = P57x2 h (G.rec' (T57 h) 999997) c := fun c => rfl
  have bad : ∀ c : List Value, G.rec' (T57 h) 999999 1 (PAL.b true (PAL.l c PAL.n)) = some (.int .i64 7) := by
    intro c; rw [step]; unfold P57x1; rw [ifB_if, if_pos rfl]; rfl
  unfold P57x0 figNum
  rw [rowCells, forceL_eq, nthR_get _ _ 1 (.int .i64 g.cls) rfl, intK_int, in54_at, optK_some', boolK_bool, boolN_eq, ifB_if, bad, show (Int.ofNat 0) = (0 : Int) from rfl, show (Int.ofNat 9) = (9 : Int) from rfl]
  cases inB 0 9 g.cls with
  | false => rw [if_pos (by rfl)]; simp; rfl
  | true =>
  rw [if_neg (by simp), nthR_get _ _ 2 (.int .i64 g.wt) rfl, intK_int, in54_at, optK_some', boolK_bool, boolN_eq, ifB_if, show (Int.ofNat 1) = (1 : Int) from rfl, show (Int.ofNat 500) = (500 : Int) from rfl]
  cases inB 1 500 g.wt with
  | false => rw [if_pos (by rfl)]; simp; rfl
  | true =>
  rw [if_neg (by simp), nthR_get _ _ 3 (.int .i64 g.cr) rfl, intK_int, show Int.sub 0 (Int.ofNat 100) = -100 from rfl, wrap64_in _ (by omega) (by omega), in54_at, optK_some', boolK_bool, boolN_eq, ifB_if, show (Int.ofNat 100) = (100 : Int) from rfl]
  cases inB (-100) 100 g.cr with
  | false => rw [if_pos (by rfl)]; simp; rfl
  | true =>
  rw [if_neg (by simp), nthR_get _ _ 4 (.int .i64 g.sl) rfl, intK_int, wrap64_in _ (by omega) (by omega), in54_at, optK_some', boolK_bool, boolN_eq, ifB_if]
  cases inB (-100) 100 g.sl with
  | false => rw [if_pos (by rfl)]; simp; rfl
  | true =>
  rw [if_neg (by simp), nthR_get _ _ 5 (.int .i64 g.worth) rfl, intK_int, in54_at, optK_some', boolK_bool, boolN_eq, step]
  unfold P57x1
  rw [ifB_if]
  cases inB 0 100 g.worth with
  | false => rw [if_pos (by rfl)]; simp; rfl
  | true =>
  rw [if_neg (by simp), step2]
  unfold P57x2
  rw [nthR_get _ _ 3 (.int .i64 g.cr) rfl, intK_int, nthR_get _ _ 4 (.int .i64 g.sl) rfl, intK_int, boolZ_eq, ltZ_dec, ifB_if]
  by_cases hd : g.sl < g.cr
  · rw [if_pos (by simpa using hd)]; simp [hd]; rfl
  · rw [if_neg (by simpa using hd)]; simp [hd]; rfl
end Go.Proofs.Ytekocllllbdbgaa.K.L
