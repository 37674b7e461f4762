/- Contracts of told functions: lack, allows, Left, Pays. -/
import Derived.Test.YtdpicdnpiihaaaaOrS20
open Go Go.bI
set_option maxRecDepth 100000
set_option linter.unusedVariables false
namespace Go.Proofs.Ytdpicdnpiihaaaa.K.L
def fP (x : Int) : Int := max 0 (0 - x)
theorem ixW (a b c d : Int) : kE env 87 (.agg (Array.mk [.int .i64 a, .int .i64 b, .int .i64 c, .int .i64 d])) (.int .i64 (Int.ofNat 0)) = some (.int .i64 a) ∧ kE env 87 (.agg (Array.mk [.int .i64 a, .int .i64 b, .int .i64 c, .int .i64 d])) (.int .i64 (Int.ofNat 1)) = some (.int .i64 b) ∧ kE env 87 (.agg (Array.mk [.int .i64 a, .int .i64 b, .int .i64 c, .int .i64 d])) (.int .i64 (Int.ofNat 2)) = some (.int .i64 c) ∧ kE env 87 (.agg (Array.mk [.int .i64 a, .int .i64 b, .int .i64 c, .int .i64 d])) (.int .i64 (Int.ofNat 3)) = some (.int .i64 d) :=
 ⟨by kernel_rfl, by kernel_rfl, by kernel_rfl, by kernel_rfl⟩
theorem aOI (h : Hp) (n : Nat) (v : Value) (i a b c d e f g k : Int) : G.aN (T77 h) (n + 1) 1 (aD.v v (aD.i i (aD.i a (aD.i b (aD.i c (aD.i d (aD.i e (aD.i f (aD.i g (aD.i k aD.n)))))))))) = aEJ h (G.aN (T77 h) n) v i a b c d e f g k := rfl
theorem aWX (h : Hp) (n : Nat) (a b c d e f g k : Int) : G.aN (T77 h) (n + 1) 2 (aD.i a (aD.i b (aD.i c (aD.i d (aD.i e (aD.i f (aD.i g (aD.i k aD.n)))))))) = some (.agg (Array.mk [.int .i64 e, .int .i64 f, .int .i64 g, .int .i64 k])) := rfl
theorem aR0 (h : Hp) (n : Nat) (v : Value) (i : Nat) (hi : i < 4) {x : Int} (hx : kE env 87 v (.int .i64 (Int.ofNat i)) = some (.int .i64 x)) (hb : -100000 ≤ x ∧ x ≤ 100000) (a b c d : Int) (l : List Int) (hl : l.length = 4) :
  ∀ e f g k, l = [e, f, g, k] → ∀ e2 f2 g2 k2, l.set i (fP x) = [e2, f2, g2, k2] → G.aN (T77 h) (n + 1) 1 (aD.v v (aD.i (Int.ofNat i) (aD.i a (aD.i b (aD.i c (aD.i d (aD.i e (aD.i f (aD.i g (aD.i k aD.n)))))))))) = G.aN (T77 h) n 1 (aD.v v (aD.i (Int.ofNat (i + 1)) (aD.i a (aD.i b (aD.i c (aD.i d (aD.i e2 (aD.i f2 (aD.i g2 (aD.i k2 aD.n)))))))))) := by
 intro e f g k hl1 e2 f2 g2 k2 hl2
 subst hl1
 rw [aOI]
 unfold aEJ
 rw [aQ, aW, aH, if_pos (by simp; omega), hx, aM, aI, show Int.sub 0 x = 0 - x from rfl, wrap64_in _ (by omega) (by omega), aQL, show max (Int.ofNat 0) (0 - x) = fP x from rfl]
 have : i = 0 ∨ i = 1 ∨ i = 2 ∨ i = 3 := by omega
 rcases this with rfl | rfl | rfl | rfl <;> (simp only [List.set_cons_zero, List.set_cons_succ, List.cons.injEq, and_true] at hl2; obtain ⟨rfl, rfl, rfl, rfl⟩ := hl2; rfl)
theorem J9 (h : Hp) {W : List Int} (hW : W.length = 4) (hB : ∀ x ∈ W, -100000 ≤ x ∧ x ≤ 100000) : F77 [.agg (Array.mk (W.map (Value.int .i64)))] h = some (.agg (Array.mk ((W.map fP).map (Value.int .i64)))) := by
 obtain ⟨a, b, c, d, rfl⟩ : ∃ a b c d, W = [a, b, c, d] := by
  match W, hW with
  | [a, b, c, d], _ => exact ⟨a, b, c, d, rfl⟩
 obtain ⟨i0, i1, i2, i3⟩ := ixW a b c d
 show plainO (aK5 h (G.aN (T77 h) 999999) (.agg (Array.mk [.int .i64 a, .int .i64 b, .int .i64 c, .int .i64 d]))) = _
 unfold aK5
 have e : G.aN (T77 h) (999993 + 6) 1 (aD.v (.agg (Array.mk [.int .i64 a, .int .i64 b, .int .i64 c, .int .i64 d])) (aD.i (Int.ofNat 0) (aD.i (Int.ofNat 0) (aD.i (Int.ofNat 0) (aD.i (Int.ofNat 0) (aD.i (Int.ofNat 0) (aD.i (Int.ofNat 0) (aD.i (Int.ofNat 0) (aD.i (Int.ofNat 0) (aD.i (Int.ofNat 0) aD.n)))))))))) = some (.agg (Array.mk [.int .i64 (fP a), .int .i64 (fP b), .int .i64 (fP c), .int .i64 (fP d)])) := by
  rw [aR0 h (999993 + 5) _ 0 (by omega) i0 (hB a (by simp)) _ _ _ _ _ rfl _ _ _ _ rfl _ _ _ _ rfl, aR0 h (999993 + 4) _ 1 (by omega) i1 (hB b (by simp)) _ _ _ _ _ rfl _ _ _ _ rfl _ _ _ _ rfl, aR0 h (999993 + 3) _ 2 (by omega) i2 (hB c (by simp)) _ _ _ _ _ rfl _ _ _ _ rfl _ _ _ _ rfl, aR0 h (999993 + 2) _ 3 (by omega) i3 (hB d (by simp)) _ _ _ _ _ rfl _ _ _ _ rfl _ _ _ _ rfl, aOI]
  unfold aEJ
  rw [aQ, aW, aH, if_neg (by decide), aWX]
 rw [fF, kI]
 exact congrArg plainO e
theorem a6K : jX env 87 (List.toArray []) = some (.agg (Array.mk (([0, 0, 0, 0] : List Int).map (Value.int .i64)))) := by kernel_rfl
theorem bIO : pR env.P (sizeOf 3) = some 1 := by kernel_rfl
theorem bIP : gL env 3 = some (.int .i64) := by kernel_rfl
theorem a6L : env.P.eqGuardType env.P.depth 87 = false := by kernel_rfl
theorem a6M : ((env.ty.get 87).bind fun i => i.eqs) = none := by kernel_rfl
def CE (W : List Int) : Bool := decide (W.map fP = [0, 0, 0, 0])
theorem ZP (s : Rm) (F : nI s) : ∀ (l : List (Nat × Nat)) (W : List Int) (B : Int), (∀ c ∈ l, c.1 < s.bP.length ∧ c.2 < s.dR.length) → 0 ≤ B → (∀ x ∈ W, -B ≤ x ∧ x ≤ B) → (gK s W l).length = W.length ∧ ∀ x ∈ gK s W l, -(B + 100 * (l.length : Int)) ≤ x ∧ x ≤ B + 100 * (l.length : Int)
 | [], W, B, _, _, hB => ⟨rfl, fun x hx => by have := hB x hx; simp; omega⟩
 | c :: l, W, B, hl, h0, hB => by
  obtain ⟨i1, i2⟩ := hl c (.head _)
  have hf : s.bP[c.1]? = some s.bP[c.1] := List.getElem?_eq_getElem i1
  have hq : s.dR[c.2]? = some s.dR[c.2] := List.getElem?_eq_getElem i2
  have f1 := F.fs _ (List.getElem_mem i1)
  have f2 := F.ps _ (List.getElem_mem i2)
  have st : (stepW s W c).length = W.length ∧ ∀ x ∈ stepW s W c, -(B + 100) ≤ x ∧ x ≤ B + 100 := by
   unfold stepW
   cases hch s c with
   | false => exact ⟨rfl, fun x hx => by have := hB x (by simpa using hx); omega⟩
   | true =>
    refine ⟨by rw [if_pos rfl, rZ, rZ], fun x hx => ?_⟩
    have b1 := M4 (i := qY s c) (d := tF s c) hB h0 (by unfold tF; rw [hf]; simp only [Option.map_some, Option.getD_some]; omega)
    have b2 := M4 (i := BX s c) (d := -(J7 s c)) b1 (by omega) (by unfold J7; rw [hq]; simp only [Option.map_some, Option.getD_some]; omega)
    have := b2 x (by simpa using hx)
    omega
  obtain ⟨r1, r2⟩ := ZP s F l (stepW s W c) (B + 100) (fun d hd => hl d (.tail _ hd)) (by omega) st.2
  refine ⟨r1.trans st.1, fun x hx => ?_⟩
  have := r2 x hx
  simp only [List.length_cons]
  omega
theorem pQ {s : Rm} (F : nI s) {l : List (Nat × Nat)} (hl : QZ s l) : (gK s (W0 s) l).length = 4 ∧ ∀ x ∈ gK s (W0 s) l, -2000 ≤ x ∧ x ≤ 2000 := by
 obtain ⟨a, b⟩ := aFA F
 obtain ⟨c, d⟩ := ZP s F l (W0 s) 50 hl.2 (by decide) b
 refine ⟨c.trans a, fun x hx => ?_⟩
 have := d x hx
 have := hl.1
 omega
theorem ZQ {h : Hp} (w : Wf h) {s : Rm} (F : nI s) {lo : Nat} {lk : List Value} (V : GD lo h s lk) {u : Value} {l : List (Nat × Nat)} (sl : lV h 2 u (l.map iG)) (hl : QZ s l) : ∃ h', F62 [.agg (Array.mk lk), u] h = some (.bool (CE (gK s (W0 s) l)), h') := by
 have start : F62 [.agg (Array.mk lk), u] h = aLL (aN T62 999999) (.agg (Array.mk lk)) u h := rfl
 rw [start]
 unfold aLL
 rw [fF, bT]
 have g0 : aV h (h.add (.cells lk 71 none)) := aV.add w _
 have a0 : At (h.add (.cells lk 71 none)) (.pointer (some ⟨h.next, 0, none⟩)) lk := At.new
 generalize h.add (.cells lk 71 none) = h0 at g0 a0 ⊢
 obtain ⟨h1, e1, g1⟩ := J8 (h := dF h0) (fM g0.wf) F (V.sub g0.sub) (sl.sub g0.sub) hl
 obtain ⟨b1, b2⟩ := pQ F hl
 have pl : lD (.agg (Array.mk ((gK s (W0 s) l).map (Value.int .i64)))) = true := by
  rw [pV]
  show ((gK s (W0 s) l).map (Value.int .i64)).all (fU 5) = true
  rw [List.all_map, List.all_eq_true]
  intro x _
  rfl
 rw [a0.eX (z := 5) V.len, bO e1 pl, aB, J9 _ b1 (fun x hx => by have := b2 x hx; omega), aM, aB, a6K, aM, aH2 dL aT5 bIP bIO a6L a6M _ _ (by rw [List.length_map]; exact b1) rfl, aM, aZ]
 exact ⟨_, rfl⟩
end Go.Proofs.Ytdpicdnpiihaaaa.K.L
