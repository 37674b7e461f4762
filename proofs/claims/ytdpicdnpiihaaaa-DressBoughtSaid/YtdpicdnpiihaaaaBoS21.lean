/- Contracts of told functions: lack, allows, Left, Pays. -/
import Derived.Test.YtdpicdnpiihaaaaBoS20
open Go Go.bK
set_option maxRecDepth 100000
set_option linter.unusedVariables false
namespace Go.Proofs.Ytdpicdnpiihaaaa.K.L
def eX (x : Int) : Int := max 0 (0 - x)
theorem ixW (a b c d : Int) : jU env 87 (.agg (Array.mk [.int .i64 a, .int .i64 b, .int .i64 c, .int .i64 d])) (.int .i64 (Int.ofNat 0)) = some (.int .i64 a) ∧ jU env 87 (.agg (Array.mk [.int .i64 a, .int .i64 b, .int .i64 c, .int .i64 d])) (.int .i64 (Int.ofNat 1)) = some (.int .i64 b) ∧ jU env 87 (.agg (Array.mk [.int .i64 a, .int .i64 b, .int .i64 c, .int .i64 d])) (.int .i64 (Int.ofNat 2)) = some (.int .i64 c) ∧ jU env 87 (.agg (Array.mk [.int .i64 a, .int .i64 b, .int .i64 c, .int .i64 d])) (.int .i64 (Int.ofNat 3)) = some (.int .i64 d) :=
 ⟨by kernel_rfl, by kernel_rfl, by kernel_rfl, by kernel_rfl⟩
theorem aND (h : Hp) (n : Nat) (v : Value) (i a b c d e f g k : Int) : G.aK (T77 h) (n + 1) 1 (aD.v v (aD.i i (aD.i a (aD.i b (aD.i c (aD.i d (aD.i e (aD.i f (aD.i g (aD.i k aD.n)))))))))) = aDV h (G.aK (T77 h) n) v i a b c d e f g k := rfl
theorem aVP (h : Hp) (n : Nat) (a b c d e f g k : Int) : G.aK (T77 h) (n + 1) 2 (aD.i a (aD.i b (aD.i c (aD.i d (aD.i e (aD.i f (aD.i g (aD.i k aD.n)))))))) = some (.agg (Array.mk [.int .i64 e, .int .i64 f, .int .i64 g, .int .i64 k])) := rfl
theorem aQS (h : Hp) (n : Nat) (v : Value) (i : Nat) (hi : i < 4) {x : Int} (hx : jU env 87 v (.int .i64 (Int.ofNat i)) = some (.int .i64 x)) (hb : -100000 ≤ x ∧ x ≤ 100000) (a b c d : Int) (l : List Int) (hl : l.length = 4) :
  ∀ e f g k, l = [e, f, g, k] → ∀ e2 f2 g2 k2, l.set i (eX x) = [e2, f2, g2, k2] → G.aK (T77 h) (n + 1) 1 (aD.v v (aD.i (Int.ofNat i) (aD.i a (aD.i b (aD.i c (aD.i d (aD.i e (aD.i f (aD.i g (aD.i k aD.n)))))))))) = G.aK (T77 h) n 1 (aD.v v (aD.i (Int.ofNat (i + 1)) (aD.i a (aD.i b (aD.i c (aD.i d (aD.i e2 (aD.i f2 (aD.i g2 (aD.i k2 aD.n)))))))))) := by
 intro e f g k hl1 e2 f2 g2 k2 hl2
 subst hl1
 rw [aND]
 unfold aDV
 rw [aM, aU, aG, if_pos (by simp; omega), hx, aJ, aH, show Int.sub 0 x = 0 - x from rfl, wrap64_in _ (by omega) (by omega), aPD, show max (Int.ofNat 0) (0 - x) = eX x from rfl]
 have : i = 0 ∨ i = 1 ∨ i = 2 ∨ i = 3 := by omega
 rcases this with rfl | rfl | rfl | rfl <;> (simp only [List.set_cons_zero, List.set_cons_succ, List.cons.injEq, and_true] at hl2; obtain ⟨rfl, rfl, rfl, rfl⟩ := hl2; rfl)
theorem J3 (h : Hp) {W : List Int} (hW : W.length = 4) (hB : ∀ x ∈ W, -100000 ≤ x ∧ x ≤ 100000) : F77 [.agg (Array.mk (W.map (Value.int .i64)))] h = some (.agg (Array.mk ((W.map eX).map (Value.int .i64)))) := by
 obtain ⟨a, b, c, d, rfl⟩ : ∃ a b c d, W = [a, b, c, d] := by
  match W, hW with
  | [a, b, c, d], _ => exact ⟨a, b, c, d, rfl⟩
 obtain ⟨i0, i1, i2, i3⟩ := ixW a b c d
 show plainO (aJ2 h (G.aK (T77 h) 999999) (.agg (Array.mk [.int .i64 a, .int .i64 b, .int .i64 c, .int .i64 d]))) = _
 unfold aJ2
 have e : G.aK (T77 h) (999993 + 6) 1 (aD.v (.agg (Array.mk [.int .i64 a, .int .i64 b, .int .i64 c, .int .i64 d])) (aD.i (Int.ofNat 0) (aD.i (Int.ofNat 0) (aD.i (Int.ofNat 0) (aD.i (Int.ofNat 0) (aD.i (Int.ofNat 0) (aD.i (Int.ofNat 0) (aD.i (Int.ofNat 0) (aD.i (Int.ofNat 0) (aD.i (Int.ofNat 0) aD.n)))))))))) = some (.agg (Array.mk [.int .i64 (eX a), .int .i64 (eX b), .int .i64 (eX c), .int .i64 (eX d)])) := by
  rw [aQS h (999993 + 5) _ 0 (by omega) i0 (hB a (by simp)) _ _ _ _ _ rfl _ _ _ _ rfl _ _ _ _ rfl, aQS h (999993 + 4) _ 1 (by omega) i1 (hB b (by simp)) _ _ _ _ _ rfl _ _ _ _ rfl _ _ _ _ rfl, aQS h (999993 + 3) _ 2 (by omega) i2 (hB c (by simp)) _ _ _ _ _ rfl _ _ _ _ rfl _ _ _ _ rfl, aQS h (999993 + 2) _ 3 (by omega) i3 (hB d (by simp)) _ _ _ _ _ rfl _ _ _ _ rfl _ _ _ _ rfl, aND]
  unfold aDV
  rw [aM, aU, aG, if_neg (by decide), aVP]
 rw [fA, j5]
 exact congrArg plainO e
theorem a4I : jQ env 87 (List.toArray []) = some (.agg (Array.mk (([0, 0, 0, 0] : List Int).map (Value.int .i64)))) := by kernel_rfl
theorem bGS : pQ env.P (sizeOf 3) = some 1 := by kernel_rfl
theorem bGT : gI env 3 = some (.int .i64) := by kernel_rfl
theorem a4J : env.P.eqGuardType env.P.depth 87 = false := by kernel_rfl
theorem a4K : ((env.ty.get 87).bind fun i => i.eqs) = none := by kernel_rfl
def wM (W : List Int) : Bool := decide (W.map eX = [0, 0, 0, 0])
theorem Y9 (s : Rm) (F : lJ s) : ∀ (l : List (Nat × Nat)) (W : List Int) (B : Int), (∀ c ∈ l, c.1 < s.dZ.length ∧ c.2 < s.dF.length) → 0 ≤ B → (∀ x ∈ W, -B ≤ x ∧ x ≤ B) → (gV s W l).length = W.length ∧ ∀ x ∈ gV s W l, -(B + 100 * (l.length : Int)) ≤ x ∧ x ≤ B + 100 * (l.length : Int)
 | [], W, B, _, _, hB => ⟨rfl, fun x hx => by have := hB x hx; simp; omega⟩
 | c :: l, W, B, hl, h0, hB => by
  obtain ⟨i1, i2⟩ := hl c (.head _)
  have hf : s.dZ[c.1]? = some s.dZ[c.1] := List.getElem?_eq_getElem i1
  have hq : s.dF[c.2]? = some s.dF[c.2] := List.getElem?_eq_getElem i2
  have f1 := F.fs _ (List.getElem_mem i1)
  have f2 := F.ps _ (List.getElem_mem i2)
  have st : (stepW s W c).length = W.length ∧ ∀ x ∈ stepW s W c, -(B + 100) ≤ x ∧ x ≤ B + 100 := by
   unfold stepW
   cases hch s c with
   | false => exact ⟨rfl, fun x hx => by have := hB x (by simpa using hx); omega⟩
   | true =>
    refine ⟨by rw [if_pos rfl, sD, sD], fun x hx => ?_⟩
    have b1 := MQ (i := sZ s c) (d := wK s c) hB h0 (by unfold wK; rw [hf]; simp only [Option.map_some, Option.getD_some]; omega)
    have b2 := MQ (i := FN s c) (d := -(PK s c)) b1 (by omega) (by unfold PK; rw [hq]; simp only [Option.map_some, Option.getD_some]; omega)
    have := b2 x (by simpa using hx)
    omega
  obtain ⟨r1, r2⟩ := Y9 s F l (stepW s W c) (B + 100) (fun d hd => hl d (.tail _ hd)) (by omega) st.2
  refine ⟨r1.trans st.1, fun x hx => ?_⟩
  have := r2 x hx
  simp only [List.length_cons]
  omega
theorem nK {s : Rm} (F : lJ s) {l : List (Nat × Nat)} (hl : PG s l) : (gV s (W0 s) l).length = 4 ∧ ∀ x ∈ gV s (W0 s) l, -2000 ≤ x ∧ x ≤ 2000 := by
 obtain ⟨a, b⟩ := aEI F
 obtain ⟨c, d⟩ := Y9 s F l (W0 s) 50 hl.2 (by decide) b
 refine ⟨c.trans a, fun x hx => ?_⟩
 have := d x hx
 have := hl.1
 omega
theorem ZA {h : Hp} (w : Wf h) {s : Rm} (F : lJ s) {lo : Nat} {lk : List Value} (V : FR lo h s lk) {u : Value} {l : List (Nat × Nat)} (sl : kR h 2 u (l.map iB)) (hl : PG s l) : ∃ h', F62 [.agg (Array.mk lk), u] h = some (.bool (wM (gV s (W0 s) l)), h') := by
 have start : F62 [.agg (Array.mk lk), u] h = aKI (aK T62 999999) (.agg (Array.mk lk)) u h := rfl
 rw [start]
 unfold aKI
 rw [fA, bO]
 have g0 : aV h (h.add (.cells lk 71 none)) := aV.add w _
 have a0 : At (h.add (.cells lk 71 none)) (.pointer (some ⟨h.next, 0, none⟩)) lk := At.new
 generalize h.add (.cells lk 71 none) = h0 at g0 a0 ⊢
 obtain ⟨h1, e1, g1⟩ := J2 (h := bZ h0) (fB g0.wf) F (V.sub g0.sub) (sl.sub g0.sub) hl
 obtain ⟨b1, b2⟩ := nK F hl
 have pl : kT (.agg (Array.mk ((gV s (W0 s) l).map (Value.int .i64)))) = true := by
  rw [nP]
  show ((gV s (W0 s) l).map (Value.int .i64)).all (fO 5) = true
  rw [List.all_map, List.all_eq_true]
  intro x _
  rfl
 rw [a0.eU (z := 5) V.len, bJ e1 pl, aB, J3 _ b1 (fun x hx => by have := b2 x hx; omega), aJ, aB, a4I, aJ, aG0 dL aS0 bGT bGS a4J a4K _ _ (by rw [List.length_map]; exact b1) rfl, aJ, aW]
 exact ⟨_, rfl⟩
end Go.Proofs.Ytdpicdnpiihaaaa.K.L
