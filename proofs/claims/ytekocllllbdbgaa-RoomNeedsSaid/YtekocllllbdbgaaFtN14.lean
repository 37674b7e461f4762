/- Contracts of told functions: Fate, in the code and in the reference. -/
import Derived.Test.YtekocllllbdbgaaFtN13
open Go Go.Eng
set_option maxRecDepth 100000
set_option linter.unusedVariables false
namespace Go.Proofs.Ytekocllllbdbgaa.K.L
theorem warmF_bd {lit : Nat} : ∀ (l : List Sp) (i : Nat) (x : Int × Int), SpsOk l → x.1 ≤ x.2 → x.1 ≤ (warmF lit i l x).1 ∧ (warmF lit i l x).1 ≤ (warmF lit i l x).2 ∧ (warmF lit i l x).2 ≤ x.2 + 60 * l.length
  | [], i, x, ok, h => ⟨Int.le_refl _, h, by show x.2 ≤ x.2 + 60 * ((0 : Nat) : Int); omega⟩
  | g :: l, i, x, ok, h => by
    obtain ⟨o1, o2, o3, o4, o5⟩ := ok g (.head _)
    unfold warmF
    have lc : ((g :: l).length : Int) = (l.length : Int) + 1 := rfl
    rw [lc]
    cases hb : bitB lit i with
    | true =>
      obtain ⟨a, b, c⟩ := warmF_bd (lit := lit) l (i + 1) (x.1 + g.lo, x.2 + g.hi) (fun y hy => ok y (.tail _ hy)) (by simp only; omega)
      simp only [if_true] at a b c ⊢
      omega
    | false =>
      obtain ⟨a, b, c⟩ := warmF_bd (lit := lit) l (i + 1) x (fun y hy => ok y (.tail _ hy)) h
      simp only [Bool.false_eq_true, if_false]
      omega
def cnt (lo hi : Int) : Int → Nat → Int
  | _, 0 => 0
  | d, m + 1 => (if inB lo hi d then 1 else 0) + cnt lo hi (d + 1) m
theorem cnt_bd (lo hi : Int) : ∀ (m : Nat) (d : Int), 0 ≤ cnt lo hi d m ∧ cnt lo hi d m ≤ m
  | 0, d => ⟨Int.le_refl _, Int.le_refl _⟩
  | m + 1, d => by
    have := cnt_bd lo hi m (d + 1)
    unfold cnt
    have hc : (((m + 1 : Nat)) : Int) = (m : Int) + 1 := rfl
    rw [hc]
    split <;> omega
theorem cnt_all (lo hi : Int) : ∀ (m : Nat) (d : Int), cnt lo hi d m = m ↔ ∀ y, d ≤ y → y < d + m → inB lo hi y = true
  | 0, d => by
    constructor
    · intro _ y h1 h2
      have : ((0 : Nat) : Int) = 0 := rfl
      omega
    · intro _; rfl
  | m + 1, d => by
    have hc : (((m + 1 : Nat)) : Int) = (m : Int) + 1 := rfl
    have b := cnt_bd lo hi m (d + 1)
    have ih := cnt_all lo hi m (d + 1)
    unfold cnt
    rw [hc]
    constructor
    · intro e y h1 h2
      split at e
      · rename_i hd
        by_cases hy : y = d
        · rw [hy]; exact hd
        · exact ih.1 (by omega) y (by omega) (by omega)
      · omega
    · intro H
      rw [if_pos (H d (by omega) (by omega)), ih.2 (fun y h1 h2 => H y (by omega) (by omega))]
      omega
theorem cnt_none (lo hi : Int) : ∀ (m : Nat) (d : Int), cnt lo hi d m = 0 ↔ ∀ y, d ≤ y → y < d + m → inB lo hi y = false
  | 0, d => by
    constructor
    · intro _ y h1 h2
      have : ((0 : Nat) : Int) = 0 := rfl
      omega
    · intro _; rfl
  | m + 1, d => by
    have hc : (((m + 1 : Nat)) : Int) = (m : Int) + 1 := rfl
    have b := cnt_bd lo hi m (d + 1)
    have ih := cnt_none lo hi m (d + 1)
    unfold cnt
    rw [hc]
    constructor
    · intro e y h1 h2
      split at e
      · omega
      · rename_i hd
        by_cases hy : y = d
        · rw [hy]; simpa using hd
        · exact ih.1 (by omega) y (by omega) (by omega)
    · intro H
      rw [if_neg (by rw [H d (by omega) (by omega)]; simp), ih.2 (fun y h1 h2 => H y (by omega) (by omega))]
      rfl
def becV (b a : Int) : Int := if b = a then 1 else if b = 0 then 2 else 0
theorem becV_fate {x : Int × Int} (hx : x.1 ≤ x.2) (g : Fi) {m : Nat} (hm : (m : Int) = x.2 - x.1 + 1) : becV (cnt g.cr g.sl x.1 m) m = fateS x g := by
  unfold becV fateS
  have e1 : cnt g.cr g.sl x.1 m = m ↔ (max x.1 g.cr = x.1 ∧ min x.2 g.sl = x.2) := by
    rw [cnt_all]
    constructor
    · intro H
      have a := inB_iff.1 (H x.1 (by omega) (by omega))
      have b := inB_iff.1 (H x.2 (by omega) (by omega))
      omega
    · intro H y h1 h2
      exact inB_iff.2 (by omega)
  have e2 : cnt g.cr g.sl x.1 m = 0 ↔ min x.2 g.sl < max x.1 g.cr := by
    rw [cnt_none]
    constructor
    · intro H
      apply Classical.byContradiction
      intro hc
      have := H (max x.1 g.cr) (by omega) (by omega)
      rw [inB_iff.2 (by omega)] at this
      cases this
    · intro H y h1 h2
      cases hi : inB g.cr g.sl y with
      | false => rfl
      | true =>
        have := inB_iff.1 hi
        omega
  by_cases c1 : max x.1 g.cr = x.1 ∧ min x.2 g.sl = x.2
  · rw [if_pos c1, if_pos (e1.2 c1)]
  rw [if_neg c1, if_neg (fun h => c1 (e1.1 h))]
  by_cases c2 : min x.2 g.sl < max x.1 g.cr
  · rw [if_pos c2, if_pos (e2.2 c2)]
  · rw [if_neg c2, if_neg (fun h => c2 (e2.1 h))]
theorem bec37_loop (h : Hp) (g : Fi) (lo hi : Int) (hb : -1000 ≤ lo ∧ hi ≤ 1000) : ∀ (m n : Nat) (b a d : Int), d + m = hi + 1 → lo ≤ d → m ≤ 2000 → 0 ≤ b → b ≤ 3000 - m → 0 ≤ a → a ≤ 3000 - m → m + 2 ≤ n →
    G.rec' (T37 h) n 1 (PAL.i b (PAL.i a (PAL.i d (PAL.l g.row (PAL.i lo (PAL.i hi PAL.n)))))) = some (.int .i64 (becV (b + cnt g.cr g.sl d m) (a + m)))
  | 0, n + 2, b, a, d, hd, hl, hm, b0, b1, a0, a1, hn => by
    have z : ((0 : Nat) : Int) = 0 := rfl
    have st : G.rec' (T37 h) (n + 2) 1 (PAL.i b (PAL.i a (PAL.i d (PAL.l g.row (PAL.i lo (PAL.i hi PAL.n)))))) = P37x1 h (G.rec' (T37 h) (n + 1)) b a d g.row lo hi := rfl
    have st2 : ∀ b a : Int, G.rec' (T37 h) (n + 1) 2 (PAL.i b (PAL.i a PAL.n)) = P37x2 h (G.rec' (T37 h) n) b a := fun b a => rfl
    rw [st]
    unfold P37x1
    rw [boolN_eq, ltZ_dec, ifB_if, if_neg (by simp; omega), st2]
    unfold P37x2 becV cnt
    rw [boolZ_eq, eqZ_dec, ifB_if, z, show b + 0 = b by omega, show a + 0 = a by omega]
    by_cases c1 : b = a
    · rw [if_pos (by simpa using c1), if_pos c1]; rfl
    rw [if_neg (by simpa using c1), if_neg c1, boolZ_eq, eqZ_dec, ifB_if]
    by_cases c2 : b = 0
    · rw [if_pos (by simpa using c2), if_pos c2]; rfl
    · rw [if_neg (by simpa using c2), if_neg c2]; rfl
  | m + 1, n + 1, b, a, d, hd, hl, hm, b0, b1, a0, a1, hn => by
    have hc : (((m + 1 : Nat)) : Int) = (m : Int) + 1 := rfl
    rw [hc] at hd b1 a1
    have st : G.rec' (T37 h) (n + 1) 1 (PAL.i b (PAL.i a (PAL.i d (PAL.l g.row (PAL.i lo (PAL.i hi PAL.n)))))) = P37x1 h (G.rec' (T37 h) n) b a d g.row lo hi := rfl
    rw [st]
    unfold P37x1
    rw [boolN_eq, ltZ_dec, ifB_if, if_pos (by simp; omega), show Int.add a (Int.ofNat 1) = a + 1 from rfl, wrap64_in _ (by omega) (by omega), nthR_get _ _ 3 (.int .i64 g.cr) rfl, intK_int, nthR_get _ _ 4 (.int .i64 g.sl) rfl, intK_int, in54_at, optK_some', boolK_bool, ifB_if]
    unfold cnt
    cases hi2 : inB g.cr g.sl d with
    | true =>
      rw [if_pos rfl, if_pos rfl, show Int.add b (Int.ofNat 1) = b + 1 from rfl, wrap64_in _ (by omega) (by omega), show Int.add d (Int.ofNat 1) = d + 1 from rfl, wrap64_in _ (by omega) (by omega), bec37_loop h g lo hi hb m n (b + 1) (a + 1) (d + 1) (by omega) (by omega) (by omega) (by omega) (by omega) (by omega) (by omega) (by omega), hc,
        show b + 1 + cnt g.cr g.sl (d + 1) m = b + (1 + cnt g.cr g.sl (d + 1) m) by omega, show a + 1 + (m : Int) = a + ((m : Int) + 1) by omega]
    | false =>
      rw [if_neg (by simp), if_neg (by simp), show Int.add d (Int.ofNat 1) = d + 1 from rfl, wrap64_in _ (by omega) (by omega), bec37_loop h g lo hi hb m n b (a + 1) (d + 1) (by omega) (by omega) (by omega) (by omega) (by omega) (by omega) (by omega) (by omega), hc,
        show b + cnt g.cr g.sl (d + 1) m = b + (0 + cnt g.cr g.sl (d + 1) m) by omega, show a + 1 + (m : Int) = a + ((m : Int) + 1) by omega]
theorem bec37_at {h : Hp} {s : Ho} {r : List Value} (a : HoA h s r) (ok : HoOk s) {lit : Nat} (hlit : lit < 8) {k : Nat} (hk : k < s.pls.length) (g : Fi) :
    F37 [.agg (Array.mk r), .agg (Array.mk g.row), .int .i64 (k : Int), .int .i64 (lit : Int)] h = some (.int .i64 (fateS (warmF lit 0 (s.pls[k]).ws (s.we.lo, s.we.hi)) g)) := by
  have hr7 := a.len
  obtain ⟨o1, o2, _⟩ := ok.pl k hk
  obtain ⟨t0, t3⟩ := ok.stoves
  obtain ⟨v1, v2, v3⟩ := ok.we
  have w63 := warm63_at a ok hlit hk
  have bd := warmF_bd (lit := lit) (s.pls[k]).ws 0 (s.we.lo, s.we.hi) o2 v2
  generalize warmF lit 0 (s.pls[k]).ws (s.we.lo, s.we.hi) = x at w63 bd ⊢
  obtain ⟨x1, x2⟩ := x
  simp only at bd
  obtain ⟨m, hm⟩ : ∃ m : Nat, (m : Int) = x2 - x1 + 1 := ⟨(x2 - x1 + 1).toNat, by omega⟩
  show plainO (P37x0 h (G.rec' (T37 h) 999999) (.agg (Array.mk r)) (.agg (Array.mk g.row)) (k : Int) (lit : Int)) = _
  unfold P37x0
  rw [rowCells, rowCells, forceL_eq, forceL_eq, dropR_eq, takeR_eq _ _ _ (by simp; omega), List.drop_zero, List.take_of_length_le (by omega), w63, optK_some']
  unfold spV
  rw [aggK_at, lenR2, ifB_if, if_pos rfl, segR2, nthR_get _ _ 0 (.int .i64 x1) rfl, intK_int, uncons_at, intK_int, uncons_at, intK_int, nil_at, bec37_loop h g x1 x2 (by omega) m 999999 (Int.ofNat 0) (Int.ofNat 0) x1 (by omega) (by omega) (by omega) (by decide) (by show (0 : Int) ≤ _; omega) (by decide) (by show (0 : Int) ≤ _; omega) (by omega), show (Int.ofNat 0) = (0 : Int) from rfl, Int.zero_add, Int.zero_add, becV_fate (x := (x1, x2)) bd.2.1 g hm]
  rfl
end Go.Proofs.Ytekocllllbdbgaa.K.L
