/- Contracts of told functions: Fate, in the code and in the reference. -/
import Derived.Test.YtekocllllbdbgaaFtS13
open Go Go.Eng
set_option maxRecDepth 100000
set_option linter.unusedVariables false
namespace Go.Proofs.Ytekocllllbdbgaa.K.L
theorem warmF_bd {lit : Nat} : ∀ (l : List Sp) (i : Nat) (x : Int × Int), SpsOk l → x.1 ≤ x.2 → x.1 ≤ (warmF lit i l x).1 ∧ (warmF lit i l x).1 ≤ (warmF lit i l x).2 ∧ (warmF lit i l x).2 ≤ x.2 + 60 * l.length
  | [], i, x, ok, h => ⟨Int.le_refl _, h, by show x.2 ≤ x.2 + 60 * ((0 : Nat) : Int); omega⟩
  | g :: l, i, x, ok, h => by
    obtain ⟨o1, o2, o3, o4, o5⟩ := ok g (.head _)
    unfold warmF
    have lc : ((g :: l).length : Int) = (l.length : Int) + 1 := rfl
    rw [lc]
    cases hb : bitB lit i with
    | true =>
      obtain ⟨a, b, c⟩ := warmF_bd (lit := lit) l (i + 1) (x.1 + g.lo, x.2 + g.hi) (fun y hy => ok y (.tail _ hy)) (by simp only; omega)
      simp only [if_true] at a b c ⊢
      omega
    | false =>
      obtain ⟨a, b, c⟩ := warmF_bd (lit := lit) l (i + 1) x (fun y hy => ok y (.tail _ hy)) h
      simp only [Bool.false_eq_true, if_false]
      omega
def cnt (lo hi : Int) : Int → Nat → Int
  | _, 0 => 0
  | d, m + 1 => (if inB lo hi d then 1 else 0) + cnt lo hi (d + 1) m
theorem cnt_bd (lo hi : Int) : ∀ (m : Nat) (d : Int), 0 ≤ cnt lo hi d m ∧ cnt lo hi d m ≤ m
  | 0, d => ⟨Int.le_refl _, Int.le_refl _⟩
  | m + 1, d => by
    have := cnt_bd lo hi m (d + 1)
    unfold cnt
    have hc : (((m + 1 : Nat)) : Int) = (m : Int) + 1 := rfl
    rw [hc]
    split <;> omega
theorem cnt_all (lo hi : Int) : ∀ (m : Nat) (d : Int), cnt lo hi d m = m ↔ ∀ y, d ≤ y → y < d + m → inB lo hi y = true
  | 0, d => by
    constructor
    · intro _ y h1 h2
      have : ((0 : Nat) : Int) = 0 := rfl
      omega
    · intro _; rfl
  | m + 1, d => by
    have hc : (((m + 1 : Nat)) : Int) = (m : Int) + 1 := rfl
    have b := cnt_bd lo hi m (d + 1)
    have ih := cnt_all lo hi m (d + 1)
    unfold cnt
    rw [hc]
    constructor
    · intro e y h1 h2
      split at e
      · rename_i hd
        by_cases hy : y = d
        · rw [hy]; exact hd
        · exact ih.1 (by omega) y (by omega) (by omega)
      · omega
    · intro H
      rw [if_pos (H d (by omega) (by omega)), ih.2 (fun y h1 h2 => H y (by omega) (by omega))]
      omega
theorem cnt_none (lo hi : Int) : ∀ (m : Nat) (d : Int), cnt lo hi d m = 0 ↔ ∀ y, d ≤ y → y < d + m → inB lo hi y = false
  | 0, d => by
    constructor
    · intro _ y h1 h2
      have : ((0 : Nat) : Int) = 0 := rfl
      omega
    · intro _; rfl
  | m + 1, d => by
    have hc : (((m + 1 : Nat)) : Int) = (m : Int) + 1 := rfl
    have b := cnt_bd lo hi m (d + 1)
    have ih := cnt_none lo hi m (d + 1)
    unfold cnt
    rw [hc]
    constructor
    · intro e y h1 h2
      split at e
      · omega
      · rename_i hd
        by_cases hy : y = d
        · rw [hy]; simpa using hd
        · exact ih.1 (by omega) y (by omega) (by omega)
    · intro H
      rw [if_neg (by rw [H d (by omega) (by omega)]; simp), ih.2 (fun y h1 h2 => H y (by omega) (by omega))]
      rfl
def becV (b a : Int) : Int := if b = a then 1 else if b = 0 then 2 else 0
theorem becV_fate {x : Int × Int} (hx : x.1 ≤ x.2) (g : Fi) {m : Nat} (hm : (m : Int) = x.2 - x.1 + 1) : becV (cnt g.cr g.sl x.1 m) m = fateS x g := by
  unfold becV fateS
  have e1 : cnt g.cr g.sl x.1 m = m ↔ (max x.1 g.cr = x.1 ∧ min x.2 g.sl = x.2) := by
    rw [cnt_all]
    constructor
    · intro H
      have a := inB_iff.1 (H x.1 (by omega) (by omega))
      have b := inB_iff.1 (H x.2 (by omega) (by omega))
      omega
    · intro H y h1 h2
      exact inB_iff.2 (by omega)
  have e2 : cnt g.cr g.sl x.1 m = 0 ↔ min x.2 g.sl < max x.1 g.cr := by
    rw [cnt_none]
    constructor
    · intro H
      apply Classical.byContradiction
      intro hc
      have := H (max x.1 g.cr) (by omega) (by omega)
      rw [inB_iff.2 (by omega)] at this
      cases this
    · intro H y h1 h2
      cases hi : inB g.cr g.sl y with
      | false => rfl
      | true =>
        have := inB_iff.1 hi
        omega
  by_cases c1 : max x.1 g.cr = x.1 ∧ min x.2 g.sl = x.2
  · rw [if_pos c1, if_pos (e1.2 c1)]
  rw [if_neg c1, if_neg (fun h => c1 (e1.1 h))]
  by_cases c2 : min x.2 g.sl < max x.1 g.cr
  · rw [if_pos c2, if_pos (e2.2 c2)]
  · rw [if_neg c2, if_neg (fun h => c2 (e2.1 h))]
theorem bec37_loop (h : Hp) (g : Fi) (lo hi : Int) (hb : -1000 ≤ lo ∧ hi ≤ 1000) : ∀ (m n : Nat) (b a d : Int), d + m = hi + 1 → lo ≤ d → m ≤ 2000 → 0 ≤ b → b ≤ 3000 - m → 0 ≤ a → a ≤ 3000 - m → m + 2 ≤ n →
    G.rec' (T37 h) n 1 (PAL.i b (PAL.i a (PAL.i d (PAL.l g.row (PAL.i lo (PAL.i hi PAL.n)))))) = some (.int .i64 (becV (b + cnt g.cr g.sl d m) (a + m)))
  | 0, n + 2, b, a, d, hd, hl, hm, b0, b1, a0, a1, hn => by
    have z : ((0 : Nat) : Int) = 0 := rfl
    have st : G.rec' (T37 h) (n + 2) 1 (PAL.i b (PAL.i a (PAL.i d (PAL.l g.row (PAL.i lo (PAL.i hi PAL.n)))))) = P37x1 h (G.rec' (T37 h) (n + 1)) b a d g.row lo hi := rfl
    have st2 : ∀ b a : Int, G.rec' (T37 h) (n + 1) 2 (PAL.i b (PAL.i a PAL.n)) = P37x2 h (G.rec' (T37 h) n) b a := fun b a => rfl
    rw [st]
    unfold P37x1
    rw [boolN_eq, ltZ_dec, ifB_if, if_neg (by simp; omega), st2]
    unfold P37x2 becV cnt
    rw [boolZ_eq, eqZ_dec, ifB_if, z, show b + 0 = b by omega, show a + 0 = a by omega]
    by_cases c1 : b = a
    · rw [if_pos (by simpa using c1), if_pos c1]; rfl
    rw [if_neg (by simpa using c1), if_neg c1, boolZ_eq, eqZ_dec, ifB_if]
    by_cases c2 : b = 0
    · rw [if_pos (by simpa using c2), if_pos c2]; rfl
    · rw [if_neg (by simpa using c2), if_neg c2]; rfl
  | m + 1, n + 1, b, a, d, hd, hl, hm, b0, b1, a0, a1, hn => by
    have hc : (((m + 1 : Nat)) : Int) = (m : Int) + 1 := rfl
    rw [hc] at hd b1 a1
    have st : G.rec' (T37 h) (n + 1) 1 (PAL.i b (PAL.i a (PAL.i d (PAL.l g.row (PAL.i lo (PAL.i hi PAL.n)))))) = P37x1 h (G.rec' (T37 h) n) b a d g.row lo hi := rfl
    rw [st]
    unfold P37x1
    rw [boolN_eq, ltZ_dec, ifB_if, if_pos (by simp; omega), show Int.add a (Int.ofNat 1) = a + 1 from rfl, wrap64_in _ (by omega) (by omega), nthR_get _ _ 3 (.int .i64 g.cr) rfl, intK_int, nthR_get _ _ 4 (.int .i64 g.sl) rfl, intK_int, in54_at, optK_some', boolK_bool, ifB_if]
    unfold cnt
    cases hi2 : inB g.cr g.sl d with
    | true =>
      rw [if_pos rfl, if_pos rfl, show Int.add b (Int.ofNat 1) = b + 1 from rfl, wrap64_in _ (by omega) (by omega), show Int.add d (Int.ofNat 1) = d + 1 from rfl, wrap64_in _ (by omega) (by omega), bec37_loop h g lo hi hb m n (b + 1) (a + 1) (d + 1) (by omega) (by omega) (by omega) (by omega) (by omega) (by omega) (by omega) (by omega), hc,
        show b + 1 + cnt g.cr g.sl (d + 1) m = b + (1 + cnt g.cr g.sl (d + 1) m) by omega, show a + 1 + (m : Int) = a + ((m : Int) + 1) by omega]
    | false =>
      rw [if_neg (by simp), if_neg (by simp), show Int.add d (Int.ofNat 1) = d + 1 from rfl, wrap64_in _ (by omega) (by omega), bec37_loop h g lo hi hb m n b (a + 1) (d + 1) (by omega) (by omega) (by omega) (by omega) (by omega) (by omega) (by omega) (by omega), hc,
        show b + cnt g.cr g.sl (d + 1) m = b + (0 + cnt g.cr g.sl (d + 1) m) by omega, show a + 1 + (m : Int) = a + ((m : Int) + 1) by omega]
theorem bec37_at {h : Hp} {s : Ho} {r : List Value} (a : HoA h s r) (ok : HoOk s) {lit : Nat} (hlit : lit < 8) {k : Nat} (hk : k < s.pls.length) (g : Fi) :
    F37 [.agg (Array.mk r), .agg (Array.mk g.row), .int .i64 (k : Int), .int .i64 (lit : Int)] h = some (.int .i64 (fateS (warmF lit 0 (s.pls[k]).ws (s.we.lo, s.we.hi)) g)) := by
  have hr7 := a.len
  obtain ⟨o1, o2, _⟩ := ok.pl k hk
  obtain ⟨t0, t3⟩ := ok.stoves
  obtain ⟨v1, v2, v3⟩ := ok.we
  have w63 := warm63_at a ok hlit hk
  have bd := warmF_bd (lit := lit) (s.pls[k]).ws 0 (s.we.lo, s.we.hi) o2 v2
  generalize warmF lit 0 (s.pls[k]).ws (s.we.lo, s.we.hi) = x at w63 bd ⊢
  obtain ⟨x1, x2⟩ := x
  simp only at bd
  obtain ⟨m, hm⟩ : ∃ m : Nat, (m : Int) = x2 - x1 + 1 := ⟨(x2 - x1 + 1).toNat, by omega⟩
  show plainO (P37x0 h (G.rec' (T37 h) 999999) (.agg (Array.mk r)) (.agg (Array.mk g.row)) (k : Int) (lit : Int)) = _
  unfold P37x0
  rw [rowCells, rowCells, forceL_eq, forceL_eq, dropR_eq, takeR_eq _ _ _ (by simp; omega), List.drop_zero, List.take_of_length_le (by omega), w63, optK_some']
  unfold spV
  rw [aggK_at, lenR2, ifB_if, if_pos rfl, segR2, nthR_get _ _ 0 (.int .i64 x1) rfl, intK_int, uncons_at, intK_int, uncons_at, intK_int, nil_at, bec37_loop h g x1 x2 (by omega) m 999999 (Int.ofNat 0) (Int.ofNat 0) x1 (by omega) (by omega) (by omega) (by decide) (by show (0 : Int) ≤ _; omega) (by decide) (by show (0 : Int) ≤ _; omega) (by omega), show (Int.ofNat 0) = (0 : Int) from rfl, Int.zero_add, Int.zero_add, becV_fate (x := (x1, x2)) bd.2.1 g hm]
  rfl
def fateAll (s : Ho) (fig place lit : Int) : Int × Int :=
  if (checkH s).2.2 ≠ 0 then (0, (checkH s).2.2)
  else if !(inB 0 ((s.figs.length : Int) - 1) fig) then (0, 4)
  else if !(inB 0 ((s.pls.length : Int) - 1) place) then (0, 4)
  else if !(inB 0 (2 ^ s.stoves.toNat - 1) lit) then (0, 7)
  else match s.figs[fig.toNat]?, s.pls[place.toNat]? with
    | some g, some p => (fateS (warmF lit.toNat 0 p.ws (s.we.lo, s.we.hi)) g, 0)
    | _, _ => (0, 4)
theorem fate17_at {h : Hp} (w : Wf h) {s : Ho} {r : List Value} (a : HoA h s r) (fig place lit : Int) : ∃ h', F17 [.agg (Array.mk r), .int .i64 fig, .int .i64 place, .int .i64 lit] h = some (pairV (fateAll s fig place lit), h') := by
  have start : F17 [.agg (Array.mk r), .int .i64 fig, .int .i64 place, .int .i64 lit] h = P17x0 (rec' T17 999999) (.agg (Array.mk r)) fig place lit h := rfl
  rw [start]
  unfold P17x0
  clear start
  have hr7 := a.len
  rw [rowCells, allocK_add]
  have g1 := Grew.add w (.cells r 28 none)
  have a1 : At (h.add (.cells r 28 none)) (.pointer (some ⟨h.next, 0, none⟩)) r := At.new
  generalize h.add (.cells r 28 none) = h1 at g1 a1 ⊢
  have s1 := a.sub g1.sub
  obtain ⟨hx, lk, ex, gx, lx, ox, kx⟩ := open58_at (h := shutH h1) (wfShut g1.wf) s1
  obtain ⟨h3, e3, g3⟩ := callQ_any g1.wf ex gx
  rw [a1.loadN (z := 7) hr7, e3, pairK_some', extK_at (v := .agg (Array.mk lk)) rfl, extK_at (v := .int .i64 (checkH s).2.2) rfl, intK_int]
  have g13 := g1.trans g3
  obtain ⟨h8, p, g8, a8, k8⟩ := alloc_store (ρ := Value × Hp) (z := 7) g13.wf 97 (c := zero97) (l := lk) rfl lx ox (fun _ _ => none)
  have g18 := g13.trans g8
  rw [show [(Value.int .i64 (Int.ofNat 0)), (Value.int .i64 (Int.ofNat 0)), (Value.int .i64 (Int.ofNat 0)), (Value.slice none 0 0), (Value.slice none 0 0), (Value.slice none 0 0), (Value.slice none 0 0)] = zero97 from rfl, k8, boolN_eq, eqZ_dec, ifB_if]
  unfold fateAll
  by_cases e0 : (checkH s).2.2 = 0
  case neg => rw [if_pos (by simpa using e0), if_pos e0]; exact ⟨_, rfl⟩
  have hlk := kx e0
  subst hlk
  have ok := check_ok e0
  have lp := ok.pls
  have lf := ok.figs
  have s8 := a.sub g18.sub
  obtain ⟨vh, vp, vf, vb, hrow, sh, sp, sw, sf, sb⟩ := a
  have sp8 := sp.sub g18.sub
  have sf8 := sf.sub g18.sub
  have ht : ¬((!true) = true) := by simp
  have hf : (!false) = true := rfl
  obtain ⟨q, hq, aq⟩ := a8.part 0 7 (by omega)
  rw [if_neg (by simpa using e0), if_neg (by simpa using e0), hq, aq.fld 5 (x := vf) (by rw [hrow]; rfl), sf8.rows.len, List.length_map, one24, pairK_some', index59_at h8 (by omega), optK_some', pairK_some', boolK_bool, boolN_eq, ifB_if]
  have gp := Grew.add g18.wf (.cells [.int .i64 fig] 3 none)
  have a18 := a8.sub gp.sub
  have s18 := s8.sub gp.sub
  have aq18 := aq.sub gp.sub
  have sp18 := sp8.sub gp.sub
  generalize h8.add (.cells [.int .i64 fig] 3 none) = h18 at gp a18 s18 aq18 sp18 ⊢
  cases c1 : inB 0 ((s.figs.length : Int) - 1) fig with
  | false => rw [if_pos hf, if_pos hf]; exact ⟨_, rfl⟩
  | true =>
  rw [if_neg ht, if_neg ht, hq, aq18.fld 4 (x := vp) (by rw [hrow]; rfl), sp18.rows.len, List.length_map, one24, pairK_some', index59_at h18 (by omega), optK_some', pairK_some', boolK_bool, boolN_eq, ifB_if]
  have gq := Grew.add gp.wf (.cells [.int .i64 place] 3 none)
  have a19 := a18.sub gq.sub
  have s19 := s18.sub gq.sub
  generalize h18.add (.cells [.int .i64 place] 3 none) = h19 at gq a19 s19 ⊢
  cases c2 : inB 0 ((s.pls.length : Int) - 1) place with
  | false => rw [if_pos hf, if_pos hf]; exact ⟨_, rfl⟩
  | true =>
  rw [if_neg ht, if_neg ht]
  have st : rec' T17 999999 1 (AL.i fig (AL.i place (AL.i lit (AL.v p AL.n)))) h19 = P17x1 (rec' T17 999998) fig place lit p h19 := rfl
  rw [st]
  unfold P17x1
  obtain ⟨st0, st3⟩ := ok.stoves
  obtain ⟨n, hn⟩ : ∃ n : Nat, s.stoves = (n : Int) := ⟨s.stoves.toNat, by omega⟩
  have hn3 : n ≤ 3 := by omega
  obtain ⟨h60, e60⟩ := lit60_at (h := shutH h19) (wfShut gq.wf) (we := s.we) (vh := vh) (vp := vp) (vf := vf) (vb := vb) hn3 lit
  rw [← hn, ← hrow] at e60
  rw [a19.loadN (z := 7) hr7, callQ_plain1 e60 rfl, pairK_some', intK_int, boolN_eq, eqZ_dec, ifB_if]
  have p2 := pow3 n hn3
  rw [show s.stoves.toNat = n by omega]
  cases c3 : inB 0 (2 ^ n - 1) lit with
  | false =>
    rw [show (if (false = true) then (0 : Int) else 7) = 7 from rfl, if_pos (by rfl), if_pos hf]
    exact ⟨_, rfl⟩
  | true =>
  have hl := inB_iff.1 c3
  have hp := inB_iff.1 c2
  have hfi := inB_iff.1 c1
  obtain ⟨l, rfl⟩ : ∃ l : Nat, lit = (l : Int) := ⟨lit.toNat, by omega⟩
  obtain ⟨k, rfl⟩ : ∃ k : Nat, place = (k : Int) := ⟨place.toNat, by omega⟩
  obtain ⟨f, rfl⟩ : ∃ f : Nat, fig = (f : Int) := ⟨fig.toNat, by omega⟩
  have hk : k < s.pls.length := by omega
  have hf2 : f < s.figs.length := by omega
  obtain ⟨h64, e64⟩ := fate64_at (h := shutH h19) (wfShut gq.wf) s19 ok (lit := l) (by omega) hk hf2
  rw [show (if (true = true) then (0 : Int) else 7) = 0 from rfl, if_neg (by simp), if_neg ht, a19.loadN (z := 7) hr7, s19.heat, optK_some', callQ_plain1 e64 rfl, pairK_some', intK_int, Int.toNat_natCast, Int.toNat_natCast, Int.toNat_natCast, List.getElem?_eq_getElem hk, List.getElem?_eq_getElem hf2]
  exact ⟨_, rfl⟩
theorem ask_fate (s : Ho) (fig place lit : Int) (e0 : (checkH s).2.2 = 0) (hl : s.figs.length ≠ 0) : askE s fig place lit = (fateAll s fig place lit).2 := by
  unfold askE fateAll
  have hh : ¬((checkH s).2.2 ≠ 0) := by simpa using e0
  have ht : ¬((!true) = true) := by simp
  have hf : (!false) = true := rfl
  rw [if_neg hh, if_neg hh, show max 0 ((s.figs.length : Int) - 1) = (s.figs.length : Int) - 1 by omega]
  cases c1 : inB 0 ((s.figs.length : Int) - 1) fig with
  | false => rw [if_pos hf, if_pos hf]
  | true =>
  rw [if_neg ht, if_neg ht]
  cases c2 : inB 0 ((s.pls.length : Int) - 1) place with
  | false => rw [if_pos hf, if_pos hf]
  | true =>
  have h1 := inB_iff.1 c1
  have hp := inB_iff.1 c2
  rw [if_neg ht, if_neg ht]
  cases c3 : inB 0 (2 ^ s.stoves.toNat - 1) lit with
  | false => rw [if_pos hf, if_pos hf]
  | true => rw [if_neg ht, if_neg ht, List.getElem?_eq_getElem (by omega : place.toNat < s.pls.length), List.getElem?_eq_getElem (by omega : fig.toNat < s.figs.length)]
theorem fate18_at {h : Hp} (w : Wf h) {s : Ho} {r : List Value} (a : HoA h s r) (fig place lit : Int) : ∃ h', F18 [.agg (Array.mk r), .int .i64 fig, .int .i64 place, .int .i64 lit] h = some (pairV (fateAll s fig place lit), h') := by
  have start : F18 [.agg (Array.mk r), .int .i64 fig, .int .i64 place, .int .i64 lit] h = P18x0 (rec' T18 999999) (.agg (Array.mk r)) fig place lit h := rfl
  rw [start]
  unfold P18x0
  clear start
  have hr7 := a.len
  rw [rowCells, allocK_add]
  have g1 := Grew.add w (.cells r 28 none)
  have a1 : At (h.add (.cells r 28 none)) (.pointer (some ⟨h.next, 0, none⟩)) r := At.new
  generalize h.add (.cells r 28 none) = h1 at g1 a1 ⊢
  generalize Value.pointer (some ⟨h.next, 0, none⟩) = p at a1 ⊢
  have s1 := a.sub g1.sub
  obtain ⟨h2, e2⟩ := asked62_at (h := shutH h1) (wfShut g1.wf) s1 fig place lit
  obtain ⟨h3, e3⟩ := check14_at (h := shutH h1) (wfShut g1.wf) s1
  rw [a1.loadN (z := 7) hr7, callQ_plain1 e2 rfl, pairK_some', intK_int, a1.loadN (z := 7) hr7, callQ_plain1 e3 rfl, pairK_some']
  unfold trip
  rw [extK_at (v := .int .i64 (checkH s).1) rfl, intK_int, extK_at (v := .int .i64 (checkH s).2.1) rfl, intK_int, extK_at (v := .int .i64 (checkH s).2.2) rfl, intK_int, boolZ_eq, eqZ_dec, ifB_if]
  have st : ∀ e : Int, rec' T18 999999 1 (AL.i fig (AL.i place (AL.i lit (AL.v p (AL.i e AL.n))))) h1 = P18x1 (rec' T18 999998) fig place lit p e h1 := fun e => rfl
  have bad : ∀ e : Int, e ≠ 0 → ∃ h', rec' T18 999999 1 (AL.i fig (AL.i place (AL.i lit (AL.v p (AL.i e AL.n))))) h1 = some (pairV (0, e), h') := by
    intro e he
    rw [st]
    unfold P18x1
    rw [boolN_eq, eqZ_dec, ifB_if, if_pos (by simpa using he)]
    exact ⟨_, rfl⟩
  have ht : ¬((!true) = true) := by simp
  have hff : (!false) = true := rfl
  by_cases e0 : (checkH s).2.2 = 0
  case neg =>
    rw [if_neg (by simpa using e0), show askE s fig place lit = (checkH s).2.2 from by unfold askE; rw [if_pos e0], show fateAll s fig place lit = (0, (checkH s).2.2) from by unfold fateAll; rw [if_pos e0]]
    exact bad _ e0
  have ok := check_ok e0
  have lp := ok.pls
  have lf := ok.figs
  have hh : ¬((checkH s).2.2 ≠ 0) := by simpa using e0
  have s1' := s1
  obtain ⟨vh, vp, vf, vb, hrow, sh, sp, sw, sf, sb⟩ := s1
  rw [if_pos (by simpa using e0), a1.fld 5 (x := vf) (by rw [hrow]; rfl), sf.rows.len, List.length_map, boolZ_eq, eqZ_dec, ifB_if]
  by_cases hl : s.figs.length = 0
  · rw [if_pos (by simp [hl]), show fateAll s fig place lit = (0, 4) from by
      unfold fateAll
      rw [if_neg hh, show inB 0 ((s.figs.length : Int) - 1) fig = false from by
        cases hi : inB 0 ((s.figs.length : Int) - 1) fig with
        | false => rfl
        | true => have := inB_iff.1 hi; omega, if_pos hff]]
    exact bad 4 (by decide)
  rw [if_neg (by simpa using hl), ask_fate s fig place lit e0 hl]
  by_cases e1 : (fateAll s fig place lit).2 = 0
  case neg =>
    obtain ⟨h', e⟩ := bad _ e1
    refine ⟨h', e.trans ?_⟩
    have : (fateAll s fig place lit).1 = 0 := by
      unfold fateAll at e1 ⊢
      rw [if_neg hh] at e1 ⊢
      split
      · rfl
      · rename_i c2
        rw [if_neg c2] at e1
        split
        · rfl
        · rename_i c3
          rw [if_neg c3] at e1
          split
          · rfl
          · rename_i c4
            rw [if_neg c4] at e1
            split
            · rename_i g y hg hy; rw [hg, hy] at e1; exact absurd rfl e1
            · rfl
    rw [show fateAll s fig place lit = (0, (fateAll s fig place lit).2) from by rw [← this]]
  rw [st]
  unfold P18x1
  rw [boolN_eq, eqZ_dec, ifB_if, if_neg (by simpa using e1)]
  unfold fateAll at e1 ⊢
  rw [if_neg hh] at e1 ⊢
  cases c1 : inB 0 ((s.figs.length : Int) - 1) fig with
  | false => rw [c1, if_pos hff] at e1; exact absurd e1 (by decide)
  | true =>
  rw [c1, if_neg ht] at e1
  rw [if_neg ht]
  cases c2 : inB 0 ((s.pls.length : Int) - 1) place with
  | false => rw [c2, if_pos hff] at e1; exact absurd e1 (by decide)
  | true =>
  rw [c2, if_neg ht] at e1
  rw [if_neg ht]
  cases c3 : inB 0 (2 ^ s.stoves.toNat - 1) lit with
  | false => rw [c3, if_pos hff] at e1; exact absurd e1 (by decide)
  | true =>
  have hl := inB_iff.1 c3
  have hp := inB_iff.1 c2
  have hfi := inB_iff.1 c1
  have p3 := pow3 s.stoves.toNat (by have := ok.stoves; omega)
  obtain ⟨l, rfl⟩ : ∃ l : Nat, lit = (l : Int) := ⟨lit.toNat, by omega⟩
  obtain ⟨k, rfl⟩ : ∃ k : Nat, place = (k : Int) := ⟨place.toNat, by omega⟩
  obtain ⟨f, rfl⟩ : ∃ f : Nat, fig = (f : Int) := ⟨fig.toNat, by omega⟩
  have hk : k < s.pls.length := by omega
  have hf2 : f < s.figs.length := by omega
  have hg : (s.figs.map Fi.row)[f]? = some (s.figs[f]).row := by rw [List.getElem?_map, List.getElem?_eq_getElem hf2]; rfl
  obtain ⟨q, hq, haq, hl6⟩ := sf.rows.at hg
  rw [if_neg ht, a1.loadN (z := 7) hr7, a1.fld 5 (x := vf) (by rw [hrow]; rfl), hq, haq.loadN (z := 6) hl6, bec37_at s1' ok (lit := l) (by omega) hk (s.figs[f]), optK_some', pairK_some', intK_int, Int.toNat_natCast, Int.toNat_natCast, Int.toNat_natCast, List.getElem?_eq_getElem hk, List.getElem?_eq_getElem hf2]
  exact ⟨_, rfl⟩
end Go.Proofs.Ytekocllllbdbgaa.K.L
