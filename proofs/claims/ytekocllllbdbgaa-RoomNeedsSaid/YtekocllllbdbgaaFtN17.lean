/- Contracts of told functions: Needs. -/
import Derived.Test.YtekocllllbdbgaaFtN14
open Go Go.Eng
set_option maxRecDepth 100000
set_option linter.unusedVariables false
namespace Go.Proofs.Ytekocllllbdbgaa.K.L
def someB (s : Ho) (g : Fi) (lit : Nat) (ps : List Pl) : Bool := ps.any fun p => decide (fateS (warmF lit 0 p.ws (s.we.lo, s.we.hi)) g = 1)
theorem some77_loop {s : Ho} {r : List Value} (ok : HoOk s) {lit : Nat} (hlit : lit < 8) {f : Nat} (hf : f < s.figs.length) {p : Value} (ll : (r ++ [Value.int .i64 (lit : Int)]).length = 8) {h : Hp} (w : Wf h) (a : HoA h s r) (ap : At h p (r ++ [.int .i64 (lit : Int)])) : ∀ m i n, i + m = s.pls.length → m + 2 ≤ n →
    rec' T77 n 1 (AL.i (f : Int) (AL.v p (AL.i (s.pls.length : Int) (AL.i (i : Int) AL.n)))) h = some (.bool (someB s s.figs[f] lit (s.pls.drop i)), h)
  | 0, i, n + 2, him, hn => by
    show P77x1 (rec' T77 (n + 1)) (f : Int) p (s.pls.length : Int) (i : Int) h = _
    unfold P77x1
    rw [boolZ_eq, ltZ_dec, ifB_if, if_neg (by simp; omega), List.drop_of_length_le (by omega)]
    rfl
  | m + 1, i, n + 1, him, hn => by
    have hi : i < s.pls.length := by omega
    have l5 := ok.pls
    obtain ⟨h2, e⟩ := fate64_at (h := shutH h) (wfShut w) a ok hlit hi hf
    show P77x1 (rec' T77 n) (f : Int) p (s.pls.length : Int) (i : Int) h = _
    unfold P77x1
    rw [boolZ_eq, ltZ_dec, ifB_if, if_pos (by simp; omega), ap.loadN (z := 8) ll, callQ_plain1 e rfl, pairK_some', intK_int, boolZ_eq, eqZ_dec, ifB_if, List.drop_eq_getElem_cons hi]
    unfold someB
    rw [List.any_cons]
    by_cases c : fateS (warmF lit 0 (s.pls[i]).ws (s.we.lo, s.we.hi)) s.figs[f] = 1
    · rw [if_pos (by simpa using c), decide_eq_true c]; rfl
    · rw [if_neg (by simpa using c), decide_eq_false c, show Int.add (i : Int) (Int.ofNat 1) = ((i + 1 : Nat) : Int) from rfl, wrap64_in _ (by omega) (by omega), some77_loop ok hlit hf ll w a ap m (i + 1) n (by omega) (by omega), Bool.false_or]
      rfl
theorem some77_at {h : Hp} (w : Wf h) {s : Ho} {r : List Value} (a : HoA h s r) (ok : HoOk s) {lit : Nat} (hlit : lit < 8) {f : Nat} (hf : f < s.figs.length) :
    ∃ h', F77 [.agg (Array.mk (r ++ [.int .i64 (lit : Int)])), .int .i64 (f : Int)] h = some (.bool (someB s s.figs[f] lit s.pls), h') := by
  have start : F77 [.agg (Array.mk (r ++ [.int .i64 (lit : Int)])), .int .i64 (f : Int)] h = P77x0 (rec' T77 999999) (.agg (Array.mk (r ++ [.int .i64 (lit : Int)]))) (f : Int) h := rfl
  rw [start]
  clear start
  unfold P77x0
  have ll : (r ++ [Value.int .i64 (lit : Int)]).length = 8 := by rw [List.length_append, a.len]; rfl
  rw [rowCells, allocK_add]
  have g0 := Grew.add w (.cells (r ++ [.int .i64 (lit : Int)]) 103 none)
  have a0 : At (h.add (.cells (r ++ [.int .i64 (lit : Int)]) 103 none)) (.pointer (some ⟨h.next, 0, none⟩)) (r ++ [.int .i64 (lit : Int)]) := At.new
  generalize h.add (.cells (r ++ [.int .i64 (lit : Int)]) 103 none) = h0 at g0 a0 ⊢
  generalize Value.pointer (some ⟨h.next, 0, none⟩) = p at a0 ⊢
  have s0 := a.sub g0.sub
  have hr7 := a.len
  have l5 := ok.pls
  have e := some77_loop ok hlit hf ll g0.wf s0 a0 s.pls.length 0 999999 (by omega) (by omega)
  rw [List.drop_zero] at e
  obtain ⟨vh, vp, vf, vb, hrow, sh, sp, sw, sf, sb⟩ := s0
  obtain ⟨q1, hq1, aq1⟩ := a0.part 0 8 (by omega)
  obtain ⟨q2, hq2, aq2⟩ := aq1.part 0 8 (by simp; omega)
  rw [hq1, hq2, aq2.fld 4 (x := vp) (by rw [hrow]; rfl), sp.rows.len, List.length_map, show (Int.ofNat 0) = ((0 : Nat) : Int) from rfl, e]
  exact ⟨_, rfl⟩
def ones (a : Nat) : Int := [0, 1, 1, 2, 1, 2, 2, 3].getD a 0
theorem ones76_at (h : Hp) : ∀ a : Nat, a < 8 → F76 [.int .u64 (a : Int)] h = some (.int .i64 (ones a))
  | 0, _ => by kernel_rfl
  | 1, _ => by kernel_rfl
  | 2, _ => by kernel_rfl
  | 3, _ => by kernel_rfl
  | 4, _ => by kernel_rfl
  | 5, _ => by kernel_rfl
  | 6, _ => by kernel_rfl
  | 7, _ => by kernel_rfl
  | a + 8, h => absurd h (by omega)
theorem u64_at {ρ : Type} (f : Int → Option ρ) : ∀ a : Nat, a < 8 → forceI (wrapF .u64 (a : Int)) f = f (a : Int)
  | 0, _ => by kernel_rfl
  | 1, _ => by kernel_rfl
  | 2, _ => by kernel_rfl
  | 3, _ => by kernel_rfl
  | 4, _ => by kernel_rfl
  | 5, _ => by kernel_rfl
  | 6, _ => by kernel_rfl
  | 7, _ => by kernel_rfl
  | a + 8, h => absurd h (by omega)
def nstep (S : Nat → Bool) (acc : Nat × Bool) (lit : Nat) : Nat × Bool := if (!acc.2 || decide (ones lit < ones acc.1)) && S lit then (lit, true) else acc
def nfold (S : Nat → Bool) : Nat → Nat → Nat × Bool → Nat × Bool
  | 0, _, acc => acc
  | m + 1, i, acc => nfold S m (i + 1) (nstep S acc i)
theorem zero103 : [(Value.int .i64 (Int.ofNat 0)), (Value.int .i64 (Int.ofNat 0)), (Value.int .i64 (Int.ofNat 0)), (Value.slice none 0 0), (Value.slice none 0 0), (Value.slice none 0 0), (Value.slice none 0 0), (Value.int .i64 (Int.ofNat 0))].length = 8 := rfl
def needsV (x : Nat × Bool) : Value := pairV (if x.2 then ((x.1 : Int), 0) else (0, 9))
theorem needs25_loop {s : Ho} {r : List Value} (ok : HoOk s) {f : Nat} (hf : f < s.figs.length) {p : Value} {t : Nat} (ht : t ≤ 8) (hr7 : r.length = 7) : ∀ m i (z : Nat) (acc : Nat × Bool) (h : Hp), Wf h → HoA h s r → At h p r → i + m = t → acc.1 < 8 →
    ∃ h', rec' T25 (3 * m + 2 + z) 1 (AL.i (f : Int) (AL.v p (AL.i (acc.1 : Int) (AL.b acc.2 (AL.i (t : Int) (AL.i (i : Int) AL.n)))))) h = some (needsV (nfold (fun l => someB s s.figs[f] l s.pls) m i acc), h')
  | 0, i, n, acc, h, w, a, ap, him, h8 => by
    rw [show 3 * 0 + 2 + n = n + 2 by omega]
    have st : rec' T25 (n + 2) 1 (AL.i (f : Int) (AL.v p (AL.i (acc.1 : Int) (AL.b acc.2 (AL.i (t : Int) (AL.i (i : Int) AL.n)))))) h = P25x1 (rec' T25 (n + 1)) (f : Int) p (acc.1 : Int) acc.2 (t : Int) (i : Int) h := rfl
    have st4 : rec' T25 (n + 1) 4 (AL.i (acc.1 : Int) (AL.b acc.2 AL.n)) h = P25x4 (rec' T25 n) (acc.1 : Int) acc.2 h := rfl
    rw [st]
    unfold P25x1
    rw [boolZ_eq, ltZ_dec, ifB_if, if_neg (by simp; omega), st4]
    unfold P25x4 nfold needsV
    rw [boolN_eq, ifB_if]
    cases acc.2 with
    | false => rw [if_pos (by rfl)]; exact ⟨_, rfl⟩
    | true => rw [if_neg (by simp)]; exact ⟨_, rfl⟩
  | m + 1, i, z, acc, h, w, a, ap, him, h8 => by
    have hi : i < 8 := by omega
    obtain ⟨n, hn⟩ : ∃ n, n = 3 * m + 2 + z := ⟨_, rfl⟩
    rw [show 3 * (m + 1) + 2 + z = n + 3 by omega]
    have st : rec' T25 (n + 3) 1 (AL.i (f : Int) (AL.v p (AL.i (acc.1 : Int) (AL.b acc.2 (AL.i (t : Int) (AL.i (i : Int) AL.n)))))) h = P25x1 (rec' T25 (n + 2)) (f : Int) p (acc.1 : Int) acc.2 (t : Int) (i : Int) h := rfl
    have st2 : ∀ (q : Value) (b : Bool) (h : Hp), rec' T25 (n + 2) 2 (AL.i (f : Int) (AL.v p (AL.i (acc.1 : Int) (AL.b acc.2 (AL.i (i : Int) (AL.v q (AL.b b (AL.i (t : Int) (AL.i (i : Int) AL.n))))))))) h = P25x2 (rec' T25 (n + 1)) (f : Int) p (acc.1 : Int) acc.2 (i : Int) q b (t : Int) (i : Int) h := fun q b h => rfl
    have st3 : ∀ (x : Nat) (b : Bool) (h : Hp), rec' T25 (n + 1) 3 (AL.i (f : Int) (AL.v p (AL.i (x : Int) (AL.b b (AL.i (t : Int) (AL.i (i : Int) AL.n)))))) h = P25x3 (rec' T25 n) (f : Int) p (x : Int) b (t : Int) (i : Int) h := fun x b h => rfl
    have next : ∀ (acc' : Nat × Bool) (h' : Hp), Grew h h' → acc'.1 < 8 → ∃ h'', rec' T25 (n + 1) 3 (AL.i (f : Int) (AL.v p (AL.i (acc'.1 : Int) (AL.b acc'.2 (AL.i (t : Int) (AL.i (i : Int) AL.n)))))) h' = some (needsV (nfold (fun l => someB s s.figs[f] l s.pls) m (i + 1) acc'), h'') := by
      intro acc' h' g h8'
      rw [st3]
      unfold P25x3
      rw [show Int.add (i : Int) (Int.ofNat 1) = ((i + 1 : Nat) : Int) from rfl, wrap64_in _ (by omega) (by omega)]
      rw [hn]
      exact needs25_loop ok hf ht hr7 m (i + 1) z acc' h' g.wf (a.sub g.sub) (ap.sub g.sub) (by omega) h8'
    rw [st]
    unfold P25x1
    have ll : (r ++ [Value.int .i64 (i : Int)]).length = 8 := by rw [List.length_append, hr7]; rfl
    have lo : (r ++ [Value.int .i64 (i : Int)]).all oneCell = true := by rw [List.all_append, a.one]; rfl
    obtain ⟨h4, q, g4, a4, k4⟩ := alloc_store (ρ := Value × Hp) (z := 8) w 103 (c := [(Value.int .i64 (Int.ofNat 0)), (Value.int .i64 (Int.ofNat 0)), (Value.int .i64 (Int.ofNat 0)), (Value.slice none 0 0), (Value.slice none 0 0), (Value.slice none 0 0), (Value.slice none 0 0), (Value.int .i64 (Int.ofNat 0))]) (l := r ++ [.int .i64 (i : Int)]) rfl ll lo (fun _ _ => none)
    rw [boolZ_eq, ltZ_dec, ifB_if, if_pos (by simp; omega), ap.loadN (z := 7) hr7, a.heat, optK_some', k4, boolN_eq, ifB_if]
    obtain ⟨h7, e7⟩ := some77_at (h := shutH h4) (wfShut g4.wf) (a.sub g4.sub) ok (lit := i) hi hf
    have two : ∀ b : Bool, b = (!acc.2 || decide (ones i < ones acc.1)) → ∃ h'', P25x2 (rec' T25 (n + 1)) (f : Int) p (acc.1 : Int) acc.2 (i : Int) q b (t : Int) (i : Int) h4 = some (needsV (nfold (fun l => someB s s.figs[f] l s.pls) (m + 1) i acc), h'') := by
      intro b hb
      unfold P25x2
      show ∃ h'', _ = some (needsV (nfold (fun l => someB s s.figs[f] l s.pls) m (i + 1) (nstep (fun l => someB s s.figs[f] l s.pls) acc i)), h'')
      unfold nstep
      rw [← hb, ifB_if]
      cases b with
      | false =>
        rw [if_neg (by simp), Bool.false_and, if_neg (by simp)]
        exact next acc h4 g4 h8
      | true =>
        rw [if_pos rfl, Bool.true_and, a4.loadN (z := 8) ll, callQ_plain1 e7 rfl, pairK_some', boolK_bool, ifB_if]
        cases hs : someB s s.figs[f] i s.pls with
        | true =>
          rw [if_pos rfl]
          dsimp only
          rw [if_pos hs]; exact next (i, true) h4 g4 hi
        | false =>
          rw [if_neg (by simp)]
          dsimp only
          rw [if_neg (show ¬ (someB s s.figs[f] i s.pls = true) by rw [hs]; simp)]; exact next acc h4 g4 h8
    cases hb : acc.2 with
    | false =>
      rw [hb] at st2 two
      rw [if_pos (by rfl), st2]
      exact two true (by simp)
    | true =>
      rw [hb] at st2 two
      rw [if_neg (by simp), u64_at _ i hi, ones76_at _ i hi, optK_some', pairK_some', intK_int, u64_at _ acc.1 h8, ones76_at _ acc.1 h8, optK_some', pairK_some', intK_int, boolZ_eq, ltZ_dec, st2]
      exact two _ (by simp)
def needsS (s : Ho) (fig : Int) : Int × Int :=
  if (checkH s).2.2 ≠ 0 then (0, (checkH s).2.2)
  else if !(inB 0 ((s.figs.length : Int) - 1) fig) then (0, 4)
  else match s.figs[fig.toNat]? with
    | none => (0, 4)
    | some g => if (nfold (fun l => someB s g l s.pls) (2 ^ s.stoves.toNat) 0 (0, false)).2 then (((nfold (fun l => someB s g l s.pls) (2 ^ s.stoves.toNat) 0 (0, false)).1 : Int), 0) else (0, 9)
theorem pow3n : ∀ n : Nat, n ≤ 3 → 2 ^ n ≤ 8 ∧ ((2 ^ n : Nat) : Int) = (2 : Int) ^ n
  | 0, _ => by decide
  | 1, _ => by decide
  | 2, _ => by decide
  | 3, _ => by decide
  | n + 4, h => absurd h (by omega)
theorem needs25_at {h : Hp} (w : Wf h) {s : Ho} {r : List Value} (a : HoA h s r) (fig : Int) : ∃ h', F25 [.agg (Array.mk r), .int .i64 fig] h = some (pairV (needsS s fig), h') := by
  have start : F25 [.agg (Array.mk r), .int .i64 fig] h = P25x0 (rec' T25 999999) (.agg (Array.mk r)) fig h := rfl
  rw [start]
  unfold P25x0
  clear start
  have hr7 := a.len
  rw [rowCells, allocK_add]
  have g1 := Grew.add w (.cells r 28 none)
  have a1 : At (h.add (.cells r 28 none)) (.pointer (some ⟨h.next, 0, none⟩)) r := At.new
  generalize h.add (.cells r 28 none) = h1 at g1 a1 ⊢
  have s1 := a.sub g1.sub
  obtain ⟨hx, lk, ex, gx, lx, ox, kx⟩ := open58_at (h := shutH h1) (wfShut g1.wf) s1
  obtain ⟨h3, e3, g3⟩ := callQ_any g1.wf ex gx
  rw [a1.loadN (z := 7) hr7, e3, pairK_some', extK_at (v := .agg (Array.mk lk)) rfl, extK_at (v := .int .i64 (checkH s).2.2) rfl, intK_int]
  have g13 := g1.trans g3
  obtain ⟨h8, p, g8, a8, k8⟩ := alloc_store (ρ := Value × Hp) (z := 7) g13.wf 97 (c := zero97) (l := lk) rfl lx ox (fun _ _ => none)
  have g18 := g13.trans g8
  rw [show [(Value.int .i64 (Int.ofNat 0)), (Value.int .i64 (Int.ofNat 0)), (Value.int .i64 (Int.ofNat 0)), (Value.slice none 0 0), (Value.slice none 0 0), (Value.slice none 0 0), (Value.slice none 0 0)] = zero97 from rfl, k8, boolN_eq, eqZ_dec, ifB_if]
  unfold needsS
  by_cases e0 : (checkH s).2.2 = 0
  case neg => rw [if_pos (by simpa using e0), if_pos e0]; exact ⟨_, rfl⟩
  have hlk := kx e0
  subst hlk
  have ok := check_ok e0
  have lf := ok.figs
  have s8 := a.sub g18.sub
  have s8' := s8
  obtain ⟨vh, vp, vf, vb, hrow, sh, sp, sw, sf, sb⟩ := s8
  have ht : ¬((!true) = true) := by simp
  have hf : (!false) = true := rfl
  obtain ⟨q, hq, aq⟩ := a8.part 0 7 (by omega)
  rw [if_neg (by simpa using e0), if_neg (by simpa using e0), hq, aq.fld 5 (x := vf) (by rw [hrow]; rfl), sf.rows.len, List.length_map, one24, pairK_some', index59_at h8 (by omega), optK_some', pairK_some', boolK_bool, boolN_eq, ifB_if]
  have gp := Grew.add g18.wf (.cells [.int .i64 fig] 3 none)
  have a18 := a8.sub gp.sub
  have aq18 := aq.sub gp.sub
  have s18 := s8'.sub gp.sub
  generalize h8.add (.cells [.int .i64 fig] 3 none) = h18 at gp a18 aq18 s18 ⊢
  cases c1 : inB 0 ((s.figs.length : Int) - 1) fig with
  | false => rw [if_pos hf, if_pos hf]; exact ⟨_, rfl⟩
  | true =>
  have hfi := inB_iff.1 c1
  obtain ⟨f, rfl⟩ : ∃ f : Nat, fig = (f : Int) := ⟨fig.toNat, by omega⟩
  have hf2 : f < s.figs.length := by omega
  obtain ⟨st0, st3⟩ := ok.stoves
  obtain ⟨n, hn⟩ : ∃ n : Nat, s.stoves = (n : Int) := ⟨s.stoves.toNat, by omega⟩
  have hn3 : n ≤ 3 := by omega
  obtain ⟨p1, p2⟩ := pow3n n hn3
  obtain ⟨hz, ez⟩ := needs25_loop ok hf2 (p := p) (t := 2 ^ n) p1 hr7 (2 ^ n) 0 (999999 - 3 * 2 ^ n - 2) (0, false) h18 gp.wf s18 a18 (by omega) (by decide)
  rw [show 3 * 2 ^ n + 2 + (999999 - 3 * 2 ^ n - 2) = 999999 by omega] at ez
  rw [if_neg ht, if_neg ht, hq, aq18.fld 2 (x := .int .i64 (n : Int)) (by rw [hrow, hn]; rfl), intK_int, pow_at _ n (by omega), Int.toNat_natCast, List.getElem?_eq_getElem hf2, show s.stoves.toNat = n by omega, ← p2, show (Int.ofNat 0) = ((0 : Nat) : Int) from rfl, ez]
  exact ⟨_, rfl⟩
end Go.Proofs.Ytekocllllbdbgaa.K.L
