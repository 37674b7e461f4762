/- The law RoomFate, told, answers true. -/
import Derived.Test.YtekocllllbdbgaaFtQ17
open Go Go.Eng
set_option maxRecDepth 100000
set_option linter.unusedVariables false
namespace Go.Proofs.Ytekocllllbdbgaa.K.L
theorem fm19 (h : Hp) : FM19 [] h = some (.bool true) := rfl
theorem awake8 (h : Hp) : (pairK (optK (FM19 [] h) fun v => some (v, h)) fun v0 h0 => boolK v0 fun b1 => some ((Value.bool b1), h0)) = some (.bool true, h) := by
  rw [fm19, optK_some', pairK_some', boolK_bool]
theorem fateS_cases (x : Int × Int) (g : Fi) : fateS x g = 0 ∨ fateS x g = 1 ∨ fateS x g = 2 := by
  unfold fateS
  split
  · exact .inr (.inl rfl)
  split
  · exact .inr (.inr rfl)
  · exact .inl rfl
theorem fateS_safe {x y : Int × Int} {g : Fi} (h1 : x.1 ≤ y.1) (h2 : y.1 ≤ y.2) (h3 : y.2 ≤ x.2) (e : fateS x g = 1) : fateS y g = 1 := by
  unfold fateS at e ⊢
  split at e
  · rw [if_pos (by omega)]
  split at e <;> omega
theorem fateS_lost {x y : Int × Int} {g : Fi} (h1 : x.1 ≤ y.1) (h2 : y.1 ≤ y.2) (h3 : y.2 ≤ x.2) (e : fateS x g = 2) : fateS y g = 2 := by
  unfold fateS at e ⊢
  split at e
  · omega
  split at e
  · rw [if_neg (by omega), if_pos (by omega)]
  · omega
theorem fateS_at {x : Int × Int} {g : Fi} {d : Int} (h1 : x.1 ≤ d) (h2 : d ≤ x.2) : (fateS x g = 1 → g.cr ≤ d ∧ d ≤ g.sl) ∧ (fateS x g = 2 → ¬(g.cr ≤ d ∧ d ≤ g.sl)) := by
  unfold fateS
  split
  · exact ⟨fun _ => by omega, fun e => by omega⟩
  split
  · exact ⟨fun e => by omega, fun _ => by omega⟩
  · exact ⟨fun e => by omega, fun e => by omega⟩
theorem two8_loop {h : Hp} {p q : Value} (k lit i : Int) {i' : Nat} (hi : i = (i' : Int)) (h3 : i' ≤ 3) (z : Nat) : ∀ m t, t + m = i' →
    rec' T8 (m + 1 + z) 5 (AL.v p (AL.i k (AL.i lit (AL.v q (AL.i i (AL.i (2 ^ t : Int) (AL.i (t : Int) AL.n))))))) h = rec' T8 z 6 (AL.v p (AL.i k (AL.i lit (AL.v q (AL.i i (AL.i (2 ^ i' : Int) AL.n)))))) h
  | 0, t, him => by
    have st' : rec' T8 (0 + 1 + z) 5 (AL.v p (AL.i k (AL.i lit (AL.v q (AL.i i (AL.i (2 ^ t : Int) (AL.i (t : Int) AL.n))))))) h = P8x5 (rec' T8 z) p k lit q i (2 ^ t : Int) (t : Int) h := by rw [show 0 + 1 + z = z + 1 by omega]; rfl
    rw [st']
    unfold P8x5
    rw [boolZ_eq, ltZ_dec, ifB_if, if_neg (by simp; omega), show t = i' by omega]
  | m + 1, t, him => by
    have st' : rec' T8 (m + 1 + 1 + z) 5 (AL.v p (AL.i k (AL.i lit (AL.v q (AL.i i (AL.i (2 ^ t : Int) (AL.i (t : Int) AL.n))))))) h = P8x5 (rec' T8 (m + 1 + z)) p k lit q i (2 ^ t : Int) (t : Int) h := by rw [show m + 1 + 1 + z = (m + 1 + z) + 1 by omega]; rfl
    rw [st']
    unfold P8x5
    rw [boolZ_eq, ltZ_dec, ifB_if, if_pos (by simp; omega), show Int.mul (Int.ofNat 2) (2 ^ t) = 2 ^ (t + 1) from by rw [Int.pow_succ, Int.mul_comm]; rfl, wrap64_in _ (by have := pow_le (t + 1) (by omega); omega) (by have := pow_le (t + 1) (by omega); omega), show Int.add (t : Int) (Int.ofNat 1) = ((t + 1 : Nat) : Int) from rfl, wrap64_in _ (by omega) (by omega)]
    exact two8_loop k lit i hi h3 z m (t + 1) (by omega)
theorem all8_loop {h : Hp} {p u v : Value} {we : Sp} {st : Nat} {vh vp vf vb : Value} (ap : At h p (hoRow we (st : Int) vh vp vf vb)) (hst : st ≤ 3) (z : Nat) : ∀ m i, i + m = st →
    rec' T8 (m + 1 + z) 2 (AL.v p (AL.v u (AL.v v (AL.i (2 ^ i : Int) (AL.i (i : Int) AL.n))))) h = rec' T8 z 11 (AL.v p (AL.v u (AL.v v (AL.i (2 ^ st : Int) AL.n)))) h
  | 0, i, him => by
    have st' : rec' T8 (0 + 1 + z) 2 (AL.v p (AL.v u (AL.v v (AL.i (2 ^ i : Int) (AL.i (i : Int) AL.n))))) h = P8x2 (rec' T8 z) p u v (2 ^ i : Int) (i : Int) h := by rw [show 0 + 1 + z = z + 1 by omega]; rfl
    rw [st']
    unfold P8x2
    rw [ap.fld 2 (x := .int .i64 (st : Int)) rfl, intK_int, boolZ_eq, ltZ_dec, ifB_if, if_neg (by simp; omega), show i = st by omega]
  | m + 1, i, him => by
    have st' : rec' T8 (m + 1 + 1 + z) 2 (AL.v p (AL.v u (AL.v v (AL.i (2 ^ i : Int) (AL.i (i : Int) AL.n))))) h = P8x2 (rec' T8 (m + 1 + z)) p u v (2 ^ i : Int) (i : Int) h := by rw [show m + 1 + 1 + z = (m + 1 + z) + 1 by omega]; rfl
    rw [st']
    unfold P8x2
    rw [ap.fld 2 (x := .int .i64 (st : Int)) rfl, intK_int, boolZ_eq, ltZ_dec, ifB_if, if_pos (by simp; omega), show Int.mul (Int.ofNat 2) (2 ^ i) = 2 ^ (i + 1) from by rw [Int.pow_succ, Int.mul_comm]; rfl, wrap64_in _ (by have := pow_le (i + 1) (by omega); omega) (by have := pow_le (i + 1) (by omega); omega), show Int.add (i : Int) (Int.ofNat 1) = ((i + 1 : Nat) : Int) from rfl, wrap64_in _ (by omega) (by omega)]
    exact all8_loop ap hst z m (i + 1) (by omega)
theorem warmth_in {s : Ho} (e0 : (checkH s).2.2 = 0) {k : Nat} (hk : k < s.pls.length) {n : Nat} (hn : s.stoves = (n : Int)) {l : Nat} (hl : l < 2 ^ n) : warmthS s (k : Int) (l : Int) = (warmF l 0 (s.pls[k]).ws (s.we.lo, s.we.hi), 0) := by
  have ok := check_ok e0
  have p2 := (pow3n n (by have := ok.stoves; omega)).2
  unfold warmthS
  rw [if_neg (by simpa using e0), inB_iff.2 (show 0 ≤ (k : Int) ∧ (k : Int) ≤ (s.pls.length : Int) - 1 by omega), if_neg (by simp), show s.stoves.toNat = n by omega, inB_iff.2 (show 0 ≤ (l : Int) ∧ (l : Int) ≤ (2 : Int) ^ n - 1 by omega), if_neg (by simp), Int.toNat_natCast, Int.toNat_natCast, List.getElem?_eq_getElem hk]
theorem fate_in {s : Ho} (e0 : (checkH s).2.2 = 0) {f k : Nat} (hf : f < s.figs.length) (hk : k < s.pls.length) {n : Nat} (hn : s.stoves = (n : Int)) {l : Nat} (hl : l < 2 ^ n) : fateAll s (f : Int) (k : Int) (l : Int) = (fateS (warmF l 0 (s.pls[k]).ws (s.we.lo, s.we.hi)) s.figs[f], 0) := by
  have ok := check_ok e0
  have p2 := (pow3n n (by have := ok.stoves; omega)).2
  unfold fateAll
  rw [if_neg (by simpa using e0), inB_iff.2 (show 0 ≤ (f : Int) ∧ (f : Int) ≤ (s.figs.length : Int) - 1 by omega), if_neg (by simp), inB_iff.2 (show 0 ≤ (k : Int) ∧ (k : Int) ≤ (s.pls.length : Int) - 1 by omega), if_neg (by simp), show s.stoves.toNat = n by omega, inB_iff.2 (show 0 ≤ (l : Int) ∧ (l : Int) ≤ (2 : Int) ^ n - 1 by omega), if_neg (by simp), Int.toNat_natCast, Int.toNat_natCast, Int.toNat_natCast, List.getElem?_eq_getElem hk, List.getElem?_eq_getElem hf]
theorem more8_loop {s : Ho} (e0 : (checkH s).2.2 = 0) {r : List Value} {n : Nat} (hn : s.stoves = (n : Int)) {k : Nat} (hk : k < s.pls.length) {l : Nat} (hl : l < 2 ^ n) {p q : Value} : ∀ m i y (h : Hp), Wf h → HoA h s r → At h p r → At h q [.int .i64 (warmF l 0 (s.pls[k]).ws (s.we.lo, s.we.hi)).1, .int .i64 (warmF l 0 (s.pls[k]).ws (s.we.lo, s.we.hi)).2] → i + m = n → 20 * m + 10 ≤ y →
    ∃ h', rec' T8 y 4 (AL.v p (AL.i (k : Int) (AL.i (l : Int) (AL.v q (AL.i (i : Int) AL.n))))) h = some (.bool true, h') := by
  have ok := check_ok e0
  obtain ⟨t0, t3⟩ := ok.stoves
  obtain ⟨o1, o2, _⟩ := ok.pl k hk
  obtain ⟨p1, p2⟩ := pow3n n (by omega)
  intro m
  induction m with
  | zero =>
    intro i y h w a ap aw him hy
    obtain ⟨z, rfl⟩ : ∃ z, y = z + 2 := ⟨y - 2, by omega⟩
    have st4 : rec' T8 (z + 2) 4 (AL.v p (AL.i (k : Int) (AL.i (l : Int) (AL.v q (AL.i (i : Int) AL.n))))) h = P8x4 (rec' T8 (z + 1)) p (k : Int) (l : Int) q (i : Int) h := rfl
    have st8 : rec' T8 (z + 1) 8 AL.n h = P8x8 (rec' T8 z) h := rfl
    obtain ⟨vh, vp, vf, vb, hrow, sh, sp, sw, sf, sb⟩ := a
    rw [st4]
    unfold P8x4
    rw [ap.fld 2 (x := .int .i64 (n : Int)) (by rw [hrow, hn]; rfl), intK_int, boolZ_eq, ltZ_dec, ifB_if, if_neg (by simp; omega), st8]
    unfold P8x8
    rw [awake8]
    exact ⟨_, rfl⟩
  | succ m ih =>
    intro i y h w a ap aw him hy
    have hr7 := a.len
    obtain ⟨z, rfl⟩ : ∃ z, y = (i + 1 + (z + 2)) + 1 := ⟨y - i - 4, by omega⟩
    have st4 : rec' T8 ((i + 1 + (z + 2)) + 1) 4 (AL.v p (AL.i (k : Int) (AL.i (l : Int) (AL.v q (AL.i (i : Int) AL.n))))) h = P8x4 (rec' T8 (i + 1 + (z + 2))) p (k : Int) (l : Int) q (i : Int) h := rfl
    have next : ∀ (y' : Nat) (h' : Hp), Grew h h' → 20 * m + 11 ≤ y' → ∃ h'', rec' T8 y' 7 (AL.v p (AL.i (k : Int) (AL.i (l : Int) (AL.v q (AL.i (i : Int) AL.n))))) h' = some (.bool true, h'') := by
      intro y' h' g hy'
      obtain ⟨z', rfl⟩ : ∃ z', y' = z' + 1 := ⟨y' - 1, by omega⟩
      have st7 : rec' T8 (z' + 1) 7 (AL.v p (AL.i (k : Int) (AL.i (l : Int) (AL.v q (AL.i (i : Int) AL.n))))) h' = P8x7 (rec' T8 z') p (k : Int) (l : Int) q (i : Int) h' := rfl
      rw [st7]
      unfold P8x7
      rw [show Int.add (i : Int) (Int.ofNat 1) = ((i + 1 : Nat) : Int) from rfl, wrap64_in _ (by omega) (by omega)]
      exact ih (i + 1) z' h' g.wf (a.sub g.sub) (ap.sub g.sub) (aw.sub g.sub) (by omega) (by omega)
    have a' := a
    obtain ⟨vh, vp, vf, vb, hrow, sh, sp, sw, sf, sb⟩ := a
    rw [st4]
    unfold P8x4
    rw [ap.fld 2 (x := .int .i64 (n : Int)) (by rw [hrow, hn]; rfl), intK_int, boolZ_eq, ltZ_dec, ifB_if, if_pos (by simp; omega), bit40_at h l i (by omega) (by omega), optK_some', pairK_some', boolK_bool, ifB_if]
    cases hb : bitB l i with
    | true => rw [if_pos rfl]; exact next _ h (Grew.refl w) (by omega)
    | false =>
      obtain ⟨b1, b2⟩ := bit_more n (by omega) l hl i (by omega) hb
      obtain ⟨p3, p4⟩ := pow_le i (by omega)
      have pc := (pow3n i (by omega)).2
      rw [if_neg (by simp)]
      have e5 := two8_loop (h := h) (p := p) (q := q) (k : Int) (l : Int) (i : Int) (i' := i) rfl (by omega) (z + 2) i 0 (by omega)
      rw [show rec' T8 (i + 1 + (z + 2)) 5 (AL.v p (AL.i (k : Int) (AL.i (l : Int) (AL.v q (AL.i (i : Int) (AL.i (Int.ofNat 1) (AL.i (Int.ofNat 0) AL.n))))))) h = _ from e5]
      have st6 : rec' T8 (z + 2) 6 (AL.v p (AL.i (k : Int) (AL.i (l : Int) (AL.v q (AL.i (i : Int) (AL.i (2 ^ i : Int) AL.n)))))) h = P8x6 (rec' T8 (z + 1)) p (k : Int) (l : Int) q (i : Int) (2 ^ i : Int) h := rfl
      rw [st6]
      unfold P8x6
      obtain ⟨h2, e2⟩ := warmth15_at (h := shutH h) (wfShut w) a' (k : Int) ((l + 2 ^ i : Nat) : Int)
      rw [warmth_in e0 hk hn b1] at e2
      have mono := warmF_mono (a := l) (b := l + 2 ^ i) (s.pls[k]).ws 0 (s.we.lo, s.we.hi) (s.we.lo, s.we.hi) o2 (fun j hj => by
        by_cases h3 : j < 3
        · exact b2 j h3 hj
        · rw [bit_high l (by omega) j (by omega)] at hj; cases hj) (Int.le_refl _) (Int.le_refl _)
      generalize warmF (l + 2 ^ i) 0 (s.pls[k]).ws (s.we.lo, s.we.hi) = V at e2 mono
      rw [ap.loadN (z := 7) hr7, show Int.add (l : Int) (2 ^ i) = ((l + 2 ^ i : Nat) : Int) from by rw [Int.natCast_add, pc]; rfl, wrap64_in _ (by omega) (by omega), callQ_plain1 e2 rfl, pairK_some']
      unfold spE
      rw [extK_at (v := spV V) rfl, extK_at (v := .int .i64 0) rfl, intK_int]
      obtain ⟨h7, q7, g7, a7, k7⟩ := alloc_store (ρ := Value × Hp) (z := 2) w 23 (c := [(Value.int .i64 (Int.ofNat 0)), (Value.int .i64 (Int.ofNat 0))]) (l := [.int .i64 V.1, .int .i64 V.2]) rfl rfl rfl (fun _ _ => none)
      show ∃ h', (allocK h 23 [(Value.int .i64 (Int.ofNat 0)), (Value.int .i64 (Int.ofNat 0))] fun a6 h6 => storeNK 2 h6 a6 (.agg (Array.mk [.int .i64 V.1, .int .i64 V.2])) fun h7 => _) = _
      have aw7 := aw.sub g7.sub
      rw [k7, boolN_eq, eqZ_dec, ifB_if, if_neg (by decide), a7.fld 0 (x := .int .i64 V.1) rfl, intK_int, aw7.fld 0 (x := .int .i64 (warmF l 0 (s.pls[k]).ws (s.we.lo, s.we.hi)).1) rfl, intK_int, boolZ_eq, ltZ_dec, ifB_if, if_neg (by simp; omega), a7.fld 1 (x := .int .i64 V.2) rfl, intK_int, aw7.fld 1 (x := .int .i64 (warmF l 0 (s.pls[k]).ws (s.we.lo, s.we.hi)).2) rfl, intK_int, boolZ_eq, ltZ_dec, ifB_if, if_neg (by simp; omega)]
      exact next _ h7 g7 (by omega)
theorem build67 (a b : Int) : buildV env 67 (List.toArray [(0, .int .u8 a), (1, .int .u8 b)]) = some (.agg (Array.mk [.int .u8 a, .int .u8 b])) := by kernel_rfl
theorem fate8_three {h49 : Hp} (wZ : Wf h49) {s : Ho} {r : List Value} (sZ : HoA h49 s r) (e0 : (checkH s).2.2 = 0) {n : Nat} (hn : s.stoves = (n : Int)) {f k l : Nat} (hf2 : f < s.figs.length) (hk2 : k < s.pls.length) (hl3 : l < 2 ^ n) {p v q40 : Value} (aZ : At h49 p r) {y0 y1 y2 : Int} (cZ : At h49 v [.int .u8 y0, .int .u8 y1, .int .u8 y2]) (by2 : 0 ≤ y2 ∧ y2 ≤ 255) {W1 W2 : Int} (hW : (W1, W2) = warmF l 0 (s.pls[k]).ws (s.we.lo, s.we.hi)) (qZ : At h49 q40 [.int .i64 W1, .int .i64 W2]) (z' : Nat) (hz' : 500 ≤ z') :
    ∃ h', rec' T8 (z' + 4) 3 (AL.v p (AL.v v (AL.i (f : Int) (AL.i (k : Int) (AL.i (l : Int) (AL.i (fateS (W1, W2) s.figs[f]) (AL.v q40 (AL.b false AL.n)))))))) h49 = some (.bool true, h') := by
  have ok := check_ok e0
  obtain ⟨st0, st3⟩ := ok.stoves
  obtain ⟨o1, o2, _⟩ := ok.pl k hk2
  obtain ⟨we1, we2, we3⟩ := ok.we
  have bd := warmF_bd (lit := l) (s.pls[k]).ws 0 (s.we.lo, s.we.hi) o2 we2
  rw [← hW] at bd
  simp only at bd
  have lw : (s.pls[k]).ws.length ≤ 3 := by omega
  have dIn := pickI_in (n := y2) (show W1 ≤ W2 by omega)
  have fAt := fateS_at (x := (W1, W2)) (g := s.figs[f]) (d := pickI W1 W2 y2) dIn.1 dIn.2
  have st3' : ∀ b : Bool, rec' T8 (z' + 4) 3 (AL.v p (AL.v v (AL.i (f : Int) (AL.i (k : Int) (AL.i (l : Int) (AL.i (fateS (W1, W2) s.figs[f]) (AL.v q40 (AL.b b AL.n)))))))) h49 = P8x3 (rec' T8 (z' + 3)) p v (f : Int) (k : Int) (l : Int) (fateS (W1, W2) s.figs[f]) q40 b h49 := fun b => rfl
  have st10 : rec' T8 (z' + 3) 10 (AL.v p (AL.v v (AL.i (f : Int) (AL.i (k : Int) (AL.i (l : Int) (AL.i (fateS (W1, W2) s.figs[f]) (AL.v q40 AL.n))))))) h49 = P8x10 (rec' T8 (z' + 2)) p v (f : Int) (k : Int) (l : Int) (fateS (W1, W2) s.figs[f]) q40 h49 := rfl
  have st9 : ∀ b : Bool, rec' T8 (z' + 2) 9 (AL.v p (AL.i (k : Int) (AL.i (l : Int) (AL.i (fateS (W1, W2) s.figs[f]) (AL.v q40 (AL.b b AL.n)))))) h49 = P8x9 (rec' T8 (z' + 1)) p (k : Int) (l : Int) (fateS (W1, W2) s.figs[f]) q40 b h49 := fun b => rfl
  obtain ⟨hE, four⟩ := more8_loop e0 hn hk2 hl3 (p := p) (q := q40) n 0 (z' + 1) h49 wZ sZ aZ (by rw [← hW]; exact qZ) (by omega) (by omega)
  have nine : ∀ b : Bool, (fateS (W1, W2) s.figs[f] = 1 → b = true) → (fateS (W1, W2) s.figs[f] = 2 → b = false) → ∃ h', P8x9 (rec' T8 (z' + 1)) p (k : Int) (l : Int) (fateS (W1, W2) s.figs[f]) q40 b h49 = some (.bool true, h') := by
    intro b hb1 hb2
    unfold P8x9
    rw [show (Int.ofNat 0) = ((0 : Nat) : Int) from rfl, boolZ_eq, eqZ_dec, ifB_if]
    by_cases n1 : fateS (W1, W2) s.figs[f] = 1
    · rw [hb1 n1, if_pos (by simpa using n1), boolN_eq, ifB_if, if_neg (by simp), boolZ_eq, eqZ_dec, ifB_if, if_neg (by rw [n1]; decide)]
      exact ⟨hE, four⟩
    rw [if_neg (by simpa using n1), boolZ_eq, eqZ_dec, ifB_if]
    by_cases n2 : fateS (W1, W2) s.figs[f] = 2
    · rw [hb2 n2, if_pos (by simpa using n2), ifB_if, if_neg (by simp)]
      exact ⟨hE, four⟩
    · rw [if_neg (by simpa using n2)]
      exact ⟨hE, four⟩
  rw [st3']
  unfold P8x3
  rw [ifB_if, if_neg (by simp), st10]
  unfold P8x10
  obtain ⟨_, _, ⟨d2, dk2, dl2⟩⟩ := idx3 cZ
  have dl2' : ∀ (ρ : Type) (kk : Value → Option ρ), load1K h49 (.pointer (some d2)) kk = kk (.int .u8 y2) := fun ρ kk => dl2 ρ kk h49.next h49.ro
  obtain ⟨vh2, vp2, vf2, vb2, hrow2, sh2, sp2, sw2, sf2, sb2⟩ := sZ
  have hg : (s.figs.map Fi.row)[f]? = some (s.figs[f]).row := by rw [List.getElem?_map, List.getElem?_eq_getElem hf2]; rfl
  obtain ⟨qf, hqf, aqf, hlf⟩ := sf2.rows.at hg
  rw [qZ.loadN (z := 2) rfl, dk2, dl2', intK_int, wrap64_in _ (by omega) (by omega)]
  show ∃ h', (pairK (optK (F39 [spV (W1, W2), .int .i64 y2] h49) fun v => some (v, h49)) fun v5 h5 => _) = _
  rw [pick39_at h49 (by omega) (by omega) (by omega) by2, optK_some', pairK_some', intK_int, aZ.fld 5 (x := vf2) (by rw [hrow2]; rfl), hqf, aqf.fld 3 (x := .int .i64 (s.figs[f]).cr) rfl, intK_int, boolN_eq, ltZ_dec, ifB_if]
  by_cases c1 : (s.figs[f]).cr ≤ pickI W1 W2 y2
  · rw [if_pos (by simp; omega), aZ.fld 5 (x := vf2) (by rw [hrow2]; rfl), hqf, aqf.fld 4 (x := .int .i64 (s.figs[f]).sl) rfl, intK_int, boolN_eq, ltZ_dec, st9]
    exact nine _ (fun e => by have := fAt.1 e; simp; omega) (fun e => by have := fAt.2 e; simp; omega)
  · rw [if_neg (by simp; omega), st9]
    exact nine _ (fun e => by have := fAt.1 e; omega) (fun e => rfl)
theorem fate8_mid {h1 : Hp} (w1 : Wf h1) {s : Ho} {r : List Value} (s1' : HoA h1 s r) (hr7 : r.length = 7) (e0 : (checkH s).2.2 = 0) {n : Nat} (hn : s.stoves = (n : Int)) (hl : ¬ s.figs.length = 0) (hl2 : ¬ s.pls.length = 0) {p u v : Value} (a1 : At h1 p r) {x0 x1 x2 y0 y1 y2 : Int} (u1 : At h1 u [.int .u8 x0, .int .u8 x1, .int .u8 x2]) (cC : At h1 v [.int .u8 y0, .int .u8 y1, .int .u8 y2]) (bx0 : 0 ≤ x0 ∧ x0 ≤ 255) (bx1 : 0 ≤ x1 ∧ x1 ≤ 255) (bx2 : 0 ≤ x2 ∧ x2 ≤ 255) (by0 : 0 ≤ y0 ∧ y0 ≤ 255) (by1 : 0 ≤ y1 ∧ y1 ≤ 255) (by2 : 0 ≤ y2 ∧ y2 ≤ 255) (z : Nat) (hz : 1000 ≤ z) :
    ∃ h', P8x11 (rec' T8 z) p u v (2 ^ n : Int) h1 = some (.bool true, h') := by
  have ok := check_ok e0
  obtain ⟨st0, st3⟩ := ok.stoves
  have hn3 : n ≤ 3 := by omega
  obtain ⟨p1, p2⟩ := pow3n n hn3
  obtain ⟨p3, p4⟩ := pow_le n (by omega)
  have lf := ok.figs
  have lp := ok.pls
  obtain ⟨vh, vp, vf, vb, hrow, sh, sp, sw, sf, sb⟩ := s1'
  have s1' : HoA h1 s r := ⟨vh, vp, vf, vb, hrow, sh, sp, sw, sf, sb⟩
  unfold P8x11
  obtain ⟨f, hf⟩ : ∃ f : Nat, x0 % (s.figs.length : Int) = (f : Int) := ⟨(x0 % (s.figs.length : Int)).toNat, by have : 0 ≤ x0 % (s.figs.length : Int) := Int.emod_nonneg _ (by omega); omega⟩
  obtain ⟨k, hk⟩ : ∃ k : Nat, x1 % (s.pls.length : Int) = (k : Int) := ⟨(x1 % (s.pls.length : Int)).toNat, by have : 0 ≤ x1 % (s.pls.length : Int) := Int.emod_nonneg _ (by omega); omega⟩
  obtain ⟨l, hlt⟩ : ∃ l : Nat, x2 % (2 ^ n : Int) = (l : Int) := ⟨(x2 % (2 ^ n : Int)).toNat, by have : 0 ≤ x2 % (2 ^ n : Int) := Int.emod_nonneg _ (by omega); omega⟩
  have hf2 : f < s.figs.length := by have : x0 % (s.figs.length : Int) < s.figs.length := Int.emod_lt_of_pos _ (by omega); omega
  have hk2 : k < s.pls.length := by have : x1 % (s.pls.length : Int) < s.pls.length := Int.emod_lt_of_pos _ (by omega); omega
  have hl3 : l < 2 ^ n := by have : x2 % (2 ^ n : Int) < 2 ^ n := Int.emod_lt_of_pos _ (by omega); omega
  obtain ⟨⟨q0, k0, l0⟩, ⟨q1, k1, l1⟩, ⟨q2, k2, l2⟩⟩ := idx3 u1
  obtain ⟨q5, hq5, aq5⟩ := a1.part 5 1 (by omega)
  have lq5 : ∀ (n m : Nat) (kk : Value → CRes), load1K (Hp.mk n m h1.objs) q5 kk = kk vf := fun n m kk => At.load1 (h := Hp.mk n m h1.objs) (x := vf) aq5 (by rw [hrow]; rfl) kk
  obtain ⟨q4, hq4, aq4⟩ := a1.part 4 1 (by omega)
  have lq4 : ∀ (n m : Nat) (kk : Value → CRes), load1K (Hp.mk n m h1.objs) q4 kk = kk vp := fun n m kk => At.load1 (h := Hp.mk n m h1.objs) (x := vp) aq4 (by rw [hrow]; rfl) kk
  rw [k0, leftK_same]
  show ∃ h', (load1K (Hp.mk h1.next h1.next h1.objs) (.pointer (some q0)) fun v2 => _) = _
  rw [l0, intK_int, wrap64_in _ (by omega) (by omega), hq5, leftK_same]
  show ∃ h', (load1K (Hp.mk h1.next h1.next h1.objs) q5 fun v7 => _) = _
  rw [lq5]
  show ∃ h', (leftK vf h1.next (Hp.mk h1.next h1.next h1.objs) fun w8 n8 => _) = _
  rw [leftK_same, sf.rows.len, List.length_map, rem_at bx0.1 (by omega), slowI_some', hf, k1, leftK_same]
  show ∃ h', (load1K (Hp.mk h1.next h1.next h1.objs) (.pointer (some q1)) fun v13 => _) = _
  rw [l1, intK_int, wrap64_in _ (by omega) (by omega), hq4, leftK_same]
  show ∃ h', (load1K (Hp.mk h1.next h1.next h1.objs) q4 fun v18 => _) = _
  rw [lq4]
  show ∃ h', (leftK vp h1.next (Hp.mk h1.next h1.next h1.objs) fun w8 n8 => _) = _
  rw [leftK_same, sp.rows.len, List.length_map, rem_at bx1.1 (by omega), slowI_some', hk, k2, leftK_same]
  show ∃ h', (load1K (Hp.mk h1.next h1.next h1.objs) (.pointer (some q2)) fun v24 => _) = _
  rw [l2, intK_int, wrap64_in _ (by omega) (by omega), rem_at bx2.1 (by omega), slowI_some', hlt]
  show ∃ h', (loadNK 7 h1 p fun v28 => pairK (callQ F17 [v28, .int .i64 (f : Int), .int .i64 (k : Int), .int .i64 (l : Int)] h1) fun v29 h29 => _) = _
  obtain ⟨h3, e3⟩ := fate17_at (h := shutH h1) (wfShut w1) s1' (f : Int) (k : Int) (l : Int)
  rw [fate_in e0 hf2 hk2 hn hl3] at e3
  obtain ⟨h4, e4⟩ := warmth15_at (h := shutH h1) (wfShut w1) s1' (k : Int) (l : Int)
  rw [warmth_in e0 hk2 hn hl3] at e4
  obtain ⟨o1, o2, _⟩ := ok.pl k hk2
  obtain ⟨we1, we2, we3⟩ := ok.we
  have bd := warmF_bd (lit := l) (s.pls[k]).ws 0 (s.we.lo, s.we.hi) o2 we2
  obtain ⟨W, hW⟩ : ∃ W, W = warmF l 0 (s.pls[k]).ws (s.we.lo, s.we.hi) := ⟨_, rfl⟩
  rw [← hW] at e3 e4 bd
  simp only at bd
  rw [a1.loadN (z := 7) hr7, callQ_plain1 e3 rfl, pairK_some']
  unfold pairV
  rw [extK_at (v := .int .i64 (fateS W s.figs[f])) rfl, intK_int, extK_at (v := .int .i64 0) rfl, intK_int, a1.loadN (z := 7) hr7, callQ_plain1 e4 rfl, pairK_some']
  unfold spE
  rw [extK_at (v := spV W) rfl, extK_at (v := .int .i64 0) rfl, intK_int]
  obtain ⟨h40, q40, g40, a40, k40⟩ := alloc_store (ρ := Value × Hp) (z := 2) w1 23 (c := [(Value.int .i64 (Int.ofNat 0)), (Value.int .i64 (Int.ofNat 0))]) (l := [.int .i64 W.1, .int .i64 W.2]) rfl rfl rfl (fun _ _ => none)
  show ∃ h', (allocK h1 23 [(Value.int .i64 (Int.ofNat 0)), (Value.int .i64 (Int.ofNat 0))] fun a6 h6 => storeNK 2 h6 a6 (.agg (Array.mk [.int .i64 W.1, .int .i64 W.2])) fun h7 => _) = _
  have aB := a1.sub g40.sub
  have cB := cC.sub g40.sub
  have sB := s1'.sub g40.sub
  obtain ⟨⟨c0, ck0, cl0⟩, ⟨c1, ck1, cl1⟩, ⟨c2, ck2, cl2⟩⟩ := idx3 cB
  have cl0' : ∀ (ρ : Type) (kk : Value → Option ρ), load1K h40 (.pointer (some c0)) kk = kk (.int .u8 y0) := fun ρ kk => cl0 ρ kk h40.next h40.ro
  have cl1' : ∀ (ρ : Type) (kk : Value → Option ρ), load1K h40 (.pointer (some c1)) kk = kk (.int .u8 y1) := fun ρ kk => cl1 ρ kk h40.next h40.ro
  rw [k40, aB.loadN (z := 7) hr7, ck0, cl0', intK_int, ck1, cl1', intK_int, build67, optK_some']
  obtain ⟨hx, r', ex, gx, sx⟩ := better38_at (h := shutH h40) (wfShut g40.wf) sB ok by0 by1
  obtain ⟨h49, e49, g49⟩ := callQ_any g40.wf ex gx
  have s49 := sx h49 (sB.sub g49.sub)
  have b1 := pickI_in (n := y0) we2
  have b2 := pickI_in (n := y1) b1.2
  obtain ⟨h50, e50⟩ := fate17_at (h := shutH h49) (wfShut g49.wf) s49 (f : Int) (k : Int) (l : Int)
  have eF : fateAll (bet s y0 y1) (f : Int) (k : Int) (l : Int) = (fateS (warmF l 0 (s.pls[k]).ws (pickI s.we.lo s.we.hi y0, pickI (pickI s.we.lo s.we.hi y0) s.we.hi y1)) s.figs[f], 0) := fate_in (s := bet s y0 y1) (bet_ok e0 y0 y1) hf2 hk2 hn hl3
  rw [eF] at e50
  have bd2 := warmF_bd (lit := l) (s.pls[k]).ws 0 (pickI s.we.lo s.we.hi y0, pickI (pickI s.we.lo s.we.hi y0) s.we.hi y1) o2 b2.1
  have sft := warmF_shift (lit := l) (pickI s.we.lo s.we.hi y0 - s.we.lo) (pickI (pickI s.we.lo s.we.hi y0) s.we.hi y1 - s.we.hi) (s.pls[k]).ws 0 (s.we.lo, s.we.hi)
  rw [← hW, show (s.we.lo + (pickI s.we.lo s.we.hi y0 - s.we.lo), s.we.hi + (pickI (pickI s.we.lo s.we.hi y0) s.we.hi y1 - s.we.hi)) = (pickI s.we.lo s.we.hi y0, pickI (pickI s.we.lo s.we.hi y0) s.we.hi y1) from by rw [Prod.mk.injEq]; omega] at sft
  rw [sft] at e50 bd2
  simp only at bd2
  generalize pickI s.we.lo s.we.hi y0 = lo' at *
  generalize pickI lo' s.we.hi y1 = hi' at *
  obtain ⟨W1, W2⟩ := W
  simp only at e50 bd bd2 a40 e3
  have nn := fateS_cases (W1, W2) s.figs[f]
  have safe := fateS_safe (x := (W1, W2)) (y := (W1 + (lo' - s.we.lo), W2 + (hi' - s.we.hi))) (g := s.figs[f]) (by simp only; omega) (by simp only; omega) (by simp only; omega)
  have lost := fateS_lost (x := (W1, W2)) (y := (W1 + (lo' - s.we.lo), W2 + (hi' - s.we.hi))) (g := s.figs[f]) (by simp only; omega) (by simp only; omega) (by simp only; omega)
  generalize fateS (W1 + (lo' - s.we.lo), W2 + (hi' - s.we.hi)) s.figs[f] = m at e50 safe lost
  have aZ := aB.sub g49.sub
  have qZ := a40.sub g49.sub
  have sZ := sB.sub g49.sub
  have cZ := cB.sub g49.sub
  have wZ := g49.wf
  obtain ⟨z', rfl⟩ : ∃ z', z = z' + 4 := ⟨z - 4, by omega⟩
  have three := fate8_three wZ sZ e0 hn hf2 hk2 hl3 aZ cZ by2 hW qZ z' (by omega)
  rw [e49, pairK_some', callQ_plain1 e50 rfl, pairK_some']
  unfold pairV
  rw [extK_at (v := .int .i64 m) rfl, intK_int, extK_at (v := .int .i64 0) rfl, intK_int, boolN_eq, eqZ_dec, ifB_if, if_neg (by decide), boolN_eq, eqZ_dec, ifB_if, if_neg (by decide), boolN_eq, eqZ_dec, ifB_if, if_neg (by decide), qZ.fld 0 (x := .int .i64 W1) rfl, intK_int, qZ.fld 1 (x := .int .i64 W2) rfl, intK_int, boolZ_eq, ltZ_dec, ifB_if, if_neg (by simp; omega), boolZ_eq, ltZ_dec, ifB_if, if_neg (by simp; omega), boolZ_eq, ltZ_dec, ifB_if, if_neg (by simp; omega), boolZ_eq, eqZ_dec, ifB_if]
  by_cases n1 : fateS (W1, W2) s.figs[f] = 1
  · rw [if_pos (by simpa using n1), boolN_eq]
    try rw [eqZ_dec]
    rw [ifB_if, if_neg (by rw [safe n1]; decide), boolZ_eq]
    try rw [eqZ_dec]
    rw [ifB_if, if_neg (by rw [n1]; decide)]
    exact three
  rw [if_neg (by simpa using n1), boolZ_eq]
  try rw [eqZ_dec]
  rw [ifB_if]
  by_cases n2 : fateS (W1, W2) s.figs[f] = 2
  · rw [if_pos (by simpa using n2), boolN_eq]
    try rw [eqZ_dec]
    rw [lost n2, show (!decide ((2 : Int) = Int.ofNat 2)) = false from rfl]
    exact three
  · rw [if_neg (by simpa using n2)]
    exact three
theorem fate8_at {h : Hp} (w : Wf h) {s : Ho} {r : List Value} (a : HoA h s r) {x0 x1 x2 y0 y1 y2 : Int} (bx0 : 0 ≤ x0 ∧ x0 ≤ 255) (bx1 : 0 ≤ x1 ∧ x1 ≤ 255) (bx2 : 0 ≤ x2 ∧ x2 ≤ 255) (by0 : 0 ≤ y0 ∧ y0 ≤ 255) (by1 : 0 ≤ y1 ∧ y1 ≤ 255) (by2 : 0 ≤ y2 ∧ y2 ≤ 255) :
    ∃ h', F8 [.agg (Array.mk r), .agg (Array.mk [.int .u8 x0, .int .u8 x1, .int .u8 x2]), .agg (Array.mk [.int .u8 y0, .int .u8 y1, .int .u8 y2])] h = some (.bool true, h') := by
  have start : F8 [.agg (Array.mk r), .agg (Array.mk [.int .u8 x0, .int .u8 x1, .int .u8 x2]), .agg (Array.mk [.int .u8 y0, .int .u8 y1, .int .u8 y2])] h = P8x0 (rec' T8 999999) (.agg (Array.mk r)) (.agg (Array.mk [.int .u8 x0, .int .u8 x1, .int .u8 x2])) (.agg (Array.mk [.int .u8 y0, .int .u8 y1, .int .u8 y2])) h := rfl
  rw [start]
  clear start
  unfold P8x0
  have hr7 := a.len
  rw [rowCells, rowCells, rowCells, allocK_add, allocK_add, allocK_add]
  have gA := Grew.add w (.cells r 28 none)
  have aA : At (h.add (.cells r 28 none)) (.pointer (some ⟨h.next, 0, none⟩)) r := At.new
  generalize h.add (.cells r 28 none) = hA at gA aA ⊢
  generalize Value.pointer (some ⟨h.next, 0, none⟩) = p at aA ⊢
  have gAB := Grew.add gA.wf (.cells [.int .u8 x0, .int .u8 x1, .int .u8 x2] 65 none)
  have bB : At (hA.add (.cells [.int .u8 x0, .int .u8 x1, .int .u8 x2] 65 none)) (.pointer (some ⟨hA.next, 0, none⟩)) [.int .u8 x0, .int .u8 x1, .int .u8 x2] := At.new
  generalize hA.add (.cells [.int .u8 x0, .int .u8 x1, .int .u8 x2] 65 none) = hB at gAB bB ⊢
  generalize Value.pointer (some ⟨hA.next, 0, none⟩) = u at bB ⊢
  have gB := gA.trans gAB
  have gBC := Grew.add gB.wf (.cells [.int .u8 y0, .int .u8 y1, .int .u8 y2] 65 none)
  have cC : At (hB.add (.cells [.int .u8 y0, .int .u8 y1, .int .u8 y2] 65 none)) (.pointer (some ⟨hB.next, 0, none⟩)) [.int .u8 y0, .int .u8 y1, .int .u8 y2] := At.new
  generalize hB.add (.cells [.int .u8 y0, .int .u8 y1, .int .u8 y2] 65 none) = h1 at gBC cC ⊢
  generalize Value.pointer (some ⟨hB.next, 0, none⟩) = v at cC ⊢
  have g1 := gB.trans gBC
  have a1 := (aA.sub gAB.sub).sub gBC.sub
  have u1 := bB.sub gBC.sub
  have s1 := a.sub g1.sub
  clear gA aA gAB bB gB gBC
  have w1 := g1.wf
  obtain ⟨h2, e2⟩ := valid30_at (h := shutH h1) (wfShut w1) s1
  have st1 : ∀ b : Bool, rec' T8 999999 1 (AL.v p (AL.v u (AL.v v (AL.b b AL.n)))) h1 = P8x1 (rec' T8 999998) p u v b h1 := fun b => rfl
  have none' : (fateAll s 0 0 0).2 ≠ 0 → ∃ h', rec' T8 999999 1 (AL.v p (AL.v u (AL.v v (AL.b true AL.n)))) h1 = some (.bool true, h') := by
    intro he
    obtain ⟨h3, e3⟩ := fate17_at (h := shutH h1) (wfShut w1) s1 0 0 0
    rw [st1]
    unfold P8x1
    rw [ifB_if, if_pos rfl, a1.loadN (z := 7) hr7, show (Int.ofNat 0) = (0 : Int) from rfl, callQ_plain1 e3 rfl, pairK_some']
    unfold pairV
    rw [extK_at (v := .int .i64 (fateAll s 0 0 0).1) rfl, intK_int, extK_at (v := .int .i64 (fateAll s 0 0 0).2) rfl, intK_int, boolN_eq, eqZ_dec, ifB_if, if_pos (by simpa using he), awake8]
    exact ⟨_, rfl⟩
  have hff : (!false) = true := rfl
  have noI : ∀ m : Nat, m = 0 → inB 0 ((m : Int) - 1) 0 = false := fun m hm => by
    cases hi : inB 0 ((m : Int) - 1) 0 with
    | false => rfl
    | true => have := inB_iff.1 hi; omega
  rw [a1.loadN (z := 7) hr7, callQ_plain1 e2 rfl, pairK_some', boolK_bool, boolN_eq, ifB_if]
  by_cases e0 : (checkH s).2.2 = 0
  case neg =>
    rw [if_pos (by simpa using e0)]
    exact none' (by unfold fateAll; rw [if_pos e0]; exact e0)
  have ok := check_ok e0
  have hh : ¬((checkH s).2.2 ≠ 0) := by simpa using e0
  have lf := ok.figs
  have lp := ok.pls
  have s1' := s1
  obtain ⟨vh, vp, vf, vb, hrow, sh, sp, sw, sf, sb⟩ := s1
  rw [if_neg (by simpa using e0), a1.fld 5 (x := vf) (by rw [hrow]; rfl), sf.rows.len, List.length_map, boolZ_eq, eqZ_dec, ifB_if]
  by_cases hl : s.figs.length = 0
  · rw [if_pos (by simp [hl])]
    exact none' (by unfold fateAll; rw [if_neg hh, noI _ hl, if_pos hff]; decide)
  rw [if_neg (by simpa using hl), a1.fld 4 (x := vp) (by rw [hrow]; rfl), sp.rows.len, List.length_map, boolZ_eq, eqZ_dec]
  by_cases hl2 : s.pls.length = 0
  · rw [show decide ((s.pls.length : Int) = Int.ofNat 0) = true from by simp [hl2]]
    exact none' (by unfold fateAll; rw [if_neg hh, inB_iff.2 (show (0 : Int) ≤ 0 ∧ (0 : Int) ≤ (s.figs.length : Int) - 1 by omega), if_neg (by simp), noI _ hl2, if_pos hff]; decide)
  rw [show decide ((s.pls.length : Int) = Int.ofNat 0) = false from by simpa using hl2, st1]
  unfold P8x1
  obtain ⟨st0, st3⟩ := ok.stoves
  obtain ⟨n, hn⟩ : ∃ n : Nat, s.stoves = (n : Int) := ⟨s.stoves.toNat, by omega⟩
  have hn3 : n ≤ 3 := by omega
  have ap : At h1 p (hoRow s.we (n : Int) vh vp vf vb) := by rw [← hn, ← hrow]; exact a1
  obtain ⟨p1, p2⟩ := pow3n n hn3
  obtain ⟨p3, p4⟩ := pow_le n (by omega)
  have st12 : ∀ n : Nat, rec' T8 (n + 1) 12 (AL.v p (AL.v u (AL.v v AL.n))) h1 = P8x12 (rec' T8 n) p u v h1 := fun n => rfl
  rw [ifB_if, if_neg (by simp), show (999998 : Nat) = 999997 + 1 from rfl, st12]
  unfold P8x12
  obtain ⟨z, hz⟩ : ∃ z, 999997 = n + 1 + (z + 1) ∧ 1000 ≤ z := ⟨999997 - n - 2, by omega, by omega⟩
  have e11 := all8_loop (u := u) (v := v) ap hn3 (z + 1) n 0 (by omega)
  rw [← hz.1] at e11
  rw [show rec' T8 999997 2 (AL.v p (AL.v u (AL.v v (AL.i (Int.ofNat 1) (AL.i (Int.ofNat 0) AL.n))))) h1 = _ from e11]
  have st11 : rec' T8 (z + 1) 11 (AL.v p (AL.v u (AL.v v (AL.i (2 ^ n : Int) AL.n)))) h1 = P8x11 (rec' T8 z) p u v (2 ^ n : Int) h1 := rfl
  rw [st11]
  exact fate8_mid w1 s1' hr7 e0 hn hl hl2 a1 u1 cC bx0 bx1 bx2 by0 by1 by2 z hz.2
end Go.Proofs.Ytekocllllbdbgaa.K.L
