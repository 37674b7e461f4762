/- The law RoomNeeds, told, answers true. -/
import Derived.Test.YtekocllllbdbgaaFtN17
open Go Go.Eng
set_option maxRecDepth 100000
set_option linter.unusedVariables false
namespace Go.Proofs.Ytekocllllbdbgaa.K.L
theorem valid30_at {h : Hp} (w : Wf h) {s : Ho} {r : List Value} (a : HoA h s r) : ∃ h', F30 [.agg (Array.mk r)] h = some (.bool (decide ((checkH s).2.2 = 0)), h') := by
  have start : F30 [.agg (Array.mk r)] h = P30x0 (rec' T30 999999) (.agg (Array.mk r)) h := rfl
  rw [start]
  unfold P30x0
  rw [rowCells, allocK_add]
  have w1 : Wf (h.add (.cells r 28 none)) := w.add _
  have a1 : At (h.add (.cells r 28 none)) (.pointer (some ⟨h.next, 0, none⟩)) r := At.new
  have s1 := a.sub (Grew.add w (.cells r 28 none)).sub
  obtain ⟨h2, e2⟩ := check14_at (h := shutH (h.add (.cells r 28 none))) (wfShut w1) s1
  rw [a1.loadN (z := 7) a.len, callQ_plain1 e2 rfl, pairK_some']
  unfold trip
  rw [extK_at (v := .int .i64 (checkH s).1) rfl, intK_int, extK_at (v := .int .i64 (checkH s).2.1) rfl, intK_int, extK_at (v := .int .i64 (checkH s).2.2) rfl, intK_int, boolZ_eq, eqZ_dec]
  exact ⟨_, rfl⟩
theorem some41_loop {h : Hp} {s : Ho} {r : List Value} (a : HoA h s r) (ok : HoOk s) {lit : Nat} (hlit : lit < 8) {f : Nat} (hf : f < s.figs.length) : ∀ m i n, i + m = s.pls.length → m + 2 ≤ n →
    G.rec' (T41 h) n 1 (PAL.i (f : Int) (PAL.i (lit : Int) (PAL.i (i : Int) (PAL.l r PAL.n)))) = some (.bool (someB s s.figs[f] lit (s.pls.drop i)))
  | 0, i, n + 2, him, hn => by
    have st : G.rec' (T41 h) (n + 2) 1 (PAL.i (f : Int) (PAL.i (lit : Int) (PAL.i (i : Int) (PAL.l r PAL.n)))) = P41x1 h (G.rec' (T41 h) (n + 1)) (f : Int) (lit : Int) (i : Int) r := rfl
    obtain ⟨vh, vp, vf, vb, hrow, sh, sp, sw, sf, sb⟩ := a
    rw [st]
    unfold P41x1
    rw [nthR_get _ _ 4 vp (by rw [hrow]; rfl), sp.rows.len, List.length_map, boolZ_eq, ltZ_dec, ifB_if, if_neg (by simp; omega), List.drop_of_length_le (by omega)]
    rfl
  | m + 1, i, n + 1, him, hn => by
    have hi : i < s.pls.length := by omega
    have l5 := ok.pls
    have hr7 := a.len
    have b := bec37_at a ok hlit hi (s.figs[f])
    have st : G.rec' (T41 h) (n + 1) 1 (PAL.i (f : Int) (PAL.i (lit : Int) (PAL.i (i : Int) (PAL.l r PAL.n)))) = P41x1 h (G.rec' (T41 h) n) (f : Int) (lit : Int) (i : Int) r := rfl
    have ih := some41_loop a ok hlit hf m (i + 1) n (by omega) (by omega)
    obtain ⟨vh, vp, vf, vb, hrow, sh, sp, sw, sf, sb⟩ := a
    have hg : (s.figs.map Fi.row)[f]? = some (s.figs[f]).row := by rw [List.getElem?_map, List.getElem?_eq_getElem hf]; rfl
    obtain ⟨q, hq, haq, hl⟩ := sf.rows.at hg
    rw [st]
    unfold P41x1
    rw [nthR_get _ _ 4 vp (by rw [hrow]; rfl), sp.rows.len, List.length_map, boolZ_eq, ltZ_dec, ifB_if, if_pos (by simp; omega), dropR_eq, takeR_eq _ _ _ (by simp; omega), List.drop_zero, List.take_of_length_le (by omega), nthR_get _ _ 5 vf (by rw [hrow]; rfl), hq, haq.loadN (z := 6) hl, b, optK_some', intK_int, boolZ_eq, eqZ_dec, ifB_if, List.drop_eq_getElem_cons hi]
    unfold someB
    rw [List.any_cons]
    by_cases c : fateS (warmF lit 0 (s.pls[i]).ws (s.we.lo, s.we.hi)) s.figs[f] = 1
    · rw [if_pos (by simpa using c), decide_eq_true c]; rfl
    · rw [if_neg (by simpa using c), decide_eq_false c, show Int.add (i : Int) (Int.ofNat 1) = ((i + 1 : Nat) : Int) from rfl, wrap64_in _ (by omega) (by omega), ih, Bool.false_or]
      rfl
theorem some41_at {h : Hp} {s : Ho} {r : List Value} (a : HoA h s r) (ok : HoOk s) {lit : Nat} (hlit : lit < 8) {f : Nat} (hf : f < s.figs.length) :
    F41 [.agg (Array.mk r), .int .i64 (f : Int), .int .i64 (lit : Int)] h = some (.bool (someB s s.figs[f] lit s.pls)) := by
  have l5 := ok.pls
  have e := some41_loop a ok hlit hf s.pls.length 0 999999 (by omega) (by omega)
  rw [List.drop_zero] at e
  show plainO (P41x0 h (G.rec' (T41 h) 999999) (.agg (Array.mk r)) (f : Int) (lit : Int)) = _
  unfold P41x0
  rw [rowCells, forceL_eq, show (Int.ofNat 0) = ((0 : Nat) : Int) from rfl, e]
  rfl
def Inv (S : Nat → Bool) (i : Nat) (acc : Nat × Bool) : Prop := (acc.2 = false → ∀ j, j < i → S j = false) ∧ (acc.2 = true → S acc.1 = true ∧ acc.1 < i ∧ ∀ j, j < i → S j = true → ones acc.1 < ones j ∨ (ones acc.1 = ones j ∧ acc.1 ≤ j))
theorem nstep_inv {S : Nat → Bool} {i : Nat} {acc : Nat × Bool} (v : Inv S i acc) : Inv S (i + 1) (nstep S acc i) := by
  obtain ⟨b, fd⟩ := acc
  unfold nstep
  cases hs : S i with
  | false =>
    rw [Bool.and_false, if_neg (by simp)]
    refine ⟨fun h j hj => ?_, fun h => ?_⟩
    · by_cases e : j = i
      · rw [e]; exact hs
      · exact v.1 h j (by omega)
    · obtain ⟨v1, v2, v3⟩ := v.2 h
      refine ⟨v1, by omega, fun j hj hS => ?_⟩
      by_cases e : j = i
      · rw [e, hs] at hS; cases hS
      · exact v3 j (by omega) hS
  | true =>
    rw [Bool.and_true]
    cases fd with
    | false =>
      rw [if_pos (by rfl)]
      refine ⟨(fun h => (by cases h)), fun _ => ⟨hs, by simp, fun j hj hS => ?_⟩⟩
      by_cases e : j = i
      · subst e; exact .inr ⟨rfl, Nat.le_refl _⟩
      · have := v.1 rfl j (by omega)
        rw [this] at hS; cases hS
    | true =>
      obtain ⟨v1, v2, v3⟩ := v.2 rfl
      simp only at v1 v2 v3
      by_cases c : ones i < ones b
      · rw [if_pos (by simpa using c)]
        refine ⟨(fun h => (by cases h)), fun _ => ⟨hs, by simp, fun j hj hS => ?_⟩⟩
        by_cases e : j = i
        · subst e; exact .inr ⟨rfl, Nat.le_refl _⟩
        · have := v3 j (by omega) hS
          refine .inl ?_
          simp only
          omega
      · rw [if_neg (by simpa using c)]
        refine ⟨fun h => (by cases h), fun _ => ⟨v1, by simp only; omega, fun j hj hS => ?_⟩⟩
        by_cases e : j = i
        · subst e
          simp only
          by_cases e2 : ones b = ones j
          · exact .inr ⟨e2, by omega⟩
          · exact .inl (by omega)
        · exact v3 j (by omega) hS
theorem nfold_inv {S : Nat → Bool} : ∀ (m i : Nat) (acc : Nat × Bool), Inv S i acc → Inv S (i + m) (nfold S m i acc)
  | 0, i, acc, v => v
  | m + 1, i, acc, v => by
    have := nfold_inv m (i + 1) _ (nstep_inv v)
    rw [show i + 1 + m = i + (m + 1) by omega] at this
    exact this
theorem nfold_top (S : Nat → Bool) (t : Nat) : Inv S t (nfold S t 0 (0, false)) := by
  have := nfold_inv (S := S) t 0 (0, false) ⟨fun _ j hj => absurd hj (by omega), fun h => by cases h⟩
  rwa [Nat.zero_add] at this
def cb (a : Nat) : Nat → Int
  | 0 => 0
  | i + 1 => cb a i + (if bitB a i then 1 else 0)
theorem cb_ones : ∀ n : Nat, n ≤ 3 → ∀ a : Nat, a < 2 ^ n → cb a n = ones a
  | 0, _ => by decide
  | 1, _ => by decide
  | 2, _ => by decide
  | 3, _ => by decide
  | n + 4, h => absurd h (by omega)
theorem cb_bd (a : Nat) : ∀ i : Nat, 0 ≤ cb a i ∧ cb a i ≤ i
  | 0 => ⟨Int.le_refl _, Int.le_refl _⟩
  | i + 1 => by
    have := cb_bd a i
    unfold cb
    have hc : (((i + 1 : Nat)) : Int) = (i : Int) + 1 := rfl
    rw [hc]
    split <;> omega
theorem rem_at {a b : Int} (h0 : 0 ≤ a) (hb : 0 < b) : binW env .rem 3 (.int .i64 a) (.int .i64 b) = some (.int .i64 (a % b)) := by
  unfold binW binV
  rw [show intFast .rem (.int .i64 a) (.int .i64 b) = none from rfl]
  simp only
  rw [binV1_ints rfl]
  simp only [Op.intDiv]
  rw [if_neg (by omega)]
  rw [Int.tmod_eq_emod_of_nonneg h0]
  rfl
theorem slowI_some' {ρ : Type} {k : IntKind} {a : Int} (f : Int → Option ρ) : slowI k (some (.int k a)) f = f a := by
  show intK k (.int k a) f = _
  exact intK_int k a f
theorem all11_loop {h : Hp} {p : Value} {we : Sp} {st : Nat} {vh vp vf vb : Value} (ap : At h p (hoRow we (st : Int) vh vp vf vb)) (hst : st ≤ 3) (x : Int) (f : Nat) (z : Nat) : ∀ m i, i + m = st →
    rec' T11 (m + 1 + z) 2 (AL.i x (AL.v p (AL.i (f : Int) (AL.i (2 ^ i : Int) (AL.i (i : Int) AL.n))))) h = rec' T11 z 8 (AL.i x (AL.v p (AL.i (f : Int) (AL.i (2 ^ st : Int) AL.n)))) h
  | 0, i, him => by
    have st' : rec' T11 (0 + 1 + z) 2 (AL.i x (AL.v p (AL.i (f : Int) (AL.i (2 ^ i : Int) (AL.i (i : Int) AL.n))))) h = P11x2 (rec' T11 z) x p (f : Int) (2 ^ i : Int) (i : Int) h := by rw [show 0 + 1 + z = z + 1 by omega]; rfl
    rw [st']
    unfold P11x2
    rw [ap.fld 2 (x := .int .i64 (st : Int)) rfl, intK_int, boolZ_eq, ltZ_dec, ifB_if, if_neg (by simp; omega), show i = st by omega]
  | m + 1, i, him => by
    have st' : rec' T11 (m + 1 + 1 + z) 2 (AL.i x (AL.v p (AL.i (f : Int) (AL.i (2 ^ i : Int) (AL.i (i : Int) AL.n))))) h = P11x2 (rec' T11 (m + 1 + z)) x p (f : Int) (2 ^ i : Int) (i : Int) h := by rw [show m + 1 + 1 + z = (m + 1 + z) + 1 by omega]; rfl
    obtain ⟨p1, p2⟩ := pow_le i (by omega)
    rw [st']
    unfold P11x2
    rw [ap.fld 2 (x := .int .i64 (st : Int)) rfl, intK_int, boolZ_eq, ltZ_dec, ifB_if, if_pos (by simp; omega), show Int.mul (Int.ofNat 2) (2 ^ i) = 2 ^ (i + 1) from by rw [Int.pow_succ, Int.mul_comm]; rfl, wrap64_in _ (by have := pow_le (i + 1) (by omega); omega) (by have := pow_le (i + 1) (by omega); omega), show Int.add (i : Int) (Int.ofNat 1) = ((i + 1 : Nat) : Int) from rfl, wrap64_in _ (by omega) (by omega)]
    exact all11_loop ap hst x f z m (i + 1) (by omega)
theorem bits11_loop {h : Hp} {p : Value} {we : Sp} {st : Nat} {vh vp vf vb : Value} (ap : At h p (hoRow we (st : Int) vh vp vf vb)) (hst : st ≤ 3) (f : Nat) {o v : Nat} (ho : o < 8) (hv : v < 8) (z : Nat) : ∀ m i, i + m = st →
    rec' T11 (3 * m + 2 + z) 3 (AL.v p (AL.i (f : Int) (AL.i (o : Int) (AL.i (v : Int) (AL.i (cb v i) (AL.i (cb o i) (AL.i (i : Int) AL.n))))))) h = P11x6 (rec' T11 z) p (f : Int) (o : Int) (v : Int) (cb v st) (cb o st) h
  | 0, i, him => by
    have st' : rec' T11 (3 * 0 + 2 + z) 3 (AL.v p (AL.i (f : Int) (AL.i (o : Int) (AL.i (v : Int) (AL.i (cb v i) (AL.i (cb o i) (AL.i (i : Int) AL.n))))))) h = P11x3 (rec' T11 (z + 1)) p (f : Int) (o : Int) (v : Int) (cb v i) (cb o i) (i : Int) h := by rw [show 3 * 0 + 2 + z = z + 1 + 1 by omega]; rfl
    have st6 : ∀ a b : Int, rec' T11 (z + 1) 6 (AL.v p (AL.i (f : Int) (AL.i (o : Int) (AL.i (v : Int) (AL.i a (AL.i b AL.n)))))) h = P11x6 (rec' T11 z) p (f : Int) (o : Int) (v : Int) a b h := fun a b => rfl
    rw [st']
    unfold P11x3
    rw [ap.fld 2 (x := .int .i64 (st : Int)) rfl, intK_int, boolZ_eq, ltZ_dec, ifB_if, if_neg (by simp; omega), st6, show i = st by omega]
  | m + 1, i, him => by
    have st' : rec' T11 (3 * (m + 1) + 2 + z) 3 (AL.v p (AL.i (f : Int) (AL.i (o : Int) (AL.i (v : Int) (AL.i (cb v i) (AL.i (cb o i) (AL.i (i : Int) AL.n))))))) h = P11x3 (rec' T11 (3 * m + 2 + z + 2)) p (f : Int) (o : Int) (v : Int) (cb v i) (cb o i) (i : Int) h := by rw [show 3 * (m + 1) + 2 + z = (3 * m + 2 + z + 2) + 1 by omega]; rfl
    have st4 : ∀ a b : Int, rec' T11 (3 * m + 2 + z + 2) 4 (AL.v p (AL.i (f : Int) (AL.i (o : Int) (AL.i (v : Int) (AL.i a (AL.i b (AL.i (i : Int) AL.n))))))) h = P11x4 (rec' T11 (3 * m + 2 + z + 1)) p (f : Int) (o : Int) (v : Int) a b (i : Int) h := fun a b => rfl
    have st5 : ∀ a b : Int, rec' T11 (3 * m + 2 + z + 1) 5 (AL.v p (AL.i (f : Int) (AL.i (o : Int) (AL.i (v : Int) (AL.i a (AL.i b (AL.i (i : Int) AL.n))))))) h = P11x5 (rec' T11 (3 * m + 2 + z)) p (f : Int) (o : Int) (v : Int) a b (i : Int) h := fun a b => rfl
    have ih := bits11_loop ap hst f ho hv z m (i + 1) (by omega)
    have b1 := cb_bd v i
    have b2 := cb_bd o i
    have five : ∀ a b : Int, a = cb v (i + 1) → b = cb o (i + 1) → P11x5 (rec' T11 (3 * m + 2 + z)) p (f : Int) (o : Int) (v : Int) a b (i : Int) h = P11x6 (rec' T11 z) p (f : Int) (o : Int) (v : Int) (cb v st) (cb o st) h := by
      intro a b ea eb
      unfold P11x5
      rw [show Int.add (i : Int) (Int.ofNat 1) = ((i + 1 : Nat) : Int) from rfl, wrap64_in _ (by omega) (by omega), ea, eb]
      exact ih
    have four : ∀ a : Int, a = cb v (i + 1) → P11x4 (rec' T11 (3 * m + 2 + z + 1)) p (f : Int) (o : Int) (v : Int) a (cb o i) (i : Int) h = P11x6 (rec' T11 z) p (f : Int) (o : Int) (v : Int) (cb v st) (cb o st) h := by
      intro a ea
      unfold P11x4
      rw [bit40_at h o i ho (by omega), optK_some', pairK_some', boolK_bool, ifB_if]
      cases hb : bitB o i with
      | true =>
        rw [if_pos rfl, show Int.add (cb o i) (Int.ofNat 1) = cb o i + 1 from rfl, wrap64_in _ (by omega) (by omega), st5]
        exact five _ _ ea (by show _ = cb o i + (if bitB o i then 1 else 0); rw [hb]; rfl)
      | false =>
        rw [if_neg (by simp), st5]
        exact five _ _ ea (by show _ = cb o i + (if bitB o i then 1 else 0); rw [hb]; simp)
    rw [st']
    unfold P11x3
    rw [ap.fld 2 (x := .int .i64 (st : Int)) rfl, intK_int, boolZ_eq, ltZ_dec, ifB_if, if_pos (by simp; omega), bit40_at h v i hv (by omega), optK_some', pairK_some', boolK_bool, ifB_if]
    cases hb : bitB v i with
    | true =>
      rw [if_pos rfl, show Int.add (cb v i) (Int.ofNat 1) = cb v i + 1 from rfl, wrap64_in _ (by omega) (by omega), st4]
      exact four _ (by show _ = cb v i + (if bitB v i then 1 else 0); rw [hb]; rfl)
    | false =>
      rw [if_neg (by simp), st4]
      exact four _ (by show _ = cb v i + (if bitB v i then 1 else 0); rw [hb]; simp)
theorem fm19 (h : Hp) : FM19 [] h = some (.bool true) := rfl
theorem awake11 (h : Hp) : (pairK (optK (FM19 [] h) fun v => some (v, h)) fun v0 h0 => boolK v0 fun b1 => some ((Value.bool b1), h0)) = some (.bool true, h) := by
  rw [fm19, optK_some', pairK_some', boolK_bool]
theorem needs11_at {h : Hp} (w : Wf h) {s : Ho} {r : List Value} (a : HoA h s r) {which x : Int} (hw : 0 ≤ which ∧ which ≤ 255) (hx : 0 ≤ x ∧ x ≤ 255) : ∃ h', F11 [.agg (Array.mk r), .int .u8 which, .int .u8 x] h = some (.bool true, h') := by
  have start : F11 [.agg (Array.mk r), .int .u8 which, .int .u8 x] h = P11x0 (rec' T11 999999) (.agg (Array.mk r)) which x h := rfl
  rw [start]
  clear start
  unfold P11x0
  have hr7 := a.len
  rw [rowCells, allocK_add]
  have g1 := Grew.add w (.cells r 28 none)
  have a1 : At (h.add (.cells r 28 none)) (.pointer (some ⟨h.next, 0, none⟩)) r := At.new
  generalize h.add (.cells r 28 none) = h1 at g1 a1 ⊢
  generalize Value.pointer (some ⟨h.next, 0, none⟩) = p at a1 ⊢
  have s1 := a.sub g1.sub
  obtain ⟨h2, e2⟩ := valid30_at (h := shutH h1) (wfShut g1.wf) s1
  have st1 : ∀ b : Bool, rec' T11 999999 1 (AL.i which (AL.i x (AL.v p (AL.b b AL.n)))) h1 = P11x1 (rec' T11 999998) which x p b h1 := fun b => rfl
  have none' : (needsS s 0).2 ≠ 0 → ∃ h', rec' T11 999999 1 (AL.i which (AL.i x (AL.v p (AL.b true AL.n)))) h1 = some (.bool true, h') := by
    intro he
    obtain ⟨h3, e3⟩ := needs25_at (h := shutH h1) (wfShut g1.wf) s1 0
    rw [st1]
    unfold P11x1
    rw [ifB_if, if_pos rfl, a1.loadN (z := 7) hr7, show (Int.ofNat 0) = (0 : Int) from rfl, callQ_plain1 e3 rfl, pairK_some']
    unfold pairV
    rw [extK_at (v := .int .i64 (needsS s 0).1) rfl, intK_int, extK_at (v := .int .i64 (needsS s 0).2) rfl, intK_int, boolN_eq, eqZ_dec, ifB_if, if_pos (by simpa using he), awake11]
    exact ⟨_, rfl⟩
  rw [a1.loadN (z := 7) hr7, callQ_plain1 e2 rfl, pairK_some', boolK_bool, boolN_eq, ifB_if]
  by_cases e0 : (checkH s).2.2 = 0
  case neg =>
    rw [if_pos (by simpa using e0)]
    exact none' (by unfold needsS; rw [if_pos e0]; exact e0)
  have ok := check_ok e0
  have hh : ¬((checkH s).2.2 ≠ 0) := by simpa using e0
  have lf := ok.figs
  have lp := ok.pls
  have s1' := s1
  obtain ⟨vh, vp, vf, vb, hrow, sh, sp, sw, sf, sb⟩ := s1
  rw [if_neg (by simpa using e0), a1.fld 5 (x := vf) (by rw [hrow]; rfl), sf.rows.len, List.length_map, boolZ_eq, eqZ_dec]
  by_cases hl : s.figs.length = 0
  · rw [show decide ((s.figs.length : Int) = Int.ofNat 0) = true from by simp [hl]]
    exact none' (by
      unfold needsS
      rw [if_neg hh, show inB 0 ((s.figs.length : Int) - 1) 0 = false from by
        cases hi : inB 0 ((s.figs.length : Int) - 1) 0 with
        | false => rfl
        | true => have := inB_iff.1 hi; omega, if_pos (show (!false) = true from rfl)]
      decide)
  rw [show decide ((s.figs.length : Int) = Int.ofNat 0) = false from by simpa using hl, st1]
  unfold P11x1
  obtain ⟨st0, st3⟩ := ok.stoves
  obtain ⟨n, hn⟩ : ∃ n : Nat, s.stoves = (n : Int) := ⟨s.stoves.toNat, by omega⟩
  have hn3 : n ≤ 3 := by omega
  have hrow' : r = hoRow s.we (n : Int) vh vp vf vb := by rw [hrow, hn]
  have ap : At h1 p (hoRow s.we (n : Int) vh vp vf vb) := by rw [← hrow']; exact a1
  have st9 : rec' T11 999998 9 (AL.i which (AL.i x (AL.v p AL.n))) h1 = P11x9 (rec' T11 999997) which x p h1 := rfl
  rw [ifB_if, if_neg (by simp), st9]
  unfold P11x9
  have hf0 : 0 ≤ which % (s.figs.length : Int) := Int.emod_nonneg _ (by omega)
  have hf1 : which % (s.figs.length : Int) < s.figs.length := Int.emod_lt_of_pos _ (by omega)
  obtain ⟨f, hf⟩ : ∃ f : Nat, which % (s.figs.length : Int) = (f : Int) := ⟨(which % (s.figs.length : Int)).toNat, by omega⟩
  have hf2 : f < s.figs.length := by omega
  obtain ⟨p1, p2⟩ := pow3n n hn3
  obtain ⟨p3, p4⟩ := pow_le n (by omega)
  rw [wrap64_in _ (by omega) (by omega), a1.fld 5 (x := vf) (by rw [hrow]; rfl), sf.rows.len, List.length_map, rem_at hw.1 (by omega), slowI_some', hf]
  obtain ⟨z, hz⟩ : ∃ z, 999997 = n + 1 + (z + 1) ∧ 100 ≤ z := ⟨999997 - n - 2, by omega, by omega⟩
  have e8 := all11_loop ap hn3 x f (z + 1) n 0 (by omega)
  rw [← hz.1] at e8
  rw [show rec' T11 999997 2 (AL.i x (AL.v p (AL.i (f : Int) (AL.i (Int.ofNat 1) (AL.i (Int.ofNat 0) AL.n))))) h1 = _ from e8]
  have st8 : rec' T11 (z + 1) 8 (AL.i x (AL.v p (AL.i (f : Int) (AL.i (2 ^ n : Int) AL.n)))) h1 = P11x8 (rec' T11 z) x p (f : Int) (2 ^ n : Int) h1 := rfl
  rw [st8]
  unfold P11x8
  have ho0 : 0 ≤ x % (2 ^ n : Int) := Int.emod_nonneg _ (by omega)
  have ho1 : x % (2 ^ n : Int) < 2 ^ n := Int.emod_lt_of_pos _ (by omega)
  obtain ⟨o, ho⟩ : ∃ o : Nat, x % (2 ^ n : Int) = (o : Int) := ⟨(x % (2 ^ n : Int)).toNat, by omega⟩
  have ho2 : o < 2 ^ n := by omega
  obtain ⟨h3, e3⟩ := needs25_at (h := shutH h1) (wfShut g1.wf) s1' (f : Int)
  have inv := nfold_top (fun l => someB s s.figs[f] l s.pls) (2 ^ n)
  have eN : needsS s (f : Int) = if (nfold (fun l => someB s s.figs[f] l s.pls) (2 ^ n) 0 (0, false)).2 then (((nfold (fun l => someB s s.figs[f] l s.pls) (2 ^ n) 0 (0, false)).1 : Int), 0) else (0, 9) := by
    unfold needsS
    rw [if_neg hh, inB_iff.2 (show 0 ≤ (f : Int) ∧ (f : Int) ≤ (s.figs.length : Int) - 1 by omega), if_neg (by simp), Int.toNat_natCast, List.getElem?_eq_getElem hf2, show s.stoves.toNat = n by omega]
  generalize nfold (fun l => someB s s.figs[f] l s.pls) (2 ^ n) 0 (0, false) = N at inv eN
  obtain ⟨v, fd⟩ := N
  rw [eN] at e3
  have sO := some41_at s1' ok (lit := o) (by omega) hf2
  rw [wrap64_in _ (by omega) (by omega), rem_at hx.1 (by omega), slowI_some', ho, a1.loadN (z := 7) hr7, callQ_plain1 e3 rfl, pairK_some']
  cases fd with
  | false =>
    have i1 := inv.1 rfl o ho2
    simp only at i1
    rw [if_neg (by simp)]
    unfold pairV
    rw [extK_at (v := .int .i64 0) rfl, intK_int, extK_at (v := .int .i64 9) rfl, intK_int, boolN_eq, eqZ_dec, ifB_if, if_pos (by decide), boolZ_eq, eqZ_dec, ifB_if, if_pos (by decide), boolZ_eq, eqZ_dec, ifB_if, if_pos (by decide), a1.loadN (z := 7) hr7, sO, optK_some', pairK_some', boolK_bool, boolN_eq, ifB_if, i1, if_pos (by rfl), awake11]
    exact ⟨_, rfl⟩
  | true =>
    obtain ⟨i1, i2, i3⟩ := inv.2 rfl
    simp only at i1 i2 i3
    have sV := some41_at s1' ok (lit := v) (by omega) hf2
    rw [if_pos rfl]
    unfold pairV
    rw [extK_at (v := .int .i64 (v : Int)) rfl, intK_int, extK_at (v := .int .i64 0) rfl, intK_int, boolN_eq, eqZ_dec, ifB_if, if_neg (by decide), boolZ_eq, ltZ_dec, ifB_if, if_neg (by simp), boolN_eq, ltZ_dec, ifB_if, if_neg (by simp; omega), a1.loadN (z := 7) hr7, sV, optK_some', pairK_some', boolK_bool, boolN_eq, ifB_if, i1, if_neg (by simp)]
    obtain ⟨z', rfl⟩ : ∃ z', z = z' + 1 := ⟨z - 1, by omega⟩
    have st7 : rec' T11 (z' + 1) 7 (AL.v p (AL.i (f : Int) (AL.i (o : Int) (AL.i (v : Int) AL.n)))) h1 = P11x7 (rec' T11 z') p (f : Int) (o : Int) (v : Int) h1 := rfl
    rw [st7]
    unfold P11x7
    obtain ⟨y, hy⟩ : ∃ y, z' = 3 * n + 2 + y := ⟨z' - 3 * n - 2, by omega⟩
    have e6 := bits11_loop ap hn3 f (o := o) (v := v) (by omega) (by omega) y n 0 (by omega)
    rw [← hy] at e6
    rw [show rec' T11 z' 3 (AL.v p (AL.i (f : Int) (AL.i (o : Int) (AL.i (v : Int) (AL.i (Int.ofNat 0) (AL.i (Int.ofNat 0) (AL.i (Int.ofNat 0) AL.n))))))) h1 = _ from e6, cb_ones n hn3 v i2, cb_ones n hn3 o ho2]
    unfold P11x6
    rw [boolZ_eq, ltZ_dec, ifB_if]
    by_cases c1 : ones v < ones o
    · rw [if_pos (by simpa using c1), awake11]; exact ⟨_, rfl⟩
    rw [if_neg (by simpa using c1), boolZ_eq, eqZ_dec, ifB_if]
    have key : someB s s.figs[f] o s.pls = true → ones v = ones o ∧ v ≤ o := fun hS => by
      have := i3 o ho2 hS
      omega
    have noO : ¬(ones v = ones o ∧ v ≤ o) → someB s s.figs[f] o s.pls = false := fun h => by
      cases hS : someB s s.figs[f] o s.pls with
      | false => rfl
      | true => exact absurd (key hS) h
    by_cases c2 : ones o = ones v
    · rw [if_pos (by simpa using c2), boolN_eq, ltZ_dec, ifB_if]
      by_cases c3 : v ≤ o
      · rw [if_pos (by simp; omega), awake11]; exact ⟨_, rfl⟩
      · rw [if_neg (by simp; omega), a1.loadN (z := 7) hr7, sO, optK_some', pairK_some', boolK_bool, boolN_eq, ifB_if, noO (by omega), if_pos (by rfl), awake11]
        exact ⟨_, rfl⟩
    · rw [if_neg (by simpa using c2), a1.loadN (z := 7) hr7, sO, optK_some', pairK_some', boolK_bool, boolN_eq, ifB_if, noO (by omega), if_pos (by rfl), awake11]
      exact ⟨_, rfl⟩
end Go.Proofs.Ytekocllllbdbgaa.K.L
