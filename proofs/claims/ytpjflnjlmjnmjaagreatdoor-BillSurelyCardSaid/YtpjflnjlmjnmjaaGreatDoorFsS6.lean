/- Contracts of told functions: Surely; the reference's Has, Bit. -/
import Derived.Test.YtpjflnjlmjnmjaaGreatDoorFsS5
open Go Go.Eng
set_option maxRecDepth 100000
set_option linter.unusedVariables false
namespace Go.Proofs.YtpjflnjlmjnmjaaGreatDoor.K.L
theorem first_ok {α : Type} (f : List α → α → Int) (all : List α) : ∀ (l : List α) (i : Nat), all.drop i = l → (firstE f all i l).2 = 0 → ∀ (j : Nat) (hj : j < all.length), i ≤ j → f (all.take j) all[j] = 0
  | [], i, hd, _, j, hj, hij => by
    have : all.length ≤ i := List.drop_eq_nil_iff.1 hd
    omega
  | g :: l, i, hd, h, j, hj, hij => by
    have hi : i < all.length := by
      by_cases c : i < all.length
      · exact c
      · rw [List.drop_of_length_le (by omega)] at hd; cases hd
    have hd2 := hd
    rw [List.drop_eq_getElem_cons hi] at hd2
    injection hd2 with e1 e2
    unfold firstE at h
    by_cases e : f (all.take i) g = 0
    · rw [if_pos e] at h
      by_cases hij2 : i = j
      · subst hij2; rw [e1]; exact e
      · exact first_ok f all l (i + 1) e2 h j hj (by omega)
    · rw [if_neg e] at h; exact absurd h e
theorem first_zero {α : Type} (f : List α → α → Int) (all : List α) (h : ∀ (j : Nat) (hj : j < all.length), f (all.take j) all[j] = 0) : ∀ (l : List α) (i : Nat), all.drop i = l → firstE f all i l = (0, 0)
  | [], i, _ => rfl
  | g :: l, i, hd => by
    have hi : i < all.length := by
      by_cases c : i < all.length
      · exact c
      · rw [List.drop_of_length_le (by omega)] at hd; cases hd
    have hd2 := hd
    rw [List.drop_eq_getElem_cons hi] at hd2
    injection hd2 with e1 e2
    unfold firstE
    rw [if_pos (by rw [← e1]; exact h i hi)]
    exact first_zero f all h l (i + 1) e2
theorem truths_ok {m : Nat} {ts : List Int} (h : (listE 6 (truthE m) ts).2 = 0) : ts.length ≤ 6 ∧ (∀ t ∈ ts, inB 0 (2 ^ m - 1) t = true) ∧ ts.Nodup := by
  have hl := listE_len h
  have h1 : (firstE (truthE m) ts 0 ts).2 = 0 := by unfold listE at h; rw [if_neg (by omega)] at h; exact h
  have key := first_ok (truthE m) ts ts 0 rfl h1
  have two : ∀ (j : Nat) (hj : j < ts.length), inB 0 (2 ^ m - 1) ts[j] = true ∧ (ts.take j).any (fun g => decide (ts[j] = g)) = false := by
    intro j hj
    have := key j hj (by omega)
    unfold truthE at this
    cases c1 : inB 0 (2 ^ m - 1) ts[j] with
    | false => rw [c1] at this; simp at this
    | true =>
    cases c2 : (ts.take j).any (fun g => decide (ts[j] = g)) with
    | true => rw [c1, c2] at this; simp at this
    | false => exact ⟨rfl, rfl⟩
  refine ⟨by omega, fun t ht => ?_, ?_⟩
  · obtain ⟨j, hj, rfl⟩ := List.getElem_of_mem ht
    exact (two j hj).1
  · rw [List.Nodup, List.pairwise_iff_getElem]
    intro i j hi hj hij e
    have := (two j hj).2
    rw [List.any_eq_false] at this
    have hm : ts[i] ∈ ts.take j := by
      rw [List.mem_iff_getElem]
      exact ⟨i, by rw [List.length_take]; omega, by rw [List.getElem_take]⟩
    exact this _ hm (by simp [e])
theorem truths_zero {m : Nat} {ts : List Int} (h6 : ts.length ≤ 6) (hr : ∀ t ∈ ts, inB 0 (2 ^ m - 1) t = true) (hn : ts.Nodup) : listE 6 (truthE m) ts = (0, 0) := by
  unfold listE
  rw [if_neg (by omega)]
  refine first_zero _ _ (fun j hj => ?_) ts 0 rfl
  unfold truthE
  rw [hr _ (List.getElem_mem hj)]
  have : (ts.take j).any (fun g => decide (ts[j] = g)) = false := by
    rw [List.any_eq_false]
    intro g hg e
    obtain ⟨i, hi, rfl⟩ := List.getElem_of_mem hg
    rw [List.length_take] at hi
    rw [List.getElem_take] at e
    have := (List.pairwise_iff_getElem.1 hn) i j (by omega) hj (by omega)
    exact this (by simpa using (of_decide_eq_true e).symm)
  rw [this]; rfl
structure Fine (s : Sh) : Prop where
  figs : s.figs.length ≤ 6
  some : 0 < s.ts.length
  six : s.ts.length ≤ 6
  bits : ∀ t ∈ s.ts, inB 0 (2 ^ s.figs.length - 1) t = true
  nodup : s.ts.Nodup
theorem check_ok {s : Sh} (h : (checkS s).2.2 = 0) : Fine s := by
  unfold checkS at h
  cases c1 : inB 14 30 s.lines with
  | false => rw [c1] at h; simp at h
  | true =>
  rw [c1, if_neg (by simp)] at h
  by_cases c2 : (listE 6 figE s.figs).2 = 0
  case neg => rw [if_pos c2] at h; exact absurd h c2
  rw [if_neg (by simpa using c2)] at h
  by_cases c3 : s.ts.length = 0
  · rw [if_pos c3] at h; exact absurd h (by decide)
  rw [if_neg c3] at h
  by_cases c4 : (listE 6 (truthE s.figs.length) s.ts).2 = 0
  case neg => rw [if_pos c4] at h; exact absurd h c4
  obtain ⟨x1, x2, x3⟩ := truths_ok c4
  have := listE_len c2
  exact ⟨by omega, by omega, x1, x2, x3⟩
theorem check_less {s : Sh} (h : (checkS s).2.2 = 0) {ts : List Int} (hs : ts.Sublist s.ts) (h0 : 0 < ts.length) : (checkS ⟨s.lines, s.figs, ts⟩).2.2 = 0 := by
  have F := check_ok h
  have e : listE 6 (truthE s.figs.length) ts = (0, 0) := truths_zero (by have := hs.length_le; have := F.six; omega) (fun t ht => F.bits t (hs.subset ht)) (F.nodup.sublist hs)
  unfold checkS at h ⊢
  cases c1 : inB 14 30 s.lines with
  | false => rw [c1] at h; simp at h
  | true =>
  rw [c1, if_neg (by simp)] at h
  by_cases c2 : (listE 6 figE s.figs).2 = 0
  case neg => rw [if_pos c2] at h; exact absurd h c2
  dsimp only
  rw [if_neg (by simp), if_neg (by simpa using c2), if_neg (by omega), e]
  rfl
theorem pow_nat (n : Nat) : (2 : Int) ^ n = ((2 ^ n : Nat) : Int) := by simp
theorem Fine.small {s : Sh} (f : Fine s) : ∀ t ∈ s.ts, 0 ≤ t ∧ t ≤ 63 := fun t ht => by
  obtain ⟨a, b⟩ := inB_iff.1 (f.bits t ht)
  have := (pow_le _ f.figs).2
  omega
theorem surely18_at {h : Hp} (w : Wf h) {s : Sh} {r : List Value} (a : ShA h s r) (n : Int) : ∃ h', F18 [.agg (Array.mk r), .int .i64 n] h = some (pairB (sureS s n), h') := by
  have start : F18 [.agg (Array.mk r), .int .i64 n] h = P18x0 (rec' T18 999999) (.agg (Array.mk r)) n h := rfl
  rw [start]
  unfold P18x0
  have hr3 := a.len
  rw [rowCells, allocK_add]
  have g0 : Grew h (h.add (.cells r 25 none)) := Grew.add w _
  have a0 : At (h.add (.cells r 25 none)) (.pointer (some ⟨h.next, 0, none⟩)) r := At.new
  generalize h.add (.cells r 25 none) = h0 at g0 a0 ⊢
  obtain ⟨h2', lk, e2, gg, hl3, h1c, hlk⟩ := open63_at (h := shutH h0) (wfShut g0.wf) (a.sub g0.sub)
  obtain ⟨h2, e3, g2⟩ := callQ_any g0.wf e2 gg
  rw [a0.loadN (z := 3) hr3, e3, pairK_some', extK_at (v := .agg (Array.mk lk)) rfl, extK_at (v := .int .i64 (checkS s).2.2) rfl, intK_int, allocK_add]
  have g3 : Grew h (h2.add (.cells zeroS 88 none)) := (g0.trans g2).trans (Grew.add g2.wf _)
  have c3 : (h2.add (.cells zeroS 88 none)).get h2.next = some (.cells zeroS 88 none) := by rw [get_add, if_pos rfl]
  rw [show [(Value.int .i64 (Int.ofNat 0)), (Value.slice none 0 0), (Value.slice none 0 0)] = zeroS from rfl]
  obtain ⟨h4, g4, a4, k4, _⟩ := put_whole (z := 3) (l := lk) w g3 (b := h2.next) (by have := (g0.trans g2).next; omega) c3 rfl hl3 h1c
  rw [k4, boolN_eq, eqZ_dec, ifB_if]
  unfold sureS
  by_cases e0 : (checkS s).2.2 = 0
  case neg =>
    rw [if_pos (by simpa using e0), if_pos e0]
    exact ⟨_, rfl⟩
  have F := check_ok e0
  obtain ⟨p1, p2⟩ := pow_le _ F.figs
  rw [hlk e0] at a4
  have sa := a.sub g4.sub
  rw [if_neg (by simpa using e0), if_neg (by simpa using e0)]
  generalize Value.pointer (some ⟨h2.next, 0, none⟩) = p at a4 ⊢
  obtain ⟨vf, vt, rfl, sf, st⟩ := id sa
  obtain ⟨q0, hq0, aq0⟩ := a4.part 0 3 (by show 3 ≤ 3; decide)
  have w5 := g4.wf.add (.cells [.int .i64 n] 3 none)
  have g5 := (Grew.add g4.wf (.cells [.int .i64 n] 3 none)).sub
  rw [hq0, (show At h4 q0 (shRow s.lines vf vt) from aq0).fld 1 (x := vf) rfl, sf.rows.len, List.length_map, pow_at _ _ F.figs, oneI, pairK_some', index64_at h4 (by omega), optK_some', pairK_some', boolK_bool, boolN_eq, ifB_if]
  cases c : inB 0 (2 ^ s.figs.length - 1) n with
  | false => rw [if_pos (by rfl), if_pos (by rfl)]; exact ⟨_, rfl⟩
  | true =>
  obtain ⟨n1, n2⟩ := inB_iff.1 c
  rw [if_neg (by simp), if_neg (by simp), (a4.sub g5).loadN (z := 3) rfl]
  obtain ⟨h6, e6⟩ := surely65_at (h := shutH (h4.add (.cells [.int .i64 n] 3 none))) (wfShut w5) (sa.sub g5) n (by have := F.six; omega) (fun t ht => by have := F.small t ht; omega) (by omega)
  rw [callQ_plain1 e6 rfl, pairK_some', boolK_bool]
  exact ⟨_, rfl⟩
theorem has44_loop {h : Hp} {v : Value} {gs : List Int} (x : Int) (hr : Eng.Rows h 1 v (gs.map inRow)) (hlen : gs.length ≤ 900000) : ∀ m i n, i + m = gs.length → m + 2 ≤ n →
    G.rec' (T44 h) n 1 (PAL.v v (PAL.i x (PAL.i (i : Int) PAL.n))) = some (.bool ((gs.drop i).any (fun g => decide (x = g))))
  | 0, i, n + 2, him, hn => by
    show P44x1 h (G.rec' (T44 h) (n + 1)) v x (i : Int) = _
    unfold P44x1
    rw [hr.len, List.length_map, boolZ_eq, ltZ_dec, ifB_if, if_neg (by simp; omega), List.drop_of_length_le (by omega)]
    rfl
  | m + 1, i, n + 1, him, hn => by
    have hi : i < gs.length := by omega
    have hg : (gs.map inRow)[i]? = some (inRow gs[i]) := by rw [List.getElem?_map, List.getElem?_eq_getElem hi]; rfl
    obtain ⟨q, hq, haq, hl⟩ := hr.at hg
    show P44x1 h (G.rec' (T44 h) n) v x (i : Int) = _
    unfold P44x1
    rw [hr.len, List.length_map, boolZ_eq, ltZ_dec, ifB_if, if_pos (by simp; omega), hq, haq.load1 (x := .int .i64 gs[i]) rfl, intK_int, boolZ_eq, eqZ_dec, ifB_if, List.drop_eq_getElem_cons hi, List.any_cons]
    by_cases e : gs[i] = x
    · rw [if_pos (by simpa using e)]; simp [e]
    · rw [if_neg (by simpa using e), show Int.add (i : Int) (Int.ofNat 1) = ((i + 1 : Nat) : Int) from rfl, wrap64_in _ (by omega) (by omega), has44_loop x hr hlen m (i + 1) n (by omega) (by omega)]
      have e' : ¬ x = gs[i] := fun c => e c.symm
      simp [e']
theorem has44_at {h : Hp} {v : Value} {gs : List Int} (x : Int) (hr : Eng.Rows h 1 v (gs.map inRow)) (hlen : gs.length ≤ 900000) : F44 [v, .int .i64 x] h = some (.bool (gs.any fun g => decide (x = g))) := by
  have step : ∀ n, G.rec' (T44 h) (n + 1) 0 (PAL.v v (PAL.i x PAL.n)) = P44x0 h (G.rec' (T44 h) n) v x := fun n => rfl
  show plainO (G.rec' (T44 h) (999999 + 1) 0 (PAL.v v (PAL.i x PAL.n))) = _
  rw [step]
  unfold P44x0
  have := has44_loop x hr hlen gs.length 0 999999 (by omega) (by omega)
  rw [List.drop_zero] at this
  rw [show (Int.ofNat 0) = ((0 : Nat) : Int) from rfl, this]
  rfl
theorem rem_at {a b : Int} (h0 : 0 ≤ a) (hb : 0 < b) : binW env .rem 3 (.int .i64 a) (.int .i64 b) = some (.int .i64 (a % b)) := by
  unfold binW binV
  rw [show intFast .rem (.int .i64 a) (.int .i64 b) = none from rfl]
  simp only
  rw [binV1_ints rfl]
  simp only [Op.intDiv]
  rw [if_neg (by omega)]
  rw [Int.tmod_eq_emod_of_nonneg h0]
  rfl
theorem slowI_some' {ρ : Type} {k : IntKind} {a : Int} (f : Int → Option ρ) : slowI k (some (.int k a)) f = f a := by
  show intK k (.int k a) f = _
  exact intK_int k a f
def bitB (t n : Nat) : Bool := Nat.testBit t n
theorem bit42_at (h : Hp) (t n : Nat) (hn : n ≤ 60) : F42 [.int .i64 (t : Int), .int .i64 (n : Int)] h = some (.bool (bitB t n)) := by
  show plainO (P42x0 h (G.rec' (T42 h) 999999) (t : Int) (n : Int)) = _
  unfold P42x0
  unfold shrZ
  show plainO (ifB (Nat.ble n 64) (forceN (Nat.shiftRight t n) fun c => _) _) = _
  rw [show Nat.ble n 64 = true from by rw [Nat.ble_eq]; omega, forceN_eq]
  show plainO (slowI .i64 (binW env .rem 3 (Value.int .i64 (Int.ofNat (Nat.shiftRight t n))) (Value.int .i64 (Int.ofNat 2))) _) = _
  rw [rem_at (a := Int.ofNat (Nat.shiftRight t n)) (b := Int.ofNat 2) (Int.natCast_nonneg _) (by decide), slowI_some', boolZ_eq, eqZ_dec]
  show some (Value.bool _) = _
  congr 2
  unfold bitB
  rw [Bool.eq_iff_iff, Nat.testBit_eq_decide_div_mod_eq]
  simp only [decide_eq_true_iff]
  rw [show Nat.shiftRight t n = t / 2 ^ n from Nat.shiftRight_eq_div_pow t n]
  have : (Int.ofNat (t / 2 ^ n)) % (Int.ofNat 2) = (((t / 2 ^ n) % 2 : Nat) : Int) := by simp
  rw [this]
  constructor
  · intro e; have : ((t / 2 ^ n % 2 : Nat) : Int) = 1 := e; omega
  · intro e; rw [e]; rfl
end Go.Proofs.YtpjflnjlmjnmjaaGreatDoor.K.L
