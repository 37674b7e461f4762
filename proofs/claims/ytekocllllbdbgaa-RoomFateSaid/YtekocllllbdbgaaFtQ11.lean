/- What a house without an error is; Warmth. -/
import Derived.Test.YtekocllllbdbgaaFtQ10
open Go Go.Eng
set_option maxRecDepth 100000
set_option linter.unusedVariables false
namespace Go.Proofs.Ytekocllllbdbgaa.K.L
theorem firstE_zero {α : Type} {f : List α → α → Int} {all : List α} : ∀ (l : List α) (i : Nat), l = all.drop i → (firstE f all i l).2 = 0 → ∀ j (hj : j < all.length), i ≤ j → f (all.take j) all[j] = 0
  | [], i, hl, h, j, hj, hij => by
    have : (all.drop i).length = 0 := by rw [← hl]; rfl
    rw [List.length_drop] at this
    omega
  | g :: l, i, hl, h, j, hj, hij => by
    have hi : i < all.length := by
      have : (all.drop i).length = l.length + 1 := by rw [← hl]; rfl
      rw [List.length_drop] at this
      omega
    rw [List.drop_eq_getElem_cons hi] at hl
    injection hl with h1 h2
    unfold firstE at h
    by_cases e : f (all.take i) g = 0
    · rw [if_pos e] at h
      by_cases hji : j = i
      · subst hji; rw [← h1]; exact e
      · exact firstE_zero l (i + 1) h2 h j hj (by omega)
    · rw [if_neg e] at h
      exact absurd h e
theorem spanE_ok {lo hi : Int} {g : Sp} (h : spanE lo hi g = 0) : lo ≤ g.lo ∧ g.lo ≤ g.hi ∧ g.hi ≤ hi ∧ g.lo ≤ hi ∧ lo ≤ g.hi := by
  unfold spanE at h
  split at h
  · omega
  split at h
  · omega
  rename_i h1 h2
  simp only [Bool.not_eq_true', Bool.not_eq_false, Bool.and_eq_true, inB_iff] at h1
  omega
theorem spansE_ok {ws : List Sp} (h : spansE 0 60 ws = 0) : SpsOk ws := by
  intro g hg
  obtain ⟨i, hi, rfl⟩ := List.getElem_of_mem hg
  have := spanE_ok (firstE_zero ws 0 rfl h i hi (by omega))
  omega
structure HoOk (s : Ho) : Prop where
  we : -100 ≤ s.we.lo ∧ s.we.lo ≤ s.we.hi ∧ s.we.hi ≤ 100
  stoves : 0 ≤ s.stoves ∧ s.stoves ≤ 3
  holds : s.holds.length ≤ 4
  pls : s.pls.length ≤ 5
  figs : s.figs.length ≤ 5
  bill : s.bill.length ≤ 3
  pl : ∀ k (hk : k < s.pls.length), ((s.pls[k]).ws.length : Int) = s.stoves ∧ SpsOk (s.pls[k]).ws ∧ 0 ≤ (s.pls[k]).joists ∧ (s.pls[k]).joists ≤ 2 ^ s.holds.length - 1
  fig : ∀ k (hk : k < s.figs.length), figNum s.figs[k] = true ∧ (s.figs[k]).cr ≤ (s.figs[k]).sl
theorem listE_all {α : Type} {most : Int} {f : List α → α → Int} {gs : List α} (h : (listE most f gs).2 = 0) : ∀ k (hk : k < gs.length), f (gs.take k) gs[k] = 0 := by
  intro k hk
  have hl := listE_len h
  have : listE most f gs = firstE f gs 0 gs := by unfold listE; rw [if_neg (by omega)]
  rw [this] at h
  exact firstE_zero gs 0 rfl h k hk (by omega)
theorem check_ok {s : Ho} (h : (checkH s).2.2 = 0) : HoOk s := by
  unfold checkH at h
  by_cases c1 : spanE (-100) 100 s.we = 0
  case neg => rw [if_pos c1] at h; exact absurd h c1
  rw [if_neg (by simpa using c1)] at h
  cases c2 : inB 0 3 s.stoves with
  | false => rw [c2, if_pos (by rfl)] at h; exact absurd h (by decide)
  | true =>
  rw [c2, if_neg (by simp)] at h
  by_cases c3 : (listE 4 holdE s.holds).2 = 0
  case neg => rw [if_pos c3] at h; exact absurd h c3
  rw [if_neg (by simpa using c3)] at h
  by_cases c4 : (listE 5 (placeE s.stoves s.holds.length) s.pls).2 = 0
  case neg => rw [if_pos c4] at h; exact absurd h c4
  rw [if_neg (by simpa using c4)] at h
  by_cases c5 : (listE 5 figE s.figs).2 = 0
  case neg => rw [if_pos c5] at h; exact absurd h c5
  rw [if_neg (by simpa using c5)] at h
  by_cases c6 : (listE 3 classE s.bill).2 = 0
  case neg => rw [if_pos c6] at h; exact absurd h c6
  have w := spanE_ok c1
  have l3 := listE_len c3
  have l4 := listE_len c4
  have l5 := listE_len c5
  have l6 := listE_len c6
  refine ⟨by omega, inB_iff.1 c2, by omega, by omega, by omega, by omega, fun k hk => ?_, fun k hk => ?_⟩
  · have := listE_all c4 k hk
    unfold placeE at this
    split at this
    · omega
    split at this
    · omega
    unfold placeN at this
    split at this
    · omega
    split at this
    · omega
    split at this
    · omega
    rename_i q1 q2 q3
    have q3 := inB_iff.1 (by simpa using q3)
    exact ⟨by simpa using q1, spansE_ok (by simpa using q2), q3⟩
  · have := listE_all c5 k hk
    unfold figE at this
    split at this
    · omega
    split at this
    · omega
    split at this
    · omega
    split at this
    · omega
    rename_i q1 q2
    exact ⟨by simpa using q1, by omega⟩
def warmthS (s : Ho) (place lit : Int) : (Int × Int) × Int :=
  if (checkH s).2.2 ≠ 0 then ((0, 0), (checkH s).2.2)
  else if !(inB 0 ((s.pls.length : Int) - 1) place) then ((0, 0), 4)
  else if !(inB 0 (2 ^ s.stoves.toNat - 1) lit) then ((0, 0), 7)
  else match s.pls[place.toNat]? with
    | none => ((0, 0), 4)
    | some g => (warmF lit.toNat 0 g.ws (s.we.lo, s.we.hi), 0)
def spE (x : (Int × Int) × Int) : Value := .tuple (List.toArray [spV x.1, .int .i64 x.2])
theorem build23 (a b : Int) : buildV env 23 (List.toArray [(0, .int .i64 a), (1, .int .i64 b)]) = some (spV (a, b)) := by kernel_rfl
theorem build23_0 : buildV env 23 (List.toArray []) = some (spV (0, 0)) := by kernel_rfl
theorem build103' (a b c d : Option Addr) (n1 c1 n2 c2 n3 c3 n4 c4 : Nat) (p q r l : Int) : buildV env 103 (List.toArray [(0, .agg (Array.mk [.int .i64 p, .int .i64 q, .int .i64 r, .slice a n1 c1, .slice b n2 c2, .slice c n3 c3, .slice d n4 c4])), (1, .int .i64 l)]) = some (.agg (Array.mk [.int .i64 p, .int .i64 q, .int .i64 r, .slice a n1 c1, .slice b n2 c2, .slice c n3 c3, .slice d n4 c4, .int .i64 l])) := by kernel_rfl
theorem HoA.heat {h : Hp} {s : Ho} {r : List Value} (a : HoA h s r) (l : Int) : buildV env 103 (List.toArray [(0, .agg (Array.mk r)), (1, .int .i64 l)]) = some (.agg (Array.mk (r ++ [.int .i64 l]))) := by
  obtain ⟨vh, vp, vf, vb, rfl, h2, h3, h4, h5, h6⟩ := a
  obtain ⟨_, _, _, rfl⟩ := h2.sl
  obtain ⟨_, _, _, rfl⟩ := h3.sl
  obtain ⟨_, _, _, rfl⟩ := h5.sl
  obtain ⟨_, _, _, rfl⟩ := h6.sl
  exact build103' _ _ _ _ _ _ _ _ _ _ _ _ _ _ _ _
theorem pow3 : ∀ n : Nat, n ≤ 3 → (2 : Int) ^ n ≤ 8
  | 0, _ => by decide
  | 1, _ => by decide
  | 2, _ => by decide
  | 3, _ => by decide
  | n + 4, h => absurd h (by omega)
theorem warmth15_at {h : Hp} (w : Wf h) {s : Ho} {r : List Value} (a : HoA h s r) (place lit : Int) : ∃ h', F15 [.agg (Array.mk r), .int .i64 place, .int .i64 lit] h = some (spE (warmthS s place lit), h') := by
  have start : F15 [.agg (Array.mk r), .int .i64 place, .int .i64 lit] h = P15x0 (rec' T15 999999) (.agg (Array.mk r)) place lit h := rfl
  rw [start]
  unfold P15x0
  clear start
  have hr7 := a.len
  rw [rowCells, allocK_add, allocK_add]
  have gA := Grew.add w (.cells r 28 none)
  have aA : At (h.add (.cells r 28 none)) (.pointer (some ⟨h.next, 0, none⟩)) r := At.new
  have nA : (h.add (.cells r 28 none)).next = h.next + 1 := rfl
  generalize h.add (.cells r 28 none) = hA at gA aA nA ⊢
  have g1 : Grew h (hA.add (.cells [(Value.int .i64 (Int.ofNat 0)), (Value.int .i64 (Int.ofNat 0))] 23 none)) := gA.trans (Grew.add gA.wf _)
  have a1 := atAdd gA.wf aA (.cells [(Value.int .i64 (Int.ofNat 0)), (Value.int .i64 (Int.ofNat 0))] 23 none)
  have c1 : (hA.add (.cells [(Value.int .i64 (Int.ofNat 0)), (Value.int .i64 (Int.ofNat 0))] 23 none)).get hA.next = some (.cells [(Value.int .i64 (Int.ofNat 0)), (Value.int .i64 (Int.ofNat 0))] 23 none) := by rw [get_add, if_pos rfl]
  generalize hA.add (.cells [(Value.int .i64 (Int.ofNat 0)), (Value.int .i64 (Int.ofNat 0))] 23 none) = h1 at g1 a1 c1 ⊢
  have hle : h.next ≤ hA.next := by omega
  generalize hA.next = b1 at c1 hle ⊢
  clear aA nA gA
  have s1 := a.sub g1.sub
  obtain ⟨hx, lk, ex, gx, lx, ox, kx⟩ := open58_at (h := shutH h1) (wfShut g1.wf) s1
  obtain ⟨h3, e3, g3⟩ := callQ_any g1.wf ex gx
  rw [a1.loadN (z := 7) hr7, e3, pairK_some', extK_at (v := .agg (Array.mk lk)) rfl, extK_at (v := .int .i64 (checkH s).2.2) rfl, intK_int]
  have g13 := g1.trans g3
  obtain ⟨h8, p, g8, a8, k8⟩ := alloc_store (ρ := Value × Hp) (z := 7) g13.wf 97 (c := zero97) (l := lk) rfl lx ox (fun _ _ => none)
  have g18 := g13.trans g8
  have c8 := g8.sub _ _ (g3.sub _ _ c1)
  rw [show [(Value.int .i64 (Int.ofNat 0)), (Value.int .i64 (Int.ofNat 0)), (Value.int .i64 (Int.ofNat 0)), (Value.slice none 0 0), (Value.slice none 0 0), (Value.slice none 0 0), (Value.slice none 0 0)] = zero97 from rfl, k8, boolN_eq, eqZ_dec, ifB_if]
  have fin : ∀ (h9 : Hp) (x : Int × Int) (e : Int), Grew h8 h9 → ∃ h', (storeNK 2 h9 (.pointer (some ⟨b1, 0, none⟩)) (spV x) fun h11 => loadNK 2 h11 (.pointer (some ⟨b1, 0, none⟩)) fun v12 => some (Value.tuple (List.toArray [v12, (Value.int .i64 e)]), h11)) = some (spE (x, e), h') := by
    intro h9 x e g9
    obtain ⟨h11, g11, a11, k11, _⟩ := put_whole (z := 2) (l := [.int .i64 x.1, .int .i64 x.2]) w (g18.trans g9) hle (g9.sub _ _ c8) rfl rfl rfl
    refine ⟨h11, ?_⟩
    show (storeNK 2 h9 (.pointer (some ⟨b1, 0, none⟩)) (.agg (Array.mk [.int .i64 x.1, .int .i64 x.2])) fun h11 => _) = _
    rw [k11, a11.loadN (z := 2) rfl]
    rfl
  unfold warmthS
  by_cases e0 : (checkH s).2.2 = 0
  case neg =>
    rw [if_pos (by simpa using e0), if_pos e0, build23_0, optK_some']
    exact fin h8 _ _ (Grew.refl g18.wf)
  have hlk := kx e0
  subst hlk
  have ok := check_ok e0
  have lp := ok.pls
  have s8 := a.sub g18.sub
  obtain ⟨vh, vp, vf, vb, hrow, sh, sp, sw, sf, sb⟩ := a
  have sp8 := sp.sub g18.sub
  obtain ⟨q, hq, aq⟩ := a8.part 0 7 (by omega)
  rw [if_neg (by simpa using e0), if_neg (by simpa using e0), hq, aq.fld 4 (x := vp) (by rw [hrow]; rfl), sp8.rows.len, List.length_map, one24, pairK_some', index59_at h8 (by omega), optK_some', pairK_some', boolK_bool, boolN_eq, ifB_if]
  have gp := Grew.add g18.wf (.cells [.int .i64 place] 3 none)
  have a18 := a8.sub gp.sub
  have s18 := s8.sub gp.sub
  generalize h8.add (.cells [.int .i64 place] 3 none) = h18 at gp a18 s18 ⊢
  cases c2 : inB 0 ((s.pls.length : Int) - 1) place with
  | false =>
    rw [if_pos (by rfl), if_pos (by rfl), build23_0, optK_some']
    exact fin h18 _ _ gp
  | true =>
  obtain ⟨st0, st3⟩ := ok.stoves
  obtain ⟨n, hn⟩ : ∃ n : Nat, s.stoves = (n : Int) := ⟨s.stoves.toNat, by omega⟩
  have hn3 : n ≤ 3 := by omega
  obtain ⟨h60, e60⟩ := lit60_at (h := shutH h18) (wfShut gp.wf) (we := s.we) (vh := vh) (vp := vp) (vf := vf) (vb := vb) hn3 lit
  have hrow' : lk = hoRow s.we (n : Int) vh vp vf vb := by rw [hrow, hn]
  rw [if_neg (by simp), if_neg (by simp), a18.loadN (z := 7) hr7, hrow', callQ_plain1 e60 rfl, pairK_some', intK_int, boolN_eq, eqZ_dec, ifB_if]
  have p2 := pow3 n hn3
  rw [show s.stoves.toNat = n by omega]
  cases c3 : inB 0 (2 ^ n - 1) lit with
  | false =>
    rw [show (if (false = true) then (0 : Int) else 7) = 7 from rfl, if_pos (by rfl), if_pos (by rfl), build23_0, optK_some']
    exact fin h18 _ _ gp
  | true =>
  have hl := inB_iff.1 c3
  have hp := inB_iff.1 c2
  obtain ⟨l, rfl⟩ : ∃ l : Nat, lit = (l : Int) := ⟨lit.toNat, by omega⟩
  obtain ⟨k, rfl⟩ : ∃ k : Nat, place = (k : Int) := ⟨place.toNat, by omega⟩
  have hk : k < s.pls.length := by omega
  obtain ⟨o1, o2, _⟩ := ok.pl k hk
  have w61 := warm61_at s18 (by have := ok.we; omega) (lit := l) (by omega) hk o2 (by omega)
  rw [show (if (true = true) then (0 : Int) else 7) = 0 from rfl, if_neg (by simp), if_neg (by simp), a18.loadN (z := 7) hr7, s18.heat, optK_some', w61, optK_some', pairK_some', Int.toNat_natCast, Int.toNat_natCast, List.getElem?_eq_getElem hk]
  exact fin h18 _ _ gp
end Go.Proofs.Ytekocllllbdbgaa.K.L
