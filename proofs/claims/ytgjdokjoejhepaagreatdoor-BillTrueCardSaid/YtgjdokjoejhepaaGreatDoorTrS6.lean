/- Contracts of told functions: Surely; the reference's Has, Bit. -/
import Derived.Test.YtgjdokjoejhepaaGreatDoorTrS5
open Go Go.bP
set_option maxRecDepth 100000
set_option linter.unusedVariables false
namespace Go.Proofs.YtgjdokjoejhepaaGreatDoor.K.L
theorem aCO {α : Type} (f : List α → α → Int) (all : List α) : ∀ (l : List α) (i : Nat), all.drop i = l → (jR f all i l).2 = 0 → ∀ (j : Nat) (hj : j < all.length), i ≤ j → f (all.take j) all[j] = 0
 | [], i, hd, _, j, hj, hij => by
  have : all.length ≤ i := List.drop_eq_nil_iff.1 hd
  omega
 | g :: l, i, hd, h, j, hj, hij => by
  have hi : i < all.length := by
   by_cases c : i < all.length
   ·exact c
   ·rw [List.drop_of_length_le (by omega)] at hd; cases hd
  have hd2 := hd
  rw [List.drop_eq_getElem_cons hi] at hd2
  injection hd2 with e1 e2
  unfold jR at h
  by_cases e : f (all.take i) g = 0
  ·rw [if_pos e] at h
   by_cases hij2 : i = j
   ·subst hij2; rw [e1]; exact e
   ·exact aCO f all l (i + 1) e2 h j hj (by omega)
  ·rw [if_neg e] at h; exact absurd h e
theorem aLL {m : Nat} {ts : List Int} (h : (kQ 6 (jN m) ts).2 = 0) : ts.length ≤ 6 ∧ (∀ t ∈ ts, oZ 0 (2 ^ m - 1) t = true) ∧ ts.Nodup := by
 have hl := KW h
 have h1 : (jR (jN m) ts 0 ts).2 = 0 := by unfold kQ at h; rw [if_neg (by omega)] at h; exact h
 have key := aCO (jN m) ts ts 0 rfl h1
 have two : ∀ (j : Nat) (hj : j < ts.length), oZ 0 (2 ^ m - 1) ts[j] = true ∧ (ts.take j).any (fun g => decide (ts[j] = g)) = false := by
  intro j hj
  have := key j hj (by omega)
  unfold jN at this
  cases c1 : oZ 0 (2 ^ m - 1) ts[j] with
  | false => rw [c1] at this; simp at this
  | true =>
  cases c2 : (ts.take j).any (fun g => decide (ts[j] = g)) with
  | true => rw [c1, c2] at this; simp at this
  | false => exact ⟨rfl, rfl⟩
 refine ⟨by omega, fun t ht => ?_, ?_⟩
 ·obtain ⟨j, hj, rfl⟩ := List.getElem_of_mem ht
  exact (two j hj).1
 ·rw [List.Nodup, List.pairwise_iff_getElem]
  intro i j hi hj hij e
  have := (two j hj).2
  rw [List.any_eq_false] at this
  have hm : ts[i] ∈ ts.take j := by
   rw [List.mem_iff_getElem]
   exact ⟨i, by rw [List.length_take]; omega, by rw [List.getElem_take]⟩
  exact this _ hm (by simp [e])
structure mZ (s : Sh) : Prop where
 aU : s.aU.length ≤ 6
 some : 0 < s.ts.length
 six : s.ts.length ≤ 6
 bits : ∀ t ∈ s.ts, oZ 0 (2 ^ s.aU.length - 1) t = true
 nodup : s.ts.Nodup
theorem BV {s : Sh} (h : (fT s).2.2 = 0) : mZ s := by
 unfold fT at h
 cases c1 : oZ 14 30 s.lines with
 | false => rw [c1] at h; simp at h
 | true =>
 rw [c1, if_neg (by simp)] at h
 by_cases c2 : (kQ 6 zQ s.aU).2 = 0
 case neg => rw [if_pos c2] at h; exact absurd h c2
 rw [if_neg (by simpa using c2)] at h
 by_cases c3 : s.ts.length = 0
 ·rw [if_pos c3] at h; exact absurd h (by decide)
 rw [if_neg c3] at h
 by_cases c4 : (kQ 6 (jN s.aU.length) s.ts).2 = 0
 case neg => rw [if_pos c4] at h; exact absurd h c4
 obtain ⟨x1, x2, x3⟩ := aLL c4
 have := KW c2
 exact ⟨by omega, by omega, x1, x2, x3⟩
theorem aUP (n : Nat) : (2 : Int) ^ n = ((2 ^ n : Nat) : Int) := by simp
theorem mZ.small {s : Sh} (f : mZ s) : ∀ t ∈ s.ts, 0 ≤ t ∧ t ≤ 63 := fun t ht => by
 obtain ⟨a, b⟩ := jH.1 (f.bits t ht)
 have := (RA _ f.aU).2
 omega
theorem aCM {h : Hp} (w : Wf h) {s : Sh} {r : List Value} (a : yX h s r) (n : Int) : ∃ h', F18 [.agg (Array.mk r), .int .i64 n] h = some (MH (ML s n), h') := by
 have start : F18 [.agg (Array.mk r), .int .i64 n] h = aHJ (aP T18 999999) (.agg (Array.mk r)) n h := rfl
 rw [start]
 unfold aHJ
 have hr3 := a.len
 rw [fQ, bL]
 have g0 : bE h (h.add (.cells r 25 none)) := bE.add w _
 have a0 : At (h.add (.cells r 25 none)) (.pointer (some ⟨h.next, 0, none⟩)) r := At.new
 generalize h.add (.cells r 25 none) = h0 at g0 a0 ⊢
 obtain ⟨h2', lk, e2, gg, hl3, h1c, hlk⟩ := V3 (h := bK h0) (fZ g0.wf) (a.sub g0.sub)
 obtain ⟨h2, e3, g2⟩ := KM g0.wf e2 gg
 rw [a0.fF (z := 3) hr3, e3, aD, eP (v := .agg (Array.mk lk)) rfl, eP (v := .int .i64 (fT s).2.2) rfl, aK, bL]
 have g3 : bE h (h2.add (.cells qZ 88 none)) := (g0.trans g2).trans (bE.add g2.wf _)
 have c3 : (h2.add (.cells qZ 88 none)).get h2.next = some (.cells qZ 88 none) := by rw [dM, if_pos rfl]
 rw [show [(Value.int .i64 (Int.ofNat 0)), (Value.slice none 0 0), (Value.slice none 0 0)] = qZ from rfl]
 obtain ⟨h4, g4, a4, k4, _⟩ := xD (z := 3) (l := lk) w g3 (b := h2.next) (by have := (g0.trans g2).next; omega) c3 rfl hl3 h1c
 rw [k4, aX, dJ, aI]
 unfold ML
 by_cases e0 : (fT s).2.2 = 0
 case neg =>
  rw [if_pos (by simpa using e0), if_pos e0]
  exact ⟨_, rfl⟩
 have F := BV e0
 obtain ⟨p1, p2⟩ := RA _ F.aU
 rw [hlk e0] at a4
 have sa := a.sub g4.sub
 rw [if_neg (by simpa using e0), if_neg (by simpa using e0)]
 generalize Value.pointer (some ⟨h2.next, 0, none⟩) = p at a4 ⊢
 obtain ⟨vf, vt, rfl, sf, st⟩ := id sa
 obtain ⟨q0, hq0, aq0⟩ := a4.part 0 3 (by show 3 ≤ 3; decide)
 have w5 := g4.wf.add (.cells [.int .i64 n] 3 none)
 have g5 := (bE.add g4.wf (.cells [.int .i64 n] 3 none)).sub
 rw [hq0, (show At h4 q0 (eT s.lines vf vt) from aq0).lK 1 (x := vf) rfl, sf.rows.len, List.length_map, aFN _ _ F.aU, vT, aD, FK h4 (by omega), aM, aD, aO, aX, aI]
 cases c : oZ 0 (2 ^ s.aU.length - 1) n with
 | false => rw [if_pos (by rfl), if_pos (by rfl)]; exact ⟨_, rfl⟩
 | true =>
 obtain ⟨n1, n2⟩ := jH.1 c
 rw [if_neg (by simp), if_neg (by simp), (a4.sub g5).fF (z := 3) rfl]
 obtain ⟨h6, e6⟩ := MM (h := bK (h4.add (.cells [.int .i64 n] 3 none))) (fZ w5) (sa.sub g5) n (by have := F.six; omega) (fun t ht => by have := F.small t ht; omega) (by omega)
 rw [bD e6 rfl, aD, aO]
 exact ⟨_, rfl⟩
theorem RH {h : Hp} {v : Value} {gs : List Int} (x : Int) (hr : bP.Rows h 1 v (gs.map dH)) (hlen : gs.length ≤ 900000) : ∀ m i n, i + m = gs.length → m + 2 ≤ n →
  G.aP (T44 h) n 1 (aR.v v (aR.i x (aR.i (i : Int) aR.n))) = some (.bool ((gs.drop i).any (fun g => decide (x = g))))
 | 0, i, n + 2, him, hn => by
  show U5 h (G.aP (T44 h) (n + 1)) v x (i : Int) = _
  unfold U5
  rw [hr.len, List.length_map, aN, bA, aI, if_neg (by simp; omega), List.drop_of_length_le (by omega)]
  rfl
 | m + 1, i, n + 1, him, hn => by
  have hi : i < gs.length := by omega
  have hg : (gs.map dH)[i]? = some (dH gs[i]) := by rw [List.getElem?_map, List.getElem?_eq_getElem hi]; rfl
  obtain ⟨q, hq, haq, hl⟩ := hr.at hg
  show U5 h (G.aP (T44 h) n) v x (i : Int) = _
  unfold U5
  rw [hr.len, List.length_map, aN, bA, aI, if_pos (by simp; omega), hq, haq.lV (x := .int .i64 gs[i]) rfl, aK, aN, dJ, aI, List.drop_eq_getElem_cons hi, List.any_cons]
  by_cases e : gs[i] = x
  ·rw [if_pos (by simpa using e)]; simp [e]
  ·rw [if_neg (by simpa using e), show Int.add (i : Int) (Int.ofNat 1) = ((i + 1 : Nat) : Int) from rfl, wrap64_in _ (by omega) (by omega), RH x hr hlen m (i + 1) n (by omega) (by omega)]
   have e' : ¬ x = gs[i] := fun c => e c.symm
   simp [e']
theorem Q7 {h : Hp} {v : Value} {gs : List Int} (x : Int) (hr : bP.Rows h 1 v (gs.map dH)) (hlen : gs.length ≤ 900000) : F44 [v, .int .i64 x] h = some (.bool (gs.any fun g => decide (x = g))) := by
 have step : ∀ n, G.aP (T44 h) (n + 1) 0 (aR.v v (aR.i x aR.n)) = aHP h (G.aP (T44 h) n) v x := fun n => rfl
 show plainO (G.aP (T44 h) (999999 + 1) 0 (aR.v v (aR.i x aR.n))) = _
 rw [step]
 unfold aHP
 have := RH x hr hlen gs.length 0 999999 (by omega) (by omega)
 rw [List.drop_zero] at this
 rw [show (Int.ofNat 0) = ((0 : Nat) : Int) from rfl, this]
 rfl
theorem a1X {a b : Int} (h0 : 0 ≤ a) (hb : 0 < b) : lH env .rem 3 (.int .i64 a) (.int .i64 b) = some (.int .i64 (a % b)) := by
 unfold lH nG
 rw [show CJ .rem (.int .i64 a) (.int .i64 b) = none from rfl]
 simp only
 rw [fD rfl]
 simp only [Op.intDiv]
 rw [if_neg (by omega)]
 rw [Int.tmod_eq_emod_of_nonneg h0]
 rfl
theorem aCP {ρ : Type} {k : IntKind} {a : Int} (f : Int → Option ρ) : nN k (some (.int k a)) f = f a := by
 show bI k (.int k a) f = _
 exact aK k a f
def IX (t n : Nat) : Bool := Nat.testBit t n
theorem aB8 (h : Hp) (t n : Nat) (hn : n ≤ 60) : F42 [.int .i64 (t : Int), .int .i64 (n : Int)] h = some (.bool (IX t n)) := by
 show plainO (aHT h (G.aP (T42 h) 999999) (t : Int) (n : Int)) = _
 unfold aHT
 unfold aDY
 show plainO (dI (Nat.ble n 64) (gN (Nat.shiftRight t n) fun c => _) _) = _
 rw [show Nat.ble n 64 = true from by rw [Nat.ble_eq]; omega, bU]
 show plainO (nN .i64 (lH env .rem 3 (Value.int .i64 (Int.ofNat (Nat.shiftRight t n))) (Value.int .i64 (Int.ofNat 2))) _) = _
 rw [a1X (a := Int.ofNat (Nat.shiftRight t n)) (b := Int.ofNat 2) (Int.natCast_nonneg _) (by decide), aCP, aN, dJ]
 show some (Value.bool _) = _
 congr 2
 unfold IX
 rw [Bool.eq_iff_iff, Nat.testBit_eq_decide_div_mod_eq]
 simp only [decide_eq_true_iff]
 rw [show Nat.shiftRight t n = t / 2 ^ n from Nat.shiftRight_eq_div_pow t n]
 have : (Int.ofNat (t / 2 ^ n)) % (Int.ofNat 2) = (((t / 2 ^ n) % 2 : Nat) : Int) := by simp
 rw [this]
 constructor
 ·intro e; have : ((t / 2 ^ n % 2 : Nat) : Int) = 1 := e; omega
 ·intro e; rw [e]; rfl
end Go.Proofs.YtgjdokjoejhepaaGreatDoor.K.L
