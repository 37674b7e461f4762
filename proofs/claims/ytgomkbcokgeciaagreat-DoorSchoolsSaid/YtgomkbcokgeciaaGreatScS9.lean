/- The law: schools that come as one, for any book and numbers. -/
import Derived.Test.YtgomkbcokgeciaaGreatScS8
open Go Go.bR
set_option maxRecDepth 100000
set_option linter.unusedVariables false
namespace Go.Proofs.YtgomkbcokgeciaaGreat.K.L
theorem aRF {p a b : Int} (hp : 0 ≤ p ∧ p ≤ 60) (h0 : 0 ≤ a) (h : a ≤ b) : EC p a ≤ EC p b := by
 unfold EC
 exact Int.mul_le_mul_of_nonneg_right (by omega) (by omega)
theorem a6Z {p n : Int} (hp : 0 ≤ p ∧ p ≤ 60) (h0 : 0 ≤ n) : EC p n ≤ p / 2 * n := by
 unfold EC
 rw [Int.mul_comm (p / 2) n]
 exact Int.mul_le_mul_of_nonneg_right (by omega) (by omega)
def thirteen : List Sc → Int
 | [] => 0
 | g :: l => g.kids / 13 + thirteen l
theorem apart_eq (p : Int) : ∀ l : List Sc, kC p l = (lZ l - thirteen l) * (p / 2)
 | [] => by show (0 : Int) = (0 - 0) * (p / 2); simp
 | g :: l => by
  show EC p g.kids + kC p l = (g.kids + lZ l - (g.kids / 13 + thirteen l)) * (p / 2)
  rw [apart_eq p l]
  unfold EC
  rw [← Int.add_mul]
  congr 1
  omega
theorem BZ : ∀ {l : List Sc}, (∀ g ∈ l, 0 ≤ g.kids ∧ g.kids ≤ 60) → 0 ≤ thirteen l ∧ 13 * thirteen l ≤ lZ l ∧ lZ l ≤ 13 * thirteen l + 12 * l.length
 | [], _ => ⟨by decide, by decide, by decide⟩
 | g :: l, h => by
  obtain ⟨h0, h1, h2⟩ := BZ (l := l) fun x hx => h x (.tail _ hx)
  have := h g (.head _)
  show 0 ≤ g.kids / 13 + thirteen l ∧ 13 * (g.kids / 13 + thirteen l) ≤ g.kids + lZ l ∧ g.kids + lZ l ≤ 13 * (g.kids / 13 + thirteen l) + 12 * ((l.length + 1 : Nat) : Int)
  omega
theorem aDH {p : Int} (hp : 0 ≤ p ∧ p ≤ 60) {l : List Sc} (h : ∀ g ∈ l, 0 ≤ g.kids ∧ g.kids ≤ 60) : EC p (lZ l) ≤ kC p l := by
 obtain ⟨h0, h1, h2⟩ := BZ h
 rw [apart_eq]
 unfold EC
 exact Int.mul_le_mul_of_nonneg_right (by omega) (by omega)
theorem aRG {p : Int} (hp : 0 ≤ p ∧ p ≤ 60) {l : List Sc} (h : ∀ g ∈ l, 0 ≤ g.kids ∧ g.kids ≤ 60) (hl : l.length ≤ 3) : kC p l - EC p (lZ l) ≤ p / 2 * max 0 ((l.length : Int) - 1) := by
 obtain ⟨h0, h1, h2⟩ := BZ h
 rw [apart_eq]
 unfold EC
 rw [← Int.sub_mul, Int.mul_comm (p / 2)]
 exact Int.mul_le_mul_of_nonneg_right (by omega) (by omega)
theorem aDI {p : Int} (hp : 0 ≤ p ∧ p ≤ 60) : ∀ {l : List Sc}, (∀ g ∈ l, 0 ≤ g.kids ∧ g.kids ≤ 60) → 0 ≤ kC p l ∧ kC p l ≤ 1800 * l.length
 | [], _ => ⟨Int.le_refl 0, by show (0 : Int) ≤ 1800 * ((0 : Nat) : Int); decide⟩
 | g :: l, h => by
  obtain ⟨h1, h2⟩ := aDI hp (l := l) fun x hx => h x (.tail _ hx)
  have := h g (.head _)
  obtain ⟨f1, f2⟩ := RA hp (n := g.kids) (by omega)
  show 0 ≤ EC p g.kids + kC p l ∧ EC p g.kids + kC p l ≤ 1800 * ((l.length + 1 : Nat) : Int)
  omega
theorem RF {ρ : Type} (h : Hp) (k : Value → Option ρ) : dG (aHB [] h) k = k (.bool true) := rfl
theorem bE9 (n : Nat) (b : Int) (p : Value) (c : Bool) (h : Hp) : aQ T9 (n + 1) 1 (AL.i b (AL.v p (AL.b c AL.n))) h = aYP (aQ T9 n) b p c h := rfl
theorem bFA (n : Nat) (b : Int) (p : Value) (h : Hp) : aQ T9 (n + 1) 2 (AL.i b (AL.v p AL.n)) h = aRH (aQ T9 n) b p h := rfl
theorem aRI {x y : Int} (hx : 0 ≤ x ∧ x ≤ 1000) (hy : 0 ≤ y ∧ y ≤ 1000) : 0 ≤ x * y ∧ x * y ≤ 1000000 := by
 have a := Int.mul_nonneg hx.1 hy.1
 have b := Int.mul_le_mul hx.2 hy.2 hy.1 (by omega)
 omega
theorem a7A {h : Hp} (w : Wf h) {s : Bk} {vr vd p : Value} (a : At h p (iL s.bH vr vd)) (sr : uP h 3 vr (s.fD.map Rm.row)) (sd : uP h 5 vd (s.days.map Dy.row)) (ds : ∀ g ∈ s.days, DyA h g) (c0 : (gH s).2.2 = 0) (b : Nat) (hb : b ≤ 255) (n : Nat) :
  ∃ h', aRH (aQ T9 n) (b : Int) p h = some (.bool true, h') := by
 have P := IZ c0
 obtain ⟨l4, D⟩ := YV c0
 unfold aRH
 rw [a.sF 2 (x := vd) rfl, sd.rows.len, List.length_map, aS, dX, aI]
 by_cases z : s.days.length = 0
 ·rw [if_pos (by simp [z]), RF, aC, aV]; exact ⟨_, rfl⟩
 have hk : b % s.days.length < s.days.length := Nat.mod_lt _ (by omega)
 rw [if_neg (by simp; intro e; exact z (by simp [e])), wrap64_in _ (by omega) (by omega), a.sF 2 (x := vd) rfl, sd.rows.len, List.length_map, Q9 (by omega) (by omega), kL, show ((b : Int) % (s.days.length : Int)) = ((b % s.days.length : Nat) : Int) from (Int.natCast_emod _ _).symm]
 generalize b % s.days.length = k at hk
 have e0 : wG s (k : Int) = 0 := by
  unfold wG
  rw [if_neg (by simp [c0]), sJ.2 (show (0 : Int) ≤ (k : Int) ∧ (k : Int) ≤ (s.days.length : Int) - 1 from by omega)]
  rfl
 obtain ⟨l3, hk1, hs⟩ := aQ5 (D k hk)
 have hss : aN4 s (k : Int) = (s.days[k]).ss := by
  unfold aN4
  rw [show ((k : Int)).toNat = k from by simp, List.getElem?_eq_getElem hk]
 have hbk : ∀ g ∈ (s.days[k]).ss, 0 ≤ g.kids ∧ g.kids ≤ 60 := fun g hg => by have := hk1 g hg; omega
 have hS := YQ hbk
 have tg : aYL s (k : Int) = (kC s.bH (s.days[k]).ss, EC s.bH (lZ (s.days[k]).ss), 0) := by
  unfold aYL; rw [if_neg (by simp [e0]), hss]
 obtain ⟨h2, e2⟩ := TG (h := eT h) (jG w) (s := s) (r := iL s.bH vr vd) ⟨vr, vd, rfl, sr, sd, ds⟩ (k : Int)
 rw [tg] at e2
 have DA := ds _ (List.getElem_mem hk)
 have hg : (s.days.map Dy.row)[k]? = some (s.days[k]).row := by rw [List.getElem?_map, List.getElem?_eq_getElem hk]; rfl
 obtain ⟨q, hq, haq, hl⟩ := sd.rows.at hg
 have A := aDI (p := s.bH) (by omega) hbk
 have F := RA (p := s.bH) (n := lZ (s.days[k]).ss) (by omega) (by omega)
 have T1 := aDH (p := s.bH) (by omega) hbk
 have T2 := aRG (p := s.bH) (by omega) hbk l3
 have M := aRI (x := s.bH / 2) (y := max 0 (((s.days[k]).ss.length : Int) - 1)) (by omega) (by omega)
 rw [a.gG (z := 3) rfl, bF e2 rfl, aC]
 unfold aG2
 rw [dQ (v := .int .i64 (kC s.bH (s.days[k]).ss)) rfl, aJ, dQ (v := .int .i64 (EC s.bH (lZ (s.days[k]).ss))) rfl, aJ, dQ (v := .int .i64 0) rfl, aJ, a.sF 2 (x := vd) rfl, hq, haq.sF 0 (x := (s.days[k]).sv) rfl, DA.1.rows.len, List.length_map,
  aS, dX, aI, if_pos (by rfl), aO, aZ, aI, if_pos (by simpa using T1), show Int.sub (kC s.bH (s.days[k]).ss) (EC s.bH (lZ (s.days[k]).ss)) = kC s.bH (s.days[k]).ss - EC s.bH (lZ (s.days[k]).ss) from rfl, wrap64_in _ (by omega) (by omega),
  a.sF 0 (x := .int .i64 s.bH) rfl, aJ, show (Int.ofNat 2) = (2 : Int) from rfl, YS (by omega) (by omega) (by omega), kL, show Int.sub ((s.days[k]).ss.length : Int) (Int.ofNat 1) = ((s.days[k]).ss.length : Int) - 1 from rfl, wrap64_in _ (by omega) (by omega), XY,
  show Int.mul (s.bH / 2) (max (Int.ofNat 0) (((s.days[k]).ss.length : Int) - 1)) = s.bH / 2 * max 0 (((s.days[k]).ss.length : Int) - 1) from rfl, wrap64_in _ (by omega) (by omega), aO, aZ, aI, if_pos (by simpa using T2), RF, aC, aV]
 exact ⟨_, rfl⟩
theorem aYQ {h : Hp} (w : Wf h) {s : Bk} {r : List Value} (a : YC h s r) (b x y : Nat) (hb : b ≤ 255) (hx : x ≤ 255) (hy : y ≤ 255) : ∃ h', F9 [.agg (Array.mk r), .int .u8 (b : Int), .agg (Array.mk [.int .u8 (x : Int), .int .u8 (y : Int)])] h = some (.bool true, h') := by
 have start : F9 [.agg (Array.mk r), .int .u8 (b : Int), .agg (Array.mk [.int .u8 (x : Int), .int .u8 (y : Int)])] h = aYR (aQ T9 999999) (.agg (Array.mk r)) (b : Int) (.agg (Array.mk [.int .u8 (x : Int), .int .u8 (y : Int)])) h := rfl
 rw [start]
 unfold aYR
 have hr3 := a.len
 rw [iC, iC, dS, dS]
 have g0 : dW h (h.add (.cells r 25 none)) := dW.add w _
 have a0 : At (h.add (.cells r 25 none)) (.pointer (some ⟨h.next, 0, none⟩)) r := At.new
 generalize h.add (.cells r 25 none) = h0 at g0 a0 ⊢
 have g1 : dW h (h0.add (.cells [.int .u8 (x : Int), .int .u8 (y : Int)] 80 none)) := g0.trans (dW.add g0.wf _)
 have a1 : At (h0.add (.cells [.int .u8 (x : Int), .int .u8 (y : Int)] 80 none)) (.pointer (some ⟨h.next, 0, none⟩)) r := ET g0.wf a0 _
 have c1 : (h0.add (.cells [.int .u8 (x : Int), .int .u8 (y : Int)] 80 none)).get h0.next = some (.cells [.int .u8 (x : Int), .int .u8 (y : Int)] 80 none) := by rw [gT, if_pos rfl]
 generalize h0.next = b1 at c1 ⊢
 generalize h0.add (.cells [.int .u8 (x : Int), .int .u8 (y : Int)] 80 none) = h1 at g1 a1 c1 ⊢
 generalize Value.pointer (some ⟨h.next, 0, none⟩) = p at a1 ⊢
 have s1 := a.sub g1.sub
 have w1 := g1.wf
 obtain ⟨h2, e2⟩ := aHA (h := eT h1) (jG w1) s1
 rw [a1.gG (z := 3) hr3, bF e2 rfl, aC, aV, aO, aI]
 by_cases c0 : (gH s).2.2 = 0
 case neg =>
  obtain ⟨h3, e3⟩ := BV (h := eT h1) (jG w1) s1 0
  have E : aN3 s 0 = (0, (gH s).2.2) := by unfold aN3; rw [if_pos c0]
  rw [E] at e3
  rw [if_pos (by simp [c0]), a1.gG (z := 3) hr3, show (Int.ofNat 0) = (0 : Int) from rfl, bF e3 rfl, aC]
  unfold lH
  rw [dQ (v := .int .i64 0) rfl, aJ, dQ (v := .int .i64 (gH s).2.2) rfl, aJ, aO, dX, aI, if_pos (by simpa using c0), RF, aC, aV]
  exact ⟨_, rfl⟩
 have P := IZ c0
 have i0 : ∀ (ρ : Type) (kk : Value → Option ρ), LX 2 1 (.pointer (some ⟨b1, 0, none⟩)) (Int.ofNat 0) kk = kk (.pointer (some ⟨b1, 0, none⟩)) := fun ρ kk => rfl
 have i1 : ∀ (ρ : Type) (kk : Value → Option ρ), LX 2 1 (.pointer (some ⟨b1, 0, none⟩)) (Int.ofNat 1) kk = kk (.pointer (some ⟨b1, 1, none⟩)) := fun ρ kk => rfl
 have cS : (Hp.mk h1.next h1.next h1.aK).get b1 = some (.cells [.int .u8 (x : Int), .int .u8 (y : Int)] 80 none) := c1
 rw [if_neg (by simp [c0]), i0, yS cS (v := .int .u8 (x : Int)) rfl, aJ, wrap64_in _ (by omega) (by omega), show (Int.ofNat 61) = (61 : Int) from rfl, Q9 (by omega) (by omega), kL, i1, yS cS (v := .int .u8 (y : Int)) rfl, aJ, wrap64_in _ (by omega) (by omega), Q9 (by omega) (by omega), kL,
  show (Hp.mk h1.next h1.ro h1.aK) = h1 from rfl, a1.gG (z := 3) hr3, aX3]
 have hm : 0 ≤ (x : Int) % 61 ∧ (x : Int) % 61 ≤ 60 := by omega
 have hn : 0 ≤ (y : Int) % 61 ∧ (y : Int) % 61 ≤ 60 := by omega
 generalize (x : Int) % 61 = m at hm ⊢
 generalize (y : Int) % 61 = n at hn ⊢
 have sch : ∀ z : Int, 0 ≤ z → z ≤ 60 → aN3 s z = (EC s.bH z, 0) := by
  intro z z0 z1
  unfold aN3
  rw [if_neg (by simp [c0]), sJ.2 ⟨z0, z1⟩]
  rfl
 have hlo : 0 ≤ min m n ∧ min m n ≤ 60 := by omega
 have hhi : 0 ≤ max m n ∧ max m n ≤ 60 := by omega
 obtain ⟨h3, e3⟩ := BV (h := eT h1) (jG w1) s1 (min m n)
 obtain ⟨h4, e4⟩ := BV (h := eT h1) (jG w1) s1 (max m n)
 rw [sch _ hlo.1 hlo.2] at e3
 rw [sch _ hhi.1 hhi.2] at e4
 have F1 := RA (p := s.bH) (n := min m n) (by omega) (by omega)
 have F2 := aRF (p := s.bH) (a := min m n) (b := max m n) (by omega) hlo.1 (by omega)
 have F3 := a6Z (p := s.bH) (n := max m n) (by omega) hhi.1
 have M := aRI (x := s.bH / 2) (y := max m n) (by omega) (by omega)
 obtain ⟨vr, vd, rfl, sr, sd, ds⟩ := s1
 rw [bF e3 rfl, aC]
 unfold lH
 rw [dQ (v := .int .i64 (EC s.bH (min m n))) rfl, aJ, dQ (v := .int .i64 0) rfl, aJ, a1.gG (z := 3) hr3, XY, bF e4 rfl, aC]
 unfold lH
 rw [dQ (v := .int .i64 (EC s.bH (max m n))) rfl, aJ, dQ (v := .int .i64 0) rfl, aJ, aO, dX, aI, if_neg (by simp), aO, aI, if_neg (by simp), aS, aZ, aI, if_neg (by simp; omega), aS, aZ, aI, if_neg (by simp; omega),
  a1.sF 0 (x := .int .i64 s.bH) rfl, aJ, show (Int.ofNat 2) = (2 : Int) from rfl, YS (by omega) (by omega) (by omega), kL, XY, show Int.mul (s.bH / 2) (max m n) = s.bH / 2 * max m n from rfl, wrap64_in _ (by omega) (by omega), aS, aZ, decide_eq_false (show ¬ (s.bH / 2 * max m n < EC s.bH (max m n)) from by omega), bE9 999998]
 unfold aYP
 rw [aI, if_neg (by simp), bFA 999997]
 exact a7A w1 a1 sr sd ds c0 b hb 999997
end Go.Proofs.YtgomkbcokgeciaaGreat.K.L
