/- Division; what a gown costs; a show opened. -/
import Derived.Test.YtaegcofpbihmhaaS10
open Go Go.Eng
set_option maxRecDepth 100000
set_option linter.unusedVariables false
namespace Go.Proofs.Ytaegcofpbihmhaa.K.L
theorem wrap_i64 {n : Int} (h1 : -9223372036854775808 ≤ n) (h2 : n ≤ 9223372036854775807) : IntKind.i64.wrap n = n := by
  simp only [IntKind.wrap, IntKind.bits, IntKind.signed]
  simp
  omega
theorem quo_at {a b : Int} (h0 : 0 ≤ a) (h1 : a ≤ 1000000000) (hb : 0 < b) : binW env .quo 3 (.int .i64 a) (.int .i64 b) = some (.int .i64 (a / b)) := by
  unfold binW binV
  rw [show intFast .quo (.int .i64 a) (.int .i64 b) = none from rfl]
  simp only
  rw [binV1_ints rfl]
  simp only [Op.intDiv]
  rw [if_neg (by omega)]
  rw [Int.tdiv_eq_ediv_of_nonneg h0]
  have hd : a / b ≤ a := Int.ediv_le_self _ h0
  have hd0 : 0 ≤ a / b := Int.ediv_nonneg h0 (by omega)
  rw [wrap_i64 (by omega) (by omega)]
  rfl
theorem rem_at {a b : Int} (h0 : 0 ≤ a) (hb : 0 < b) : binW env .rem 3 (.int .i64 a) (.int .i64 b) = some (.int .i64 (a % b)) := by
  unfold binW binV
  rw [show intFast .rem (.int .i64 a) (.int .i64 b) = none from rfl]
  simp only
  rw [binV1_ints rfl]
  simp only [Op.intDiv]
  rw [if_neg (by omega)]
  rw [Int.tmod_eq_emod_of_nonneg h0]
  rfl
theorem slowI_some' {ρ : Type} {k : IntKind} {a : Int} (f : Int → Option ρ) : slowI k (some (.int k a)) f = f a := by
  show intK k (.int k a) f = _
  exact intK_int k a f
def costS (g : Gw) (day : Int) : Int := g.loan + ((g.ago + day) / 30 + 1) * g.rate
theorem cost42_at (h : Hp) (g : Gw) {day : Int} (hs : 0 ≤ g.loan ∧ g.loan ≤ 5000 ∧ 0 ≤ g.rate ∧ g.rate ≤ 500 ∧ 0 ≤ g.ago ∧ g.ago ≤ 364) (hd : 0 ≤ day ∧ day ≤ 364) : F42 [.agg (Array.mk g.row), .int .i64 day] h = some (.int .i64 (costS g day)) := by
  show plainO (P42x0 h (G.rec' (T42 h) 999999) (.agg (Array.mk g.row)) day) = _
  unfold P42x0 costS
  try unfold ki
  obtain ⟨l0, l1, r0, r1, a0, a1⟩ := hs
  have e1 : (0 : Int) ≤ (g.ago + day) / 30 := Int.ediv_nonneg (by omega) (by omega)
  have e2 : (g.ago + day) / 30 ≤ 24 := by omega
  have e3 : 0 ≤ ((g.ago + day) / 30 + 1) * g.rate := Int.mul_nonneg (by omega) r0
  have e4 : ((g.ago + day) / 30 + 1) * g.rate ≤ 25 * 500 := by
    refine Int.le_trans (Int.mul_le_mul_of_nonneg_right (show (g.ago + day) / 30 + 1 ≤ 25 by omega) r0) ?_
    omega
  rw [rowCells, forceL_eq, nthR_get _ _ 6 (.int .i64 g.ago) rfl, intK_int, show Int.add g.ago day = g.ago + day from rfl, wrap64_in _ (by omega) (by omega), show (Int.ofNat 30) = (30 : Int) from rfl, quo_at (by omega) (by omega) (by omega), slowI_some', show Int.add ((g.ago + day) / 30) (Int.ofNat 1) = (g.ago + day) / 30 + 1 from rfl, wrap64_in _ (by omega) (by omega),
    nthR_get _ _ 3 (.int .i64 g.loan) rfl, intK_int, nthR_get _ _ 4 (.int .i64 g.rate) rfl, intK_int, show Int.mul ((g.ago + day) / 30 + 1) g.rate = ((g.ago + day) / 30 + 1) * g.rate from rfl, wrap64_in _ (by omega) (by omega), show Int.add g.loan (((g.ago + day) / 30 + 1) * g.rate) = g.loan + ((g.ago + day) / 30 + 1) * g.rate from rfl, wrap64_in _ (by omega) (by omega)]
  rfl
theorem SlA.sl {h : Hp} {z : Nat} {v : Value} {rs : List (List Value)} (a : SlA h z v rs) : ∃ b n c, v = .slice b n c := by
  rcases a with ⟨h1, _⟩ | ⟨b, c, t, h1, _⟩
  · exact ⟨none, 0, 0, h1⟩
  · exact ⟨_, _, _, h1⟩
noncomputable def waysV : List Value := [.bool false, .int .i64 (Int.ofNat 0), .func (.func 96) #[] #[], .func (.func 97) #[] #[], .bool true, .int .i64 (Int.ofNat 364), .func (.func 98) #[] #[], .func (.func 99) #[] #[], .bool true, .int .i64 (Int.ofNat 0), .func (.func 100) #[] #[], .func (.func 101) #[] #[]]
theorem ways73 (h : Hp) : F73 [] h = some (.agg (Array.mk waysV)) := by kernel_rfl
theorem waysPlain : plainK (.agg (Array.mk waysV)) = true := by kernel_rfl
noncomputable def zero85 : List Value := [(Value.slice none 0 0), (Value.slice none 0 0), (Value.int .i64 (Int.ofNat 0)), (Value.slice none 0 0), (Value.bool false), (Value.int .i64 (Int.ofNat 0)), Value.nilFunc, Value.nilFunc, (Value.bool false), (Value.int .i64 (Int.ofNat 0)), Value.nilFunc, Value.nilFunc, (Value.bool false), (Value.int .i64 (Int.ofNat 0)), Value.nilFunc, Value.nilFunc]
theorem build0 : buildV env 85 (List.toArray []) = some (.agg (Array.mk zero85)) := by kernel_rfl
theorem build2 (a b c : Option Addr) (n1 c1 n2 c2 n3 c3 : Nat) (p : Int) : buildV env 85 (List.toArray [(0, .agg (Array.mk [.slice a n1 c1, .slice b n2 c2, .int .i64 p, .slice c n3 c3])), (1, .agg (Array.mk waysV))]) = some (.agg (Array.mk ([.slice a n1 c1, .slice b n2 c2, .int .i64 p, .slice c n3 c3] ++ waysV))) := by kernel_rfl
end Go.Proofs.Ytaegcofpbihmhaa.K.L
