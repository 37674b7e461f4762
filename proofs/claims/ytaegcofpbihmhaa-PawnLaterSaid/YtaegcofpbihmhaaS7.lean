/- Contracts of told functions: the reference's names and numbers. -/
import Derived.Test.YtaegcofpbihmhaaS6
open Go Go.Eng
set_option maxRecDepth 100000
set_option linter.unusedVariables false
namespace Go.Proofs.Ytaegcofpbihmhaa.K.L
theorem in39_at (h : Hp) (n lo hi : Int) : F39 [.int .i64 n, .int .i64 lo, .int .i64 hi] h = some (.bool (inB lo hi n)) := by
  show plainO (P39x0 h (G.rec' (T39 h) 999999) n lo hi) = _
  unfold P39x0 inB
  try unfold ki
  rw [boolN_eq, ltZ_dec, ifB_if, boolN_eq, ltZ_dec]
  by_cases h1 : n < lo
  · rw [if_neg (by simpa using h1)]; simp [h1]; rfl
  · rw [if_pos (by simpa using h1)]; simp [h1]; rfl
theorem within95_at (h : Hp) (n lo hi : Int) : F95 [.int .i64 n, .int .i64 lo, .int .i64 hi] h = some (.bool (inB lo hi n)) := by
  show plainO (P95x0 h (G.rec' (T95 h) 999999) n lo hi) = _
  unfold P95x0 inB
  try unfold ki
  rw [boolN_eq, ltZ_dec, ifB_if, boolN_eq, ltZ_dec]
  by_cases h1 : n < lo
  · rw [if_neg (by simpa using h1)]; simp [h1]; rfl
  · rw [if_pos (by simpa using h1)]; simp [h1]; rfl
theorem letter_in (c : UInt8) : inB (Int.ofNat 97) (Int.ofNat 122) (c.toNat : Int) = letterB c := by
  unfold inB letterB
  rw [Bool.eq_iff_iff]
  simp
  omega
theorem digit_in (c : UInt8) : inB (Int.ofNat 48) (Int.ofNat 57) (c.toNat : Int) = digitB c := by
  unfold inB digitB
  rw [Bool.eq_iff_iff]
  simp
  omega
theorem dot_in (c : UInt8) : decide ((c.toNat : Int) = Int.ofNat 46) = (c == 46) := by
  rw [Bool.eq_iff_iff, decide_eq_true_iff, beq_iff_eq]
  constructor
  · intro e
    have e' : c.toNat = 46 := by simp at e; omega
    exact UInt8.toNat_inj.1 (by rw [e']; rfl)
  · intro e; rw [e]; rfl
theorem u8_in (c : UInt8) : -9223372036854775808 ≤ (c.toNat : Int) ∧ (c.toNat : Int) ≤ 9223372036854775807 := by
  have : c.toNat < 256 := c.toNat_lt
  omega
theorem name71_turn (s : ByteArray) (h : Hp) (n i : Nat) (hi : i < s.size) (hs : s.size ≤ 16) {c : UInt8} (hb : s[i]? = some c) :
    G.rec' (T71 h) (n + 3) 1 (PAL.v (.string s) (PAL.i (i : Int) PAL.n)) = if letterB c || (decide (i ≠ 0) && (digitB c || c == 46)) then G.rec' (T71 h) n 1 (PAL.v (.string s) (PAL.i ((i + 1 : Nat) : Int) PAL.n)) else some (.bool false) := by
  obtain ⟨u1, u2⟩ := u8_in c
  have step3 : ∀ (j : Int), G.rec' (T71 h) (n + 1) 3 (PAL.v (.string s) (PAL.i j PAL.n)) = P71x3 h (G.rec' (T71 h) n) (.string s) j := fun j => rfl
  have step2 : ∀ (j : Int) (a b : Bool), G.rec' (T71 h) (n + 2) 2 (PAL.v (.string s) (PAL.i j (PAL.b a (PAL.b b PAL.n)))) = P71x2 h (G.rec' (T71 h) (n + 1)) (.string s) j a b := fun j a b => rfl
  have two : ∀ (a b : Bool), P71x2 h (G.rec' (T71 h) (n + 1)) (.string s) (i : Int) a b = if a || (decide (i ≠ 0) && b) then G.rec' (T71 h) n 1 (PAL.v (.string s) (PAL.i ((i + 1 : Nat) : Int) PAL.n)) else some (.bool false) := by
    intro a b
    have three : G.rec' (T71 h) (n + 1) 3 (PAL.v (.string s) (PAL.i (i : Int) PAL.n)) = G.rec' (T71 h) n 1 (PAL.v (.string s) (PAL.i ((i + 1 : Nat) : Int) PAL.n)) := by
      rw [step3]
      unfold P71x3
      try unfold ki
      rw [show Int.add (i : Int) (Int.ofNat 1) = ((i + 1 : Nat) : Int) from rfl, wrap64_in _ (by omega) (by omega)]
    unfold P71x2
    try unfold ki
    rw [boolN_eq, ifB_if, three]
    cases a with
    | true => simp
    | false =>
      rw [if_pos (by rfl), boolZ_eq, eqZ_dec, ifB_if]
      by_cases h0 : i = 0
      · rw [if_pos (by simp [h0]), if_neg (by simp [h0])]
      · rw [if_neg (by simp; omega), boolN_eq, ifB_if]
        cases b with
        | true => rw [if_neg (by simp), if_pos (by simp [h0])]
        | false => rw [if_pos (by rfl), if_neg (by simp)]
  show P71x1 h (G.rec' (T71 h) (n + 2)) (.string s) (i : Int) = _
  unfold P71x1
  try unfold ki
  rw [lenBK_string, boolZ_eq, ltZ_dec, ifB_if, if_pos (by simp; omega), indexV_string env_ok und9 hb, optK_some', intK_int, wrap64_in _ u1 u2, within95_at, optK_some', boolK_bool, optK_some', intK_int, wrap64_in _ u1 u2, within95_at, optK_some', boolK_bool, ifB_if, letter_in, digit_in]
  cases hd : digitB c with
  | true => rw [if_pos (by rfl), step2, two]; simp
  | false => rw [if_neg (by simp), optK_some', intK_int, boolZ_eq, eqZ_dec, dot_in, step2, two]; simp
theorem name71_loop (s : ByteArray) (h : Hp) (hs : s.size ≤ 16) : ∀ m i n, i + m = s.size → 3 * m + 2 ≤ n → 0 < i → G.rec' (T71 h) n 1 (PAL.v (.string s) (PAL.i (i : Int) PAL.n)) = some (.bool ((s.data.toList.drop i).all restB))
  | 0, i, n + 2, him, hn, h0 => by
    show P71x1 h (G.rec' (T71 h) (n + 1)) (.string s) (i : Int) = _
    unfold P71x1
    try unfold ki
    rw [lenBK_string, boolZ_eq, ltZ_dec, ifB_if, if_neg (by simp; omega), List.drop_of_length_le (by simp; omega)]
    rfl
  | m + 1, i, n + 3, him, hn, h0 => by
    have hi2 : i < s.data.toList.length := by simp; omega
    have hb : s[i]? = some (s.data.toList[i]) := by
      rw [show s[i]? = s.data[i]? from rfl, Array.getElem?_eq_getElem (by simpa using hi2)]; simp
    rw [name71_turn s h n i (by omega) hs hb, name71_loop s h hs m (i + 1) n (by omega) (by omega) (by omega), List.drop_eq_getElem_cons hi2, List.all_cons]
    have hr : (letterB (s.data.toList[i]) || (decide (i ≠ 0) && (digitB (s.data.toList[i]) || s.data.toList[i] == 46))) = restB (s.data.toList[i]) := by
      unfold restB
      rw [show decide (i ≠ 0) = true from by simp; omega, Bool.true_and, Bool.or_assoc]
    rw [hr]
    cases restB (s.data.toList[i]) <;> simp
theorem name71_at (s : ByteArray) (h : Hp) : F71 [.string s] h = some (.bool (nameB s.data.toList)) := by
  show plainO (P71x0 h (G.rec' (T71 h) 999999) (.string s)) = _
  unfold P71x0
  try unfold ki
  rw [lenBK_string, boolZ_eq, eqZ_dec, ifB_if]
  cases hl : s.data.toList with
  | nil =>
    have h0 : s.size = 0 := by rw [show s.size = s.data.toList.length by simp]; rw [hl]; rfl
    rw [if_pos (by simp [h0])]; rfl
  | cons c r =>
    have hsz : s.size = r.length + 1 := by rw [show s.size = s.data.toList.length by simp]; rw [hl]; rfl
    rw [if_neg (by simp [hsz]; omega), lenBK_string, boolZ_eq, ltZ_dec, ifB_if]
    by_cases h16 : r.length < 16
    · have hb : s[0]? = some c := by
        rw [show s[0]? = s.data[0]? from rfl, ← Array.getElem?_toList, hl]; rfl
      rw [if_neg (by simp [hsz]; omega), show (Int.ofNat 0) = ((0 : Nat) : Int) from rfl, show (999999 : Nat) = 999996 + 3 from rfl, name71_turn s h 999996 0 (by omega) (by omega) hb, name71_loop s h (by omega) r.length 1 999996 (by omega) (by omega) (by omega), hl]
      rw [show nameB (c :: r) = (decide (r.length < 16) && letterB c && (c :: r).all restB) from rfl, decide_eq_true h16, List.all_cons]
      cases hc : letterB c with
      | true => simp [restB, hc]; rfl
      | false => simp; rfl
    · rw [if_pos (by simp [hsz]; omega)]
      simp [nameB, h16]; rfl
theorem index72_loop {h : Hp} {v : Value} {ns : List ByteArray} (s : ByteArray) (hr : Eng.Rows h 1 v (ns.map fun x => [Value.string x])) (hlen : ns.length ≤ 900000) : ∀ m i n, i + m = ns.length → m + 2 ≤ n →
    G.rec' (T72 h) n 1 (PAL.v v (PAL.v (.string s) (PAL.i (i : Int) PAL.n))) = some (.int .i64 (idxFrom (fun x => sameNm x s) i (ns.drop i)))
  | 0, i, n + 2, him, hn => by
    show P72x1 h (G.rec' (T72 h) (n + 1)) v (.string s) (i : Int) = _
    unfold P72x1
    try unfold ki
    rw [hr.len, List.length_map, boolZ_eq, ltZ_dec, ifB_if, if_neg (by simp; omega), List.drop_of_length_le (by omega)]
    rfl
  | m + 1, i, n + 1, him, hn => by
    have hi : i < ns.length := by omega
    have hg : (ns.map fun x => [Value.string x])[i]? = some [Value.string ns[i]] := by rw [List.getElem?_map, List.getElem?_eq_getElem hi]; rfl
    obtain ⟨q, hq, haq, hl⟩ := hr.at hg
    show P72x1 h (G.rec' (T72 h) n) v (.string s) (i : Int) = _
    unfold P72x1
    try unfold ki
    rw [hr.len, List.length_map, boolZ_eq, ltZ_dec, ifB_if, if_pos (by simp; omega), hq, haq.load1 (x := .string ns[i]) rfl, eql_string, optK_some', boolK_bool, ifB_if, List.drop_eq_getElem_cons hi]
    unfold idxFrom
    rw [show (ns[i].toList == s.toList) = sameNm ns[i] s from rfl]
    cases hs : sameNm ns[i] s with
    | true => rfl
    | false =>
      simp only [Bool.false_eq_true, if_false]
      rw [show Int.add (i : Int) (Int.ofNat 1) = ((i + 1 : Nat) : Int) from rfl, wrap64_in _ (by omega) (by omega)]
      exact index72_loop s hr hlen m (i + 1) n (by omega) (by omega)
theorem index72_at {h : Hp} {v : Value} {ns : List ByteArray} (s : ByteArray) (hr : Eng.Rows h 1 v (ns.map fun x => [Value.string x])) (hlen : ns.length ≤ 900000) : F72 [v, .string s] h = some (.int .i64 (idxFrom (fun x => sameNm x s) 0 ns)) := by
  have step : ∀ n, G.rec' (T72 h) (n + 1) 0 (PAL.v v (PAL.v (.string s) PAL.n)) = P72x0 h (G.rec' (T72 h) n) v (.string s) := fun n => rfl
  show plainO (G.rec' (T72 h) (999999 + 1) 0 (PAL.v v (PAL.v (.string s) PAL.n))) = _
  rw [step]
  unfold P72x0
  try unfold ki
  have := index72_loop s hr hlen ns.length 0 999999 (by omega) (by omega)
  rw [List.drop_zero] at this
  rw [show (Int.ofNat 0) = ((0 : Nat) : Int) from rfl, this]
  rfl
def newE (s : ByteArray) (ns : List ByteArray) : Int := if !(nameB s.data.toList) then 6 else if ns.any (fun x => sameNm x s) then 5 else 0
theorem new36_at {h : Hp} {v : Value} {ns : List ByteArray} (s : ByteArray) (hr : Eng.Rows h 1 v (ns.map fun x => [Value.string x])) (hlen : ns.length ≤ 900000) : F36 [.string s, v] h = some (.int .i64 (newE s ns)) := by
  show plainO (P36x0 h (G.rec' (T36 h) 999999) (.string s) v) = _
  unfold P36x0 newE
  try unfold ki
  rw [name71_at, optK_some', boolK_bool, boolN_eq, ifB_if]
  cases hn : nameB s.data.toList with
  | false => rw [if_pos (by rfl), if_pos (by rfl)]; rfl
  | true =>
  rw [if_neg (by simp), if_neg (by simp), index72_at s hr hlen, optK_some', intK_int, boolN_eq, ltZ_dec, show (Int.ofNat 0) = (0 : Int) from rfl, idxFrom_neg, Bool.not_not, ifB_if]
  cases ns.any (fun x => sameNm x s) <;> rfl
theorem zero_in (x : Int) : decide (x = Int.ofNat 0) = inB 0 0 x := by
  unfold inB
  rw [Bool.eq_iff_iff]
  simp
  omega
theorem gown37_at (h : Hp) (g : Gw) : F37 [.agg (Array.mk g.row)] h = some (.bool (inB 0 15 g.looks && statedB g)) := by
  show plainO (P37x0 h (G.rec' (T37 h) 999999) (.agg (Array.mk g.row))) = _
  unfold P37x0
  try unfold ki
  rw [rowCells, forceL_eq, nthR_get _ _ 1 (.int .i64 g.looks) rfl, intK_int, in39_at, optK_some', boolK_bool, boolN_eq, ifB_if]
  unfold statedB
  rw [show (Int.ofNat 0) = (0 : Int) from rfl, show (Int.ofNat 15) = (15 : Int) from rfl]
  cases h1 : inB 0 15 g.looks with
  | false => rw [if_pos (by rfl)]; rfl
  | true =>
  rw [if_neg (by simp), nthR_get _ _ 2 (.bool g.pawn) rfl, boolK_bool, boolN_eq, ifB_if]
  cases hp : g.pawn with
  | false =>
    rw [if_pos (by rfl), nthR_get _ _ 3 (.int .i64 g.loan) rfl, intK_int, boolZ_eq, eqZ_dec, ifB_if, show (0 : Int) = Int.ofNat 0 from rfl, zero_in]
    cases inB 0 0 g.loan with
    | false => rw [if_neg (by simp)]; simp; rfl
    | true =>
    rw [if_pos (by rfl), nthR_get _ _ 4 (.int .i64 g.rate) rfl, intK_int, boolZ_eq, eqZ_dec, ifB_if, zero_in]
    cases inB 0 0 g.rate with
    | false => rw [if_neg (by simp)]; simp; rfl
    | true =>
    rw [if_pos (by rfl), nthR_get _ _ 5 (.int .i64 g.fee) rfl, intK_int, boolZ_eq, eqZ_dec, ifB_if, zero_in]
    cases inB 0 0 g.fee with
    | false => rw [if_neg (by simp)]; simp; rfl
    | true =>
    rw [if_pos (by rfl), nthR_get _ _ 6 (.int .i64 g.ago) rfl, intK_int, boolZ_eq, eqZ_dec, ifB_if, zero_in]
    cases inB 0 0 g.ago with
    | false => rw [if_neg (by simp)]; simp; rfl
    | true =>
    rw [if_pos (by rfl), nthR_get _ _ 7 (.int .i64 g.last) rfl, intK_int, boolZ_eq, eqZ_dec, zero_in]
    simp; rfl
  | true =>
    rw [if_neg (by simp), nthR_get _ _ 3 (.int .i64 g.loan) rfl, intK_int, in39_at, optK_some', boolK_bool, ifB_if, show (Int.ofNat 5000) = (5000 : Int) from rfl]
    cases inB 0 5000 g.loan with
    | false => rw [if_neg (by simp)]; simp; rfl
    | true =>
    rw [if_pos (by rfl), nthR_get _ _ 4 (.int .i64 g.rate) rfl, intK_int, in39_at, optK_some', boolK_bool, ifB_if, show (Int.ofNat 500) = (500 : Int) from rfl]
    cases inB 0 500 g.rate with
    | false => rw [if_neg (by simp)]; simp; rfl
    | true =>
    rw [if_pos (by rfl), nthR_get _ _ 5 (.int .i64 g.fee) rfl, intK_int, in39_at, optK_some', boolK_bool, ifB_if, show (Int.ofNat 100) = (100 : Int) from rfl]
    cases inB 0 100 g.fee with
    | false => rw [if_neg (by simp)]; simp; rfl
    | true =>
    rw [if_pos (by rfl), nthR_get _ _ 6 (.int .i64 g.ago) rfl, intK_int, in39_at, optK_some', boolK_bool, ifB_if, show (Int.ofNat 364) = (364 : Int) from rfl]
    cases inB 0 364 g.ago with
    | false => rw [if_neg (by simp)]; simp; rfl
    | true =>
    rw [if_pos (by rfl), nthR_get _ _ 7 (.int .i64 g.last) rfl, intK_int, in39_at, optK_some', boolK_bool]
    simp; rfl
end Go.Proofs.Ytaegcofpbihmhaa.K.L
