/- Contracts of told functions: numbers within, names. -/
import Derived.Test.YtepepiajmdpiiaaCoToldL
import Derived.Test.YtepepiajmdpiiaaCoEngC
open Go Go.Eng
set_option maxRecDepth 100000
set_option linter.unusedVariables false
namespace Go.Proofs.Ytepepiajmdpiiaa.K.L
def inB (lo hi n : Int) : Bool := !(decide (n < lo)) && !(decide (hi < n))
theorem within_loop (h : Hp) (lo hi : Int) (b o c : Nat) (cs : List Value) (t : TypeId) (s : Option Nat) (hg : h.get b = some (.cells cs t s)) (l : List Int) (hl : ∀ (j : Nat) (x : Int), l[j]? = some x → cs[o + j]? = some (.int .i64 x)) (hlen : l.length ≤ 1000000) :
    ∀ m i n, i + m = l.length → m + 2 ≤ n → G.rec' (T82 h) n 1 (PAL.i lo (PAL.i hi (PAL.v (.slice (some ⟨b, o, none⟩) l.length c) (PAL.i (l.length : Int) (PAL.i (i : Int) PAL.n))))) = some (.bool ((l.drop i).all (inB lo hi)))
  | 0, i, n + 2, him, hn => by
    show P82x1 h (G.rec' (T82 h) (n + 1)) lo hi (.slice (some ⟨b, o, none⟩) l.length c) (l.length : Int) (i : Int) = _
    unfold P82x1
    rw [boolZ_eq, ltZ_dec, ifB_if, if_neg (by simp; omega)]
    show P82x2 h (G.rec' (T82 h) n) = _
    unfold P82x2
    rw [List.drop_of_length_le (by omega)]; rfl
  | m + 1, i, n + 1, him, hn => by
    have hi' : i < l.length := by omega
    show P82x1 h (G.rec' (T82 h) n) lo hi (.slice (some ⟨b, o, none⟩) l.length c) (l.length : Int) (i : Int) = _
    unfold P82x1
    have hx := List.getElem?_eq_getElem hi'
    rw [boolZ_eq, ltZ_dec, ifB_if, if_pos (by simp; omega), idxSK_at 1 b o l.length c i hi', load1K_at hg (by rw [Nat.mul_one]; exact hl i _ hx), intK_int, boolZ_eq, ltZ_dec, ifB_if, boolZ_eq, ltZ_dec, ifB_if, List.drop_eq_getElem_cons hi', List.all_cons]
    by_cases h1 : l[i] < lo
    · rw [if_pos (by simpa using h1)]; simp [inB, h1]
    · rw [if_neg (by simpa using h1)]
      by_cases h2 : hi < l[i]
      · rw [if_pos (by simpa using h2)]; simp [inB, h2]
      · rw [if_neg (by simpa using h2), show Int.add (i : Int) (Int.ofNat 1) = ((i + 1 : Nat) : Int) from rfl, wrap64_in _ (by omega) (by omega)]
        have ih := within_loop h lo hi b o c cs t s hg l hl hlen m (i + 1) n (by omega) (by omega)
        rw [ih]
        simp [inB, h1, h2]
theorem within_at (h : Hp) (lo hi : Int) (b o c : Nat) (cs : List Value) (t : TypeId) (s : Option Nat) (hg : h.get b = some (.cells cs t s)) (l : List Int) (hl : ∀ (j : Nat) (x : Int), l[j]? = some x → cs[o + j]? = some (.int .i64 x)) (hlen : l.length ≤ 900000) :
    F82 [.int .i64 lo, .int .i64 hi, .slice (some ⟨b, o, none⟩) l.length c] h = some (.bool (l.all (inB lo hi))) := by
  show plainO (P82x0 h (G.rec' (T82 h) 999999) lo hi (.slice (some ⟨b, o, none⟩) l.length c)) = _
  unfold P82x0
  rw [lenSK_slice]
  have := within_loop h lo hi b o c cs t s hg l hl (by omega) l.length 0 999999 (by omega) (by omega)
  rw [show (Int.ofNat 0) = ((0 : Nat) : Int) from rfl, this, List.drop_zero]
  rfl
theorem und9 : undP env 9 = some .string := by kernel_rfl
theorem oneI (h : Hp) (n : Int) : buildSliceV env h 22 1 (List.toArray [(0, (Value.int .i64 n))]) = some (.slice (some ⟨h.next, 0, none⟩) 1 1, h.add (.cells [.int .i64 n] 3 none)) := by kernel_rfl
def letterB (b : UInt8) : Bool := decide (97 ≤ b.toNat) && decide (b.toNat ≤ 122)
def digitB (b : UInt8) : Bool := decide (48 ≤ b.toNat) && decide (b.toNat ≤ 57)
theorem letter_at (b : UInt8) (h : Hp) : F106 [.int .u8 b.toNat] h = some (.bool (letterB b)) := by
  show plainO (P106x0 h (G.rec' (T106 h) 999999) b.toNat) = _
  unfold P106x0
  rw [boolN_eq, ltZ_dec, ifB_if, boolN_eq, ltZ_dec]
  by_cases h1 : 97 ≤ b.toNat
  · rw [if_pos (by simp; omega)]
    show some (Value.bool _) = _
    congr 2
    unfold letterB
    rw [Bool.eq_iff_iff]; simp; omega
  · rw [if_neg (by simp; omega)]
    show some (Value.bool false) = _
    congr 2
    unfold letterB
    rw [eq_comm, Bool.and_eq_false_iff]; left; simp; omega
theorem digit_at (b : UInt8) (h : Hp) : F107 [.int .u8 b.toNat] h = some (.bool (digitB b)) := by
  show plainO (P107x0 h (G.rec' (T107 h) 999999) b.toNat) = _
  unfold P107x0
  rw [boolN_eq, ltZ_dec, ifB_if, boolN_eq, ltZ_dec]
  by_cases h1 : 48 ≤ b.toNat
  · rw [if_pos (by simp; omega)]
    show some (Value.bool _) = _
    congr 2
    unfold digitB
    rw [Bool.eq_iff_iff]; simp; omega
  · rw [if_neg (by simp; omega)]
    show some (Value.bool false) = _
    congr 2
    unfold digitB
    rw [eq_comm, Bool.and_eq_false_iff]; left; simp; omega
def restB (b : UInt8) : Bool := letterB b || digitB b || b == 46
theorem name_loop (s : ByteArray) (hs : s.size ≤ 16) (h : Hp) : ∀ m i n, i + m = s.size → m + 2 ≤ n →
    rec' T85 n 1 (AL.v (.string s) (AL.i (s.size : Int) (AL.i (i : Int) AL.n))) h = some (.bool ((s.data.toList.drop i).all restB), h)
  | 0, i, n + 2, him, hn => by
    show P85x1 (rec' T85 (n + 1)) (.string s) (s.size : Int) (i : Int) h = _
    unfold P85x1
    rw [boolZ_eq, ltZ_dec, ifB_if, if_neg (by simp; omega)]
    show P85x2 (rec' T85 n) h = _
    unfold P85x2
    rw [List.drop_of_length_le (by simp; omega)]; rfl
  | m + 1, i, n + 1, him, hn => by
    have hi' : i < s.size := by omega
    obtain ⟨c, hb, hdrop⟩ : ∃ c, s[i]? = some c ∧ s.data.toList.drop i = c :: s.data.toList.drop (i + 1) := by
      have hi2 : i < s.data.toList.length := by simpa using hi'
      refine ⟨s.data.toList[i], ?_, List.drop_eq_getElem_cons hi2⟩
      rw [show s[i]? = s.data[i]? from rfl, Array.getElem?_eq_getElem (by simpa using hi2)]
      simp
    show P85x1 (rec' T85 n) (.string s) (s.size : Int) (i : Int) h = _
    unfold P85x1
    have ih := name_loop s hs h m (i + 1) n (by omega) (by omega)
    rw [boolZ_eq, ltZ_dec, ifB_if, if_pos (by simp; omega), indexV_string env_ok und9 hb, optK_some', intK_int, letter_at, optK_some', pairK_some', boolK_bool, boolN_eq, ifB_if, hdrop, List.all_cons]
    rw [show Int.add (i : Int) (Int.ofNat 1) = ((i + 1 : Nat) : Int) from rfl]
    cases h1 : letterB c with
    | true =>
      rw [if_neg (by simp), wrap64_in _ (by omega) (by omega), ih]
      simp [restB, h1]
    | false =>
      rw [if_pos (by simp), optK_some', intK_int, digit_at, optK_some', pairK_some', boolK_bool, boolN_eq, ifB_if]
      cases h2 : digitB c with
      | true =>
        rw [if_neg (by simp), wrap64_in _ (by omega) (by omega), ih]
        simp [restB, h2]
      | false =>
        rw [if_pos (by simp), optK_some', intK_int, boolN_eq, eqZ_dec, ifB_if, wrap64_in _ (by omega) (by omega), ih]
        by_cases h3 : c = 46
        · rw [if_neg (by rw [h3]; decide)]
          simp [restB, h3]
        · have h3' : ¬ ((c.toNat : Int) = Int.ofNat 46) := by
            intro e
            have e' : c.toNat = 46 := by simp at e; omega
            exact h3 (UInt8.toNat_inj.1 (by rw [e']; rfl))
          rw [if_pos (by simpa using h3')]
          simp [restB, h1, h2, h3]
def nameB (l : List UInt8) : Bool := match l with
  | [] => false
  | c :: r => decide (r.length < 16) && letterB c && (c :: r).all restB
theorem name_at (s : ByteArray) (h : Hp) : ∃ h', F85 [.string s] h = some (.bool (nameB s.data.toList), h') := by
  have hw : ∀ h : Hp, F82 [.int .i64 (Int.ofNat 1), .int .i64 (Int.ofNat 16), .slice (some ⟨h.next, 0, none⟩) 1 1] (h.add (.cells [.int .i64 (s.size : Int)] 3 none)) = some (.bool (inB 1 16 s.size)) := by
    intro h
    have := within_at (h.add (.cells [.int .i64 (s.size : Int)] 3 none)) 1 16 h.next 0 1 [.int .i64 (s.size : Int)] 3 none (add_get_new _ _) [(s.size : Int)] (by
      intro j x hx
      cases j with
      | zero => simp at hx; subst hx; rfl
      | succ j => simp at hx) (by simp)
    rw [show ([(s.size : Int)] : List Int).length = 1 from rfl] at this
    rw [show (Int.ofNat 1) = (1 : Int) from rfl, show (Int.ofNat 16) = (16 : Int) from rfl, this]
    simp
  have start : F85 [.string s] h = P85x0 (rec' T85 999999) (.string s) h := rfl
  rw [start]
  unfold P85x0
  rw [lenBK_string, oneI, pairK_some', hw, optK_some', pairK_some', boolK_bool, boolN_eq, ifB_if]
  cases hl : s.data.toList with
  | nil =>
    have h0 : s.size = 0 := by rw [show s.size = s.data.toList.length by simp]; rw [hl]; rfl
    rw [if_pos (by simp [inB, h0])]
    exact ⟨_, rfl⟩
  | cons c r =>
    have hsz : s.size = r.length + 1 := by rw [show s.size = s.data.toList.length by simp]; rw [hl]; rfl
    by_cases h16 : r.length < 16
    · have hb : s[0]? = some c := by
        rw [show s[0]? = s.data[0]? from rfl, ← Array.getElem?_toList, hl]; rfl
      rw [if_neg (by simp [inB, hsz]; omega), show (Int.ofNat 0) = ((0 : Nat) : Int) from rfl, indexV_string env_ok und9 hb, optK_some', intK_int, letter_at, optK_some', pairK_some', boolK_bool, boolN_eq, ifB_if]
      cases h1 : letterB c with
      | false => rw [if_pos (by simp)]; exact ⟨_, by simp [nameB, h1]; rfl⟩
      | true =>
        rw [if_neg (by simp), lenBK_string, name_loop s (by omega) _ s.size 0 999999 (by omega) (by omega), List.drop_zero, hl]
        exact ⟨_, by simp only [nameB, h1, decide_eq_true h16, Bool.true_and]; rfl⟩
    · rw [if_pos (by simp [inB, hsz]; omega)]
      exact ⟨_, by simp [nameB, h16]; rfl⟩
end Go.Proofs.Ytepepiajmdpiiaa.K.L
