/- Contracts of told functions: numbers within, names. -/
import Derived.Test.YtgomkbcokgeciaaGreatScToldL
import Derived.Test.YtgomkbcokgeciaaGreatScEngC
open Go Go.bR
set_option maxRecDepth 100000
set_option linter.unusedVariables false
namespace Go.Proofs.YtgomkbcokgeciaaGreat.K.L
def qI (lo hi n : Int) : Bool := !(decide (n < lo)) && !(decide (hi < n))
theorem MM (h : Hp) (lo hi : Int) (b o c : Nat) (cs : List Value) (t : TypeId) (s : Option Nat) (hg : h.get b = some (.cells cs t s)) (l : List Int) (hl : ∀ (j : Nat) (x : Int), l[j]? = some x → cs[o + j]? = some (.int .i64 x)) (hlen : l.length ≤ 1000000) :
  ∀ m i n, i + m = l.length → m + 2 ≤ n → G.aQ (T63 h) n 1 (aH.i lo (aH.i hi (aH.v (.slice (some ⟨b, o, none⟩) l.length c) (aH.i (l.length : Int) (aH.i (i : Int) aH.n))))) = some (.bool ((l.drop i).all (qI lo hi)))
 | 0, i, n + 2, him, hn => by
  show VC h (G.aQ (T63 h) (n + 1)) lo hi (.slice (some ⟨b, o, none⟩) l.length c) (l.length : Int) (i : Int) = _
  unfold VC
  rw [aS, aZ, aI, if_neg (by simp; omega)]
  show aI7 h (G.aQ (T63 h) n) = _
  unfold aI7
  rw [List.drop_of_length_le (by omega)]; rfl
 | m + 1, i, n + 1, him, hn => by
  have hi' : i < l.length := by omega
  show VC h (G.aQ (T63 h) n) lo hi (.slice (some ⟨b, o, none⟩) l.length c) (l.length : Int) (i : Int) = _
  unfold VC
  have hx := List.getElem?_eq_getElem hi'
  rw [aS, aZ, aI, if_pos (by simp; omega), aCM 1 b o l.length c i hi', aNN hg (by rw [Nat.mul_one]; exact hl i _ hx), aJ, aS, aZ, aI, aS, aZ, aI, List.drop_eq_getElem_cons hi', List.all_cons]
  by_cases h1 : l[i] < lo
  ·rw [if_pos (by simpa using h1)]; simp [qI, h1]
  ·rw [if_neg (by simpa using h1)]
   by_cases h2 : hi < l[i]
   ·rw [if_pos (by simpa using h2)]; simp [qI, h2]
   ·rw [if_neg (by simpa using h2), show Int.add (i : Int) (Int.ofNat 1) = ((i + 1 : Nat) : Int) from rfl, wrap64_in _ (by omega) (by omega)]
    have ih := MM h lo hi b o c cs t s hg l hl hlen m (i + 1) n (by omega) (by omega)
    rw [ih]
    simp [qI, h1, h2]
theorem VD (h : Hp) (lo hi : Int) (b o c : Nat) (cs : List Value) (t : TypeId) (s : Option Nat) (hg : h.get b = some (.cells cs t s)) (l : List Int) (hl : ∀ (j : Nat) (x : Int), l[j]? = some x → cs[o + j]? = some (.int .i64 x)) (hlen : l.length ≤ 900000) :
  F63 [.int .i64 lo, .int .i64 hi, .slice (some ⟨b, o, none⟩) l.length c] h = some (.bool (l.all (qI lo hi))) := by
 show plainO (aI8 h (G.aQ (T63 h) 999999) lo hi (.slice (some ⟨b, o, none⟩) l.length c)) = _
 unfold aI8
 rw [aCR]
 have := MM h lo hi b o c cs t s hg l hl (by omega) l.length 0 999999 (by omega) (by omega)
 rw [show (Int.ofNat 0) = ((0 : Nat) : Int) from rfl, this, List.drop_zero]
 rfl
theorem a6K : gM env 9 = some .string := by kernel_rfl
theorem TE (h : Hp) (n : Int) : bQ env h 40 1 (List.toArray [(0, (Value.int .i64 n))]) = some (.slice (some ⟨h.next, 0, none⟩) 1 1, h.add (.cells [.int .i64 n] 3 none)) := by kernel_rfl
def nG (b : UInt8) : Bool := decide (97 ≤ b.toNat) && decide (b.toNat ≤ 122)
def wF (b : UInt8) : Bool := decide (48 ≤ b.toNat) && decide (b.toNat ≤ 57)
theorem VE (b : UInt8) (h : Hp) : aNV [.int .u8 b.toNat] h = some (.bool (nG b)) := by
 show plainO (X7 h (G.aQ (aQP h) 999999) b.toNat) = _
 unfold X7
 rw [aO, aZ, aI, aO, aZ]
 by_cases h1 : 97 ≤ b.toNat
 ·rw [if_pos (by simp; omega)]
  show some (Value.bool _) = _
  congr 2
  unfold nG
  rw [Bool.eq_iff_iff]; simp; omega
 ·rw [if_neg (by simp; omega)]
  show some (Value.bool false) = _
  congr 2
  unfold nG
  rw [eq_comm, Bool.and_eq_false_iff]; left; simp; omega
theorem aQQ (b : UInt8) (h : Hp) : aQR [.int .u8 b.toNat] h = some (.bool (wF b)) := by
 show plainO (X8 h (G.aQ (aQS h) 999999) b.toNat) = _
 unfold X8
 rw [aO, aZ, aI, aO, aZ]
 by_cases h1 : 48 ≤ b.toNat
 ·rw [if_pos (by simp; omega)]
  show some (Value.bool _) = _
  congr 2
  unfold wF
  rw [Bool.eq_iff_iff]; simp; omega
 ·rw [if_neg (by simp; omega)]
  show some (Value.bool false) = _
  congr 2
  unfold wF
  rw [eq_comm, Bool.and_eq_false_iff]; left; simp; omega
def zN (b : UInt8) : Bool := nG b || wF b || b == 46
theorem VF (s : ByteArray) (hs : s.size ≤ 16) (h : Hp) : ∀ m i n, i + m = s.size → m + 2 ≤ n →
  aQ X9 n 1 (AL.v (.string s) (AL.i (s.size : Int) (AL.i (i : Int) AL.n))) h = some (.bool ((s.data.toList.drop i).all zN), h)
 | 0, i, n + 2, him, hn => by
  show KU (aQ X9 (n + 1)) (.string s) (s.size : Int) (i : Int) h = _
  unfold KU
  rw [aS, aZ, aI, if_neg (by simp; omega)]
  show YA (aQ X9 n) h = _
  unfold YA
  rw [List.drop_of_length_le (by simp; omega)]; rfl
 | m + 1, i, n + 1, him, hn => by
  have hi' : i < s.size := by omega
  obtain ⟨c, hb, hdrop⟩ : ∃ c, s[i]? = some c ∧ s.data.toList.drop i = c :: s.data.toList.drop (i + 1) := by
   have hi2 : i < s.data.toList.length := by simpa using hi'
   refine ⟨s.data.toList[i], ?_, List.drop_eq_getElem_cons hi2⟩
   rw [show s[i]? = s.data[i]? from rfl, Array.getElem?_eq_getElem (by simpa using hi2)]
   simp
  show KU (aQ X9 n) (.string s) (s.size : Int) (i : Int) h = _
  unfold KU
  have ih := VF s hs h m (i + 1) n (by omega) (by omega)
  rw [aS, aZ, aI, if_pos (by simp; omega), wE fU a6K hb, aM, aJ, VE, aM, aC, aV, aO, aI, hdrop, List.all_cons]
  rw [show Int.add (i : Int) (Int.ofNat 1) = ((i + 1 : Nat) : Int) from rfl]
  cases h1 : nG c with
  | true =>
   rw [if_neg (by simp), wrap64_in _ (by omega) (by omega), ih]
   simp [zN, h1]
  | false =>
   rw [if_pos (by simp), aM, aJ, aQQ, aM, aC, aV, aO, aI]
   cases h2 : wF c with
   | true =>
    rw [if_neg (by simp), wrap64_in _ (by omega) (by omega), ih]
    simp [zN, h2]
   | false =>
    rw [if_pos (by simp), aM, aJ, aO, dX, aI, wrap64_in _ (by omega) (by omega), ih]
    by_cases h3 : c = 46
    ·rw [if_neg (by rw [h3]; decide)]
     simp [zN, h3]
    ·have h3' : ¬ ((c.toNat : Int) = Int.ofNat 46) := by
      intro e
      have e' : c.toNat = 46 := by simp at e; omega
      exact h3 (UInt8.toNat_inj.1 (by rw [e']; rfl))
     rw [if_pos (by simpa using h3')]
     simp [zN, h1, h2, h3]
def rU (l : List UInt8) : Bool := match l with
 | [] => false
 | c :: r => decide (r.length < 16) && nG c && (c :: r).all zN
theorem aI9 (s : ByteArray) (h : Hp) : ∃ h', aNW [.string s] h = some (.bool (rU s.data.toList), h') := by
 have hw : ∀ h : Hp, F63 [.int .i64 (Int.ofNat 1), .int .i64 (Int.ofNat 16), .slice (some ⟨h.next, 0, none⟩) 1 1] (h.add (.cells [.int .i64 (s.size : Int)] 3 none)) = some (.bool (qI 1 16 s.size)) := by
  intro h
  have := VD (h.add (.cells [.int .i64 (s.size : Int)] 3 none)) 1 16 h.next 0 1 [.int .i64 (s.size : Int)] 3 none (BR _ _) [(s.size : Int)] (by
   intro j x hx
   cases j with
   | zero => simp at hx; subst hx; rfl
   | succ j => simp at hx) (by simp)
  rw [show ([(s.size : Int)] : List Int).length = 1 from rfl] at this
  rw [show (Int.ofNat 1) = (1 : Int) from rfl, show (Int.ofNat 16) = (16 : Int) from rfl, this]
  simp
 have start : aNW [.string s] h = YB (aQ X9 999999) (.string s) h := rfl
 rw [start]
 unfold YB
 rw [nE, TE, aC, hw, aM, aC, aV, aO, aI]
 cases hl : s.data.toList with
 | nil =>
  have h0 : s.size = 0 := by rw [show s.size = s.data.toList.length by simp]; rw [hl]; rfl
  rw [if_pos (by simp [qI, h0])]
  exact ⟨_, rfl⟩
 | cons c r =>
  have hsz : s.size = r.length + 1 := by rw [show s.size = s.data.toList.length by simp]; rw [hl]; rfl
  by_cases h16 : r.length < 16
  ·have hb : s[0]? = some c := by
    rw [show s[0]? = s.data[0]? from rfl, ← Array.getElem?_toList, hl]; rfl
   rw [if_neg (by simp [qI, hsz]; omega), show (Int.ofNat 0) = ((0 : Nat) : Int) from rfl, wE fU a6K hb, aM, aJ, VE, aM, aC, aV, aO, aI]
   cases h1 : nG c with
   | false => rw [if_pos (by simp)]; exact ⟨_, by simp [rU, h1]; rfl⟩
   | true =>
    rw [if_neg (by simp), nE, VF s (by omega) _ s.size 0 999999 (by omega) (by omega), List.drop_zero, hl]
    exact ⟨_, by simp only [rU, h1, decide_eq_true h16, Bool.true_and]; rfl⟩
  ·rw [if_pos (by simp [qI, hsz]; omega)]
   exact ⟨_, by simp [rU, h16]; rfl⟩
end Go.Proofs.YtgomkbcokgeciaaGreat.K.L
