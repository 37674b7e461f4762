/- Contracts of told functions: numbers within, names. -/
import Derived.Test.YtgjdokjoejhepaaGreatDoorTrToldL
import Derived.Test.YtgjdokjoejhepaaGreatDoorTrEngC
open Go Go.bP
set_option maxRecDepth 100000
set_option linter.unusedVariables false
namespace Go.Proofs.YtgjdokjoejhepaaGreatDoor.K.L
def oZ (lo hi n : Int) : Bool := !(decide (n < lo)) && !(decide (hi < n))
theorem MF (h : Hp) (lo hi : Int) (b o c : Nat) (cs : List Value) (t : TypeId) (s : Option Nat) (hg : h.get b = some (.cells cs t s)) (l : List Int) (hl : ∀ (j : Nat) (x : Int), l[j]? = some x → cs[o + j]? = some (.int .i64 x)) (hlen : l.length ≤ 1000000) :
  ∀ m i n, i + m = l.length → m + 2 ≤ n → G.aP (T54 h) n 1 (aR.i lo (aR.i hi (aR.v (.slice (some ⟨b, o, none⟩) l.length c) (aR.i (l.length : Int) (aR.i (i : Int) aR.n))))) = some (.bool ((l.drop i).all (oZ lo hi)))
 | 0, i, n + 2, him, hn => by
  show UZ h (G.aP (T54 h) (n + 1)) lo hi (.slice (some ⟨b, o, none⟩) l.length c) (l.length : Int) (i : Int) = _
  unfold UZ
  rw [aN, bA, aI, if_neg (by simp; omega)]
  show aGQ h (G.aP (T54 h) n) = _
  unfold aGQ
  rw [List.drop_of_length_le (by omega)]; rfl
 | m + 1, i, n + 1, him, hn => by
  have hi' : i < l.length := by omega
  show UZ h (G.aP (T54 h) n) lo hi (.slice (some ⟨b, o, none⟩) l.length c) (l.length : Int) (i : Int) = _
  unfold UZ
  have hx := List.getElem?_eq_getElem hi'
  rw [aN, bA, aI, if_pos (by simp; omega), PX 1 b o l.length c i hi', UO hg (by rw [Nat.mul_one]; exact hl i _ hx), aK, aN, bA, aI, aN, bA, aI, List.drop_eq_getElem_cons hi', List.all_cons]
  by_cases h1 : l[i] < lo
  ·rw [if_pos (by simpa using h1)]; simp [oZ, h1]
  ·rw [if_neg (by simpa using h1)]
   by_cases h2 : hi < l[i]
   ·rw [if_pos (by simpa using h2)]; simp [oZ, h2]
   ·rw [if_neg (by simpa using h2), show Int.add (i : Int) (Int.ofNat 1) = ((i + 1 : Nat) : Int) from rfl, wrap64_in _ (by omega) (by omega)]
    have ih := MF h lo hi b o c cs t s hg l hl hlen m (i + 1) n (by omega) (by omega)
    rw [ih]
    simp [oZ, h1, h2]
theorem VT (h : Hp) (lo hi : Int) (b o c : Nat) (cs : List Value) (t : TypeId) (s : Option Nat) (hg : h.get b = some (.cells cs t s)) (l : List Int) (hl : ∀ (j : Nat) (x : Int), l[j]? = some x → cs[o + j]? = some (.int .i64 x)) (hlen : l.length ≤ 900000) :
  F54 [.int .i64 lo, .int .i64 hi, .slice (some ⟨b, o, none⟩) l.length c] h = some (.bool (l.all (oZ lo hi))) := by
 show plainO (aGR h (G.aP (T54 h) 999999) lo hi (.slice (some ⟨b, o, none⟩) l.length c)) = _
 unfold aGR
 rw [aAX]
 have := MF h lo hi b o c cs t s hg l hl (by omega) l.length 0 999999 (by omega) (by omega)
 rw [show (Int.ofNat 0) = ((0 : Nat) : Int) from rfl, this, List.drop_zero]
 rfl
theorem a1G : iC env 9 = some .string := by kernel_rfl
theorem vT (h : Hp) (n : Int) : bJ env h 23 1 (List.toArray [(0, (Value.int .i64 n))]) = some (.slice (some ⟨h.next, 0, none⟩) 1 1, h.add (.cells [.int .i64 n] 3 none)) := by kernel_rfl
def mW (b : UInt8) : Bool := decide (97 ≤ b.toNat) && decide (b.toNat ≤ 122)
def vU (b : UInt8) : Bool := decide (48 ≤ b.toNat) && decide (b.toNat ≤ 57)
theorem VU (b : UInt8) (h : Hp) : aKT [.int .u8 b.toNat] h = some (.bool (mW b)) := by
 show plainO (X3 h (G.aP (aOK h) 999999) b.toNat) = _
 unfold X3
 rw [aX, bA, aI, aX, bA]
 by_cases h1 : 97 ≤ b.toNat
 ·rw [if_pos (by simp; omega)]
  show some (Value.bool _) = _
  congr 2
  unfold mW
  rw [Bool.eq_iff_iff]; simp; omega
 ·rw [if_neg (by simp; omega)]
  show some (Value.bool false) = _
  congr 2
  unfold mW
  rw [eq_comm, Bool.and_eq_false_iff]; left; simp; omega
theorem aQP (b : UInt8) (h : Hp) : aOM [.int .u8 b.toNat] h = some (.bool (vU b)) := by
 show plainO (X4 h (G.aP (aOL h) 999999) b.toNat) = _
 unfold X4
 rw [aX, bA, aI, aX, bA]
 by_cases h1 : 48 ≤ b.toNat
 ·rw [if_pos (by simp; omega)]
  show some (Value.bool _) = _
  congr 2
  unfold vU
  rw [Bool.eq_iff_iff]; simp; omega
 ·rw [if_neg (by simp; omega)]
  show some (Value.bool false) = _
  congr 2
  unfold vU
  rw [eq_comm, Bool.and_eq_false_iff]; left; simp; omega
def zK (b : UInt8) : Bool := mW b || vU b || b == 46
theorem VV (s : ByteArray) (hs : s.size ≤ 16) (h : Hp) : ∀ m i n, i + m = s.size → m + 2 ≤ n →
  aP T94 n 1 (AL.v (.string s) (AL.i (s.size : Int) (AL.i (i : Int) AL.n))) h = some (.bool ((s.data.toList.drop i).all zK), h)
 | 0, i, n + 2, him, hn => by
  show U0 (aP T94 (n + 1)) (.string s) (s.size : Int) (i : Int) h = _
  unfold U0
  rw [aN, bA, aI, if_neg (by simp; omega)]
  show aGS (aP T94 n) h = _
  unfold aGS
  rw [List.drop_of_length_le (by simp; omega)]; rfl
 | m + 1, i, n + 1, him, hn => by
  have hi' : i < s.size := by omega
  obtain ⟨c, hb, hdrop⟩ : ∃ c, s[i]? = some c ∧ s.data.toList.drop i = c :: s.data.toList.drop (i + 1) := by
   have hi2 : i < s.data.toList.length := by simpa using hi'
   refine ⟨s.data.toList[i], ?_, List.drop_eq_getElem_cons hi2⟩
   rw [show s[i]? = s.data[i]? from rfl, Array.getElem?_eq_getElem (by simpa using hi2)]
   simp
  show U0 (aP T94 n) (.string s) (s.size : Int) (i : Int) h = _
  unfold U0
  have ih := VV s hs h m (i + 1) n (by omega) (by omega)
  rw [aN, bA, aI, if_pos (by simp; omega), vO eX a1G hb, aM, aK, VU, aM, aD, aO, aX, aI, hdrop, List.all_cons]
  rw [show Int.add (i : Int) (Int.ofNat 1) = ((i + 1 : Nat) : Int) from rfl]
  cases h1 : mW c with
  | true =>
   rw [if_neg (by simp), wrap64_in _ (by omega) (by omega), ih]
   simp [zK, h1]
  | false =>
   rw [if_pos (by simp), aM, aK, aQP, aM, aD, aO, aX, aI]
   cases h2 : vU c with
   | true =>
    rw [if_neg (by simp), wrap64_in _ (by omega) (by omega), ih]
    simp [zK, h2]
   | false =>
    rw [if_pos (by simp), aM, aK, aX, dJ, aI, wrap64_in _ (by omega) (by omega), ih]
    by_cases h3 : c = 46
    ·rw [if_neg (by rw [h3]; decide)]
     simp [zK, h3]
    ·have h3' : ¬ ((c.toNat : Int) = Int.ofNat 46) := by
      intro e
      have e' : c.toNat = 46 := by simp at e; omega
      exact h3 (UInt8.toNat_inj.1 (by rw [e']; rfl))
     rw [if_pos (by simpa using h3')]
     simp [zK, h1, h2, h3]
def qY (l : List UInt8) : Bool := match l with
 | [] => false
 | c :: r => decide (r.length < 16) && mW c && (c :: r).all zK
theorem aIY (s : ByteArray) (h : Hp) : ∃ h', F94 [.string s] h = some (.bool (qY s.data.toList), h') := by
 have hw : ∀ h : Hp, F54 [.int .i64 (Int.ofNat 1), .int .i64 (Int.ofNat 16), .slice (some ⟨h.next, 0, none⟩) 1 1] (h.add (.cells [.int .i64 (s.size : Int)] 3 none)) = some (.bool (oZ 1 16 s.size)) := by
  intro h
  have := VT (h.add (.cells [.int .i64 (s.size : Int)] 3 none)) 1 16 h.next 0 1 [.int .i64 (s.size : Int)] 3 none (BO _ _) [(s.size : Int)] (by
   intro j x hx
   cases j with
   | zero => simp at hx; subst hx; rfl
   | succ j => simp at hx) (by simp)
  rw [show ([(s.size : Int)] : List Int).length = 1 from rfl] at this
  rw [show (Int.ofNat 1) = (1 : Int) from rfl, show (Int.ofNat 16) = (16 : Int) from rfl, this]
  simp
 have start : F94 [.string s] h = aGT (aP T94 999999) (.string s) h := rfl
 rw [start]
 unfold aGT
 rw [mV, vT, aD, hw, aM, aD, aO, aX, aI]
 cases hl : s.data.toList with
 | nil =>
  have h0 : s.size = 0 := by rw [show s.size = s.data.toList.length by simp]; rw [hl]; rfl
  rw [if_pos (by simp [oZ, h0])]
  exact ⟨_, rfl⟩
 | cons c r =>
  have hsz : s.size = r.length + 1 := by rw [show s.size = s.data.toList.length by simp]; rw [hl]; rfl
  by_cases h16 : r.length < 16
  ·have hb : s[0]? = some c := by
    rw [show s[0]? = s.data[0]? from rfl, ← Array.getElem?_toList, hl]; rfl
   rw [if_neg (by simp [oZ, hsz]; omega), show (Int.ofNat 0) = ((0 : Nat) : Int) from rfl, vO eX a1G hb, aM, aK, VU, aM, aD, aO, aX, aI]
   cases h1 : mW c with
   | false => rw [if_pos (by simp)]; exact ⟨_, by simp [qY, h1]; rfl⟩
   | true =>
    rw [if_neg (by simp), mV, VV s (by omega) _ s.size 0 999999 (by omega) (by omega), List.drop_zero, hl]
    exact ⟨_, by simp only [qY, h1, decide_eq_true h16, Bool.true_and]; rfl⟩
  ·rw [if_pos (by simp [oZ, hsz]; omega)]
   exact ⟨_, by simp [qY, h16]; rfl⟩
end Go.Proofs.YtgjdokjoejhepaaGreatDoor.K.L
