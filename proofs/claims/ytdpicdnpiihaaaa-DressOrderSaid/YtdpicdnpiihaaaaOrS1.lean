/- Contracts of told functions: numbers within, names. -/
import Derived.Test.YtdpicdnpiihaaaaOrToldL
import Derived.Test.YtdpicdnpiihaaaaOrEngC
open Go Go.bI
set_option maxRecDepth 100000
set_option linter.unusedVariables false
namespace Go.Proofs.Ytdpicdnpiihaaaa.K.L
def rY (lo hi n : Int) : Bool := !(decide (n < lo)) && !(decide (hi < n))
theorem LB (h : Hp) (lo hi : Int) (b o c : Nat) (cs : List Value) (t : TypeId) (s : Option Nat) (hg : h.get b = some (.cells cs t s)) (l : List Int) (hl : ∀ (j : Nat) (x : Int), l[j]? = some x → cs[o + j]? = some (.int .i64 x)) (hlen : l.length ≤ 1000000) :
  ∀ m i n, i + m = l.length → m + 2 ≤ n → G.aN (T82 h) n 1 (aD.i lo (aD.i hi (aD.v (.slice (some ⟨b, o, none⟩) l.length c) (aD.i (l.length : Int) (aD.i (i : Int) aD.n))))) = some (.bool ((l.drop i).all (rY lo hi)))
 | 0, i, n + 2, him, hn => by
  show Y5 h (G.aN (T82 h) (n + 1)) lo hi (.slice (some ⟨b, o, none⟩) l.length c) (l.length : Int) (i : Int) = _
  unfold Y5
  rw [aQ, aW, aH, if_neg (by simp; omega)]
  show aJ2 h (G.aN (T82 h) n) = _
  unfold aJ2
  rw [List.drop_of_length_le (by omega)]; rfl
 | m + 1, i, n + 1, him, hn => by
  have hi' : i < l.length := by omega
  show Y5 h (G.aN (T82 h) n) lo hi (.slice (some ⟨b, o, none⟩) l.length c) (l.length : Int) (i : Int) = _
  unfold Y5
  have hx := List.getElem?_eq_getElem hi'
  rw [aQ, aW, aH, if_pos (by simp; omega), IC 1 b o l.length c i hi', aGR hg (by rw [Nat.mul_one]; exact hl i _ hx), aI, aQ, aW, aH, aQ, aW, aH, List.drop_eq_getElem_cons hi', List.all_cons]
  by_cases h1 : l[i] < lo
  ·rw [if_pos (by simpa using h1)]; simp [rY, h1]
  ·rw [if_neg (by simpa using h1)]
   by_cases h2 : hi < l[i]
   ·rw [if_pos (by simpa using h2)]; simp [rY, h2]
   ·rw [if_neg (by simpa using h2), show Int.add (i : Int) (Int.ofNat 1) = ((i + 1 : Nat) : Int) from rfl, wrap64_in _ (by omega) (by omega)]
    have ih := LB h lo hi b o c cs t s hg l hl hlen m (i + 1) n (by omega) (by omega)
    rw [ih]
    simp [rY, h1, h2]
theorem J5 (h : Hp) (lo hi : Int) (b o c : Nat) (cs : List Value) (t : TypeId) (s : Option Nat) (hg : h.get b = some (.cells cs t s)) (l : List Int) (hl : ∀ (j : Nat) (x : Int), l[j]? = some x → cs[o + j]? = some (.int .i64 x)) (hlen : l.length ≤ 900000) :
  F82 [.int .i64 lo, .int .i64 hi, .slice (some ⟨b, o, none⟩) l.length c] h = some (.bool (l.all (rY lo hi))) := by
 show plainO (aJ3 h (G.aN (T82 h) 999999) lo hi (.slice (some ⟨b, o, none⟩) l.length c)) = _
 unfold aJ3
 rw [K9]
 have := LB h lo hi b o c cs t s hg l hl (by omega) l.length 0 999999 (by omega) (by omega)
 rw [show (Int.ofNat 0) = ((0 : Nat) : Int) from rfl, this, List.drop_zero]
 rfl
theorem aWI : gL env 9 = some .string := by kernel_rfl
theorem WR (h : Hp) (n : Int) : aU env h 22 1 (List.toArray [(0, (Value.int .i64 n))]) = some (.slice (some ⟨h.next, 0, none⟩) 1 1, h.add (.cells [.int .i64 n] 3 none)) := by kernel_rfl
def oD (b : UInt8) : Bool := decide (97 ≤ b.toNat) && decide (b.toNat ≤ 122)
def wR (b : UInt8) : Bool := decide (48 ≤ b.toNat) && decide (b.toNat ≤ 57)
theorem TW (b : UInt8) (h : Hp) : aGY [.int .u8 b.toNat] h = some (.bool (oD b)) := by
 show plainO (aCH h (G.aN (aJ8 h) 999999) b.toNat) = _
 unfold aCH
 rw [aR, aW, aH, aR, aW]
 by_cases h1 : 97 ≤ b.toNat
 ·rw [if_pos (by simp; omega)]
  show some (Value.bool _) = _
  congr 2
  unfold oD
  rw [Bool.eq_iff_iff]; simp; omega
 ·rw [if_neg (by simp; omega)]
  show some (Value.bool false) = _
  congr 2
  unfold oD
  rw [eq_comm, Bool.and_eq_false_iff]; left; simp; omega
theorem aNY (b : UInt8) (h : Hp) : aKA [.int .u8 b.toNat] h = some (.bool (wR b)) := by
 show plainO (aCI h (G.aN (aJ9 h) 999999) b.toNat) = _
 unfold aCI
 rw [aR, aW, aH, aR, aW]
 by_cases h1 : 48 ≤ b.toNat
 ·rw [if_pos (by simp; omega)]
  show some (Value.bool _) = _
  congr 2
  unfold wR
  rw [Bool.eq_iff_iff]; simp; omega
 ·rw [if_neg (by simp; omega)]
  show some (Value.bool false) = _
  congr 2
  unfold wR
  rw [eq_comm, Bool.and_eq_false_iff]; left; simp; omega
def zO (b : UInt8) : Bool := oD b || wR b || b == 46
theorem TY (s : ByteArray) (hs : s.size ≤ 16) (h : Hp) : ∀ m i n, i + m = s.size → m + 2 ≤ n →
  aN T85 n 1 (AL.v (.string s) (AL.i (s.size : Int) (AL.i (i : Int) AL.n))) h = some (.bool ((s.data.toList.drop i).all zO), h)
 | 0, i, n + 2, him, hn => by
  show Y7 (aN T85 (n + 1)) (.string s) (s.size : Int) (i : Int) h = _
  unfold Y7
  rw [aQ, aW, aH, if_neg (by simp; omega)]
  show aKB (aN T85 n) h = _
  unfold aKB
  rw [List.drop_of_length_le (by simp; omega)]; rfl
 | m + 1, i, n + 1, him, hn => by
  have hi' : i < s.size := by omega
  obtain ⟨c, hb, hdrop⟩ : ∃ c, s[i]? = some c ∧ s.data.toList.drop i = c :: s.data.toList.drop (i + 1) := by
   have hi2 : i < s.data.toList.length := by simpa using hi'
   refine ⟨s.data.toList[i], ?_, List.drop_eq_getElem_cons hi2⟩
   rw [show s[i]? = s.data[i]? from rfl, Array.getElem?_eq_getElem (by simpa using hi2)]
   simp
  show Y7 (aN T85 n) (.string s) (s.size : Int) (i : Int) h = _
  unfold Y7
  have ih := TY s hs h m (i + 1) n (by omega) (by omega)
  rw [aQ, aW, aH, if_pos (by simp; omega), wQ dL aWI hb, aM, aI, TW, aM, aB, aZ, aR, aH, hdrop, List.all_cons]
  rw [show Int.add (i : Int) (Int.ofNat 1) = ((i + 1 : Nat) : Int) from rfl]
  cases h1 : oD c with
  | true =>
   rw [if_neg (by simp), wrap64_in _ (by omega) (by omega), ih]
   simp [zO, h1]
  | false =>
   rw [if_pos (by simp), aM, aI, aNY, aM, aB, aZ, aR, aH]
   cases h2 : wR c with
   | true =>
    rw [if_neg (by simp), wrap64_in _ (by omega) (by omega), ih]
    simp [zO, h2]
   | false =>
    rw [if_pos (by simp), aM, aI, aR, cK, aH, wrap64_in _ (by omega) (by omega), ih]
    by_cases h3 : c = 46
    ·rw [if_neg (by rw [h3]; decide)]
     simp [zO, h3]
    ·have h3' : ¬ ((c.toNat : Int) = Int.ofNat 46) := by
      intro e
      have e' : c.toNat = 46 := by simp at e; omega
      exact h3 (UInt8.toNat_inj.1 (by rw [e']; rfl))
     rw [if_pos (by simpa using h3')]
     simp [zO, h1, h2, h3]
def wD (l : List UInt8) : Bool := match l with
 | [] => false
 | c :: r => decide (r.length < 16) && oD c && (c :: r).all zO
theorem aRT (s : ByteArray) (h : Hp) : ∃ h', F85 [.string s] h = some (.bool (wD s.data.toList), h') := by
 have hw : ∀ h : Hp, F82 [.int .i64 (Int.ofNat 1), .int .i64 (Int.ofNat 16), .slice (some ⟨h.next, 0, none⟩) 1 1] (h.add (.cells [.int .i64 (s.size : Int)] 3 none)) = some (.bool (rY 1 16 s.size)) := by
  intro h
  have := J5 (h.add (.cells [.int .i64 (s.size : Int)] 3 none)) 1 16 h.next 0 1 [.int .i64 (s.size : Int)] 3 none (BP _ _) [(s.size : Int)] (by
   intro j x hx
   cases j with
   | zero => simp at hx; subst hx; rfl
   | succ j => simp at hx) (by simp)
  rw [show ([(s.size : Int)] : List Int).length = 1 from rfl] at this
  rw [show (Int.ofNat 1) = (1 : Int) from rfl, show (Int.ofNat 16) = (16 : Int) from rfl, this]
  simp
 have start : F85 [.string s] h = aKC (aN T85 999999) (.string s) h := rfl
 rw [start]
 unfold aKC
 rw [nZ, WR, aB, hw, aM, aB, aZ, aR, aH]
 cases hl : s.data.toList with
 | nil =>
  have h0 : s.size = 0 := by rw [show s.size = s.data.toList.length by simp]; rw [hl]; rfl
  rw [if_pos (by simp [rY, h0])]
  exact ⟨_, rfl⟩
 | cons c r =>
  have hsz : s.size = r.length + 1 := by rw [show s.size = s.data.toList.length by simp]; rw [hl]; rfl
  by_cases h16 : r.length < 16
  ·have hb : s[0]? = some c := by
    rw [show s[0]? = s.data[0]? from rfl, ← Array.getElem?_toList, hl]; rfl
   rw [if_neg (by simp [rY, hsz]; omega), show (Int.ofNat 0) = ((0 : Nat) : Int) from rfl, wQ dL aWI hb, aM, aI, TW, aM, aB, aZ, aR, aH]
   cases h1 : oD c with
   | false => rw [if_pos (by simp)]; exact ⟨_, by simp [wD, h1]; rfl⟩
   | true =>
    rw [if_neg (by simp), nZ, TY s (by omega) _ s.size 0 999999 (by omega) (by omega), List.drop_zero, hl]
    exact ⟨_, by simp only [wD, h1, decide_eq_true h16, Bool.true_and]; rfl⟩
  ·rw [if_pos (by simp [rY, hsz]; omega)]
   exact ⟨_, by simp [wD, h16]; rfl⟩
end Go.Proofs.Ytdpicdnpiihaaaa.K.L
