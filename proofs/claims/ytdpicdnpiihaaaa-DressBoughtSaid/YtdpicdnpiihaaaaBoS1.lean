/- Contracts of told functions: numbers within, names. -/
import Derived.Test.YtdpicdnpiihaaaaBoToldL
import Derived.Test.YtdpicdnpiihaaaaBoEngC
open Go Go.bK
set_option maxRecDepth 100000
set_option linter.unusedVariables false
namespace Go.Proofs.Ytdpicdnpiihaaaa.K.L
def rZ (lo hi n : Int) : Bool := !(decide (n < lo)) && !(decide (hi < n))
theorem K5 (h : Hp) (lo hi : Int) (b o c : Nat) (cs : List Value) (t : TypeId) (s : Option Nat) (hg : h.get b = some (.cells cs t s)) (l : List Int) (hl : ∀ (j : Nat) (x : Int), l[j]? = some x → cs[o + j]? = some (.int .i64 x)) (hlen : l.length ≤ 1000000) :
  ∀ m i n, i + m = l.length → m + 2 ≤ n → G.aK (T82 h) n 1 (aD.i lo (aD.i hi (aD.v (.slice (some ⟨b, o, none⟩) l.length c) (aD.i (l.length : Int) (aD.i (i : Int) aD.n))))) = some (.bool ((l.drop i).all (rZ lo hi)))
 | 0, i, n + 2, him, hn => by
  show YQ h (G.aK (T82 h) (n + 1)) lo hi (.slice (some ⟨b, o, none⟩) l.length c) (l.length : Int) (i : Int) = _
  unfold YQ
  rw [aM, aU, aG, if_neg (by simp; omega)]
  show aIZ h (G.aK (T82 h) n) = _
  unfold aIZ
  rw [List.drop_of_length_le (by omega)]; rfl
 | m + 1, i, n + 1, him, hn => by
  have hi' : i < l.length := by omega
  show YQ h (G.aK (T82 h) n) lo hi (.slice (some ⟨b, o, none⟩) l.length c) (l.length : Int) (i : Int) = _
  unfold YQ
  have hx := List.getElem?_eq_getElem hi'
  rw [aM, aU, aG, if_pos (by simp; omega), HY 1 b o l.length c i hi', aFV hg (by rw [Nat.mul_one]; exact hl i _ hx), aH, aM, aU, aG, aM, aU, aG, List.drop_eq_getElem_cons hi', List.all_cons]
  by_cases h1 : l[i] < lo
  ·rw [if_pos (by simpa using h1)]; simp [rZ, h1]
  ·rw [if_neg (by simpa using h1)]
   by_cases h2 : hi < l[i]
   ·rw [if_pos (by simpa using h2)]; simp [rZ, h2]
   ·rw [if_neg (by simpa using h2), show Int.add (i : Int) (Int.ofNat 1) = ((i + 1 : Nat) : Int) from rfl, wrap64_in _ (by omega) (by omega)]
    have ih := K5 h lo hi b o c cs t s hg l hl hlen m (i + 1) n (by omega) (by omega)
    rw [ih]
    simp [rZ, h1, h2]
theorem JY (h : Hp) (lo hi : Int) (b o c : Nat) (cs : List Value) (t : TypeId) (s : Option Nat) (hg : h.get b = some (.cells cs t s)) (l : List Int) (hl : ∀ (j : Nat) (x : Int), l[j]? = some x → cs[o + j]? = some (.int .i64 x)) (hlen : l.length ≤ 900000) :
  F82 [.int .i64 lo, .int .i64 hi, .slice (some ⟨b, o, none⟩) l.length c] h = some (.bool (l.all (rZ lo hi))) := by
 show plainO (aI0 h (G.aK (T82 h) 999999) lo hi (.slice (some ⟨b, o, none⟩) l.length c)) = _
 unfold aI0
 rw [K3]
 have := K5 h lo hi b o c cs t s hg l hl (by omega) l.length 0 999999 (by omega) (by omega)
 rw [show (Int.ofNat 0) = ((0 : Nat) : Int) from rfl, this, List.drop_zero]
 rfl
theorem aVA : gI env 9 = some .string := by kernel_rfl
theorem V7 (h : Hp) (n : Int) : bA env h 22 1 (List.toArray [(0, (Value.int .i64 n))]) = some (.slice (some ⟨h.next, 0, none⟩) 1 1, h.add (.cells [.int .i64 n] 3 none)) := by kernel_rfl
def nW (b : UInt8) : Bool := decide (97 ≤ b.toNat) && decide (b.toNat ≤ 122)
def wJ (b : UInt8) : Bool := decide (48 ≤ b.toNat) && decide (b.toNat ≤ 57)
theorem TD (b : UInt8) (h : Hp) : aF2 [.int .u8 b.toNat] h = some (.bool (nW b)) := by
 show plainO (aBU h (G.aK (aI5 h) 999999) b.toNat) = _
 unfold aBU
 rw [aQ, aU, aG, aQ, aU]
 by_cases h1 : 97 ≤ b.toNat
 ·rw [if_pos (by simp; omega)]
  show some (Value.bool _) = _
  congr 2
  unfold nW
  rw [Bool.eq_iff_iff]; simp; omega
 ·rw [if_neg (by simp; omega)]
  show some (Value.bool false) = _
  congr 2
  unfold nW
  rw [eq_comm, Bool.and_eq_false_iff]; left; simp; omega
theorem aMS (b : UInt8) (h : Hp) : aI7 [.int .u8 b.toNat] h = some (.bool (wJ b)) := by
 show plainO (aBV h (G.aK (aI6 h) 999999) b.toNat) = _
 unfold aBV
 rw [aQ, aU, aG, aQ, aU]
 by_cases h1 : 48 ≤ b.toNat
 ·rw [if_pos (by simp; omega)]
  show some (Value.bool _) = _
  congr 2
  unfold wJ
  rw [Bool.eq_iff_iff]; simp; omega
 ·rw [if_neg (by simp; omega)]
  show some (Value.bool false) = _
  congr 2
  unfold wJ
  rw [eq_comm, Bool.and_eq_false_iff]; left; simp; omega
def zK (b : UInt8) : Bool := nW b || wJ b || b == 46
theorem TE (s : ByteArray) (hs : s.size ≤ 16) (h : Hp) : ∀ m i n, i + m = s.size → m + 2 ≤ n →
  aK T85 n 1 (AL.v (.string s) (AL.i (s.size : Int) (AL.i (i : Int) AL.n))) h = some (.bool ((s.data.toList.drop i).all zK), h)
 | 0, i, n + 2, him, hn => by
  show YS (aK T85 (n + 1)) (.string s) (s.size : Int) (i : Int) h = _
  unfold YS
  rw [aM, aU, aG, if_neg (by simp; omega)]
  show aI8 (aK T85 n) h = _
  unfold aI8
  rw [List.drop_of_length_le (by simp; omega)]; rfl
 | m + 1, i, n + 1, him, hn => by
  have hi' : i < s.size := by omega
  obtain ⟨c, hb, hdrop⟩ : ∃ c, s[i]? = some c ∧ s.data.toList.drop i = c :: s.data.toList.drop (i + 1) := by
   have hi2 : i < s.data.toList.length := by simpa using hi'
   refine ⟨s.data.toList[i], ?_, List.drop_eq_getElem_cons hi2⟩
   rw [show s[i]? = s.data[i]? from rfl, Array.getElem?_eq_getElem (by simpa using hi2)]
   simp
  show YS (aK T85 n) (.string s) (s.size : Int) (i : Int) h = _
  unfold YS
  have ih := TE s hs h m (i + 1) n (by omega) (by omega)
  rw [aM, aU, aG, if_pos (by simp; omega), wH dL aVA hb, aJ, aH, TD, aJ, aB, aW, aQ, aG, hdrop, List.all_cons]
  rw [show Int.add (i : Int) (Int.ofNat 1) = ((i + 1 : Nat) : Int) from rfl]
  cases h1 : nW c with
  | true =>
   rw [if_neg (by simp), wrap64_in _ (by omega) (by omega), ih]
   simp [zK, h1]
  | false =>
   rw [if_pos (by simp), aJ, aH, aMS, aJ, aB, aW, aQ, aG]
   cases h2 : wJ c with
   | true =>
    rw [if_neg (by simp), wrap64_in _ (by omega) (by omega), ih]
    simp [zK, h2]
   | false =>
    rw [if_pos (by simp), aJ, aH, aQ, bI, aG, wrap64_in _ (by omega) (by omega), ih]
    by_cases h3 : c = 46
    ·rw [if_neg (by rw [h3]; decide)]
     simp [zK, h3]
    ·have h3' : ¬ ((c.toNat : Int) = Int.ofNat 46) := by
      intro e
      have e' : c.toNat = 46 := by simp at e; omega
      exact h3 (UInt8.toNat_inj.1 (by rw [e']; rfl))
     rw [if_pos (by simpa using h3')]
     simp [zK, h1, h2, h3]
def xO (l : List UInt8) : Bool := match l with
 | [] => false
 | c :: r => decide (r.length < 16) && nW c && (c :: r).all zK
theorem aQL (s : ByteArray) (h : Hp) : ∃ h', F85 [.string s] h = some (.bool (xO s.data.toList), h') := by
 have hw : ∀ h : Hp, F82 [.int .i64 (Int.ofNat 1), .int .i64 (Int.ofNat 16), .slice (some ⟨h.next, 0, none⟩) 1 1] (h.add (.cells [.int .i64 (s.size : Int)] 3 none)) = some (.bool (rZ 1 16 s.size)) := by
  intro h
  have := JY (h.add (.cells [.int .i64 (s.size : Int)] 3 none)) 1 16 h.next 0 1 [.int .i64 (s.size : Int)] 3 none (BM _ _) [(s.size : Int)] (by
   intro j x hx
   cases j with
   | zero => simp at hx; subst hx; rfl
   | succ j => simp at hx) (by simp)
  rw [show ([(s.size : Int)] : List Int).length = 1 from rfl] at this
  rw [show (Int.ofNat 1) = (1 : Int) from rfl, show (Int.ofNat 16) = (16 : Int) from rfl, this]
  simp
 have start : F85 [.string s] h = aI9 (aK T85 999999) (.string s) h := rfl
 rw [start]
 unfold aI9
 rw [nV, V7, aB, hw, aJ, aB, aW, aQ, aG]
 cases hl : s.data.toList with
 | nil =>
  have h0 : s.size = 0 := by rw [show s.size = s.data.toList.length by simp]; rw [hl]; rfl
  rw [if_pos (by simp [rZ, h0])]
  exact ⟨_, rfl⟩
 | cons c r =>
  have hsz : s.size = r.length + 1 := by rw [show s.size = s.data.toList.length by simp]; rw [hl]; rfl
  by_cases h16 : r.length < 16
  ·have hb : s[0]? = some c := by
    rw [show s[0]? = s.data[0]? from rfl, ← Array.getElem?_toList, hl]; rfl
   rw [if_neg (by simp [rZ, hsz]; omega), show (Int.ofNat 0) = ((0 : Nat) : Int) from rfl, wH dL aVA hb, aJ, aH, TD, aJ, aB, aW, aQ, aG]
   cases h1 : nW c with
   | false => rw [if_pos (by simp)]; exact ⟨_, by simp [xO, h1]; rfl⟩
   | true =>
    rw [if_neg (by simp), nV, TE s (by omega) _ s.size 0 999999 (by omega) (by omega), List.drop_zero, hl]
    exact ⟨_, by simp only [xO, h1, decide_eq_true h16, Bool.true_and]; rfl⟩
  ·rw [if_pos (by simp [rZ, hsz]; omega)]
   exact ⟨_, by simp [xO, h16]; rfl⟩
end Go.Proofs.Ytdpicdnpiihaaaa.K.L
