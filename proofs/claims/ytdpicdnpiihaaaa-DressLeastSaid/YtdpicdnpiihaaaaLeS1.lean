/- Contracts of told functions: numbers within, names. -/
import Derived.Test.YtdpicdnpiihaaaaLeToldL
import Derived.Test.YtdpicdnpiihaaaaLeEngC
open Go Go.bK
set_option maxRecDepth 100000
set_option linter.unusedVariables false
namespace Go.Proofs.Ytdpicdnpiihaaaa.K.L
def qC (lo hi n : Int) : Bool := !(decide (n < lo)) && !(decide (hi < n))
theorem LD (h : Hp) (lo hi : Int) (b o c : Nat) (cs : List Value) (t : TypeId) (s : Option Nat) (hg : h.get b = some (.cells cs t s)) (l : List Int) (hl : ∀ (j : Nat) (x : Int), l[j]? = some x → cs[o + j]? = some (.int .i64 x)) (hlen : l.length ≤ 1000000) :
  ∀ m i n, i + m = l.length → m + 2 ≤ n → G.aI (T82 h) n 1 (aD.i lo (aD.i hi (aD.v (.slice (some ⟨b, o, none⟩) l.length c) (aD.i (l.length : Int) (aD.i (i : Int) aD.n))))) = some (.bool ((l.drop i).all (qC lo hi)))
 | 0, i, n + 2, him, hn => by
  show Y8 h (G.aI (T82 h) (n + 1)) lo hi (.slice (some ⟨b, o, none⟩) l.length c) (l.length : Int) (i : Int) = _
  unfold Y8
  rw [aH, aN, aC, if_neg (by simp; omega)]
  show aJ4 h (G.aI (T82 h) n) = _
  unfold aJ4
  rw [List.drop_of_length_le (by omega)]; rfl
 | m + 1, i, n + 1, him, hn => by
  have hi' : i < l.length := by omega
  show Y8 h (G.aI (T82 h) n) lo hi (.slice (some ⟨b, o, none⟩) l.length c) (l.length : Int) (i : Int) = _
  unfold Y8
  have hx := List.getElem?_eq_getElem hi'
  rw [aH, aN, aC, if_pos (by simp; omega), BO 1 b o l.length c i hi', aGL hg (by rw [Nat.mul_one]; exact hl i _ hx), aG, aH, aN, aC, aH, aN, aC, List.drop_eq_getElem_cons hi', List.all_cons]
  by_cases h1 : l[i] < lo
  ·rw [if_pos (by simpa using h1)]; simp [qC, h1]
  ·rw [if_neg (by simpa using h1)]
   by_cases h2 : hi < l[i]
   ·rw [if_pos (by simpa using h2)]; simp [qC, h2]
   ·rw [if_neg (by simpa using h2), show Int.add (i : Int) (Int.ofNat 1) = ((i + 1 : Nat) : Int) from rfl, wrap64_in _ (by omega) (by omega)]
    have ih := LD h lo hi b o c cs t s hg l hl hlen m (i + 1) n (by omega) (by omega)
    rw [ih]
    simp [qC, h1, h2]
theorem DV (h : Hp) (lo hi : Int) (b o c : Nat) (cs : List Value) (t : TypeId) (s : Option Nat) (hg : h.get b = some (.cells cs t s)) (l : List Int) (hl : ∀ (j : Nat) (x : Int), l[j]? = some x → cs[o + j]? = some (.int .i64 x)) (hlen : l.length ≤ 900000) :
  F82 [.int .i64 lo, .int .i64 hi, .slice (some ⟨b, o, none⟩) l.length c] h = some (.bool (l.all (qC lo hi))) := by
 show plainO (aJ5 h (G.aI (T82 h) 999999) lo hi (.slice (some ⟨b, o, none⟩) l.length c)) = _
 unfold aJ5
 rw [rW]
 have := LD h lo hi b o c cs t s hg l hl (by omega) l.length 0 999999 (by omega) (by omega)
 rw [show (Int.ofNat 0) = ((0 : Nat) : Int) from rfl, this, List.drop_zero]
 rfl
theorem aWY : gK env 9 = some .string := by kernel_rfl
theorem MJ (h : Hp) (n : Int) : bF env h 22 1 (List.toArray [(0, (Value.int .i64 n))]) = some (.slice (some ⟨h.next, 0, none⟩) 1 1, h.add (.cells [.int .i64 n] 3 none)) := by kernel_rfl
def nO (b : UInt8) : Bool := decide (97 ≤ b.toNat) && decide (b.toNat ≤ 122)
def wP (b : UInt8) : Bool := decide (48 ≤ b.toNat) && decide (b.toNat ≤ 57)
theorem TW (b : UInt8) (h : Hp) : aGR [.int .u8 b.toNat] h = some (.bool (nO b)) := by
 show plainO (aCE h (G.aI (aKA h) 999999) b.toNat) = _
 unfold aCE
 rw [aP, aN, aC, aP, aN]
 by_cases h1 : 97 ≤ b.toNat
 ·rw [if_pos (by simp; omega)]
  show some (Value.bool _) = _
  congr 2
  unfold nO
  rw [Bool.eq_iff_iff]; simp; omega
 ·rw [if_neg (by simp; omega)]
  show some (Value.bool false) = _
  congr 2
  unfold nO
  rw [eq_comm, Bool.and_eq_false_iff]; left; simp; omega
theorem aN6 (b : UInt8) (h : Hp) : aKC [.int .u8 b.toNat] h = some (.bool (wP b)) := by
 show plainO (aCF h (G.aI (aKB h) 999999) b.toNat) = _
 unfold aCF
 rw [aP, aN, aC, aP, aN]
 by_cases h1 : 48 ≤ b.toNat
 ·rw [if_pos (by simp; omega)]
  show some (Value.bool _) = _
  congr 2
  unfold wP
  rw [Bool.eq_iff_iff]; simp; omega
 ·rw [if_neg (by simp; omega)]
  show some (Value.bool false) = _
  congr 2
  unfold wP
  rw [eq_comm, Bool.and_eq_false_iff]; left; simp; omega
def zN (b : UInt8) : Bool := nO b || wP b || b == 46
theorem TY (s : ByteArray) (hs : s.size ≤ 16) (h : Hp) : ∀ m i n, i + m = s.size → m + 2 ≤ n →
  aI T85 n 1 (AL.v (.string s) (AL.i (s.size : Int) (AL.i (i : Int) AL.n))) h = some (.bool ((s.data.toList.drop i).all zN), h)
 | 0, i, n + 2, him, hn => by
  show ZA (aI T85 (n + 1)) (.string s) (s.size : Int) (i : Int) h = _
  unfold ZA
  rw [aH, aN, aC, if_neg (by simp; omega)]
  show aKD (aI T85 n) h = _
  unfold aKD
  rw [List.drop_of_length_le (by simp; omega)]; rfl
 | m + 1, i, n + 1, him, hn => by
  have hi' : i < s.size := by omega
  obtain ⟨c, hb, hdrop⟩ : ∃ c, s[i]? = some c ∧ s.data.toList.drop i = c :: s.data.toList.drop (i + 1) := by
   have hi2 : i < s.data.toList.length := by simpa using hi'
   refine ⟨s.data.toList[i], ?_, List.drop_eq_getElem_cons hi2⟩
   rw [show s[i]? = s.data[i]? from rfl, Array.getElem?_eq_getElem (by simpa using hi2)]
   simp
  show ZA (aI T85 n) (.string s) (s.size : Int) (i : Int) h = _
  unfold ZA
  have ih := TY s hs h m (i + 1) n (by omega) (by omega)
  rw [aH, aN, aC, if_pos (by simp; omega), wO dM aWY hb, aK, aG, TW, aK, aB, aS, aP, aC, hdrop, List.all_cons]
  rw [show Int.add (i : Int) (Int.ofNat 1) = ((i + 1 : Nat) : Int) from rfl]
  cases h1 : nO c with
  | true =>
   rw [if_neg (by simp), wrap64_in _ (by omega) (by omega), ih]
   simp [zN, h1]
  | false =>
   rw [if_pos (by simp), aK, aG, aN6, aK, aB, aS, aP, aC]
   cases h2 : wP c with
   | true =>
    rw [if_neg (by simp), wrap64_in _ (by omega) (by omega), ih]
    simp [zN, h2]
   | false =>
    rw [if_pos (by simp), aK, aG, aP, aY, aC, wrap64_in _ (by omega) (by omega), ih]
    by_cases h3 : c = 46
    ·rw [if_neg (by rw [h3]; decide)]
     simp [zN, h3]
    ·have h3' : ¬ ((c.toNat : Int) = Int.ofNat 46) := by
      intro e
      have e' : c.toNat = 46 := by simp at e; omega
      exact h3 (UInt8.toNat_inj.1 (by rw [e']; rfl))
     rw [if_pos (by simpa using h3')]
     simp [zN, h1, h2, h3]
def xQ (l : List UInt8) : Bool := match l with
 | [] => false
 | c :: r => decide (r.length < 16) && nO c && (c :: r).all zN
theorem aSD (s : ByteArray) (h : Hp) : ∃ h', F85 [.string s] h = some (.bool (xQ s.data.toList), h') := by
 have hw : ∀ h : Hp, F82 [.int .i64 (Int.ofNat 1), .int .i64 (Int.ofNat 16), .slice (some ⟨h.next, 0, none⟩) 1 1] (h.add (.cells [.int .i64 (s.size : Int)] 3 none)) = some (.bool (qC 1 16 s.size)) := by
  intro h
  have := DV (h.add (.cells [.int .i64 (s.size : Int)] 3 none)) 1 16 h.next 0 1 [.int .i64 (s.size : Int)] 3 none (BS _ _) [(s.size : Int)] (by
   intro j x hx
   cases j with
   | zero => simp at hx; subst hx; rfl
   | succ j => simp at hx) (by simp)
  rw [show ([(s.size : Int)] : List Int).length = 1 from rfl] at this
  rw [show (Int.ofNat 1) = (1 : Int) from rfl, show (Int.ofNat 16) = (16 : Int) from rfl, this]
  simp
 have start : F85 [.string s] h = aKE (aI T85 999999) (.string s) h := rfl
 rw [start]
 unfold aKE
 rw [nN, MJ, aB, hw, aK, aB, aS, aP, aC]
 cases hl : s.data.toList with
 | nil =>
  have h0 : s.size = 0 := by rw [show s.size = s.data.toList.length by simp]; rw [hl]; rfl
  rw [if_pos (by simp [qC, h0])]
  exact ⟨_, rfl⟩
 | cons c r =>
  have hsz : s.size = r.length + 1 := by rw [show s.size = s.data.toList.length by simp]; rw [hl]; rfl
  by_cases h16 : r.length < 16
  ·have hb : s[0]? = some c := by
    rw [show s[0]? = s.data[0]? from rfl, ← Array.getElem?_toList, hl]; rfl
   rw [if_neg (by simp [qC, hsz]; omega), show (Int.ofNat 0) = ((0 : Nat) : Int) from rfl, wO dM aWY hb, aK, aG, TW, aK, aB, aS, aP, aC]
   cases h1 : nO c with
   | false => rw [if_pos (by simp)]; exact ⟨_, by simp [xQ, h1]; rfl⟩
   | true =>
    rw [if_neg (by simp), nN, TY s (by omega) _ s.size 0 999999 (by omega) (by omega), List.drop_zero, hl]
    exact ⟨_, by simp only [xQ, h1, decide_eq_true h16, Bool.true_and]; rfl⟩
  ·rw [if_pos (by simp [qC, hsz]; omega)]
   exact ⟨_, by simp [xQ, h16]; rfl⟩
end Go.Proofs.Ytdpicdnpiihaaaa.K.L
