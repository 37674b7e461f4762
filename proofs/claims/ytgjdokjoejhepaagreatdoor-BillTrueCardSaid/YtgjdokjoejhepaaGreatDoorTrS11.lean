/- Contracts of told functions: the entries of a figure, yielded one by one. -/
import Derived.Test.YtgjdokjoejhepaaGreatDoorTrS10
open Go Go.bP Go.bP.Y
set_option maxRecDepth 100000
set_option linter.unusedVariables false
namespace Go.Proofs.YtgjdokjoejhepaaGreatDoor.K.L
theorem a1J {h : Hp} (w : Wf h) (e : TypeId) (x y v u : Value) (hv : oneCell v = true) (hu : oneCell u = true) : ∃ h', bE h h' ∧ h'.get h.next = some (.cells [v, u] e none) ∧ ∀ (ρ : Type) (k : Value → Hp → Option ρ), (dP h e [x, y] fun a h3 => iY 2 h3 a (.agg (Array.mk [v, u])) fun h4 => k a h4) = k (.pointer (some ⟨h.next, 0, none⟩)) h' := by
 refine ⟨(h.add (.cells [x, y] e none)).upd h.next (.cells [v, u] e none), bE.upd w (bE.add w _) (Nat.le_refl _) (by rw [BK]; omega) _, by rw [dL, if_pos rfl], fun ρ k => ?_⟩
 rw [bL, qR (n := 2) (c := [x, y]) (by rw [dM, if_pos rfl]) (by rw [PW]; exact w.1) rfl (by simp [hv, hu]) (by simp)]
 simp
section
variable {s : Sh} {r : List Value} {x : Nat} {p q : Value} {c0 l : Nat} {yf : YF} {J : Nat → Nat → Hp → Prop} {Stop : Hp → Prop}
structure aUF (s : Sh) (r : List Value) (x : Nat) (p q : Value) (c0 l : Nat) (yf : YF) (J : Nat → Nat → Hp → Prop) (Stop : Hp → Prop) : Prop where
 inv : ∀ k b h, J k b h → Wf h ∧ At h p r ∧ yX h s r ∧ At h q [.int .i64 (x : Int)] ∧ c0 ≤ h.next
 grow : ∀ k b h h', bE h h' → J k b h → J k b h'
 next : ∀ k h, J k s.aU.length h → J (k + 1) 0 h
 no : ∀ k b h, k < 3 → b < s.aU.length → aB1 s k x b = false → J k b h → J k (b + 1) h
 yes : ∀ k b h, k < 3 → b < s.aU.length → aB1 s k x b = true → J k b h → ∃ res h', yf l [a1H k x b] h = some (.bool res, h') ∧ (∀ i o, c0 ≤ i → h.get i = some o → h'.get i = some o) ∧ (if res then J k (b + 1) h' else Stop h')
theorem FJ (A : aUF s r x p q c0 l yf J Stop) (f : mZ s) (hx : x < s.aU.length) (k : Nat) (hk : k < 3) (b2 : Nat) (hc : c0 ≤ b2) (n : Nat) : ∀ m b (h : Hp) (z : Z), z.ds = [] → J k b h → h.get b2 = some (.cells [fv (161 + 2 * k) (.agg (Array.mk r)), fv (162 + 2 * k) (.agg (Array.mk r))] 180 none) → b + m = s.aU.length →
  (∃ h', nO (uH yf) (m + 1 + n) 2 (AL.v (.func (.yield l) #[] #[]) (AL.v p (AL.v q (AL.i (k : Int) (AL.v (.pointer (some ⟨b2, 0, none⟩)) (AL.v (.agg (Array.mk (SF (.agg (Array.mk r))))) (AL.i (k : Int) (AL.i (s.aU.length : Int) (AL.i (b : Int) AL.n))))))))) z h = some (.tuple (List.toArray []), h') ∧ Stop h') ∨
  (∃ h' z', z'.ds = [] ∧ J k s.aU.length h' ∧ nO (uH yf) (m + 1 + n) 2 (AL.v (.func (.yield l) #[] #[]) (AL.v p (AL.v q (AL.i (k : Int) (AL.v (.pointer (some ⟨b2, 0, none⟩)) (AL.v (.agg (Array.mk (SF (.agg (Array.mk r))))) (AL.i (k : Int) (AL.i (s.aU.length : Int) (AL.i (b : Int) AL.n))))))))) z h =
   nO (uH yf) n 3 (AL.v (.func (.yield l) #[] #[]) (AL.v p (AL.v q (AL.v (.agg (Array.mk (SF (.agg (Array.mk r))))) (AL.i (k : Int) AL.n))))) z' h')
 | 0, b, h, z, hz, hJ, hb2, hbm => by
  right
  refine ⟨h, Z.lose z, hz, ?_, ?_⟩
  ·rw [show b = s.aU.length by omega] at hJ; exact hJ
  ·have step : nO (uH yf) (0 + 1 + n) 2 (AL.v (.func (.yield l) #[] #[]) (AL.v p (AL.v q (AL.i (k : Int) (AL.v (.pointer (some ⟨b2, 0, none⟩)) (AL.v (.agg (Array.mk (SF (.agg (Array.mk r))))) (AL.i (k : Int) (AL.i (s.aU.length : Int) (AL.i (b : Int) AL.n))))))))) z h =
     KD yf (nO (uH yf) n) (.func (.yield l) #[] #[]) p q (k : Int) (.pointer (some ⟨b2, 0, none⟩)) (.agg (Array.mk (SF (.agg (Array.mk r))))) (k : Int) (s.aU.length : Int) (b : Int) z h := by rw [show 0 + 1 + n = n + 1 by omega]; rfl
   rw [step]
   unfold KD
   rw [aN, bA, aI, if_neg (by simp; omega)]
 | m + 1, b, h, z, hz, hJ, hb2, hbm => by
  have hb : b < s.aU.length := by omega
  have step : nO (uH yf) (m + 1 + 1 + n) 2 (AL.v (.func (.yield l) #[] #[]) (AL.v p (AL.v q (AL.i (k : Int) (AL.v (.pointer (some ⟨b2, 0, none⟩)) (AL.v (.agg (Array.mk (SF (.agg (Array.mk r))))) (AL.i (k : Int) (AL.i (s.aU.length : Int) (AL.i (b : Int) AL.n))))))))) z h =
    KD yf (nO (uH yf) (m + 1 + n)) (.func (.yield l) #[] #[]) p q (k : Int) (.pointer (some ⟨b2, 0, none⟩)) (.agg (Array.mk (SF (.agg (Array.mk r))))) (k : Int) (s.aU.length : Int) (b : Int) z h := by rw [show m + 1 + 1 + n = (m + 1 + n) + 1 by omega]; rfl
  obtain ⟨w, ap, sh, aq, hc0⟩ := A.inv k b h hJ
  have a2 : At h (.pointer (some ⟨b2, 0, none⟩)) [fv (161 + 2 * k) (.agg (Array.mk r)), fv (162 + 2 * k) (.agg (Array.mk r))] := ⟨b2, 0, _, 180, none, rfl, hb2, by simp, fun k x hx => by simpa using hx⟩
  have body : nO (uH yf) (m + 1 + 1 + n) 2 (AL.v (.func (.yield l) #[] #[]) (AL.v p (AL.v q (AL.i (k : Int) (AL.v (.pointer (some ⟨b2, 0, none⟩)) (AL.v (.agg (Array.mk (SF (.agg (Array.mk r))))) (AL.i (k : Int) (AL.i (s.aU.length : Int) (AL.i (b : Int) AL.n))))))))) z h =
    if aB1 s k x b then (aY (yf l [a1H k x b] h) fun v10 h10 => bW v10 fun b11 => dK b11 fun b12 => dI b12 (dD (vD (Z.ds (Z.lose z)) h10) fun h13 => some (.tuple (List.toArray []), h13)) (nO (uH yf) (m + 1 + n) 2 (AL.v (.func (.yield l) #[] #[]) (AL.v p (AL.v q (AL.i (k : Int) (AL.v (.pointer (some ⟨b2, 0, none⟩)) (AL.v (.agg (Array.mk (SF (.agg (Array.mk r))))) (AL.i (k : Int) (AL.i (s.aU.length : Int) (AL.i ((b + 1 : Nat) : Int) AL.n))))))))) (Z.lose z) h10))
    else nO (uH yf) (m + 1 + n) 2 (AL.v (.func (.yield l) #[] #[]) (AL.v p (AL.v q (AL.i (k : Int) (AL.v (.pointer (some ⟨b2, 0, none⟩)) (AL.v (.agg (Array.mk (SF (.agg (Array.mk r))))) (AL.i (k : Int) (AL.i (s.aU.length : Int) (AL.i ((b + 1 : Nat) : Int) AL.n))))))))) (Z.lose z) h := by
   have f6 := f.aU
   rw [step]
   unfold KD
   rw [aN, bA, aI, if_pos (by simp; omega), a2.lK 0 (x := fv (161 + 2 * k) (.agg (Array.mk r))) rfl, aq.lV (x := .int .i64 (x : Int)) rfl, aK, a1I w sh f x b hx hb yf k hk, aD, aO, aI, show Int.add (b : Int) (Int.ofNat 1) = ((b + 1 : Nat) : Int) from rfl]
   cases hs : aB1 s k x b with
   | false => rw [if_neg (by simp), if_neg (by simp), wrap64_in _ (by omega) (by omega)]
   | true =>
    rw [if_pos rfl, if_pos rfl, aq.lV (x := .int .i64 (x : Int)) rfl, aK, aUE, aM, aBF]
    congr 1
    funext v10 h10
    congr 1
    funext b11
    congr 1
    funext b12
    rw [wrap64_in _ (by omega) (by omega)]
  cases hs : aB1 s k x b with
  | false =>
   rw [hs, if_neg (by simp)] at body
   rw [body]
   exact FJ A f hx k hk b2 hc n m (b + 1) h (Z.lose z) hz (A.no k b h hk hb hs hJ) hb2 (by omega)
  | true =>
   rw [hs, if_pos rfl] at body
   obtain ⟨res, h1, e1, hkeep, hres⟩ := A.yes k b h hk hb hs hJ
   rw [e1, aD, aO, aX, aI] at body
   cases res with
   | false =>
    left
    rw [body, if_pos (by rfl)]
    refine ⟨h1, ?_, by simpa using hres⟩
    rw [show Z.ds (Z.lose z) = [] from hz]
    rfl
   | true =>
    rw [if_neg (by simp)] at body
    rw [body]
    exact FJ A f hx k hk b2 hc n m (b + 1) h1 (Z.lose z) hz (by simpa using hres) (hkeep _ _ hc hb2) (by omega)
theorem MG (A : aUF s r x p q c0 l yf J Stop) (f : mZ s) (hx : x < s.aU.length) (n : Nat) : ∀ m k (h : Hp) (z : Z), z.ds = [] → J k 0 h → k + m = 3 →
  ∃ h', nO (uH yf) (m * (s.aU.length + 3) + 1 + n) 1 (AL.v (.func (.yield l) #[] #[]) (AL.v p (AL.v q (AL.v (.agg (Array.mk (SF (.agg (Array.mk r))))) (AL.i (k : Int) AL.n))))) z h = some (.tuple (List.toArray []), h') ∧ (J 3 0 h' ∨ Stop h')
 | 0, k, h, z, hz, hJ, hkm => by
  have step : nO (uH yf) (0 * (s.aU.length + 3) + 1 + n) 1 (AL.v (.func (.yield l) #[] #[]) (AL.v p (AL.v q (AL.v (.agg (Array.mk (SF (.agg (Array.mk r))))) (AL.i (k : Int) AL.n))))) z h = KF yf (nO (uH yf) n) (.func (.yield l) #[] #[]) p q (.agg (Array.mk (SF (.agg (Array.mk r))))) (k : Int) z h := by rw [show 0 * (s.aU.length + 3) + 1 + n = n + 1 by omega]; rfl
  rw [step]
  unfold KF
  rw [aN, bA, aI, if_neg (by simp; omega), show Z.ds (Z.lose z) = [] from hz]
  exact ⟨h, rfl, .inl (by rw [show k = 3 by omega] at hJ; exact hJ)⟩
 | m + 1, k, h, z, hz, hJ, hkm => by
  have hk : k < 3 := by omega
  obtain ⟨w, ap, sh, aq, hc0⟩ := A.inv k 0 h hJ
  have f6 := f.aU
  have ef : (m + 1) * (s.aU.length + 3) + 1 + n = (s.aU.length + 1 + ((m * (s.aU.length + 3) + 1 + n) + 1)) + 1 := by rw [Nat.add_mul]; omega
  have step : nO (uH yf) ((m + 1) * (s.aU.length + 3) + 1 + n) 1 (AL.v (.func (.yield l) #[] #[]) (AL.v p (AL.v q (AL.v (.agg (Array.mk (SF (.agg (Array.mk r))))) (AL.i (k : Int) AL.n))))) z h = KF yf (nO (uH yf) (s.aU.length + 1 + ((m * (s.aU.length + 3) + 1 + n) + 1))) (.func (.yield l) #[] #[]) p q (.agg (Array.mk (SF (.agg (Array.mk r))))) (k : Int) z h := by rw [ef]; rfl
  obtain ⟨h1, g1, gb, hk2⟩ := a1J w 180 .nilFunc .nilFunc (fv (161 + 2 * k) (.agg (Array.mk r))) (fv (162 + 2 * k) (.agg (Array.mk r))) rfl rfl
  have ap1 := ap.sub g1.sub
  have sh1 := sh.sub g1.sub
  have hr3 := sh.len
  obtain ⟨vf, vt, hrow, sf, st⟩ := id sh1
  obtain ⟨q0, hq0, aq0⟩ := ap1.part 0 3 (by rw [hr3]; decide)
  have aq1 : At h1 q0 (eT s.lines vf vt) := by rw [← hrow]; simpa [List.take_of_length_le (show r.length ≤ 3 by omega)] using aq0
  have inner := FJ A f hx k hk h.next hc0 ((m * (s.aU.length + 3) + 1 + n) + 1) s.aU.length 0 h1 (Z.lose z) hz (A.grow _ _ _ _ g1 hJ) gb (by omega)
  rw [step]
  unfold KF
  rw [aN, bA, aI, if_pos (by simp; omega), aQR _ k hk, aM, hk2, hq0, aq1.lK 1 (x := vf) rfl, sf.rows.len, List.length_map, show (Int.ofNat 0) = ((0 : Nat) : Int) from rfl]
  rcases inner with ⟨h', e, hs⟩ | ⟨h', z', hz', hJ', e⟩
  ·exact ⟨h', e, .inr hs⟩
  ·rw [e]
   have aQS : ∀ z h', nO (uH yf) ((m * (s.aU.length + 3) + 1 + n) + 1) 3 (AL.v (.func (.yield l) #[] #[]) (AL.v p (AL.v q (AL.v (.agg (Array.mk (SF (.agg (Array.mk r))))) (AL.i (k : Int) AL.n))))) z h' = YI yf (nO (uH yf) (m * (s.aU.length + 3) + 1 + n)) (.func (.yield l) #[] #[]) p q (.agg (Array.mk (SF (.agg (Array.mk r))))) (k : Int) z h' := fun z h' => rfl
   rw [aQS]
   unfold YI
   rw [show Int.add (k : Int) (Int.ofNat 1) = ((k + 1 : Nat) : Int) from rfl, wrap64_in _ (by omega) (by omega)]
   exact MG A f hx n m (k + 1) h' (Z.lose z') hz' (A.next k h' hJ') (by omega)
theorem SI (A : aUF s r x p q c0 l yf J Stop) (f : mZ s) (hx : x < s.aU.length) {h : Hp} (hJ : J 0 0 h) :
  ∃ h', VG yf [.func (.yield l) #[] #[], p, q] h = some (.tuple (List.toArray []), h') ∧ (J 3 0 h' ∨ Stop h') := by
 obtain ⟨w, ap, sh, aq, hc0⟩ := A.inv 0 0 h hJ
 have f6 := f.aU
 have start : VG yf [.func (.yield l) #[] #[], p, q] h = YJ yf (nO (uH yf) 999999) (.func (.yield l) #[] #[]) p q ⟨some (jQ [.func (.yield l) #[] #[], p, q] 0 bP.T.nil), []⟩ h := rfl
 obtain ⟨h1, e1, g1⟩ := SG (h := bK h) (fZ w) sh.len
 obtain ⟨h2, e2, g2⟩ := KM w e1 g1
 obtain ⟨n, hn⟩ : ∃ n, 999999 = 3 * (s.aU.length + 3) + 1 + n := ⟨999999 - (3 * (s.aU.length + 3) + 1), by omega⟩
 obtain ⟨h3, e3, hr⟩ := MG A f hx n 3 0 h2 (Z.lose ⟨some (jQ [.func (.yield l) #[] #[], p, q] 0 bP.T.nil), []⟩) rfl (A.grow _ _ _ _ g2 hJ) (by omega)
 rw [start]
 unfold YJ
 rw [ap.fF (z := 3) sh.len, e2, aD, hn, show (Int.ofNat 0) = ((0 : Nat) : Int) from rfl]
 exact ⟨h3, e3, hr⟩
end
end Go.Proofs.YtgjdokjoejhepaaGreatDoor.K.L
