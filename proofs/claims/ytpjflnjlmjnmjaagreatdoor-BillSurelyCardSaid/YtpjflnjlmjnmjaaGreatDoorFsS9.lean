/- The law: what surely arrives. -/
import Derived.Test.YtpjflnjlmjnmjaaGreatDoorFsS8
open Go Go.Eng
set_option maxRecDepth 100000
set_option linter.unusedVariables false
namespace Go.Proofs.YtpjflnjlmjnmjaaGreatDoor.K.L
theorem sure_iff (ts : List Int) (n : Int) : sureB ts n = true ↔ ∀ t ∈ ts, Nat.land t.toNat n.toNat ≠ 0 := by
  unfold sureB
  rw [Bool.not_eq_true', List.any_eq_false]
  simp only [decide_eq_true_iff]
theorem sure_zero {ts : List Int} (h : 0 < ts.length) : sureB ts 0 = false := by
  cases hs : sureB ts 0 with
  | false => rfl
  | true =>
    have := (sure_iff ts 0).1 hs _ (List.getElem_mem h)
    exact absurd (by show Nat.land _ 0 = 0; exact Nat.and_zero _) this
theorem sure_sub {a b : List Int} (h : a.Sublist b) {n : Int} (hs : sureB b n = true) : sureB a n = true :=
  (sure_iff a n).2 fun t ht => (sure_iff b n).1 hs t (h.subset ht)
theorem or_bit : ∀ x < 64, ∀ f < 6, bitB x f = false → x + 2 ^ f = x ||| 2 ^ f := by decide +kernel
theorem and_bit : ∀ t < 64, ∀ f < 6, (decide (Nat.land t (2 ^ f) = 0)) = !(bitB t f) := by decide +kernel
theorem add_bit : ∀ m < 7, ∀ f < m, ∀ x < 2 ^ m, bitB x f = false → x + 2 ^ f < 2 ^ m := by decide +kernel
theorem some_bit : ∀ n < 7, 2 ≤ n → ∀ k < n, bitB (2 ^ n - 1 - 2 ^ k) 0 = true ∨ bitB (2 ^ n - 1 - 2 ^ k) 1 = true := by decide +kernel
theorem less_bit : ∀ n < 7, ∀ k < n, 2 ^ k ≤ 2 ^ n - 1 ∧ 2 ^ n ≤ 64 := by decide +kernel
theorem sure_more {ts : List Int} {x f : Nat} (hx : x < 64) (hf : f < 6) (hb : bitB x f = false) (hs : sureB ts (x : Int) = true) : sureB ts ((x + 2 ^ f : Nat) : Int) = true := by
  rw [sure_iff] at hs ⊢
  intro t ht e
  refine hs t ht ?_
  rw [show ((x + 2 ^ f : Nat) : Int).toNat = x + 2 ^ f from rfl, or_bit x hx f hf hb] at e
  have e' : t.toNat &&& (x ||| 2 ^ f) = 0 := e
  rw [Nat.and_or_distrib_left, Nat.or_eq_zero_iff] at e'
  exact e'.1
theorem sure_one {ts : List Int} (ht : ∀ t ∈ ts, 0 ≤ t ∧ t ≤ 63) {f : Nat} (hf : f < 6) : sureB ts ((2 ^ f : Nat) : Int) = ts.all (fun t => bitB t.toNat f) := by
  rw [Bool.eq_iff_iff, sure_iff, List.all_eq_true]
  refine ⟨fun h t hm => ?_, fun h t hm => ?_⟩
  · have h1 := h t hm
    have h2 := and_bit t.toNat (by have := ht t hm; omega) f hf
    rw [show ((2 ^ f : Nat) : Int).toNat = 2 ^ f from rfl] at h1
    rw [decide_eq_false h1] at h2
    simpa using h2.symm
  · have h1 := h t hm
    have h2 := and_bit t.toNat (by have := ht t hm; omega) f hf
    rw [h1] at h2
    rw [show ((2 ^ f : Nat) : Int).toNat = 2 ^ f from rfl]
    exact of_decide_eq_false h2
theorem sure_in {s : Sh} (h : (checkS s).2.2 = 0) {n : Int} (hn : inB 0 (2 ^ s.figs.length - 1) n = true) : sureS s n = (sureB s.ts n, 0) := by
  unfold sureS
  rw [if_neg (by simpa using h), if_neg (by simp [hn])]
theorem eqlB (xo yo : Operand) (a b : Bool) : binV env .eql 4 xo yo (.bool a) (.bool b) = some (.bool (a == b)) := by
  cases a <;> cases b <;> rfl
theorem neqB (xo yo : Operand) (a b : Bool) : binV env .neq 4 xo yo (.bool a) (.bool b) = some (.bool (a != b)) := by
  cases a <;> cases b <;> rfl
theorem addAll_nil (t : T AObj) : addAll [] t = t := rfl
theorem awake_at {ρ : Type} (h : Hp) (k : Value → Option ρ) : optK (FM22 [] h) k = k (.bool true) := rfl
theorem InA.to {hb h h1 : Hp} {v : Value} {ns : List Int} (a : InA hb h v ns) (s : ∀ i o, hb.next ≤ i → h.get i = some o → h1.get i = some o) : InA hb h1 v ns := by
  rcases a with a | ⟨b, e, hle, hg⟩
  · exact .inl a
  · exact .inr ⟨b, e, hle, s _ _ hle hg⟩
theorem plainS {h : Hp} {vf vt : Value} {l : Int} {rs : List (List Value)} (sf : SlA h 4 vf rs) (h0 : 0 < rs.length) : plainK (.agg (Array.mk (shRow l vf vt))) = false := by
  rcases sf with ⟨_, rfl⟩ | ⟨b, c, t, k, rfl, _⟩
  · simp at h0
  · rfl
section
variable {h : Hp} {s : Sh} {p q vf vt : Value} {b1 : Nat} {y0 y1 : Nat}
theorem law_x1 (w : Wf h) (a : At h p (shRow s.lines vf vt)) (sh : ShA h s (shRow s.lines vf vt)) (r1 : Int) (k : Nat) (hx : (sureS s 0).1 = false) (he : decide ((sureS s 0).2 = 0) = decide ((checkS s).2.2 = 0)) :
    ∃ h', P14x1 (rec' T14 k) r1 p q true h = some (.bool true, h') := by
  unfold P14x1
  obtain ⟨h2, e2⟩ := surely18_at (h := shutH h) (wfShut w) sh 0
  obtain ⟨h3, e3⟩ := valid41_at (h := shutH h) (wfShut w) sh
  rw [ifB_if, if_pos rfl, a.loadN (z := 3) rfl, show (Int.ofNat 0) = (0 : Int) from rfl, callQ_plain1 e2 rfl, pairK_some']
  unfold pairB
  rw [extK_at (v := .bool (sureS s 0).1) rfl, boolK_bool, extK_at (v := .int .i64 (sureS s 0).2) rfl, intK_int, hx, boolN_eq, ifB_if, if_pos (by rfl), boolN_eq, eqZ_dec, a.loadN (z := 3) rfl, callQ_plain1 e3 rfl, pairK_some', boolK_bool, boolN_eq, eqlB, optK_some', boolK_bool, ifB_if, he, if_pos (by simp), awake_at, pairK_some', boolK_bool]
  exact ⟨_, rfl⟩
theorem law_all (a : At h p (shRow s.lines vf vt)) (st : SlA h 1 vt (s.ts.map inRow)) (ht : ∀ t ∈ s.ts, 0 ≤ t ∧ t ≤ 63) (hlen : s.ts.length ≤ 6) (x : Int) (f : Nat) (hf : f ≤ 60) (is one : Bool) (k : Nat) : ∀ m i (acc : Bool), i + m = s.ts.length →
    rec' T14 (m + 1 + k) 3 (AL.v p (AL.v q (AL.i x (AL.i (f : Int) (AL.b is (AL.b one (AL.b acc (AL.i (i : Int) AL.n)))))))) h = rec' T14 k 4 (AL.v p (AL.v q (AL.i x (AL.b is (AL.b one (AL.b (acc && (s.ts.drop i).all (fun t => bitB t.toNat f)) AL.n)))))) h
  | 0, i, acc, him => by
    have step : rec' T14 (0 + 1 + k) 3 (AL.v p (AL.v q (AL.i x (AL.i (f : Int) (AL.b is (AL.b one (AL.b acc (AL.i (i : Int) AL.n)))))))) h = P14x3 (rec' T14 k) p q x (f : Int) is one acc (i : Int) h := by rw [show 0 + 1 + k = k + 1 by omega]; rfl
    rw [step]
    unfold P14x3
    rw [a.fld 2 (x := vt) rfl, st.rows.len, List.length_map, boolZ_eq, ltZ_dec, ifB_if, if_neg (by simp; omega), List.drop_of_length_le (by omega)]
    simp
  | m + 1, i, acc, him => by
    have hi : i < s.ts.length := by omega
    have hg : (s.ts.map inRow)[i]? = some (inRow s.ts[i]) := by rw [List.getElem?_map, List.getElem?_eq_getElem hi]; rfl
    obtain ⟨q1, hq, haq, hl⟩ := st.rows.at hg
    obtain ⟨t0, _⟩ := ht _ (List.getElem_mem hi)
    have et : s.ts[i] = ((s.ts[i].toNat : Nat) : Int) := by omega
    have step : rec' T14 (m + 1 + 1 + k) 3 (AL.v p (AL.v q (AL.i x (AL.i (f : Int) (AL.b is (AL.b one (AL.b acc (AL.i (i : Int) AL.n)))))))) h = P14x3 (rec' T14 (m + 1 + k)) p q x (f : Int) is one acc (i : Int) h := by rw [show m + 1 + 1 + k = (m + 1 + k) + 1 by omega]; rfl
    have ih := fun acc => law_all a st ht hlen x f hf is one k m (i + 1) acc (by omega)
    rw [step]
    unfold P14x3
    rw [a.fld 2 (x := vt) rfl, st.rows.len, List.length_map, boolZ_eq, ltZ_dec, ifB_if, if_pos (by simp; omega), ifB_if, List.drop_eq_getElem_cons hi, List.all_cons]
    cases acc with
    | false => rw [if_neg (by simp), show Int.add (i : Int) (Int.ofNat 1) = ((i + 1 : Nat) : Int) from rfl, wrap64_in _ (by omega) (by omega), ih]; simp
    | true =>
      rw [if_pos rfl, a.fld 2 (x := vt) rfl, hq, haq.load1 (x := .int .i64 s.ts[i]) rfl, intK_int]
      have eb : F42 [.int .i64 s.ts[i], .int .i64 (f : Int)] h = some (.bool (bitB s.ts[i].toNat f)) := by
        have := bit42_at h s.ts[i].toNat f hf
        rwa [← et] at this
      rw [eb, optK_some', pairK_some', boolK_bool, show Int.add (i : Int) (Int.ofNat 1) = ((i + 1 : Nat) : Int) from rfl, wrap64_in _ (by omega) (by omega), ih]; simp
end
end Go.Proofs.YtpjflnjlmjnmjaaGreatDoor.K.L
