/- Contracts of told functions: Surely (the reference). -/
import Derived.Test.YtgjdokjoejhepaaGreatDoorTrS26
open Go Go.bP
set_option maxRecDepth 100000
set_option linter.unusedVariables false
namespace Go.Proofs.YtgjdokjoejhepaaGreatDoor.K.L
def zM (n : Nat) (i m : Nat) : List Nat := (List.range' i m).filter (Nat.testBit n)
def xF (l : List Nat) : List Int := l.map fun (x : Nat) => (x : Int)
theorem aLG : ∀ k ≤ 6, ∀ n < 2 ^ k, ∀ t < 64, (!(decide (Nat.land t n = 0))) = (zM n 0 k).any (Nat.testBit t) := by decide +kernel
section
variable {s : Sh} {r : List Value}
theorem BZ {hb : Hp} (w : Wf hb) (a : yX hb s r) (f : mZ s) {r2 : Value} (h2 : At hb r2 r) (t : Nat) : ∀ m i n (h : Hp) (v : Value) (ns : List Nat), bE hb h → InA hb h v (xF ns) → ns.length ≤ i → i + m = s.aU.length →
  ∃ h' v', bE hb h' ∧ InA hb h' v' (xF (ns ++ zM t i m)) ∧ aP T19 (m + 2 + n) 1 (AL.i (t : Int) (AL.v r2 (AL.v v (AL.i (i : Int) AL.n)))) h = aHW (aP T19 n) r2 v' h'
 | 0, i, n, h, v, ns, g, nm, hns, him => by
  obtain ⟨vf, vt, hrow, sf, st⟩ := id a
  refine ⟨h, v, g, by rw [show zM t i 0 = [] from rfl, List.append_nil]; exact nm, ?_⟩
  have step : aP T19 (0 + 2 + n) 1 (AL.i (t : Int) (AL.v r2 (AL.v v (AL.i (i : Int) AL.n)))) h = VD (aP T19 (n + 1)) (t : Int) r2 v (i : Int) h := by rw [show 0 + 2 + n = (n + 1) + 1 by omega]; rfl
  rw [step]
  unfold VD
  rw [(h2.sub g.sub).lK 1 (x := vf) (by rw [hrow]; rfl), (sf.sub g.sub).rows.len, List.length_map, aN, bA, aI, if_neg (by simp; omega)]
  rfl
 | m + 1, i, n, h, v, ns, g, nm, hns, him => by
  have f6 := f.aU
  obtain ⟨vf, vt, hrow, sf, st⟩ := id a
  have step : aP T19 (m + 1 + 2 + n) 1 (AL.i (t : Int) (AL.v r2 (AL.v v (AL.i (i : Int) AL.n)))) h = VD (aP T19 (m + 2 + n)) (t : Int) r2 v (i : Int) h := by rw [show m + 1 + 2 + n = (m + 2 + n) + 1 by omega]; rfl
  rw [step]
  unfold VD
  rw [(h2.sub g.sub).lK 1 (x := vf) (by rw [hrow]; rfl), (sf.sub g.sub).rows.len, List.length_map, aN, bA, aI, if_pos (by simp; omega), aB8 h t i (by omega), aM, aD, aO, aI, show Int.add (i : Int) (Int.ofNat 1) = ((i + 1 : Nat) : Int) from rfl]
  have hb0 : zM t i (m + 1) = (if Nat.testBit t i then [i] else []) ++ zM t (i + 1) m := by
   unfold zM
   rw [List.range'_succ, List.filter_cons]
   split <;> rfl
  unfold IX
  cases hs : Nat.testBit t i with
  | false =>
   rw [if_neg (by simp), wrap64_in _ (by omega) (by omega), hb0, hs]
   exact BZ w a f h2 t m (i + 1) n h v ns g nm (by omega) (by omega)
  | true =>
   obtain ⟨v1, h1, ap1, g1, nm1⟩ := KV w g nm (by unfold xF; simp; omega) (i : Int)
   rw [if_pos rfl, vT, aD, ap1, aD, wrap64_in _ (by omega) (by omega), hb0, hs]
   have e : xF (ns ++ [i]) = xF ns ++ [(i : Int)] := by unfold xF; rw [List.map_append]; rfl
   have := BZ w a f h2 t m (i + 1) n h1 v1 (ns ++ [i]) g1 (by rw [e]; exact nm1) (by simp; omega) (by omega)
   rw [List.append_assoc] at this
   exact this
theorem aLH (f : mZ s) {n : Nat} (hn : n < 2 ^ s.aU.length) : oU s.ts (n : Int) = kH s.ts (xF (zM n 0 s.aU.length)) := by
 unfold oU kH
 rw [NQ]
 apply BX
 intro t ht
 have := f.small t ht
 rw [Int.toNat_natCast, aLG _ f.aU n hn t.toNat (by omega)]
 unfold KQ xF
 rw [List.any_map]
 rfl
theorem aCL {h : Hp} (w : Wf h) (a : yX h s r) (n : Int) : ∃ h', F19 [.agg (Array.mk r), .int .i64 n] h = some (MH (ML s n), h') := by
 have start : F19 [.agg (Array.mk r), .int .i64 n] h = aHX (aP T19 999999) (.agg (Array.mk r)) n h := rfl
 rw [start]
 unfold aHX ML
 have hr3 := a.len
 rw [fQ, bL]
 have g0 : bE h (h.add (.cells r 25 none)) := bE.add w _
 have a0 : At (h.add (.cells r 25 none)) (.pointer (some ⟨h.next, 0, none⟩)) r := At.new
 generalize h.add (.cells r 25 none) = h0 at g0 a0 ⊢
 generalize Value.pointer (some ⟨h.next, 0, none⟩) = p at a0 ⊢
 have sh := a.sub g0.sub
 obtain ⟨h2, e2⟩ := FP (h := bK h0) (fZ g0.wf) sh
 have s3 : ∀ x : Int, aP T19 999999 3 (AL.i n (AL.v p (AL.i x AL.n))) h0 = VE (aP T19 999998) n p x h0 := fun _ => rfl
 rw [a0.fF (z := 3) hr3, bD e2 rfl, aD]
 unfold SN
 rw [eP (v := .int .i64 (fT s).1) rfl, aK, eP (v := .int .i64 (fT s).2.1) rfl, aK, eP (v := .int .i64 (fT s).2.2) rfl, aK, aN, dJ, aI]
 by_cases e0 : (fT s).2.2 = 0
 case neg =>
  rw [if_neg (by simpa using e0), if_pos e0, s3]
  unfold VE
  rw [aX, dJ, aI, if_pos (by simpa using e0)]
  exact ⟨_, rfl⟩
 have F := BV e0
 have f6 := F.aU
 obtain ⟨p1, p2⟩ := RA _ F.aU
 obtain ⟨vf, vt, hrow, sf, st⟩ := id sh
 rw [if_pos (by simpa using e0), if_neg (by simpa using e0), a0.lK 1 (x := vf) (by rw [hrow]; rfl), sf.rows.len, List.length_map, aI4 _ _ F.aU, aM, aD, aK, show Int.sub (2 ^ s.aU.length : Int) (Int.ofNat 1) = (2 ^ s.aU.length : Int) - 1 from rfl, wrap64_in _ (by omega) (by omega), vF, aM, aD, aO, aX, aI, show (Int.ofNat 0) = (0 : Int) from rfl]
 cases hc : oZ 0 ((2 ^ s.aU.length : Int) - 1) n with
 | false =>
  rw [if_pos (by rfl), if_pos (by rfl), s3]
  unfold VE
  rw [aX, dJ, aI, if_pos (by simp)]
  exact ⟨_, rfl⟩
 | true =>
 obtain ⟨n1, n2⟩ := jH.1 hc
 rw [if_neg (by simp), if_neg (by simp), s3, e0]
 unfold VE
 rw [aX, dJ, aI, if_neg (by simp)]
 obtain ⟨t, rfl⟩ : ∃ t : Nat, n = (t : Int) := ⟨n.toNat, by omega⟩
 have hlt : t < 2 ^ s.aU.length := by
  have : ((2 ^ s.aU.length : Nat) : Int) = (2 : Int) ^ s.aU.length := by rw [Int.natCast_pow]; rfl
  omega
 obtain ⟨h1, v1, g1, nm1, e1⟩ := BZ g0.wf sh F a0 t s.aU.length 0 (999996 - s.aU.length) h0 (.slice none 0 0) [] (bE.refl g0.wf) (.inl ⟨rfl, rfl⟩) (Nat.le_refl _) (by omega)
 rw [show s.aU.length + 2 + (999996 - s.aU.length) = 999998 by omega] at e1
 rw [show (Int.ofNat 0) = ((0 : Nat) : Int) from rfl, e1, List.nil_append] at *
 unfold aHW
 have bl : ∀ x ∈ xF (zM t 0 s.aU.length), 0 ≤ x ∧ x ≤ 60 := by
  intro x hx
  unfold xF zM at hx
  obtain ⟨y, hy, rfl⟩ := List.mem_map.1 hx
  have := (List.mem_range'_1.1 (List.mem_filter.1 hy).1)
  omega
 have bn : (xF (zM t 0 s.aU.length)).length ≤ 900000 := by
  have : (zM t 0 s.aU.length).length ≤ (List.range' 0 s.aU.length).length := List.length_filter_le ..
  unfold xF
  rw [List.length_map]
  simp at this
  omega
 have e5 : VC [.agg (Array.mk (eT s.lines vf vt)), v1] h1 = some (.bool (kH s.ts (xF (zM t 0 s.aU.length)))) := aCA (c := s.lines) (vf := vf) (st.sub g1.sub).rows (by have := F.six; omega) (fun t ht => (F.small t ht).1) nm1.rows bn bl
 rw [(a0.sub g1.sub).fF (z := 3) hr3, hrow, e5, aM, aD, aO, ← aLH F hlt]
 exact ⟨_, rfl⟩
end
end Go.Proofs.YtgjdokjoejhepaaGreatDoor.K.L
