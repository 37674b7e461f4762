/- Contracts of told functions: choose yields all plans that begin so, in order. -/
import Derived.Test.YtdpicdnpiihaaaaOrS34
open Go Go.bI Go.bI.Y
set_option maxRecDepth 100000
set_option linter.unusedVariables false
namespace Go.Proofs.Ytdpicdnpiihaaaa.K.L
def onF (nf m : Nat) (fs : List Nat) (f : Nat) : List (List Nat) := if fs.contains f then [] else onL nf m (fs ++ [f])
variable {Y : YF} {np nf bp n lim : Nat} {r1 r2 r3 r4 r5 : Value} {I : List (List Nat) → Hp → Prop} {Stop : Hp → Prop}
def aT7 (Y : YF) (np nf bp : Nat) (r1 r2 r3 r4 r5 : Value) (I : List (List Nat) → Hp → Prop) (Stop : Hp → Prop) (R : YF → List Value → Hp → aF) (m : Nat) : Prop :=
 ∀ (fs : List Nat) (d : List (List Nat)) (h : Hp), fs.length + m = np → (∀ x ∈ fs, x < nf) → I d h → wT h bp np fs → ∃ r h', R Y [.int .i64 (fs.length : Int), r1, r2, r3, r4, r5] h = some (.bool r, h') ∧ (r = true → I (d ++ onL nf m fs) h' ∧ wT h' bp np fs) ∧ (r = false → Stop h')
theorem aON (C : Chs Y np nf bp n lim r1 r2 r3 r4 r5 I Stop) (hnp : np ≤ 5) (hnf : nf ≤ 6) {R : YF → List Value → Hp → aF} {m : Nat} (hR : aT7 Y np nf bp r1 r2 r3 r4 r5 I Stop R m) {fs : List Nat} (hf : fs.length + (m + 1) = np) (hx : ∀ x ∈ fs, x < nf) :
  ∀ (k i s : Nat) (d : List (List Nat)) (h : Hp) (z : Z), i + k = nf → 20 * k + 20 ≤ s → z.ds = [] → I d h → wT h bp np fs →
   ∃ r h', lH (MX R Y) s 1 (AL.i (fs.length : Int) (AL.v r1 (AL.v r3 (AL.v r5 (AL.i (nf : Int) (AL.i (i : Int) AL.n)))))) z h = some (.bool r, h') ∧ (r = true → I (d ++ (List.range' i k).flatMap (onF nf m fs)) h' ∧ wT h' bp np fs) ∧ (r = false → Stop h')
 | 0, i, s, d, h, z, hi, hs, hz, hI, pa => by
  obtain ⟨s, rfl⟩ : ∃ s', s = s' + 2 := ⟨s - 2, by omega⟩
  rw [aOL]
  unfold aEN
  rw [aQ, aW, aH, if_neg (by simp; omega), aW3]
  unfold aL2
  rw [show Z.ds (Z.lose (Z.lose z)) = [] from hz]
  refine ⟨true, h, rfl, fun _ => ⟨?_, pa⟩, fun h => by cases h⟩
  simpa using hI
 | k + 1, i, s, d, h, z, hi, hs, hz, hI, pa => by
  obtain ⟨s, rfl⟩ : ∃ s', s = s' + 1 := ⟨s - 1, by omega⟩
  have w := C.wf d h hI
  have next : ∀ (s : Nat) (d : List (List Nat)) (h : Hp) (z : Z), 20 * k + 22 ≤ s → z.ds = [] → I d h → wT h bp np fs →
    ∃ r h', lH (MX R Y) s 4 (AL.i (fs.length : Int) (AL.v r1 (AL.v r3 (AL.v r5 (AL.i (nf : Int) (AL.i (i : Int) AL.n)))))) z h = some (.bool r, h') ∧ (r = true → I (d ++ (List.range' (i + 1) k).flatMap (onF nf m fs)) h' ∧ wT h' bp np fs) ∧ (r = false → Stop h') := by
   intro s d h z hs hz hI pa
   obtain ⟨s, rfl⟩ : ∃ s', s = s' + 1 := ⟨s - 1, by omega⟩
   rw [aW2]
   unfold aL3
   rw [show Int.add (i : Int) (Int.ofNat 1) = ((i + 1 : Nat) : Int) from rfl, wrap64_in _ (by omega) (by omega)]
   exact aON C hnp hnf hR hf hx k (i + 1) s d h z.lose (by omega) (by omega) hz hI pa
  rw [aOL]
  unfold aEN
  obtain ⟨q0, _, _, hq0⟩ := pa
  have pa : wT h bp np fs := ⟨q0, by assumption, by assumption, hq0⟩
  rw [aQ, aW, aH, if_pos (by simp; omega), C.pv d h hI, bIS hq0 (k := fs.length) (n := np) (by omega) (by omega), aM, K9, show (Int.ofNat 0) = ((0 : Nat) : Int) from rfl]
  obtain ⟨h1, s1, z1, g1, hs1, hz1, e1⟩ := ZZ R Y (bp := bp) (np := np) (fs := fs) (by omega) hnp r1 r3 r5 i nf i fs.length 0 s h z.lose w pa (by omega) (by omega)
  rw [e1, List.drop_zero]
  have hI1 := C.grew d h h1 hI g1
  have pa1 := pa.sub g1.sub
  have z10 : z1.ds = [] := hz1.trans hz
  rw [List.range'_succ, List.flatMap_cons]
  by_cases c : fs.contains i = true
  ·rw [if_pos c, show onF nf m fs i = [] from by unfold onF; rw [if_pos c], List.nil_append]
   exact next s1 d h1 z1 (by omega) z10 hI1 pa1
  rw [if_neg c]
  obtain ⟨s2, rfl⟩ : ∃ s', s1 = s' + 1 := ⟨s1 - 1, by omega⟩
  rw [aW1]
  unfold aL4
  obtain ⟨vl, l1, l2, l3⟩ := C.dR d h1 hI1
  obtain ⟨p, hp, ap⟩ := l3 fs.length (by omega)
  have w1 := C.wf d h1 hI1
  obtain ⟨q, hq1, hq2, pq⟩ := pa1.more (by omega) i
  have e3 : ∀ (ρ : Type) (k : Value → Option ρ), aJ (Hp.mk (Hp.next h1) (Hp.next h1) (Hp.aC h1)) r3 k = k (.slice (some ⟨bp, 0, none⟩) np np) := C.pv d h1 hI1
  have e4 : ∀ (ρ : Type) (k : Value → Option ρ), aJ (Hp.mk (Hp.next h1) (Hp.next h1) (Hp.aC h1)) r1 k = k vl := l1
  have e5 : ∀ (ρ : Type) (k : Value → Option ρ), aJ (Hp.mk (Hp.next h1) (Hp.next h1) (Hp.aC h1)) p k = k (.int .i64 (fs.length : Int)) := fun ρ k => ap.j6 (x := .int .i64 (fs.length : Int)) rfl k
  rw [e3, e4, hp, e5, aI, a6R, aM, jM]
  rw [IC 2 bp 0 np np fs.length (by omega), Nat.zero_add, show (Hp.mk (Hp.next h1) (Hp.ro h1) (aG [] (Hp.aC h1))) = h1 from rfl]
  unfold qL
  rw [vY (n := 2) (c := q.flatMap iG) hq2 (C.ro d h1 hI1) rfl rfl (by rw [xS]; omega)]
  rw [show [Value.int .i64 (i : Int), .int .i64 (fs.length : Int)] = iG (i, fs.length) from rfl, show (iG (i, fs.length)).length = 2 from rfl, Z0 q fs.length (i, fs.length) (by omega)]
  have hI2 := C.put d h1 (q.set fs.length (i, fs.length)) hI1 (by rw [List.length_set]; exact hq1) (by omega) ⟨_, hq2⟩
  rw [C.me d _ hI2, show Int.add (fs.length : Int) (Int.ofNat 1) = (((fs ++ [i]).length : Nat) : Int) from by simp, wrap64_in _ (by simp; omega) (by simp; omega), call95]
  obtain ⟨r, h3, e6, t6, f6⟩ := hR (fs ++ [i]) d _ (by simp; omega) (fun x q => by
   rcases List.mem_append.1 q with q | q
   ·exact hx x q
   ·rw [List.mem_singleton] at q; omega) hI2 pq
  rw [e6, aB, aZ, aR, aH]
  cases r with
  | false =>
   rw [if_pos (show (!false) = true from rfl), show Z.ds (Z.lose z1) = [] from z10]
   exact ⟨false, h3, rfl, (fun h => by cases h), fun _ => f6 rfl⟩
  | true =>
   rw [if_neg (by simp)]
   obtain ⟨hI3, pa3⟩ := t6 rfl
   obtain ⟨r, h', a1, a2, a3⟩ := next s2 _ h3 z1.lose (by omega) z10 hI3 pa3.back
   refine ⟨r, h', a1, fun hr => ?_, a3⟩
   rw [show onF nf m fs i = onL nf m (fs ++ [i]) from by unfold onF; rw [if_neg c], ← List.append_assoc]
   exact a2 hr
theorem LU (C : Chs Y np nf bp n lim r1 r2 r3 r4 r5 I Stop) (hnp : np ≤ 5) (hnf : nf ≤ 6) : ∀ (m N : Nat), m + 1 ≤ N → aT7 Y np nf bp r1 r2 r3 r4 r5 I Stop (IG J2 N) m
 | m, 0, hN => by omega
 | 0, N + 1, hN => by
  intro fs d h hf hx hI pa
  rw [aFH]
  generalize lH (MX (IG J2 N) Y) 999999 = S
  generalize IG J2 N = R
  unfold ZI
  have w := C.wf d h hI
  obtain ⟨vl, l1, l2, l3⟩ := C.dR d h hI
  have hq : h.get bp = some (.cells ((gQ 0 fs).flatMap iG) 76 none) := by
   obtain ⟨q, h1, h2, h3⟩ := pa
   rw [List.take_of_length_le (by omega)] at h2
   rw [← h2]; exact h3
  obtain ⟨h1, b1, e1, g1, hb1, c1⟩ := aDD (h := dF h) (fM w) (b := bp) (l := gQ 0 fs) hq (by rw [qM]; omega)
  obtain ⟨H, W, gH, sH, eH, ek⟩ := UF w e1 rfl g1
  have e2 : ∀ (ρ : Type) (k : Value → Option ρ), aJ (Hp.mk (Hp.next h) (Hp.next h) (Hp.aC h)) r2 k = k (.func (.yield n) #[] #[]) := C.yv d h hI
  have e3 : ∀ (ρ : Type) (k : Value → Option ρ), aJ (Hp.mk (Hp.next h) (Hp.next h) (Hp.aC h)) r3 k = k (.slice (some ⟨bp, 0, none⟩) np np) := C.pv d h hI
  rw [l1, l2, aQ, cK, aH, if_pos (by simp; omega), e2, e3, show Value.slice (some ⟨bp, 0, none⟩) np np = LQ bp (gQ 0 fs) from by unfold LQ; rw [qM, show fs.length = np by omega], ek, eH, Y3]
  have cH : RJ H b1 (gQ 0 fs) := by
   obtain ⟨k, a1, a2⟩ := c1
   exact ⟨k, sH _ _ hb1 a1, a2⟩
  obtain ⟨r, h', e4, t4, f4⟩ := C.yld d H b1 fs (C.grew d h H hI gH) (by omega) hx (pa.sub gH.sub) cH (Nat.le_trans (C.low d h hI) hb1)
  rw [e4, aB, aZ]
  refine ⟨r, h', rfl, ?_, f4⟩
  show r = true → I (d ++ [fs]) h' ∧ _
  exact t4
 | m + 1, N + 1, hN => by
  intro fs d h hf hx hI pa
  rw [aFH]
  have ih := LU C hnp hnf m N (by omega)
  generalize IG J2 N = R at ih ⊢
  unfold ZI
  obtain ⟨vl, l1, l2, l3⟩ := C.dR d h hI
  obtain ⟨vf, f1, f2⟩ := C.bP d h hI
  rw [l1, l2, aQ, cK, aH, if_neg (by simp; omega), f1, f2, show (Int.ofNat 0) = ((0 : Nat) : Int) from rfl]
  have := aON C hnp hnf ih hf hx nf 0 999999 d h (Z.lose ⟨some (jK [.int .i64 (fs.length : Int), r1, r2, r3, r4, r5] 0 bI.T.nil), []⟩) (by omega) (by omega) rfl hI pa
  rw [← List.range_eq_range'] at this
  exact this
end Go.Proofs.Ytdpicdnpiihaaaa.K.L
