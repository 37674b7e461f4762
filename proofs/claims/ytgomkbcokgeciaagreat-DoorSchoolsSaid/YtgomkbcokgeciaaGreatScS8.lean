/- Contracts of told functions: the reference's Check. -/
import Derived.Test.YtgomkbcokgeciaaGreatScS7
open Go Go.bR
set_option maxRecDepth 100000
set_option linter.unusedVariables false
namespace Go.Proofs.YtgomkbcokgeciaaGreat.K.L
theorem MP (h : Hp) (c : Ct) : aN6 [.agg (Array.mk c.row)] h = some (.bool (VJ c)) := by
 show plainO (Y1 h (G.aQ (aRB h) 999999) (.agg (Array.mk c.row))) = _
 unfold Y1 VJ
 rw [iC, kZ, mU _ _ 0 (.int .i64 c.seen) rfl, aJ, show (Int.ofNat 0) = (0 : Int) from rfl, show (Int.ofNat 60) = (60 : Int) from rfl, zA, aM, aV, aI]
 cases x1 : qI 0 60 c.seen with
 | false => rw [if_neg (by simp)]; rfl
 | true =>
 rw [if_pos rfl, mU _ _ 1 (.int .i64 c.miss) rfl, aJ, show (Int.ofNat 5) = (5 : Int) from rfl, zA, aM, aV, Bool.true_and]
 rfl
theorem aRC (n : Nat) (p : Value) (b : Bool) (i : Int) (h : Hp) : aQ T61 (n + 1) 1 (AL.v p (AL.b b (AL.i i AL.n))) h = aDF (aQ T61 n) p b i h := rfl
theorem a6Y (n : Nat) (b : Bool) (h : Hp) : aQ T61 (n + 1) 2 (AL.b b AL.n) h = aJW (aQ T61 n) b h := rfl
theorem aG8 (n : Nat) (p : Value) (e : Int) (h : Hp) : aQ T61 (n + 1) 3 (AL.v p (AL.i e AL.n)) h = VP (aQ T61 n) p e h := rfl
theorem zB {h : Hp} {p : Value} {g : Dy} (a : At h p g.row) (sc : uP h 2 g.cv (g.cs.map Ct.row)) (hlen : g.cs.length ≤ 900) : ∀ (m i n : Nat) (b : Bool), i + m = g.cs.length → m + 3 ≤ n →
  aQ T61 n 1 (AL.v p (AL.b b (AL.i (i : Int) AL.n))) h = some (.int .i64 (if b && (g.cs.drop i).all VJ then 0 else 7), h)
 | 0, i, n', b, him, hn => by
  obtain ⟨n, rfl⟩ : ∃ n, n' = n + 2 := ⟨n' - 2, by omega⟩
  rw [aRC]
  unfold aDF
  rw [a.sF 3 (x := g.cv) rfl, sc.rows.len, List.length_map, aS, aZ, aI, if_neg (by simp; omega), List.drop_of_length_le (by omega), a6Y]
  unfold aJW
  rw [aO, aI]
  cases b <;> rfl
 | m + 1, i, n', b, him, hn => by
  obtain ⟨n, rfl⟩ : ∃ n, n' = n + 1 := ⟨n' - 1, by omega⟩
  have hi : i < g.cs.length := by omega
  have hg : (g.cs.map Ct.row)[i]? = some (g.cs[i]).row := by rw [List.getElem?_map, List.getElem?_eq_getElem hi]; rfl
  obtain ⟨q, hq, haq, hl⟩ := sc.rows.at hg
  rw [aRC]
  unfold aDF
  rw [a.sF 3 (x := g.cv) rfl, sc.rows.len, List.length_map, aS, aZ, aI, if_pos (by simp; omega), aI, List.drop_eq_getElem_cons hi, List.all_cons]
  cases b with
  | false =>
   rw [if_neg (by simp), show Int.add (i : Int) (Int.ofNat 1) = ((i + 1 : Nat) : Int) from rfl, wrap64_in _ (by omega) (by omega), zB a sc hlen m (i + 1) n false (by omega) (by omega)]
   rfl
  | true =>
   rw [if_pos rfl, a.sF 3 (x := g.cv) rfl, hq, haq.gG hl, MP, aM, aC, aV, show Int.add (i : Int) (Int.ofNat 1) = ((i + 1 : Nat) : Int) from rfl, wrap64_in _ (by omega) (by omega), zB a sc hlen m (i + 1) n (VJ g.cs[i]) (by omega) (by omega), Bool.true_and]
theorem aRD {h : Hp} (w : Wf h) {s : Bk} {r : List Value} (a : YC h s r) (hrm : s.fD.length ≤ 100) (g : Dy) (d : DyA h g) : ∃ h', F61 [.agg (Array.mk r), .agg (Array.mk g.row)] h = some (.int .i64 (yZ s.fD.length g), h') := by
 have start : F61 [.agg (Array.mk r), .agg (Array.mk g.row)] h = aJX (aQ T61 999999) (.agg (Array.mk r)) (.agg (Array.mk g.row)) h := rfl
 rw [start]
 unfold aJX
 obtain ⟨vr, vd, rfl, sr, sd, ds⟩ := a
 rw [iC, iC, dS, dS]
 have g0 : dW h (h.add (.cells (iL s.bH vr vd) 25 none)) := dW.add w _
 have a0 : At (h.add (.cells (iL s.bH vr vd) 25 none)) (.pointer (some ⟨h.next, 0, none⟩)) (iL s.bH vr vd) := At.new
 generalize h.add (.cells (iL s.bH vr vd) 25 none) = h0 at g0 a0 ⊢
 have g1 : dW h (h0.add (.cells g.row 67 none)) := g0.trans (dW.add g0.wf _)
 have a1 : At (h0.add (.cells g.row 67 none)) (.pointer (some ⟨h.next, 0, none⟩)) (iL s.bH vr vd) := ET g0.wf a0 _
 have b1 : At (h0.add (.cells g.row 67 none)) (.pointer (some ⟨h0.next, 0, none⟩)) g.row := At.new
 generalize h0.add (.cells g.row 67 none) = h1 at g1 a1 b1 ⊢
 generalize Value.pointer (some ⟨h0.next, 0, none⟩) = q at b1 ⊢
 generalize Value.pointer (some ⟨h.next, 0, none⟩) = p at a1 ⊢
 have d1 := d.sub g1.sub
 have r1 := sr.sub g1.sub
 obtain ⟨h2, e2⟩ := TH (h := eT h1) (jG g1.wf) d1.1
 rw [b1.sF 0 (x := g.sv) rfl, bF e2 rfl, aC, aJ, aS, dX, aI]
 have E : yZ s.fD.length g = if rO g.ss ≠ 0 then rO g.ss else if (g.cs.length : Int) ≠ (s.fD.length : Int) then 3 else if VJ ⟨g.seen, g.miss⟩ && qI 0 10000 g.taken && g.cs.all VJ then 0 else 7 := by
  unfold yZ rO
  by_cases c1 : (gY 3 K3 g.ss).2 = 0
  case neg => rw [if_pos c1, if_pos c1, if_pos c1]
  simp only [c1]
  by_cases c2 : 60 < lZ g.ss
  ·simp [c2]
  by_cases c3 : (g.cs.length : Int) = (s.fD.length : Int)
  case neg => simp [c2, c3]
  simp only [c2, c3]
  cases VJ ⟨g.seen, g.miss⟩ <;> cases qI 0 10000 g.taken <;> cases g.cs.all VJ <;> rfl
 have three : ∀ e : Int, ∃ h', aQ T61 999999 3 (AL.v q (AL.i e AL.n)) h1 = some (.int .i64 (if e ≠ 0 then e else if VJ ⟨g.seen, g.miss⟩ && qI 0 10000 g.taken && g.cs.all VJ then 0 else 7), h') ∨ 900 < g.cs.length := by
  intro e
  by_cases hlen : g.cs.length ≤ 900
  case neg => exact ⟨h1, .inr (by omega)⟩
  refine ⟨h1, .inl ?_⟩
  rw [aG8 999998]
  unfold VP
  rw [aO, dX, aI]
  by_cases c : e = 0
  case neg => rw [if_pos (by simpa using c), if_pos c]
  obtain ⟨z, hz, az⟩ := b1.part 1 2 (by show 1 + 2 ≤ 5; decide)
  replace az : At h1 z (⟨g.seen, g.miss⟩ : Ct).row := az
  rw [if_neg (by simpa using c), if_neg (by simpa using c), hz, az.gG (z := 2) rfl, MP, aM, aC, aV, aI, show (Int.ofNat 0) = ((0 : Nat) : Int) from rfl]
  cases x1 : VJ ⟨g.seen, g.miss⟩ with
  | false =>
   rw [if_neg (by simp), zB b1 d1.2 hlen g.cs.length 0 999998 false (by omega) (by omega)]
   rfl
  | true =>
   rw [if_pos rfl, b1.sF 4 (x := .int .i64 g.taken) rfl, aJ, show (Int.ofNat 10000) = (10000 : Int) from rfl, show ((0 : Nat) : Int) = (0 : Int) from rfl, zA, aM, aC, aV, show (AL.i (0 : Int) AL.n) = AL.i ((0 : Nat) : Int) AL.n from rfl, zB b1 d1.2 hlen g.cs.length 0 999998 (qI 0 10000 g.taken) (by omega) (by omega), List.drop_zero, Bool.true_and]
 by_cases c1 : rO g.ss = 0
 case neg =>
  rw [if_neg (by simpa using c1), E, if_pos c1]
  rw [aG8 999998]
  unfold VP
  rw [aO, dX, aI, if_pos (by simpa using c1)]
  exact ⟨_, rfl⟩
 rw [if_pos (by rw [c1]; simp), b1.sF 3 (x := g.cv) rfl, d1.2.rows.len, List.length_map, a1.sF 1 (x := vr) rfl, r1.rows.len, List.length_map, aO, dX, aI, E, if_neg (show ¬ (rO g.ss ≠ 0) from by simp [c1])]
 by_cases c3 : (g.cs.length : Int) = (s.fD.length : Int)
 case neg =>
  rw [if_pos (by simpa using c3), if_pos c3, aG8 999998]
  unfold VP
  exact ⟨_, rfl⟩
 rw [if_neg (by simpa using c3), if_neg (by simpa using c3)]
 obtain ⟨h', e' | e'⟩ := three (rO g.ss)
 ·rw [if_neg (by simpa using c1)] at e'
  exact ⟨h', e'⟩
 ·omega
theorem aRE (n : Nat) (p : Value) (i : Int) (h : Hp) : aQ T14 (n + 1) 1 (AL.v p (AL.i i AL.n)) h = aDG (aQ T14 n) p i h := rfl
theorem MQ {h : Hp} (w : Wf h) {s : Bk} {vr vd p : Value} (a : At h p (iL s.bH vr vd)) (sr : uP h 3 vr (s.fD.map Rm.row)) (sd : uP h 5 vd (s.days.map Dy.row)) (ds : ∀ g ∈ s.days, DyA h g) (hrm : s.fD.length ≤ 100) (hlen : s.days.length ≤ 900) : ∀ (m i n : Nat), i + m = s.days.length → m + 2 ≤ n →
  aQ T14 n 1 (AL.v p (AL.i (i : Int) AL.n)) h = some (aG2 (if (gJ (fun _ g => yZ s.fD.length g) s.days i (s.days.drop i)).2 ≠ 0 then (3, gJ (fun _ g => yZ s.fD.length g) s.days i (s.days.drop i)) else (0, 0, 0)), h)
 | 0, i, n', him, hn => by
  obtain ⟨n, rfl⟩ : ∃ n, n' = n + 2 := ⟨n' - 2, by omega⟩
  rw [aRE]
  unfold aDG
  rw [a.sF 2 (x := vd) rfl, sd.rows.len, List.length_map, aS, aZ, aI, if_neg (by simp; omega), List.drop_of_length_le (by omega)]
  rfl
 | m + 1, i, n', him, hn => by
  obtain ⟨n, rfl⟩ : ∃ n, n' = n + 1 := ⟨n' - 1, by omega⟩
  have hi : i < s.days.length := by omega
  have hg : (s.days.map Dy.row)[i]? = some (s.days[i]).row := by rw [List.getElem?_map, List.getElem?_eq_getElem hi]; rfl
  obtain ⟨q, hq, haq, hl⟩ := sd.rows.at hg
  obtain ⟨h2, e2⟩ := aRD (h := eT h) (jG w) (s := s) (r := iL s.bH vr vd) ⟨vr, vd, rfl, sr, sd, ds⟩ hrm s.days[i] (ds _ (List.getElem_mem hi))
  rw [aRE]
  unfold aDG
  rw [a.sF 2 (x := vd) rfl, sd.rows.len, List.length_map, aS, aZ, aI, if_pos (by simp; omega), a.gG (z := 3) rfl, a.sF 2 (x := vd) rfl, hq, haq.gG hl, bF e2 rfl, aC, aJ, aO, dX, aI, List.drop_eq_getElem_cons hi]
  unfold gJ
  by_cases e0 : yZ s.fD.length s.days[i] = 0
  ·rw [if_neg (by rw [e0]; simp), if_pos e0, show Int.add (i : Int) (Int.ofNat 1) = ((i + 1 : Nat) : Int) from rfl, wrap64_in _ (by omega) (by omega)]
   exact MQ w a sr sd ds hrm hlen m (i + 1) n (by omega) (by omega)
  ·rw [if_pos (by simpa using e0), if_neg e0, if_pos e0]; rfl
theorem aG9 {h : Hp} (w : Wf h) {s : Bk} {r : List Value} (a : YC h s r) : ∃ h', F14 [.agg (Array.mk r)] h = some (aG2 (gH s), h') := by
 obtain ⟨vr, vd, rfl, sr, sd, ds⟩ := a
 have start : F14 [.agg (Array.mk (iL s.bH vr vd))] h = aJY (aQ T14 999999) (.agg (Array.mk (iL s.bH vr vd))) h := rfl
 rw [start]
 unfold aJY
 rw [iC, dS]
 have w1 := w.add (.cells (iL s.bH vr vd) 25 none)
 have a1 : At (h.add (.cells (iL s.bH vr vd) 25 none)) (.pointer (some ⟨h.next, 0, none⟩)) (iL s.bH vr vd) := At.new
 have gr := (dW.add w (.cells (iL s.bH vr vd) 25 none)).sub
 replace sr := sr.sub gr
 replace sd := sd.sub gr
 replace ds : ∀ g ∈ s.days, DyA (h.add (.cells (iL s.bH vr vd) 25 none)) g := fun g hg => (ds g hg).sub gr
 clear gr start
 generalize h.add (.cells (iL s.bH vr vd) 25 none) = h1 at w1 a1 sr sd ds ⊢
 generalize Value.pointer (some ⟨h.next, 0, none⟩) = p at a1 ⊢
 unfold gH
 rw [a1.sF 0 (x := .int .i64 s.bH) rfl, aJ, show (Int.ofNat 2) = (2 : Int) from rfl, show (Int.ofNat 60) = (60 : Int) from rfl, zA, aM, aC, aV, aO, aI]
 cases c0 : qI 2 60 s.bH with
 | false =>
  have e : qW s.bH = 7 := by unfold qW; rw [c0]; rfl
  rw [if_pos (by rfl), e, if_pos (by decide)]; exact ⟨_, rfl⟩
 | true =>
 have P := sJ.1 c0
 rw [if_neg (by simp), a1.sF 0 (x := .int .i64 s.bH) rfl, aJ, Q9 (by omega) (by omega), kL, aS, dX, aI, show (Int.ofNat 1) = (1 : Int) from rfl]
 by_cases c1 : s.bH % 2 = 0
 case neg =>
  have c1' : s.bH % 2 = 1 := by omega
  have e : qW s.bH = 2 := by unfold qW; rw [c0, if_neg (by simp), if_pos c1]
  rw [if_pos (by simpa using c1'), e, if_pos (by decide)]; exact ⟨_, rfl⟩
 have e : qW s.bH = 0 := by unfold qW; rw [c0, if_neg (by simp), if_neg (by simpa using c1)]
 rw [e, if_neg (show ¬ ((0 : Int) ≠ 0) from by decide)]
 obtain ⟨h2, e2⟩ := aG7 (h := eT h1) (jG w1) sr
 rw [if_neg (by simp; omega), a1.sF 1 (x := vr) rfl, bF e2 rfl, aC]
 unfold lH
 rw [dQ (v := .int .i64 (gY 3 VG s.fD).1) rfl, aJ, dQ (v := .int .i64 (gY 3 VG s.fD).2) rfl, aJ, aO, dX, aI]
 by_cases c2 : (gY 3 VG s.fD).2 = 0
 case neg => rw [if_pos (by simpa using c2), if_pos c2]; exact ⟨_, rfl⟩
 have l3 := tC c2
 rw [if_neg (by simpa using c2), if_neg (by simpa using c2), a1.sF 2 (x := vd) rfl, sd.rows.len, List.length_map, aS, aZ, aI, show (Int.ofNat 4) = (4 : Int) from rfl]
 unfold gY
 by_cases c3 : (4 : Int) < (s.days.length : Int)
 ·rw [if_pos (by simpa using c3), if_pos c3, if_pos (by decide)]; exact ⟨_, rfl⟩
 rw [if_neg (by simpa using c3), if_neg c3]
 have := MQ w1 a1 sr sd ds (by omega) (by omega) s.days.length 0 999999 (by omega) (by omega)
 rw [List.drop_zero] at this
 rw [show (Int.ofNat 0) = ((0 : Nat) : Int) from rfl, this]
 exact ⟨_, rfl⟩
theorem aHA {h : Hp} (w : Wf h) {s : Bk} {r : List Value} (a : YC h s r) : ∃ h', F36 [.agg (Array.mk r)] h = some (.bool (decide ((gH s).2.2 = 0)), h') := by
 have start : F36 [.agg (Array.mk r)] h = aJZ (aQ T36 999999) (.agg (Array.mk r)) h := rfl
 rw [start]
 unfold aJZ
 have hr3 := a.len
 rw [iC, dS]
 have g0 := dW.add w (.cells r 25 none)
 have a0 : At (h.add (.cells r 25 none)) (.pointer (some ⟨h.next, 0, none⟩)) r := At.new
 obtain ⟨h2, e2⟩ := aG9 (h := eT (h.add (.cells r 25 none))) (jG g0.wf) (a.sub g0.sub)
 rw [a0.gG (z := 3) hr3, bF e2 rfl, aC]
 unfold aG2
 rw [dQ (v := .int .i64 (gH s).1) rfl, aJ, dQ (v := .int .i64 (gH s).2.1) rfl, aJ, dQ (v := .int .i64 (gH s).2.2) rfl, aJ, aS, dX]
 exact ⟨_, rfl⟩
end Go.Proofs.YtgomkbcokgeciaaGreat.K.L
