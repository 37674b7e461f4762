/- Contracts of told functions: open, School, openDay, Together. -/
import Derived.Test.YtgomkbcokgeciaaGreatScS5
open Go Go.bR
set_option maxRecDepth 100000
set_option linter.unusedVariables false
namespace Go.Proofs.YtgomkbcokgeciaaGreat.K.L
theorem o7 {z : Nat} {hb h : Hp} (w : Wf hb) (g : dW hb h) {b : Nat} (hle : hb.next ≤ b) {c l : List Value} {e : TypeId} {s : Option Nat} (hg : h.get b = some (.cells c e s)) (hc : c.length = z) (hl : l.length = z) (hx : l.all oneCell = true) :
  ∃ h', dW hb h' ∧ At h' (.pointer (some ⟨b, 0, none⟩)) l ∧ (∀ (ρ : Type) (k : Hp → Option ρ), jM z h (.pointer (some ⟨b, 0, none⟩)) (.agg (Array.mk l)) k = k h') ∧ (∀ i o, i ≠ b → h.get i = some o → h'.get i = some o) := by
 have hlt := g.wf.2 b _ hg
 refine ⟨h.upd b (.cells l e s), dW.upd w g hle hlt _, ⟨b, 0, l, e, s, rfl, by rw [qA, if_pos rfl], by simp, fun k x hx => by simpa using hx⟩, fun ρ k => ?_, fun i o hi ho => by rw [qA, if_neg hi]; exact ho⟩
 rw [MH (n := z) (c := c) hg (by rw [g.ro]; have := w.1; omega) hl hx (by omega), List.drop_of_length_le (by omega)]
 simp
theorem K5 {F : List Value → Hp → bE} {args : List Value} {h h' : Hp} {v : Value} (w : Wf h) (e : F args (eT h) = some (v, h')) (g : dW (eT h) h') : ∃ h2, iN F args h = some (v, h2) ∧ dW h h2 := by
 unfold iN
 rw [e, aC, aI]
 by_cases hp : nK v = true
 ·exact ⟨h, by rw [if_pos hp], dW.refl w⟩
 ·refine ⟨⟨h'.next, h.ro, h'.aK⟩, by rw [if_neg hp], ⟨⟨?_, g.wf.2⟩, g.sub, g.next, rfl⟩⟩
  have := g.next
  have := w.1
  show h.ro ≤ h'.next
  have : h.next ≤ h'.next := g.next
  omega
noncomputable def qN : List Value := [(Value.int .i64 (Int.ofNat 0)), (Value.slice none 0 0), (Value.slice none 0 0)]
theorem a6P : lK env 96 (List.toArray []) = some (.agg (Array.mk qN)) := by kernel_rfl
theorem a6Q (a b : Option Addr) (n1 c1 n2 c2 : Nat) (p : Int) : lK env 96 (List.toArray [(0, .agg (Array.mk [.int .i64 p, .slice a n1 c1, .slice b n2 c2]))]) = some (.agg (Array.mk [.int .i64 p, .slice a n1 c1, .slice b n2 c2])) := by kernel_rfl
theorem YC.build {h : Hp} {s : Bk} {r : List Value} (a : YC h s r) : lK env 96 (List.toArray [(0, .agg (Array.mk r))]) = some (.agg (Array.mk r)) := by
 obtain ⟨vf, vt, rfl, h2, h3, _⟩ := a
 obtain ⟨_, _, _, rfl⟩ := h2.sl
 obtain ⟨_, _, _, rfl⟩ := h3.sl
 exact a6Q _ _ _ _ _ _ _
theorem VL {h : Hp} (w : Wf h) {s : Bk} {r : List Value} (a : YC h s r) : ∃ h' lk, F62 [.agg (Array.mk r)] h = some (.tuple (List.toArray [.agg (Array.mk lk), .int .i64 (gH s).2.2]), h') ∧ dW h h' ∧ lk.length = 3 ∧ lk.all oneCell = true ∧ ((gH s).2.2 = 0 → lk = r) := by
 have start : F62 [.agg (Array.mk r)] h = aJK (aQ T62 999999) (.agg (Array.mk r)) h := rfl
 rw [start]
 unfold aJK
 have hr3 := a.len
 rw [iC, dS, dS]
 have g0 : dW h (h.add (.cells r 25 none)) := dW.add w _
 have a0 : At (h.add (.cells r 25 none)) (.pointer (some ⟨h.next, 0, none⟩)) r := At.new
 generalize h.add (.cells r 25 none) = h0 at g0 a0 ⊢
 have g1 : dW h (h0.add (.cells qN 96 none)) := g0.trans (dW.add g0.wf _)
 have a1 : At (h0.add (.cells qN 96 none)) (.pointer (some ⟨h.next, 0, none⟩)) r := ET g0.wf a0 _
 have c1 : (h0.add (.cells qN 96 none)).get h0.next = some (.cells qN 96 none) := by rw [gT, if_pos rfl]
 rw [show [(Value.int .i64 (Int.ofNat 0)), (Value.slice none 0 0), (Value.slice none 0 0)] = qN from rfl]
 generalize h0.add (.cells qN 96 none) = h1 at g1 a1 c1 ⊢
 have s1 := a.sub g1.sub
 obtain ⟨h2, e2⟩ := aG4 (h := eT h1) (jG g1.wf) s1
 rw [a1.gG (z := 3) hr3, bF e2 rfl, aC]
 unfold aG2
 rw [dQ (v := .int .i64 (gH s).1) rfl, aJ, dQ (v := .int .i64 (gH s).2.1) rfl, aJ, dQ (v := .int .i64 (gH s).2.2) rfl, aJ, aO, dX, aI]
 by_cases e0 : (gH s).2.2 = 0
 ·rw [if_neg (by rw [e0]; simp), a1.gG (z := 3) hr3, a.build, aM]
  obtain ⟨h3, g3, a3, k3, _⟩ := o7 (z := 3) (l := r) w g1 (b := h0.next) (by have := g0.next; omega) c1 rfl hr3 a.one
  rw [k3, a3.gG (z := 3) hr3, e0]
  exact ⟨h3, _, rfl, g3, hr3, a.one, fun _ => rfl⟩
 ·rw [if_pos (by simpa using e0), a6P, aM]
  obtain ⟨h3, g3, a3, k3, _⟩ := o7 (z := 3) (l := qN) w g1 (b := h0.next) (by have := g0.next; omega) c1 rfl rfl rfl
  rw [k3, a3.gG (z := 3) rfl]
  exact ⟨h3, qN, rfl, g3, rfl, rfl, fun e => absurd e e0⟩
def EC (p n : Int) : Int := (n - n / 13) * (p / 2)
theorem RA {p n : Int} (hp : 0 ≤ p ∧ p ≤ 60) (hn : 0 ≤ n ∧ n ≤ 1000) : 0 ≤ EC p n ∧ EC p n ≤ 30 * n := by
 unfold EC
 have h1 : 0 ≤ n - n / 13 ∧ n - n / 13 ≤ n := by omega
 have h2 : 0 ≤ p / 2 ∧ p / 2 ≤ 30 := by omega
 generalize n - n / 13 = x at h1
 generalize p / 2 = y at h2
 have a := Int.mul_nonneg h1.1 h2.1
 have b := Int.mul_le_mul h1.2 h2.2 h2.1 hn.1
 omega
theorem aG5 (h : Hp) {p : Int} (hp : 0 ≤ p ∧ p ≤ 60) (l : List Value) : aN2 [.agg (Array.mk (.int .i64 p :: l))] h = some (.int .i64 (p / 2)) := by
 show plainO (YT h (G.aQ (aQ3 h) 999999) (.agg (Array.mk (.int .i64 p :: l)))) = _
 unfold YT
 rw [iC, kZ, mU _ _ 0 (.int .i64 p) rfl, aJ, show (Int.ofNat 2) = (2 : Int) from rfl, YS (by omega) (by omega) (by omega), kL]
 rfl
theorem a1H {ρ : Type} (p : Int) (a b : Value) (l : List Value) (k : List Value → Option ρ) : (nT (.int .i64 p :: a :: b :: l) 0 fun d => nH d 3 fun l3 => k l3) = k [.int .i64 p, a, b] := rfl
theorem BU (h : Hp) {p n : Int} (hp : 0 ≤ p ∧ p ≤ 60) (hn : 0 ≤ n ∧ n ≤ 1000) (a b : Value) (l : List Value) : F64 [.agg (Array.mk (.int .i64 p :: a :: b :: l)), .int .i64 n] h = some (.int .i64 (EC p n)) := by
 show plainO (aJL h (G.aQ (T64 h) 999999) (.agg (Array.mk (.int .i64 p :: a :: b :: l))) n) = _
 obtain ⟨f1, f2⟩ := RA hp hn
 unfold aJL
 rw [iC, kZ, show (Int.ofNat 13) = (13 : Int) from rfl, YS (by omega) (by omega) (by omega), kL, show Int.sub n (n / 13) = n - n / 13 from rfl, wrap64_in _ (by omega) (by omega), a1H, aG5 h hp, aM, aJ, show Int.mul (n - n / 13) (p / 2) = EC p n from rfl, wrap64_in _ (by omega) (by omega)]
 rfl
def aN3 (s : Bk) (n : Int) : Int × Int := if (gH s).2.2 ≠ 0 then (0, (gH s).2.2) else if !(qI 0 60 n) then (0, 7) else (EC s.bH n, 0)
theorem IZ {s : Bk} (h : (gH s).2.2 = 0) : 2 ≤ s.bH ∧ s.bH ≤ 60 := by
 unfold gH qW at h
 cases c : qI 2 60 s.bH with
 | false => rw [c] at h; simp at h
 | true => exact sJ.1 c
theorem BV {h : Hp} (w : Wf h) {s : Bk} {r : List Value} (a : YC h s r) (n : Int) : ∃ h', F15 [.agg (Array.mk r), .int .i64 n] h = some (lH (aN3 s n), h') := by
 have start : F15 [.agg (Array.mk r), .int .i64 n] h = aJM (aQ T15 999999) (.agg (Array.mk r)) n h := rfl
 rw [start]
 unfold aJM
 have hr3 := a.len
 rw [iC, dS]
 have g0 : dW h (h.add (.cells r 25 none)) := dW.add w _
 have a0 : At (h.add (.cells r 25 none)) (.pointer (some ⟨h.next, 0, none⟩)) r := At.new
 generalize h.add (.cells r 25 none) = h0 at g0 a0 ⊢
 obtain ⟨h2', lk, e2, gg, hl3, h1c, hlk⟩ := VL (h := eT h0) (jG g0.wf) (a.sub g0.sub)
 obtain ⟨h2, e3, g2⟩ := K5 g0.wf e2 gg
 rw [a0.gG (z := 3) hr3, e3, aC, dQ (v := .agg (Array.mk lk)) rfl, dQ (v := .int .i64 (gH s).2.2) rfl, aJ, dS]
 have g3 : dW h (h2.add (.cells qN 96 none)) := (g0.trans g2).trans (dW.add g2.wf _)
 have c3 : (h2.add (.cells qN 96 none)).get h2.next = some (.cells qN 96 none) := by rw [gT, if_pos rfl]
 rw [show [(Value.int .i64 (Int.ofNat 0)), (Value.slice none 0 0), (Value.slice none 0 0)] = qN from rfl]
 obtain ⟨h4, g4, a4, k4, _⟩ := o7 (z := 3) (l := lk) w g3 (b := h2.next) (by have := (g0.trans g2).next; omega) c3 rfl hl3 h1c
 rw [k4, aO, dX, aI]
 unfold aN3
 by_cases e0 : (gH s).2.2 = 0
 case neg =>
  rw [if_pos (by simpa using e0), if_pos e0]
  exact ⟨_, rfl⟩
 have F := IZ e0
 rw [hlk e0] at a4
 rw [if_neg (by simpa using e0), if_neg (by simpa using e0), TE, aC, show (Int.ofNat 0) = (0 : Int) from rfl, show (Int.ofNat 60) = (60 : Int) from rfl, sI, aM, aC, aV, aO, aI]
 have a5 := ET g4.wf a4 (.cells [.int .i64 n] 3 none)
 generalize h4.add (.cells [.int .i64 n] 3 none) = h5 at a5 ⊢
 cases c : qI 0 60 n with
 | false => rw [if_pos (by rfl), if_pos (by rfl)]; exact ⟨_, rfl⟩
 | true =>
 obtain ⟨n1, n2⟩ := sJ.1 c
 obtain ⟨vr, vd, rfl, _⟩ := a
 rw [if_neg (by simp), if_neg (by simp), a5.gG (z := 3) rfl, show iL s.bH vr vd = .int .i64 s.bH :: vr :: vd :: [] from rfl, BU _ (by omega) (by omega), aM, aC, aJ]
 exact ⟨_, rfl⟩
def kC (p : Int) : List Sc → Int
 | [] => 0
 | g :: l => EC p g.kids + kC p l
theorem BX {h : Hp} {v : Value} {ss : List Sc} {p : Int} (hp : 0 ≤ p ∧ p ≤ 60) (a b : Value) (t : List Value) (hr : bR.Rows h 2 v (ss.map Sc.row)) (hb : ∀ g ∈ ss, 0 ≤ g.kids ∧ g.kids ≤ 60) (hlen : ss.length ≤ 900) : ∀ (m i n : Nat) (acc : Int), i + m = ss.length → m + 2 ≤ n → 0 ≤ acc → acc ≤ 1800 * i →
  G.aQ (T67 h) n 1 (aH.i acc (aH.v v (aH.i (ss.length : Int) (aH.i (i : Int) (aH.l (.int .i64 p :: a :: b :: t) aH.n))))) = some (.int .i64 (acc + kC p (ss.drop i)))
 | 0, i, n', acc, him, hn, h0, h1 => by
  obtain ⟨n, rfl⟩ : ∃ n, n' = n + 2 := ⟨n' - 2, by omega⟩
  show VM h (G.aQ (T67 h) (n + 1)) acc v (ss.length : Int) (i : Int) _ = _
  unfold VM
  rw [aS, aZ, aI, if_neg (by simp; omega), List.drop_of_length_le (by omega)]
  show some (Value.int .i64 acc) = _
  rw [show kC p [] = 0 from rfl, Int.add_zero]
 | m + 1, i, n', acc, him, hn, h0, h1 => by
  obtain ⟨n, rfl⟩ : ∃ n, n' = n + 1 := ⟨n' - 1, by omega⟩
  have hi : i < ss.length := by omega
  have hg : (ss.map Sc.row)[i]? = some (ss[i]).row := by rw [List.getElem?_map, List.getElem?_eq_getElem hi]; rfl
  obtain ⟨q, hq, haq, hl⟩ := hr.at hg
  obtain ⟨b1, b2⟩ := hb _ (List.getElem_mem hi)
  obtain ⟨f1, f2⟩ := RA hp (n := (ss[i]).kids) (by omega)
  show VM h (G.aQ (T67 h) n) acc v (ss.length : Int) (i : Int) _ = _
  unfold VM
  rw [aS, aZ, aI, if_pos (by simp; omega), hq, haq.gG hl, aJD, a1E, a1H, mU _ _ 1 (.int .i64 (ss[i]).kids) rfl, aJ, BU h hp (by omega), aM, aJ, show Int.add acc (EC p (ss[i]).kids) = acc + EC p (ss[i]).kids from rfl, wrap64_in _ (by omega) (by omega), show Int.add (i : Int) (Int.ofNat 1) = ((i + 1 : Nat) : Int) from rfl, wrap64_in _ (by omega) (by omega),
   BX hp a b t hr hb hlen m (i + 1) n (acc + EC p (ss[i]).kids) (by omega) (by omega) (by omega) (by omega), List.drop_eq_getElem_cons hi]
  rw [show kC p (ss[i] :: ss.drop (i + 1)) = EC p (ss[i]).kids + kC p (ss.drop (i + 1)) from rfl, Int.add_assoc]
theorem YU {h : Hp} {v : Value} {ss : List Sc} {p : Int} (hp : 0 ≤ p ∧ p ≤ 60) (a b : Value) (t : List Value) (hr : bR.Rows h 2 v (ss.map Sc.row)) (hb : ∀ g ∈ ss, 0 ≤ g.kids ∧ g.kids ≤ 60) (hlen : ss.length ≤ 900) : F67 [.agg (Array.mk (.int .i64 p :: a :: b :: v :: t))] h = some (.int .i64 (kC p ss)) := by
 show plainO (aJN h (G.aQ (T67 h) 999999) (.agg (Array.mk (.int .i64 p :: a :: b :: v :: t)))) = _
 unfold aJN
 have := BX hp a b (v :: t) hr hb hlen ss.length 0 999999 0 (by omega) (by omega) (by omega) (by omega)
 rw [List.drop_zero, Int.zero_add] at this
 rw [iC, kZ, mU _ _ 3 v rfl, hr.len, List.length_map, show (Int.ofNat 0) = (0 : Int) from rfl]
 exact (congrArg plainO this)
theorem aG6 (h : Hp) {n g : Int} (hn : 0 ≤ n ∧ n ≤ 9000000000000000000) : F87 [.int .i64 n, .slice (some ⟨h.next, 0, none⟩) 1 1] (h.add (.cells [.int .i64 g] 3 none)) = some (.bool (qI 0 (n - 1) g)) := by
 have step : F87 [.int .i64 n, .slice (some ⟨h.next, 0, none⟩) 1 1] (h.add (.cells [.int .i64 g] 3 none)) = plainO (aJO (h.add (.cells [.int .i64 g] 3 none)) (G.aQ (T87 (h.add (.cells [.int .i64 g] 3 none))) 999999) n (.slice (some ⟨h.next, 0, none⟩) 1 1)) := rfl
 rw [step]
 unfold aJO
 rw [show Int.sub n (Int.ofNat 1) = n - 1 from rfl, wrap64_in _ (by omega) (by omega), show (Int.ofNat 0) = (0 : Int) from rfl, sI, aM, aV]
 rfl
noncomputable def rV : List Value := [(Value.int .i64 (Int.ofNat 0)), (Value.slice none 0 0), (Value.slice none 0 0), (Value.slice none 0 0), (Value.int .i64 (Int.ofNat 0)), (Value.int .i64 (Int.ofNat 0)), (Value.slice none 0 0), (Value.int .i64 (Int.ofNat 0))]
theorem aQ4 : lK env 102 (List.toArray []) = some (.agg (Array.mk rV)) := by kernel_rfl
theorem a6U (a b c d : Option Addr) (n1 c1 n2 c2 n3 c3 n4 c4 : Nat) (p x y z : Int) : lK env 102 (List.toArray [(0, .agg (Array.mk [.int .i64 p, .slice a n1 c1, .slice b n2 c2])), (1, .agg (Array.mk [.slice c n3 c3, .int .i64 x, .int .i64 y, .slice d n4 c4, .int .i64 z]))]) =
  some (.agg (Array.mk [.int .i64 p, .slice a n1 c1, .slice b n2 c2, .slice c n3 c3, .int .i64 x, .int .i64 y, .slice d n4 c4, .int .i64 z])) := by kernel_rfl
def wG (s : Bk) (d : Int) : Int := if (gH s).2.2 ≠ 0 then (gH s).2.2 else if !(qI 0 ((s.days.length : Int) - 1) d) then 4 else 0
theorem YV {s : Bk} (h : (gH s).2.2 = 0) : s.days.length ≤ 4 ∧ ∀ (j : Nat) (hj : j < s.days.length), yZ s.fD.length s.days[j] = 0 := by
 unfold gH at h
 by_cases c1 : qW s.bH = 0
 case neg => rw [if_pos c1] at h; exact absurd h c1
 rw [if_neg (by simpa using c1)] at h
 by_cases c2 : (gY 3 VG s.fD).2 = 0
 case neg => rw [if_pos c2] at h; exact absurd h c2
 rw [if_neg (by simpa using c2)] at h
 by_cases c3 : (gY 4 (fun _ g => yZ s.fD.length g) s.days).2 = 0
 case neg => rw [if_pos c3] at h; exact absurd h c3
 have := tC c3
 exact ⟨by omega, fun j hj => VK c3 j hj⟩
theorem aQ5 {m : Nat} {d : Dy} (h : yZ m d = 0) : d.ss.length ≤ 3 ∧ (∀ g ∈ d.ss, 1 ≤ g.kids ∧ g.kids ≤ 60) ∧ lZ d.ss ≤ 60 := by
 unfold yZ at h
 by_cases c1 : (gY 3 K3 d.ss).2 = 0
 case neg => rw [if_pos c1] at h; exact absurd h c1
 rw [if_neg (by simpa using c1)] at h
 have l3 := tC c1
 by_cases c2 : 60 < lZ d.ss
 ·rw [if_pos c2] at h; exact absurd h (by decide)
 exact ⟨by omega, aJF c1, by omega⟩
theorem YW {h : Hp} (w : Wf h) {s : Bk} {r : List Value} (a : YC h s r) (d : Int) : ∃ h' lk, F66 [.agg (Array.mk r), .int .i64 d] h = some (.tuple (List.toArray [.agg (Array.mk lk), .int .i64 (wG s d)]), h') ∧ dW h h' ∧ lk.length = 8 ∧ lk.all oneCell = true ∧
  (wG s d = 0 → ∃ (k : Nat) (hk : k < s.days.length), d = (k : Int) ∧ lk = r ++ (s.days[k]).row) := by
 have start : F66 [.agg (Array.mk r), .int .i64 d] h = aJP (aQ T66 999999) (.agg (Array.mk r)) d h := rfl
 rw [start]
 unfold aJP
 have hr3 := a.len
 rw [iC, dS, dS, show [(Value.int .i64 (Int.ofNat 0)), (Value.slice none 0 0), (Value.slice none 0 0), (Value.slice none 0 0), (Value.int .i64 (Int.ofNat 0)), (Value.int .i64 (Int.ofNat 0)), (Value.slice none 0 0), (Value.int .i64 (Int.ofNat 0))] = rV from rfl]
 have g0 : dW h (h.add (.cells r 25 none)) := dW.add w _
 have a0 : At (h.add (.cells r 25 none)) (.pointer (some ⟨h.next, 0, none⟩)) r := At.new
 generalize h.add (.cells r 25 none) = h0 at g0 a0 ⊢
 have g1 : dW h (h0.add (.cells rV 102 none)) := g0.trans (dW.add g0.wf _)
 have a1 : At (h0.add (.cells rV 102 none)) (.pointer (some ⟨h.next, 0, none⟩)) r := ET g0.wf a0 _
 have c1 : (h0.add (.cells rV 102 none)).get h0.next = some (.cells rV 102 none) := by rw [gT, if_pos rfl]
 have n1 : h.next ≤ h0.next := g0.next
 generalize h0.next = b1 at c1 n1 ⊢
 generalize h0.add (.cells rV 102 none) = h1 at g1 a1 c1 ⊢
 obtain ⟨h2', lk, e2, gg, hl3, h1c, hlk⟩ := VL (h := eT h1) (jG g1.wf) (a.sub g1.sub)
 obtain ⟨h2, e3, g2⟩ := K5 g1.wf e2 gg
 rw [a1.gG (z := 3) hr3, e3, aC, dQ (v := .agg (Array.mk lk)) rfl, dQ (v := .int .i64 (gH s).2.2) rfl, aJ, dS]
 have c2 := g2.sub _ _ c1
 have lt2 : b1 < h2.next := g2.wf.2 _ _ c2
 have gh2 := g1.trans g2
 have g3 : dW h (h2.add (.cells qN 96 none)) := gh2.trans (dW.add g2.wf _)
 have c3 : (h2.add (.cells qN 96 none)).get h2.next = some (.cells qN 96 none) := by rw [gT, if_pos rfl]
 have d3 : (h2.add (.cells qN 96 none)).get b1 = some (.cells rV 102 none) := by rw [gT, if_neg (by omega)]; exact c2
 rw [show [(Value.int .i64 (Int.ofNat 0)), (Value.slice none 0 0), (Value.slice none 0 0)] = qN from rfl]
 obtain ⟨h4, g4, a4, k4, o4⟩ := o7 (z := 3) (l := lk) w g3 (b := h2.next) (by have := gh2.next; omega) c3 rfl hl3 h1c
 have d4 := o4 b1 _ (by omega) d3
 rw [k4, aO, dX, aI]
 unfold wG
 by_cases e0 : (gH s).2.2 = 0
 case neg =>
  rw [if_pos (by simpa using e0), if_pos e0, aQ4, aM]
  obtain ⟨h5, g5, a5, k5, _⟩ := o7 (z := 8) (l := rV) w g4 (b := b1) n1 d4 rfl rfl rfl
  rw [k5, a5.gG (z := 8) rfl]
  exact ⟨h5, rV, rfl, g5, rfl, rfl, fun e => absurd e e0⟩
 rw [hlk e0] at a4
 have sh := a.sub g4.sub
 obtain ⟨vr, vd, rfl, sr, sd, ds⟩ := id sh
 obtain ⟨l4, D⟩ := YV e0
 rw [if_neg (by simpa using e0), if_neg (by simpa using e0)]
 obtain ⟨q, hq, aq⟩ := a4.part 0 3 (by show 0 + 3 ≤ 3; decide)
 replace aq : At h4 q (iL s.bH vr vd) := aq
 have w5 := g4.wf.add (.cells [.int .i64 d] 3 none)
 have g5 := g4.trans (dW.add g4.wf (.cells [.int .i64 d] 3 none))
 have G5 := (dW.add g4.wf (.cells [.int .i64 d] 3 none)).sub
 have a5 := ET g4.wf a4 (.cells [.int .i64 d] 3 none)
 have aq5 := ET g4.wf aq (.cells [.int .i64 d] 3 none)
 have d5 := G5 _ _ d4
 have sd5 := sd.sub G5
 have sr5 := sr.sub G5
 have ds5 : ∀ g ∈ s.days, DyA (h4.add (.cells [.int .i64 d] 3 none)) g := fun g hg => (ds g hg).sub G5
 rw [hq, aq.sF 2 (x := vd) rfl, sd.rows.len, List.length_map, TE, aC, aG6 h4 (by omega), aM, aC, aV, aO, aI]
 generalize h4.add (.cells [.int .i64 d] 3 none) = h5 at w5 g5 G5 a5 aq5 d5 sd5 sr5 ds5 ⊢
 cases c : qI 0 ((s.days.length : Int) - 1) d with
 | false =>
  rw [if_pos (by rfl), if_pos (by rfl), aQ4, aM]
  obtain ⟨h6, g6, a6, k6, _⟩ := o7 (z := 8) (l := rV) w g5 (b := b1) n1 d5 rfl rfl rfl
  rw [k6, a6.gG (z := 8) rfl]
  exact ⟨h6, rV, rfl, g6, rfl, rfl, fun e => absurd e (by decide)⟩
 | true =>
 obtain ⟨x1, x2⟩ := sJ.1 c
 obtain ⟨k, rfl⟩ : ∃ k : Nat, d = (k : Int) := ⟨d.toNat, by omega⟩
 have hk : k < s.days.length := by omega
 have hg : (s.days.map Dy.row)[k]? = some (s.days[k]).row := by rw [List.getElem?_map, List.getElem?_eq_getElem hk]; rfl
 obtain ⟨qd, hqd, haq, hld⟩ := sd5.rows.at hg
 rw [if_neg (by simp), if_neg (by simp), a5.gG (z := 3) rfl, hq, aq5.sF 2 (x := vd) rfl, hqd, haq.gG hld]
 have bl : lK env 102 (List.toArray [(0, .agg (Array.mk (iL s.bH vr vd))), (1, .agg (Array.mk (s.days[k]).row))]) = some (.agg (Array.mk (iL s.bH vr vd ++ (s.days[k]).row))) := by
  obtain ⟨_, _, _, rfl⟩ := sr5.sl
  obtain ⟨_, _, _, rfl⟩ := sd5.sl
  obtain ⟨_, _, _, e1⟩ := (ds5 _ (List.getElem_mem hk)).1.sl
  obtain ⟨_, _, _, e2⟩ := (ds5 _ (List.getElem_mem hk)).2.sl
  unfold Dy.row
  rw [e1, e2]
  exact a6U _ _ _ _ _ _ _ _ _ _ _ _ _ _ _ _
 have one : (iL s.bH vr vd ++ (s.days[k]).row).all oneCell = true := by
  obtain ⟨_, _, _, rfl⟩ := sr5.sl
  obtain ⟨_, _, _, rfl⟩ := sd5.sl
  obtain ⟨_, _, _, e1⟩ := (ds5 _ (List.getElem_mem hk)).1.sl
  obtain ⟨_, _, _, e2⟩ := (ds5 _ (List.getElem_mem hk)).2.sl
  unfold Dy.row
  rw [e1, e2]
  rfl
 obtain ⟨h6, g6, a6, k6, _⟩ := o7 (z := 8) (l := iL s.bH vr vd ++ (s.days[k]).row) w g5 (b := b1) n1 d5 rfl rfl one
 rw [bl, aM, k6, a6.gG (z := 8) rfl]
 exact ⟨h6, _, rfl, g6, rfl, one, fun _ => ⟨k, hk, rfl, rfl⟩⟩
end Go.Proofs.YtgomkbcokgeciaaGreat.K.L
