/- Contracts of told functions: the places of the figures that arrive; two places compared (the code). -/
import Derived.Test.YtgjdokjoejhepaaGreatDoorTrS15
import Derived.Test.YtgjdokjoejhepaaGreatDoorTrEngD
open Go Go.bP
set_option maxRecDepth 100000
set_option linter.unusedVariables false
namespace Go.Proofs.YtgjdokjoejhepaaGreatDoor.K.L
theorem aFD : ∀ {c : List Nat}, c.length = 6 → jS (.agg (Array.mk (jI c))) = true
 | [_, _, _, _, _, _], _ => rfl
theorem a1P : iC env 136 = some (.array 6 3) := by kernel_rfl
theorem bMD : iC env 3 = some (.int .i64) := by kernel_rfl
theorem sizeOf3 : pM env.P (sizeOf 3) = some 1 := by kernel_rfl
theorem aQY : env.P.eqGuardType env.P.depth 136 = false := by kernel_rfl
theorem a1Q : ((env.ty.get 136).bind fun i => i.eqs) = none := by kernel_rfl
theorem cast_inj : ∀ {c d : List Nat}, (c.map fun (n : Nat) => (n : Int)) = (d.map fun (n : Nat) => (n : Int)) → c = d
 | [], [], _ => rfl
 | x :: c, y :: d, h => by
  simp only [List.map_cons, List.cons.injEq] at h
  rw [cast_inj h.2, show x = y by omega]
theorem bME (xo yo : Operand) {c d : List Nat} (hc : c.length = 6) (hd : d.length = 6) : nG env .eql 136 xo yo (.agg (Array.mk (jI c))) (.agg (Array.mk (jI d))) = some (.bool (decide (c = d))) := by
 have e : ∀ l : List Nat, jI l = (l.map fun (n : Nat) => (n : Int)).map (Value.int .i64) := fun l => by unfold jI; rw [List.map_map]; rfl
 rw [e c, e d, aL4 eX a1P bMD sizeOf3 aQY a1Q xo yo (by rw [List.length_map]; exact hc) (by rw [List.length_map]; exact hd)]
 congr 2
 exact decide_eq_decide.2 ⟨cast_inj, fun h => by rw [h]⟩
def oG (s : Sh) (cnt : List Nat) (x : Nat) : List Nat := if lW s.ts x then cnt.set x 1 else cnt
def vV (s : Sh) : List Nat := (List.range s.aU.length).foldl (oG s) jO
theorem FL (s : Sh) (cnt : List Nat) (x : Nat) : (oG s cnt x).length = cnt.length := by
 unfold oG
 split
 ·exact List.length_set
 ·rfl
theorem QZ (s : Sh) : ∀ (l : List Nat) (cnt : List Nat), (l.foldl (oG s) cnt).length = cnt.length
 | [], _ => rfl
 | x :: l, cnt => by rw [List.foldl_cons, QZ s l, FL]
theorem VY : ∀ (l : List Nat) (cnt : List Nat), (l.foldl bump cnt).length = cnt.length
 | [], _ => rfl
 | x :: l, cnt => by rw [List.foldl_cons, VY l, QW]
theorem Q0 : ∀ (l : List En) (cnt : List Nat), (l.foldl zL cnt).length = cnt.length
 | [], _ => rfl
 | x :: l, cnt => by rw [List.foldl_cons, Q0 l]; unfold zL; rw [VY]
theorem aB5 {hb : Hp} (w : Wf hb) {s : Sh} {r : List Value} (a : yX hb s r) (f : mZ s) (ht : ∀ t ∈ s.ts, 0 ≤ t ∧ t ≤ 63) {r1 r2 : Value} (h1 : At hb r1 r) {b3 : Nat} (hb3 : hb.next ≤ b3) : ∀ m i n (h : Hp) (cnt : List Nat), bE hb h → h.get b3 = some (.cells (jI cnt) 136 none) → cnt.length = 6 → i + m = s.aU.length →
  ∃ h', bE hb h' ∧ (∀ k o, k ≠ b3 → h.get k = some o → h'.get k = some o) ∧ h'.get b3 = some (.cells (jI ((List.range' i m).foldl (oG s) cnt)) 136 none) ∧
   aP IR (m + 2 + n) 1 (AL.v r1 (AL.v r2 (AL.v (.pointer (some ⟨b3, 0, none⟩)) (AL.i (s.aU.length : Int) (AL.i (i : Int) AL.n))))) h = YR (aP IR 0) r2 (.pointer (some ⟨b3, 0, none⟩)) h'
 | 0, i, n, h, cnt, g, h3, h6, him => by
  refine ⟨h, g, fun k o _ ho => ho, h3, ?_⟩
  have step : aP IR (0 + 2 + n) 1 (AL.v r1 (AL.v r2 (AL.v (.pointer (some ⟨b3, 0, none⟩)) (AL.i (s.aU.length : Int) (AL.i (i : Int) AL.n))))) h = KJ (aP IR (n + 1)) r1 r2 (.pointer (some ⟨b3, 0, none⟩)) (s.aU.length : Int) (i : Int) h := by rw [show 0 + 2 + n = (n + 1) + 1 by omega]; rfl
  rw [step]
  unfold KJ
  rw [aN, bA, aI, if_neg (by simp; omega)]
  rfl
 | m + 1, i, n, h, cnt, g, h3, h6, him => by
  have f6 := f.aU
  have hi : i < s.aU.length := by omega
  have step : aP IR (m + 1 + 2 + n) 1 (AL.v r1 (AL.v r2 (AL.v (.pointer (some ⟨b3, 0, none⟩)) (AL.i (s.aU.length : Int) (AL.i (i : Int) AL.n))))) h = KJ (aP IR (m + 2 + n)) r1 r2 (.pointer (some ⟨b3, 0, none⟩)) (s.aU.length : Int) (i : Int) h := by rw [show m + 1 + 2 + n = (m + 2 + n) + 1 by omega]; rfl
  have hro : h.ro ≤ b3 := by rw [g.ro]; have := w.1; omega
  have hlt := g.wf.2 _ _ h3
  have ha := IW (fZ g.wf) (h := bK h) (s := s) (r := r) (a.sub g.sub) i (by omega) (by have := f.six; omega) ht
  obtain ⟨h', ha⟩ := ha
  have body : aP IR (m + 1 + 2 + n) 1 (AL.v r1 (AL.v r2 (AL.v (.pointer (some ⟨b3, 0, none⟩)) (AL.i (s.aU.length : Int) (AL.i (i : Int) AL.n))))) h =
    aP IR (m + 2 + n) 1 (AL.v r1 (AL.v r2 (AL.v (.pointer (some ⟨b3, 0, none⟩)) (AL.i (s.aU.length : Int) (AL.i ((i + 1 : Nat) : Int) AL.n))))) (if lW s.ts i then h.upd b3 (.cells (jI (oG s cnt i)) 136 none) else h) := by
   rw [step]
   unfold KJ
   rw [aN, bA, aI, if_pos (by simp; omega), (h1.sub g.sub).fF (z := 3) a.len, bD ha rfl, aD, aO, aI, show Int.add (i : Int) (Int.ofNat 1) = ((i + 1 : Nat) : Int) from rfl]
   cases hs : lW s.ts i with
   | false => rw [if_neg (by simp), if_neg (by simp), wrap64_in _ (by omega) (by omega)]
   | true =>
    rw [if_pos rfl, if_pos rfl, show ∀ (ρ : Type) (kk : Value → Option ρ), GU 6 1 (.pointer (some ⟨b3, 0, none⟩)) (i : Int) kk = kk (.pointer (some ⟨b3, 0 + i * 1, none⟩)) from fun ρ kk => Go.bP.Y.QR 6 1 b3 0 i (by omega) kk,
     qQ h3 hro rfl (by rw [Y4]; omega), Nat.zero_add, Nat.mul_one, wrap64_in _ (by omega) (by omega)]
    unfold oG jI
    rw [hs, if_pos rfl, List.map_set]
    rfl
  rw [body]
  have hput : (oG s cnt i).length = 6 := by rw [FL]; exact h6
  have nxt : ∃ h1', bE hb h1' ∧ (∀ k o, k ≠ b3 → h.get k = some o → h1'.get k = some o) ∧ h1'.get b3 = some (.cells (jI (oG s cnt i)) 136 none) ∧ h1' = (if lW s.ts i then h.upd b3 (.cells (jI (oG s cnt i)) 136 none) else h) := by
   cases hs : lW s.ts i with
   | false => exact ⟨h, g, fun k o _ ho => ho, by unfold oG; rw [hs, if_neg (by simp)]; exact h3, by rw [if_neg (by simp)]⟩
   | true => exact ⟨_, bE.upd w g hb3 hlt _, fun k o hk ho => by rw [dL, if_neg hk]; exact ho, by rw [dL, if_pos rfl], by rw [if_pos rfl]⟩
  obtain ⟨h1', n1, n2, n3, n4⟩ := nxt
  rw [← n4]
  obtain ⟨h2', p1, p2, p3, p4⟩ := aB5 w a f ht h1 hb3 m (i + 1) n h1' _ n1 n3 hput (by omega)
  exact ⟨h2', p1, fun k o hk ho => p2 k o hk (n2 k o hk ho), by rw [List.range'_succ]; exact p3, p4⟩
theorem M7 {h : Hp} (w : Wf h) {s : Sh} {r : List Value} (a : yX h s r) (f : mZ s) (ht : ∀ t ∈ s.ts, 0 ≤ t ∧ t ≤ 63) : ∃ h', aP7 [.agg (Array.mk r)] h = some (.agg (Array.mk (jI (vV s))), h') := by
 have start : aP7 [.agg (Array.mk r)] h = YS (aP IR 999999) (.agg (Array.mk r)) h := rfl
 rw [start]
 unfold YS
 rw [fQ, bL, bL, bL]
 have g0 : bE h (h.add (.cells r 88 none)) := bE.add w _
 have a0 : At (h.add (.cells r 88 none)) (.pointer (some ⟨h.next, 0, none⟩)) r := At.new
 generalize h.add (.cells r 88 none) = h0 at g0 a0 ⊢
 have g1 := bE.add g0.wf (.cells (jI jO) 136 none)
 have n1 : (h0.add (.cells (jI jO) 136 none)).next = h0.next + 1 := rfl
 have r1 : (h0.add (.cells (jI jO) 136 none)).get h0.next = some (.cells (jI jO) 136 none) := by rw [dM, if_pos rfl]
 have g2 := bE.add g1.wf (.cells (jI jO) 136 none)
 have r2 := g2.sub _ _ r1
 have r3 : ((h0.add (.cells (jI jO) 136 none)).add (.cells (jI jO) 136 none)).get (h0.next + 1) = some (.cells (jI jO) 136 none) := by rw [dM, if_pos n1.symm]
 have gg := g1.trans g2
 have f6 := f.aU
 show ∃ h', (aV 0 (.pointer (some ⟨h.next, 0, none⟩)) fun v3 => aV 1 v3 fun v4 => bC ((h0.add (.cells (jI jO) 136 none)).add (.cells (jI jO) 136 none)) v4 fun v5 => gY v5 fun i6 => aP IR 999999 1 (AL.v (.pointer (some ⟨h.next, 0, none⟩)) (AL.v (.pointer (some ⟨h0.next, 0, none⟩)) (AL.v (.pointer (some ⟨h0.next + 1, 0, none⟩)) (AL.i i6 (AL.i ((0 : Nat) : Int) AL.n))))) ((h0.add (.cells (jI jO) 136 none)).add (.cells (jI jO) 136 none))) = some (.agg (Array.mk (jI (vV s))), h')
 generalize (h0.add (.cells (jI jO) 136 none)).add (.cells (jI jO) 136 none) = h2 at gg r2 r3 ⊢
 obtain ⟨vf, vt, hr, sf, st⟩ := id a
 have a2 : At h2 (.pointer (some ⟨h.next, 0, none⟩)) r := a0.sub gg.sub
 obtain ⟨q0, hq0, aq0⟩ := a2.part 0 3 (by rw [a.len]; exact Nat.le_refl 3)
 have hv : ((r.drop 0).take 3)[1]? = some vf := by rw [hr]; rfl
 rw [hq0, aq0.lK 1 hv, (sf.sub (g0.trans gg).sub).rows.len, List.length_map]
 have a' := a.sub g0.sub
 obtain ⟨h', p1, p2, p3, p4⟩ := aB5 g0.wf a' f ht a0 (r2 := .pointer (some ⟨h0.next, 0, none⟩)) (b3 := h0.next + 1) (by omega) s.aU.length 0 (999997 - s.aU.length) h2 jO gg r3 rfl (by omega)
 rw [show s.aU.length + 2 + (999997 - s.aU.length) = 999999 by omega] at p4
 have q2 := p2 h0.next _ (by omega) r2
 refine ⟨h'.upd h0.next (.cells (jI (vV s)) 136 none), ?_⟩
 refine Eq.trans p4 ?_
 unfold YR
 unfold vV
 rw [List.range_eq_range']
 exact aXJ (by rw [p1.ro]; exact g0.wf.1) q2 rfl p3 (by rw [Y4, QZ]; rfl) (aIZ _)
theorem FM (s : Sh) : (vV s).length = 6 := by unfold vV; rw [QZ]; rfl
theorem rU (c : List En) : (c.foldl zL jO).length = 6 := by rw [Q0]; rfl
end Go.Proofs.YtgjdokjoejhepaaGreatDoor.K.L
