/- Contracts of told functions: the figures that entries name (the reference). -/
import Derived.Test.YtgjdokjoejhepaaGreatDoorTrS20
open Go Go.bP
set_option maxRecDepth 100000
set_option linter.unusedVariables false
namespace Go.Proofs.YtgjdokjoejhepaaGreatDoor.K.L
theorem aXM : (pU env 3).map (fun z => Nat.beq z.cells.size 1) = some true := by kernel_rfl
theorem aQ2 : (env.ty.get 3).map (fun ti => ti.info.bytes) = some 8 := by kernel_rfl
def InA (hb h : Hp) (v : Value) (ns : List Int) : Prop := (v = .slice none 0 0 ∧ ns = []) ∨ ∃ b, v = .slice (some ⟨b, 0, none⟩) ns.length ns.length ∧ hb.next ≤ b ∧ h.get b = some (.cells (ns.map (Value.int .i64)) 3 (some 1))
theorem InA.rows {hb h : Hp} {v : Value} {ns : List Int} (a : InA hb h v ns) : bP.Rows h 1 v (ns.map dH) := by
 rcases a with ⟨rfl, rfl⟩ | ⟨b, rfl, _, h2⟩
 ·exact .inl ⟨0, rfl, rfl⟩
 ·refine .inr ⟨b, 0, ns.length, _, 3, some 1, by rw [List.length_map], fun _ => h2, fun i r hi => ?_⟩
  rw [List.getElem?_map] at hi
  cases hx : ns[i]? with
  | none => rw [hx] at hi; cases hi
  | some x =>
   rw [hx] at hi
   cases hi
   have := (List.getElem?_eq_some_iff.1 hx).1
   refine ⟨rfl, by simp; omega, fun k y hy => ?_⟩
   cases k with
   | zero =>
    have hy : Value.int .i64 x = y := by simpa [dH] using hy
    subst hy
    rw [Nat.zero_add, Nat.mul_one, Nat.add_zero, List.getElem?_map, hx]; rfl
   | succ k => simp [dH] at hy
theorem KV {hb h : Hp} (w : Wf hb) (g : bE hb h) {v : Value} {ns : List Int} (a : InA hb h v ns) (hlen : ns.length ≤ 100) (s : Int) :
  ∃ v' h', nR env (h.add (.cells [.int .i64 s] 3 none)) #[23, 23] (List.toArray [v, .slice (some ⟨h.next, 0, none⟩) 1 1]) = some (v', h') ∧ bE hb h' ∧ InA hb h' v' (ns ++ [s]) := by
 have g1 : bE hb (h.add (.cells [.int .i64 s] 3 none)) := g.trans (bE.add g.wf _)
 have hx : (h.add (.cells [.int .i64 s] 3 none)).get h.next = some (.cells [.int .i64 s] 3 none) := by rw [dM, if_pos rfl]
 obtain ⟨ti, hti⟩ : ∃ ti, env.ty.get 3 = some ti := by
  cases e : env.ty.get 3 with
  | none => have := aQ2; rw [e] at this; cases this
  | some ti => exact ⟨ti, rfl⟩
 have hb3 : ti.info.bytes = 8 := by have := aQ2; rw [hti] at this; simpa using this
 obtain ⟨z, hz⟩ : ∃ z, pU env 3 = some z := by
  cases e : pU env 3 with
  | none => have := aXM; rw [e] at this; cases this
  | some z => exact ⟨z, rfl⟩
 have hzs : Nat.beq z.cells.size 1 = true := by have := aXM; rw [hz] at this; simpa using this
 have hsrc : wL (h.add (.cells [.int .i64 s] 3 none)) 1 1 (.slice (some ⟨h.next, 0, none⟩) 1 1) = some [.int .i64 s] := by
  show iR _ ⟨h.next, 0, none⟩ (1 * 1) = _
  exact yY hx rfl
 unfold nR
 rw [show (#[23, 23] : Array TypeId)[0]? = some 23 from rfl, show (#[23, 23] : Array TypeId)[1]? = some 23 from rfl, show (List.toArray [v, .slice (some ⟨h.next, 0, none⟩) 1 1])[0]? = some v from rfl, show (List.toArray [v, .slice (some ⟨h.next, 0, none⟩) 1 1])[1]? = some (.slice (some ⟨h.next, 0, none⟩) 1 1) from rfl]
 simp only [Option.bind_some, aI1, aI2, hti, hz, MV, hb3]
 rw [show (Nat.blt 0 1 && Nat.blt 0 8 && Nat.ble 8 65536 && Nat.beq z.cells.size 1) = true from by rw [hzs]; rfl]
 simp only [ok?]
 rcases a with ⟨rfl, rfl⟩ | ⟨b, rfl, hle, hg⟩
 ·refine ⟨.slice (some ⟨h.next + 1, 0, none⟩) 1 1, (h.add (.cells [.int .i64 s] 3 none)).add (.cells [.int .i64 s] 3 (some 1)), ?_, g1.trans (bE.add g1.wf _), .inr ⟨h.next + 1, rfl, by have := g.next; omega, by rw [dM, if_pos (show h.next + 1 = (h.add (.cells [.int .i64 s] 3 none)).next from rfl)]; rfl⟩⟩
  simp only [hsrc, Option.bind_some]
  rfl
 ·have hlt : b < h.next := g.wf.2 b _ hg
  have hg1 : (h.add (.cells [.int .i64 s] 3 none)).get b = some (.cells (ns.map (Value.int .i64)) 3 (some 1)) := by rw [dM, if_neg (by omega)]; exact hg
  have hre : zA (h.add (.cells [.int .i64 s] 3 none)) b = some (some 1) := by unfold zA; rw [hg1]
  have hold : iR (h.add (.cells [.int .i64 s] 3 none)) ⟨b, 0, none⟩ (ns.length * 1) = some (ns.map (Value.int .i64)) := yY hg1 (by simp)
  have hro : Nat.ble (h.add (.cells [.int .i64 s] 3 none)).ro b = true := by
   rw [Nat.ble_eq, PW, g.ro]
   have := w.1
   omega
  have gd := bE.del w g1 hle
  refine ⟨.slice (some ⟨h.next + 1, 0, none⟩) (ns.length + 1) (ns.length + 1), ((h.add (.cells [.int .i64 s] 3 none)).del b).add (.cells (ns.map (Value.int .i64) ++ [.int .i64 s]) 3 (some 1)), ?_, gd.trans (bE.add gd.wf _), .inr ⟨h.next + 1, by simp, by have := g.next; omega, ?_⟩⟩
  ·simp only [hre, Option.bind_some, hg1, hold, hsrc, hro, Nat.beq_refl]
   rw [show Nat.ble ((ns.length + 1) * 8) 1099511627776 = true from by rw [Nat.ble_eq]; omega]
   rfl
  ·rw [dM, if_pos (show h.next + 1 = ((h.add (.cells [.int .i64 s] 3 none)).del b).next from rfl)]; simp
theorem InA.sl {hb h : Hp} {v : Value} {ns : List Int} (a : InA hb h v ns) : CF h 1 v (ns.map dH) := by
 rcases a with ⟨rfl, rfl⟩ | ⟨b, rfl, _, h2⟩
 ·exact .inl ⟨rfl, rfl⟩
 ·refine .inr ⟨b, _, 3, some 1, by rw [List.length_map], h2, .inl rfl, fun i r hi => ?_⟩
  rw [List.getElem?_map] at hi
  cases hx : ns[i]? with
  | none => rw [hx] at hi; cases hi
  | some x =>
   rw [hx] at hi
   cases hi
   have := (List.getElem?_eq_some_iff.1 hx).1
   refine ⟨rfl, by simp; omega, fun k y hy => ?_⟩
   cases k with
   | zero =>
    have hy : Value.int .i64 x = y := by simpa [dH] using hy
    subst hy
    rw [Nat.mul_one, Nat.add_zero, List.getElem?_map, hx]; rfl
   | succ k => simp [dH] at hy
theorem aFG {h : Hp} (w : Wf h) {F : List Value → Hp → aT} {args : List Value} {h1 : Hp} {v : Value} {l : List Int} (e : F args (bK h) = some (v, h1)) (g : bE (bK h) h1) (a : CF h1 1 v (l.map dH)) : ∃ h2, dR F args h = some (v, h2) ∧ bE h h2 ∧ CF h2 1 v (l.map dH) := by
 have e' : F args ⟨h.next, h.next, h.aJ⟩ = some (v, h1) := e
 unfold dR
 rw [e', aD, aI]
 rcases id a with ⟨rfl, h2⟩ | ⟨b, c, t, k, rfl, h2⟩
 ·exact ⟨h, by rw [if_pos (by rfl)], bE.refl w, .inl ⟨rfl, h2⟩⟩
 ·refine ⟨⟨h1.next, h.ro, h1.aJ⟩, by rw [if_neg (by rw [show jS (.slice (some ⟨b, 0, none⟩) (l.map dH).length (l.map dH).length) = false from rfl]; simp)], ⟨⟨?_, g.wf.2⟩, g.sub, g.next, rfl⟩, a⟩
  have := w.1
  have := g.next
  show h.ro ≤ h1.next
  have : h.next ≤ h1.next := g.next
  omega
def named (c : List En) : List Int := c.flatMap kV
theorem FN {hb : Hp} (w : Wf hb) {r0 : Value} {c : List En} (hc : bP.Rows hb 3 r0 (c.map En.row)) (hlen : c.length ≤ 6) : ∀ m i n (h : Hp) (v : Value) (ns : List Int), bE hb h → InA hb h v ns → i + m = c.length → ns.length + 2 * m ≤ 90 →
  ∃ h' v', bE hb h' ∧ InA hb h' v' (ns ++ named (c.drop i)) ∧ aP T43 (m + 2 + n) 1 (AL.v r0 (AL.v v (AL.i (i : Int) AL.n))) h = some (v', h')
 | 0, i, n, h, v, ns, g, nm, him, hns => by
  refine ⟨h, v, g, by rw [List.drop_of_length_le (by omega)]; simpa [named] using nm, ?_⟩
  have step : aP T43 (0 + 2 + n) 1 (AL.v r0 (AL.v v (AL.i (i : Int) AL.n))) h = VO (aP T43 (n + 1)) r0 v (i : Int) h := by rw [show 0 + 2 + n = (n + 1) + 1 by omega]; rfl
  rw [step]
  unfold VO
  rw [hc.len, List.length_map, aN, bA, aI, if_neg (by simp; omega)]
  rfl
 | m + 1, i, n, h, v, ns, g, nm, him, hns => by
  have hi : i < c.length := by omega
  have hg : (c.map En.row)[i]? = some (c[i]).row := by rw [List.getElem?_map, List.getElem?_eq_getElem hi]; rfl
  obtain ⟨q, hq, haq, _⟩ := (hc.sub g.sub).at hg
  have step : aP T43 (m + 1 + 2 + n) 1 (AL.v r0 (AL.v v (AL.i (i : Int) AL.n))) h = VO (aP T43 (m + 2 + n)) r0 v (i : Int) h := by rw [show m + 1 + 2 + n = (m + 2 + n) + 1 by omega]; rfl
  obtain ⟨v1, h1, ap1, g1, nm1⟩ := KV w g nm (by omega) (c[i]).a
  obtain ⟨q1, hq1, bB6, _⟩ := (hc.sub g1.sub).at hg
  have hqq : q1 = q := by
   have e1 := hq1 Value some
   rw [hq Value some] at e1
   exact (Option.some.inj e1).symm
  subst hqq
  rw [step]
  unfold VO
  rw [hc.len, List.length_map, aN, bA, aI, if_pos (by simp; omega), hq, haq.lK 1 (x := .int .i64 (c[i]).a) rfl, aK, vT, aD, ap1, aD, hq, bB6.lK 0 (x := .int .i64 (c[i]).says) rfl, aK, aN, dJ, aI, show Int.add (i : Int) (Int.ofNat 1) = ((i + 1 : Nat) : Int) from rfl]
  by_cases c1 : (c[i]).says = 1
  ·obtain ⟨v2, h2, ap2, g2, nm2⟩ := KV w g1 nm1 (by simp; omega) (c[i]).b
   rw [if_pos (by simpa using c1), hq, bB6.lK 2 (x := .int .i64 (c[i]).b) rfl, aK, vT, aD, ap2, aD, wrap64_in _ (by omega) (by omega)]
   obtain ⟨h', v', p1, p2, p3⟩ := FN w hc hlen m (i + 1) n h2 v2 _ g2 nm2 (by omega) (by simp; omega)
   refine ⟨h', v', p1, ?_, p3⟩
   rw [List.drop_eq_getElem_cons hi]
   have : named (c[i] :: c.drop (i + 1)) = [(c[i]).a] ++ ([(c[i]).b] ++ named (c.drop (i + 1))) := by unfold named kV; rw [List.flatMap_cons, if_pos c1]; rfl
   rw [this, ← List.append_assoc, ← List.append_assoc]; exact p2
  ·rw [if_neg (by simpa using c1), wrap64_in _ (by omega) (by omega)]
   obtain ⟨h', v', p1, p2, p3⟩ := FN w hc hlen m (i + 1) n h1 v1 _ g1 nm1 (by omega) (by simp; omega)
   refine ⟨h', v', p1, ?_, p3⟩
   rw [List.drop_eq_getElem_cons hi]
   have : named (c[i] :: c.drop (i + 1)) = [(c[i]).a] ++ named (c.drop (i + 1)) := by unfold named kV; rw [List.flatMap_cons, if_neg c1]
   rw [this, ← List.append_assoc]; exact p2
theorem aFH {h : Hp} (w : Wf h) {r0 : Value} {c : List En} (hc : bP.Rows h 3 r0 (c.map En.row)) (hlen : c.length ≤ 6) : ∃ h' v', dR F43 [r0] h = some (v', h') ∧ bE h h' ∧ CF h' 1 v' ((named c).map dH) := by
 obtain ⟨h', v', p1, p2, p3⟩ := FN (fZ w) (r0 := r0) (hb := bK h) hc hlen c.length 0 (999997 - c.length) (bK h) (.slice none 0 0) [] (bE.refl (fZ w)) (.inl ⟨rfl, rfl⟩) (by omega) (by simp; omega)
 rw [show c.length + 2 + (999997 - c.length) = 999999 by omega] at p3
 rw [List.nil_append, List.drop_zero] at p2
 have e1 : F43 [r0] (bK h) = some (v', h') := by
  have step : ∀ n, aP T43 (n + 1) 0 (AL.v r0 AL.n) (bK h) = aIG (aP T43 n) r0 (bK h) := fun n => rfl
  show aP T43 (999999 + 1) 0 (AL.v r0 AL.n) (bK h) = _
  rw [step]
  unfold aIG
  rw [show (Int.ofNat 0) = ((0 : Nat) : Int) from rfl]
  exact p3
 obtain ⟨h2, e2, g2, a2⟩ := aFG w (F := F43) (args := [r0]) (h1 := h') (v := v') e1 p1 p2.sl
 exact ⟨h2, v', e2, g2, a2⟩
end Go.Proofs.YtgjdokjoejhepaaGreatDoor.K.L
