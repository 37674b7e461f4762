/- Contracts of told functions: lists of numbers that grow; maps whose keys are two numbers. -/
import Derived.Test.YtepepiajmdpiiaaHaS5
open Go Go.Eng
set_option maxRecDepth 100000
set_option linter.unusedVariables false
namespace Go.Proofs.Ytepepiajmdpiiaa.K.L
theorem FL : (kR env 3).map (fun z => Nat.beq z.cells.size 1) = some true := by kernel_rfl
theorem xG : (env.ty.get 3).map (fun ti => ti.info.bytes) = some 8 := by kernel_rfl
def xP (hb h : Hp) (v : Value) (ns : List Int) : Prop := (v = .slice none 0 0 ∧ ns = []) ∨ ∃ b, v = .slice (some ⟨b, 0, none⟩) ns.length ns.length ∧ hb.next ≤ b ∧ h.get b = some (.cells (ns.map (Value.int .i64)) 3 (some 1))
theorem xP.rows {hb h : Hp} {v : Value} {ns : List Int} (a : xP hb h v ns) : Eng.Rows h 1 v (ns.map dL) := by
 rcases a with ⟨rfl, rfl⟩ | ⟨b, rfl, _, h2⟩
 ·exact .inl ⟨0, rfl, rfl⟩
 ·refine .inr ⟨b, 0, ns.length, _, 3, some 1, by rw [List.length_map], fun _ => h2, fun i r hi => ?_⟩
  rw [List.getElem?_map] at hi
  cases hx : ns[i]? with
  | none => rw [hx] at hi; cases hi
  | some x =>
   rw [hx] at hi
   cases hi
   have := (List.getElem?_eq_some_iff.1 hx).1
   refine ⟨rfl, by simp; omega, fun k y hy => ?_⟩
   cases k with
   | zero =>
    have hy : Value.int .i64 x = y := by simpa [dL] using hy
    subst hy
    rw [Nat.zero_add, Nat.mul_one, Nat.add_zero, List.getElem?_map, hx]; rfl
   | succ k => simp [dL] at hy
theorem QM {hb h : Hp} (w : Wf hb) (g : bI hb h) {v : Value} {ns : List Int} (a : xP hb h v ns) (hlen : ns.length ≤ 100) (s : Int) :
  ∃ v' h', eX env (h.add (.cells [.int .i64 s] 3 none)) #[22, 22] (List.toArray [v, .slice (some ⟨h.next, 0, none⟩) 1 1]) = some (v', h') ∧ bI hb h' ∧ xP hb h' v' (ns ++ [s]) := by
 have g1 : bI hb (h.add (.cells [.int .i64 s] 3 none)) := g.trans (bI.add g.wf _)
 have hx : (h.add (.cells [.int .i64 s] 3 none)).get h.next = some (.cells [.int .i64 s] 3 none) := by rw [dD, if_pos rfl]
 obtain ⟨ti, hti⟩ : ∃ ti, env.ty.get 3 = some ti := by
  cases e : env.ty.get 3 with
  | none => have := xG; rw [e] at this; cases this
  | some ti => exact ⟨ti, rfl⟩
 have hb3 : ti.info.bytes = 8 := by have := xG; rw [hti] at this; simpa using this
 obtain ⟨z, hz⟩ : ∃ z, kR env 3 = some z := by
  cases e : kR env 3 with
  | none => have := FL; rw [e] at this; cases this
  | some z => exact ⟨z, rfl⟩
 have hzs : Nat.beq z.cells.size 1 = true := by have := FL; rw [hz] at this; simpa using this
 have hsrc : qJ (h.add (.cells [.int .i64 s] 3 none)) 1 1 (.slice (some ⟨h.next, 0, none⟩) 1 1) = some [.int .i64 s] := by
  show eH _ ⟨h.next, 0, none⟩ (1 * 1) = _
  exact lI hx rfl
 unfold eX
 rw [show (#[22, 22] : Array TypeId)[0]? = some 22 from rfl, show (#[22, 22] : Array TypeId)[1]? = some 22 from rfl, show (List.toArray [v, .slice (some ⟨h.next, 0, none⟩) 1 1])[0]? = some v from rfl, show (List.toArray [v, .slice (some ⟨h.next, 0, none⟩) 1 1])[1]? = some (.slice (some ⟨h.next, 0, none⟩) 1 1) from rfl]
 simp only [Option.bind_some, zN, xO, hti, hz, yE, hb3]
 rw [show (Nat.blt 0 1 && Nat.blt 0 8 && Nat.ble 8 65536 && Nat.beq z.cells.size 1) = true from by rw [hzs]; rfl]
 simp only [ok?]
 rcases a with ⟨rfl, rfl⟩ | ⟨b, rfl, hle, hg⟩
 ·refine ⟨.slice (some ⟨h.next + 1, 0, none⟩) 1 1, (h.add (.cells [.int .i64 s] 3 none)).add (.cells [.int .i64 s] 3 (some 1)), ?_, g1.trans (bI.add g1.wf _), .inr ⟨h.next + 1, rfl, by have := g.next; omega, by rw [dD, if_pos (show h.next + 1 = (h.add (.cells [.int .i64 s] 3 none)).next from rfl)]; rfl⟩⟩
  simp only [hsrc, Option.bind_some]
  rfl
 ·have hlt : b < h.next := g.wf.2 b _ hg
  have hg1 : (h.add (.cells [.int .i64 s] 3 none)).get b = some (.cells (ns.map (Value.int .i64)) 3 (some 1)) := by rw [dD, if_neg (by omega)]; exact hg
  have hre : kQ (h.add (.cells [.int .i64 s] 3 none)) b = some (some 1) := by unfold kQ; rw [hg1]
  have hold : eH (h.add (.cells [.int .i64 s] 3 none)) ⟨b, 0, none⟩ (ns.length * 1) = some (ns.map (Value.int .i64)) := lI hg1 (by simp)
  have hro : Nat.ble (h.add (.cells [.int .i64 s] 3 none)).ro b = true := by
   rw [Nat.ble_eq, DR, g.ro]
   have := w.1
   omega
  have gd := bI.del w g1 hle
  refine ⟨.slice (some ⟨h.next + 1, 0, none⟩) (ns.length + 1) (ns.length + 1), ((h.add (.cells [.int .i64 s] 3 none)).del b).add (.cells (ns.map (Value.int .i64) ++ [.int .i64 s]) 3 (some 1)), ?_, gd.trans (bI.add gd.wf _), .inr ⟨h.next + 1, by simp, by have := g.next; omega, ?_⟩⟩
  ·simp only [hre, Option.bind_some, hg1, hold, hsrc, hro, Nat.beq_refl]
   rw [show Nat.ble ((ns.length + 1) * 8) 1099511627776 = true from by rw [Nat.ble_eq]; omega]
   rfl
  ·rw [dD, if_pos (show h.next + 1 = ((h.add (.cells [.int .i64 s] 3 none)).del b).next from rfl)]; simp
theorem xP.sl {hb h : Hp} {v : Value} {ns : List Int} (a : xP hb h v ns) : jZ h 1 v (ns.map dL) := by
 rcases a with ⟨rfl, rfl⟩ | ⟨b, rfl, _, h2⟩
 ·exact .inl ⟨rfl, rfl⟩
 ·refine .inr ⟨b, _, 3, some 1, by rw [List.length_map], h2, .inl rfl, fun i r hi => ?_⟩
  rw [List.getElem?_map] at hi
  cases hx : ns[i]? with
  | none => rw [hx] at hi; cases hi
  | some x =>
   rw [hx] at hi
   cases hi
   have := (List.getElem?_eq_some_iff.1 hx).1
   refine ⟨rfl, by simp; omega, fun k y hy => ?_⟩
   cases k with
   | zero =>
    have hy : Value.int .i64 x = y := by simpa [dL] using hy
    subst hy
    rw [Nat.mul_one, Nat.add_zero, List.getElem?_map, hx]; rfl
   | succ k => simp [dL] at hy
theorem uP (h : Hp) : ∀ (n a : Nat) (t : T bC) (i : Nat), (bN (iC h a n) t).get i = if a ≤ i ∧ i < a + n then (match h.get i with | some o => some o | none => t.get i) else t.get i
 | 0, a, t, i => by
  rw [if_neg (by omega)]; rfl
 | n + 1, a, t, i => by
  unfold iC
  cases hg : h.get a with
  | some o =>
   show (bN (iC h (a + 1) n) (t.put a (some o))).get i = _
   rw [uP h n (a + 1), T.get_put]
   by_cases ha : i = a
   ·subst ha
    rw [if_neg (by omega), if_pos rfl, if_pos (by omega), hg]
   ·rw [if_neg ha]
    by_cases hi : a + 1 ≤ i ∧ i < a + 1 + n
    ·rw [if_pos hi, if_pos (by omega)]
    ·rw [if_neg hi, if_neg (by omega)]
  | none =>
   show (bN (iC h (a + 1) n) t).get i = _
   rw [uP h n (a + 1)]
   by_cases ha : i = a
   ·subst ha
    rw [if_neg (by omega), if_pos (by omega), hg]
   ·by_cases hi : a + 1 ≤ i ∧ i < a + 1 + n
    ·rw [if_pos hi, if_pos (by omega)]
    ·rw [if_neg hi, if_neg (by omega)]
theorem laid {h h2 : Hp} (w : Wf h) (w2 : Wf h2) (hn : h.next ≤ h2.next) : bI h (Hp.mk h2.next h.ro (bN (iC h2 h.next (Nat.sub h2.next h.next)) h.aG)) ∧
  (∀ i o, h.next ≤ i → h2.get i = some o → (Hp.mk h2.next h.ro (bN (iC h2 h.next (Nat.sub h2.next h.next)) h.aG)).get i = some o) := by
 have hw := w.1
 have key : ∀ i, (Hp.mk h2.next h.ro (bN (iC h2 h.next (Nat.sub h2.next h.next)) h.aG)).get i = if h.next ≤ i ∧ i < h2.next then (match h2.get i with | some o => some o | none => h.get i) else h.get i := by
  intro i
  show (bN (iC h2 h.next (h2.next - h.next)) h.aG).get i = _
  rw [uP, show h.next + (h2.next - h.next) = h2.next by omega]
  rfl
 refine ⟨⟨⟨by show h.ro ≤ h2.next; omega, fun i o hi => ?_⟩, fun i o hi => ?_, hn, rfl⟩, fun i o hi hg => ?_⟩
 ·show i < h2.next
  rw [key] at hi
  by_cases c : h.next ≤ i ∧ i < h2.next
  ·exact c.2
  ·rw [if_neg c] at hi
   have := w.2 i o hi; omega
 ·have := w.2 i o hi
  rw [key, if_neg (by omega)]; exact hi
 ·have := w2.2 i o hg
  rw [key, if_pos ⟨hi, this⟩, hg]
theorem aAP (v : Value) (n : Nat) (o : T bC) (k : List (Nat × bC) → Nat → aW) : kX v n (Hp.mk n n o) k = k [] n := by
 unfold kX
 rw [aJ]
 by_cases hp : kL v = true
 ·rw [if_pos hp]
 ·rw [if_neg hp, show Nat.ble n (Hp.mk n n o).next = true from by rw [Nat.ble_eq]; exact Nat.le_refl _, aJ, if_pos rfl, show Nat.sub (Hp.mk n n o).next n = 0 from Nat.sub_self n]
  rfl
theorem QE (n : Nat) (o : T bC) (x : bC) (k : List (Nat × bC) → Nat → aW) : kX (.pointer (some ⟨n, 0, none⟩)) n ((Hp.mk n n o).add x) k = k [(n, x)] (n + 1) := by
 unfold kX
 rw [show kL (.pointer (some ⟨n, 0, none⟩)) = false from rfl, aJ, if_neg (by simp), show ((Hp.mk n n o).add x).next = n + 1 from rfl, show Nat.ble n (n + 1) = true from by rw [Nat.ble_eq]; omega, aJ, if_pos rfl, show Nat.sub (n + 1) n = 1 from by show n + 1 - n = 1; omega]
 have hg : ((Hp.mk n n o).add x).get n = some x := by rw [dD, if_pos rfl]
 show k (match ((Hp.mk n n o).add x).get n with | some o' => (n, o') :: [] | none => []) (n + 1) = _
 rw [hg]
theorem kept {h : Hp} (w : Wf h) {F : List Value → Hp → aW} {args : List Value} {h1 : Hp} {l : List Value} (e : F args (iG h) = some (.agg (Array.mk l), h1)) (hp : kL (.agg (Array.mk l)) = false) (g : bI (iG h) h1) :
  ∃ H W, bI h H ∧ (∀ i o, h.next ≤ i → h1.get i = some o → H.get i = some o) ∧ bN W h.aG = H.aG ∧
  ∀ k : Value → List (Nat × bC) → Nat → aW, (aS (dV F args (Hp.mk h.next h.next h.aG)) fun v h12 => kX v h.next h12 fun w n => k v w n) = k (.agg (Array.mk l)) W H.next := by
 have hn : h.next ≤ h1.next := g.next
 obtain ⟨lg, ls⟩ := laid w g.wf hn
 refine ⟨_, iC h1 h.next (Nat.sub h1.next h.next), lg, ls, rfl, fun k => ?_⟩
 unfold dV
 rw [show (⟨(Hp.mk h.next h.next h.aG).next, (Hp.mk h.next h.next h.aG).next, (Hp.mk h.next h.next h.aG).aG⟩ : Hp) = iG h from rfl, e, aH, hp]
 show (kX (.agg (Array.mk l)) h.next (Hp.mk h1.next h.next h1.aG) fun w n => k (.agg (Array.mk l)) w n) = _
 unfold kX
 rw [hp]
 show dF (Nat.ble h.next h1.next) _ none = _
 rw [show Nat.ble h.next h1.next = true from by rw [Nat.ble_eq]; exact hn]
 have bl : ∀ n a, iC (Hp.mk h1.next h.next h1.aG) a n = iC h1 a n := by
  intro n
  induction n with
  | zero => intro a; rfl
  | succ n ih => intro a; unfold iC; rw [show (Hp.mk h1.next h.next h1.aG).get a = h1.get a from rfl, ih]
 show k _ (iC (Hp.mk h1.next h.next h1.aG) h.next (Nat.sub h1.next h.next)) h1.next = _
 rw [bl]
theorem aGA (v : Value) (hv : kL v = false) (n : Nat) (o : T bC) (x : bC) (k : List (Nat × bC) → Nat → aW) : kX v n ((Hp.mk n n o).add x) k = k [(n, x)] (n + 1) := by
 unfold kX
 rw [hv, aJ, if_neg (by simp), show ((Hp.mk n n o).add x).next = n + 1 from rfl, show Nat.ble n (n + 1) = true from by rw [Nat.ble_eq]; omega, aJ, if_pos rfl, show Nat.sub (n + 1) n = 1 from by show n + 1 - n = 1; omega]
 have hg : ((Hp.mk n n o).add x).get n = some x := by rw [dD, if_pos rfl]
 show k (match ((Hp.mk n n o).add x).get n with | some o' => (n, o') :: [] | none => []) (n + 1) = _
 rw [hg]
theorem NN (n m : Nat) (o : T bC) (x : bC) (k : List (Nat × bC) → Nat → aW) : kX (.slice (some ⟨n, 0, none⟩) m m) n ((Hp.mk n n o).add x) k = k [(n, x)] (n + 1) := aGA _ rfl n o x k
theorem vT {F : List Value → Hp → aW} {args : List Value} {h h' : Hp} {v : Value} (w : Wf h) (e : F args (iG h) = some (v, h')) (g : bI (iG h) h') : ∃ h2, dV F args h = some (v, h2) ∧ bI h h2 ∧ (kL v = false → h2.aG = h'.aG) := by
 unfold dV
 rw [e, aH, aJ]
 by_cases hp : kL v = true
 ·exact ⟨h, by rw [if_pos hp], bI.refl w, fun c => by rw [hp] at c; cases c⟩
 ·refine ⟨⟨h'.next, h.ro, h'.aG⟩, by rw [if_neg hp], ⟨⟨?_, g.wf.2⟩, g.sub, g.next, rfl⟩, fun _ => rfl⟩
  have := g.next
  have := w.1
  show h.ro ≤ h'.next
  have : h.next ≤ h'.next := g.next
  omega
theorem oI {z : Nat} {hb h : Hp} (w : Wf hb) (g : bI hb h) {b : Nat} (hle : hb.next ≤ b) {c l : List Value} {e : TypeId} {s : Option Nat} (hg : h.get b = some (.cells c e s)) (hc : c.length = z) (hl : l.length = z) (hx : l.all oneCell = true) :
  ∃ h', bI hb h' ∧ At h' (.pointer (some ⟨b, 0, none⟩)) l ∧ (∀ (ρ : Type) (k : Hp → Option ρ), fG z h (.pointer (some ⟨b, 0, none⟩)) (.agg (Array.mk l)) k = k h') ∧ (∀ i o, i ≠ b → h.get i = some o → h'.get i = some o) := by
 have hlt := g.wf.2 b _ hg
 refine ⟨h.upd b (.cells l e s), bI.upd w g hle hlt _, ⟨b, 0, l, e, s, rfl, by rw [iY, if_pos rfl], by simp, fun k x hx => by simpa using hx⟩, fun ρ k => ?_, fun i o hi ho => by rw [iY, if_neg hi]; exact ho⟩
 rw [JI (n := z) (c := c) hg (by rw [g.ro]; have := w.1; omega) hl hx (by omega), List.drop_of_length_le (by omega)]
 simp
def oV (a b : Nat) : Value := .agg (Array.mk [.int .i64 (a : Int), .int .i64 (b : Int)])
theorem aYP : ((env.ty.get 76).bind fun i => i.eqs) = some [.i64, .i64] := by kernel_rfl
theorem aO8 : gJ env 69 = some (.map 76 22) := by kernel_rfl
theorem aYQ (e : Bool) (a b : Nat) : pM env.P (Instr.checkKey e 10000 76 (oV a b)) = some () := by unfold oV; kernel_rfl
theorem aXS (a b : Nat) : j4 env 76 (List.toArray [(0, .int .i64 (a : Int)), (1, .int .i64 (b : Int))]) = some (oV a b) := by unfold oV; kernel_rfl
theorem aYR (a b : Nat) : plain (oV a b) = true := rfl
theorem XP (a b c d : Nat) : nP [.i64, .i64] [.int .i64 (a : Int), .int .i64 (b : Int)] [.int .i64 (c : Int), .int .i64 (d : Int)] = some (decide (a = c ∧ b = d)) := by
 show some (aBE (a : Int) (c : Int) && (aBE (b : Int) (d : Int) && true)) = _
 rw [MR, MR]
 congr 1
 rw [Bool.eq_iff_iff]
 simp
 omega
theorem NS {a b : Nat} : ∀ (es : List (Value × Value)) (i : Nat), (∀ e ∈ es, ∃ c d v, e = (oV c d, v) ∧ ¬ (a = c ∧ b = d)) → vC [.i64, .i64] [.int .i64 (a : Int), .int .i64 (b : Int)] es i = some none
 | [], i, _ => rfl
 | e :: es, i, hh => by
  obtain ⟨c, d, v, rfl, hn⟩ := hh e (.head _)
  unfold vC
  show (match nP [.i64, .i64] [.int .i64 (a : Int), .int .i64 (b : Int)] [.int .i64 (c : Int), .int .i64 (d : Int)] with | some true => some (some i) | some false => vC [.i64, .i64] [.int .i64 (a : Int), .int .i64 (b : Int)] es (Nat.succ i) | none => none) = _
  rw [XP, decide_eq_false hn]
  exact NS es (i + 1) fun x hx => hh x (.tail _ hx)
theorem NT {a b : Nat} : ∀ (es : List (Value × Value)) (i : Nat), (∀ e ∈ es, ∃ c d v, e = (oV c d, v)) → (∃ v, (oV a b, v) ∈ es) → ∃ j v, vC [.i64, .i64] [.int .i64 (a : Int), .int .i64 (b : Int)] es i = some (some (i + j)) ∧ es[j]? = some (oV a b, v)
 | [], i, _, ⟨v, hv⟩ => by cases hv
 | e :: es, i, hh, ⟨v, hv⟩ => by
  obtain ⟨c, d, u, rfl⟩ := hh e (.head _)
  unfold vC
  have step : (match oV c d with | .agg ys => (match nP [.i64, .i64] [.int .i64 (a : Int), .int .i64 (b : Int)] ys.toList with | some true => some (some i) | some false => vC [.i64, .i64] [.int .i64 (a : Int), .int .i64 (b : Int)] es (Nat.succ i) | none => none) | _ => none) = if a = c ∧ b = d then some (some i) else vC [.i64, .i64] [.int .i64 (a : Int), .int .i64 (b : Int)] es (Nat.succ i) := by
   show (match nP [.i64, .i64] [.int .i64 (a : Int), .int .i64 (b : Int)] [.int .i64 (c : Int), .int .i64 (d : Int)] with | some true => some (some i) | some false => vC [.i64, .i64] [.int .i64 (a : Int), .int .i64 (b : Int)] es (Nat.succ i) | none => none) = _
   rw [XP]
   by_cases q : a = c ∧ b = d
   ·rw [decide_eq_true q, if_pos q]
   ·rw [decide_eq_false q, if_neg q]
  by_cases q : a = c ∧ b = d
  ·refine ⟨0, u, step.trans (by rw [if_pos q]; rfl), ?_⟩
   obtain ⟨rfl, rfl⟩ := q
   rfl
  ·have hv' : ∃ v, (oV a b, v) ∈ es := by
    rcases List.mem_cons.1 hv with e1 | e1
    ·exfalso
     have := congrArg Prod.fst e1
     simp [oV] at this
     exact q ⟨by omega, by omega⟩
    ·exact ⟨v, e1⟩
   obtain ⟨j, w, h1, h2⟩ := NT es (i + 1) (fun x hx => hh x (.tail _ hx)) hv'
   exact ⟨j + 1, w, step.trans (by rw [if_neg q]; rw [show i + (j + 1) = i + 1 + j by omega]; exact h1), h2⟩
theorem QR {a b : Nat} {es : List (Value × Value)} {r : Option Nat} (e : vC [.i64, .i64] [.int .i64 (a : Int), .int .i64 (b : Int)] es 0 = some r) : LA env 76 (oV a b) es = some r := by
 unfold LA RI oV
 simp only
 rw [aYP]
 simp only [Option.bind_some]
 rw [e]
theorem aNK {h : Hp} {mb : Nat} {es : List (Value × Value)} (hm : h.get mb = some (.map es)) (hro : h.ro ≤ mb) {a b : Nat} (hn : ∀ e ∈ es, ∃ c d v, e = (oV c d, v) ∧ ¬ (a = c ∧ b = d)) (v : Value) :
  mH env h 69 (.map (some mb)) (oV a b) v = some (h.upd mb (.map (es ++ [(oV a b, v)]))) := by
 unfold mH
 rw [aYR, aO8]
 simp only [ok?, Option.bind_some]
 rw [show Nat.ble h.ro mb = true from by rw [Nat.ble_eq]; exact hro]
 simp only [hm, aYQ, Option.bind_some, QR (NS es 0 hn)]
theorem aNL {h : Hp} {mb : Nat} {es : List (Value × Value)} (hm : h.get mb = some (.map es)) {a b : Nat} (hk : ∀ e ∈ es, ∃ c d v, e = (oV c d, v)) (hv : ∃ v, (oV a b, v) ∈ es) :
  ∃ v, kE env h 69 (.map (some mb)) (oV a b) false = some v ∧ (oV a b, v) ∈ es := by
 obtain ⟨j, v, h1, h2⟩ := NT es 0 hk hv
 rw [Nat.zero_add] at h1
 refine ⟨v, ?_, List.mem_of_getElem? h2⟩
 unfold kE
 rw [aYR, aO8]
 simp only [ok?, Option.bind_some, mapOf, hm, aYQ, QR h1, h2, Option.map_some]
end Go.Proofs.Ytepepiajmdpiiaa.K.L
