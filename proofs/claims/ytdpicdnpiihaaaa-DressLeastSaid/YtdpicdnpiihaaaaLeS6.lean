/- Contracts of told functions: lists of numbers that grow; maps whose keys are two numbers. -/
import Derived.Test.YtdpicdnpiihaaaaLeS5
open Go Go.bK
set_option maxRecDepth 100000
set_option linter.unusedVariables false
namespace Go.Proofs.Ytdpicdnpiihaaaa.K.L
theorem QI : (lC env 3).map (fun z => Nat.beq z.cells.size 1) = some true := by kernel_rfl
theorem FZ : (env.ty.get 3).map (fun ti => ti.info.bytes) = some 8 := by kernel_rfl
def oL (hb h : Hp) (v : Value) (ns : List Int) : Prop := (v = .slice none 0 0 ∧ ns = []) ∨ ∃ b, v = .slice (some ⟨b, 0, none⟩) ns.length ns.length ∧ hb.next ≤ b ∧ h.get b = some (.cells (ns.map (Value.int .i64)) 3 (some 1))
theorem oL.rows {hb h : Hp} {v : Value} {ns : List Int} (a : oL hb h v ns) : bK.Rows h 1 v (ns.map bB) := by
 rcases a with ⟨rfl, rfl⟩ | ⟨b, rfl, _, h2⟩
 ·exact .inl ⟨0, rfl, rfl⟩
 ·refine .inr ⟨b, 0, ns.length, _, 3, some 1, by rw [List.length_map], fun _ => h2, fun i r hi => ?_⟩
  rw [List.getElem?_map] at hi
  cases hx : ns[i]? with
  | none => rw [hx] at hi; cases hi
  | some x =>
   rw [hx] at hi
   cases hi
   have := (List.getElem?_eq_some_iff.1 hx).1
   refine ⟨rfl, by simp; omega, fun k y hy => ?_⟩
   cases k with
   | zero =>
    have hy : Value.int .i64 x = y := by simpa [bB] using hy
    subst hy
    rw [Nat.zero_add, Nat.mul_one, Nat.add_zero, List.getElem?_map, hx]; rfl
   | succ k => simp [bB] at hy
theorem qX {hb h : Hp} (w : Wf hb) (g : aR hb h) {v : Value} {ns : List Int} (a : oL hb h v ns) (hlen : ns.length ≤ 100) (s : Int) :
  ∃ v' h', dW env (h.add (.cells [.int .i64 s] 3 none)) #[22, 22] (List.toArray [v, .slice (some ⟨h.next, 0, none⟩) 1 1]) = some (v', h') ∧ aR hb h' ∧ oL hb h' v' (ns ++ [s]) := by
 have g1 : aR hb (h.add (.cells [.int .i64 s] 3 none)) := g.trans (aR.add g.wf _)
 have hx : (h.add (.cells [.int .i64 s] 3 none)).get h.next = some (.cells [.int .i64 s] 3 none) := by rw [bM, if_pos rfl]
 obtain ⟨ti, hti⟩ : ∃ ti, env.ty.get 3 = some ti := by
  cases e : env.ty.get 3 with
  | none => have := FZ; rw [e] at this; cases this
  | some ti => exact ⟨ti, rfl⟩
 have hb3 : ti.info.bytes = 8 := by have := FZ; rw [hti] at this; simpa using this
 obtain ⟨z, hz⟩ : ∃ z, lC env 3 = some z := by
  cases e : lC env 3 with
  | none => have := QI; rw [e] at this; cases this
  | some z => exact ⟨z, rfl⟩
 have hzs : Nat.beq z.cells.size 1 = true := by have := QI; rw [hz] at this; simpa using this
 have hsrc : rH (h.add (.cells [.int .i64 s] 3 none)) 1 1 (.slice (some ⟨h.next, 0, none⟩) 1 1) = some [.int .i64 s] := by
  show eO _ ⟨h.next, 0, none⟩ (1 * 1) = _
  exact kZ hx rfl
 unfold dW
 rw [show (#[22, 22] : Array TypeId)[0]? = some 22 from rfl, show (#[22, 22] : Array TypeId)[1]? = some 22 from rfl, show (List.toArray [v, .slice (some ⟨h.next, 0, none⟩) 1 1])[0]? = some v from rfl, show (List.toArray [v, .slice (some ⟨h.next, 0, none⟩) 1 1])[1]? = some (.slice (some ⟨h.next, 0, none⟩) 1 1) from rfl]
 simp only [Option.bind_some, CF, zO, hti, hz, zQ, hb3]
 rw [show (Nat.blt 0 1 && Nat.blt 0 8 && Nat.ble 8 65536 && Nat.beq z.cells.size 1) = true from by rw [hzs]; rfl]
 simp only [ok?]
 rcases a with ⟨rfl, rfl⟩ | ⟨b, rfl, hle, hg⟩
 ·refine ⟨.slice (some ⟨h.next + 1, 0, none⟩) 1 1, (h.add (.cells [.int .i64 s] 3 none)).add (.cells [.int .i64 s] 3 (some 1)), ?_, g1.trans (aR.add g1.wf _), .inr ⟨h.next + 1, rfl, by have := g.next; omega, by rw [bM, if_pos (show h.next + 1 = (h.add (.cells [.int .i64 s] 3 none)).next from rfl)]; rfl⟩⟩
  simp only [hsrc, Option.bind_some]
  rfl
 ·have hlt : b < h.next := g.wf.2 b _ hg
  have hg1 : (h.add (.cells [.int .i64 s] 3 none)).get b = some (.cells (ns.map (Value.int .i64)) 3 (some 1)) := by rw [bM, if_neg (by omega)]; exact hg
  have hre : kI (h.add (.cells [.int .i64 s] 3 none)) b = some (some 1) := by unfold kI; rw [hg1]
  have hold : eO (h.add (.cells [.int .i64 s] 3 none)) ⟨b, 0, none⟩ (ns.length * 1) = some (ns.map (Value.int .i64)) := kZ hg1 (by simp)
  have hro : Nat.ble (h.add (.cells [.int .i64 s] 3 none)).ro b = true := by
   rw [Nat.ble_eq, yY, g.ro]
   have := w.1
   omega
  have gd := aR.del w g1 hle
  refine ⟨.slice (some ⟨h.next + 1, 0, none⟩) (ns.length + 1) (ns.length + 1), ((h.add (.cells [.int .i64 s] 3 none)).del b).add (.cells (ns.map (Value.int .i64) ++ [.int .i64 s]) 3 (some 1)), ?_, gd.trans (aR.add gd.wf _), .inr ⟨h.next + 1, by simp, by have := g.next; omega, ?_⟩⟩
  ·simp only [hre, Option.bind_some, hg1, hold, hsrc, hro, Nat.beq_refl]
   rw [show Nat.ble ((ns.length + 1) * 8) 1099511627776 = true from by rw [Nat.ble_eq]; omega]
   rfl
  ·rw [bM, if_pos (show h.next + 1 = ((h.add (.cells [.int .i64 s] 3 none)).del b).next from rfl)]; simp
theorem oL.sl {hb h : Hp} {v : Value} {ns : List Int} (a : oL hb h v ns) : jC h 1 v (ns.map bB) := by
 rcases a with ⟨rfl, rfl⟩ | ⟨b, rfl, _, h2⟩
 ·exact .inl ⟨rfl, rfl⟩
 ·refine .inr ⟨b, _, 3, some 1, by rw [List.length_map], h2, .inl rfl, fun i r hi => ?_⟩
  rw [List.getElem?_map] at hi
  cases hx : ns[i]? with
  | none => rw [hx] at hi; cases hi
  | some x =>
   rw [hx] at hi
   cases hi
   have := (List.getElem?_eq_some_iff.1 hx).1
   refine ⟨rfl, by simp; omega, fun k y hy => ?_⟩
   cases k with
   | zero =>
    have hy : Value.int .i64 x = y := by simpa [bB] using hy
    subst hy
    rw [Nat.mul_one, Nat.add_zero, List.getElem?_map, hx]; rfl
   | succ k => simp [bB] at hy
theorem wR (h : Hp) : ∀ (n a : Nat) (t : T cK) (i : Nat), (aV (fT h a n) t).get i = if a ≤ i ∧ i < a + n then (match h.get i with | some o => some o | none => t.get i) else t.get i
 | 0, a, t, i => by
  rw [if_neg (by omega)]; rfl
 | n + 1, a, t, i => by
  unfold fT
  cases hg : h.get a with
  | some o =>
   show (aV (fT h (a + 1) n) (t.put a (some o))).get i = _
   rw [wR h n (a + 1), T.get_put]
   by_cases ha : i = a
   ·subst ha
    rw [if_neg (by omega), if_pos rfl, if_pos (by omega), hg]
   ·rw [if_neg ha]
    by_cases hi : a + 1 ≤ i ∧ i < a + 1 + n
    ·rw [if_pos hi, if_pos (by omega)]
    ·rw [if_neg hi, if_neg (by omega)]
  | none =>
   show (aV (fT h (a + 1) n) t).get i = _
   rw [wR h n (a + 1)]
   by_cases ha : i = a
   ·subst ha
    rw [if_neg (by omega), if_pos (by omega), hg]
   ·by_cases hi : a + 1 ≤ i ∧ i < a + 1 + n
    ·rw [if_pos hi, if_pos (by omega)]
    ·rw [if_neg hi, if_neg (by omega)]
theorem laid {h h2 : Hp} (w : Wf h) (w2 : Wf h2) (hn : h.next ≤ h2.next) : aR h (Hp.mk h2.next h.ro (aV (fT h2 h.next (Nat.sub h2.next h.next)) h.aF)) ∧
  (∀ i o, h.next ≤ i → h2.get i = some o → (Hp.mk h2.next h.ro (aV (fT h2 h.next (Nat.sub h2.next h.next)) h.aF)).get i = some o) := by
 have hw := w.1
 have key : ∀ i, (Hp.mk h2.next h.ro (aV (fT h2 h.next (Nat.sub h2.next h.next)) h.aF)).get i = if h.next ≤ i ∧ i < h2.next then (match h2.get i with | some o => some o | none => h.get i) else h.get i := by
  intro i
  show (aV (fT h2 h.next (h2.next - h.next)) h.aF).get i = _
  rw [wR, show h.next + (h2.next - h.next) = h2.next by omega]
  rfl
 refine ⟨⟨⟨by show h.ro ≤ h2.next; omega, fun i o hi => ?_⟩, fun i o hi => ?_, hn, rfl⟩, fun i o hi hg => ?_⟩
 ·show i < h2.next
  rw [key] at hi
  by_cases c : h.next ≤ i ∧ i < h2.next
  ·exact c.2
  ·rw [if_neg c] at hi
   have := w.2 i o hi; omega
 ·have := w.2 i o hi
  rw [key, if_neg (by omega)]; exact hi
 ·have := w2.2 i o hg
  rw [key, if_pos ⟨hi, this⟩, hg]
theorem lY (v : Value) (n : Nat) (o : T cK) (k : List (Nat × cK) → Nat → aJ) : jA v n (Hp.mk n n o) k = k [] n := by
 unfold jA
 rw [aC]
 by_cases hp : kT v = true
 ·rw [if_pos hp]
 ·rw [if_neg hp, show Nat.ble n (Hp.mk n n o).next = true from by rw [Nat.ble_eq]; exact Nat.le_refl _, aC, if_pos rfl, show Nat.sub (Hp.mk n n o).next n = 0 from Nat.sub_self n]
  rfl
theorem UB (n : Nat) (o : T cK) (x : cK) (k : List (Nat × cK) → Nat → aJ) : jA (.pointer (some ⟨n, 0, none⟩)) n ((Hp.mk n n o).add x) k = k [(n, x)] (n + 1) := by
 unfold jA
 rw [show kT (.pointer (some ⟨n, 0, none⟩)) = false from rfl, aC, if_neg (by simp), show ((Hp.mk n n o).add x).next = n + 1 from rfl, show Nat.ble n (n + 1) = true from by rw [Nat.ble_eq]; omega, aC, if_pos rfl, show Nat.sub (n + 1) n = 1 from by show n + 1 - n = 1; omega]
 have hg : ((Hp.mk n n o).add x).get n = some x := by rw [bM, if_pos rfl]
 show k (match ((Hp.mk n n o).add x).get n with | some o' => (n, o') :: [] | none => []) (n + 1) = _
 rw [hg]
theorem kept {h : Hp} (w : Wf h) {F : List Value → Hp → aJ} {args : List Value} {h1 : Hp} {l : List Value} (e : F args (bY h) = some (.agg (Array.mk l), h1)) (hp : kT (.agg (Array.mk l)) = false) (g : aR (bY h) h1) :
  ∃ H W, aR h H ∧ (∀ i o, h.next ≤ i → h1.get i = some o → H.get i = some o) ∧ aV W h.aF = H.aF ∧
  ∀ k : Value → List (Nat × cK) → Nat → aJ, (aQ (dJ F args (Hp.mk h.next h.next h.aF)) fun v h12 => jA v h.next h12 fun w n => k v w n) = k (.agg (Array.mk l)) W H.next := by
 have hn : h.next ≤ h1.next := g.next
 obtain ⟨lg, ls⟩ := laid w g.wf hn
 refine ⟨_, fT h1 h.next (Nat.sub h1.next h.next), lg, ls, rfl, fun k => ?_⟩
 unfold dJ
 rw [show (⟨(Hp.mk h.next h.next h.aF).next, (Hp.mk h.next h.next h.aF).next, (Hp.mk h.next h.next h.aF).aF⟩ : Hp) = bY h from rfl, e, aB, hp]
 show (jA (.agg (Array.mk l)) h.next (Hp.mk h1.next h.next h1.aF) fun w n => k (.agg (Array.mk l)) w n) = _
 unfold jA
 rw [hp]
 show dA (Nat.ble h.next h1.next) _ none = _
 rw [show Nat.ble h.next h1.next = true from by rw [Nat.ble_eq]; exact hn]
 have bl : ∀ n a, fT (Hp.mk h1.next h.next h1.aF) a n = fT h1 a n := by
  intro n
  induction n with
  | zero => intro a; rfl
  | succ n ih => intro a; unfold fT; rw [show (Hp.mk h1.next h.next h1.aF).get a = h1.get a from rfl, ih]
 show k _ (fT (Hp.mk h1.next h.next h1.aF) h.next (Nat.sub h1.next h.next)) h1.next = _
 rw [bl]
theorem aHO (v : Value) (hv : kT v = false) (n : Nat) (o : T cK) (x : cK) (k : List (Nat × cK) → Nat → aJ) : jA v n ((Hp.mk n n o).add x) k = k [(n, x)] (n + 1) := by
 unfold jA
 rw [hv, aC, if_neg (by simp), show ((Hp.mk n n o).add x).next = n + 1 from rfl, show Nat.ble n (n + 1) = true from by rw [Nat.ble_eq]; omega, aC, if_pos rfl, show Nat.sub (n + 1) n = 1 from by show n + 1 - n = 1; omega]
 have hg : ((Hp.mk n n o).add x).get n = some x := by rw [bM, if_pos rfl]
 show k (match ((Hp.mk n n o).add x).get n with | some o' => (n, o') :: [] | none => []) (n + 1) = _
 rw [hg]
theorem QK (n m : Nat) (o : T cK) (x : cK) (k : List (Nat × cK) → Nat → aJ) : jA (.slice (some ⟨n, 0, none⟩) m m) n ((Hp.mk n n o).add x) k = k [(n, x)] (n + 1) := aHO _ rfl n o x k
theorem qY {F : List Value → Hp → aJ} {args : List Value} {h h' : Hp} {v : Value} (w : Wf h) (e : F args (bY h) = some (v, h')) (g : aR (bY h) h') : ∃ h2, dJ F args h = some (v, h2) ∧ aR h h2 ∧ (kT v = false → h2.aF = h'.aF) := by
 unfold dJ
 rw [e, aB, aC]
 by_cases hp : kT v = true
 ·exact ⟨h, by rw [if_pos hp], aR.refl w, fun c => by rw [hp] at c; cases c⟩
 ·refine ⟨⟨h'.next, h.ro, h'.aF⟩, by rw [if_neg hp], ⟨⟨?_, g.wf.2⟩, g.sub, g.next, rfl⟩, fun _ => rfl⟩
  have := g.next
  have := w.1
  show h.ro ≤ h'.next
  have : h.next ≤ h'.next := g.next
  omega
theorem pW {z : Nat} {hb h : Hp} (w : Wf hb) (g : aR hb h) {b : Nat} (hle : hb.next ≤ b) {c l : List Value} {e : TypeId} {s : Option Nat} (hg : h.get b = some (.cells c e s)) (hc : c.length = z) (hl : l.length = z) (hx : l.all oneCell = true) :
  ∃ h', aR hb h' ∧ At h' (.pointer (some ⟨b, 0, none⟩)) l ∧ (∀ (ρ : Type) (k : Hp → Option ρ), fA z h (.pointer (some ⟨b, 0, none⟩)) (.agg (Array.mk l)) k = k h') ∧ (∀ i o, i ≠ b → h.get i = some o → h'.get i = some o) := by
 have hlt := g.wf.2 b _ hg
 refine ⟨h.upd b (.cells l e s), aR.upd w g hle hlt _, ⟨b, 0, l, e, s, rfl, by rw [dH, if_pos rfl], by simp, fun k x hx => by simpa using hx⟩, fun ρ k => ?_, fun i o hi ho => by rw [dH, if_neg hi]; exact ho⟩
 rw [BN (n := z) (c := c) hg (by rw [g.ro]; have := w.1; omega) hl hx (by omega), List.drop_of_length_le (by omega)]
 simp
def qB (a b : Nat) : Value := .agg (Array.mk [.int .i64 (a : Int), .int .i64 (b : Int)])
theorem a6P : ((env.ty.get 76).bind fun i => i.eqs) = some [.i64, .i64] := by kernel_rfl
theorem aUQ : gK env 69 = some (.map 76 22) := by kernel_rfl
theorem a6Q (e : Bool) (a b : Nat) : pI env.P (Instr.checkKey e 10000 76 (qB a b)) = some () := by unfold qB; kernel_rfl
theorem aXG (a b : Nat) : jK env 76 (List.toArray [(0, .int .i64 (a : Int)), (1, .int .i64 (b : Int))]) = some (qB a b) := by unfold qB; kernel_rfl
theorem a6R (a b : Nat) : plain (qB a b) = true := rfl
theorem aAH (a b c d : Nat) : oO [.i64, .i64] [.int .i64 (a : Int), .int .i64 (b : Int)] [.int .i64 (c : Int), .int .i64 (d : Int)] = some (decide (a = c ∧ b = d)) := by
 show some (aDM (a : Int) (c : Int) && (aDM (b : Int) (d : Int) && true)) = _
 rw [OQ, OQ]
 congr 1
 rw [Bool.eq_iff_iff]
 simp
 omega
theorem QW {a b : Nat} : ∀ (es : List (Value × Value)) (i : Nat), (∀ e ∈ es, ∃ c d v, e = (qB c d, v) ∧ ¬ (a = c ∧ b = d)) → xB [.i64, .i64] [.int .i64 (a : Int), .int .i64 (b : Int)] es i = some none
 | [], i, _ => rfl
 | e :: es, i, hh => by
  obtain ⟨c, d, v, rfl, hn⟩ := hh e (.head _)
  unfold xB
  show (match oO [.i64, .i64] [.int .i64 (a : Int), .int .i64 (b : Int)] [.int .i64 (c : Int), .int .i64 (d : Int)] with | some true => some (some i) | some false => xB [.i64, .i64] [.int .i64 (a : Int), .int .i64 (b : Int)] es (Nat.succ i) | none => none) = _
  rw [aAH, decide_eq_false hn]
  exact QW es (i + 1) fun x hx => hh x (.tail _ hx)
theorem QX {a b : Nat} : ∀ (es : List (Value × Value)) (i : Nat), (∀ e ∈ es, ∃ c d v, e = (qB c d, v)) → (∃ v, (qB a b, v) ∈ es) → ∃ j v, xB [.i64, .i64] [.int .i64 (a : Int), .int .i64 (b : Int)] es i = some (some (i + j)) ∧ es[j]? = some (qB a b, v)
 | [], i, _, ⟨v, hv⟩ => by cases hv
 | e :: es, i, hh, ⟨v, hv⟩ => by
  obtain ⟨c, d, u, rfl⟩ := hh e (.head _)
  unfold xB
  have step : (match qB c d with | .agg ys => (match oO [.i64, .i64] [.int .i64 (a : Int), .int .i64 (b : Int)] ys.toList with | some true => some (some i) | some false => xB [.i64, .i64] [.int .i64 (a : Int), .int .i64 (b : Int)] es (Nat.succ i) | none => none) | _ => none) = if a = c ∧ b = d then some (some i) else xB [.i64, .i64] [.int .i64 (a : Int), .int .i64 (b : Int)] es (Nat.succ i) := by
   show (match oO [.i64, .i64] [.int .i64 (a : Int), .int .i64 (b : Int)] [.int .i64 (c : Int), .int .i64 (d : Int)] with | some true => some (some i) | some false => xB [.i64, .i64] [.int .i64 (a : Int), .int .i64 (b : Int)] es (Nat.succ i) | none => none) = _
   rw [aAH]
   by_cases q : a = c ∧ b = d
   ·rw [decide_eq_true q, if_pos q]
   ·rw [decide_eq_false q, if_neg q]
  by_cases q : a = c ∧ b = d
  ·refine ⟨0, u, step.trans (by rw [if_pos q]; rfl), ?_⟩
   obtain ⟨rfl, rfl⟩ := q
   rfl
  ·have hv' : ∃ v, (qB a b, v) ∈ es := by
    rcases List.mem_cons.1 hv with e1 | e1
    ·exfalso
     have := congrArg Prod.fst e1
     simp [qB] at this
     exact q ⟨by omega, by omega⟩
    ·exact ⟨v, e1⟩
   obtain ⟨j, w, h1, h2⟩ := QX es (i + 1) (fun x hx => hh x (.tail _ hx)) hv'
   exact ⟨j + 1, w, step.trans (by rw [if_neg q]; rw [show i + (j + 1) = i + 1 + j by omega]; exact h1), h2⟩
theorem UR {a b : Nat} {es : List (Value × Value)} {r : Option Nat} (e : xB [.i64, .i64] [.int .i64 (a : Int), .int .i64 (b : Int)] es 0 = some r) : NG env 76 (qB a b) es = some r := by
 unfold NG U3 qB
 simp only
 rw [a6P]
 simp only [Option.bind_some]
 rw [e]
theorem aSU {h : Hp} {mb : Nat} {es : List (Value × Value)} (hm : h.get mb = some (.map es)) (hro : h.ro ≤ mb) {a b : Nat} (hn : ∀ e ∈ es, ∃ c d v, e = (qB c d, v) ∧ ¬ (a = c ∧ b = d)) (v : Value) :
  mX env h 69 (.map (some mb)) (qB a b) v = some (h.upd mb (.map (es ++ [(qB a b, v)]))) := by
 unfold mX
 rw [a6R, aUQ]
 simp only [ok?, Option.bind_some]
 rw [show Nat.ble h.ro mb = true from by rw [Nat.ble_eq]; exact hro]
 simp only [hm, a6Q, Option.bind_some, UR (QW es 0 hn)]
theorem aSV {h : Hp} {mb : Nat} {es : List (Value × Value)} (hm : h.get mb = some (.map es)) {a b : Nat} (hk : ∀ e ∈ es, ∃ c d v, e = (qB c d, v)) (hv : ∃ v, (qB a b, v) ∈ es) :
  ∃ v, kM env h 69 (.map (some mb)) (qB a b) false = some v ∧ (qB a b, v) ∈ es := by
 obtain ⟨j, v, h1, h2⟩ := QX es 0 hk hv
 rw [Nat.zero_add] at h1
 refine ⟨v, ?_, List.mem_of_getElem? h2⟩
 unfold kM
 rw [a6R, aUQ]
 simp only [ok?, Option.bind_some, mapOf, hm, a6Q, UR h1, h2, Option.map_some]
end Go.Proofs.Ytdpicdnpiihaaaa.K.L
