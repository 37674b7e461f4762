/- Contracts of told functions: lists of numbers that grow; maps whose keys are two numbers. -/
import Derived.Test.YtdpicdnpiihaaaaAsS5
open Go Go.bG
set_option maxRecDepth 100000
set_option linter.unusedVariables false
namespace Go.Proofs.Ytdpicdnpiihaaaa.K.L
theorem aSJ : (mJ env 3).map (fun z => Nat.beq z.cells.size 1) = some true := by kernel_rfl
theorem aNA : (env.ty.get 3).map (fun ti => ti.info.bytes) = some 8 := by kernel_rfl
def uO (hb h : Hp) (v : Value) (ns : List Int) : Prop := (v = .slice none 0 0 ∧ ns = []) ∨ ∃ b, v = .slice (some ⟨b, 0, none⟩) ns.length ns.length ∧ hb.next ≤ b ∧ h.get b = some (.cells (ns.map (Value.int .i64)) 3 (some 1))
theorem uO.rows {hb h : Hp} {v : Value} {ns : List Int} (a : uO hb h v ns) : bG.Rows h 1 v (ns.map dD) := by
 rcases a with ⟨rfl, rfl⟩ | ⟨b, rfl, _, h2⟩
 ·exact .inl ⟨0, rfl, rfl⟩
 ·refine .inr ⟨b, 0, ns.length, _, 3, some 1, by rw [List.length_map], fun _ => h2, fun i r hi => ?_⟩
  rw [List.getElem?_map] at hi
  cases hx : ns[i]? with
  | none => rw [hx] at hi; cases hi
  | some x =>
   rw [hx] at hi
   cases hi
   have := (List.getElem?_eq_some_iff.1 hx).1
   refine ⟨rfl, by simp; omega, fun k y hy => ?_⟩
   cases k with
   | zero =>
    have hy : Value.int .i64 x = y := by simpa [dD] using hy
    subst hy
    rw [Nat.zero_add, Nat.mul_one, Nat.add_zero, List.getElem?_map, hx]; rfl
   | succ k => simp [dD] at hy
theorem JL {hb h : Hp} (w : Wf hb) (g : aS hb h) {v : Value} {ns : List Int} (a : uO hb h v ns) (hlen : ns.length ≤ 100) (s : Int) :
  ∃ v' h', fH env (h.add (.cells [.int .i64 s] 3 none)) #[22, 22] (List.toArray [v, .slice (some ⟨h.next, 0, none⟩) 1 1]) = some (v', h') ∧ aS hb h' ∧ uO hb h' v' (ns ++ [s]) := by
 have g1 : aS hb (h.add (.cells [.int .i64 s] 3 none)) := g.trans (aS.add g.wf _)
 have hx : (h.add (.cells [.int .i64 s] 3 none)).get h.next = some (.cells [.int .i64 s] 3 none) := by rw [bO, if_pos rfl]
 obtain ⟨ti, hti⟩ : ∃ ti, env.ty.get 3 = some ti := by
  cases e : env.ty.get 3 with
  | none => have := aNA; rw [e] at this; cases this
  | some ti => exact ⟨ti, rfl⟩
 have hb3 : ti.info.bytes = 8 := by have := aNA; rw [hti] at this; simpa using this
 obtain ⟨z, hz⟩ : ∃ z, mJ env 3 = some z := by
  cases e : mJ env 3 with
  | none => have := aSJ; rw [e] at this; cases this
  | some z => exact ⟨z, rfl⟩
 have hzs : Nat.beq z.cells.size 1 = true := by have := aSJ; rw [hz] at this; simpa using this
 have hsrc : rT (h.add (.cells [.int .i64 s] 3 none)) 1 1 (.slice (some ⟨h.next, 0, none⟩) 1 1) = some [.int .i64 s] := by
  show fO _ ⟨h.next, 0, none⟩ (1 * 1) = _
  exact oV hx rfl
 unfold fH
 rw [show (#[22, 22] : Array TypeId)[0]? = some 22 from rfl, show (#[22, 22] : Array TypeId)[1]? = some 22 from rfl, show (List.toArray [v, .slice (some ⟨h.next, 0, none⟩) 1 1])[0]? = some v from rfl, show (List.toArray [v, .slice (some ⟨h.next, 0, none⟩) 1 1])[1]? = some (.slice (some ⟨h.next, 0, none⟩) 1 1) from rfl]
 simp only [Option.bind_some, aDW, YM, hti, hz, CZ, hb3]
 rw [show (Nat.blt 0 1 && Nat.blt 0 8 && Nat.ble 8 65536 && Nat.beq z.cells.size 1) = true from by rw [hzs]; rfl]
 simp only [ok?]
 rcases a with ⟨rfl, rfl⟩ | ⟨b, rfl, hle, hg⟩
 ·refine ⟨.slice (some ⟨h.next + 1, 0, none⟩) 1 1, (h.add (.cells [.int .i64 s] 3 none)).add (.cells [.int .i64 s] 3 (some 1)), ?_, g1.trans (aS.add g1.wf _), .inr ⟨h.next + 1, rfl, by have := g.next; omega, by rw [bO, if_pos (show h.next + 1 = (h.add (.cells [.int .i64 s] 3 none)).next from rfl)]; rfl⟩⟩
  simp only [hsrc, Option.bind_some]
  rfl
 ·have hlt : b < h.next := g.wf.2 b _ hg
  have hg1 : (h.add (.cells [.int .i64 s] 3 none)).get b = some (.cells (ns.map (Value.int .i64)) 3 (some 1)) := by rw [bO, if_neg (by omega)]; exact hg
  have hre : mF (h.add (.cells [.int .i64 s] 3 none)) b = some (some 1) := by unfold mF; rw [hg1]
  have hold : fO (h.add (.cells [.int .i64 s] 3 none)) ⟨b, 0, none⟩ (ns.length * 1) = some (ns.map (Value.int .i64)) := oV hg1 (by simp)
  have hro : Nat.ble (h.add (.cells [.int .i64 s] 3 none)).ro b = true := by
   rw [Nat.ble_eq, EX, g.ro]
   have := w.1
   omega
  have gd := aS.del w g1 hle
  refine ⟨.slice (some ⟨h.next + 1, 0, none⟩) (ns.length + 1) (ns.length + 1), ((h.add (.cells [.int .i64 s] 3 none)).del b).add (.cells (ns.map (Value.int .i64) ++ [.int .i64 s]) 3 (some 1)), ?_, gd.trans (aS.add gd.wf _), .inr ⟨h.next + 1, by simp, by have := g.next; omega, ?_⟩⟩
  ·simp only [hre, Option.bind_some, hg1, hold, hsrc, hro, Nat.beq_refl]
   rw [show Nat.ble ((ns.length + 1) * 8) 1099511627776 = true from by rw [Nat.ble_eq]; omega]
   rfl
  ·rw [bO, if_pos (show h.next + 1 = ((h.add (.cells [.int .i64 s] 3 none)).del b).next from rfl)]; simp
theorem uO.sl {hb h : Hp} {v : Value} {ns : List Int} (a : uO hb h v ns) : lF h 1 v (ns.map dD) := by
 rcases a with ⟨rfl, rfl⟩ | ⟨b, rfl, _, h2⟩
 ·exact .inl ⟨rfl, rfl⟩
 ·refine .inr ⟨b, _, 3, some 1, by rw [List.length_map], h2, .inl rfl, fun i r hi => ?_⟩
  rw [List.getElem?_map] at hi
  cases hx : ns[i]? with
  | none => rw [hx] at hi; cases hi
  | some x =>
   rw [hx] at hi
   cases hi
   have := (List.getElem?_eq_some_iff.1 hx).1
   refine ⟨rfl, by simp; omega, fun k y hy => ?_⟩
   cases k with
   | zero =>
    have hy : Value.int .i64 x = y := by simpa [dD] using hy
    subst hy
    rw [Nat.mul_one, Nat.add_zero, List.getElem?_map, hx]; rfl
   | succ k => simp [dD] at hy
theorem wC (h : Hp) : ∀ (n a : Nat) (t : T cB) (i : Nat), (aW (fJ h a n) t).get i = if a ≤ i ∧ i < a + n then (match h.get i with | some o => some o | none => t.get i) else t.get i
 | 0, a, t, i => by
  rw [if_neg (by omega)]; rfl
 | n + 1, a, t, i => by
  unfold fJ
  cases hg : h.get a with
  | some o =>
   show (aW (fJ h (a + 1) n) (t.put a (some o))).get i = _
   rw [wC h n (a + 1), T.get_put]
   by_cases ha : i = a
   ·subst ha
    rw [if_neg (by omega), if_pos rfl, if_pos (by omega), hg]
   ·rw [if_neg ha]
    by_cases hi : a + 1 ≤ i ∧ i < a + 1 + n
    ·rw [if_pos hi, if_pos (by omega)]
    ·rw [if_neg hi, if_neg (by omega)]
  | none =>
   show (aW (fJ h (a + 1) n) t).get i = _
   rw [wC h n (a + 1)]
   by_cases ha : i = a
   ·subst ha
    rw [if_neg (by omega), if_pos (by omega), hg]
   ·by_cases hi : a + 1 ≤ i ∧ i < a + 1 + n
    ·rw [if_pos hi, if_pos (by omega)]
    ·rw [if_neg hi, if_neg (by omega)]
theorem laid {h h2 : Hp} (w : Wf h) (w2 : Wf h2) (hn : h.next ≤ h2.next) : aS h (Hp.mk h2.next h.ro (aW (fJ h2 h.next (Nat.sub h2.next h.next)) h.aD)) ∧
  (∀ i o, h.next ≤ i → h2.get i = some o → (Hp.mk h2.next h.ro (aW (fJ h2 h.next (Nat.sub h2.next h.next)) h.aD)).get i = some o) := by
 have hw := w.1
 have key : ∀ i, (Hp.mk h2.next h.ro (aW (fJ h2 h.next (Nat.sub h2.next h.next)) h.aD)).get i = if h.next ≤ i ∧ i < h2.next then (match h2.get i with | some o => some o | none => h.get i) else h.get i := by
  intro i
  show (aW (fJ h2 h.next (h2.next - h.next)) h.aD).get i = _
  rw [wC, show h.next + (h2.next - h.next) = h2.next by omega]
  rfl
 refine ⟨⟨⟨by show h.ro ≤ h2.next; omega, fun i o hi => ?_⟩, fun i o hi => ?_, hn, rfl⟩, fun i o hi hg => ?_⟩
 ·show i < h2.next
  rw [key] at hi
  by_cases c : h.next ≤ i ∧ i < h2.next
  ·exact c.2
  ·rw [if_neg c] at hi
   have := w.2 i o hi; omega
 ·have := w.2 i o hi
  rw [key, if_neg (by omega)]; exact hi
 ·have := w2.2 i o hg
  rw [key, if_pos ⟨hi, this⟩, hg]
theorem mX (v : Value) (n : Nat) (o : T cB) (k : List (Nat × cB) → Nat → aF) : jG v n (Hp.mk n n o) k = k [] n := by
 unfold jG
 rw [aG]
 by_cases hp : kW v = true
 ·rw [if_pos hp]
 ·rw [if_neg hp, show Nat.ble n (Hp.mk n n o).next = true from by rw [Nat.ble_eq]; exact Nat.le_refl _, aG, if_pos rfl, show Nat.sub (Hp.mk n n o).next n = 0 from Nat.sub_self n]
  rfl
theorem SG (n : Nat) (o : T cB) (x : cB) (k : List (Nat × cB) → Nat → aF) : jG (.pointer (some ⟨n, 0, none⟩)) n ((Hp.mk n n o).add x) k = k [(n, x)] (n + 1) := by
 unfold jG
 rw [show kW (.pointer (some ⟨n, 0, none⟩)) = false from rfl, aG, if_neg (by simp), show ((Hp.mk n n o).add x).next = n + 1 from rfl, show Nat.ble n (n + 1) = true from by rw [Nat.ble_eq]; omega, aG, if_pos rfl, show Nat.sub (n + 1) n = 1 from by show n + 1 - n = 1; omega]
 have hg : ((Hp.mk n n o).add x).get n = some x := by rw [bO, if_pos rfl]
 show k (match ((Hp.mk n n o).add x).get n with | some o' => (n, o') :: [] | none => []) (n + 1) = _
 rw [hg]
theorem kept {h : Hp} (w : Wf h) {F : List Value → Hp → aF} {args : List Value} {h1 : Hp} {l : List Value} (e : F args (dI h) = some (.agg (Array.mk l), h1)) (hp : kW (.agg (Array.mk l)) = false) (g : aS (dI h) h1) :
  ∃ H W, aS h H ∧ (∀ i o, h.next ≤ i → h1.get i = some o → H.get i = some o) ∧ aW W h.aD = H.aD ∧
  ∀ k : Value → List (Nat × cB) → Nat → aF, (aO (cZ F args (Hp.mk h.next h.next h.aD)) fun v h12 => jG v h.next h12 fun w n => k v w n) = k (.agg (Array.mk l)) W H.next := by
 have hn : h.next ≤ h1.next := g.next
 obtain ⟨lg, ls⟩ := laid w g.wf hn
 refine ⟨_, fJ h1 h.next (Nat.sub h1.next h.next), lg, ls, rfl, fun k => ?_⟩
 unfold cZ
 rw [show (⟨(Hp.mk h.next h.next h.aD).next, (Hp.mk h.next h.next h.aD).next, (Hp.mk h.next h.next h.aD).aD⟩ : Hp) = dI h from rfl, e, aB, hp]
 show (jG (.agg (Array.mk l)) h.next (Hp.mk h1.next h.next h1.aD) fun w n => k (.agg (Array.mk l)) w n) = _
 unfold jG
 rw [hp]
 show bY (Nat.ble h.next h1.next) _ none = _
 rw [show Nat.ble h.next h1.next = true from by rw [Nat.ble_eq]; exact hn]
 have bl : ∀ n a, fJ (Hp.mk h1.next h.next h1.aD) a n = fJ h1 a n := by
  intro n
  induction n with
  | zero => intro a; rfl
  | succ n ih => intro a; unfold fJ; rw [show (Hp.mk h1.next h.next h1.aD).get a = h1.get a from rfl, ih]
 show k _ (fJ (Hp.mk h1.next h.next h1.aD) h.next (Nat.sub h1.next h.next)) h1.next = _
 rw [bl]
theorem aF3 (v : Value) (hv : kW v = false) (n : Nat) (o : T cB) (x : cB) (k : List (Nat × cB) → Nat → aF) : jG v n ((Hp.mk n n o).add x) k = k [(n, x)] (n + 1) := by
 unfold jG
 rw [hv, aG, if_neg (by simp), show ((Hp.mk n n o).add x).next = n + 1 from rfl, show Nat.ble n (n + 1) = true from by rw [Nat.ble_eq]; omega, aG, if_pos rfl, show Nat.sub (n + 1) n = 1 from by show n + 1 - n = 1; omega]
 have hg : ((Hp.mk n n o).add x).get n = some x := by rw [bO, if_pos rfl]
 show k (match ((Hp.mk n n o).add x).get n with | some o' => (n, o') :: [] | none => []) (n + 1) = _
 rw [hg]
theorem aME (n m : Nat) (o : T cB) (x : cB) (k : List (Nat × cB) → Nat → aF) : jG (.slice (some ⟨n, 0, none⟩) m m) n ((Hp.mk n n o).add x) k = k [(n, x)] (n + 1) := aF3 _ rfl n o x k
theorem qM {F : List Value → Hp → aF} {args : List Value} {h h' : Hp} {v : Value} (w : Wf h) (e : F args (dI h) = some (v, h')) (g : aS (dI h) h') : ∃ h2, cZ F args h = some (v, h2) ∧ aS h h2 ∧ (kW v = false → h2.aD = h'.aD) := by
 unfold cZ
 rw [e, aB, aG]
 by_cases hp : kW v = true
 ·exact ⟨h, by rw [if_pos hp], aS.refl w, fun c => by rw [hp] at c; cases c⟩
 ·refine ⟨⟨h'.next, h.ro, h'.aD⟩, by rw [if_neg hp], ⟨⟨?_, g.wf.2⟩, g.sub, g.next, rfl⟩, fun _ => rfl⟩
  have := g.next
  have := w.1
  show h.ro ≤ h'.next
  have : h.next ≤ h'.next := g.next
  omega
theorem qN {z : Nat} {hb h : Hp} (w : Wf hb) (g : aS hb h) {b : Nat} (hle : hb.next ≤ b) {c l : List Value} {e : TypeId} {s : Option Nat} (hg : h.get b = some (.cells c e s)) (hc : c.length = z) (hl : l.length = z) (hx : l.all oneCell = true) :
  ∃ h', aS hb h' ∧ At h' (.pointer (some ⟨b, 0, none⟩)) l ∧ (∀ (ρ : Type) (k : Hp → Option ρ), dZ z h (.pointer (some ⟨b, 0, none⟩)) (.agg (Array.mk l)) k = k h') ∧ (∀ i o, i ≠ b → h.get i = some o → h'.get i = some o) := by
 have hlt := g.wf.2 b _ hg
 refine ⟨h.upd b (.cells l e s), aS.upd w g hle hlt _, ⟨b, 0, l, e, s, rfl, by rw [cO, if_pos rfl], by simp, fun k x hx => by simpa using hx⟩, fun ρ k => ?_, fun i o hi ho => by rw [cO, if_neg hi]; exact ho⟩
 rw [vI (n := z) (c := c) hg (by rw [g.ro]; have := w.1; omega) hl hx (by omega), List.drop_of_length_le (by omega)]
 simp
def pQ (a b : Nat) : Value := .agg (Array.mk [.int .i64 (a : Int), .int .i64 (b : Int)])
theorem a3Q : ((env.ty.get 76).bind fun i => i.eqs) = some [.i64, .i64] := by kernel_rfl
theorem aSK : gB env 69 = some (.map 76 22) := by kernel_rfl
theorem a3R (e : Bool) (a b : Nat) : oW env.P (Instr.checkKey e 10000 76 (pQ a b)) = some () := by unfold pQ; kernel_rfl
theorem aUS (a b : Nat) : jF env 76 (List.toArray [(0, .int .i64 (a : Int)), (1, .int .i64 (b : Int))]) = some (pQ a b) := by unfold pQ; kernel_rfl
theorem a3S (a b : Nat) : plain (pQ a b) = true := rfl
theorem Y1 (a b c d : Nat) : oH [.i64, .i64] [.int .i64 (a : Int), .int .i64 (b : Int)] [.int .i64 (c : Int), .int .i64 (d : Int)] = some (decide (a = c ∧ b = d)) := by
 show some (aCB (a : Int) (c : Int) && (aCB (b : Int) (d : Int) && true)) = _
 rw [NK, NK]
 congr 1
 rw [Bool.eq_iff_iff]
 simp
 omega
theorem O8 {a b : Nat} : ∀ (es : List (Value × Value)) (i : Nat), (∀ e ∈ es, ∃ c d v, e = (pQ c d, v) ∧ ¬ (a = c ∧ b = d)) → wJ [.i64, .i64] [.int .i64 (a : Int), .int .i64 (b : Int)] es i = some none
 | [], i, _ => rfl
 | e :: es, i, hh => by
  obtain ⟨c, d, v, rfl, hn⟩ := hh e (.head _)
  unfold wJ
  show (match oH [.i64, .i64] [.int .i64 (a : Int), .int .i64 (b : Int)] [.int .i64 (c : Int), .int .i64 (d : Int)] with | some true => some (some i) | some false => wJ [.i64, .i64] [.int .i64 (a : Int), .int .i64 (b : Int)] es (Nat.succ i) | none => none) = _
  rw [Y1, decide_eq_false hn]
  exact O8 es (i + 1) fun x hx => hh x (.tail _ hx)
theorem O9 {a b : Nat} : ∀ (es : List (Value × Value)) (i : Nat), (∀ e ∈ es, ∃ c d v, e = (pQ c d, v)) → (∃ v, (pQ a b, v) ∈ es) → ∃ j v, wJ [.i64, .i64] [.int .i64 (a : Int), .int .i64 (b : Int)] es i = some (some (i + j)) ∧ es[j]? = some (pQ a b, v)
 | [], i, _, ⟨v, hv⟩ => by cases hv
 | e :: es, i, hh, ⟨v, hv⟩ => by
  obtain ⟨c, d, u, rfl⟩ := hh e (.head _)
  unfold wJ
  have step : (match pQ c d with | .agg ys => (match oH [.i64, .i64] [.int .i64 (a : Int), .int .i64 (b : Int)] ys.toList with | some true => some (some i) | some false => wJ [.i64, .i64] [.int .i64 (a : Int), .int .i64 (b : Int)] es (Nat.succ i) | none => none) | _ => none) = if a = c ∧ b = d then some (some i) else wJ [.i64, .i64] [.int .i64 (a : Int), .int .i64 (b : Int)] es (Nat.succ i) := by
   show (match oH [.i64, .i64] [.int .i64 (a : Int), .int .i64 (b : Int)] [.int .i64 (c : Int), .int .i64 (d : Int)] with | some true => some (some i) | some false => wJ [.i64, .i64] [.int .i64 (a : Int), .int .i64 (b : Int)] es (Nat.succ i) | none => none) = _
   rw [Y1]
   by_cases q : a = c ∧ b = d
   ·rw [decide_eq_true q, if_pos q]
   ·rw [decide_eq_false q, if_neg q]
  by_cases q : a = c ∧ b = d
  ·refine ⟨0, u, step.trans (by rw [if_pos q]; rfl), ?_⟩
   obtain ⟨rfl, rfl⟩ := q
   rfl
  ·have hv' : ∃ v, (pQ a b, v) ∈ es := by
    rcases List.mem_cons.1 hv with e1 | e1
    ·exfalso
     have := congrArg Prod.fst e1
     simp [pQ] at this
     exact q ⟨by omega, by omega⟩
    ·exact ⟨v, e1⟩
   obtain ⟨j, w, h1, h2⟩ := O9 es (i + 1) (fun x hx => hh x (.tail _ hx)) hv'
   exact ⟨j + 1, w, step.trans (by rw [if_neg q]; rw [show i + (j + 1) = i + 1 + j by omega]; exact h1), h2⟩
theorem SX {a b : Nat} {es : List (Value × Value)} {r : Option Nat} (e : wJ [.i64, .i64] [.int .i64 (a : Int), .int .i64 (b : Int)] es 0 = some r) : MI env 76 (pQ a b) es = some r := by
 unfold MI TL pQ
 simp only
 rw [a3Q]
 simp only [Option.bind_some]
 rw [e]
theorem aQG {h : Hp} {mb : Nat} {es : List (Value × Value)} (hm : h.get mb = some (.map es)) (hro : h.ro ≤ mb) {a b : Nat} (hn : ∀ e ∈ es, ∃ c d v, e = (pQ c d, v) ∧ ¬ (a = c ∧ b = d)) (v : Value) :
  mU env h 69 (.map (some mb)) (pQ a b) v = some (h.upd mb (.map (es ++ [(pQ a b, v)]))) := by
 unfold mU
 rw [a3S, aSK]
 simp only [ok?, Option.bind_some]
 rw [show Nat.ble h.ro mb = true from by rw [Nat.ble_eq]; exact hro]
 simp only [hm, a3R, Option.bind_some, SX (O8 es 0 hn)]
theorem aQH {h : Hp} {mb : Nat} {es : List (Value × Value)} (hm : h.get mb = some (.map es)) {a b : Nat} (hk : ∀ e ∈ es, ∃ c d v, e = (pQ c d, v)) (hv : ∃ v, (pQ a b, v) ∈ es) :
  ∃ v, kC env h 69 (.map (some mb)) (pQ a b) false = some v ∧ (pQ a b, v) ∈ es := by
 obtain ⟨j, v, h1, h2⟩ := O9 es 0 hk hv
 rw [Nat.zero_add] at h1
 refine ⟨v, ?_, List.mem_of_getElem? h2⟩
 unfold kC
 rw [a3S, aSK]
 simp only [ok?, Option.bind_some, mapOf, hm, a3R, SX h1, h2, Option.map_some]
end Go.Proofs.Ytdpicdnpiihaaaa.K.L
