/- Contracts of told functions: lists of numbers that grow; maps whose keys are two numbers. -/
import Derived.Test.YtdpicdnpiihaaaaOrS5
open Go Go.bI
set_option maxRecDepth 100000
set_option linter.unusedVariables false
namespace Go.Proofs.Ytdpicdnpiihaaaa.K.L
theorem LJ : (jR env 3).map (fun z => Nat.beq z.cells.size 1) = some true := by kernel_rfl
theorem CB : (env.ty.get 3).map (fun ti => ti.info.bytes) = some 8 := by kernel_rfl
def qZ (hb h : Hp) (v : Value) (ns : List Int) : Prop := (v = .slice none 0 0 ∧ ns = []) ∨ ∃ b, v = .slice (some ⟨b, 0, none⟩) ns.length ns.length ∧ hb.next ≤ b ∧ h.get b = some (.cells (ns.map (Value.int .i64)) 3 (some 1))
theorem qZ.rows {hb h : Hp} {v : Value} {ns : List Int} (a : qZ hb h v ns) : bI.Rows h 1 v (ns.map cZ) := by
 rcases a with ⟨rfl, rfl⟩ | ⟨b, rfl, _, h2⟩
 ·exact .inl ⟨0, rfl, rfl⟩
 ·refine .inr ⟨b, 0, ns.length, _, 3, some 1, by rw [List.length_map], fun _ => h2, fun i r hi => ?_⟩
  rw [List.getElem?_map] at hi
  cases hx : ns[i]? with
  | none => rw [hx] at hi; cases hi
  | some x =>
   rw [hx] at hi
   cases hi
   have := (List.getElem?_eq_some_iff.1 hx).1
   refine ⟨rfl, by simp; omega, fun k y hy => ?_⟩
   cases k with
   | zero =>
    have hy : Value.int .i64 x = y := by simpa [cZ] using hy
    subst hy
    rw [Nat.zero_add, Nat.mul_one, Nat.add_zero, List.getElem?_map, hx]; rfl
   | succ k => simp [cZ] at hy
theorem DW {hb h : Hp} (w : Wf hb) (g : aV hb h) {v : Value} {ns : List Int} (a : qZ hb h v ns) (hlen : ns.length ≤ 100) (s : Int) :
  ∃ v' h', cB env (h.add (.cells [.int .i64 s] 3 none)) #[22, 22] (List.toArray [v, .slice (some ⟨h.next, 0, none⟩) 1 1]) = some (v', h') ∧ aV hb h' ∧ qZ hb h' v' (ns ++ [s]) := by
 have g1 : aV hb (h.add (.cells [.int .i64 s] 3 none)) := g.trans (aV.add g.wf _)
 have hx : (h.add (.cells [.int .i64 s] 3 none)).get h.next = some (.cells [.int .i64 s] 3 none) := by rw [bD, if_pos rfl]
 obtain ⟨ti, hti⟩ : ∃ ti, env.ty.get 3 = some ti := by
  cases e : env.ty.get 3 with
  | none => have := CB; rw [e] at this; cases this
  | some ti => exact ⟨ti, rfl⟩
 have hb3 : ti.info.bytes = 8 := by have := CB; rw [hti] at this; simpa using this
 obtain ⟨z, hz⟩ : ∃ z, jR env 3 = some z := by
  cases e : jR env 3 with
  | none => have := LJ; rw [e] at this; cases this
  | some z => exact ⟨z, rfl⟩
 have hzs : Nat.beq z.cells.size 1 = true := by have := LJ; rw [hz] at this; simpa using this
 have hsrc : qH (h.add (.cells [.int .i64 s] 3 none)) 1 1 (.slice (some ⟨h.next, 0, none⟩) 1 1) = some [.int .i64 s] := by
  show eY _ ⟨h.next, 0, none⟩ (1 * 1) = _
  exact iH hx rfl
 unfold cB
 rw [show (#[22, 22] : Array TypeId)[0]? = some 22 from rfl, show (#[22, 22] : Array TypeId)[1]? = some 22 from rfl, show (List.toArray [v, .slice (some ⟨h.next, 0, none⟩) 1 1])[0]? = some v from rfl, show (List.toArray [v, .slice (some ⟨h.next, 0, none⟩) 1 1])[1]? = some (.slice (some ⟨h.next, 0, none⟩) 1 1) from rfl]
 simp only [Option.bind_some, PW, LH, hti, hz, wH, hb3]
 rw [show (Nat.blt 0 1 && Nat.blt 0 8 && Nat.ble 8 65536 && Nat.beq z.cells.size 1) = true from by rw [hzs]; rfl]
 simp only [ok?]
 rcases a with ⟨rfl, rfl⟩ | ⟨b, rfl, hle, hg⟩
 ·refine ⟨.slice (some ⟨h.next + 1, 0, none⟩) 1 1, (h.add (.cells [.int .i64 s] 3 none)).add (.cells [.int .i64 s] 3 (some 1)), ?_, g1.trans (aV.add g1.wf _), .inr ⟨h.next + 1, rfl, by have := g.next; omega, by rw [bD, if_pos (show h.next + 1 = (h.add (.cells [.int .i64 s] 3 none)).next from rfl)]; rfl⟩⟩
  simp only [hsrc, Option.bind_some]
  rfl
 ·have hlt : b < h.next := g.wf.2 b _ hg
  have hg1 : (h.add (.cells [.int .i64 s] 3 none)).get b = some (.cells (ns.map (Value.int .i64)) 3 (some 1)) := by rw [bD, if_neg (by omega)]; exact hg
  have hre : kG (h.add (.cells [.int .i64 s] 3 none)) b = some (some 1) := by unfold kG; rw [hg1]
  have hold : eY (h.add (.cells [.int .i64 s] 3 none)) ⟨b, 0, none⟩ (ns.length * 1) = some (ns.map (Value.int .i64)) := iH hg1 (by simp)
  have hro : Nat.ble (h.add (.cells [.int .i64 s] 3 none)).ro b = true := by
   rw [Nat.ble_eq, FN, g.ro]
   have := w.1
   omega
  have gd := aV.del w g1 hle
  refine ⟨.slice (some ⟨h.next + 1, 0, none⟩) (ns.length + 1) (ns.length + 1), ((h.add (.cells [.int .i64 s] 3 none)).del b).add (.cells (ns.map (Value.int .i64) ++ [.int .i64 s]) 3 (some 1)), ?_, gd.trans (aV.add gd.wf _), .inr ⟨h.next + 1, by simp, by have := g.next; omega, ?_⟩⟩
  ·simp only [hre, Option.bind_some, hg1, hold, hsrc, hro, Nat.beq_refl]
   rw [show Nat.ble ((ns.length + 1) * 8) 1099511627776 = true from by rw [Nat.ble_eq]; omega]
   rfl
  ·rw [bD, if_pos (show h.next + 1 = ((h.add (.cells [.int .i64 s] 3 none)).del b).next from rfl)]; simp
theorem qZ.sl {hb h : Hp} {v : Value} {ns : List Int} (a : qZ hb h v ns) : lV h 1 v (ns.map cZ) := by
 rcases a with ⟨rfl, rfl⟩ | ⟨b, rfl, _, h2⟩
 ·exact .inl ⟨rfl, rfl⟩
 ·refine .inr ⟨b, _, 3, some 1, by rw [List.length_map], h2, .inl rfl, fun i r hi => ?_⟩
  rw [List.getElem?_map] at hi
  cases hx : ns[i]? with
  | none => rw [hx] at hi; cases hi
  | some x =>
   rw [hx] at hi
   cases hi
   have := (List.getElem?_eq_some_iff.1 hx).1
   refine ⟨rfl, by simp; omega, fun k y hy => ?_⟩
   cases k with
   | zero =>
    have hy : Value.int .i64 x = y := by simpa [cZ] using hy
    subst hy
    rw [Nat.mul_one, Nat.add_zero, List.getElem?_map, hx]; rfl
   | succ k => simp [cZ] at hy
theorem wU (h : Hp) : ∀ (n a : Nat) (t : T bY) (i : Nat), (aG (fZ h a n) t).get i = if a ≤ i ∧ i < a + n then (match h.get i with | some o => some o | none => t.get i) else t.get i
 | 0, a, t, i => by
  rw [if_neg (by omega)]; rfl
 | n + 1, a, t, i => by
  unfold fZ
  cases hg : h.get a with
  | some o =>
   show (aG (fZ h (a + 1) n) (t.put a (some o))).get i = _
   rw [wU h n (a + 1), T.get_put]
   by_cases ha : i = a
   ·subst ha
    rw [if_neg (by omega), if_pos rfl, if_pos (by omega), hg]
   ·rw [if_neg ha]
    by_cases hi : a + 1 ≤ i ∧ i < a + 1 + n
    ·rw [if_pos hi, if_pos (by omega)]
    ·rw [if_neg hi, if_neg (by omega)]
  | none =>
   show (aG (fZ h (a + 1) n) t).get i = _
   rw [wU h n (a + 1)]
   by_cases ha : i = a
   ·subst ha
    rw [if_neg (by omega), if_pos (by omega), hg]
   ·by_cases hi : a + 1 ≤ i ∧ i < a + 1 + n
    ·rw [if_pos hi, if_pos (by omega)]
    ·rw [if_neg hi, if_neg (by omega)]
theorem laid {h h2 : Hp} (w : Wf h) (w2 : Wf h2) (hn : h.next ≤ h2.next) : aV h (Hp.mk h2.next h.ro (aG (fZ h2 h.next (Nat.sub h2.next h.next)) h.aC)) ∧
  (∀ i o, h.next ≤ i → h2.get i = some o → (Hp.mk h2.next h.ro (aG (fZ h2 h.next (Nat.sub h2.next h.next)) h.aC)).get i = some o) := by
 have hw := w.1
 have key : ∀ i, (Hp.mk h2.next h.ro (aG (fZ h2 h.next (Nat.sub h2.next h.next)) h.aC)).get i = if h.next ≤ i ∧ i < h2.next then (match h2.get i with | some o => some o | none => h.get i) else h.get i := by
  intro i
  show (aG (fZ h2 h.next (h2.next - h.next)) h.aC).get i = _
  rw [wU, show h.next + (h2.next - h.next) = h2.next by omega]
  rfl
 refine ⟨⟨⟨by show h.ro ≤ h2.next; omega, fun i o hi => ?_⟩, fun i o hi => ?_, hn, rfl⟩, fun i o hi hg => ?_⟩
 ·show i < h2.next
  rw [key] at hi
  by_cases c : h.next ≤ i ∧ i < h2.next
  ·exact c.2
  ·rw [if_neg c] at hi
   have := w.2 i o hi; omega
 ·have := w.2 i o hi
  rw [key, if_neg (by omega)]; exact hi
 ·have := w2.2 i o hg
  rw [key, if_pos ⟨hi, this⟩, hg]
theorem jM (v : Value) (n : Nat) (o : T bY) (k : List (Nat × bY) → Nat → aF) : eP v n (Hp.mk n n o) k = k [] n := by
 unfold eP
 rw [aH]
 by_cases hp : lD v = true
 ·rw [if_pos hp]
 ·rw [if_neg hp, show Nat.ble n (Hp.mk n n o).next = true from by rw [Nat.ble_eq]; exact Nat.le_refl _, aH, if_pos rfl, show Nat.sub (Hp.mk n n o).next n = 0 from Nat.sub_self n]
  rfl
theorem DV (n : Nat) (o : T bY) (x : bY) (k : List (Nat × bY) → Nat → aF) : eP (.pointer (some ⟨n, 0, none⟩)) n ((Hp.mk n n o).add x) k = k [(n, x)] (n + 1) := by
 unfold eP
 rw [show lD (.pointer (some ⟨n, 0, none⟩)) = false from rfl, aH, if_neg (by simp), show ((Hp.mk n n o).add x).next = n + 1 from rfl, show Nat.ble n (n + 1) = true from by rw [Nat.ble_eq]; omega, aH, if_pos rfl, show Nat.sub (n + 1) n = 1 from by show n + 1 - n = 1; omega]
 have hg : ((Hp.mk n n o).add x).get n = some x := by rw [bD, if_pos rfl]
 show k (match ((Hp.mk n n o).add x).get n with | some o' => (n, o') :: [] | none => []) (n + 1) = _
 rw [hg]
theorem kept {h : Hp} (w : Wf h) {F : List Value → Hp → aF} {args : List Value} {h1 : Hp} {l : List Value} (e : F args (dF h) = some (.agg (Array.mk l), h1)) (hp : lD (.agg (Array.mk l)) = false) (g : aV (dF h) h1) :
  ∃ H W, aV h H ∧ (∀ i o, h.next ≤ i → h1.get i = some o → H.get i = some o) ∧ aG W h.aC = H.aC ∧
  ∀ k : Value → List (Nat × bY) → Nat → aF, (aK (bQ F args (Hp.mk h.next h.next h.aC)) fun v h12 => eP v h.next h12 fun w n => k v w n) = k (.agg (Array.mk l)) W H.next := by
 have hn : h.next ≤ h1.next := g.next
 obtain ⟨lg, ls⟩ := laid w g.wf hn
 refine ⟨_, fZ h1 h.next (Nat.sub h1.next h.next), lg, ls, rfl, fun k => ?_⟩
 unfold bQ
 rw [show (⟨(Hp.mk h.next h.next h.aC).next, (Hp.mk h.next h.next h.aC).next, (Hp.mk h.next h.next h.aC).aC⟩ : Hp) = dF h from rfl, e, aB, hp]
 show (eP (.agg (Array.mk l)) h.next (Hp.mk h1.next h.next h1.aC) fun w n => k (.agg (Array.mk l)) w n) = _
 unfold eP
 rw [hp]
 show bU (Nat.ble h.next h1.next) _ none = _
 rw [show Nat.ble h.next h1.next = true from by rw [Nat.ble_eq]; exact hn]
 have bl : ∀ n a, fZ (Hp.mk h1.next h.next h1.aC) a n = fZ h1 a n := by
  intro n
  induction n with
  | zero => intro a; rfl
  | succ n ih => intro a; unfold fZ; rw [show (Hp.mk h1.next h.next h1.aC).get a = h1.get a from rfl, ih]
 show k _ (fZ (Hp.mk h1.next h.next h1.aC) h.next (Nat.sub h1.next h.next)) h1.next = _
 rw [bl]
theorem aHI (v : Value) (hv : lD v = false) (n : Nat) (o : T bY) (x : bY) (k : List (Nat × bY) → Nat → aF) : eP v n ((Hp.mk n n o).add x) k = k [(n, x)] (n + 1) := by
 unfold eP
 rw [hv, aH, if_neg (by simp), show ((Hp.mk n n o).add x).next = n + 1 from rfl, show Nat.ble n (n + 1) = true from by rw [Nat.ble_eq]; omega, aH, if_pos rfl, show Nat.sub (n + 1) n = 1 from by show n + 1 - n = 1; omega]
 have hg : ((Hp.mk n n o).add x).get n = some x := by rw [bD, if_pos rfl]
 show k (match ((Hp.mk n n o).add x).get n with | some o' => (n, o') :: [] | none => []) (n + 1) = _
 rw [hg]
theorem oQ (n m : Nat) (o : T bY) (x : bY) (k : List (Nat × bY) → Nat → aF) : eP (.slice (some ⟨n, 0, none⟩) m m) n ((Hp.mk n n o).add x) k = k [(n, x)] (n + 1) := aHI _ rfl n o x k
theorem xU {F : List Value → Hp → aF} {args : List Value} {h h' : Hp} {v : Value} (w : Wf h) (e : F args (dF h) = some (v, h')) (g : aV (dF h) h') : ∃ h2, bQ F args h = some (v, h2) ∧ aV h h2 ∧ (lD v = false → h2.aC = h'.aC) := by
 unfold bQ
 rw [e, aB, aH]
 by_cases hp : lD v = true
 ·exact ⟨h, by rw [if_pos hp], aV.refl w, fun c => by rw [hp] at c; cases c⟩
 ·refine ⟨⟨h'.next, h.ro, h'.aC⟩, by rw [if_neg hp], ⟨⟨?_, g.wf.2⟩, g.sub, g.next, rfl⟩, fun _ => rfl⟩
  have := g.next
  have := w.1
  show h.ro ≤ h'.next
  have : h.next ≤ h'.next := g.next
  omega
theorem DU {z : Nat} {hb h : Hp} (w : Wf hb) (g : aV hb h) {b : Nat} (hle : hb.next ≤ b) {c l : List Value} {e : TypeId} {s : Option Nat} (hg : h.get b = some (.cells c e s)) (hc : c.length = z) (hl : l.length = z) (hx : l.all oneCell = true) :
  ∃ h', aV hb h' ∧ At h' (.pointer (some ⟨b, 0, none⟩)) l ∧ (∀ (ρ : Type) (k : Hp → Option ρ), dY z h (.pointer (some ⟨b, 0, none⟩)) (.agg (Array.mk l)) k = k h') ∧ (∀ i o, i ≠ b → h.get i = some o → h'.get i = some o) := by
 have hlt := g.wf.2 b _ hg
 refine ⟨h.upd b (.cells l e s), aV.upd w g hle hlt _, ⟨b, 0, l, e, s, rfl, by rw [bL, if_pos rfl], by simp, fun k x hx => by simpa using hx⟩, fun ρ k => ?_, fun i o hi ho => by rw [bL, if_neg hi]; exact ho⟩
 rw [vY (n := z) (c := c) hg (by rw [g.ro]; have := w.1; omega) hl hx (by omega), List.drop_of_length_le (by omega)]
 simp
def qL (a b : Nat) : Value := .agg (Array.mk [.int .i64 (a : Int), .int .i64 (b : Int)])
theorem a6Y : ((env.ty.get 76).bind fun i => i.eqs) = some [.i64, .i64] := by kernel_rfl
theorem aT9 : gL env 69 = some (.map 76 22) := by kernel_rfl
theorem a6Z (e : Bool) (a b : Nat) : pR env.P (Instr.checkKey e 10000 76 (qL a b)) = some () := by unfold qL; kernel_rfl
theorem a6R (a b : Nat) : jX env 76 (List.toArray [(0, .int .i64 (a : Int)), (1, .int .i64 (b : Int))]) = some (qL a b) := by unfold qL; kernel_rfl
theorem a7A (a b : Nat) : plain (qL a b) = true := rfl
theorem Z9 (a b c d : Nat) : o8 [.i64, .i64] [.int .i64 (a : Int), .int .i64 (b : Int)] [.int .i64 (c : Int), .int .i64 (d : Int)] = some (decide (a = c ∧ b = d)) := by
 show some (aDM (a : Int) (c : Int) && (aDM (b : Int) (d : Int) && true)) = _
 rw [OQ, OQ]
 congr 1
 rw [Bool.eq_iff_iff]
 simp
 omega
theorem QK {a b : Nat} : ∀ (es : List (Value × Value)) (i : Nat), (∀ e ∈ es, ∃ c d v, e = (qL c d, v) ∧ ¬ (a = c ∧ b = d)) → xD [.i64, .i64] [.int .i64 (a : Int), .int .i64 (b : Int)] es i = some none
 | [], i, _ => rfl
 | e :: es, i, hh => by
  obtain ⟨c, d, v, rfl, hn⟩ := hh e (.head _)
  unfold xD
  show (match o8 [.i64, .i64] [.int .i64 (a : Int), .int .i64 (b : Int)] [.int .i64 (c : Int), .int .i64 (d : Int)] with | some true => some (some i) | some false => xD [.i64, .i64] [.int .i64 (a : Int), .int .i64 (b : Int)] es (Nat.succ i) | none => none) = _
  rw [Z9, decide_eq_false hn]
  exact QK es (i + 1) fun x hx => hh x (.tail _ hx)
theorem QL {a b : Nat} : ∀ (es : List (Value × Value)) (i : Nat), (∀ e ∈ es, ∃ c d v, e = (qL c d, v)) → (∃ v, (qL a b, v) ∈ es) → ∃ j v, xD [.i64, .i64] [.int .i64 (a : Int), .int .i64 (b : Int)] es i = some (some (i + j)) ∧ es[j]? = some (qL a b, v)
 | [], i, _, ⟨v, hv⟩ => by cases hv
 | e :: es, i, hh, ⟨v, hv⟩ => by
  obtain ⟨c, d, u, rfl⟩ := hh e (.head _)
  unfold xD
  have step : (match qL c d with | .agg ys => (match o8 [.i64, .i64] [.int .i64 (a : Int), .int .i64 (b : Int)] ys.toList with | some true => some (some i) | some false => xD [.i64, .i64] [.int .i64 (a : Int), .int .i64 (b : Int)] es (Nat.succ i) | none => none) | _ => none) = if a = c ∧ b = d then some (some i) else xD [.i64, .i64] [.int .i64 (a : Int), .int .i64 (b : Int)] es (Nat.succ i) := by
   show (match o8 [.i64, .i64] [.int .i64 (a : Int), .int .i64 (b : Int)] [.int .i64 (c : Int), .int .i64 (d : Int)] with | some true => some (some i) | some false => xD [.i64, .i64] [.int .i64 (a : Int), .int .i64 (b : Int)] es (Nat.succ i) | none => none) = _
   rw [Z9]
   by_cases q : a = c ∧ b = d
   ·rw [decide_eq_true q, if_pos q]
   ·rw [decide_eq_false q, if_neg q]
  by_cases q : a = c ∧ b = d
  ·refine ⟨0, u, step.trans (by rw [if_pos q]; rfl), ?_⟩
   obtain ⟨rfl, rfl⟩ := q
   rfl
  ·have hv' : ∃ v, (qL a b, v) ∈ es := by
    rcases List.mem_cons.1 hv with e1 | e1
    ·exfalso
     have := congrArg Prod.fst e1
     simp [qL] at this
     exact q ⟨by omega, by omega⟩
    ·exact ⟨v, e1⟩
   obtain ⟨j, w, h1, h2⟩ := QL es (i + 1) (fun x hx => hh x (.tail _ hx)) hv'
   exact ⟨j + 1, w, step.trans (by rw [if_neg q]; rw [show i + (j + 1) = i + 1 + j by omega]; exact h1), h2⟩
theorem UK {a b : Nat} {es : List (Value × Value)} {r : Option Nat} (e : xD [.i64, .i64] [.int .i64 (a : Int), .int .i64 (b : Int)] es 0 = some r) : NG env 76 (qL a b) es = some r := by
 unfold NG U5 qL
 simp only
 rw [a6Y]
 simp only [Option.bind_some]
 rw [e]
theorem aR6 {h : Hp} {mb : Nat} {es : List (Value × Value)} (hm : h.get mb = some (.map es)) (hro : h.ro ≤ mb) {a b : Nat} (hn : ∀ e ∈ es, ∃ c d v, e = (qL c d, v) ∧ ¬ (a = c ∧ b = d)) (v : Value) :
  nN env h 69 (.map (some mb)) (qL a b) v = some (h.upd mb (.map (es ++ [(qL a b, v)]))) := by
 unfold nN
 rw [a7A, aT9]
 simp only [ok?, Option.bind_some]
 rw [show Nat.ble h.ro mb = true from by rw [Nat.ble_eq]; exact hro]
 simp only [hm, a6Z, Option.bind_some, UK (QK es 0 hn)]
theorem aR7 {h : Hp} {mb : Nat} {es : List (Value × Value)} (hm : h.get mb = some (.map es)) {a b : Nat} (hk : ∀ e ∈ es, ∃ c d v, e = (qL c d, v)) (hv : ∃ v, (qL a b, v) ∈ es) :
  ∃ v, kU env h 69 (.map (some mb)) (qL a b) false = some v ∧ (qL a b, v) ∈ es := by
 obtain ⟨j, v, h1, h2⟩ := QL es 0 hk hv
 rw [Nat.zero_add] at h1
 refine ⟨v, ?_, List.mem_of_getElem? h2⟩
 unfold kU
 rw [a7A, aT9]
 simp only [ok?, Option.bind_some, mapOf, hm, a6Z, UK h1, h2, Option.map_some]
end Go.Proofs.Ytdpicdnpiihaaaa.K.L
