/- Contracts of told functions: lists of numbers that grow; maps whose keys are two numbers. -/
import Derived.Test.YtdpicdnpiihaaaaBoS5
open Go Go.bK
set_option maxRecDepth 100000
set_option linter.unusedVariables false
namespace Go.Proofs.Ytdpicdnpiihaaaa.K.L
theorem aEJ : (nE env 3).map (fun z => Nat.beq z.cells.size 1) = some true := by kernel_rfl
theorem WG : (env.ty.get 3).map (fun ti => ti.info.bytes) = some 8 := by kernel_rfl
def qO (hb h : Hp) (v : Value) (ns : List Int) : Prop := (v = .slice none 0 0 ∧ ns = []) ∨ ∃ b, v = .slice (some ⟨b, 0, none⟩) ns.length ns.length ∧ hb.next ≤ b ∧ h.get b = some (.cells (ns.map (Value.int .i64)) 3 (some 1))
theorem qO.rows {hb h : Hp} {v : Value} {ns : List Int} (a : qO hb h v ns) : bK.Rows h 1 v (ns.map cZ) := by
 rcases a with ⟨rfl, rfl⟩ | ⟨b, rfl, _, h2⟩
 ·exact .inl ⟨0, rfl, rfl⟩
 ·refine .inr ⟨b, 0, ns.length, _, 3, some 1, by rw [List.length_map], fun _ => h2, fun i r hi => ?_⟩
  rw [List.getElem?_map] at hi
  cases hx : ns[i]? with
  | none => rw [hx] at hi; cases hi
  | some x =>
   rw [hx] at hi
   cases hi
   have := (List.getElem?_eq_some_iff.1 hx).1
   refine ⟨rfl, by simp; omega, fun k y hy => ?_⟩
   cases k with
   | zero =>
    have hy : Value.int .i64 x = y := by simpa [cZ] using hy
    subst hy
    rw [Nat.zero_add, Nat.mul_one, Nat.add_zero, List.getElem?_map, hx]; rfl
   | succ k => simp [cZ] at hy
theorem xQ {hb h : Hp} (w : Wf hb) (g : aV hb h) {v : Value} {ns : List Int} (a : qO hb h v ns) (hlen : ns.length ≤ 100) (s : Int) :
  ∃ v' h', fC env (h.add (.cells [.int .i64 s] 3 none)) #[22, 22] (List.toArray [v, .slice (some ⟨h.next, 0, none⟩) 1 1]) = some (v', h') ∧ aV hb h' ∧ qO hb h' v' (ns ++ [s]) := by
 have g1 : aV hb (h.add (.cells [.int .i64 s] 3 none)) := g.trans (aV.add g.wf _)
 have hx : (h.add (.cells [.int .i64 s] 3 none)).get h.next = some (.cells [.int .i64 s] 3 none) := by rw [bR, if_pos rfl]
 obtain ⟨ti, hti⟩ : ∃ ti, env.ty.get 3 = some ti := by
  cases e : env.ty.get 3 with
  | none => have := WG; rw [e] at this; cases this
  | some ti => exact ⟨ti, rfl⟩
 have hb3 : ti.info.bytes = 8 := by have := WG; rw [hti] at this; simpa using this
 obtain ⟨z, hz⟩ : ∃ z, nE env 3 = some z := by
  cases e : nE env 3 with
  | none => have := aEJ; rw [e] at this; cases this
  | some z => exact ⟨z, rfl⟩
 have hzs : Nat.beq z.cells.size 1 = true := by have := aEJ; rw [hz] at this; simpa using this
 have hsrc : sN (h.add (.cells [.int .i64 s] 3 none)) 1 1 (.slice (some ⟨h.next, 0, none⟩) 1 1) = some [.int .i64 s] := by
  show gD _ ⟨h.next, 0, none⟩ (1 * 1) = _
  exact pO hx rfl
 unfold fC
 rw [show (#[22, 22] : Array TypeId)[0]? = some 22 from rfl, show (#[22, 22] : Array TypeId)[1]? = some 22 from rfl, show (List.toArray [v, .slice (some ⟨h.next, 0, none⟩) 1 1])[0]? = some v from rfl, show (List.toArray [v, .slice (some ⟨h.next, 0, none⟩) 1 1])[1]? = some (.slice (some ⟨h.next, 0, none⟩) 1 1) from rfl]
 simp only [Option.bind_some, Y8, TG, hti, hz, DU, hb3]
 rw [show (Nat.blt 0 1 && Nat.blt 0 8 && Nat.ble 8 65536 && Nat.beq z.cells.size 1) = true from by rw [hzs]; rfl]
 simp only [ok?]
 rcases a with ⟨rfl, rfl⟩ | ⟨b, rfl, hle, hg⟩
 ·refine ⟨.slice (some ⟨h.next + 1, 0, none⟩) 1 1, (h.add (.cells [.int .i64 s] 3 none)).add (.cells [.int .i64 s] 3 (some 1)), ?_, g1.trans (aV.add g1.wf _), .inr ⟨h.next + 1, rfl, by have := g.next; omega, by rw [bR, if_pos (show h.next + 1 = (h.add (.cells [.int .i64 s] 3 none)).next from rfl)]; rfl⟩⟩
  simp only [hsrc, Option.bind_some]
  rfl
 ·have hlt : b < h.next := g.wf.2 b _ hg
  have hg1 : (h.add (.cells [.int .i64 s] 3 none)).get b = some (.cells (ns.map (Value.int .i64)) 3 (some 1)) := by rw [bR, if_neg (by omega)]; exact hg
  have hre : oC (h.add (.cells [.int .i64 s] 3 none)) b = some (some 1) := by unfold oC; rw [hg1]
  have hold : gD (h.add (.cells [.int .i64 s] 3 none)) ⟨b, 0, none⟩ (ns.length * 1) = some (ns.map (Value.int .i64)) := pO hg1 (by simp)
  have hro : Nat.ble (h.add (.cells [.int .i64 s] 3 none)).ro b = true := by
   rw [Nat.ble_eq, JM, g.ro]
   have := w.1
   omega
  have gd := aV.del w g1 hle
  refine ⟨.slice (some ⟨h.next + 1, 0, none⟩) (ns.length + 1) (ns.length + 1), ((h.add (.cells [.int .i64 s] 3 none)).del b).add (.cells (ns.map (Value.int .i64) ++ [.int .i64 s]) 3 (some 1)), ?_, gd.trans (aV.add gd.wf _), .inr ⟨h.next + 1, by simp, by have := g.next; omega, ?_⟩⟩
  ·simp only [hre, Option.bind_some, hg1, hold, hsrc, hro, Nat.beq_refl]
   rw [show Nat.ble ((ns.length + 1) * 8) 1099511627776 = true from by rw [Nat.ble_eq]; omega]
   rfl
  ·rw [bR, if_pos (show h.next + 1 = ((h.add (.cells [.int .i64 s] 3 none)).del b).next from rfl)]; simp
theorem qO.sl {hb h : Hp} {v : Value} {ns : List Int} (a : qO hb h v ns) : kR h 1 v (ns.map cZ) := by
 rcases a with ⟨rfl, rfl⟩ | ⟨b, rfl, _, h2⟩
 ·exact .inl ⟨rfl, rfl⟩
 ·refine .inr ⟨b, _, 3, some 1, by rw [List.length_map], h2, .inl rfl, fun i r hi => ?_⟩
  rw [List.getElem?_map] at hi
  cases hx : ns[i]? with
  | none => rw [hx] at hi; cases hi
  | some x =>
   rw [hx] at hi
   cases hi
   have := (List.getElem?_eq_some_iff.1 hx).1
   refine ⟨rfl, by simp; omega, fun k y hy => ?_⟩
   cases k with
   | zero =>
    have hy : Value.int .i64 x = y := by simpa [cZ] using hy
    subst hy
    rw [Nat.mul_one, Nat.add_zero, List.getElem?_map, hx]; rfl
   | succ k => simp [cZ] at hy
theorem wP (h : Hp) : ∀ (n a : Nat) (t : T dG) (i : Nat), (aP (fQ h a n) t).get i = if a ≤ i ∧ i < a + n then (match h.get i with | some o => some o | none => t.get i) else t.get i
 | 0, a, t, i => by
  rw [if_neg (by omega)]; rfl
 | n + 1, a, t, i => by
  unfold fQ
  cases hg : h.get a with
  | some o =>
   show (aP (fQ h (a + 1) n) (t.put a (some o))).get i = _
   rw [wP h n (a + 1), T.get_put]
   by_cases ha : i = a
   ·subst ha
    rw [if_neg (by omega), if_pos rfl, if_pos (by omega), hg]
   ·rw [if_neg ha]
    by_cases hi : a + 1 ≤ i ∧ i < a + 1 + n
    ·rw [if_pos hi, if_pos (by omega)]
    ·rw [if_neg hi, if_neg (by omega)]
  | none =>
   show (aP (fQ h (a + 1) n) t).get i = _
   rw [wP h n (a + 1)]
   by_cases ha : i = a
   ·subst ha
    rw [if_neg (by omega), if_pos (by omega), hg]
   ·by_cases hi : a + 1 ≤ i ∧ i < a + 1 + n
    ·rw [if_pos hi, if_pos (by omega)]
    ·rw [if_neg hi, if_neg (by omega)]
theorem laid {h h2 : Hp} (w : Wf h) (w2 : Wf h2) (hn : h.next ≤ h2.next) : aV h (Hp.mk h2.next h.ro (aP (fQ h2 h.next (Nat.sub h2.next h.next)) h.aC)) ∧
  (∀ i o, h.next ≤ i → h2.get i = some o → (Hp.mk h2.next h.ro (aP (fQ h2 h.next (Nat.sub h2.next h.next)) h.aC)).get i = some o) := by
 have hw := w.1
 have key : ∀ i, (Hp.mk h2.next h.ro (aP (fQ h2 h.next (Nat.sub h2.next h.next)) h.aC)).get i = if h.next ≤ i ∧ i < h2.next then (match h2.get i with | some o => some o | none => h.get i) else h.get i := by
  intro i
  show (aP (fQ h2 h.next (h2.next - h.next)) h.aC).get i = _
  rw [wP, show h.next + (h2.next - h.next) = h2.next by omega]
  rfl
 refine ⟨⟨⟨by show h.ro ≤ h2.next; omega, fun i o hi => ?_⟩, fun i o hi => ?_, hn, rfl⟩, fun i o hi hg => ?_⟩
 ·show i < h2.next
  rw [key] at hi
  by_cases c : h.next ≤ i ∧ i < h2.next
  ·exact c.2
  ·rw [if_neg c] at hi
   have := w.2 i o hi; omega
 ·have := w.2 i o hi
  rw [key, if_neg (by omega)]; exact hi
 ·have := w2.2 i o hg
  rw [key, if_pos ⟨hi, this⟩, hg]
theorem kE (v : Value) (n : Nat) (o : T dG) (k : List (Nat × dG) → Nat → aF) : iH v n (Hp.mk n n o) k = k [] n := by
 unfold iH
 rw [aG]
 by_cases hp : kT v = true
 ·rw [if_pos hp]
 ·rw [if_neg hp, show Nat.ble n (Hp.mk n n o).next = true from by rw [Nat.ble_eq]; exact Nat.le_refl _, aG, if_pos rfl, show Nat.sub (Hp.mk n n o).next n = 0 from Nat.sub_self n]
  rfl
theorem DL (n : Nat) (o : T dG) (x : dG) (k : List (Nat × dG) → Nat → aF) : iH (.pointer (some ⟨n, 0, none⟩)) n ((Hp.mk n n o).add x) k = k [(n, x)] (n + 1) := by
 unfold iH
 rw [show kT (.pointer (some ⟨n, 0, none⟩)) = false from rfl, aG, if_neg (by simp), show ((Hp.mk n n o).add x).next = n + 1 from rfl, show Nat.ble n (n + 1) = true from by rw [Nat.ble_eq]; omega, aG, if_pos rfl, show Nat.sub (n + 1) n = 1 from by show n + 1 - n = 1; omega]
 have hg : ((Hp.mk n n o).add x).get n = some x := by rw [bR, if_pos rfl]
 show k (match ((Hp.mk n n o).add x).get n with | some o' => (n, o') :: [] | none => []) (n + 1) = _
 rw [hg]
theorem kept {h : Hp} (w : Wf h) {F : List Value → Hp → aF} {args : List Value} {h1 : Hp} {l : List Value} (e : F args (bZ h) = some (.agg (Array.mk l), h1)) (hp : kT (.agg (Array.mk l)) = false) (g : aV (bZ h) h1) :
  ∃ H W, aV h H ∧ (∀ i o, h.next ≤ i → h1.get i = some o → H.get i = some o) ∧ aP W h.aC = H.aC ∧
  ∀ k : Value → List (Nat × dG) → Nat → aF, (aN (bV F args (Hp.mk h.next h.next h.aC)) fun v h12 => iH v h.next h12 fun w n => k v w n) = k (.agg (Array.mk l)) W H.next := by
 have hn : h.next ≤ h1.next := g.next
 obtain ⟨lg, ls⟩ := laid w g.wf hn
 refine ⟨_, fQ h1 h.next (Nat.sub h1.next h.next), lg, ls, rfl, fun k => ?_⟩
 unfold bV
 rw [show (⟨(Hp.mk h.next h.next h.aC).next, (Hp.mk h.next h.next h.aC).next, (Hp.mk h.next h.next h.aC).aC⟩ : Hp) = bZ h from rfl, e, aB, hp]
 show (iH (.agg (Array.mk l)) h.next (Hp.mk h1.next h.next h1.aC) fun w n => k (.agg (Array.mk l)) w n) = _
 unfold iH
 rw [hp]
 show bY (Nat.ble h.next h1.next) _ none = _
 rw [show Nat.ble h.next h1.next = true from by rw [Nat.ble_eq]; exact hn]
 have bl : ∀ n a, fQ (Hp.mk h1.next h.next h1.aC) a n = fQ h1 a n := by
  intro n
  induction n with
  | zero => intro a; rfl
  | succ n ih => intro a; unfold fQ; rw [show (Hp.mk h1.next h.next h1.aC).get a = h1.get a from rfl, ih]
 show k _ (fQ (Hp.mk h1.next h.next h1.aC) h.next (Nat.sub h1.next h.next)) h1.next = _
 rw [bl]
theorem xR {F : List Value → Hp → aF} {args : List Value} {h h' : Hp} {v : Value} (w : Wf h) (e : F args (bZ h) = some (v, h')) (g : aV (bZ h) h') : ∃ h2, bV F args h = some (v, h2) ∧ aV h h2 ∧ (kT v = false → h2.aC = h'.aC) := by
 unfold bV
 rw [e, aB, aG]
 by_cases hp : kT v = true
 ·exact ⟨h, by rw [if_pos hp], aV.refl w, fun c => by rw [hp] at c; cases c⟩
 ·refine ⟨⟨h'.next, h.ro, h'.aC⟩, by rw [if_neg hp], ⟨⟨?_, g.wf.2⟩, g.sub, g.next, rfl⟩, fun _ => rfl⟩
  have := g.next
  have := w.1
  show h.ro ≤ h'.next
  have : h.next ≤ h'.next := g.next
  omega
theorem DK {z : Nat} {hb h : Hp} (w : Wf hb) (g : aV hb h) {b : Nat} (hle : hb.next ≤ b) {c l : List Value} {e : TypeId} {s : Option Nat} (hg : h.get b = some (.cells c e s)) (hc : c.length = z) (hl : l.length = z) (hx : l.all oneCell = true) :
  ∃ h', aV hb h' ∧ At h' (.pointer (some ⟨b, 0, none⟩)) l ∧ (∀ (ρ : Type) (k : Hp → Option ρ), dY z h (.pointer (some ⟨b, 0, none⟩)) (.agg (Array.mk l)) k = k h') ∧ (∀ i o, i ≠ b → h.get i = some o → h'.get i = some o) := by
 have hlt := g.wf.2 b _ hg
 refine ⟨h.upd b (.cells l e s), aV.upd w g hle hlt _, ⟨b, 0, l, e, s, rfl, by rw [bU, if_pos rfl], by simp, fun k x hx => by simpa using hx⟩, fun ρ k => ?_, fun i o hi ho => by rw [bU, if_neg hi]; exact ho⟩
 rw [qB (n := z) (c := c) hg (by rw [g.ro]; have := w.1; omega) hl hx (by omega), List.drop_of_length_le (by omega)]
 simp
def qM (a b : Nat) : Value := .agg (Array.mk [.int .i64 (a : Int), .int .i64 (b : Int)])
theorem a4V : ((env.ty.get 76).bind fun i => i.eqs) = some [.i64, .i64] := by kernel_rfl
theorem aS3 : gI env 69 = some (.map 76 22) := by kernel_rfl
theorem a4W (e : Bool) (a b : Nat) : pQ env.P (Instr.checkKey e 10000 76 (qM a b)) = some () := by unfold qM; kernel_rfl
theorem a4P (a b : Nat) : jQ env 76 (List.toArray [(0, .int .i64 (a : Int)), (1, .int .i64 (b : Int))]) = some (qM a b) := by unfold qM; kernel_rfl
theorem a4X (a b : Nat) : plain (qM a b) = true := rfl
theorem ZO (a b c d : Nat) : oZ [.i64, .i64] [.int .i64 (a : Int), .int .i64 (b : Int)] [.int .i64 (c : Int), .int .i64 (d : Int)] = some (decide (a = c ∧ b = d)) := by
 show some (aCZ (a : Int) (c : Int) && (aCZ (b : Int) (d : Int) && true)) = _
 rw [OB, OB]
 congr 1
 rw [Bool.eq_iff_iff]
 simp
 omega
theorem PW {a b : Nat} : ∀ (es : List (Value × Value)) (i : Nat), (∀ e ∈ es, ∃ c d v, e = (qM c d, v) ∧ ¬ (a = c ∧ b = d)) → wZ [.i64, .i64] [.int .i64 (a : Int), .int .i64 (b : Int)] es i = some none
 | [], i, _ => rfl
 | e :: es, i, hh => by
  obtain ⟨c, d, v, rfl, hn⟩ := hh e (.head _)
  unfold wZ
  show (match oZ [.i64, .i64] [.int .i64 (a : Int), .int .i64 (b : Int)] [.int .i64 (c : Int), .int .i64 (d : Int)] with | some true => some (some i) | some false => wZ [.i64, .i64] [.int .i64 (a : Int), .int .i64 (b : Int)] es (Nat.succ i) | none => none) = _
  rw [ZO, decide_eq_false hn]
  exact PW es (i + 1) fun x hx => hh x (.tail _ hx)
theorem PX {a b : Nat} : ∀ (es : List (Value × Value)) (i : Nat), (∀ e ∈ es, ∃ c d v, e = (qM c d, v)) → (∃ v, (qM a b, v) ∈ es) → ∃ j v, wZ [.i64, .i64] [.int .i64 (a : Int), .int .i64 (b : Int)] es i = some (some (i + j)) ∧ es[j]? = some (qM a b, v)
 | [], i, _, ⟨v, hv⟩ => by cases hv
 | e :: es, i, hh, ⟨v, hv⟩ => by
  obtain ⟨c, d, u, rfl⟩ := hh e (.head _)
  unfold wZ
  have step : (match qM c d with | .agg ys => (match oZ [.i64, .i64] [.int .i64 (a : Int), .int .i64 (b : Int)] ys.toList with | some true => some (some i) | some false => wZ [.i64, .i64] [.int .i64 (a : Int), .int .i64 (b : Int)] es (Nat.succ i) | none => none) | _ => none) = if a = c ∧ b = d then some (some i) else wZ [.i64, .i64] [.int .i64 (a : Int), .int .i64 (b : Int)] es (Nat.succ i) := by
   show (match oZ [.i64, .i64] [.int .i64 (a : Int), .int .i64 (b : Int)] [.int .i64 (c : Int), .int .i64 (d : Int)] with | some true => some (some i) | some false => wZ [.i64, .i64] [.int .i64 (a : Int), .int .i64 (b : Int)] es (Nat.succ i) | none => none) = _
   rw [ZO]
   by_cases q : a = c ∧ b = d
   ·rw [decide_eq_true q, if_pos q]
   ·rw [decide_eq_false q, if_neg q]
  by_cases q : a = c ∧ b = d
  ·refine ⟨0, u, step.trans (by rw [if_pos q]; rfl), ?_⟩
   obtain ⟨rfl, rfl⟩ := q
   rfl
  ·have hv' : ∃ v, (qM a b, v) ∈ es := by
    rcases List.mem_cons.1 hv with e1 | e1
    ·exfalso
     have := congrArg Prod.fst e1
     simp [qM] at this
     exact q ⟨by omega, by omega⟩
    ·exact ⟨v, e1⟩
   obtain ⟨j, w, h1, h2⟩ := PX es (i + 1) (fun x hx => hh x (.tail _ hx)) hv'
   exact ⟨j + 1, w, step.trans (by rw [if_neg q]; rw [show i + (j + 1) = i + 1 + j by omega]; exact h1), h2⟩
theorem TS {a b : Nat} {es : List (Value × Value)} {r : Option Nat} (e : wZ [.i64, .i64] [.int .i64 (a : Int), .int .i64 (b : Int)] es 0 = some r) : M4 env 76 (qM a b) es = some r := by
 unfold M4 UK qM
 simp only
 rw [a4V]
 simp only [Option.bind_some]
 rw [e]
theorem aQ1 {h : Hp} {mb : Nat} {es : List (Value × Value)} (hm : h.get mb = some (.map es)) (hro : h.ro ≤ mb) {a b : Nat} (hn : ∀ e ∈ es, ∃ c d v, e = (qM c d, v) ∧ ¬ (a = c ∧ b = d)) (v : Value) :
  nH env h 69 (.map (some mb)) (qM a b) v = some (h.upd mb (.map (es ++ [(qM a b, v)]))) := by
 unfold nH
 rw [a4X, aS3]
 simp only [ok?, Option.bind_some]
 rw [show Nat.ble h.ro mb = true from by rw [Nat.ble_eq]; exact hro]
 simp only [hm, a4W, Option.bind_some, TS (PW es 0 hn)]
theorem aQ2 {h : Hp} {mb : Nat} {es : List (Value × Value)} (hm : h.get mb = some (.map es)) {a b : Nat} (hk : ∀ e ∈ es, ∃ c d v, e = (qM c d, v)) (hv : ∃ v, (qM a b, v) ∈ es) :
  ∃ v, kK env h 69 (.map (some mb)) (qM a b) false = some v ∧ (qM a b, v) ∈ es := by
 obtain ⟨j, v, h1, h2⟩ := PX es 0 hk hv
 rw [Nat.zero_add] at h1
 refine ⟨v, ?_, List.mem_of_getElem? h2⟩
 unfold kK
 rw [a4X, aS3]
 simp only [ok?, Option.bind_some, mapOf, hm, a4W, TS h1, h2, Option.map_some]
end Go.Proofs.Ytdpicdnpiihaaaa.K.L
