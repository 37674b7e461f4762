/-
  An evaluator of the code, proved sound.
-/
import Derived.Test.YtgomkbcokgeciaaGreatScEngC
set_option linter.unusedVariables false
/-
  A range over a map whose turns may come in any order: by a table of the states that turns lead to.
-/
namespace Go.bR
noncomputable section
structure Q0 where
 tm : List (Nat × Option Value)
 high : List (Nat × Option aD)
 g : Nat
structure xL where
 ib : Nat
 r : Nat
 low : List Nat
 states : List Q0
 next : List (List (Nat × List Nat))
 acc : List Nat
 fold : List (List Nat)
def a6I (t0 : T Value) : List (Nat × Option Value) → Option (T Value)
 | [] => some T.nil
 | (i, some v) :: l => (a6I t0 l).bind fun t => some (t.put i (some v))
 | (i, none) :: l => (t0.get i).bind fun v => (a6I t0 l).bind fun t => some (t.put i (some v))
def U4 (h0 : Hp) : List Nat → Option (List (Nat × aD))
 | [] => some []
 | i :: l => match Nat.blt i h0.ro with
  | true => (h0.get i).bind fun o => (U4 h0 l).bind fun r => some ((i, o) :: r)
  | false => none
theorem aCT {h0 : Hp} : ∀ {l : List Nat} {r : List (Nat × aD)}, U4 h0 l = some r → ∀ i o, (i, o) ∈ r → i < h0.ro ∧ h0.get i = some o
 | [], r, e, i, o, hm => by cases e; cases hm
 | j :: l, r, e, i, o, hm => by
  unfold U4 at e
  split at e
  ·rename_i hb
   obtain ⟨p, hp, e⟩ := aA e
   obtain ⟨r2, hr, e⟩ := aA e
   cases e
   rcases List.mem_cons.1 hm with h | h
   ·cases h; rw [Nat.blt_eq] at hb; exact ⟨hb, hp⟩
   ·exact aCT hr i o h
  ·cases e
def aNR (s : S) (low : List (Nat × aD)) (x : Q0) : Option S :=
 (a6I s.tm x.tm).bind fun tm => (X0 s.h x.high).bind fun high => some { tm, df := [], h := aNJ (s.h.next + x.g) s.h.ro low high }
def uO (s : S) (low : List (Nat × aD)) : List Q0 → Option (List S)
 | [] => some []
 | x :: l => (aNR s low x).bind fun y => (uO s low l).bind fun r => some (y :: r)
def aI0 (h : Hp) (r : Nat) : Option (List (Value × Value)) := match h.get r with | some (.map es) => some es | _ => none
def hasEntry : Code → Bool
 | .seq a b => hasEntry a || hasEntry b
 | .block _ b => hasEntry b
 | .region _ ops false => match ops.toList with
  | o :: _ => (match o.op with | .entry _ => true | _ => false)
  | [] => false
 | _ => false
def aI1 (r : Option R) (f : S → Option R) : Option R := r.bind fun r => match r with
 | .code .normal s1 => f s1
 | .code e s1 => some (.code e s1)
 | _ => none
def aQM (id : Nat) (r : Option R) : Option R := r.bind fun r => match r with
 | .code (.exit i) s1 => (match Nat.beq i id with | true => some (.code .normal s1) | false => some (.code (.exit i) s1))
 | .code e s1 => some (.code e s1)
 | _ => none
def aI2 (o : Oper) : Bool := match o.guard with | none => true | some _ => false
def bD2 (nt : Nat) (ib r n k : Nat) (o : Oper) (s : S) : Option S := match o.op with
 | .entry it => (gL s.tm it).bind fun v => match v with
  | .pointer (some a) => ok? (Nat.beq a.block ib && (Nat.beq a.off 0 && zZ a && aI2 o)) <| (aI0 s.h r).bind fun es => ok? (Nat.beq es.length n) <| (es[k]?).bind fun e => (eH nt s.tm o.dst (.tuple #[e.1, e.2])).bind fun tm => some { s with tm }
  | _ => none
 | _ => none
def EO (C : bP) (self : Self) (rd : Option Nat) (nt ib r n k : Nat) : Code → S → Option R
 | .seq a b, s => match hasEntry a with
  | true => aI1 (EO C self rd nt ib r n k a s) fun s1 => self (.code b rd nt s1)
  | false => aI1 (self (.code a rd nt s)) fun s1 => EO C self rd nt ib r n k b s1
 | .block id b, s => aQM id (EO C self rd nt ib r n k b s)
 | .region id ops false, s => match ops.toList with
  | o :: rest => (match o.op with
   | .entry _ => (bD2 nt ib r n k o s).bind fun s1 => opsV C self rd nt ops rest s1
   | _ => self (.code (.region id ops false) rd nt s))
  | [] => self (.code (.region id ops false) rd nt s)
 | c, s => self (.code c rd nt s)
section
variable (C : bP) (self : Self) (rd : Option Nat) (nt : Nat) (ops : Array Oper) (b2 : Code)
def aQN (ib r n k : Nat) (s : S) : Option R := (opsV C self rd nt ops (ops.toList.drop 1) s).bind fun r' => match r' with
 | .code .normal s1 => EO C self rd nt ib r n k b2 s1
 | _ => none
def aI3 (s : S) : Option R := (opsV C self rd nt ops (ops.toList.drop 1) s).bind fun r => match r with
 | .code .normal s1 => self (.code b2 rd nt s1)
 | _ => none
def aH4 {α : Type} (x : Option α) : Bool := match x with | none => true | some _ => false
def aO3 {α : Type} (x : List α) : Bool := match x with | [] => true | _ => false
def aQO (d : Option Tmp) (s : S) (v : Value) : Option S := (eH nt s.tm d v).map fun tm => { s with tm }
def a1A (ib r n k : Nat) (d : Option Tmp) (s : S) (e : Value × Value) : Option R := (aQO nt d s (.tuple #[.bool true, e.1, e.2])).bind (aQN C self rd nt ops b2 ib r n k)
def aCS (N ro : Nat) (olds : List Nat) (s' : S) (x : Q0) (h0 : Hp) (y : S) : Bool :=
 aO3 s'.df && (aQI N olds nt s'.tm y.tm && (T.lJ nt y.tm && (Nat.beq x.g olds.length && (olds.all (fun o => Nat.ble N o) && (nodupB olds && match X0 h0 x.high with
  | some high => NT N ro olds s'.h high
  | none => false)))))
def aGW (tab : xL) (s : S) (DL : List S) (d : Option Tmp) (y : S) (n k : Nat) (e : Value × Value) (t : Nat × List Nat) : Bool :=
 match a1A C self rd nt ops b2 tab.ib tab.r n k d y e, tab.states[t.1]?, DL[t.1]? with
 | some (.code .normal s'), some x', some y' => aCS nt s.h.next s.h.ro t.2 s' x' s.h y'
 | _, _, _ => false
def aI4 (tab : xL) (s : S) (DL : List S) (d : Option Tmp) (y : S) (n : Nat) : Nat → List (Value × Value) → List (Nat × List Nat) → Bool
 | _, [], [] => true
 | k, e :: es, t :: ts => aGW C self rd nt ops b2 tab s DL d y n k e t && aI4 tab s DL d y n (k + 1) es ts
 | _, _, _ => false
def rowOk (tab : xL) (s : S) (DL : List S) (d : Option Tmp) (it : Operand) (n : Nat) (y : S) (row : List (Nat × List Nat)) : Bool :=
 aH4 (y.h.get tab.ib) && ((match gL y.tm it with | some (.pointer (some a)) => Nat.beq a.block tab.ib && (Nat.beq a.off 0 && zZ a) | _ => false) &&
  (match aI0 y.h tab.r with | some es => Nat.beq es.length n && aI4 C self rd nt ops b2 tab s DL d y n 0 es row | none => false))
def GG (tab : xL) (s : S) (DL : List S) (d : Option Tmp) (it : Operand) (n : Nat) : List S → List (List (Nat × List Nat)) → Bool
 | [], [] => true
 | y :: ys, row :: rows => rowOk C self rd nt ops b2 tab s DL d it n y row && GG tab s DL d it n ys rows
 | _, _ => false
def yY (tab : xL) (a k : Nat) : Nat := match Nat.blt a tab.fold.length with
 | true => (((tab.fold[a]?).getD [])[k]?).getD 0
 | false => a
def ML (tab : xL) (i : Nat) : Nat := (tab.acc[i]?).getD 0
def aIZ (tab : xL) (n : Nat) : Bool :=
 ((List.range tab.next.length).all fun i => (List.range n).all fun k => match (tab.next[i]?).bind (·[k]?) with
  | some t => Nat.beq (ML tab t.1) (yY tab (ML tab i) k)
  | none => false) &&
 ((List.range tab.fold.length).all fun a => (List.range n).all fun x => (List.range n).all fun y => Nat.beq (yY tab (yY tab a x) y) (yY tab (yY tab a y) x))
def X6 (tab : xL) (n : Nat) : Nat := (List.range n).foldl (yY tab) (ML tab 0)
def U9 (r : R) : Bool := match r with | .code .normal _ => false | .code _ _ => true | _ => false
def KS (tab : xL) (d : Option Tmp) (a : Nat) : List S → Nat → Option (List R)
 | [], _ => some []
 | y :: ys, i => match Nat.beq (ML tab i) a with
  | true => ((aQO nt d y (.tuple #[.bool false])).bind (aI3 C self rd nt ops b2)).bind fun r => ok? (U9 r) <| (KS tab d a ys (i + 1)).bind fun rs => some (r :: rs)
  | false => KS tab d a ys (i + 1)
end
def aQK (nt : Nat) (d : Option Tmp) : Bool := match d with | none => true | some x => Nat.blt x nt
theorem EP : ∀ (l : List (Nat × aD)) (i : Nat) (o : aD) (t : T aD), iZ (l ++ [(i, o)]) t = (iZ l t).put i (some o)
 | [], _, _, _ => rfl
 | (j, p) :: l, i, o, t => EP l i o (t.put j (some p))
theorem aCU (next ro : Nat) (low high : List (Nat × aD)) (i : Nat) (o : aD) : aNJ next ro low (high ++ [(i, o)]) = (aNJ next ro low high).upd i o := by
 unfold aNJ Hp.upd
 rw [EP]
theorem bG.sub {base : Nat} {ρ : Ren} {hM hK : Hp} {w : World} (H : bG base ρ hM w) (hs : ∀ i o, hK.get i = some o → hM.get i = some o) (hn : hM.next = hK.next) (hr : hM.ro = hK.ro) : bG base ρ hK w :=
 ⟨fun i o hi => H.obj i o (hs i o hi), fun i j im jm o p hi hj => H.inj i j im jm o p (hs i o hi) (hs j p hj), fun i im h => by rw [← hn]; exact H.dom i im h, by rw [← hr]; exact H.fT, by rw [← hr, ← hn]; exact H.jQ⟩
theorem OL {α : Type} {x : Option α} (h : aH4 x = true) : x = none := by cases x with | none => rfl | some _ => cases h
theorem NJ {α : Type} {x : List α} (h : aO3 x = true) : x = [] := by cases x with | nil => rfl | cons _ _ => cases h
theorem kW {h : Hp} {b : Nat} {o : aD} (i : Nat) : (h.upd b o).get i = if i = b then some o else h.get i := by
 unfold Hp.get Hp.upd; simp only [T.get_put]
section
variable {C : bP} (hC : C.Ok) {self : Self} (hs : Sound C self)
include hC hs in
theorem aCV {rd rr : Option Nat} {nt m : Nat} {ops : Array Oper} {b2 : Code} {s s2 : S} {e : Ex} (he : aI3 C self rd nt ops b2 s = some (.code e s2)) (hsz : 0 < ops.size) {base : Nat} {ρ : Ren} {w : World} {a : Act}
  (H : bG base ρ s.h w) (ht : bX ρ nt s.tm a.tmps) (hd : fB ρ s.df a.defers) (hr : kY ρ rd rr) {Q : Exit → Act → World → Prop} (hq : ∀ ex a' w', oU base ρ nt s w e s2 ex a' w' → Q ex a' w') :
  wpOpsIn (bS rr) m C.P.P ops (Exit.then (b2.wpIn (bS rr) m C.P.P Q) Q) (List.range' 1 (ops.size - 1)) a w := by
 unfold aI3 at he
 obtain ⟨r, h1, he⟩ := aA he
 split at he
 ·rename_i s1
  refine uL hC hs (ops.size - 1) 1 rfl hsz h1 H ht hd hr ?_
  rintro ex a1 w1 ⟨kM, hex, hst, ht1, hd1⟩
  cases ex <;> simp only [jD] at hex
  obtain ⟨e', s', hr', k1⟩ := hs.code _ _ _ _ _ he
  cases hr'
  refine wpIn_mono (k1 base kM w1 a1 rr m hst.rel ht1 hd1 (hr.mono hst.ext)) ?_
  rintro ex a2 w2 ⟨qX, g1, g2, g3, g4⟩
  exact hq ex a2 w2 ⟨qX, g1, hst.trans H g2, g3, g4⟩
 ·cases he
theorem aNS {rr : Option Nat} {nt m n b r : Nat} {ops : Array Oper} {o : Oper} {it : Operand} {seen : List Nat} {es : List (Value × Value)} {tm : T Value} {h : Hp} {a : Act} (ho : ops[0]? = some o) (hop : o.op = .next it false) (hg : o.guard = none)
  (hit : gL tm it = some (.pointer (some ⟨b, 0, none⟩))) (hb : h.get b = some (.dU (some r) n seen)) (hm : h.get r = some (.map es)) (hn : es.length = n) (hro : h.ro ≤ b) {base : Nat} {ρ : Ren} {w : World}
  (H : bG base ρ h w) (ht : bX ρ nt tm a.tmps) (hd : fB ρ [] a.defers) {K : Act → World → Prop} {Q : Exit → Act → World → Prop}
  (hend : z8 n seen = [] → ∀ D9, eH nt tm o.dst (.tuple #[.bool false]) = some D9 → ∀ a', bX ρ nt D9 a'.tmps → fB ρ [] a'.defers → K a' w)
  (hturn : ∀ k e D9, k ∈ z8 n seen → es[k]? = some e → eH nt tm o.dst (.tuple #[.bool true, e.1, e.2]) = some D9 → ∀ a' w', Step base ρ h w ρ (h.upd b (.dU (some r) n (seen ++ [k]))) w' → bX ρ nt D9 a'.tmps → fB ρ [] a'.defers → K a' w')
  (hput : ∀ v, ∃ D9, eH nt tm o.dst v = some D9) : wpOpIn (bS rr) m C.P.P ops Q 0 K a w := by
 obtain ⟨a', hae, har⟩ := lN (a := ⟨b, 0, none⟩) rfl (pY ht it _ hit)
 obtain ⟨s1, s2, im, s3, s4, s5⟩ := har
 obtain ⟨hsh, hor⟩ := PZ (P := C.P.P) H hb hm hn s3 o.type
 have ha' : a' = ⟨im.blk, 0, none⟩ := addr_eq s2 s4 (by rw [hsh] at s5; simpa using s5)
 subst ha'
 unfold wpOpIn
 rw [ho]
 have hwant : Region.wanted o (yielded ops a.tmps) = true := by unfold Region.wanted; rw [hg]
 simp only [hwant, if_true]
 refine ⟨fun f _ => kR rr f, ?_⟩
 have M3 : o.semAt (bS rr).round a.eval = execOp a.eval o := Oper.semAt_eq _ _ _ (fun c hc => by rw [hop] at hc; cases hc)
 rw [M3]
 rcases hor with ⟨g1, g2⟩ | ⟨k, x, v', w', g1, g2, g3, g4, g5, g6⟩
 ·have hrun : (execOp a.eval o).run C.P.P w = .ok (.value (.tuple #[.bool false])) w := by
   simp only [execOp, hop, hae, Sem.run_bind, g2, Result.andThen_ok, Sem.run_pure]
  rw [hrun]
  obtain ⟨D9, lY⟩ := hput (.tuple #[.bool false])
  exact hend g1 D9 lY _ (ht.put lY (.tuple' (.cons (.bool _) (.nil ρ)))) (by rw [put_defers]; exact hd)
 ·have hrun : (execOp a.eval o).run C.P.P w = .ok (.value (.tuple #[.bool true, x.1, v'])) w' := by
   simp only [execOp, hop, hae, Sem.run_bind, g3, Result.andThen_ok, Sem.run_pure]
  rw [hrun]
  obtain ⟨D9, lY⟩ := hput (.tuple #[.bool true, x.1, x.2])
  exact hturn k x D9 g1 g2 lY _ w' (g6 hro) (ht.put lY (.tuple' (.cons (.bool _) (.cons (dM ρ g5) (.cons g4 (.nil ρ)))))) (by rw [put_defers]; exact hd)
end
theorem sH {s : S} {low : List (Nat × aD)} : ∀ {l : List Q0} {r : List S}, uO s low l = some r → ∀ (i : Nat), (∀ y, r[i]? = some y → ∃ x, l[i]? = some x ∧ aNR s low x = some y) ∧ (∀ x, l[i]? = some x → ∃ y, r[i]? = some y ∧ aNR s low x = some y)
 | [], r, e, i => by cases e; exact ⟨fun y h => by simp at h, fun y h => by simp at h⟩
 | x :: l, r, e, i => by
  unfold uO at e
  obtain ⟨y, hy, e⟩ := aA e
  obtain ⟨r2, hr, e⟩ := aA e
  cases e
  cases i with
  | zero => exact ⟨fun z h => by simp at h; subst h; exact ⟨x, rfl, hy⟩, fun z h => by simp at h; subst h; exact ⟨y, rfl, hy⟩⟩
  | succ i =>
   obtain ⟨g1, g2⟩ := sH hr i
   exact ⟨fun z h => g1 z (by simpa using h), fun z h => g2 z (by simpa using h)⟩
theorem Q4 {C : bP} {self : Self} {rd : Option Nat} {nt : Nat} {ops : Array Oper} {b2 : Code} {tab : xL} {s : S} {DL : List S} {d : Option Tmp} {it : Operand} {n : Nat} : ∀ {ys : List S} {rows : List (List (Nat × List Nat))}, GG C self rd nt ops b2 tab s DL d it n ys rows = true →
  ∀ (i : Nat) y, ys[i]? = some y → ∃ row, rows[i]? = some row ∧ rowOk C self rd nt ops b2 tab s DL d it n y row = true
 | [], rows, h, i, y, hy => by simp at hy
 | x :: ys, row :: rows, h, i, y, hy => by
  unfold GG at h
  obtain ⟨h1, h2⟩ := a2 h
  cases i with
  | zero => simp at hy; subst hy; exact ⟨row, rfl, h1⟩
  | succ i =>
   obtain ⟨r, g1, g2⟩ := Q4 h2 i y (by simpa using hy)
   exact ⟨r, by simpa using g1, g2⟩
 | _ :: _, [], h, _, _, _ => by cases h
theorem VA {C : bP} {self : Self} {rd : Option Nat} {nt : Nat} {ops : Array Oper} {b2 : Code} {tab : xL} {s : S} {DL : List S} {d : Option Tmp} {y : S} {n : Nat} : ∀ {k0 : Nat} {es : List (Value × Value)} {ts : List (Nat × List Nat)}, aI4 C self rd nt ops b2 tab s DL d y n k0 es ts = true →
  ∀ (k : Nat) e, es[k]? = some e → ∃ t, ts[k]? = some t ∧ aGW C self rd nt ops b2 tab s DL d y n (k0 + k) e t = true
 | k0, [], ts, h, k, e, he => by simp at he
 | k0, x :: es, t :: ts, h, k, e, he => by
  unfold aI4 at h
  obtain ⟨h1, h2⟩ := a2 h
  cases k with
  | zero => simp at he; subst he; exact ⟨t, rfl, h1⟩
  | succ k =>
   obtain ⟨r, g1, g2⟩ := VA h2 k e (by simpa using he)
   exact ⟨r, by simpa using g1, by rw [show k0 + (k + 1) = k0 + 1 + k by omega]; exact g2⟩
 | _, _ :: _, [], h, _, _, _ => by cases h
theorem GH {C : bP} {self : Self} {rd : Option Nat} {nt : Nat} {ops : Array Oper} {b2 : Code} {tab : xL} {d : Option Tmp} {a : Nat} : ∀ {ys : List S} {i0 : Nat} {rs : List R}, KS C self rd nt ops b2 tab d a ys i0 = some rs →
  ∀ (i : Nat) y, ys[i]? = some y → ML tab (i0 + i) = a → ∃ r, r ∈ rs ∧ (aQO nt d y (.tuple #[.bool false])).bind (aI3 C self rd nt ops b2) = some r ∧ U9 r = true
 | [], i0, rs, h, i, y, hy, _ => by simp at hy
 | x :: ys, i0, rs, h, i, y, hy, ha => by
  unfold KS at h
  split at h
  ·obtain ⟨r, h1, h⟩ := aA h
   obtain ⟨h2, h⟩ := aG h
   obtain ⟨rs2, h3, h⟩ := aA h
   cases h
   cases i with
   | zero => simp at hy; subst hy; exact ⟨r, .head _, h1, h2⟩
   | succ i =>
    obtain ⟨r2, g1, g2⟩ := GH h3 i y (by simpa using hy) (by rw [← ha]; congr 1; omega)
    exact ⟨r2, .tail _ g1, g2⟩
  ·rename_i hb
   cases i with
   | zero =>
    rw [Nat.add_zero] at ha
    rw [ha, Nat.beq_refl] at hb; cases hb
   | succ i => exact GH h i y (by simpa using hy) (by rw [← ha]; congr 1; omega)
theorem aGX {N : Nat} {olds : List Nat} {r n : Nat} {seen : List Nat} (hr : r < N) : aF0 N olds (.dU (some r) n seen) (.dU (some r) n seen) = true := by
 have : ∀ l : List Nat, dY Nat.beq l l = true := by
  intro l
  induction l with
  | nil => rfl
  | cons a l ih => unfold dY; rw [XL, Nat.beq_refl, ih]; rfl
 show (XZ N olds r r && (Nat.beq n n && dY Nat.beq seen seen)) = true
 rw [this, Nat.beq_refl, Bool.and_true, Bool.and_true]
 unfold XZ sgP
 rw [show Nat.blt r N = true from by rw [Nat.blt_eq]; exact hr]
 exact Nat.beq_refl r
theorem U7 {base : Nat} {lC kM : Ren} {w0 w1 : World} {s : S} {h1 : Hp} {s' y' : S} {nt n r ib : Nat} {seen : List Nat} {olds : List Nat} {x' : Q0} {low : List (Nat × aD)} {a : Act} {l0 : List Nat} (H0 : bG base lC s.h w0)
  (hlow : U4 s.h l0 = some low) (hst : aNR s low x' = some y') (hs : aCS nt s.h.next s.h.ro olds s' x' s.h y' = true) (hib : s.h.ro ≤ ib ∧ ib < s.h.next) (hr : r < s.h.next)
  (hg : ∀ i, h1.get i = if i = ib then some (.dU (some r) n seen) else s'.h.get i) (hno : s'.h.get ib = none) (st : Step base lC s.h w0 kM h1 w1) (ht : bX kM nt s'.tm a.tmps) :
  ∃ ρ, Step base lC s.h w0 ρ (y'.h.upd ib (.dU (some r) n seen)) w1 ∧ bX ρ nt y'.tm a.tmps ∧ Ext lC ρ := by
 unfold aCS at hs
 obtain ⟨_, hs⟩ := a2 hs
 obtain ⟨c1, hs⟩ := a2 hs
 obtain ⟨c2, hs⟩ := a2 hs
 obtain ⟨c3, hs⟩ := a2 hs
 obtain ⟨c4, hs⟩ := a2 hs
 obtain ⟨c5, c6⟩ := a2 hs
 unfold aNR at hst
 obtain ⟨tm, lY, hst⟩ := aA hst
 obtain ⟨high, hh, hst⟩ := aA hst
 cases hst
 rw [hh] at c6
 simp only at c6 c1 c2
 have aX5 : NT s.h.next s.h.ro olds h1 (high ++ [(ib, .dU (some r) n seen)]) = true := by
  unfold NT
  rw [List.all_append, Bool.and_eq_true]
  refine ⟨?_, ?_⟩
  ·rw [List.all_eq_true]
   intro z hz
   have := List.all_eq_true.1 c6 z hz
   obtain ⟨k1, k2⟩ := a2 this
   rw [k1, Bool.true_and]
   split at k2
   ·rename_i i hi
    split at k2
    ·rename_i o ho
     have : i ≠ ib := by rintro rfl; rw [hno] at ho; cases ho
     rw [hg, if_neg this, ho]
     exact k2
    ·cases k2
   ·cases k2
  ·rw [List.all_cons, List.all_nil, Bool.and_true]
   have e1 : aGS s.h.next olds ib = some ib := by
    unfold aGS
    rw [show Nat.blt ib s.h.next = true from by rw [Nat.blt_eq]; exact hib.2]
   rw [show Nat.ble s.h.ro ib = true from by rw [Nat.ble_eq]; exact hib.1, e1]
   simp only [Bool.true_and]
   rw [hg, if_pos rfl]
   exact aGX hr
 have := Step.ren H0 st (low := low) c4 c5 (aCT hlow) aX5
 rw [aCU] at this
 rw [← nb c3] at this
 exact ⟨_, this, U3 c1 (fun t v hv => T.lF c2 hv) ht, this.ext⟩
def QF (base : Nat) (ρ : Ren) (nt ib : Nat) (X : aD) (s : S) (w : World) (e : Ex) (s' : S) : Exit → Act → World → Prop := fun ex a' w' =>
 s'.h.get ib = none ∧ s.h.next ≤ s'.h.next ∧ s'.h.ro = s.h.ro ∧ ∃ ρ', jD ρ' e ex ∧ Step base ρ (s.h.upd ib X) w ρ' (s'.h.upd ib X) w' ∧ bX ρ' nt s'.tm a'.tmps ∧ fB ρ' s'.df a'.defers
theorem QF.after {base : Nat} {ρ kM : Ren} {nt ib : Nat} {X : aD} {s s1 s' : S} {w w1 : World} {e : Ex} (H : bG base ρ (s.h.upd ib X) w) (st : Step base ρ (s.h.upd ib X) w kM (s1.h.upd ib X) w1) (hn : s.h.next ≤ s1.h.next) (hr : s1.h.ro = s.h.ro) {ex : Exit} {a : Act} {w' : World}
  (h : QF base kM nt ib X s1 w1 e s' ex a w') : QF base ρ nt ib X s w e s' ex a w' := by
 obtain ⟨g1, g2, g3, qX, k1, k2, k3, k4⟩ := h
 exact ⟨g1, Nat.le_trans hn g2, g3.trans hr, qX, k1, st.trans H k2, k3, k4⟩
theorem aGY {base : Nat} {ρ ρ' : Ren} {ib : Nat} {X : aD} {h h' : Hp} {w w' : World} (H : bG base ρ (h.upd ib X) w) (hno : h.get ib = none) (hlt : ib < h.next) (hro : h.ro ≤ ib) (st : Step base ρ h w ρ' h' w') :
  h'.get ib = none ∧ Step base ρ (h.upd ib X) w ρ' (h'.upd ib X) w' := by
 have hno' : h'.get ib = none := by
  cases hh : h'.get ib with
  | none => rfl
  | some o =>
   obtain ⟨p, hp⟩ := st.olds ib o hlt hh
   rw [hno] at hp; cases hp
 have hb := H.fT
 have hb : base ≤ h.ro := hb
 refine ⟨hno', Step.frame (hK := h) (fun q => q = ib) H (fun q o hq => ?_) rfl rfl st (hM' := h'.upd ib X) ?_ (fun q hq => by rw [kW, if_neg hq]) rfl rfl⟩
 ·rw [kW, if_neg (by rintro rfl; rw [hno] at hq; cases hq)]; exact hq
 ·rintro q rfl
  exact ⟨hno, hlt, by omega, by rw [kW, kW, if_pos rfl, if_pos rfl], _, by rw [kW, if_pos rfl]⟩
theorem a6J {base : Nat} {ρ : Ren} {ib : Nat} {X : aD} {h : Hp} {w : World} (H : bG base ρ (h.upd ib X) w) (hno : h.get ib = none) : bG base ρ h w :=
 bG.sub H (fun q o hq => by rw [kW, if_neg (by rintro rfl; rw [hno] at hq; cases hq)]; exact hq) rfl rfl
theorem Q5 {r : Option R} {f : S → Option R} {q : R} (e : aI1 r f = some q) : (∃ s1, r = some (.code .normal s1) ∧ f s1 = some q) ∨ ∃ ex s1, ex ≠ .normal ∧ r = some (.code ex s1) ∧ q = .code ex s1 := by
 unfold aI1 at e
 obtain ⟨r1, h1, e1⟩ := aA e
 split at e1
 ·exact .inl ⟨_, h1, e1⟩
 ·rename_i ex s1 hne
  cases e1
  exact .inr ⟨ex, s1, fun h => hne (by rw [h]), h1, rfl⟩
 ·cases e1
section
variable {C : bP} (hC : C.Ok) {self : Self} (hs : Sound C self)
include hs in
theorem codeF {ib : Nat} {X : aD} {c : Code} {rd : Option Nat} {nt : Nat} {s : S} {e : Ex} {s2 : S} (he : self (.code c rd nt s) = some (.code e s2)) {base : Nat} {ρ : Ren} {w : World} {a : Act} {rr : Option Nat} {m : Nat} (H : bG base ρ (s.h.upd ib X) w) (hno : s.h.get ib = none) (hlt : ib < s.h.next) (hro : s.h.ro ≤ ib)
  (ht : bX ρ nt s.tm a.tmps) (hd : fB ρ s.df a.defers) (hr : kY ρ rd rr) : c.wpIn (bS rr) m C.P.P (QF base ρ nt ib X s w e s2) a w := by
 obtain ⟨e', s', hq, k⟩ := hs.code _ _ _ _ _ he
 cases hq
 refine wpIn_mono (k base ρ w a rr m (a6J H hno) ht hd hr) ?_
 rintro ex a1 w1 ⟨kM, g1, g2, g3, g4⟩
 obtain ⟨q1, q2⟩ := aGY H hno hlt hro g2
 exact ⟨q1, g2.next, g2.ro, kM, g1, q2, g3, g4⟩
include hC hs in
theorem aCW {ib r n k : Nat} {seen : List Nat} {rd : Option Nat} {nt : Nat} {rr : Option Nat} {m base : Nat} : ∀ (c : Code) (s : S) (e : Ex) (s2 : S), EO C self rd nt ib r n k c s = some (.code e s2) → ∀ (ρ : Ren) (w : World) (a : Act), bG base ρ (s.h.upd ib (.dU (some r) n (seen ++ [k]))) w → s.h.get ib = none → ib < s.h.next → s.h.ro ≤ ib →
  bX ρ nt s.tm a.tmps → fB ρ s.df a.defers → kY ρ rd rr → c.wpIn (bS rr) m C.P.P (QF base ρ nt ib (.dU (some r) n (seen ++ [k])) s w e s2) a w := by
 intro c
 induction c with
 | seq x y ihx ihy =>
  intro s e s2 he ρ w a H hno hlt hro ht hd hr
  unfold EO at he
  split at he
  ·rcases Q5 he with ⟨s1, h1, h2⟩ | ⟨ex, s1, hne, h1, h2⟩
   ·refine wpIn_seq (wpIn_mono (ihx s .normal s1 h1 ρ w a H hno hlt hro ht hd hr) ?_)
    rintro ex a1 w1 ⟨g1, g2, g3, kM, k1, k2, k3, k4⟩
    cases ex <;> simp only [jD] at k1
    exact wpIn_mono (codeF hs h2 k2.rel g1 (by omega) (by omega) k3 k4 (hr.mono k2.ext)) (fun ex a w h => h.after H k2 g2 g3)
   ·cases h2
    refine wpIn_seq (wpIn_mono (ihx s e s2 h1 ρ w a H hno hlt hro ht hd hr) ?_)
    intro ex' a1 w1 hq
    cases ex' with
    | normal =>
     obtain ⟨_, _, _, kM, k1, _⟩ := hq
     cases e <;> first | exact absurd rfl hne | (simp [jD] at k1)
    | _ => exact hq
  ·rcases Q5 he with ⟨s1, h1, h2⟩ | ⟨ex, s1, hne, h1, h2⟩
   ·refine wpIn_seq (wpIn_mono (codeF hs h1 H hno hlt hro ht hd hr) ?_)
    rintro ex a1 w1 ⟨g1, g2, g3, kM, k1, k2, k3, k4⟩
    cases ex <;> simp only [jD] at k1
    exact wpIn_mono (ihy s1 e s2 h2 kM w1 a1 k2.rel g1 (by omega) (by omega) k3 k4 (hr.mono k2.ext)) (fun ex a w h => h.after H k2 g2 g3)
   ·cases h2
    refine wpIn_seq (wpIn_mono (codeF hs h1 H hno hlt hro ht hd hr) ?_)
    intro ex' a1 w1 hq
    cases ex' with
    | normal =>
     obtain ⟨_, _, _, kM, k1, _⟩ := hq
     cases e <;> first | exact absurd rfl hne | (simp [jD] at k1)
    | _ => exact hq
 | block id b ih =>
  intro s e s2 he ρ w a H hno hlt hro ht hd hr
  unfold EO aQM at he
  obtain ⟨r1, h1, he⟩ := aA he
  split at he
  ·rename_i i s1
   refine wpIn_block (wpIn_mono (ih s (.exit i) s1 h1 ρ w a H hno hlt hro ht hd hr) ?_)
   rintro ex a1 w1 ⟨g1, g2, g3, kM, k1, k2, k3, k4⟩
   cases ex <;> simp only [jD] at k1
   subst k1
   split at he
   ·rename_i hi
    cases he
    have hi := Nat.eq_of_beq_eq_true hi
    simp only [Exit.inBlock, hi, if_true]
    exact ⟨g1, g2, g3, kM, trivial, k2, k3, k4⟩
   ·rename_i hi
    cases he
    have hne : i ≠ id := fun h => by subst h; simp at hi
    simp only [Exit.inBlock, hne, if_false]
    exact ⟨g1, g2, g3, kM, rfl, k2, k3, k4⟩
  ·rename_i ex s1 hne
   cases he
   refine wpIn_block (wpIn_mono (ih s e s2 h1 ρ w a H hno hlt hro ht hd hr) ?_)
   intro ex' a1 w1 hq
   cases ex' with
   | exit i =>
    obtain ⟨_, _, _, kM, k1, _⟩ := hq
    cases e <;> first | exact absurd rfl (hne _) | (simp [jD] at k1)
   | _ => exact hq
  ·cases he
 | region id ops dr =>
  intro s e s2 he ρ w a H hno hlt hro ht hd hr
  cases dr with
  | true => exact codeF hs (by simpa only [EO] using he) H hno hlt hro ht hd hr
  | false =>
   unfold EO at he
   split at he
   ·rename_i o rest hops
    split at he
    ·rename_i x hop
     obtain ⟨s1, h1, he⟩ := aA he
     have h0 : ops[0]? = some o := by rw [← Array.getElem?_toList, hops]; rfl
     have hsz : 0 < ops.size := (Array.getElem?_eq_some_iff.1 h0).1
     unfold bD2 at h1
     rw [hop] at h1
     simp only at h1
     obtain ⟨v, hv, h1⟩ := aA h1
     split at h1
     ·rename_i ad
      obtain ⟨c0, h1⟩ := aG h1
      obtain ⟨c1, c0⟩ := a2 c0
      obtain ⟨c0, c4⟩ := a2 c0
      obtain ⟨c2, c3⟩ := a2 c0
      obtain ⟨es, hes, h1⟩ := aA h1
      obtain ⟨c5, h1⟩ := aG h1
      obtain ⟨en, hen, h1⟩ := aA h1
      obtain ⟨tm, lY, h1⟩ := aA h1
      cases h1
      have hmap : s.h.get r = some (.map es) := by
       unfold aI0 at hes
       split at hes
       ·rename_i es' he'; cases hes; exact he'
       ·cases hes
      have rne : r ≠ ib := by intro e; rw [e, hno] at hmap; cases hmap
      have hg : o.guard = none := by
       unfold aI2 at c4
       split at c4
       ·assumption
       ·cases c4
      have bPC : iX C self rd nt ops o { s with h := s.h.upd ib (.dU (some r) n (seen ++ [k])) } = some (.code .normal { tm, df := s.df, h := s.h.upd ib (.dU (some r) n (seen ++ [k])) }) := by
       unfold iX
       rw [show bK ops ({ s with h := s.h.upd ib (.dU (some r) n (seen ++ [k])) } : S).tm o = true from by unfold bK; rw [hg]]
       simp only
       unfold iH
       rw [hop]
       simp only [NE, mI, hv, Option.bind_some]
       have hent : OW (s.h.upd ib (.dU (some r) n (seen ++ [k]))) (.pointer (some ad)) = some (.tuple #[en.1, en.2]) := by
        have hq : (s.h.upd ib (.dU (some r) n (seen ++ [k]))).get ad.block = some (.dU (some r) n (seen ++ [k])) := by rw [kW, if_pos (nb c1)]
        have hq2 : (s.h.upd ib (.dU (some r) n (seen ++ [k]))).get r = some (.map es) := by rw [kW, if_neg rne]; exact hmap
        have hl : (seen ++ [k]).getLast? = some k := by simp
        unfold OW
        rw [show addrOf (.pointer (some ad)) = some ad from by
         have hsp : ad.spot = none := qR c3
         unfold addrOf; simp only [hsp], Option.bind_some, c2]
        show (match (s.h.upd ib (.dU (some r) n (seen ++ [k]))).get ad.block with | some (.dU (some r) n seen) => _ | _ => none) = _
        rw [hq]
        simp only
        rw [hq2]
        simp only
        rw [c5, hl]
        simp only [hen, Option.bind_some]
        rfl
       rw [hent]
       simp only [aY, Option.bind_some, lY]
      refine wpIn_region ?_
      rw [List.range_eq_range', show ops.size = (ops.size - 1) + 1 by omega, List.range'_succ, wpOpsIn_cons]
      refine wS hC hs h0 bPC H ht hd hr ?_ (fun v v' ρ' a' w' hv => by cases hv)
      intro _ kM a1 w1 st1 ht1 hd1
      have hrest : ops.toList.drop 1 = rest := by rw [hops]; rfl
      refine uL hC hs (ops.size - 1) 1 rfl hsz (s := { tm, df := s.df, h := s.h }) (by rw [hrest]; exact he) (a6J st1.rel hno) ht1 hd1 (hr.mono st1.ext) ?_
      rintro ex a2 w2 ⟨qX, g1, g2, g3, g4⟩
      obtain ⟨q1, q2⟩ := aGY st1.rel hno hlt hro g2
      exact ⟨q1, g2.next, g2.ro, qX, g1, st1.trans H q2, g3, g4⟩
     ·cases h1
    ·exact codeF hs he H hno hlt hro ht hd hr
   ·exact codeF hs he H hno hlt hro ht hd hr
 | _ =>
  intro s e s2 he ρ w a H hno hlt hro ht hd hr
  exact codeF hs (by simpa only [EO] using he) H hno hlt hro ht hd hr
include hC hs in
theorem aCX {ib r n k : Nat} {seen : List Nat} {rd rr : Option Nat} {nt m : Nat} {ops : Array Oper} {b2 : Code} {s s2 : S} {e : Ex} (he : aQN C self rd nt ops b2 ib r n k s = some (.code e s2)) (hsz : 0 < ops.size) {base : Nat} {ρ : Ren} {w : World} {a : Act}
  (H : bG base ρ (s.h.upd ib (.dU (some r) n (seen ++ [k]))) w) (hno : s.h.get ib = none) (hlt : ib < s.h.next) (hro : s.h.ro ≤ ib) (ht : bX ρ nt s.tm a.tmps) (hd : fB ρ s.df a.defers) (hr : kY ρ rd rr) {Q : Exit → Act → World → Prop}
  (hq : ∀ ex a' w', QF base ρ nt ib (.dU (some r) n (seen ++ [k])) s w e s2 ex a' w' → Q ex a' w') :
  wpOpsIn (bS rr) m C.P.P ops (Exit.then (b2.wpIn (bS rr) m C.P.P Q) Q) (List.range' 1 (ops.size - 1)) a w := by
 unfold aQN at he
 obtain ⟨r1, h1, he⟩ := aA he
 split at he
 ·rename_i s1
  refine uL hC hs (ops.size - 1) 1 rfl hsz h1 (a6J H hno) ht hd hr ?_
  rintro ex a1 w1 ⟨kM, hex, hst, ht1, hd1⟩
  cases ex <;> simp only [jD] at hex
  obtain ⟨q1, q2⟩ := aGY H hno hlt hro hst
  have hn := hst.next
  have aFG := hst.ro
  refine wpIn_mono (aCW hC hs b2 s1 e s2 he kM w1 a1 q2.rel q1 (by omega) (by omega) ht1 hd1 (hr.mono hst.ext)) ?_
  intro ex a2 w2 h
  exact hq ex a2 w2 (h.after H q2 hn aFG)
 ·cases he
end
theorem VB : ∀ (n : Nat) {l : List Nat}, l.Nodup → (∀ k ∈ l, k < n) → l.length ≤ n
 | 0, l, _, h => by
  cases l with
  | nil => simp
  | cons a l => have := h a (.head _); omega
 | n + 1, l, hnd, h => by
  have h1 := VB n (hnd.erase n) (fun k hk => by
   obtain ⟨g1, g2⟩ := (hnd.mem_erase_iff).1 hk
   have := h k g2
   omega)
  have : l.length ≤ (l.erase n).length + 1 := by
   rw [List.length_erase]
   split <;> omega
  omega
theorem a09 {ρ : Ren} {ds : List Deferred} (h : fB ρ [] ds) : ds = [] := by cases ds with | nil => rfl | cons _ _ => exact h.elim
section
variable {C : bP} (hC : C.Ok) {self : Self} (hs : Sound C self)
include hC hs in
theorem aX8 {rd rr : Option Nat} {nt m id n : Nat} {ops : Array Oper} {b2 : Code} {o0 : Oper} {it : Operand} {tab : xL} {s : S} {low : List (Nat × aD)} {DL : List S} {rs : List R}
  (ho : ops[0]? = some o0) (hop : o0.op = .next it false) (hg : o0.guard = none) (hd0 : aQK nt o0.dst = true) (hib : s.h.ro ≤ tab.ib ∧ tab.ib < s.h.next) (hrn : tab.r < s.h.next) (hlow : U4 s.h tab.low = some low) (aNQ : uO s low tab.states = some DL)
  (hacc : aIZ tab n = true) (hrows : GG C self rd nt ops b2 tab s DL o0.dst it n DL tab.next = true) (bD4 : KS C self rd nt ops b2 tab o0.dst (X6 tab n) DL 0 = some rs)
  {base : Nat} {lC : Ren} {w0 : World} (H0 : bG base lC s.h w0) (hrd : kY lC rd rr) : ∀ (j : Nat) (seen : List Nat) (i : Nat) (y : S) (ρ : Ren) (w : World) (a : Act), j + seen.length = n → seen.Nodup → (∀ k ∈ seen, k < n) → DL[i]? = some y → ML tab i = seen.foldl (yY tab) (ML tab 0) →
   Step base lC s.h w0 ρ (y.h.upd tab.ib (.dU (some tab.r) n seen)) w → bX ρ nt y.tm a.tmps → fB ρ [] a.defers → (Code.loop (.seq (.region id ops false) b2)).wpIn (bS rr) m C.P.P (nM base lC nt s w0 rs) a w := by
 have hput : ∀ (tm : T Value) v, ∃ D9, eH nt tm o0.dst v = some D9 := by
  intro tm v
  refine xV fun x hx => ?_
  rw [hx] at hd0
  unfold aQK at hd0
  rwa [Nat.blt_eq] at hd0
 have hsz : 0 < ops.size := (Array.getElem?_eq_some_iff.1 ho).1
 intro j
 induction j using Nat.strongRecOn with
 | ind j ih =>
 intro seen i y ρ w a hj hnd hlt hy ha st ht hd
 obtain ⟨row, hrow, hok⟩ := Q4 hrows i y hy
 obtain ⟨xs, hxs, aNT⟩ := (sH aNQ i).1 y hy
 obtain ⟨ydf, yro⟩ : y.df = [] ∧ y.h.ro = s.h.ro ∧ s.h.next ≤ y.h.next := by
  unfold aNR at aNT
  obtain ⟨tm, _, aNT⟩ := aA aNT
  obtain ⟨high, _, aNT⟩ := aA aNT
  cases aNT
  exact ⟨rfl, rfl, Nat.le_add_right _ _⟩
 obtain ⟨yro, ynx⟩ := yro
 unfold rowOk at hok
 obtain ⟨k1, hok⟩ := a2 hok
 obtain ⟨k2, k3⟩ := a2 hok
 have yib := OL k1
 have hit : gL y.tm it = some (.pointer (some ⟨tab.ib, 0, none⟩)) := by
  split at k2
  ·rename_i ad he
   obtain ⟨c1, k2⟩ := a2 k2
   obtain ⟨c2, c3⟩ := a2 k2
   rw [he, addr_eq (qR c3) (nb c1) (nb c2)]
  ·cases k2
 split at k3
 case h_2 => cases k3
 rename_i es hes
 obtain ⟨c1, c2⟩ := a2 k3
 have hn := nb c1
 have hmap : y.h.get tab.r = some (.map es) := by
  unfold aI0 at hes
  split at hes
  ·rename_i es' he; cases hes; exact he
  ·cases hes
 have rne : tab.r ≠ tab.ib := by intro e; rw [e, yib] at hmap; cases hmap
 have fib : (y.h.upd tab.ib (.dU (some tab.r) n seen)).get tab.ib = some (.dU (some tab.r) n seen) := by rw [kW, if_pos rfl]
 have bPE : (y.h.upd tab.ib (.dU (some tab.r) n seen)).get tab.r = some (.map es) := by rw [kW, if_neg rne]; exact hmap
 have hbr := H0.fT
 refine vL yO (wpIn_seq (wpIn_region ?_))
 rw [List.range_eq_range', show ops.size = (ops.size - 1) + 1 by omega, List.range'_succ, wpOpsIn_cons]
 refine aNS ho hop hg hit fib bPE hn (by show y.h.ro ≤ tab.ib; rw [yro]; exact hib.1) st.rel ht hd ?_ ?_ (hput y.tm)
 ·-- no entry is left
  intro hleft D9 lY a1 ht1 hd1
  have hall : ∀ k, k < n → k ∈ seen := by
   intro k hk
   apply Classical.byContradiction
   intro hh
   have := sW.2 ⟨hk, hh⟩
   rw [hleft] at this; cases this
  have hperm : seen.Perm (List.range n) := (List.perm_ext_iff_of_nodup hnd List.nodup_range).2 (fun k => ⟨fun h => List.mem_range.2 (hlt k h), fun h => hall k (List.mem_range.1 h)⟩)
  have hend : ML tab (0 + i) = X6 tab n := by
   rw [Nat.zero_add, ha]
   unfold X6
   refine List.Perm.foldl_eq' hperm (fun p hp q hq z => ?_) _
   unfold aIZ at hacc
   obtain ⟨_, hc⟩ := a2 hacc
   by_cases hz : z < tab.fold.length
   ·have := List.all_eq_true.1 (List.all_eq_true.1 (List.all_eq_true.1 hc z (List.mem_range.2 hz)) p (List.mem_range.2 (hlt p hp))) q (List.mem_range.2 (hlt q hq))
    exact nb this
   ·have hf : ∀ x, yY tab z x = z := by
     intro x
     unfold yY
     rw [show Nat.blt z tab.fold.length = false from by rw [← Bool.not_eq_true, Nat.blt_eq]; exact hz]
    rw [hf, hf, hf]
  obtain ⟨r, hr1, hr2, hr3⟩ := GH bD4 i y hy hend
  obtain ⟨y1, hy1, hr2⟩ := aA hr2
  unfold aQO at hy1
  rw [lY] at hy1
  cases hy1
  cases r with
  | code e s2 =>
   have hne : e ≠ .normal := by rintro rfl; cases hr3
   have hK : bG base ρ y.h w := bG.sub st.rel (fun q o hq => by
    rw [kW, if_neg (by rintro rfl; rw [yib] at hq; cases hq)]; exact hq) rfl rfl
   have st2 : Step base lC s.h w0 ρ y.h w := by
    have h1 := st.trans H0 (Step.del st.rel tab.ib)
    refine h1.O8 (fun q => ?_) rfl rfl
    unfold Hp.del Hp.get Hp.upd
    simp only [T.get_put]
    by_cases e : q = tab.ib
    ·rw [if_pos e, e]; exact yib
    ·rw [if_neg e, if_neg e]
   refine aCV hC hs hr2 hsz hK ht1 (by rw [show ({ y with tm := D9 } : S).df = [] from ydf]; exact hd1) (hrd.mono st.ext) ?_
   rintro ex a2 w2 ⟨ρ3, g1, g2, g3, g4⟩
   have hq : nM base lC nt s w0 rs ex a2 w2 := ⟨e, s2, hr1, ρ3, g1, st2.trans H0 g2, g3, g4⟩
   cases ex with
   | normal =>
    cases e with
    | normal => exact absurd rfl hne
    | _ => simp [jD] at g1
   | _ => exact hq
  | _ => cases hr3
 ·-- a turn
  intro k e D9 hk he lY a1 w1 sta ht1 hd1
  obtain ⟨hkn, hks⟩ := sW.1 hk
  obtain ⟨t, hts, aNU⟩ := VA c2 k e he
  unfold aGW at aNU
  split at aNU
  case h_2 => cases aNU
  rename_i s' x' y' hturn hx' hy'
  unfold a1A aQO at hturn
  rw [lY] at hturn
  simp only [Option.map_some, Option.bind_some] at hturn
  have stM : Step base ρ (y.h.upd tab.ib (.dU (some tab.r) n seen)) w ρ (y.h.upd tab.ib (.dU (some tab.r) n (seen ++ [k]))) w1 := by
   refine sta.O8 (fun q => ?_) rfl rfl
   rw [kW, kW, kW]
   by_cases e : q = tab.ib
   ·rw [if_pos e, if_pos e]
   ·rw [if_neg e, if_neg e, if_neg e]
  have hsub : ∀ q o, y.h.get q = some o → (y.h.upd tab.ib (.dU (some tab.r) n (seen ++ [k]))).get q = some o := by
   intro q o hq
   rw [kW, if_neg (by rintro rfl; rw [yib] at hq; cases hq)]; exact hq
  rw [Nat.zero_add] at hturn
  refine aCX (seen := seen) hC hs hturn hsz stM.rel yib (by show tab.ib < y.h.next; omega) (by show y.h.ro ≤ tab.ib; omega) ht1 (by rw [show ({ y with tm := D9 } : S).df = [] from ydf]; exact hd1) (hrd.mono st.ext) ?_
  rintro ex a3 w3 ⟨hno, _, _, ρ3, g1, hfr, g3, g4⟩
  cases ex <;> simp only [jD] at g1
  have hdf : s'.df = [] := by
   unfold aCS at aNU
   exact NJ (a2 aNU).1
  obtain ⟨x2, hx2, pE⟩ := (sH aNQ t.1).1 y' hy'
  rw [hx'] at hx2; cases hx2
  obtain ⟨ρ4, q1, q2, q3⟩ := U7 H0 hlow pE aNU hib hrn (fun q => kW q) hno ((st.trans H0 stM).trans H0 hfr) g3
  rw [hdf] at g4
  show (Code.loop (.seq (.region id ops false) b2)).wpIn (bS rr) m C.P.P (nM base lC nt s w0 rs) a3 w3
  have hlt2 : seen.length < n := by
   have h1 : (k :: seen).Nodup := List.nodup_cons.2 ⟨hks, hnd⟩
   have := VB n h1 (by
    intro z hz
    rcases List.mem_cons.1 hz with rfl | hz
    ·exact hkn
    ·exact hlt z hz)
   simp at this; omega
  refine ih (j - 1) (by omega) (seen ++ [k]) t.1 y' ρ4 w3 a3 (by simp; omega) ?_ ?_ hy' ?_ q1 q2 (by rw [a09 g4]; trivial)
  ·rw [List.nodup_append]
   exact ⟨hnd, by simp, by intro p hp q hq; simp at hq; subst hq; rintro rfl; exact hks hp⟩
  ·intro z hz
   rcases List.mem_append.1 hz with hz | hz
   ·exact hlt z hz
   ·simp at hz; subst hz; exact hkn
  ·rw [List.foldl_append]
   simp only [List.foldl_cons, List.foldl_nil]
   rw [← ha]
   unfold aIZ at hacc
   obtain ⟨hc, _⟩ := a2 hacc
   have hi : i < tab.next.length := (List.getElem?_eq_some_iff.1 hrow).1
   have := List.all_eq_true.1 (List.all_eq_true.1 hc i (List.mem_range.2 hi)) k (List.mem_range.2 hkn)
   rw [hrow] at this
   simp only [Option.bind_some] at this
   rw [hts] at this
   exact nb this
include hC hs in
end
end
end Go.bR
/-
  A region that draws its order, with one store: all orders lead to one state, by the sets of what was done.
-/
namespace Go.bR
def vEq : Nat → Value → Value → Bool
 | 0, _, _ => false
 | n + 1, u, v => match u with
  | .pointer (some a) => (match v with | .pointer (some b) => Nat.beq a.block b.block && (Nat.beq a.off b.off && (zZ a && zZ b)) | _ => false)
  | .pointer none => (match v with | .pointer none => true | _ => false)
  | .map (some r) => (match v with | .map (some r') => Nat.beq r r' | _ => false)
  | .map none => (match v with | .map none => true | _ => false)
  | .nilFunc => (match v with | .nilFunc => true | _ => false)
  | .nilIface => (match v with | .nilIface => true | _ => false)
  | .func f a b => (match v with | .func g c d => (match f with | .func x => (match g with | .func y => Nat.beq x y | _ => false) | .yield x => (match g with | .yield y => Nat.beq x y | _ => false) | _ => false) && (dY (vEq n) a.toList c.toList && dY (vEq n) b.toList d.toList) | _ => false)
  | .agg a => (match v with | .agg b => dY (vEq n) a.toList b.toList | _ => false)
  | .tuple a => (match v with | .tuple b => dY (vEq n) a.toList b.toList | _ => false)
  | .iface t x => (match v with | .iface u y => Nat.beq t u && vEq n x y | _ => false)
  | u => TR u v
theorem aMJ {a b : Addr} (h1 : a.block = b.block) (h2 : a.off = b.off) (h3 : a.spot = none) (h4 : b.spot = none) : a = b := by
 cases a; cases b; simp_all
theorem xX : ∀ (n : Nat) (u v : Value), vEq n u v = true → u = v
 | 0, _, _, h => by cases h
 | n + 1, u, v, h => by
  have ih := xX n
  unfold vEq at h
  split at h
  ·split at h
   ·obtain ⟨h1, h⟩ := a2 h
    obtain ⟨h2, h⟩ := a2 h
    obtain ⟨h3, h4⟩ := a2 h
    rw [aMJ (nb h1) (nb h2) (qR h3) (qR h4)]
   ·cases h
  ·split at h
   ·rfl
   ·cases h
  ·split at h
   ·rw [nb h]
   ·cases h
  ·split at h
   ·rfl
   ·cases h
  ·split at h
   ·rfl
   ·cases h
  ·split at h
   ·rfl
   ·cases h
  ·split at h
   ·obtain ⟨h1, h⟩ := a2 h
    obtain ⟨h2, h3⟩ := a2 h
    rw [FE ih h2, FE ih h3]
    split at h1
    ·split at h1
     ·rw [nb h1]
     ·cases h1
    ·split at h1
     ·rw [nb h1]
     ·cases h1
    ·cases h1
   ·cases h
  ·split at h
   ·rw [FE ih h]
   ·cases h
  ·split at h
   ·rw [FE ih h]
   ·cases h
  ·split at h
   ·obtain ⟨h1, h2⟩ := a2 h
    rw [nb h1, ih _ _ h2]
   ·cases h
  ·exact GN _ _ h
noncomputable section
def JL (nt : Nat) (a b : T Value) : Bool := (List.range nt).all fun t => match a.get t with
 | some u => (match b.get t with | some v => vEq 6 u v | none => false)
 | none => aH4 (b.get t)
theorem tO {ρ : Ren} {nt : Nat} {a b : T Value} {tmps : Array Value} (h : JL nt a b = true) (hb : T.lJ nt b = true) (ht : bX ρ nt a tmps) : bX ρ nt b tmps := by
 refine ⟨ht.1, fun t => ?_⟩
 have h2 := ht.2 t
 by_cases hn : t < nt
 ·have h1 := List.all_eq_true.1 h t (List.mem_range.2 hn)
  split at h1
  ·rename_i u hu
   split at h1
   ·rename_i v hv
    rw [hv, ← xX _ _ _ h1, ← hu]; exact h2
   ·cases h1
  ·rename_i hu
   rw [OL h1, ← hu]; exact h2
 ·have hv : b.get t = none := by
   cases hh : b.get t with
   | none => rfl
   | some v => exact absurd (T.lF hb hh) hn
  rw [hv, Option.getD_none, Array.getD_eq_getD_getElem?, Array.getElem?_eq_none (by rw [ht.1]; omega)]
  exact .tuple _ _ rfl (fun i x x' h1 _ => by simp at h1)
def NG : Op → Bool
 | .move _ | .assign _ | .pick .. | .load .. | .nilCheck _ | .binOp .. | .fieldAddr .. | .field .. | .indexAddr .. | .index .. | .extract .. | .build .. | .lookup .. => true
 | _ => false
theorem aMK {E : Env} {ev : Ev} {o : Oper} {h h' : Hp} {v : Value} (hc : NG o.op = true) (e : iH E ev o h = some (.val v h')) : h' = h := by
 have pure : ∀ {x : Option Value}, aY h x = some (.val v h') → h' = h := by
  intro x hx
  unfold aY at hx
  obtain ⟨u, _, hx⟩ := aA hx
  cases hx; rfl
 unfold NG at hc
 unfold iH at e
 split at hc
 all_goals first | (cases hc; done) | skip
 all_goals (rename_i hop; rw [hop] at e; simp only at e)
 ·exact pure e
 ·exact pure e
 ·unfold tJ op3 at e
  obtain ⟨a, _, e⟩ := aA e
  obtain ⟨b, _, e⟩ := aA e
  obtain ⟨c, _, e⟩ := aA e
  dsimp only at e
  split at e
  ·cases e; rfl
  ·cases e; rfl
  ·cases e
 ·unfold vX mI at e
  obtain ⟨a, _, e⟩ := aA e
  exact pure e
 ·unfold tK mI at e
  obtain ⟨a, _, e⟩ := aA e
  exact pure e
 ·unfold LB zG at e
  obtain ⟨a, _, e⟩ := aA e
  obtain ⟨b, _, e⟩ := aA e
  exact pure e
 ·unfold kH mI at e
  obtain ⟨a, _, e⟩ := aA e
  exact pure e
 ·unfold uX mI at e
  obtain ⟨a, _, e⟩ := aA e
  exact pure e
 ·unfold kI zG at e
  obtain ⟨a, _, e⟩ := aA e
  obtain ⟨b, _, e⟩ := aA e
  exact pure e
 ·unfold uY zG at e
  obtain ⟨a, _, e⟩ := aA e
  obtain ⟨b, _, e⟩ := aA e
  exact pure e
 ·unfold oO mI at e
  obtain ⟨a, _, e⟩ := aA e
  try dsimp only at e
  split at e
  ·exact pure e
  ·cases e
 ·unfold CL at e
  obtain ⟨a, _, e⟩ := aA e
  exact pure e
 ·unfold rC zG at e
  obtain ⟨a, _, e⟩ := aA e
  obtain ⟨b, _, e⟩ := aA e
  exact pure e
structure St1 where
 k : Nat
 t : TypeId
 x : Operand
 y : Operand
 vx : Value
 vy : Value
 h1 : Hp
section
variable (C : bP) (nt : Nat) (ops : Array Oper) (h0 : Hp) (st : Option St1)
def OM (mask i : Nat) : Bool := match ops[i]? with
 | some o => !(Nat.testBit mask i) && o.after.toList.all fun e => !(Region.binds .any e) || Nat.testBit mask e.on
 | none => false
def aAU (m : Nat) : List (Nat × T Value) → Option (T Value)
 | [] => none
 | (n, t) :: l => match Nat.beq n m with | true => some t | false => aAU m l
end
theorem TS {m : Nat} {t : T Value} : ∀ {l : List (Nat × T Value)}, aAU m l = some t → (m, t) ∈ l
 | [], h => by cases h
 | (n, u) :: l, h => by
  unfold aAU at h
  split at h
  ·rename_i hb
   cases h; rw [nb hb]; exact .head _
  ·exact .tail _ (TS h)
theorem aOS {ops : Array Oper} {listed listed' : Array Bool} {i : Nat} (hset : ∀ j, uQ listed' j = (uQ listed j || j == i)) (hi : uQ listed i = false) (hlt : i < ops.size) : left ops listed' + 1 = left ops listed := by
 unfold left
 have h1 : (List.range ops.size).filter (fun x => !uQ listed' x) = ((List.range ops.size).filter (fun x => !uQ listed x)).erase i := by
  rw [List.Nodup.erase_eq_filter (List.nodup_range.sublist List.filter_sublist), List.filter_filter]
  refine List.filter_congr (fun x _ => ?_)
  rw [hset, Bool.not_or, Bool.and_comm]; rfl
 rw [h1, List.length_erase_of_mem (List.mem_filter.2 ⟨List.mem_range.2 hlt, by rw [hi]; rfl⟩)]
 have := List.length_pos_of_mem (List.mem_filter (p := fun x => !uQ listed x).2 ⟨List.mem_range.2 hlt, by simp [hi]⟩)
 omega
section
variable {C : bP} (hC : C.Ok) {self : Self} (hs : Sound C self)
include hC hs in
include hC hs in
end
end
end Go.bR
/-
  A region that draws its order, with some operations that change the heap, one behind the other in all orders: by the sets of what was done.
-/
namespace Go.bR
noncomputable section
structure FH where
 k : Nat
 tm : T Value
 v : Value
 h1 : Hp
def aAV (C : bP) (self : Self) (o : Oper) (tm : T Value) (h : Hp) : Option (Value × Hp) := (iH C.P (gL tm) o h).bind fun r => match r with
 | .val v h' => some (v, h')
 | .call fn args => (pR C self fn args h).bind fun r => match r with | .ret v h' => some (v, h') | _ => none
 | _ => none
theorem aOT {C : bP} {self : Self} {rd : Option Nat} {nt : Nat} {ops : Array Oper} {o : Oper} {tm tm' : T Value} {h h' : Hp} {v : Value} (df : List Deferred) (hw : bK ops tm o = true) (e : aAV C self o tm h = some (v, h')) (hp : eH nt tm o.dst v = some tm') :
  iX C self rd nt ops o { tm, df, h } = some (.code .normal { tm := tm', df, h := h' }) := by
 unfold aAV at e
 obtain ⟨r, hr, e⟩ := aA e
 unfold iX
 rw [show bK ops ({ tm, df, h } : S).tm o = true from hw]
 simp only [hr, Option.bind_some]
 split at e
 ·cases e
  simp only [hp, Option.bind_some]
 ·obtain ⟨r2, hr2, e⟩ := aA e
  simp only [hr2, Option.bind_some]
  split at e
  ·cases e
   simp only [hp, Option.bind_some]
  ·cases e
 ·cases e
theorem aE6 {C : bP} {self : Self} {o : Oper} {tm oP : T Value} {h : Hp} (H : ∀ x ∈ o.op.operands, gL tm x = gL oP x) : aAV C self o tm h = aAV C self o oP h := by
 unfold aAV
 rw [wK H]
def OO : Hp → List FH → Nat → Hp
 | h0, [], _ => h0
 | h0, b :: l, mask => match Nat.testBit mask b.k with | true => OO b.h1 l mask | false => h0
def aH5 : List FH → Nat → Nat → Option FH
 | [], _, _ => none
 | b :: l, mask, i => match Nat.testBit mask b.k with
  | true => aH5 l mask i
  | false => match Nat.beq b.k i && l.all (fun c => !(Nat.testBit mask c.k) && !(Nat.beq c.k i)) with
   | true => some b
   | false => none
def aE7 (l : List FH) (i : Nat) : Bool := l.any fun b => Nat.beq b.k i
def JM (C : bP) (self : Self) (ops : Array Oper) : Hp → List FH → Prop
 | _, [] => True
 | h0, b :: l => (∃ o, ops[b.k]? = some o ∧ aAV C self o b.tm h0 = some (b.v, b.h1)) ∧ JM C self ops b.h1 l
theorem WJ (mask i j : Nat) : Nat.testBit (mask ||| 2 ^ i) j = (Nat.testBit mask j || decide (i = j)) := by
 rw [Nat.testBit_or, Nat.testBit_two_pow]
theorem aML {mask i : Nat} : ∀ (l : List FH) (h : Hp), l.all (fun c => !(Nat.testBit mask c.k) && !(Nat.beq c.k i)) = true → OO h l (mask ||| 2 ^ i) = h
 | [], h, _ => rfl
 | b :: l, h, ha => by
  have h1 := List.all_eq_true.1 ha b (.head _)
  simp only [Bool.and_eq_true, Bool.not_eq_true'] at h1
  have hb : Nat.testBit (mask ||| 2 ^ i) b.k = false := by
   rw [WJ, h1.1, Bool.false_or, decide_eq_false_iff_not]
   intro e
   rw [e, Nat.beq_refl] at h1
   exact absurd h1.2 (by simp)
  unfold OO
  rw [hb]
theorem TT {mask i : Nat} : ∀ (l : List FH) (h : Hp), aE7 l i = false → OO h l (mask ||| 2 ^ i) = OO h l mask
 | [], h, _ => rfl
 | b :: l, h, ha => by
  unfold aE7 at ha
  rw [List.any_cons, Bool.or_eq_false_iff] at ha
  have hb : Nat.testBit (mask ||| 2 ^ i) b.k = Nat.testBit mask b.k := by
   rw [WJ, decide_eq_false_iff_not.2, Bool.or_false]
   intro e
   rw [e, Nat.beq_refl] at ha
   cases ha.1
  unfold OO
  rw [hb]
  split
  ·exact TT l _ ha.2
  ·rfl
theorem aH6 {C : bP} {self : Self} {ops : Array Oper} {mask i : Nat} {b : FH} : ∀ {l : List FH} {h : Hp}, JM C self ops h l → aH5 l mask i = some b →
  ∃ o, ops[i]? = some o ∧ aAV C self o b.tm (OO h l mask) = some (b.v, b.h1) ∧ OO h l (mask ||| 2 ^ i) = b.h1
 | [], _, _, e => by cases e
 | c :: l, h, hb, e => by
  unfold aH5 at e
  split at e
  ·rename_i ht
   obtain ⟨o, h1, h2, h3⟩ := aH6 hb.2 e
   refine ⟨o, h1, ?_, ?_⟩
   ·unfold OO; rw [ht]; exact h2
   ·unfold OO
    rw [show Nat.testBit (mask ||| 2 ^ i) c.k = true by rw [WJ, ht, Bool.true_or]]
    exact h3
  ·rename_i ht
   split at e
   ·rename_i hc
    cases e
    obtain ⟨hk, hl⟩ := a2 hc
    have hk := nb hk
    subst hk
    obtain ⟨o, h1, h2⟩ := hb.1
    refine ⟨o, h1, ?_, ?_⟩
    ·unfold OO; rw [ht]; exact h2
    ·unfold OO
     rw [show Nat.testBit (mask ||| 2 ^ b.k) b.k = true by rw [WJ]; simp]
     exact aML l _ hl
   ·cases e
def a5F (a b : Option Value) : Bool := match a, b with
 | some u, some v => vEq 6 u v
 | _, _ => false
theorem aWU {a b : Option Value} (h : a5F a b = true) : a = b := by
 unfold a5F at h
 split at h
 ·rw [xX _ _ _ h]
 ·cases h
section
variable (C : bP) (self : Self) (rd : Option Nat) (nt : Nat) (ops : Array Oper) (h0 : Hp) (bs : List FH)
def aOU (mask : Nat) (tm : T Value) (i : Nat) : Option (T Value) := (ops[i]?).bind fun o =>
 match aE7 bs i with
 | true => (aH5 bs mask i).bind fun b => ok? (bK ops tm o && o.op.operands.toList.all (fun x => a5F (gL tm x) (gL b.tm x))) (eH nt tm o.dst b.v)
 | false => match bK ops tm o with
  | false => eH nt tm o.dst undef
  | true => ok? (NG o.op) <| (iH C.P (gL tm) o (OO h0 bs mask)).bind fun r => match r with
   | .val v _ => eH nt tm o.dst v
   | _ => none
def wQ (mask : Nat) (tm : T Value) : List Nat → List (Nat × T Value) → List (Nat × T Value)
 | [], out => out
 | i :: is, out => match OM ops mask i with
  | false => wQ mask tm is out
  | true => match aAU (mask ||| 2 ^ i) out with
   | some _ => wQ mask tm is out
   | none => match aOU C nt ops h0 bs mask tm i with
    | some tm' => wQ mask tm is ((mask ||| 2 ^ i, tm') :: out)
    | none => wQ mask tm is out
def aAW : List (Nat × T Value) → List (Nat × T Value) → List (Nat × T Value)
 | [], out => out
 | (m, t) :: l, out => aAW l (wQ C nt ops h0 bs m t (List.range ops.size) out)
def aOV (lev out : List (Nat × T Value)) : Bool := lev.all fun x => (List.range ops.size).all fun i => match OM ops x.1 i with
 | false => true
 | true => match aOU C nt ops h0 bs x.1 x.2 i, aAU (x.1 ||| 2 ^ i) out with
  | some tm', some t => JL nt tm' t && T.lJ nt t
  | _, _ => false
def GQ : Nat → List (Nat × T Value) → Option (Nat × T Value)
 | 0, lev => match lev with | [x] => some x | _ => none
 | n + 1, lev => let out := aAW C nt ops h0 bs lev []
  ok? (aOV C nt ops h0 bs lev out) (GQ n out)
def aAX : List Oper → Nat → S → Option (List FH)
 | [], _, _ => some []
 | o :: l, i, s => match bK ops s.tm o && !(NG o.op) with
  | true => (aAV C self o s.tm s.h).bind fun x => (eH nt s.tm o.dst x.1).bind fun tm => (aAX l (i + 1) { s with tm, h := x.2 }).bind fun r => some (⟨i, s.tm, x.1, x.2⟩ :: r)
  | false => (iX C self rd nt ops o s).bind fun r => match r with
   | .code .normal s1 => aAX l (i + 1) { s with tm := s1.tm }
   | _ => none
def WK (s : S) : Option R :=
 (aAX C self rd nt ops ops.toList 0 s).bind fun bs => (GQ C nt ops s.h bs ops.size [(0, s.tm)]).bind fun x => some (.code .normal { s with tm := x.2, h := OO s.h bs x.1 })
end
theorem OP {C : bP} {self : Self} {rd : Option Nat} {nt : Nat} {ops : Array Oper} : ∀ (l : List Oper) (i : Nat) (s : S) (bs : List FH), (∀ j o, l[j]? = some o → ops[i + j]? = some o) → aAX C self rd nt ops l i s = some bs → JM C self ops s.h bs
 | [], i, s, bs, _, e => by cases e; trivial
 | o :: l, i, s, bs, hl, e => by
  unfold aAX at e
  have hl' : ∀ j o, l[j]? = some o → ops[i + 1 + j]? = some o := fun j o' h => by
   have := hl (j + 1) o' (by simpa using h)
   rwa [show i + (j + 1) = i + 1 + j by omega] at this
  split at e
  ·obtain ⟨x, hx, e⟩ := aA e
   obtain ⟨tm, _, e⟩ := aA e
   obtain ⟨r, hr, e⟩ := aA e
   cases e
   exact ⟨⟨o, hl 0 o rfl, hx⟩, OP l (i + 1) _ r hl' hr⟩
  ·obtain ⟨r, _, e⟩ := aA e
   split at e
   ·have := OP l (i + 1) _ bs hl' e
    exact this
   ·cases e
theorem aE8 {C : bP} {nt : Nat} {ops : Array Oper} {h0 : Hp} {bs : List FH} {lev out : List (Nat × T Value)} (h : aOV C nt ops h0 bs lev out = true) {m : Nat} {t : T Value} (hm : (m, t) ∈ lev) {i : Nat} (hi : i < ops.size) (hr : OM ops m i = true) :
  ∃ tm' t', aOU C nt ops h0 bs m t i = some tm' ∧ (m ||| 2 ^ i, t') ∈ out ∧ JL nt tm' t' = true ∧ T.lJ nt t' = true := by
 have := List.all_eq_true.1 (List.all_eq_true.1 h _ hm) i (List.mem_range.2 hi)
 rw [hr] at this
 simp only at this
 split at this
 ·rename_i tm' t' h1 h2
  obtain ⟨g1, g2⟩ := a2 this
  exact ⟨tm', t', h1, TS h2, g1, g2⟩
 ·cases this
section
variable {C : bP} (hC : C.Ok) {self : Self} (hs : Sound C self)
theorem aOW {rd : Option Nat} {nt : Nat} {ops : Array Oper} {h0 : Hp} {bs : List FH} (hst : JM C self ops h0 bs) {mask : Nat} {tm tm' : T Value} {i : Nat} {o : Oper} (ho : ops[i]? = some o) (e : aOU C nt ops h0 bs mask tm i = some tm') (df : List Deferred) :
  iX C self rd nt ops o { tm, df, h := OO h0 bs mask } = some (.code .normal { tm := tm', df, h := OO h0 bs (mask ||| 2 ^ i) }) := by
 unfold aOU at e
 rw [ho] at e
 simp only [Option.bind_some] at e
 split at e
 ·obtain ⟨b, hb, e⟩ := aA e
  obtain ⟨e1, e⟩ := aG e
  obtain ⟨c1, c2⟩ := a2 e1
  obtain ⟨o', h1, h2, h3⟩ := aH6 hst hb
  rw [ho] at h1
  cases h1
  rw [h3]
  refine aOT df c1 ?_ e
  rw [aE6 (oP := b.tm) (fun x hx => aWU (List.all_eq_true.1 c2 x (by simpa using hx)))]
  exact h2
 ·rename_i hx
  rw [TT _ _ hx]
  split at e
  ·rename_i hw
   unfold iX
   rw [show bK ops ({ tm, df, h := OO h0 bs mask } : S).tm o = false from hw]
   simp only [e, Option.bind_some]
  ·rename_i hw
   obtain ⟨c1, e⟩ := aG e
   obtain ⟨r, hr, e⟩ := aA e
   split at e
   ·rename_i v h'
    have := aMK c1 hr
    subst this
    unfold iX
    rw [show bK ops ({ tm, df, h := OO h0 bs mask } : S).tm o = true from hw]
    simp only [hr, Option.bind_some, e]
   ·cases e
include hC hs in
theorem aMM {rd rr : Option Nat} {nt m : Nat} {ops : Array Oper} {h0 : Hp} {bs : List FH} {s : S} {fin : Nat × T Value} (aOX : kF ops = true) (hst : JM C self ops h0 bs) {base : Nat} {lC : Ren} {w0 : World} (H0 : bG base lC s.h w0) (hr : kY lC rd rr) :
  ∀ (fuel : Nat) (lev : List (Nat × T Value)) (listed : Array Bool) (mask : Nat) (tm : T Value) (ρ : Ren) (a : Act) (w : World), GQ C nt ops h0 bs fuel lev = some fin → (mask, tm) ∈ lev → listed.size = ops.size → (∀ i, i < ops.size → uQ listed i = Nat.testBit mask i) → left ops listed = fuel →
   Step base lC s.h w0 ρ (OO h0 bs mask) w → bX ρ nt tm a.tmps → fB ρ s.df a.defers →
   wpAnyIn (bS rr) m C.P.P .any ops (oU base lC nt s w0 .normal { s with tm := fin.2, h := OO h0 bs fin.1 }) fuel listed a w := by
 intro fuel
 induction fuel with
 | zero =>
  intro lev listed mask tm ρ a w hgo hm hsz hl hf stp ht hd
  have hL : ∀ i, i < ops.size → uQ listed i = true := by
   intro i hi
   cases hh : uQ listed i with
   | true => rfl
   | false =>
    have : i ∈ (List.range ops.size).filter fun i => !uQ listed i := List.mem_filter.2 ⟨by simpa using hi, by rw [hh]; rfl⟩
    have := List.length_pos_of_mem this
    unfold left at hf
    omega
  have FI : Region.ready .any ops listed = [] := by
   rw [List.eq_nil_iff_forall_not_mem]
   intro i hi
   obtain ⟨o, ho, h1, _⟩ := (wR hsz).1 hi
   rw [hL i (Array.getElem?_eq_some_iff.1 ho).1] at h1; cases h1
  unfold GQ at hgo
  split at hgo
  ·cases hgo
   simp only [List.mem_singleton] at hm
   subst hm
   exact ⟨FI, ρ, trivial, stp, ht, hd⟩
  ·cases hgo
 | succ fuel ih =>
  intro lev listed mask tm ρ a w hgo hm hsz hl hf stp ht hd
  unfold GQ at hgo
  obtain ⟨bMK, hgo⟩ := aG hgo
  refine ⟨fun FI => ?_, fun i hi => ?_⟩
  ·exfalso
   have hL := ready_nil aOX hsz FI
   have : left ops listed = 0 := by
    unfold left
    rw [List.length_eq_zero_iff, List.filter_eq_nil_iff]
    intro x hx h
    rw [hL x (by simpa using hx)] at h; cases h
   omega
  ·obtain ⟨o, ho, EA, hre⟩ := (wR hsz).1 hi
   have hio : i < ops.size := (Array.getElem?_eq_some_iff.1 ho).1
   have hmi : Nat.testBit mask i = false := by rw [← hl i hio]; exact EA
   have hrd : OM ops mask i = true := by
    unfold OM
    rw [ho]
    simp only [hmi, Bool.not_false, Bool.true_and, List.all_eq_true, Bool.or_eq_true, Bool.not_eq_true']
    intro e he
    cases hb : Region.binds .any e with
    | false => exact .inl rfl
    | true =>
     have := hre e (by simpa using he) hb
     refine .inr ?_
     have hlt : e.on < ops.size := by
      apply Classical.byContradiction
      intro hge
      have : uQ listed e.on = false := by
       unfold uQ
       rw [Array.getD_eq_getD_getElem?, Array.getElem?_eq_none (by omega)]; rfl
      have h9 := hre e (by simpa using he) hb
      rw [this] at h9; cases h9
     rw [← hl _ hlt]; exact this
   obtain ⟨tm', t', h1, h2, h3, h4⟩ := aE8 bMK hm hio hrd
   have hset : ∀ j, uQ (listed.setIfInBounds i true) j = (uQ listed j || j == i) := fun j => aH8 (by omega)
   have hop := aOW (self := self) (rd := rd) hst ho h1 s.df
   refine wS hC hs ho hop stp.rel ht hd (hr.mono stp.ext) ?_ (fun v v' ρ' a' w' hv => by cases hv)
   intro _ ρ' a' w' hst' ht' hd'
   refine ih _ _ (mask ||| 2 ^ i) t' ρ' a' w' hgo h2 (by rw [Array.size_setIfInBounds]; exact hsz) ?_ ?_ (stp.trans H0 hst') (tO h3 h4 ht') hd'
   ·intro j hj
    rw [hset, Nat.testBit_or, hl j hj]
    by_cases e : j = i
    ·subst e; rw [Nat.testBit_two_pow_self]; simp
    ·rw [Nat.testBit_two_pow_of_ne (Ne.symm e)]; simp [e]
   ·have := aOS (ops := ops) hset EA hio
    omega
include hC hs in
theorem GR {rd : Option Nat} {nt id : Nat} {ops : Array Oper} {s : S} {r : R} (he : (ok? (kF ops) (WK C self rd nt ops s)) = some r) : ∃ s', r = .code .normal s' ∧ ∀ base ρ w a rr m, bG base ρ s.h w → bX ρ nt s.tm a.tmps → fB ρ s.df a.defers → kY ρ rd rr →
  (Code.region id ops true).wpIn (bS rr) m C.P.P (oU base ρ nt s w .normal s') a w := by
 obtain ⟨aOX, he⟩ := aG he
 unfold WK at he
 obtain ⟨bs, hst, he⟩ := aA he
 obtain ⟨fin, hgo, he⟩ := aA he
 cases he
 refine ⟨_, rfl, fun base ρ w a rr m H ht hd hr => wpIn_mono (wpIn_region_any (Q := oU base ρ nt s { w with drawn := w.drawn + 1 } .normal { s with tm := fin.2, h := OO s.h bs fin.1 }) hC.mixed ?_) (fun ex a w h => h.after H (Step.draw H _))⟩
 have H0 : bG base ρ s.h { w with drawn := w.drawn + 1 } := H.u6 rfl
 have hl0 : ∀ i, uQ (Array.replicate ops.size false) i = false := by
  intro i
  unfold uQ
  rw [Array.getD_eq_getD_getElem?, Array.getElem?_replicate]
  split <;> rfl
 have hok : JM C self ops s.h bs := OP ops.toList 0 s bs (fun j o h => by rw [Nat.zero_add]; simpa using h) hst
 have hm0 : ∀ l, OO s.h l 0 = s.h := by
  intro l
  cases l with
  | nil => rfl
  | cons b l => unfold OO; rw [Nat.zero_testBit]
 refine aMM hC hs aOX hok H0 hr ops.size _ (Array.replicate ops.size false) 0 s.tm ρ a _ hgo (.head _) (by simp) (fun i _ => by rw [hl0, Nat.zero_testBit]) ?_ (by rw [hm0]; exact Step.refl H0) ht hd
 unfold left
 rw [show (List.range ops.size).filter (fun i => !uQ (Array.replicate ops.size false) i) = List.range ops.size from List.filter_eq_self.2 (fun i _ => by rw [hl0]; rfl)]
 simp
end
end
end Go.bR
/-
  The evaluator that goes through all orders, with tables for loops over maps and the rule for drawn regions; its answers kept.
-/
namespace Go.bR
noncomputable section
abbrev Lp := Code → Option Nat → Nat → S → Option (List R)
def nQ (P : Program) (lp : Lp) : Prop := ∀ c rd nt s rs, lp c rd nt s = some rs → ∀ base ρ w a rr m, bG base ρ s.h w → bX ρ nt s.tm a.tmps → fB ρ s.df a.defers → kY ρ rd rr →
 c.wpIn (bS rr) m P (nM base ρ nt s w rs) a w
def aPL (C : bP) (self : Self) (nd : FuncId → Bool) (lp : Lp) (sn : H8) : H8
 | .code c rd nt s => match lp c rd nt s with
  | some rs => some rs
  | none => aIG C self nd sn c rd nt s
 | j => aPM C self nd sn j
def aFY (C : bP) (self : Self) (nd : FuncId → Bool) (lp : Lp) : Nat → H8 := fun n => Nat.rec (fun _ => none) (fun _ sn => aPL C self nd lp sn) n
theorem qU {C : bP} (hC : C.Ok) {self : Self} (hs : Sound C self) (nd : FuncId → Bool) {lp : Lp} (hl : nQ C.P.P lp) : ∀ n, XK C (aFY C self nd lp n)
 | 0 => ⟨(fun _ _ _ _ _ e => (by cases e)), (fun _ _ _ _ e => (by cases e))⟩
 | n + 1 =>
  have ih := qU hC hs nd hl n
  ⟨(fun c rd nt s rs e => by
   have e' : aPL C self nd lp (aFY C self nd lp n) (.code c rd nt s) = some rs := e
   simp only [aPL] at e'
   cases h : lp c rd nt s with
   | some rs' => rw [h] at e'; cases e'; exact hl c rd nt s _ h
   | none => rw [h] at e'; exact aBR hC hs ih c rd nt s rs e'),
  (fun _ _ _ _ e => aBS (nd := nd) hC hs ih e)⟩
def aBT (a b : aD) : Bool := match a with
 | .cells c t s => (match b with | .cells d u r => dY (vEq 6) c d && (Nat.beq t u && wY s r) | _ => false)
 | .map es => (match b with | .map es' => dY (fun x y => vEq 6 x.1 y.1 && vEq 6 x.2 y.2) es es' | _ => false)
 | .uR x => (match b with | .uR y => FF x y | _ => false)
 | _ => false
theorem aBU (a b : aD) (e : aBT a b = true) : a = b := by
 unfold aBT at e
 split at e
 ·split at e
  ·obtain ⟨e1, e⟩ := a2 e
   obtain ⟨e2, e3⟩ := a2 e
   rw [lW (xX 6) e1, nb e2, vB e3]
  ·cases e
 ·split at e
  ·rw [lW (fun x y h => Prod.ext (xX 6 _ _ (a2 h).1) (xX 6 _ _ (a2 h).2)) e]
  ·cases e
 ·split at e
  ·rw [sP _ _ e]
  ·cases e
 ·cases e
def H9 (hs : List (Nat × aD)) (h : Hp) : Bool := List.rec true (fun x _ ih => match h.get x.1 with | some o => dL (aBT x.2 o) ih false | none => false) hs
theorem yN {h : Hp} : ∀ {hs : List (Nat × aD)}, H9 hs h = true → ∀ i o, (i, o) ∈ hs → h.get i = some o
 | [], _, i, o, hm => by cases hm
 | (j, u) :: hs, e, i, o, hm => by
  have e' : (match h.get j with | some o => dL (aBT u o) (H9 hs h) false | none => false) = true := e
  split at e'
  ·rename_i p hp
   rw [XL] at e'
   obtain ⟨e1, e2⟩ := a2 e'
   rcases List.mem_cons.1 hm with h | h
   ·cases h; rw [hp, aBU _ _ e1]
   ·exact yN e2 i o h
  ·cases e'
def gI (P : Program) (f : FuncId) (nI : List Value) (N : Nat) (hs : List (Nat × aD)) (Q : Value → Hp → Prop) : Prop := Enters P f ∧ ∀ base ρ w args' m, bG base ρ (hpAt N hs) w → dF ρ nI args'.toList →
 CallsIn Fence.wide m P f args' w (fun en w' => ∃ v h, Q v h ∧ AR base ρ (hpAt N hs) w (.ret v h) en w')
def aIH (v : Value) (N' : Nat) (news : List (Nat × aD)) (r : R) : Bool := match r with
 | .ret u h => vEq 6 u v && (Nat.ble h.next N' && H9 news h)
 | _ => false
def nU (v : Value) (N' : Nat) (news : List (Nat × aD)) (u : Value) (h : Hp) : Prop := u = v ∧ h.next ≤ N' ∧ ∀ i o, (i, o) ∈ news → h.get i = some o
theorem aBV {v : Value} {N' : Nat} {news : List (Nat × aD)} {r : R} (e : aIH v N' news r = true) : ∃ h, r = .ret v h ∧ nU v N' news v h := by
 unfold aIH at e
 split at e
 ·rename_i u h
  obtain ⟨e1, e⟩ := a2 e
  obtain ⟨e2, e3⟩ := a2 e
  have := xX 6 _ _ e1
  subst this
  exact ⟨h, rfl, rfl, Nat.le_of_ble_eq_true e2, yN e3⟩
 ·cases e
def sD (x : Option R) (v : Value) (N' : Nat) (news : List (Nat × aD)) : Bool := match x with | some r => aIH v N' news r | none => false
def aFZ (x : Option (List R)) (v : Value) (N' : Nat) (news : List (Nat × aD)) : Bool := match x with | some rs => rs.all (aIH v N' news) | none => false
theorem dN {C : bP} {self : Self} (hs' : Sound C self) {f : FuncId} {N N' : Nat} {nI : List Value} {hs news : List (Nat × aD)} {v : Value} (e : sD (self (.call f nI.toArray (hpAt N hs))) v N' news = true) : gI C.P.P f nI N hs (nU v N' news) := by
 unfold sD at e
 split at e
 ·rename_i r hr
  obtain ⟨h, rfl, hq⟩ := aBV e
  obtain ⟨g1, g2⟩ := hs'.call f nI.toArray _ _ hr
  exact ⟨g1, fun base ρ w args' m H hl => (g2 base ρ w args' m H (by simpa using hl)).mono fun en w' q => ⟨v, h, hq, q⟩⟩
 ·cases e
theorem rG {C : bP} {sn : H8} (hn : XK C sn) {f : FuncId} {N N' : Nat} {nI : List Value} {hs news : List (Nat × aD)} {v : Value} (e : aFZ (sn (.call f nI.toArray (hpAt N hs))) v N' news = true) : gI C.P.P f nI N hs (nU v N' news) := by
 unfold aFZ at e
 split at e
 ·rename_i rs hr
  obtain ⟨g1, g2⟩ := hn.call f nI.toArray _ _ hr
  refine ⟨g1, fun base ρ w args' m H hl => (g2 base ρ w args' m H (by simpa using hl)).mono ?_⟩
  rintro en w' ⟨r, hm, q⟩
  obtain ⟨h, rfl, hq⟩ := aBV (List.all_eq_true.1 e r hm)
  exact ⟨v, h, hq, q⟩
 ·cases e
def aPN (f : FuncId) (nI : List Value) (hs : List (Nat × aD)) (N : Nat) (v : Value) (news : List (Nat × aD)) (N' : Nat) (gB : FuncId → Array Value → Hp → Option (Value × Hp)) : FuncId → Array Value → Hp → Option (Value × Hp) :=
 fun g args h => cond (Nat.beq f g) (dL (dY (vEq 6) nI args.toList) (dL (Nat.beq h.next N) (dL (H9 hs h) (some (v, ⟨N', h.ro, iZ news h.aK⟩)) none) none) none) none |> fun r => match r with | some x => some x | none => gB g args h
theorem XM {C : bP} (hC : C.Ok) {f : FuncId} {N N' : Nat} {nI : List Value} {hs news : List (Nat × aD)} {v : Value} (hlow : hs.all (fun x => Nat.blt x.1 N) = true) (hnew : news.all (fun x => Nat.ble N x.1) = true) (hNN : Nat.ble N N' = true)
  (e : gI C.P.P f nI N hs (nU v N' news)) : bP.Ok { C with gB := aPN f nI hs N v news N' C.gB } := by
 refine ⟨hC.env, hC.fn, ?_, hC.mixed⟩
 intro g args h u h' eo
 simp only [aPN] at eo
 split at eo
 case h_2 => exact hC.gB g args h u h' eo
 rename_i x hx
 cases eo
 cases hb : Nat.beq f g with
 | false => rw [hb] at hx; cases hx
 | true =>
 rw [hb] at hx
 obtain rfl := Nat.eq_of_beq_eq_true hb
 simp only [cond_true] at hx
 obtain ⟨k1, hx1⟩ := gN hx
 obtain ⟨k2, hx2⟩ := gN hx1
 obtain ⟨k3, hx3⟩ := gN hx2
 cases hx3
 have hargs := lW (xX 6) k1
 have hN := Nat.eq_of_beq_eq_true k2
 obtain ⟨g1, g2⟩ := e
 refine ⟨g1, fun base ρ w args' m H hl => ?_⟩
 have low : ∀ i o, (i, o) ∈ hs → i < N := by
  intro i o hm
  have := (List.all_eq_true.1 hlow) _ hm
  rw [Nat.blt_eq] at this; exact this
 have HR : bG N ρ (hpAt N hs) w := by
  refine ⟨?_, ?_, ?_, Nat.le_refl _, Nat.le_refl _⟩
  ·intro i o hi
   have hm := xC hi
   obtain ⟨im, O, r1, r2, r3⟩ := H.obj i _ (yN k3 i _ hm)
   have hi' := low i o hm
   exact ⟨im, O, r1, r2, r3.mono (Ext.refl ρ) (fun hb => by omega)⟩
  ·intro i j im jm o p hi _ _ _ _ hb
   have := low i o (xC hi)
   omega
  ·intro i im hi
   have := H.dom i im hi
   exact ⟨by show i < N; omega, this.2⟩
 have hl' : dF ρ nI args'.toList := by
  rw [← hargs] at hl; simpa using hl
 refine (g2 N ρ w args' m HR hl').mono ?_
 rintro en w' ⟨v1, hf, ⟨rfl, hnx, hall⟩, v', ρ', rfl, st, hvr⟩
 have aPO : ∀ b, ¬ Wr ρ (hpAt N hs) b := by
  rintro b ⟨i, o, im, hi, hro, _⟩
  have := low i o (xC hi)
  have aFF : N ≤ i := hro
  omega
 have hNN : N ≤ N' := Nat.le_of_ble_eq_true hNN
 have roN : h.ro ≤ N := by have := H.jQ; omega
 have IA : ∀ i o, (iZ news h.aK).get i = some o → (N ≤ i ∧ hf.get i = some o) ∨ (i < N ∧ h.get i = some o) := by
  intro i o hi
  by_cases hiN : i < N
  ·rw [PV news h.aK i hnew hiN] at hi
   exact .inr ⟨hiN, hi⟩
  ·rcases oF news h.aK i o hi with hm | hm
   ·exact .inl ⟨by omega, hall i o hm⟩
   ·have := H.lt (i := i) (o := o) hm
    omega
 have a03 : ∀ i im, N ≤ i → ρ i = some im → False := by
  intro i im hi hr
  have := (H.dom i im hr).1
  omega
 have rel : bG base ρ' ⟨N', h.ro, iZ news h.aK⟩ w' := by
  refine ⟨?_, ?_, ?_, H.fT, by show h.ro ≤ N'; omega⟩
  ·intro i o hi
   rcases IA i o hi with ⟨h1, h2⟩ | ⟨h1, h2⟩
   ·obtain ⟨im, O, r1, r2, r3⟩ := st.rel.obj i o h2
    exact ⟨im, O, r1, r2, r3.mono (Ext.refl ρ') (fun _ => h1)⟩
   ·obtain ⟨im, O, r1, r2, r3⟩ := H.obj i o h2
    exact ⟨im, O, st.ext _ _ r1, st.keep _ _ r2 (aPO _), r3.mono st.ext (fun hb => hb)⟩
  ·intro i j im jm o p hi hj ri rj hij hb
   rcases IA i o hi with ⟨a1, a2⟩ | ⟨a1, a2⟩
   ·rcases IA j p hj with ⟨b1, b2⟩ | ⟨b1, b2⟩
    ·exact st.rel.inj i j im jm o p a2 b2 ri rj hij a1
    ·have hjm : jm.blk < w.heap.size := by
      obtain ⟨im2, O, r1, r2, r3⟩ := H.obj j p b2
      have := st.ext _ _ r1
      rw [rj] at this; cases this
      exact (H.dom _ _ r1).2
     rcases st.news i im ri with h1 | ⟨_, h1 | h1⟩
     ·exact (a03 i im a1 h1).elim
     ·omega
     ·exact (aPO _ h1).elim
   ·rcases IA j p hj with ⟨b1, b2⟩ | ⟨b1, b2⟩
    ·have him : im.blk < w.heap.size := by
      obtain ⟨im2, O, r1, r2, r3⟩ := H.obj i o a2
      have := st.ext _ _ r1
      rw [ri] at this; cases this
      exact (H.dom _ _ r1).2
     rcases st.news j jm rj with h1 | ⟨_, h1 | h1⟩
     ·exact (a03 j jm b1 h1).elim
     ·omega
     ·exact (aPO _ h1).elim
    ·obtain ⟨im2, O, r1, r2, r3⟩ := H.obj i o a2
     obtain ⟨jm2, O2, s1, s2, s3⟩ := H.obj j p b2
     have t1 := st.ext _ _ r1
     rw [ri] at t1; cases t1
     have t2 := st.ext _ _ s1
     rw [rj] at t2; cases t2
     exact H.inj i j im jm o p a2 b2 r1 s1 hij hb
  ·intro i im hi
   have := st.rel.dom i im hi
   exact ⟨by show i < N'; omega, this.2⟩
 refine ⟨v', ρ', rfl, ?_, hvr⟩
 refine ⟨st.ext, rel, fun b o hb _ => st.keep b o hb (aPO _), ?_, ?_, st.size, rfl, by show h.next ≤ N'; omega, st.os, st.tape, st.output⟩
 ·intro i im hi
  rcases st.news i im hi with h1 | ⟨h1, h2 | h2⟩
  ·exact .inl h1
  ·have h1' : N ≤ i := h1
   exact .inr ⟨by omega, .inl h2⟩
  ·exact (aPO _ h2).elim
 ·intro i o hi hg
  rcases IA i o hg with ⟨h1, h2⟩ | ⟨h1, h2⟩
  ·omega
  ·exact ⟨o, h2⟩
def eP (nI : List Value) (hs : List (Nat × aD)) (v : Value) : List Value → Hp → Option Value := fun args h =>
 dL (dY (vEq 6) nI args) (dL (H9 hs h) (some v) none) none
def bMW (N : Nat) (v : Value) : Bool := M8 N [] 6 v v
def bMX (N : Nat) (x : Nat × aD) : Bool := Nat.blt x.1 N && aF0 N [] x.2 x.2
theorem bU {P : Program} {f : FuncId} {N N' : Nat} {nI : List Value} {hs news : List (Nat × aD)} {v : Value} (hp : plain v = true) (ha : nI.all (bMW N) = true) (ho : hs.all (bMX N) = true)
  (e : gI P f nI N hs (nU v N' news)) : bO P f (eP nI hs v) := by
 obtain ⟨g1, g2⟩ := e
 intro args h u hu
 unfold eP at hu
 obtain ⟨k1, hu⟩ := gN hu
 obtain ⟨k2, hu⟩ := gN hu
 cases hu
 have hargs := lW (xX 6) k1
 subst hargs
 refine ⟨hp, g1, fun base ρ h2 w args' m H hsub hl => ?_⟩
 have low : ∀ i o, (i, o) ∈ hs → i < N ∧ aF0 N [] o o = true := by
  intro i o hm
  have := List.all_eq_true.1 ho _ hm
  obtain ⟨q1, q2⟩ := a2 this
  rw [Nat.blt_eq] at q1
  exact ⟨q1, q2⟩
 have HR : bG N (xD ρ N []) (hpAt N hs) w := by
  refine ⟨?_, ?_, ?_, Nat.le_refl _, Nat.le_refl _⟩
  ·intro i o hi
   have hm := xC hi
   obtain ⟨hin, hc⟩ := low i o hm
   obtain ⟨im, O, r1, r2, r3⟩ := H.obj i _ (hsub i _ (yN k2 i _ hm))
   refine ⟨im, O, ?_, r2, aBW (fun hb => by omega) hc r3⟩
   unfold xD
   rw [if_pos hin]; exact r1
  ·intro i j im jm o p hi _ _ _ _ hb
   have := (low i o (xC hi)).1
   omega
  ·intro i im hi
   unfold xD at hi
   split at hi
   ·exact ⟨‹_›, (H.dom i im hi).2⟩
   ·simp at hi
 have hl' : dF (xD ρ N []) nI args'.toList := ⟨hl.1, fun i x x' hx hx' => xE 6 (List.all_eq_true.1 ha x (List.mem_of_getElem? hx)) (hl.2 i x x' hx hx')⟩
 refine (g2 N _ w args' m HR hl').mono ?_
 rintro en w' ⟨v1, h1, ⟨rfl, _, _⟩, v', ρ', rfl, hst, hvr⟩
 obtain rfl := gD hvr hp
 refine ⟨rfl, fun b o hb => hst.keep b o hb ?_, hst.size, hst.os, hst.tape, hst.output⟩
 rintro ⟨i, o, im, hi, hro, _⟩
 have := (low i o (xC hi)).1
 have aFF : N ≤ i := hro
 omega
end
end Go.bR
/-
  As EngMemoL, drawn regions by EngConf2's rule.
-/
namespace Go.bR
noncomputable section
def aF1 (C : bP) (self : Self) : Lp := fun c rd nt s => match c with
 | .region _ ops true => match self (.code c rd nt s) with
  | some r => some [r]
  | none => (ok? (kF ops) (WK C self rd nt ops s)).bind fun r => some [r]
 | _ => none
theorem IB {C : bP} (hC : C.Ok) {self : Self} (hs : Sound C self) : nQ C.P.P (aF1 C self) := by
 intro c rd nt s rs e base ρ w a rr m H ht hd hr
 unfold aF1 at e
 split at e
 ·rename_i id ops
  split at e
  ·rename_i r h
   cases e
   obtain ⟨ex, s', rfl, k⟩ := hs.code _ _ _ _ _ h
   exact wpIn_mono (k base ρ w a rr m H ht hd hr) (fun ex a w h => ⟨_, _, .head _, h⟩)
  ·obtain ⟨r, h, e⟩ := aA e
   cases e
   obtain ⟨s', rfl, k⟩ := GR (id := id) hC hs h
   exact wpIn_mono (k base ρ w a rr m H ht hd hr) (fun ex a w h => ⟨_, _, .head _, h⟩)
 ·cases e
end
end Go.bR
/-
  Several kept answers of one function: the older ones are asked where the newer one has none.
-/
namespace Go.bR
noncomputable def rH (f : FuncId) (F : List Value → Hp → Option Value) (gB : FuncId → Array Value → Hp → Option (Value × Hp)) : FuncId → Array Value → Hp → Option (Value × Hp) :=
 fun g args h => cond (Nat.beq f g) (Option.rec (motive := fun _ => Option (Value × Hp)) (gB g args h) (fun v => some (v, h)) (F args.toList h)) (gB g args h)
theorem gU {C : bP} (hC : C.Ok) {f : FuncId} {F : List Value → Hp → Option Value} (hF : bO C.P.P f F) : bP.Ok { C with gB := rH f F C.gB } := by
 have hP := fJ hC hF
 refine ⟨hC.env, hC.fn, ?_, hC.mixed⟩
 intro g args h v h' e
 simp only [rH] at e
 cases hb : Nat.beq f g with
 | false => rw [hb] at e; exact hC.gB g args h v h' e
 | true =>
  rw [hb] at e
  simp only [cond_true] at e
  cases hf : F args.toList h with
  | none => rw [hf] at e; exact hC.gB g args h v h' e
  | some u =>
   rw [hf] at e
   refine hP.gB g args h v h' ?_
   show o9 f F C.gB g args h = some (v, h')
   unfold o9
   rw [hb]
   simp only [cond_true, hf]
   exact e
end Go.bR
/-
  A loop over a map by its table, the table's rows shown true piece by piece.
-/
namespace Go.bR
noncomputable section
structure bPA where
 id : Nat
 ops : Array Oper
 b2 : Code
 o0 : Oper
 it : Operand
 n : Nat
 low : List (Nat × aD)
 DL : List S
def aX7 (tab : xL) (c : Code) (nt : Nat) (s : S) : Option bPA := match c with
 | .loop (.seq (.region id ops false) b2) => match ops.toList with
  | o0 :: _ => match o0.op with
   | .next it false => ok? (aH4 o0.guard && (aO3 s.df && aQK nt o0.dst)) <| match s.h.get tab.ib with
    | some (.dU (some r) n []) => ok? (Nat.beq r tab.r && Nat.ble s.h.ro tab.ib) <|
     (U4 s.h tab.low).bind fun low => (uO s low tab.states).bind fun DL => some ⟨id, ops, b2, o0, it, n, low, DL⟩
    | _ => none
   | _ => none
  | _ => none
 | _ => none
section
variable (C : bP) (self : Self) (rd : Option Nat) (nt : Nat) (tab : xL) (c : Code) (s : S)
def aIY : Bool := match aX7 tab c nt s with
 | some x => (match tab.states, x.DL with
  | z :: _, y :: _ => aCS nt s.h.next s.h.ro [] { s with h := s.h.del tab.ib } z s.h y
  | _, _ => false) && (aIZ tab x.n && Nat.beq tab.next.length tab.states.length)
 | none => false
def aNP (i : Nat) : Bool := match aX7 tab c nt s with
 | some x => (match x.DL[i]?, tab.next[i]? with
  | some y, some row => rowOk C self rd nt x.ops x.b2 tab s x.DL x.o0.dst x.it x.n y row
  | _, _ => false)
 | none => false
def QZ : Nat → Nat → Bool
 | _, 0 => true
 | i, k + 1 => aNP C self rd nt tab c s i && QZ (i + 1) k
def U5 : Option (List R) := (aX7 tab c nt s).bind fun x => KS C self rd nt x.ops x.b2 tab x.o0.dst (X6 tab x.n) x.DL 0
end
theorem xM {C : bP} {self : Self} {rd : Option Nat} {nt : Nat} {tab : xL} {c : Code} {s : S} : ∀ {k i : Nat}, QZ C self rd nt tab c s i k = true → ∀ j, i ≤ j → j < i + k → aNP C self rd nt tab c s j = true
 | 0, i, _, j, h1, h2 => by omega
 | k + 1, i, h, j, h1, h2 => by
  unfold QZ at h
  obtain ⟨g1, g2⟩ := a2 h
  by_cases e : j = i
  ·rw [e]; exact g1
  ·exact xM g2 j (by omega) (by omega)
theorem U6 {C : bP} {self : Self} {rd : Option Nat} {nt : Nat} {ops : Array Oper} {b2 : Code} {tab : xL} {s : S} {DL : List S} {d : Option Tmp} {it : Operand} {n : Nat} : ∀ {ys : List S} {rows : List (List (Nat × List Nat))}, ys.length = rows.length →
  (∀ (i : Nat) y row, ys[i]? = some y → rows[i]? = some row → rowOk C self rd nt ops b2 tab s DL d it n y row = true) → GG C self rd nt ops b2 tab s DL d it n ys rows = true
 | [], [], _, _ => rfl
 | y :: ys, row :: rows, hl, h => by
  unfold GG
  rw [h 0 y row rfl rfl, U6 (ys := ys) (rows := rows) (by simpa using hl) (fun i y' row' h1 h2 => h (i + 1) y' row' (by simpa using h1) (by simpa using h2))]
  rfl
 | [], _ :: _, hl, _ => by simp at hl
 | _ :: _, [], hl, _ => by simp at hl
theorem IX {s : S} {low : List (Nat × aD)} : ∀ {l : List Q0} {r : List S}, uO s low l = some r → r.length = l.length
 | [], r, e => by cases e; rfl
 | x :: l, r, e => by
  unfold uO at e
  obtain ⟨y, _, e⟩ := aA e
  obtain ⟨r2, h2, e⟩ := aA e
  cases e
  simp [IX h2]
def WpC (P : Program) (c : Code) (rd : Option Nat) (nt : Nat) (s : S) (rs : List R) : Prop := ∀ base ρ w a rr m, bG base ρ s.h w → bX ρ nt s.tm a.tmps → fB ρ s.df a.defers → kY ρ rd rr → c.wpIn (bS rr) m P (nM base ρ nt s w rs) a w
theorem Q3 {C : bP} (hC : C.Ok) {self : Self} (hs : Sound C self) {tab : xL} {c : Code} {rd : Option Nat} {nt : Nat} {s : S} {rs : List R} (hh : aIY nt tab c s = true) (hr : ∀ i, i < tab.states.length → aNP C self rd nt tab c s i = true) (he : U5 C self rd nt tab c s = some rs) : WpC C.P.P c rd nt s rs := by
 intro base ρ w a rr m H ht hd hrd
 unfold U5 at he
 obtain ⟨x, hx, he⟩ := aA he
 unfold aIY at hh
 rw [hx] at hh
 simp only at hh
 obtain ⟨h1, hh⟩ := a2 hh
 obtain ⟨h2, h3⟩ := a2 hh
 have hrow : ∀ i, i < tab.states.length → ∃ y row, x.DL[i]? = some y ∧ tab.next[i]? = some row ∧ rowOk C self rd nt x.ops x.b2 tab s x.DL x.o0.dst x.it x.n y row = true := by
  intro i hi
  have := hr i hi
  unfold aNP at this
  rw [hx] at this
  simp only at this
  split at this
  ·rename_i y row g1 g2
   exact ⟨y, row, g1, g2, this⟩
  ·cases this
 unfold aX7 at hx
 split at hx
 case h_2 => cases hx
 rename_i id ops b2
 split at hx
 case h_2 => cases hx
 rename_i o0 rest hops
 split at hx
 case h_2 => cases hx
 rename_i it hop
 replace hx := aG hx
 obtain ⟨e1, hx⟩ := hx
 obtain ⟨c1, e1⟩ := a2 e1
 obtain ⟨c2, c3⟩ := a2 e1
 split at hx
 case h_2 => cases hx
 rename_i r n hgi
 replace hx := aG hx
 obtain ⟨e2, hx⟩ := hx
 obtain ⟨c4, c5⟩ := a2 e2
 replace hx := aA hx
 obtain ⟨low, hlow, hx⟩ := hx
 replace hx := aA hx
 obtain ⟨DL, aNQ, hx⟩ := hx
 cases hx
 simp only at h1 h2 he hrow
 obtain rfl := nb c4
 have hdf := NJ c2
 rw [hdf] at hd
 have hib : s.h.ro ≤ tab.ib ∧ tab.ib < s.h.next := ⟨Nat.le_of_ble_eq_true c5, H.lt hgi⟩
 have hrn : tab.r < s.h.next := by
  obtain ⟨im, O, g1, g2, g3⟩ := H.obj _ _ hgi
  cases g3 with
  | dU _ _ _ mm hsh hm => exact (H.dom _ _ hm).1
 have h0 : ops[0]? = some o0 := by
  rw [← Array.getElem?_toList, hops]; rfl
 split at h1
 case h_2 => cases h1
 rename_i z zs y ys hz hy0
 obtain ⟨x0, g1, g2⟩ := (sH aNQ 0).1 y rfl
 rw [hz] at g1
 simp only [List.getElem?_cons_zero, Option.some.injEq] at g1
 subst g1
 have hno : ({ s with h := s.h.del tab.ib } : S).h.get tab.ib = none := by
  show (s.h.del tab.ib).get tab.ib = none
  unfold Hp.del Hp.get
  simp only [T.get_put, if_true]
 obtain ⟨kM, q1, q2, q3⟩ := U7 (h1 := s.h) (seen := []) (n := n) H hlow g2 h1 hib hrn (fun q => by
  show s.h.get q = if q = tab.ib then _ else (s.h.del tab.ib).get q
  unfold Hp.del Hp.get
  simp only [T.get_put]
  by_cases e : q = tab.ib
  ·rw [if_pos e, e]; exact hgi
  ·rw [if_neg e, if_neg e]) hno (Step.refl H) ht
 have hlen := IX aNQ
 have hrows : GG C self rd nt ops b2 tab s (y :: ys) o0.dst it n (y :: ys) tab.next = true := by
  refine U6 (by rw [hlen, nb h3]) ?_
  intro i y' row' k1 k2
  have hi : i < tab.states.length := by rw [← hlen]; exact (List.getElem?_eq_some_iff.1 k1).1
  obtain ⟨y2, bXZ, j1, j2, j3⟩ := hrow i hi
  rw [k1] at j1; cases j1
  rw [k2] at j2; cases j2
  exact j3
 exact aX8 hC hs h0 hop (OL c1) c3 hib hrn hlow aNQ h2 hrows he H hrd n [] 0 y kM w a (by simp) List.nodup_nil (by intro k hk; cases hk) rfl rfl q1 q2 (by rw [a09 hd]; trivial)
theorem U8 {α : Type} {x : Option (List α)} (h : x.isSome = true) : x = some (x.getD []) := by cases x with | none => cases h | some _ => rfl
def FL (nt : Nat) (a b : aD) : Bool := match a with
 | .loop st p tm n ps UH body d => (match b with
  | .loop st' p' tm' n' ps' a6F body' d' => a6E st st' && (BN p && (BN p' && (Nat.beq n n' && (JL n tm tm' && (T.lJ n tm' && (dY Nat.beq ps.toList ps'.toList && (mO UH a6F && (mO body body' && Nat.beq d d'))))))))
  | _ => false)
 | .dU (some r) n l => (match b with | .dU (some r') n' l' => Nat.beq r r' && (Nat.beq n n' && dY Nat.beq l l') | _ => false)
 | a => aBT a b
def CS (nt : Nat) : List (Nat × aD) → Hp → Bool
 | [], _ => true
 | x :: l, h => (match h.get x.1 with | some o => FL nt o x.2 | none => false) && CS nt l h
def MZ (nt next ro : Nat) (regs : List (Nat × Value)) (bl : List (Nat × aD)) : S := { tm := regs.foldl (fun t x => t.put x.1 (some x.2)) T.nil, df := [], h := ⟨next, ro, iZ bl T.nil⟩ }
def lpP (c0 : Code) (rd0 : Option Nat) (O1 next ro : Nat) (regs : List (Nat × Value)) (bl : List (Nat × aD)) (rs : List R) : Lp := fun c rd nt s =>
 ok? (Nat.beq nt O1 && (wY rd rd0 && (Nat.beq s.h.next next && (Nat.beq s.h.ro ro && (aO3 s.df && (JL nt s.tm (MZ nt next ro regs bl).tm && (T.lJ nt (MZ nt next ro regs bl).tm && (CS nt bl s.h && mO c c0)))))))) (some rs)
theorem FM {ρ : Ren} {im : NB} {wr : Prop} {nt : Nat} {a b : aD} {O : Obj} (h : FL nt a b = true) (hr : pJ ρ im wr a O) : pJ ρ im wr b O := by
 unfold FL at h
 split at h
 ·split at h
  ·obtain ⟨h1, h⟩ := a2 h
   obtain ⟨h2, h⟩ := a2 h
   obtain ⟨h3, h⟩ := a2 h
   obtain ⟨h4, h⟩ := a2 h
   obtain ⟨h5, h⟩ := a2 h
   obtain ⟨h6, h⟩ := a2 h
   obtain ⟨h7, h⟩ := a2 h
   obtain ⟨h8, h⟩ := a2 h
   obtain ⟨h9, h10⟩ := a2 h
   cases hr with
   | loop _ _ _ _ _ _ _ _ l dm k1 k2 k3 k4 k5 k6 k7 k8 =>
    have h4 := nb h4
    subst h4
    refine .loop _ _ _ _ _ _ _ _ l dm (by rw [← aIT h1]; exact k1) (by rw [vQ h3]; rw [vQ h2] at k2; exact k2) (tO h5 h6 k3)
     (by rw [← FE (fun _ _ => nb) h7]; exact k4) (by rw [← sQ _ _ h8]; exact k5) (by rw [← sQ _ _ h9]; exact k6) (by rw [← nb h10]; exact k7) k8
  ·cases h
 ·split at h
  ·obtain ⟨h1, h⟩ := a2 h
   obtain ⟨h2, h3⟩ := a2 h
   rw [← nb h1, ← nb h2, ← lW (fun _ _ => nb) h3]; exact hr
  ·cases h
 ·rw [← aBU _ _ h]; exact hr
theorem AB {nt : Nat} {h : Hp} : ∀ {l : List (Nat × aD)}, CS nt l h = true → ∀ i o, (i, o) ∈ l → ∃ o', h.get i = some o' ∧ FL nt o' o = true
 | [], _, i, o, hm => by cases hm
 | x :: l, e, i, o, hm => by
  unfold CS at e
  obtain ⟨e1, e2⟩ := a2 e
  rcases List.mem_cons.1 hm with h1 | h1
  ·subst h1
   split at e1
   ·rename_i o' ho; exact ⟨o', ho, e1⟩
   ·cases e1
  ·exact AB e2 i o h1
theorem aQL {P : Program} {c0 : Code} {rd0 : Option Nat} {O1 next ro : Nat} {regs : List (Nat × Value)} {bl : List (Nat × aD)} {rs : List R} (h : WpC P c0 rd0 O1 (MZ O1 next ro regs bl) rs) : nQ P (lpP c0 rd0 O1 next ro regs bl rs) := by
 intro c rd nt s rs' e base ρ w a rr m H ht hd hr
 unfold lpP at e
 replace e := aG e
 obtain ⟨e, e'⟩ := e
 cases e'
 obtain ⟨h1, e⟩ := a2 e
 obtain ⟨h2, e⟩ := a2 e
 obtain ⟨h3, e⟩ := a2 e
 obtain ⟨h4, e⟩ := a2 e
 obtain ⟨h5, e⟩ := a2 e
 obtain ⟨h6, e⟩ := a2 e
 obtain ⟨h7, e⟩ := a2 e
 obtain ⟨h8, h9⟩ := a2 e
 have h1 := nb h1
 have h2 := vB h2
 have h3 := nb h3
 have h4 := nb h4
 have h9 := sQ _ _ h9
 subst h1 h2 h3 h4 h9
 have hdf := NJ h5
 have sub : ∀ i o, (MZ nt s.h.next s.h.ro regs bl).h.get i = some o → ∃ o', s.h.get i = some o' ∧ FL nt o' o = true := by
  intro i o hi
  rcases oF bl T.nil i o hi with hm | hm
  ·exact AB h8 i o hm
  ·rw [T.get_nil] at hm; cases hm
 have H2 : bG base ρ (MZ nt s.h.next s.h.ro regs bl).h w := by
  refine ⟨?_, ?_, H.dom, H.fT, H.jQ⟩
  ·intro i o hi
   obtain ⟨o', g1, g2⟩ := sub i o hi
   obtain ⟨im, O, k1, k2, k3⟩ := H.obj i o' g1
   exact ⟨im, O, k1, k2, FM g2 k3⟩
  ·intro i j im jm o p hi hj e1 e2 hne hb
   obtain ⟨o', g1, _⟩ := sub i o hi
   obtain ⟨p', g2, _⟩ := sub j p hj
   exact H.inj i j im jm o' p' g1 g2 e1 e2 hne hb
 have wr : ∀ {b}, Wr ρ (MZ nt s.h.next s.h.ro regs bl).h b → Wr ρ s.h b := by
  rintro b ⟨i, o, im, g1, g2, g3, g4⟩
  obtain ⟨o', k1, _⟩ := sub i o g1
  exact ⟨i, o', im, k1, g2, g3, g4⟩
 refine wpIn_mono (h base ρ w a rr m H2 (tO h6 h7 ht) (by rw [hdf] at hd; exact hd) hr) ?_
 rintro ex a1 w1 ⟨e1, s1, hm, kM, g1, g2, g3, g4⟩
 refine ⟨e1, s1, hm, kM, g1, ⟨g2.ext, g2.rel, fun b o hb hn => g2.keep b o hb (fun h => hn (wr h)), ?_, ?_, g2.size, g2.ro, g2.next, g2.os, g2.tape, g2.output⟩, g3, g4⟩
 ·intro i im hi
  rcases g2.news i im hi with k | ⟨k1, k2⟩
  ·exact .inl k
  ·exact .inr ⟨k1, k2.imp id wr⟩
 ·intro i o hi ho
  obtain ⟨p, hp⟩ := g2.olds i o hi ho
  obtain ⟨p', hp', _⟩ := sub i p hp
  exact ⟨p', hp'⟩
def qV (l1 l2 : Lp) : Lp := fun c rd nt s => match l1 c rd nt s with
 | some rs => some rs
 | none => l2 c rd nt s
theorem bV {P : Program} {l1 l2 : Lp} (h1 : nQ P l1) (h2 : nQ P l2) : nQ P (qV l1 l2) := by
 intro c rd nt s rs e
 unfold qV at e
 cases h : l1 c rd nt s with
 | some rs' => rw [h] at e; cases e; exact h1 c rd nt s _ h
 | none => rw [h] at e; exact h2 c rd nt s rs e
def nV : Code → Option Code
 | .loop (.seq (.region i ops false) b) => match ops.toList with
  | o :: _ => (match o.op with | .next _ false => some (.loop (.seq (.region i ops false) b)) | _ => nV b)
  | [] => nV b
 | .seq a b => match nV a with | some c => some c | none => nV b
 | .cond _ a b => match nV a with | some c => some c | none => nV b
 | .block _ a => nV a
 | .loop a => nV a
 | .scope a => nV a
 | _ => none
def o5 : Code → Option (Array Tmp × Code × Code)
 | .rangeFunc _ ps a b => some (ps, a, b)
 | .seq a b => match o5 a with | some c => some c | none => o5 b
 | .cond _ a b => match o5 a with | some c => some c | none => o5 b
 | .block _ a => o5 a
 | .loop a => o5 a
 | .scope a => o5 a
 | _ => none
def nN (f : Func) : Code := (f.body.bind nV).getD .skip
def nW (f : Func) (nt : Nat) (regs : List (Nat × Value)) (d : Nat) : aD := match f.body.bind o5 with
 | some (ps, a, b) => .loop .ready none (regs.foldl (fun t x => t.put x.1 (some x.2)) T.nil) nt ps a b d
 | none => .uR false
end
end Go.bR
/-
  The evaluator with a second rule for regions that draw their order: by the sets of what was done.
-/
namespace Go.bR
noncomputable section
def FK (C : bP) (self : Self) (j : Job) : Option R := match fG C self j with
 | some r => some r
 | none => match j with
  | .code (.region _ ops true) rd nt s => ok? (kF ops) (WK C self rd nt ops s)
  | _ => none
def IU (C : bP) : Nat → Self := fun n => Nat.rec (fun _ => none) (fun _ self => FK C self) n
end
theorem aGT {C : bP} (hC : C.Ok) {self : Self} (hs : Sound C self) : Sound C (fG C self) :=
 ⟨(fun c rd nt s r e => MI hC hs (LP hC hs) (IV hC hs) c rd nt s r e), (fun _ _ _ _ e => QT hC hs e), (fun _ _ _ _ _ e => MJ (self := self) hC e)⟩
theorem LF {C : bP} (hC : C.Ok) {self : Self} (hs : Sound C self) : Sound C (FK C self) := by
 have h1 := aGT hC hs
 refine ⟨fun c rd nt s r e => ?_, fun f args h r e => ?_, fun f args u h r e => ?_⟩
 ·unfold FK at e
  split at e
  ·rename_i r' h; cases e; exact h1.code _ _ _ _ _ h
  ·split at e
   ·rename_i id ops rd' nt' s' hj
    cases hj
    obtain ⟨s', rfl, k⟩ := GR (id := id) hC hs e
    exact ⟨_, _, rfl, k⟩
   ·cases e
 ·unfold FK at e
  split at e
  ·rename_i r' h; cases e; exact h1.call _ _ _ _ h
  ·cases e
 ·unfold FK at e
  split at e
  ·rename_i r' h; cases e; exact h1.dcall _ _ _ _ _ h
  ·cases e
theorem fZ {C : bP} (hC : C.Ok) : ∀ n, Sound C (IU C n)
 | 0 => ⟨(fun _ _ _ _ _ e => (by cases e)), (fun _ _ _ _ e => (by cases e)), (fun _ _ _ _ _ e => (by cases e))⟩
 | n + 1 => LF hC (fZ hC n)
theorem X3 {C : bP} {self : Self} (hs : Sound C self) {f : FuncId} {v : Value} {h2 : Hp} (hv : plain v = true) (e : self (.call f #[] h00) = some (.ret v h2)) : bO C.P.P f (OQ v) := by
 intro args h u hu
 unfold OQ at hu
 split at hu
 ·cases hu
  obtain ⟨g1, g2⟩ := hs.call f #[] h00 _ e
  refine ⟨hv, g1, fun base ρ hh w args' m H hs hl => ?_⟩
  refine (g2 0 (fun _ => none) w args' m (bC2 w) ?_).mono ?_
  ·exact ⟨hl.1, fun i x x' hx => (by cases hx)⟩
  ·rintro en w' ⟨v', ρ', rfl, hst, hvr⟩
   obtain rfl := gD hvr hv
   refine ⟨rfl, fun b o hb => hst.keep b o hb ?_, hst.size, hst.os, hst.tape, hst.output⟩
   rintro ⟨i, o, im, hi, _⟩
   rw [show h00.get i = none from T.get_nil i] at hi; cases hi
 ·cases hu
theorem aCN {C : bP} {self : Self} (hs : Sound C self) {f : FuncId} {b : Bool} (e : isV (self (.call f #[] h00)) b = true) : bO C.P.P f (OQ (.bool b)) := by
 obtain ⟨h, e⟩ := aWV e
 exact X3 hs rfl e
end Go.bR
/-
  Long loops cut at their heads: what a loop answers from a told state is kept; the evaluator takes it there.
-/
namespace Go.bR
noncomputable section
abbrev iV (n : Nat) : Value := .int .i64 (.ofNat n)
abbrev pV (b o : Nat) : Value := .pointer (some ⟨b, o, none⟩)
abbrev sV (b o n c : Nat) : Value := .slice (some ⟨b, o, none⟩) n c
abbrev gV (l : List Value) : Value := .agg ⟨l⟩
abbrev nB {α : Type} (l : List Nat) (r : List (Nat × Option α)) : List (Nat × Option α) := List.append (l.map fun i => (i, none)) r
abbrev cA {α : Type} (l r : List (Nat × Option α)) : List (Nat × Option α) := List.append l r
def vY : Code → List Code
 | .loop a => .loop a :: vY a
 | .seq a b => vY a ++ vY b
 | .cond _ a b => vY a ++ vY b
 | .block _ a => vY a
 | .scope a => vY a
 | .rangeFunc _ _ a b => vY a ++ vY b
 | _ => []
def dI (f : Func) (k : Nat) : Code := (((f.body.map vY).getD [])[k]?).getD .skip
def aO2 (C : bP) (lp : Lp) (self : Self) (j : Job) : Option R := match j with
 | .code (.loop b) rd nt s => match lp (.loop b) rd nt s with
  | some [.code e s2] => some (.code e s2)
  | _ => FK C self (.code (.loop b) rd nt s)
 | j => FK C self j
def mY (C : bP) (lp : Lp) : Nat → Self := fun n => Nat.rec (fun _ => none) (fun _ self => aO2 C lp self) n
def aWY : List Nat → List Deferred
 | [] => []
 | d :: l => { target := .collected d, args := #[] } :: aWY l
def jL : List Nat → List (Nat × aD)
 | [] => []
 | d :: l => (d, .uR true) :: jL l
def aWZ : List Deferred → List Nat → Bool
 | [], [] => true
 | x :: l, d :: m => (match x.target with | .collected b => Nat.beq b d && aO3 x.args.toList | _ => false) && aWZ l m
 | _, _ => false
def zH (nt next ro : Nat) (regs : List (Nat × Value)) (bl : List (Nat × aD)) (dl : List Nat) : S := { MZ nt next ro regs bl with df := aWY dl }
def O0 (nt next ro : Nat) (regs : List (Nat × Value)) (bl : List (Nat × aD)) (dl : List Nat) (s : S) : Bool :=
 Nat.beq s.h.next next && (Nat.beq s.h.ro ro && (aWZ s.df dl && (JL nt s.tm (MZ nt next ro regs bl).tm && (T.lJ nt (MZ nt next ro regs bl).tm && CS nt bl s.h))))
def M0 (c0 : Code) (rd0 : Option Nat) (O1 next ro : Nat) (regs : List (Nat × Value)) (bl : List (Nat × aD)) (dl : List Nat) (r : R) : Lp := fun c rd nt s =>
 ok? (Nat.beq nt O1 && (wY rd rd0 && (O0 nt next ro regs bl dl s && mO c c0))) (some [r])
def a5I : Ex → Ex → Bool
 | .normal, .normal => true
 | .ret, .ret => true
 | .exit a, .exit b => Nat.beq a b
 | _, _ => false
def lU (ex : Ex) (nt next ro : Nat) (regs : List (Nat × Value)) (bl : List (Nat × aD)) (dl : List Nat) (x : Option R) : Bool := match x with
 | some (.code e s) => a5I e ex && O0 nt next ro regs bl dl s
 | _ => false
end
theorem aW1 {a b : Ex} (h : a5I a b = true) : a = b := by
 unfold a5I at h
 split at h
 ·rfl
 ·rfl
 ·rw [nb h]
 ·cases h
theorem Step.less {base nt : Nat} {ρ kM : Ren} {h h1 h2 : Hp} {w w1 : World} (s : Step base ρ h w kM h1 w1) (hn : h2.next = h1.next) (hr : h2.ro = h1.ro) (sub : ∀ i o, h2.get i = some o → ∃ o', h1.get i = some o' ∧ FL nt o' o = true) : Step base ρ h w kM h2 w1 := by
 refine ⟨s.ext, ⟨?_, ?_, ?_, ?_, ?_⟩, s.keep, s.news, ?_, s.size, by rw [hr]; exact s.ro, by rw [hn]; exact s.next, s.os, s.tape, s.output⟩
 ·intro i o hi
  obtain ⟨o', g1, g2⟩ := sub i o hi
  obtain ⟨im, O, k1, k2, k3⟩ := s.rel.obj i o' g1
  exact ⟨im, O, k1, k2, FM g2 k3⟩
 ·intro i j im jm o p hi hj e1 e2 hne hb
  obtain ⟨o', g1, _⟩ := sub i o hi
  obtain ⟨p', g2, _⟩ := sub j p hj
  exact s.rel.inj i j im jm o' p' g1 g2 e1 e2 hne hb
 ·intro i im hi; rw [hn]; exact s.rel.dom i im hi
 ·rw [hr]; exact s.rel.fT
 ·rw [hr, hn]; exact s.rel.jQ
 ·intro i o hi ho
  obtain ⟨o', g1, _⟩ := sub i o ho
  exact s.olds i o' hi g1
theorem WO : ∀ {l : List Deferred} {m : List Nat}, aWZ l m = true → l = aWY m
 | [], [], _ => rfl
 | x :: l, d :: m, h => by
  unfold aWZ at h
  obtain ⟨h1, h2⟩ := a2 h
  obtain ⟨tg, ar⟩ := x
  split at h1
  ·rename_i b hb
   obtain ⟨h3, h4⟩ := a2 h1
   have h5 := NJ h4
   dsimp only at hb h5
   subst hb
   rw [WO h2]
   show _ = { target := .collected d, args := #[] } :: aWY m
   rw [← nb h3]
   congr 2
   exact Array.toList_inj.1 h5
  ·cases h1
 | [], _ :: _, h => by cases h
 | _ :: _, [], h => by cases h
theorem aAY {nt next ro : Nat} {regs : List (Nat × Value)} {bl : List (Nat × aD)} {h : Hp} (h8 : CS nt bl h = true) : ∀ i o, (MZ nt next ro regs bl).h.get i = some o → ∃ o', h.get i = some o' ∧ FL nt o' o = true := by
 intro i o hi
 rcases oF bl T.nil i o hi with hm | hm
 ·exact AB h8 i o hm
 ·rw [T.get_nil] at hm; cases hm
theorem aAZ {base nt next ro : Nat} {regs : List (Nat × Value)} {bl : List (Nat × aD)} {dl : List Nat} {s s1 : S} {ρ : Ren} {w : World} {e : Ex} {ex : Exit} {a : Act} {w1 : World} (h : O0 nt next ro regs bl dl s1 = true) (q : oU base ρ nt s w e s1 ex a w1) : oU base ρ nt s w e (zH nt next ro regs bl dl) ex a w1 := by
 unfold O0 at h
 obtain ⟨h3, h⟩ := a2 h
 obtain ⟨h4, h⟩ := a2 h
 obtain ⟨h5, h⟩ := a2 h
 obtain ⟨h6, h⟩ := a2 h
 obtain ⟨h7, h8⟩ := a2 h
 have h3 := nb h3
 have h4 := nb h4
 obtain ⟨kM, g1, g2, g3, g4⟩ := q
 refine ⟨kM, g1, g2.less (nt := nt) h3.symm h4.symm (aAY (regs := regs) h8), tO h6 h7 g3, ?_⟩
 rw [WO h5] at g4; exact g4
theorem jZ {P : Program} {c0 : Code} {rd0 : Option Nat} {O1 next ro : Nat} {regs : List (Nat × Value)} {bl : List (Nat × aD)} {dl : List Nat} {r : R} (h : WpC P c0 rd0 O1 (zH O1 next ro regs bl dl) [r]) : nQ P (M0 c0 rd0 O1 next ro regs bl dl r) := by
 intro c rd nt s rs' e base ρ w a rr m H ht hd hr
 unfold M0 at e
 replace e := aG e
 obtain ⟨e, e'⟩ := e
 cases e'
 obtain ⟨h1, e⟩ := a2 e
 obtain ⟨h2, e⟩ := a2 e
 obtain ⟨e, h9⟩ := a2 e
 unfold O0 at e
 obtain ⟨h3, e⟩ := a2 e
 obtain ⟨h4, e⟩ := a2 e
 obtain ⟨h5, e⟩ := a2 e
 obtain ⟨h6, e⟩ := a2 e
 obtain ⟨h7, h8⟩ := a2 e
 have h1 := nb h1
 have h2 := vB h2
 have h3 := nb h3
 have h4 := nb h4
 have h9 := sQ _ _ h9
 subst h1 h2 h3 h4 h9
 have hdf := WO h5
 have sub := aAY (next := s.h.next) (ro := s.h.ro) (regs := regs) h8
 have H2 : bG base ρ (zH nt s.h.next s.h.ro regs bl dl).h w := by
  refine ⟨?_, ?_, H.dom, H.fT, H.jQ⟩
  ·intro i o hi
   obtain ⟨o', g1, g2⟩ := sub i o hi
   obtain ⟨im, O, k1, k2, k3⟩ := H.obj i o' g1
   exact ⟨im, O, k1, k2, FM g2 k3⟩
  ·intro i j im jm o p hi hj e1 e2 hne hb
   obtain ⟨o', g1, _⟩ := sub i o hi
   obtain ⟨p', g2, _⟩ := sub j p hj
   exact H.inj i j im jm o' p' g1 g2 e1 e2 hne hb
 have wr : ∀ {b}, Wr ρ (zH nt s.h.next s.h.ro regs bl dl).h b → Wr ρ s.h b := by
  rintro b ⟨i, o, im, g1, g2, g3, g4⟩
  obtain ⟨o', k1, _⟩ := sub i o g1
  exact ⟨i, o', im, k1, g2, g3, g4⟩
 refine wpIn_mono (h base ρ w a rr m H2 (tO h6 h7 ht) (by rw [hdf] at hd; exact hd) hr) ?_
 rintro ex a1 w1 ⟨e1, s1, hm, kM, g1, g2, g3, g4⟩
 refine ⟨e1, s1, hm, kM, g1, ⟨g2.ext, g2.rel, fun b o hb hn => g2.keep b o hb (fun h => hn (wr h)), ?_, ?_, g2.size, g2.ro, g2.next, g2.os, g2.tape, g2.output⟩, g3, g4⟩
 ·intro i im hi
  rcases g2.news i im hi with k | ⟨k1, k2⟩
  ·exact .inl k
  ·exact .inr ⟨k1, k2.imp id wr⟩
 ·intro i o hi ho
  obtain ⟨p, hp⟩ := g2.olds i o hi ho
  obtain ⟨p', hp', _⟩ := sub i p hp
  exact ⟨p', hp'⟩
theorem j4 {C : bP} {self : Self} (hs : Sound C self) {c : Code} {rd : Option Nat} {ex : Ex} {nt next ro : Nat} {regs : List (Nat × Value)} {bl : List (Nat × aD)} {dl : List Nat} {s : S} (e : lU ex nt next ro regs bl dl (self (.code c rd nt s)) = true) : WpC C.P.P c rd nt s [.code ex (zH nt next ro regs bl dl)] := by
 unfold lU at e
 split at e
 ·rename_i e1 s1 he
  obtain ⟨h1, h2⟩ := a2 e
  obtain rfl := aW1 h1
  obtain ⟨e2, s2, hr, k⟩ := hs.code _ _ _ _ _ he
  cases hr
  intro base ρ w a rr m H ht hd hrd
  exact wpIn_mono (k base ρ w a rr m H ht hd hrd) (fun ex a w q => ⟨_, _, .head _, aAZ h2 q⟩)
 ·cases e
theorem aBA {C : bP} (hC : C.Ok) {lp : Lp} (hl : nQ C.P.P lp) {self : Self} (hs : Sound C self) : Sound C (aO2 C lp self) := by
 have h1 := LF hC hs
 refine ⟨fun c rd nt s r e => ?_, fun f args h r e => h1.call _ _ _ _ e, fun f args u h r e => h1.dcall _ _ _ _ _ e⟩
 unfold aO2 at e
 split at e
 ·rename_i b rd' nt' s' hj
  cases hj
  split at e
  ·rename_i e1 s1 hr
   cases e
   have k := hl _ _ _ _ _ hr
   refine ⟨e1, s1, rfl, fun base ρ w a rr m H ht hd hrd => wpIn_mono (k base ρ w a rr m H ht hd hrd) ?_⟩
   rintro ex a w ⟨e2, s2, hm, q⟩
   obtain hm := List.mem_singleton.1 hm
   cases hm
   exact q
  ·exact h1.code _ _ _ _ _ e
 ·exact h1.code _ _ _ _ _ e
theorem bD {C : bP} (hC : C.Ok) {lp : Lp} (hl : nQ C.P.P lp) : ∀ n, Sound C (mY C lp n)
 | 0 => ⟨(fun _ _ _ _ _ e => (by cases e)), (fun _ _ _ _ e => (by cases e)), (fun _ _ _ _ _ e => (by cases e))⟩
 | n + 1 => aBA hC hl (bD hC hl n)
end Go.bR
