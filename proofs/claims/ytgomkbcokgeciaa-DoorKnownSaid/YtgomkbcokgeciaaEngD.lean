/-
  An evaluator of the code, proved sound.
-/
import Derived.Test.YtgomkbcokgeciaaEngC
set_option linter.unusedVariables false
/-
  A range over a map whose turns may come in any order: by a table of the states that turns lead to.
-/
namespace Go.Eng
noncomputable section
structure LTabS where
  tm : List (Nat × Option Value)
  high : List (Nat × Option AObj)
  g : Nat
structure LTab where
  ib : Nat
  r : Nat
  low : List Nat
  states : List LTabS
  next : List (List (Nat × List Nat))
  acc : List Nat
  fold : List (List Nat)
def tmAt (t0 : T Value) : List (Nat × Option Value) → Option (T Value)
  | [] => some T.nil
  | (i, some v) :: l => (tmAt t0 l).bind fun t => some (t.put i (some v))
  | (i, none) :: l => (t0.get i).bind fun v => (tmAt t0 l).bind fun t => some (t.put i (some v))
def lowAt (h0 : Hp) : List Nat → Option (List (Nat × AObj))
  | [] => some []
  | i :: l => match Nat.blt i h0.ro with
    | true => (h0.get i).bind fun o => (lowAt h0 l).bind fun r => some ((i, o) :: r)
    | false => none
theorem lowAt_ok {h0 : Hp} : ∀ {l : List Nat} {r : List (Nat × AObj)}, lowAt h0 l = some r → ∀ i o, (i, o) ∈ r → i < h0.ro ∧ h0.get i = some o
  | [], r, e, i, o, hm => by cases e; cases hm
  | j :: l, r, e, i, o, hm => by
    unfold lowAt at e
    split at e
    · rename_i hb
      obtain ⟨p, hp, e⟩ := bind_some' e
      obtain ⟨r2, hr, e⟩ := bind_some' e
      cases e
      rcases List.mem_cons.1 hm with h | h
      · cases h; rw [Nat.blt_eq] at hb; exact ⟨hb, hp⟩
      · exact lowAt_ok hr i o h
    · cases e
def stAt (s : S) (low : List (Nat × AObj)) (x : LTabS) : Option S :=
  (tmAt s.tm x.tm).bind fun tm => (highAt s.h x.high).bind fun high => some { tm, df := [], h := hpLH (s.h.next + x.g) s.h.ro low high }
def statesAt (s : S) (low : List (Nat × AObj)) : List LTabS → Option (List S)
  | [] => some []
  | x :: l => (stAt s low x).bind fun y => (statesAt s low l).bind fun r => some (y :: r)
def mapAt (h : Hp) (r : Nat) : Option (List (Value × Value)) := match h.get r with | some (.map es) => some es | _ => none
def hasEntry : Code → Bool
  | .seq a b => hasEntry a || hasEntry b
  | .block _ b => hasEntry b
  | .region _ ops false => match ops.toList with
    | o :: _ => (match o.op with | .entry _ => true | _ => false)
    | [] => false
  | _ => false
def thenP (r : Option R) (f : S → Option R) : Option R := r.bind fun r => match r with
  | .code .normal s1 => f s1
  | .code e s1 => some (.code e s1)
  | _ => none
def blockP (id : Nat) (r : Option R) : Option R := r.bind fun r => match r with
  | .code (.exit i) s1 => (match Nat.beq i id with | true => some (.code .normal s1) | false => some (.code (.exit i) s1))
  | .code e s1 => some (.code e s1)
  | _ => none
def noGuard (o : Oper) : Bool := match o.guard with | none => true | some _ => false
def entP (nt : Nat) (ib r n k : Nat) (o : Oper) (s : S) : Option S := match o.op with
  | .entry it => (evTm s.tm it).bind fun v => match v with
    | .pointer (some a) => ok? (Nat.beq a.block ib && (Nat.beq a.off 0 && nospot a && noGuard o)) <| (mapAt s.h r).bind fun es => ok? (Nat.beq es.length n) <| (es[k]?).bind fun e => (putTm nt s.tm o.dst (.tuple #[e.1, e.2])).bind fun tm => some { s with tm }
    | _ => none
  | _ => none
def pathV (C : Cfg) (self : Self) (rd : Option Nat) (nt ib r n k : Nat) : Code → S → Option R
  | .seq a b, s => match hasEntry a with
    | true => thenP (pathV C self rd nt ib r n k a s) fun s1 => self (.code b rd nt s1)
    | false => thenP (self (.code a rd nt s)) fun s1 => pathV C self rd nt ib r n k b s1
  | .block id b, s => blockP id (pathV C self rd nt ib r n k b s)
  | .region id ops false, s => match ops.toList with
    | o :: rest => (match o.op with
      | .entry _ => (entP nt ib r n k o s).bind fun s1 => opsV C self rd nt ops rest s1
      | _ => self (.code (.region id ops false) rd nt s))
    | [] => self (.code (.region id ops false) rd nt s)
  | c, s => self (.code c rd nt s)
section
variable (C : Cfg) (self : Self) (rd : Option Nat) (nt : Nat) (ops : Array Oper) (b2 : Code)
def bodyP (ib r n k : Nat) (s : S) : Option R := (opsV C self rd nt ops (ops.toList.drop 1) s).bind fun r' => match r' with
  | .code .normal s1 => pathV C self rd nt ib r n k b2 s1
  | _ => none
def bodyV (s : S) : Option R := (opsV C self rd nt ops (ops.toList.drop 1) s).bind fun r => match r with
  | .code .normal s1 => self (.code b2 rd nt s1)
  | _ => none
def noneB {α : Type} (x : Option α) : Bool := match x with | none => true | some _ => false
def nilB {α : Type} (x : List α) : Bool := match x with | [] => true | _ => false
def askV (d : Option Tmp) (s : S) (v : Value) : Option S := (putTm nt s.tm d v).map fun tm => { s with tm }
def turnV (ib r n k : Nat) (d : Option Tmp) (s : S) (e : Value × Value) : Option R := (askV nt d s (.tuple #[.bool true, e.1, e.2])).bind (bodyP C self rd nt ops b2 ib r n k)
def sameV (N ro : Nat) (olds : List Nat) (s' : S) (x : LTabS) (h0 : Hp) (y : S) : Bool :=
  nilB s'.df && (simTm N olds nt s'.tm y.tm && (T.keysLow nt y.tm && (Nat.beq x.g olds.length && (olds.all (fun o => Nat.ble N o) && (nodupB olds && match highAt h0 x.high with
    | some high => simHigh N ro olds s'.h high
    | none => false)))))
def turnOk (tab : LTab) (s : S) (sts : List S) (d : Option Tmp) (y : S) (n k : Nat) (e : Value × Value) (t : Nat × List Nat) : Bool :=
  match turnV C self rd nt ops b2 tab.ib tab.r n k d y e, tab.states[t.1]?, sts[t.1]? with
  | some (.code .normal s'), some x', some y' => sameV nt s.h.next s.h.ro t.2 s' x' s.h y'
  | _, _, _ => false
def allOk (tab : LTab) (s : S) (sts : List S) (d : Option Tmp) (y : S) (n : Nat) : Nat → List (Value × Value) → List (Nat × List Nat) → Bool
  | _, [], [] => true
  | k, e :: es, t :: ts => turnOk C self rd nt ops b2 tab s sts d y n k e t && allOk tab s sts d y n (k + 1) es ts
  | _, _, _ => false
def rowOk (tab : LTab) (s : S) (sts : List S) (d : Option Tmp) (it : Operand) (n : Nat) (y : S) (row : List (Nat × List Nat)) : Bool :=
  noneB (y.h.get tab.ib) && ((match evTm y.tm it with | some (.pointer (some a)) => Nat.beq a.block tab.ib && (Nat.beq a.off 0 && nospot a) | _ => false) &&
    (match mapAt y.h tab.r with | some es => Nat.beq es.length n && allOk C self rd nt ops b2 tab s sts d y n 0 es row | none => false))
def rowsOk (tab : LTab) (s : S) (sts : List S) (d : Option Tmp) (it : Operand) (n : Nat) : List S → List (List (Nat × List Nat)) → Bool
  | [], [] => true
  | y :: ys, row :: rows => rowOk C self rd nt ops b2 tab s sts d it n y row && rowsOk tab s sts d it n ys rows
  | _, _ => false
def foldAt (tab : LTab) (a k : Nat) : Nat := match Nat.blt a tab.fold.length with
  | true => (((tab.fold[a]?).getD [])[k]?).getD 0
  | false => a
def accAt (tab : LTab) (i : Nat) : Nat := (tab.acc[i]?).getD 0
def accOk (tab : LTab) (n : Nat) : Bool :=
  ((List.range tab.next.length).all fun i => (List.range n).all fun k => match (tab.next[i]?).bind (·[k]?) with
    | some t => Nat.beq (accAt tab t.1) (foldAt tab (accAt tab i) k)
    | none => false) &&
  ((List.range tab.fold.length).all fun a => (List.range n).all fun x => (List.range n).all fun y => Nat.beq (foldAt tab (foldAt tab a x) y) (foldAt tab (foldAt tab a y) x))
def endAcc (tab : LTab) (n : Nat) : Nat := (List.range n).foldl (foldAt tab) (accAt tab 0)
def notNormal (r : R) : Bool := match r with | .code .normal _ => false | .code _ _ => true | _ => false
def endsAt (tab : LTab) (d : Option Tmp) (a : Nat) : List S → Nat → Option (List R)
  | [], _ => some []
  | y :: ys, i => match Nat.beq (accAt tab i) a with
    | true => ((askV nt d y (.tuple #[.bool false])).bind (bodyV C self rd nt ops b2)).bind fun r => ok? (notNormal r) <| (endsAt tab d a ys (i + 1)).bind fun rs => some (r :: rs)
    | false => endsAt tab d a ys (i + 1)
end
def dstOk (nt : Nat) (d : Option Tmp) : Bool := match d with | none => true | some x => Nat.blt x nt
theorem addAll_append : ∀ (l : List (Nat × AObj)) (i : Nat) (o : AObj) (t : T AObj), addAll (l ++ [(i, o)]) t = (addAll l t).put i (some o)
  | [], _, _, _ => rfl
  | (j, p) :: l, i, o, t => addAll_append l i o (t.put j (some p))
theorem hpLH_append (next ro : Nat) (low high : List (Nat × AObj)) (i : Nat) (o : AObj) : hpLH next ro low (high ++ [(i, o)]) = (hpLH next ro low high).upd i o := by
  unfold hpLH Hp.upd
  rw [addAll_append]
theorem HRel.sub {base : Nat} {ρ : Ren} {hM hK : Hp} {w : World} (H : HRel base ρ hM w) (hs : ∀ i o, hK.get i = some o → hM.get i = some o) (hn : hM.next = hK.next) (hr : hM.ro = hK.ro) : HRel base ρ hK w :=
  ⟨fun i o hi => H.obj i o (hs i o hi), fun i j im jm o p hi hj => H.inj i j im jm o p (hs i o hi) (hs j p hj), fun i im h => by rw [← hn]; exact H.dom i im h, by rw [← hr]; exact H.baseRo, by rw [← hr, ← hn]; exact H.roNext⟩
theorem noneB_eq {α : Type} {x : Option α} (h : noneB x = true) : x = none := by cases x with | none => rfl | some _ => cases h
theorem nilB_eq {α : Type} {x : List α} (h : nilB x = true) : x = [] := by cases x with | nil => rfl | cons _ _ => cases h
theorem upd_get {h : Hp} {b : Nat} {o : AObj} (i : Nat) : (h.upd b o).get i = if i = b then some o else h.get i := by
  unfold Hp.get Hp.upd; simp only [T.get_put]
section
variable {C : Cfg} (hC : C.Ok) {self : Self} (hs : Sound C self)
include hC hs in
theorem bodyV_sound {rd rr : Option Nat} {nt m : Nat} {ops : Array Oper} {b2 : Code} {s s2 : S} {e : Ex} (he : bodyV C self rd nt ops b2 s = some (.code e s2)) (hsz : 0 < ops.size) {base : Nat} {ρ : Ren} {w : World} {a : Act}
    (H : HRel base ρ s.h w) (ht : TmRel ρ nt s.tm a.tmps) (hd : DfRel ρ s.df a.defers) (hr : RdRel ρ rd rr) {Q : Exit → Act → World → Prop} (hq : ∀ ex a' w', QCode base ρ nt s w e s2 ex a' w' → Q ex a' w') :
    wpOpsIn (fenceOf rr) m C.P.P ops (Exit.then (b2.wpIn (fenceOf rr) m C.P.P Q) Q) (List.range' 1 (ops.size - 1)) a w := by
  unfold bodyV at he
  obtain ⟨r, h1, he⟩ := bind_some' he
  split at he
  · rename_i s1
    refine opsV_sound hC hs (ops.size - 1) 1 rfl hsz h1 H ht hd hr ?_
    rintro ex a1 w1 ⟨ρ1, hex, hst, ht1, hd1⟩
    cases ex <;> simp only [ExRel] at hex
    obtain ⟨e', s', hr', k1⟩ := hs.code _ _ _ _ _ he
    cases hr'
    refine wpIn_mono (k1 base ρ1 w1 a1 rr m hst.rel ht1 hd1 (hr.mono hst.ext)) ?_
    rintro ex a2 w2 ⟨ρ2, g1, g2, g3, g4⟩
    exact hq ex a2 w2 ⟨ρ2, g1, hst.trans H g2, g3, g4⟩
  · cases he
theorem ask_sound {rr : Option Nat} {nt m n b r : Nat} {ops : Array Oper} {o : Oper} {it : Operand} {seen : List Nat} {es : List (Value × Value)} {tm : T Value} {h : Hp} {a : Act} (ho : ops[0]? = some o) (hop : o.op = .next it false) (hg : o.guard = none)
    (hit : evTm tm it = some (.pointer (some ⟨b, 0, none⟩))) (hb : h.get b = some (.miter (some r) n seen)) (hm : h.get r = some (.map es)) (hn : es.length = n) (hro : h.ro ≤ b) {base : Nat} {ρ : Ren} {w : World}
    (H : HRel base ρ h w) (ht : TmRel ρ nt tm a.tmps) (hd : DfRel ρ [] a.defers) {K : Act → World → Prop} {Q : Exit → Act → World → Prop}
    (hend : leftM n seen = [] → ∀ tm1, putTm nt tm o.dst (.tuple #[.bool false]) = some tm1 → ∀ a', TmRel ρ nt tm1 a'.tmps → DfRel ρ [] a'.defers → K a' w)
    (hturn : ∀ k e tm1, k ∈ leftM n seen → es[k]? = some e → putTm nt tm o.dst (.tuple #[.bool true, e.1, e.2]) = some tm1 → ∀ a' w', Step base ρ h w ρ (h.upd b (.miter (some r) n (seen ++ [k]))) w' → TmRel ρ nt tm1 a'.tmps → DfRel ρ [] a'.defers → K a' w')
    (hput : ∀ v, ∃ tm1, putTm nt tm o.dst v = some tm1) : wpOpIn (fenceOf rr) m C.P.P ops Q 0 K a w := by
  obtain ⟨a', hae, har⟩ := addrOf_rel (a := ⟨b, 0, none⟩) rfl (evTm_rel ht it _ hit)
  obtain ⟨s1, s2, im, s3, s4, s5⟩ := har
  obtain ⟨hsh, hor⟩ := next_map (P := C.P.P) H hb hm hn s3 o.type
  have ha' : a' = ⟨im.blk, 0, none⟩ := addr_eq s2 s4 (by rw [hsh] at s5; simpa using s5)
  subst ha'
  unfold wpOpIn
  rw [ho]
  have hwant : Region.wanted o (yielded ops a.tmps) = true := by unfold Region.wanted; rw [hg]
  simp only [hwant, if_true]
  refine ⟨fun f _ => fenceOf_fn rr f, ?_⟩
  have hsem : o.semAt (fenceOf rr).round a.eval = execOp a.eval o := Oper.semAt_eq _ _ _ (fun c hc => by rw [hop] at hc; cases hc)
  rw [hsem]
  rcases hor with ⟨g1, g2⟩ | ⟨k, x, v', w', g1, g2, g3, g4, g5, g6⟩
  · have hrun : (execOp a.eval o).run C.P.P w = .ok (.value (.tuple #[.bool false])) w := by
      simp only [execOp, hop, hae, Sem.run_bind, g2, Result.andThen_ok, Sem.run_pure]
    rw [hrun]
    obtain ⟨tm1, htm⟩ := hput (.tuple #[.bool false])
    exact hend g1 tm1 htm _ (ht.put htm (.tuple' (.cons (.bool _) (.nil ρ)))) (by rw [put_defers]; exact hd)
  · have hrun : (execOp a.eval o).run C.P.P w = .ok (.value (.tuple #[.bool true, x.1, v'])) w' := by
      simp only [execOp, hop, hae, Sem.run_bind, g3, Result.andThen_ok, Sem.run_pure]
    rw [hrun]
    obtain ⟨tm1, htm⟩ := hput (.tuple #[.bool true, x.1, x.2])
    exact hturn k x tm1 g1 g2 htm _ w' (g6 hro) (ht.put htm (.tuple' (.cons (.bool _) (.cons (plain_self ρ g5) (.cons g4 (.nil ρ)))))) (by rw [put_defers]; exact hd)
end
theorem statesAt_get {s : S} {low : List (Nat × AObj)} : ∀ {l : List LTabS} {r : List S}, statesAt s low l = some r → ∀ (i : Nat), (∀ y, r[i]? = some y → ∃ x, l[i]? = some x ∧ stAt s low x = some y) ∧ (∀ x, l[i]? = some x → ∃ y, r[i]? = some y ∧ stAt s low x = some y)
  | [], r, e, i => by cases e; exact ⟨fun y h => by simp at h, fun y h => by simp at h⟩
  | x :: l, r, e, i => by
    unfold statesAt at e
    obtain ⟨y, hy, e⟩ := bind_some' e
    obtain ⟨r2, hr, e⟩ := bind_some' e
    cases e
    cases i with
    | zero => exact ⟨fun z h => by simp at h; subst h; exact ⟨x, rfl, hy⟩, fun z h => by simp at h; subst h; exact ⟨y, rfl, hy⟩⟩
    | succ i =>
      obtain ⟨g1, g2⟩ := statesAt_get hr i
      exact ⟨fun z h => g1 z (by simpa using h), fun z h => g2 z (by simpa using h)⟩
theorem rowsOk_get {C : Cfg} {self : Self} {rd : Option Nat} {nt : Nat} {ops : Array Oper} {b2 : Code} {tab : LTab} {s : S} {sts : List S} {d : Option Tmp} {it : Operand} {n : Nat} : ∀ {ys : List S} {rows : List (List (Nat × List Nat))}, rowsOk C self rd nt ops b2 tab s sts d it n ys rows = true →
    ∀ (i : Nat) y, ys[i]? = some y → ∃ row, rows[i]? = some row ∧ rowOk C self rd nt ops b2 tab s sts d it n y row = true
  | [], rows, h, i, y, hy => by simp at hy
  | x :: ys, row :: rows, h, i, y, hy => by
    unfold rowsOk at h
    obtain ⟨h1, h2⟩ := a2 h
    cases i with
    | zero => simp at hy; subst hy; exact ⟨row, rfl, h1⟩
    | succ i =>
      obtain ⟨r, g1, g2⟩ := rowsOk_get h2 i y (by simpa using hy)
      exact ⟨r, by simpa using g1, g2⟩
  | _ :: _, [], h, _, _, _ => by cases h
theorem allOk_get {C : Cfg} {self : Self} {rd : Option Nat} {nt : Nat} {ops : Array Oper} {b2 : Code} {tab : LTab} {s : S} {sts : List S} {d : Option Tmp} {y : S} {n : Nat} : ∀ {k0 : Nat} {es : List (Value × Value)} {ts : List (Nat × List Nat)}, allOk C self rd nt ops b2 tab s sts d y n k0 es ts = true →
    ∀ (k : Nat) e, es[k]? = some e → ∃ t, ts[k]? = some t ∧ turnOk C self rd nt ops b2 tab s sts d y n (k0 + k) e t = true
  | k0, [], ts, h, k, e, he => by simp at he
  | k0, x :: es, t :: ts, h, k, e, he => by
    unfold allOk at h
    obtain ⟨h1, h2⟩ := a2 h
    cases k with
    | zero => simp at he; subst he; exact ⟨t, rfl, h1⟩
    | succ k =>
      obtain ⟨r, g1, g2⟩ := allOk_get h2 k e (by simpa using he)
      exact ⟨r, by simpa using g1, by rw [show k0 + (k + 1) = k0 + 1 + k by omega]; exact g2⟩
  | _, _ :: _, [], h, _, _, _ => by cases h
theorem endsAt_get {C : Cfg} {self : Self} {rd : Option Nat} {nt : Nat} {ops : Array Oper} {b2 : Code} {tab : LTab} {d : Option Tmp} {a : Nat} : ∀ {ys : List S} {i0 : Nat} {rs : List R}, endsAt C self rd nt ops b2 tab d a ys i0 = some rs →
    ∀ (i : Nat) y, ys[i]? = some y → accAt tab (i0 + i) = a → ∃ r, r ∈ rs ∧ (askV nt d y (.tuple #[.bool false])).bind (bodyV C self rd nt ops b2) = some r ∧ notNormal r = true
  | [], i0, rs, h, i, y, hy, _ => by simp at hy
  | x :: ys, i0, rs, h, i, y, hy, ha => by
    unfold endsAt at h
    split at h
    · obtain ⟨r, h1, h⟩ := bind_some' h
      obtain ⟨h2, h⟩ := ok?_some h
      obtain ⟨rs2, h3, h⟩ := bind_some' h
      cases h
      cases i with
      | zero => simp at hy; subst hy; exact ⟨r, .head _, h1, h2⟩
      | succ i =>
        obtain ⟨r2, g1, g2⟩ := endsAt_get h3 i y (by simpa using hy) (by rw [← ha]; congr 1; omega)
        exact ⟨r2, .tail _ g1, g2⟩
    · rename_i hb
      cases i with
      | zero =>
        rw [Nat.add_zero] at ha
        rw [ha, Nat.beq_refl] at hb; cases hb
      | succ i => exact endsAt_get h i y (by simpa using hy) (by rw [← ha]; congr 1; omega)
theorem simO_miter {N : Nat} {olds : List Nat} {r n : Nat} {seen : List Nat} (hr : r < N) : simO N olds (.miter (some r) n seen) (.miter (some r) n seen) = true := by
  have : ∀ l : List Nat, listEq Nat.beq l l = true := by
    intro l
    induction l with
    | nil => rfl
    | cons a l ih => unfold listEq; rw [ifB_if', Nat.beq_refl, ih]; rfl
  show (simB N olds r r && (Nat.beq n n && listEq Nat.beq seen seen)) = true
  rw [this, Nat.beq_refl, Bool.and_true, Bool.and_true]
  unfold simB sgP
  rw [show Nat.blt r N = true from by rw [Nat.blt_eq]; exact hr]
  exact Nat.beq_refl r
theorem same_step {base : Nat} {ρ0 ρ1 : Ren} {w0 w1 : World} {s : S} {h1 : Hp} {s' y' : S} {nt n r ib : Nat} {seen : List Nat} {olds : List Nat} {x' : LTabS} {low : List (Nat × AObj)} {a : Act} {l0 : List Nat} (H0 : HRel base ρ0 s.h w0)
    (hlow : lowAt s.h l0 = some low) (hst : stAt s low x' = some y') (hs : sameV nt s.h.next s.h.ro olds s' x' s.h y' = true) (hib : s.h.ro ≤ ib ∧ ib < s.h.next) (hr : r < s.h.next)
    (hg : ∀ i, h1.get i = if i = ib then some (.miter (some r) n seen) else s'.h.get i) (hno : s'.h.get ib = none) (st : Step base ρ0 s.h w0 ρ1 h1 w1) (ht : TmRel ρ1 nt s'.tm a.tmps) :
    ∃ ρ, Step base ρ0 s.h w0 ρ (y'.h.upd ib (.miter (some r) n seen)) w1 ∧ TmRel ρ nt y'.tm a.tmps ∧ Ext ρ0 ρ := by
  unfold sameV at hs
  obtain ⟨_, hs⟩ := a2 hs
  obtain ⟨c1, hs⟩ := a2 hs
  obtain ⟨c2, hs⟩ := a2 hs
  obtain ⟨c3, hs⟩ := a2 hs
  obtain ⟨c4, hs⟩ := a2 hs
  obtain ⟨c5, c6⟩ := a2 hs
  unfold stAt at hst
  obtain ⟨tm, htm, hst⟩ := bind_some' hst
  obtain ⟨high, hh, hst⟩ := bind_some' hst
  cases hst
  rw [hh] at c6
  simp only at c6 c1 c2
  have hsim : simHigh s.h.next s.h.ro olds h1 (high ++ [(ib, .miter (some r) n seen)]) = true := by
    unfold simHigh
    rw [List.all_append, Bool.and_eq_true]
    refine ⟨?_, ?_⟩
    · rw [List.all_eq_true]
      intro z hz
      have := List.all_eq_true.1 c6 z hz
      obtain ⟨k1, k2⟩ := a2 this
      rw [k1, Bool.true_and]
      split at k2
      · rename_i i hi
        split at k2
        · rename_i o ho
          have : i ≠ ib := by rintro rfl; rw [hno] at ho; cases ho
          rw [hg, if_neg this, ho]
          exact k2
        · cases k2
      · cases k2
    · rw [List.all_cons, List.all_nil, Bool.and_true]
      have e1 : srcP s.h.next olds ib = some ib := by
        unfold srcP
        rw [show Nat.blt ib s.h.next = true from by rw [Nat.blt_eq]; exact hib.2]
      rw [show Nat.ble s.h.ro ib = true from by rw [Nat.ble_eq]; exact hib.1, e1]
      simp only [Bool.true_and]
      rw [hg, if_pos rfl]
      exact simO_miter hr
  have := Step.ren H0 st (low := low) c4 c5 (lowAt_ok hlow) hsim
  rw [hpLH_append] at this
  rw [← nb c3] at this
  exact ⟨_, this, simTm_rel c1 (fun t v hv => T.keysLow_get c2 hv) ht, this.ext⟩
def QF (base : Nat) (ρ : Ren) (nt ib : Nat) (X : AObj) (s : S) (w : World) (e : Ex) (s' : S) : Exit → Act → World → Prop := fun ex a' w' =>
  s'.h.get ib = none ∧ s.h.next ≤ s'.h.next ∧ s'.h.ro = s.h.ro ∧ ∃ ρ', ExRel ρ' e ex ∧ Step base ρ (s.h.upd ib X) w ρ' (s'.h.upd ib X) w' ∧ TmRel ρ' nt s'.tm a'.tmps ∧ DfRel ρ' s'.df a'.defers
theorem QF.after {base : Nat} {ρ ρ1 : Ren} {nt ib : Nat} {X : AObj} {s s1 s' : S} {w w1 : World} {e : Ex} (H : HRel base ρ (s.h.upd ib X) w) (st : Step base ρ (s.h.upd ib X) w ρ1 (s1.h.upd ib X) w1) (hn : s.h.next ≤ s1.h.next) (hr : s1.h.ro = s.h.ro) {ex : Exit} {a : Act} {w' : World}
    (h : QF base ρ1 nt ib X s1 w1 e s' ex a w') : QF base ρ nt ib X s w e s' ex a w' := by
  obtain ⟨g1, g2, g3, ρ2, k1, k2, k3, k4⟩ := h
  exact ⟨g1, Nat.le_trans hn g2, g3.trans hr, ρ2, k1, st.trans H k2, k3, k4⟩
theorem frameF {base : Nat} {ρ ρ' : Ren} {ib : Nat} {X : AObj} {h h' : Hp} {w w' : World} (H : HRel base ρ (h.upd ib X) w) (hno : h.get ib = none) (hlt : ib < h.next) (hro : h.ro ≤ ib) (st : Step base ρ h w ρ' h' w') :
    h'.get ib = none ∧ Step base ρ (h.upd ib X) w ρ' (h'.upd ib X) w' := by
  have hno' : h'.get ib = none := by
    cases hh : h'.get ib with
    | none => rfl
    | some o =>
      obtain ⟨p, hp⟩ := st.olds ib o hlt hh
      rw [hno] at hp; cases hp
  have hb := H.baseRo
  have hb : base ≤ h.ro := hb
  refine ⟨hno', Step.frame (hK := h) (fun q => q = ib) H (fun q o hq => ?_) rfl rfl st (hM' := h'.upd ib X) ?_ (fun q hq => by rw [upd_get, if_neg hq]) rfl rfl⟩
  · rw [upd_get, if_neg (by rintro rfl; rw [hno] at hq; cases hq)]; exact hq
  · rintro q rfl
    exact ⟨hno, hlt, by omega, by rw [upd_get, upd_get, if_pos rfl, if_pos rfl], _, by rw [upd_get, if_pos rfl]⟩
theorem subF {base : Nat} {ρ : Ren} {ib : Nat} {X : AObj} {h : Hp} {w : World} (H : HRel base ρ (h.upd ib X) w) (hno : h.get ib = none) : HRel base ρ h w :=
  HRel.sub H (fun q o hq => by rw [upd_get, if_neg (by rintro rfl; rw [hno] at hq; cases hq)]; exact hq) rfl rfl
theorem thenP_some {r : Option R} {f : S → Option R} {q : R} (e : thenP r f = some q) : (∃ s1, r = some (.code .normal s1) ∧ f s1 = some q) ∨ ∃ ex s1, ex ≠ .normal ∧ r = some (.code ex s1) ∧ q = .code ex s1 := by
  unfold thenP at e
  obtain ⟨r1, h1, e1⟩ := bind_some' e
  split at e1
  · exact .inl ⟨_, h1, e1⟩
  · rename_i ex s1 hne
    cases e1
    exact .inr ⟨ex, s1, fun h => hne (by rw [h]), h1, rfl⟩
  · cases e1
section
variable {C : Cfg} (hC : C.Ok) {self : Self} (hs : Sound C self)
include hs in
theorem codeF {ib : Nat} {X : AObj} {c : Code} {rd : Option Nat} {nt : Nat} {s : S} {e : Ex} {s2 : S} (he : self (.code c rd nt s) = some (.code e s2)) {base : Nat} {ρ : Ren} {w : World} {a : Act} {rr : Option Nat} {m : Nat} (H : HRel base ρ (s.h.upd ib X) w) (hno : s.h.get ib = none) (hlt : ib < s.h.next) (hro : s.h.ro ≤ ib)
    (ht : TmRel ρ nt s.tm a.tmps) (hd : DfRel ρ s.df a.defers) (hr : RdRel ρ rd rr) : c.wpIn (fenceOf rr) m C.P.P (QF base ρ nt ib X s w e s2) a w := by
  obtain ⟨e', s', hq, k⟩ := hs.code _ _ _ _ _ he
  cases hq
  refine wpIn_mono (k base ρ w a rr m (subF H hno) ht hd hr) ?_
  rintro ex a1 w1 ⟨ρ1, g1, g2, g3, g4⟩
  obtain ⟨q1, q2⟩ := frameF H hno hlt hro g2
  exact ⟨q1, g2.next, g2.ro, ρ1, g1, q2, g3, g4⟩
include hC hs in
theorem pathV_sound {ib r n k : Nat} {seen : List Nat} {rd : Option Nat} {nt : Nat} {rr : Option Nat} {m base : Nat} : ∀ (c : Code) (s : S) (e : Ex) (s2 : S), pathV C self rd nt ib r n k c s = some (.code e s2) → ∀ (ρ : Ren) (w : World) (a : Act), HRel base ρ (s.h.upd ib (.miter (some r) n (seen ++ [k]))) w → s.h.get ib = none → ib < s.h.next → s.h.ro ≤ ib →
    TmRel ρ nt s.tm a.tmps → DfRel ρ s.df a.defers → RdRel ρ rd rr → c.wpIn (fenceOf rr) m C.P.P (QF base ρ nt ib (.miter (some r) n (seen ++ [k])) s w e s2) a w := by
  intro c
  induction c with
  | seq x y ihx ihy =>
    intro s e s2 he ρ w a H hno hlt hro ht hd hr
    unfold pathV at he
    split at he
    · rcases thenP_some he with ⟨s1, h1, h2⟩ | ⟨ex, s1, hne, h1, h2⟩
      · refine wpIn_seq (wpIn_mono (ihx s .normal s1 h1 ρ w a H hno hlt hro ht hd hr) ?_)
        rintro ex a1 w1 ⟨g1, g2, g3, ρ1, k1, k2, k3, k4⟩
        cases ex <;> simp only [ExRel] at k1
        exact wpIn_mono (codeF hs h2 k2.rel g1 (by omega) (by omega) k3 k4 (hr.mono k2.ext)) (fun ex a w h => h.after H k2 g2 g3)
      · cases h2
        refine wpIn_seq (wpIn_mono (ihx s e s2 h1 ρ w a H hno hlt hro ht hd hr) ?_)
        intro ex' a1 w1 hq
        cases ex' with
        | normal =>
          obtain ⟨_, _, _, ρ1, k1, _⟩ := hq
          cases e <;> first | exact absurd rfl hne | (simp [ExRel] at k1)
        | _ => exact hq
    · rcases thenP_some he with ⟨s1, h1, h2⟩ | ⟨ex, s1, hne, h1, h2⟩
      · refine wpIn_seq (wpIn_mono (codeF hs h1 H hno hlt hro ht hd hr) ?_)
        rintro ex a1 w1 ⟨g1, g2, g3, ρ1, k1, k2, k3, k4⟩
        cases ex <;> simp only [ExRel] at k1
        exact wpIn_mono (ihy s1 e s2 h2 ρ1 w1 a1 k2.rel g1 (by omega) (by omega) k3 k4 (hr.mono k2.ext)) (fun ex a w h => h.after H k2 g2 g3)
      · cases h2
        refine wpIn_seq (wpIn_mono (codeF hs h1 H hno hlt hro ht hd hr) ?_)
        intro ex' a1 w1 hq
        cases ex' with
        | normal =>
          obtain ⟨_, _, _, ρ1, k1, _⟩ := hq
          cases e <;> first | exact absurd rfl hne | (simp [ExRel] at k1)
        | _ => exact hq
  | block id b ih =>
    intro s e s2 he ρ w a H hno hlt hro ht hd hr
    unfold pathV blockP at he
    obtain ⟨r1, h1, he⟩ := bind_some' he
    split at he
    · rename_i i s1
      refine wpIn_block (wpIn_mono (ih s (.exit i) s1 h1 ρ w a H hno hlt hro ht hd hr) ?_)
      rintro ex a1 w1 ⟨g1, g2, g3, ρ1, k1, k2, k3, k4⟩
      cases ex <;> simp only [ExRel] at k1
      subst k1
      split at he
      · rename_i hi
        cases he
        have hi := Nat.eq_of_beq_eq_true hi
        simp only [Exit.inBlock, hi, if_true]
        exact ⟨g1, g2, g3, ρ1, trivial, k2, k3, k4⟩
      · rename_i hi
        cases he
        have hne : i ≠ id := fun h => by subst h; simp at hi
        simp only [Exit.inBlock, hne, if_false]
        exact ⟨g1, g2, g3, ρ1, rfl, k2, k3, k4⟩
    · rename_i ex s1 hne
      cases he
      refine wpIn_block (wpIn_mono (ih s e s2 h1 ρ w a H hno hlt hro ht hd hr) ?_)
      intro ex' a1 w1 hq
      cases ex' with
      | exit i =>
        obtain ⟨_, _, _, ρ1, k1, _⟩ := hq
        cases e <;> first | exact absurd rfl (hne _) | (simp [ExRel] at k1)
      | _ => exact hq
    · cases he
  | region id ops dr =>
    intro s e s2 he ρ w a H hno hlt hro ht hd hr
    cases dr with
    | true => exact codeF hs (by simpa only [pathV] using he) H hno hlt hro ht hd hr
    | false =>
      unfold pathV at he
      split at he
      · rename_i o rest hops
        split at he
        · rename_i x hop
          obtain ⟨s1, h1, he⟩ := bind_some' he
          have h0 : ops[0]? = some o := by rw [← Array.getElem?_toList, hops]; rfl
          have hsz : 0 < ops.size := (Array.getElem?_eq_some_iff.1 h0).1
          unfold entP at h1
          rw [hop] at h1
          simp only at h1
          obtain ⟨v, hv, h1⟩ := bind_some' h1
          split at h1
          · rename_i ad
            obtain ⟨c0, h1⟩ := ok?_some h1
            obtain ⟨c1, c0⟩ := a2 c0
            obtain ⟨c0, c4⟩ := a2 c0
            obtain ⟨c2, c3⟩ := a2 c0
            obtain ⟨es, hes, h1⟩ := bind_some' h1
            obtain ⟨c5, h1⟩ := ok?_some h1
            obtain ⟨en, hen, h1⟩ := bind_some' h1
            obtain ⟨tm, htm, h1⟩ := bind_some' h1
            cases h1
            have hmap : s.h.get r = some (.map es) := by
              unfold mapAt at hes
              split at hes
              · rename_i es' he'; cases hes; exact he'
              · cases hes
            have rne : r ≠ ib := by intro e; rw [e, hno] at hmap; cases hmap
            have hg : o.guard = none := by
              unfold noGuard at c4
              split at c4
              · assumption
              · cases c4
            have hop1 : op1V C self rd nt ops o { s with h := s.h.upd ib (.miter (some r) n (seen ++ [k])) } = some (.code .normal { tm, df := s.df, h := s.h.upd ib (.miter (some r) n (seen ++ [k])) }) := by
              unfold op1V
              rw [show wantedV ops ({ s with h := s.h.upd ib (.miter (some r) n (seen ++ [k])) } : S).tm o = true from by unfold wantedV; rw [hg]]
              simp only
              unfold opV
              rw [hop]
              simp only [opEntry, op1, hv, Option.bind_some]
              have hent : entryV (s.h.upd ib (.miter (some r) n (seen ++ [k]))) (.pointer (some ad)) = some (.tuple #[en.1, en.2]) := by
                have hq : (s.h.upd ib (.miter (some r) n (seen ++ [k]))).get ad.block = some (.miter (some r) n (seen ++ [k])) := by rw [upd_get, if_pos (nb c1)]
                have hq2 : (s.h.upd ib (.miter (some r) n (seen ++ [k]))).get r = some (.map es) := by rw [upd_get, if_neg rne]; exact hmap
                have hl : (seen ++ [k]).getLast? = some k := by simp
                unfold entryV
                rw [show addrOf (.pointer (some ad)) = some ad from by
                  have hsp : ad.spot = none := nospot_eq c3
                  unfold addrOf; simp only [hsp], Option.bind_some, c2]
                show (match (s.h.upd ib (.miter (some r) n (seen ++ [k]))).get ad.block with | some (.miter (some r) n seen) => _ | _ => none) = _
                rw [hq]
                simp only
                rw [hq2]
                simp only
                rw [c5, hl]
                simp only [hen, Option.bind_some]
                rfl
              rw [hent]
              simp only [pureOp, Option.bind_some, htm]
            refine wpIn_region ?_
            rw [List.range_eq_range', show ops.size = (ops.size - 1) + 1 by omega, List.range'_succ, wpOpsIn_cons]
            refine op1_sound hC hs h0 hop1 H ht hd hr ?_ (fun v v' ρ' a' w' hv => by cases hv)
            intro _ ρ1 a1 w1 st1 ht1 hd1
            have hrest : ops.toList.drop 1 = rest := by rw [hops]; rfl
            refine opsV_sound hC hs (ops.size - 1) 1 rfl hsz (s := { tm, df := s.df, h := s.h }) (by rw [hrest]; exact he) (subF st1.rel hno) ht1 hd1 (hr.mono st1.ext) ?_
            rintro ex a2 w2 ⟨ρ2, g1, g2, g3, g4⟩
            obtain ⟨q1, q2⟩ := frameF st1.rel hno hlt hro g2
            exact ⟨q1, g2.next, g2.ro, ρ2, g1, st1.trans H q2, g3, g4⟩
          · cases h1
        · exact codeF hs he H hno hlt hro ht hd hr
      · exact codeF hs he H hno hlt hro ht hd hr
  | _ =>
    intro s e s2 he ρ w a H hno hlt hro ht hd hr
    exact codeF hs (by simpa only [pathV] using he) H hno hlt hro ht hd hr
include hC hs in
theorem bodyP_sound {ib r n k : Nat} {seen : List Nat} {rd rr : Option Nat} {nt m : Nat} {ops : Array Oper} {b2 : Code} {s s2 : S} {e : Ex} (he : bodyP C self rd nt ops b2 ib r n k s = some (.code e s2)) (hsz : 0 < ops.size) {base : Nat} {ρ : Ren} {w : World} {a : Act}
    (H : HRel base ρ (s.h.upd ib (.miter (some r) n (seen ++ [k]))) w) (hno : s.h.get ib = none) (hlt : ib < s.h.next) (hro : s.h.ro ≤ ib) (ht : TmRel ρ nt s.tm a.tmps) (hd : DfRel ρ s.df a.defers) (hr : RdRel ρ rd rr) {Q : Exit → Act → World → Prop}
    (hq : ∀ ex a' w', QF base ρ nt ib (.miter (some r) n (seen ++ [k])) s w e s2 ex a' w' → Q ex a' w') :
    wpOpsIn (fenceOf rr) m C.P.P ops (Exit.then (b2.wpIn (fenceOf rr) m C.P.P Q) Q) (List.range' 1 (ops.size - 1)) a w := by
  unfold bodyP at he
  obtain ⟨r1, h1, he⟩ := bind_some' he
  split at he
  · rename_i s1
    refine opsV_sound hC hs (ops.size - 1) 1 rfl hsz h1 (subF H hno) ht hd hr ?_
    rintro ex a1 w1 ⟨ρ1, hex, hst, ht1, hd1⟩
    cases ex <;> simp only [ExRel] at hex
    obtain ⟨q1, q2⟩ := frameF H hno hlt hro hst
    have hn := hst.next
    have hro2 := hst.ro
    refine wpIn_mono (pathV_sound hC hs b2 s1 e s2 he ρ1 w1 a1 q2.rel q1 (by omega) (by omega) ht1 hd1 (hr.mono hst.ext)) ?_
    intro ex a2 w2 h
    exact hq ex a2 w2 (h.after H q2 hn hro2)
  · cases he
end
theorem nodup_len : ∀ (n : Nat) {l : List Nat}, l.Nodup → (∀ k ∈ l, k < n) → l.length ≤ n
  | 0, l, _, h => by
    cases l with
    | nil => simp
    | cons a l => have := h a (.head _); omega
  | n + 1, l, hnd, h => by
    have h1 := nodup_len n (hnd.erase n) (fun k hk => by
      obtain ⟨g1, g2⟩ := (hnd.mem_erase_iff).1 hk
      have := h k g2
      omega)
    have : l.length ≤ (l.erase n).length + 1 := by
      rw [List.length_erase]
      split <;> omega
    omega
theorem dfNil {ρ : Ren} {ds : List Deferred} (h : DfRel ρ [] ds) : ds = [] := by cases ds with | nil => rfl | cons _ _ => exact h.elim
section
variable {C : Cfg} (hC : C.Ok) {self : Self} (hs : Sound C self)
include hC hs in
theorem loop_ok {rd rr : Option Nat} {nt m id n : Nat} {ops : Array Oper} {b2 : Code} {o0 : Oper} {it : Operand} {tab : LTab} {s : S} {low : List (Nat × AObj)} {sts : List S} {rs : List R}
    (ho : ops[0]? = some o0) (hop : o0.op = .next it false) (hg : o0.guard = none) (hd0 : dstOk nt o0.dst = true) (hib : s.h.ro ≤ tab.ib ∧ tab.ib < s.h.next) (hrn : tab.r < s.h.next) (hlow : lowAt s.h tab.low = some low) (hsts : statesAt s low tab.states = some sts)
    (hacc : accOk tab n = true) (hrows : rowsOk C self rd nt ops b2 tab s sts o0.dst it n sts tab.next = true) (hends : endsAt C self rd nt ops b2 tab o0.dst (endAcc tab n) sts 0 = some rs)
    {base : Nat} {ρ0 : Ren} {w0 : World} (H0 : HRel base ρ0 s.h w0) (hrd : RdRel ρ0 rd rr) : ∀ (j : Nat) (seen : List Nat) (i : Nat) (y : S) (ρ : Ren) (w : World) (a : Act), j + seen.length = n → seen.Nodup → (∀ k ∈ seen, k < n) → sts[i]? = some y → accAt tab i = seen.foldl (foldAt tab) (accAt tab 0) →
      Step base ρ0 s.h w0 ρ (y.h.upd tab.ib (.miter (some tab.r) n seen)) w → TmRel ρ nt y.tm a.tmps → DfRel ρ [] a.defers → (Code.loop (.seq (.region id ops false) b2)).wpIn (fenceOf rr) m C.P.P (QCodeN base ρ0 nt s w0 rs) a w := by
  have hput : ∀ (tm : T Value) v, ∃ tm1, putTm nt tm o0.dst v = some tm1 := by
    intro tm v
    refine putTm_some fun x hx => ?_
    rw [hx] at hd0
    unfold dstOk at hd0
    rwa [Nat.blt_eq] at hd0
  have hsz : 0 < ops.size := (Array.getElem?_eq_some_iff.1 ho).1
  intro j
  induction j using Nat.strongRecOn with
  | ind j ih =>
  intro seen i y ρ w a hj hnd hlt hy ha st ht hd
  obtain ⟨row, hrow, hok⟩ := rowsOk_get hrows i y hy
  obtain ⟨xs, hxs, hsty⟩ := (statesAt_get hsts i).1 y hy
  obtain ⟨ydf, yro⟩ : y.df = [] ∧ y.h.ro = s.h.ro ∧ s.h.next ≤ y.h.next := by
    unfold stAt at hsty
    obtain ⟨tm, _, hsty⟩ := bind_some' hsty
    obtain ⟨high, _, hsty⟩ := bind_some' hsty
    cases hsty
    exact ⟨rfl, rfl, Nat.le_add_right _ _⟩
  obtain ⟨yro, ynx⟩ := yro
  unfold rowOk at hok
  obtain ⟨k1, hok⟩ := a2 hok
  obtain ⟨k2, k3⟩ := a2 hok
  have yib := noneB_eq k1
  have hit : evTm y.tm it = some (.pointer (some ⟨tab.ib, 0, none⟩)) := by
    split at k2
    · rename_i ad he
      obtain ⟨c1, k2⟩ := a2 k2
      obtain ⟨c2, c3⟩ := a2 k2
      rw [he, addr_eq (nospot_eq c3) (nb c1) (nb c2)]
    · cases k2
  split at k3
  case h_2 => cases k3
  rename_i es hes
  obtain ⟨c1, c2⟩ := a2 k3
  have hn := nb c1
  have hmap : y.h.get tab.r = some (.map es) := by
    unfold mapAt at hes
    split at hes
    · rename_i es' he; cases hes; exact he
    · cases hes
  have rne : tab.r ≠ tab.ib := by intro e; rw [e, yib] at hmap; cases hmap
  have fib : (y.h.upd tab.ib (.miter (some tab.r) n seen)).get tab.ib = some (.miter (some tab.r) n seen) := by rw [upd_get, if_pos rfl]
  have fmap : (y.h.upd tab.ib (.miter (some tab.r) n seen)).get tab.r = some (.map es) := by rw [upd_get, if_neg rne]; exact hmap
  have hbr := H0.baseRo
  refine wpIn_unroll QCodeN_exits (wpIn_seq (wpIn_region ?_))
  rw [List.range_eq_range', show ops.size = (ops.size - 1) + 1 by omega, List.range'_succ, wpOpsIn_cons]
  refine ask_sound ho hop hg hit fib fmap hn (by show y.h.ro ≤ tab.ib; rw [yro]; exact hib.1) st.rel ht hd ?_ ?_ (hput y.tm)
  · -- no entry is left
    intro hleft tm1 htm a1 ht1 hd1
    have hall : ∀ k, k < n → k ∈ seen := by
      intro k hk
      apply Classical.byContradiction
      intro hh
      have := leftM_mem.2 ⟨hk, hh⟩
      rw [hleft] at this; cases this
    have hperm : seen.Perm (List.range n) := (List.perm_ext_iff_of_nodup hnd List.nodup_range).2 (fun k => ⟨fun h => List.mem_range.2 (hlt k h), fun h => hall k (List.mem_range.1 h)⟩)
    have hend : accAt tab (0 + i) = endAcc tab n := by
      rw [Nat.zero_add, ha]
      unfold endAcc
      refine List.Perm.foldl_eq' hperm (fun p hp q hq z => ?_) _
      unfold accOk at hacc
      obtain ⟨_, hc⟩ := a2 hacc
      by_cases hz : z < tab.fold.length
      · have := List.all_eq_true.1 (List.all_eq_true.1 (List.all_eq_true.1 hc z (List.mem_range.2 hz)) p (List.mem_range.2 (hlt p hp))) q (List.mem_range.2 (hlt q hq))
        exact nb this
      · have hf : ∀ x, foldAt tab z x = z := by
          intro x
          unfold foldAt
          rw [show Nat.blt z tab.fold.length = false from by rw [← Bool.not_eq_true, Nat.blt_eq]; exact hz]
        rw [hf, hf, hf]
    obtain ⟨r, hr1, hr2, hr3⟩ := endsAt_get hends i y hy hend
    obtain ⟨y1, hy1, hr2⟩ := bind_some' hr2
    unfold askV at hy1
    rw [htm] at hy1
    cases hy1
    cases r with
    | code e s2 =>
      have hne : e ≠ .normal := by rintro rfl; cases hr3
      have hK : HRel base ρ y.h w := HRel.sub st.rel (fun q o hq => by
        rw [upd_get, if_neg (by rintro rfl; rw [yib] at hq; cases hq)]; exact hq) rfl rfl
      have st2 : Step base ρ0 s.h w0 ρ y.h w := by
        have h1 := st.trans H0 (Step.del st.rel tab.ib)
        refine h1.same_get (fun q => ?_) rfl rfl
        unfold Hp.del Hp.get Hp.upd
        simp only [T.get_put]
        by_cases e : q = tab.ib
        · rw [if_pos e, e]; exact yib
        · rw [if_neg e, if_neg e]
      refine bodyV_sound hC hs hr2 hsz hK ht1 (by rw [show ({ y with tm := tm1 } : S).df = [] from ydf]; exact hd1) (hrd.mono st.ext) ?_
      rintro ex a2 w2 ⟨ρ3, g1, g2, g3, g4⟩
      have hq : QCodeN base ρ0 nt s w0 rs ex a2 w2 := ⟨e, s2, hr1, ρ3, g1, st2.trans H0 g2, g3, g4⟩
      cases ex with
      | normal =>
        cases e with
        | normal => exact absurd rfl hne
        | _ => simp [ExRel] at g1
      | _ => exact hq
    | _ => cases hr3
  · -- a turn
    intro k e tm1 hk he htm a1 w1 sta ht1 hd1
    obtain ⟨hkn, hks⟩ := leftM_mem.1 hk
    obtain ⟨t, hts, htok⟩ := allOk_get c2 k e he
    unfold turnOk at htok
    split at htok
    case h_2 => cases htok
    rename_i s' x' y' hturn hx' hy'
    unfold turnV askV at hturn
    rw [htm] at hturn
    simp only [Option.map_some, Option.bind_some] at hturn
    have stM : Step base ρ (y.h.upd tab.ib (.miter (some tab.r) n seen)) w ρ (y.h.upd tab.ib (.miter (some tab.r) n (seen ++ [k]))) w1 := by
      refine sta.same_get (fun q => ?_) rfl rfl
      rw [upd_get, upd_get, upd_get]
      by_cases e : q = tab.ib
      · rw [if_pos e, if_pos e]
      · rw [if_neg e, if_neg e, if_neg e]
    have hsub : ∀ q o, y.h.get q = some o → (y.h.upd tab.ib (.miter (some tab.r) n (seen ++ [k]))).get q = some o := by
      intro q o hq
      rw [upd_get, if_neg (by rintro rfl; rw [yib] at hq; cases hq)]; exact hq
    rw [Nat.zero_add] at hturn
    refine bodyP_sound (seen := seen) hC hs hturn hsz stM.rel yib (by show tab.ib < y.h.next; omega) (by show y.h.ro ≤ tab.ib; omega) ht1 (by rw [show ({ y with tm := tm1 } : S).df = [] from ydf]; exact hd1) (hrd.mono st.ext) ?_
    rintro ex a3 w3 ⟨hno, _, _, ρ3, g1, hfr, g3, g4⟩
    cases ex <;> simp only [ExRel] at g1
    have hdf : s'.df = [] := by
      unfold sameV at htok
      exact nilB_eq (a2 htok).1
    obtain ⟨x2, hx2, hst2⟩ := (statesAt_get hsts t.1).1 y' hy'
    rw [hx'] at hx2; cases hx2
    obtain ⟨ρ4, q1, q2, q3⟩ := same_step H0 hlow hst2 htok hib hrn (fun q => upd_get q) hno ((st.trans H0 stM).trans H0 hfr) g3
    rw [hdf] at g4
    show (Code.loop (.seq (.region id ops false) b2)).wpIn (fenceOf rr) m C.P.P (QCodeN base ρ0 nt s w0 rs) a3 w3
    have hlt2 : seen.length < n := by
      have h1 : (k :: seen).Nodup := List.nodup_cons.2 ⟨hks, hnd⟩
      have := nodup_len n h1 (by
        intro z hz
        rcases List.mem_cons.1 hz with rfl | hz
        · exact hkn
        · exact hlt z hz)
      simp at this; omega
    refine ih (j - 1) (by omega) (seen ++ [k]) t.1 y' ρ4 w3 a3 (by simp; omega) ?_ ?_ hy' ?_ q1 q2 (by rw [dfNil g4]; trivial)
    · rw [List.nodup_append]
      exact ⟨hnd, by simp, by intro p hp q hq; simp at hq; subst hq; rintro rfl; exact hks hp⟩
    · intro z hz
      rcases List.mem_append.1 hz with hz | hz
      · exact hlt z hz
      · simp at hz; subst hz; exact hkn
    · rw [List.foldl_append]
      simp only [List.foldl_cons, List.foldl_nil]
      rw [← ha]
      unfold accOk at hacc
      obtain ⟨hc, _⟩ := a2 hacc
      have hi : i < tab.next.length := (List.getElem?_eq_some_iff.1 hrow).1
      have := List.all_eq_true.1 (List.all_eq_true.1 hc i (List.mem_range.2 hi)) k (List.mem_range.2 hkn)
      rw [hrow] at this
      simp only [Option.bind_some] at this
      rw [hts] at this
      exact nb this
include hC hs in
end
end
end Go.Eng
/-
  A region that draws its order, with one store: all orders lead to one state, by the sets of what was done.
-/
namespace Go.Eng
def vEq : Nat → Value → Value → Bool
  | 0, _, _ => false
  | n + 1, u, v => match u with
    | .pointer (some a) => (match v with | .pointer (some b) => Nat.beq a.block b.block && (Nat.beq a.off b.off && (nospot a && nospot b)) | _ => false)
    | .pointer none => (match v with | .pointer none => true | _ => false)
    | .map (some r) => (match v with | .map (some r') => Nat.beq r r' | _ => false)
    | .map none => (match v with | .map none => true | _ => false)
    | .nilFunc => (match v with | .nilFunc => true | _ => false)
    | .nilIface => (match v with | .nilIface => true | _ => false)
    | .func f a b => (match v with | .func g c d => (match f with | .func x => (match g with | .func y => Nat.beq x y | _ => false) | .yield x => (match g with | .yield y => Nat.beq x y | _ => false) | _ => false) && (listEq (vEq n) a.toList c.toList && listEq (vEq n) b.toList d.toList) | _ => false)
    | .agg a => (match v with | .agg b => listEq (vEq n) a.toList b.toList | _ => false)
    | .tuple a => (match v with | .tuple b => listEq (vEq n) a.toList b.toList | _ => false)
    | .iface t x => (match v with | .iface u y => Nat.beq t u && vEq n x y | _ => false)
    | u => vflat u v
theorem addr_same {a b : Addr} (h1 : a.block = b.block) (h2 : a.off = b.off) (h3 : a.spot = none) (h4 : b.spot = none) : a = b := by
  cases a; cases b; simp_all
theorem vEq_eq : ∀ (n : Nat) (u v : Value), vEq n u v = true → u = v
  | 0, _, _, h => by cases h
  | n + 1, u, v, h => by
    have ih := vEq_eq n
    unfold vEq at h
    split at h
    · split at h
      · obtain ⟨h1, h⟩ := a2 h
        obtain ⟨h2, h⟩ := a2 h
        obtain ⟨h3, h4⟩ := a2 h
        rw [addr_same (nb h1) (nb h2) (nospot_eq h3) (nospot_eq h4)]
      · cases h
    · split at h
      · rfl
      · cases h
    · split at h
      · rw [nb h]
      · cases h
    · split at h
      · rfl
      · cases h
    · split at h
      · rfl
      · cases h
    · split at h
      · rfl
      · cases h
    · split at h
      · obtain ⟨h1, h⟩ := a2 h
        obtain ⟨h2, h3⟩ := a2 h
        rw [arrE ih h2, arrE ih h3]
        split at h1
        · split at h1
          · rw [nb h1]
          · cases h1
        · split at h1
          · rw [nb h1]
          · cases h1
        · cases h1
      · cases h
    · split at h
      · rw [arrE ih h]
      · cases h
    · split at h
      · rw [arrE ih h]
      · cases h
    · split at h
      · obtain ⟨h1, h2⟩ := a2 h
        rw [nb h1, ih _ _ h2]
      · cases h
    · exact vflat_eq _ _ h
noncomputable section
def sameTm (nt : Nat) (a b : T Value) : Bool := (List.range nt).all fun t => match a.get t with
  | some u => (match b.get t with | some v => vEq 6 u v | none => false)
  | none => noneB (b.get t)
theorem sameTm_rel {ρ : Ren} {nt : Nat} {a b : T Value} {tmps : Array Value} (h : sameTm nt a b = true) (hb : T.keysLow nt b = true) (ht : TmRel ρ nt a tmps) : TmRel ρ nt b tmps := by
  refine ⟨ht.1, fun t => ?_⟩
  have h2 := ht.2 t
  by_cases hn : t < nt
  · have h1 := List.all_eq_true.1 h t (List.mem_range.2 hn)
    split at h1
    · rename_i u hu
      split at h1
      · rename_i v hv
        rw [hv, ← vEq_eq _ _ _ h1, ← hu]; exact h2
      · cases h1
    · rename_i hu
      rw [noneB_eq h1, ← hu]; exact h2
  · have hv : b.get t = none := by
      cases hh : b.get t with
      | none => rfl
      | some v => exact absurd (T.keysLow_get hb hh) hn
    rw [hv, Option.getD_none, Array.getD_eq_getD_getElem?, Array.getElem?_eq_none (by rw [ht.1]; omega)]
    exact .tuple _ _ rfl (fun i x x' h1 _ => by simp at h1)
def stillOp : Op → Bool
  | .move _ | .assign _ | .pick .. | .load .. | .nilCheck _ | .binOp .. | .fieldAddr .. | .field .. | .indexAddr .. | .index .. | .extract .. | .build .. | .lookup .. => true
  | _ => false
theorem calm_heap {E : Env} {ev : Ev} {o : Oper} {h h' : Hp} {v : Value} (hc : stillOp o.op = true) (e : opV E ev o h = some (.val v h')) : h' = h := by
  have pure : ∀ {x : Option Value}, pureOp h x = some (.val v h') → h' = h := by
    intro x hx
    unfold pureOp at hx
    obtain ⟨u, _, hx⟩ := bind_some' hx
    cases hx; rfl
  unfold stillOp at hc
  unfold opV at e
  split at hc
  all_goals first | (cases hc; done) | skip
  all_goals (rename_i hop; rw [hop] at e; simp only at e)
  · exact pure e
  · exact pure e
  · unfold opPick op3 at e
    obtain ⟨a, _, e⟩ := bind_some' e
    obtain ⟨b, _, e⟩ := bind_some' e
    obtain ⟨c, _, e⟩ := bind_some' e
    dsimp only at e
    split at e
    · cases e; rfl
    · cases e; rfl
    · cases e
  · unfold opLoad op1 at e
    obtain ⟨a, _, e⟩ := bind_some' e
    exact pure e
  · unfold opNilCheck op1 at e
    obtain ⟨a, _, e⟩ := bind_some' e
    exact pure e
  · unfold opBin op2 at e
    obtain ⟨a, _, e⟩ := bind_some' e
    obtain ⟨b, _, e⟩ := bind_some' e
    exact pure e
  · unfold opFieldAddr op1 at e
    obtain ⟨a, _, e⟩ := bind_some' e
    exact pure e
  · unfold opField op1 at e
    obtain ⟨a, _, e⟩ := bind_some' e
    exact pure e
  · unfold opIndexAddr op2 at e
    obtain ⟨a, _, e⟩ := bind_some' e
    obtain ⟨b, _, e⟩ := bind_some' e
    exact pure e
  · unfold opIndex op2 at e
    obtain ⟨a, _, e⟩ := bind_some' e
    obtain ⟨b, _, e⟩ := bind_some' e
    exact pure e
  · unfold opExtract op1 at e
    obtain ⟨a, _, e⟩ := bind_some' e
    try dsimp only at e
    split at e
    · exact pure e
    · cases e
  · unfold opBuild at e
    obtain ⟨a, _, e⟩ := bind_some' e
    exact pure e
  · unfold opLookup op2 at e
    obtain ⟨a, _, e⟩ := bind_some' e
    obtain ⟨b, _, e⟩ := bind_some' e
    exact pure e
structure St1 where
  k : Nat
  t : TypeId
  x : Operand
  y : Operand
  vx : Value
  vy : Value
  h1 : Hp
section
variable (C : Cfg) (nt : Nat) (ops : Array Oper) (h0 : Hp) (st : Option St1)
def readyM (mask i : Nat) : Bool := match ops[i]? with
  | some o => !(Nat.testBit mask i) && o.after.toList.all fun e => !(Region.binds .any e) || Nat.testBit mask e.on
  | none => false
def findM (m : Nat) : List (Nat × T Value) → Option (T Value)
  | [] => none
  | (n, t) :: l => match Nat.beq n m with | true => some t | false => findM m l
end
theorem findM_mem {m : Nat} {t : T Value} : ∀ {l : List (Nat × T Value)}, findM m l = some t → (m, t) ∈ l
  | [], h => by cases h
  | (n, u) :: l, h => by
    unfold findM at h
    split at h
    · rename_i hb
      cases h; rw [nb hb]; exact .head _
    · exact .tail _ (findM_mem h)
theorem left_set {ops : Array Oper} {listed listed' : Array Bool} {i : Nat} (hset : ∀ j, lst listed' j = (lst listed j || j == i)) (hi : lst listed i = false) (hlt : i < ops.size) : left ops listed' + 1 = left ops listed := by
  unfold left
  have h1 : (List.range ops.size).filter (fun x => !lst listed' x) = ((List.range ops.size).filter (fun x => !lst listed x)).erase i := by
    rw [List.Nodup.erase_eq_filter (List.nodup_range.sublist List.filter_sublist), List.filter_filter]
    refine List.filter_congr (fun x _ => ?_)
    rw [hset, Bool.not_or, Bool.and_comm]; rfl
  rw [h1, List.length_erase_of_mem (List.mem_filter.2 ⟨List.mem_range.2 hlt, by rw [hi]; rfl⟩)]
  have := List.length_pos_of_mem (List.mem_filter (p := fun x => !lst listed x).2 ⟨List.mem_range.2 hlt, by simp [hi]⟩)
  omega
section
variable {C : Cfg} (hC : C.Ok) {self : Self} (hs : Sound C self)
include hC hs in
include hC hs in
end
end
end Go.Eng
/-
  A region that draws its order, with some operations that change the heap, one behind the other in all orders: by the sets of what was done.
-/
namespace Go.Eng
noncomputable section
structure Big1 where
  k : Nat
  tm : T Value
  v : Value
  h1 : Hp
def bigV (C : Cfg) (self : Self) (o : Oper) (tm : T Value) (h : Hp) : Option (Value × Hp) := (opV C.P (evTm tm) o h).bind fun r => match r with
  | .val v h' => some (v, h')
  | .call fn args => (callV C self fn args h).bind fun r => match r with | .ret v h' => some (v, h') | _ => none
  | _ => none
theorem bigV_op1 {C : Cfg} {self : Self} {rd : Option Nat} {nt : Nat} {ops : Array Oper} {o : Oper} {tm tm' : T Value} {h h' : Hp} {v : Value} (df : List Deferred) (hw : wantedV ops tm o = true) (e : bigV C self o tm h = some (v, h')) (hp : putTm nt tm o.dst v = some tm') :
    op1V C self rd nt ops o { tm, df, h } = some (.code .normal { tm := tm', df, h := h' }) := by
  unfold bigV at e
  obtain ⟨r, hr, e⟩ := bind_some' e
  unfold op1V
  rw [show wantedV ops ({ tm, df, h } : S).tm o = true from hw]
  simp only [hr, Option.bind_some]
  split at e
  · cases e
    simp only [hp, Option.bind_some]
  · obtain ⟨r2, hr2, e⟩ := bind_some' e
    simp only [hr2, Option.bind_some]
    split at e
    · cases e
      simp only [hp, Option.bind_some]
    · cases e
  · cases e
theorem bigV_congr {C : Cfg} {self : Self} {o : Oper} {tm tm2 : T Value} {h : Hp} (H : ∀ x ∈ o.op.operands, evTm tm x = evTm tm2 x) : bigV C self o tm h = bigV C self o tm2 h := by
  unfold bigV
  rw [opV_congr H]
def hpB : Hp → List Big1 → Nat → Hp
  | h0, [], _ => h0
  | h0, b :: l, mask => match Nat.testBit mask b.k with | true => hpB b.h1 l mask | false => h0
def nextB : List Big1 → Nat → Nat → Option Big1
  | [], _, _ => none
  | b :: l, mask, i => match Nat.testBit mask b.k with
    | true => nextB l mask i
    | false => match Nat.beq b.k i && l.all (fun c => !(Nat.testBit mask c.k) && !(Nat.beq c.k i)) with
      | true => some b
      | false => none
def isBigK (l : List Big1) (i : Nat) : Bool := l.any fun b => Nat.beq b.k i
def BigsOk (C : Cfg) (self : Self) (ops : Array Oper) : Hp → List Big1 → Prop
  | _, [] => True
  | h0, b :: l => (∃ o, ops[b.k]? = some o ∧ bigV C self o b.tm h0 = some (b.v, b.h1)) ∧ BigsOk C self ops b.h1 l
theorem bit_or (mask i j : Nat) : Nat.testBit (mask ||| 2 ^ i) j = (Nat.testBit mask j || decide (i = j)) := by
  rw [Nat.testBit_or, Nat.testBit_two_pow]
theorem hpB_later {mask i : Nat} : ∀ (l : List Big1) (h : Hp), l.all (fun c => !(Nat.testBit mask c.k) && !(Nat.beq c.k i)) = true → hpB h l (mask ||| 2 ^ i) = h
  | [], h, _ => rfl
  | b :: l, h, ha => by
    have h1 := List.all_eq_true.1 ha b (.head _)
    simp only [Bool.and_eq_true, Bool.not_eq_true'] at h1
    have hb : Nat.testBit (mask ||| 2 ^ i) b.k = false := by
      rw [bit_or, h1.1, Bool.false_or, decide_eq_false_iff_not]
      intro e
      rw [e, Nat.beq_refl] at h1
      exact absurd h1.2 (by simp)
    unfold hpB
    rw [hb]
theorem hpB_other {mask i : Nat} : ∀ (l : List Big1) (h : Hp), isBigK l i = false → hpB h l (mask ||| 2 ^ i) = hpB h l mask
  | [], h, _ => rfl
  | b :: l, h, ha => by
    unfold isBigK at ha
    rw [List.any_cons, Bool.or_eq_false_iff] at ha
    have hb : Nat.testBit (mask ||| 2 ^ i) b.k = Nat.testBit mask b.k := by
      rw [bit_or, decide_eq_false_iff_not.2, Bool.or_false]
      intro e
      rw [e, Nat.beq_refl] at ha
      cases ha.1
    unfold hpB
    rw [hb]
    split
    · exact hpB_other l _ ha.2
    · rfl
theorem next_ok {C : Cfg} {self : Self} {ops : Array Oper} {mask i : Nat} {b : Big1} : ∀ {l : List Big1} {h : Hp}, BigsOk C self ops h l → nextB l mask i = some b →
    ∃ o, ops[i]? = some o ∧ bigV C self o b.tm (hpB h l mask) = some (b.v, b.h1) ∧ hpB h l (mask ||| 2 ^ i) = b.h1
  | [], _, _, e => by cases e
  | c :: l, h, hb, e => by
    unfold nextB at e
    split at e
    · rename_i ht
      obtain ⟨o, h1, h2, h3⟩ := next_ok hb.2 e
      refine ⟨o, h1, ?_, ?_⟩
      · unfold hpB; rw [ht]; exact h2
      · unfold hpB
        rw [show Nat.testBit (mask ||| 2 ^ i) c.k = true by rw [bit_or, ht, Bool.true_or]]
        exact h3
    · rename_i ht
      split at e
      · rename_i hc
        cases e
        obtain ⟨hk, hl⟩ := a2 hc
        have hk := nb hk
        subst hk
        obtain ⟨o, h1, h2⟩ := hb.1
        refine ⟨o, h1, ?_, ?_⟩
        · unfold hpB; rw [ht]; exact h2
        · unfold hpB
          rw [show Nat.testBit (mask ||| 2 ^ b.k) b.k = true by rw [bit_or]; simp]
          exact hpB_later l _ hl
      · cases e
def evEq (a b : Option Value) : Bool := match a, b with
  | some u, some v => vEq 6 u v
  | _, _ => false
theorem evEq_eq {a b : Option Value} (h : evEq a b = true) : a = b := by
  unfold evEq at h
  split at h
  · rw [vEq_eq _ _ _ h]
  · cases h
section
variable (C : Cfg) (self : Self) (rd : Option Nat) (nt : Nat) (ops : Array Oper) (h0 : Hp) (bs : List Big1)
def opC2 (mask : Nat) (tm : T Value) (i : Nat) : Option (T Value) := (ops[i]?).bind fun o =>
  match isBigK bs i with
  | true => (nextB bs mask i).bind fun b => ok? (wantedV ops tm o && o.op.operands.toList.all (fun x => evEq (evTm tm x) (evTm b.tm x))) (putTm nt tm o.dst b.v)
  | false => match wantedV ops tm o with
    | false => putTm nt tm o.dst undef
    | true => ok? (stillOp o.op) <| (opV C.P (evTm tm) o (hpB h0 bs mask)).bind fun r => match r with
      | .val v _ => putTm nt tm o.dst v
      | _ => none
def nextLev21 (mask : Nat) (tm : T Value) : List Nat → List (Nat × T Value) → List (Nat × T Value)
  | [], out => out
  | i :: is, out => match readyM ops mask i with
    | false => nextLev21 mask tm is out
    | true => match findM (mask ||| 2 ^ i) out with
      | some _ => nextLev21 mask tm is out
      | none => match opC2 C nt ops h0 bs mask tm i with
        | some tm' => nextLev21 mask tm is ((mask ||| 2 ^ i, tm') :: out)
        | none => nextLev21 mask tm is out
def nextLev2 : List (Nat × T Value) → List (Nat × T Value) → List (Nat × T Value)
  | [], out => out
  | (m, t) :: l, out => nextLev2 l (nextLev21 C nt ops h0 bs m t (List.range ops.size) out)
def levOk2 (lev out : List (Nat × T Value)) : Bool := lev.all fun x => (List.range ops.size).all fun i => match readyM ops x.1 i with
  | false => true
  | true => match opC2 C nt ops h0 bs x.1 x.2 i, findM (x.1 ||| 2 ^ i) out with
    | some tm', some t => sameTm nt tm' t && T.keysLow nt t
    | _, _ => false
def confGo2 : Nat → List (Nat × T Value) → Option (Nat × T Value)
  | 0, lev => match lev with | [x] => some x | _ => none
  | n + 1, lev => let out := nextLev2 C nt ops h0 bs lev []
    ok? (levOk2 C nt ops h0 bs lev out) (confGo2 n out)
def bigsV : List Oper → Nat → S → Option (List Big1)
  | [], _, _ => some []
  | o :: l, i, s => match wantedV ops s.tm o && !(stillOp o.op) with
    | true => (bigV C self o s.tm s.h).bind fun x => (putTm nt s.tm o.dst x.1).bind fun tm => (bigsV l (i + 1) { s with tm, h := x.2 }).bind fun r => some (⟨i, s.tm, x.1, x.2⟩ :: r)
    | false => (op1V C self rd nt ops o s).bind fun r => match r with
      | .code .normal s1 => bigsV l (i + 1) { s with tm := s1.tm }
      | _ => none
def confV2 (s : S) : Option R :=
  (bigsV C self rd nt ops ops.toList 0 s).bind fun bs => (confGo2 C nt ops s.h bs ops.size [(0, s.tm)]).bind fun x => some (.code .normal { s with tm := x.2, h := hpB s.h bs x.1 })
end
theorem bigsV_ok {C : Cfg} {self : Self} {rd : Option Nat} {nt : Nat} {ops : Array Oper} : ∀ (l : List Oper) (i : Nat) (s : S) (bs : List Big1), (∀ j o, l[j]? = some o → ops[i + j]? = some o) → bigsV C self rd nt ops l i s = some bs → BigsOk C self ops s.h bs
  | [], i, s, bs, _, e => by cases e; trivial
  | o :: l, i, s, bs, hl, e => by
    unfold bigsV at e
    have hl' : ∀ j o, l[j]? = some o → ops[i + 1 + j]? = some o := fun j o' h => by
      have := hl (j + 1) o' (by simpa using h)
      rwa [show i + (j + 1) = i + 1 + j by omega] at this
    split at e
    · obtain ⟨x, hx, e⟩ := bind_some' e
      obtain ⟨tm, _, e⟩ := bind_some' e
      obtain ⟨r, hr, e⟩ := bind_some' e
      cases e
      exact ⟨⟨o, hl 0 o rfl, hx⟩, bigsV_ok l (i + 1) _ r hl' hr⟩
    · obtain ⟨r, _, e⟩ := bind_some' e
      split at e
      · have := bigsV_ok l (i + 1) _ bs hl' e
        exact this
      · cases e
theorem levOk2_get {C : Cfg} {nt : Nat} {ops : Array Oper} {h0 : Hp} {bs : List Big1} {lev out : List (Nat × T Value)} (h : levOk2 C nt ops h0 bs lev out = true) {m : Nat} {t : T Value} (hm : (m, t) ∈ lev) {i : Nat} (hi : i < ops.size) (hr : readyM ops m i = true) :
    ∃ tm' t', opC2 C nt ops h0 bs m t i = some tm' ∧ (m ||| 2 ^ i, t') ∈ out ∧ sameTm nt tm' t' = true ∧ T.keysLow nt t' = true := by
  have := List.all_eq_true.1 (List.all_eq_true.1 h _ hm) i (List.mem_range.2 hi)
  rw [hr] at this
  simp only at this
  split at this
  · rename_i tm' t' h1 h2
    obtain ⟨g1, g2⟩ := a2 this
    exact ⟨tm', t', h1, findM_mem h2, g1, g2⟩
  · cases this
section
variable {C : Cfg} (hC : C.Ok) {self : Self} (hs : Sound C self)
theorem opC2_op1 {rd : Option Nat} {nt : Nat} {ops : Array Oper} {h0 : Hp} {bs : List Big1} (hst : BigsOk C self ops h0 bs) {mask : Nat} {tm tm' : T Value} {i : Nat} {o : Oper} (ho : ops[i]? = some o) (e : opC2 C nt ops h0 bs mask tm i = some tm') (df : List Deferred) :
    op1V C self rd nt ops o { tm, df, h := hpB h0 bs mask } = some (.code .normal { tm := tm', df, h := hpB h0 bs (mask ||| 2 ^ i) }) := by
  unfold opC2 at e
  rw [ho] at e
  simp only [Option.bind_some] at e
  split at e
  · obtain ⟨b, hb, e⟩ := bind_some' e
    obtain ⟨e1, e⟩ := ok?_some e
    obtain ⟨c1, c2⟩ := a2 e1
    obtain ⟨o', h1, h2, h3⟩ := next_ok hst hb
    rw [ho] at h1
    cases h1
    rw [h3]
    refine bigV_op1 df c1 ?_ e
    rw [bigV_congr (tm2 := b.tm) (fun x hx => evEq_eq (List.all_eq_true.1 c2 x (by simpa using hx)))]
    exact h2
  · rename_i hx
    rw [hpB_other _ _ hx]
    split at e
    · rename_i hw
      unfold op1V
      rw [show wantedV ops ({ tm, df, h := hpB h0 bs mask } : S).tm o = false from hw]
      simp only [e, Option.bind_some]
    · rename_i hw
      obtain ⟨c1, e⟩ := ok?_some e
      obtain ⟨r, hr, e⟩ := bind_some' e
      split at e
      · rename_i v h'
        have := calm_heap c1 hr
        subst this
        unfold op1V
        rw [show wantedV ops ({ tm, df, h := hpB h0 bs mask } : S).tm o = true from hw]
        simp only [hr, Option.bind_some, e]
      · cases e
include hC hs in
theorem conf2_any {rd rr : Option Nat} {nt m : Nat} {ops : Array Oper} {h0 : Hp} {bs : List Big1} {s : S} {fin : Nat × T Value} (hedge : edgesB ops = true) (hst : BigsOk C self ops h0 bs) {base : Nat} {ρ0 : Ren} {w0 : World} (H0 : HRel base ρ0 s.h w0) (hr : RdRel ρ0 rd rr) :
    ∀ (fuel : Nat) (lev : List (Nat × T Value)) (listed : Array Bool) (mask : Nat) (tm : T Value) (ρ : Ren) (a : Act) (w : World), confGo2 C nt ops h0 bs fuel lev = some fin → (mask, tm) ∈ lev → listed.size = ops.size → (∀ i, i < ops.size → lst listed i = Nat.testBit mask i) → left ops listed = fuel →
      Step base ρ0 s.h w0 ρ (hpB h0 bs mask) w → TmRel ρ nt tm a.tmps → DfRel ρ s.df a.defers →
      wpAnyIn (fenceOf rr) m C.P.P .any ops (QCode base ρ0 nt s w0 .normal { s with tm := fin.2, h := hpB h0 bs fin.1 }) fuel listed a w := by
  intro fuel
  induction fuel with
  | zero =>
    intro lev listed mask tm ρ a w hgo hm hsz hl hf stp ht hd
    have hL : ∀ i, i < ops.size → lst listed i = true := by
      intro i hi
      cases hh : lst listed i with
      | true => rfl
      | false =>
        have : i ∈ (List.range ops.size).filter fun i => !lst listed i := List.mem_filter.2 ⟨by simpa using hi, by rw [hh]; rfl⟩
        have := List.length_pos_of_mem this
        unfold left at hf
        omega
    have hready : Region.ready .any ops listed = [] := by
      rw [List.eq_nil_iff_forall_not_mem]
      intro i hi
      obtain ⟨o, ho, h1, _⟩ := (ready_iff hsz).1 hi
      rw [hL i (Array.getElem?_eq_some_iff.1 ho).1] at h1; cases h1
    unfold confGo2 at hgo
    split at hgo
    · cases hgo
      simp only [List.mem_singleton] at hm
      subst hm
      exact ⟨hready, ρ, trivial, stp, ht, hd⟩
    · cases hgo
  | succ fuel ih =>
    intro lev listed mask tm ρ a w hgo hm hsz hl hf stp ht hd
    unfold confGo2 at hgo
    obtain ⟨hlev, hgo⟩ := ok?_some hgo
    refine ⟨fun hready => ?_, fun i hi => ?_⟩
    · exfalso
      have hL := ready_nil hedge hsz hready
      have : left ops listed = 0 := by
        unfold left
        rw [List.length_eq_zero_iff, List.filter_eq_nil_iff]
        intro x hx h
        rw [hL x (by simpa using hx)] at h; cases h
      omega
    · obtain ⟨o, ho, hLi, hre⟩ := (ready_iff hsz).1 hi
      have hio : i < ops.size := (Array.getElem?_eq_some_iff.1 ho).1
      have hmi : Nat.testBit mask i = false := by rw [← hl i hio]; exact hLi
      have hrd : readyM ops mask i = true := by
        unfold readyM
        rw [ho]
        simp only [hmi, Bool.not_false, Bool.true_and, List.all_eq_true, Bool.or_eq_true, Bool.not_eq_true']
        intro e he
        cases hb : Region.binds .any e with
        | false => exact .inl rfl
        | true =>
          have := hre e (by simpa using he) hb
          refine .inr ?_
          have hlt : e.on < ops.size := by
            apply Classical.byContradiction
            intro hge
            have : lst listed e.on = false := by
              unfold lst
              rw [Array.getD_eq_getD_getElem?, Array.getElem?_eq_none (by omega)]; rfl
            have h9 := hre e (by simpa using he) hb
            rw [this] at h9; cases h9
          rw [← hl _ hlt]; exact this
      obtain ⟨tm', t', h1, h2, h3, h4⟩ := levOk2_get hlev hm hio hrd
      have hset : ∀ j, lst (listed.setIfInBounds i true) j = (lst listed j || j == i) := fun j => lst_set (by omega)
      have hop := opC2_op1 (self := self) (rd := rd) hst ho h1 s.df
      refine op1_sound hC hs ho hop stp.rel ht hd (hr.mono stp.ext) ?_ (fun v v' ρ' a' w' hv => by cases hv)
      intro _ ρ' a' w' hst' ht' hd'
      refine ih _ _ (mask ||| 2 ^ i) t' ρ' a' w' hgo h2 (by rw [Array.size_setIfInBounds]; exact hsz) ?_ ?_ (stp.trans H0 hst') (sameTm_rel h3 h4 ht') hd'
      · intro j hj
        rw [hset, Nat.testBit_or, hl j hj]
        by_cases e : j = i
        · subst e; rw [Nat.testBit_two_pow_self]; simp
        · rw [Nat.testBit_two_pow_of_ne (Ne.symm e)]; simp [e]
      · have := left_set (ops := ops) hset hLi hio
        omega
include hC hs in
theorem confV2_sound {rd : Option Nat} {nt id : Nat} {ops : Array Oper} {s : S} {r : R} (he : (ok? (edgesB ops) (confV2 C self rd nt ops s)) = some r) : ∃ s', r = .code .normal s' ∧ ∀ base ρ w a rr m, HRel base ρ s.h w → TmRel ρ nt s.tm a.tmps → DfRel ρ s.df a.defers → RdRel ρ rd rr →
    (Code.region id ops true).wpIn (fenceOf rr) m C.P.P (QCode base ρ nt s w .normal s') a w := by
  obtain ⟨hedge, he⟩ := ok?_some he
  unfold confV2 at he
  obtain ⟨bs, hst, he⟩ := bind_some' he
  obtain ⟨fin, hgo, he⟩ := bind_some' he
  cases he
  refine ⟨_, rfl, fun base ρ w a rr m H ht hd hr => wpIn_mono (wpIn_region_any (Q := QCode base ρ nt s { w with drawn := w.drawn + 1 } .normal { s with tm := fin.2, h := hpB s.h bs fin.1 }) hC.mixed ?_) (fun ex a w h => h.after H (Step.draw H _))⟩
  have H0 : HRel base ρ s.h { w with drawn := w.drawn + 1 } := H.heap_eq rfl
  have hl0 : ∀ i, lst (Array.replicate ops.size false) i = false := by
    intro i
    unfold lst
    rw [Array.getD_eq_getD_getElem?, Array.getElem?_replicate]
    split <;> rfl
  have hok : BigsOk C self ops s.h bs := bigsV_ok ops.toList 0 s bs (fun j o h => by rw [Nat.zero_add]; simpa using h) hst
  have hm0 : ∀ l, hpB s.h l 0 = s.h := by
    intro l
    cases l with
    | nil => rfl
    | cons b l => unfold hpB; rw [Nat.zero_testBit]
  refine conf2_any hC hs hedge hok H0 hr ops.size _ (Array.replicate ops.size false) 0 s.tm ρ a _ hgo (.head _) (by simp) (fun i _ => by rw [hl0, Nat.zero_testBit]) ?_ (by rw [hm0]; exact Step.refl H0) ht hd
  unfold left
  rw [show (List.range ops.size).filter (fun i => !lst (Array.replicate ops.size false) i) = List.range ops.size from List.filter_eq_self.2 (fun i _ => by rw [hl0]; rfl)]
  simp
end
end
end Go.Eng
/-
  The evaluator that goes through all orders, with tables for loops over maps and the rule for drawn regions; its answers kept.
-/
namespace Go.Eng
noncomputable section
abbrev Lp := Code → Option Nat → Nat → S → Option (List R)
def LpOk (P : Program) (lp : Lp) : Prop := ∀ c rd nt s rs, lp c rd nt s = some rs → ∀ base ρ w a rr m, HRel base ρ s.h w → TmRel ρ nt s.tm a.tmps → DfRel ρ s.df a.defers → RdRel ρ rd rr →
  c.wpIn (fenceOf rr) m P (QCodeN base ρ nt s w rs) a w
def stepL (C : Cfg) (self : Self) (nd : FuncId → Bool) (lp : Lp) (sn : SelfN) : SelfN
  | .code c rd nt s => match lp c rd nt s with
    | some rs => some rs
    | none => codeN C self nd sn c rd nt s
  | j => stepN C self nd sn j
def runL (C : Cfg) (self : Self) (nd : FuncId → Bool) (lp : Lp) : Nat → SelfN := fun n => Nat.rec (fun _ => none) (fun _ sn => stepL C self nd lp sn) n
theorem runL_sound {C : Cfg} (hC : C.Ok) {self : Self} (hs : Sound C self) (nd : FuncId → Bool) {lp : Lp} (hl : LpOk C.P.P lp) : ∀ n, SoundN C (runL C self nd lp n)
  | 0 => ⟨(fun _ _ _ _ _ e => (by cases e)), (fun _ _ _ _ e => (by cases e))⟩
  | n + 1 =>
    have ih := runL_sound hC hs nd hl n
    ⟨(fun c rd nt s rs e => by
      have e' : stepL C self nd lp (runL C self nd lp n) (.code c rd nt s) = some rs := e
      simp only [stepL] at e'
      cases h : lp c rd nt s with
      | some rs' => rw [h] at e'; cases e'; exact hl c rd nt s _ h
      | none => rw [h] at e'; exact codeN_sound hC hs ih c rd nt s rs e'),
    (fun _ _ _ _ e => callN_sound (nd := nd) hC hs ih e)⟩
def objEq (a b : AObj) : Bool := match a with
  | .cells c t s => (match b with | .cells d u r => listEq (vEq 6) c d && (Nat.beq t u && optNatEq s r) | _ => false)
  | .map es => (match b with | .map es' => listEq (fun x y => vEq 6 x.1 y.1 && vEq 6 x.2 y.2) es es' | _ => false)
  | .defs x => (match b with | .defs y => boolEq x y | _ => false)
  | _ => false
theorem objEq_eq (a b : AObj) (e : objEq a b = true) : a = b := by
  unfold objEq at e
  split at e
  · split at e
    · obtain ⟨e1, e⟩ := a2 e
      obtain ⟨e2, e3⟩ := a2 e
      rw [listEq_eq (vEq_eq 6) e1, nb e2, optNatEq_eq e3]
    · cases e
  · split at e
    · rw [listEq_eq (fun x y h => Prod.ext (vEq_eq 6 _ _ (a2 h).1) (vEq_eq 6 _ _ (a2 h).2)) e]
    · cases e
  · split at e
    · rw [boolEq_eq _ _ e]
    · cases e
  · cases e
def hasAllV (hs : List (Nat × AObj)) (h : Hp) : Bool := List.rec true (fun x _ ih => match h.get x.1 with | some o => ifB (objEq x.2 o) ih false | none => false) hs
theorem hasAllV_eq {h : Hp} : ∀ {hs : List (Nat × AObj)}, hasAllV hs h = true → ∀ i o, (i, o) ∈ hs → h.get i = some o
  | [], _, i, o, hm => by cases hm
  | (j, u) :: hs, e, i, o, hm => by
    have e' : (match h.get j with | some o => ifB (objEq u o) (hasAllV hs h) false | none => false) = true := e
    split at e'
    · rename_i p hp
      rw [ifB_if'] at e'
      obtain ⟨e1, e2⟩ := a2 e'
      rcases List.mem_cons.1 hm with h | h
      · cases h; rw [hp, objEq_eq _ _ e1]
      · exact hasAllV_eq e2 i o h
    · cases e'
def CallOk (P : Program) (f : FuncId) (args0 : List Value) (N : Nat) (hs : List (Nat × AObj)) (Q : Value → Hp → Prop) : Prop := Enters P f ∧ ∀ base ρ w args' m, HRel base ρ (hpAt N hs) w → LRel ρ args0 args'.toList →
  CallsIn Fence.wide m P f args' w (fun en w' => ∃ v h, Q v h ∧ QCall base ρ (hpAt N hs) w (.ret v h) en w')
def isRet (v : Value) (N' : Nat) (news : List (Nat × AObj)) (r : R) : Bool := match r with
  | .ret u h => vEq 6 u v && (Nat.ble h.next N' && hasAllV news h)
  | _ => false
def QRet (v : Value) (N' : Nat) (news : List (Nat × AObj)) (u : Value) (h : Hp) : Prop := u = v ∧ h.next ≤ N' ∧ ∀ i o, (i, o) ∈ news → h.get i = some o
theorem isRet_ok {v : Value} {N' : Nat} {news : List (Nat × AObj)} {r : R} (e : isRet v N' news r = true) : ∃ h, r = .ret v h ∧ QRet v N' news v h := by
  unfold isRet at e
  split at e
  · rename_i u h
    obtain ⟨e1, e⟩ := a2 e
    obtain ⟨e2, e3⟩ := a2 e
    have := vEq_eq 6 _ _ e1
    subst this
    exact ⟨h, rfl, rfl, Nat.le_of_ble_eq_true e2, hasAllV_eq e3⟩
  · cases e
def retR (x : Option R) (v : Value) (N' : Nat) (news : List (Nat × AObj)) : Bool := match x with | some r => isRet v N' news r | none => false
def retL (x : Option (List R)) (v : Value) (N' : Nat) (news : List (Nat × AObj)) : Bool := match x with | some rs => rs.all (isRet v N' news) | none => false
theorem callOk_run {C : Cfg} {self : Self} (hs' : Sound C self) {f : FuncId} {N N' : Nat} {args0 : List Value} {hs news : List (Nat × AObj)} {v : Value} (e : retR (self (.call f args0.toArray (hpAt N hs))) v N' news = true) : CallOk C.P.P f args0 N hs (QRet v N' news) := by
  unfold retR at e
  split at e
  · rename_i r hr
    obtain ⟨h, rfl, hq⟩ := isRet_ok e
    obtain ⟨g1, g2⟩ := hs'.call f args0.toArray _ _ hr
    exact ⟨g1, fun base ρ w args' m H hl => (g2 base ρ w args' m H (by simpa using hl)).mono fun en w' q => ⟨v, h, hq, q⟩⟩
  · cases e
theorem callOk_runL {C : Cfg} {sn : SelfN} (hn : SoundN C sn) {f : FuncId} {N N' : Nat} {args0 : List Value} {hs news : List (Nat × AObj)} {v : Value} (e : retL (sn (.call f args0.toArray (hpAt N hs))) v N' news = true) : CallOk C.P.P f args0 N hs (QRet v N' news) := by
  unfold retL at e
  split at e
  · rename_i rs hr
    obtain ⟨g1, g2⟩ := hn.call f args0.toArray _ _ hr
    refine ⟨g1, fun base ρ w args' m H hl => (g2 base ρ w args' m H (by simpa using hl)).mono ?_⟩
    rintro en w' ⟨r, hm, q⟩
    obtain ⟨h, rfl, hq⟩ := isRet_ok (List.all_eq_true.1 e r hm)
    exact ⟨v, h, hq, q⟩
  · cases e
def orcL (f : FuncId) (args0 : List Value) (hs : List (Nat × AObj)) (N : Nat) (v : Value) (news : List (Nat × AObj)) (N' : Nat) (orc : FuncId → Array Value → Hp → Option (Value × Hp)) : FuncId → Array Value → Hp → Option (Value × Hp) :=
  fun g args h => cond (Nat.beq f g) (ifB (listEq (vEq 6) args0 args.toList) (ifB (Nat.beq h.next N) (ifB (hasAllV hs h) (some (v, ⟨N', h.ro, addAll news h.objs⟩)) none) none) none) none |> fun r => match r with | some x => some x | none => orc g args h
theorem orcL_ok {C : Cfg} (hC : C.Ok) {f : FuncId} {N N' : Nat} {args0 : List Value} {hs news : List (Nat × AObj)} {v : Value} (hlow : hs.all (fun x => Nat.blt x.1 N) = true) (hnew : news.all (fun x => Nat.ble N x.1) = true) (hNN : Nat.ble N N' = true)
    (e : CallOk C.P.P f args0 N hs (QRet v N' news)) : Cfg.Ok { C with orc := orcL f args0 hs N v news N' C.orc } := by
  refine ⟨hC.env, hC.fn, ?_, hC.mixed⟩
  intro g args h u h' eo
  simp only [orcL] at eo
  split at eo
  case h_2 => exact hC.orc g args h u h' eo
  rename_i x hx
  cases eo
  cases hb : Nat.beq f g with
  | false => rw [hb] at hx; cases hx
  | true =>
  rw [hb] at hx
  obtain rfl := Nat.eq_of_beq_eq_true hb
  simp only [cond_true] at hx
  obtain ⟨k1, hx1⟩ := ifB_some hx
  obtain ⟨k2, hx2⟩ := ifB_some hx1
  obtain ⟨k3, hx3⟩ := ifB_some hx2
  cases hx3
  have hargs := listEq_eq (vEq_eq 6) k1
  have hN := Nat.eq_of_beq_eq_true k2
  obtain ⟨g1, g2⟩ := e
  refine ⟨g1, fun base ρ w args' m H hl => ?_⟩
  have low : ∀ i o, (i, o) ∈ hs → i < N := by
    intro i o hm
    have := (List.all_eq_true.1 hlow) _ hm
    rw [Nat.blt_eq] at this; exact this
  have HR : HRel N ρ (hpAt N hs) w := by
    refine ⟨?_, ?_, ?_, Nat.le_refl _, Nat.le_refl _⟩
    · intro i o hi
      have hm := hpAt_mem hi
      obtain ⟨im, O, r1, r2, r3⟩ := H.obj i _ (hasAllV_eq k3 i _ hm)
      have hi' := low i o hm
      exact ⟨im, O, r1, r2, r3.mono (Ext.refl ρ) (fun hb => by omega)⟩
    · intro i j im jm o p hi _ _ _ _ hb
      have := low i o (hpAt_mem hi)
      omega
    · intro i im hi
      have := H.dom i im hi
      exact ⟨by show i < N; omega, this.2⟩
  have hl' : LRel ρ args0 args'.toList := by
    rw [← hargs] at hl; simpa using hl
  refine (g2 N ρ w args' m HR hl').mono ?_
  rintro en w' ⟨v1, hf, ⟨rfl, hnx, hall⟩, v', ρ', rfl, st, hvr⟩
  have noWr : ∀ b, ¬ Wr ρ (hpAt N hs) b := by
    rintro b ⟨i, o, im, hi, hro, _⟩
    have := low i o (hpAt_mem hi)
    have hro' : N ≤ i := hro
    omega
  have hNN : N ≤ N' := Nat.le_of_ble_eq_true hNN
  have roN : h.ro ≤ N := by have := H.roNext; omega
  have getCase : ∀ i o, (addAll news h.objs).get i = some o → (N ≤ i ∧ hf.get i = some o) ∨ (i < N ∧ h.get i = some o) := by
    intro i o hi
    by_cases hiN : i < N
    · rw [addAll_low news h.objs i hnew hiN] at hi
      exact .inr ⟨hiN, hi⟩
    · rcases addAll_mem news h.objs i o hi with hm | hm
      · exact .inl ⟨by omega, hall i o hm⟩
      · have := H.lt (i := i) (o := o) hm
        omega
  have oldρ : ∀ i im, N ≤ i → ρ i = some im → False := by
    intro i im hi hr
    have := (H.dom i im hr).1
    omega
  have rel : HRel base ρ' ⟨N', h.ro, addAll news h.objs⟩ w' := by
    refine ⟨?_, ?_, ?_, H.baseRo, by show h.ro ≤ N'; omega⟩
    · intro i o hi
      rcases getCase i o hi with ⟨h1, h2⟩ | ⟨h1, h2⟩
      · obtain ⟨im, O, r1, r2, r3⟩ := st.rel.obj i o h2
        exact ⟨im, O, r1, r2, r3.mono (Ext.refl ρ') (fun _ => h1)⟩
      · obtain ⟨im, O, r1, r2, r3⟩ := H.obj i o h2
        exact ⟨im, O, st.ext _ _ r1, st.keep _ _ r2 (noWr _), r3.mono st.ext (fun hb => hb)⟩
    · intro i j im jm o p hi hj ri rj hij hb
      rcases getCase i o hi with ⟨a1, a2⟩ | ⟨a1, a2⟩
      · rcases getCase j p hj with ⟨b1, b2⟩ | ⟨b1, b2⟩
        · exact st.rel.inj i j im jm o p a2 b2 ri rj hij a1
        · have hjm : jm.blk < w.heap.size := by
            obtain ⟨im2, O, r1, r2, r3⟩ := H.obj j p b2
            have := st.ext _ _ r1
            rw [rj] at this; cases this
            exact (H.dom _ _ r1).2
          rcases st.news i im ri with h1 | ⟨_, h1 | h1⟩
          · exact (oldρ i im a1 h1).elim
          · omega
          · exact (noWr _ h1).elim
      · rcases getCase j p hj with ⟨b1, b2⟩ | ⟨b1, b2⟩
        · have him : im.blk < w.heap.size := by
            obtain ⟨im2, O, r1, r2, r3⟩ := H.obj i o a2
            have := st.ext _ _ r1
            rw [ri] at this; cases this
            exact (H.dom _ _ r1).2
          rcases st.news j jm rj with h1 | ⟨_, h1 | h1⟩
          · exact (oldρ j jm b1 h1).elim
          · omega
          · exact (noWr _ h1).elim
        · obtain ⟨im2, O, r1, r2, r3⟩ := H.obj i o a2
          obtain ⟨jm2, O2, s1, s2, s3⟩ := H.obj j p b2
          have t1 := st.ext _ _ r1
          rw [ri] at t1; cases t1
          have t2 := st.ext _ _ s1
          rw [rj] at t2; cases t2
          exact H.inj i j im jm o p a2 b2 r1 s1 hij hb
    · intro i im hi
      have := st.rel.dom i im hi
      exact ⟨by show i < N'; omega, this.2⟩
  refine ⟨v', ρ', rfl, ?_, hvr⟩
  refine ⟨st.ext, rel, fun b o hb _ => st.keep b o hb (noWr _), ?_, ?_, st.size, rfl, by show h.next ≤ N'; omega, st.os, st.tape, st.output⟩
  · intro i im hi
    rcases st.news i im hi with h1 | ⟨h1, h2 | h2⟩
    · exact .inl h1
    · have h1' : N ≤ i := h1
      exact .inr ⟨by omega, .inl h2⟩
    · exact (noWr _ h2).elim
  · intro i o hi hg
    rcases getCase i o hg with ⟨h1, h2⟩ | ⟨h1, h2⟩
    · omega
    · exact ⟨o, h2⟩
def memoL (args0 : List Value) (hs : List (Nat × AObj)) (v : Value) : List Value → Hp → Option Value := fun args h =>
  ifB (listEq (vEq 6) args0 args) (ifB (hasAllV hs h) (some v) none) none
def lowV (N : Nat) (v : Value) : Bool := simV N [] 6 v v
def lowO (N : Nat) (x : Nat × AObj) : Bool := Nat.blt x.1 N && simO N [] x.2 x.2
theorem memoL_sound {P : Program} {f : FuncId} {N N' : Nat} {args0 : List Value} {hs news : List (Nat × AObj)} {v : Value} (hp : plain v = true) (ha : args0.all (lowV N) = true) (ho : hs.all (lowO N) = true)
    (e : CallOk P f args0 N hs (QRet v N' news)) : PSound P f (memoL args0 hs v) := by
  obtain ⟨g1, g2⟩ := e
  intro args h u hu
  unfold memoL at hu
  obtain ⟨k1, hu⟩ := ifB_some hu
  obtain ⟨k2, hu⟩ := ifB_some hu
  cases hu
  have hargs := listEq_eq (vEq_eq 6) k1
  subst hargs
  refine ⟨hp, g1, fun base ρ h2 w args' m H hsub hl => ?_⟩
  have low : ∀ i o, (i, o) ∈ hs → i < N ∧ simO N [] o o = true := by
    intro i o hm
    have := List.all_eq_true.1 ho _ hm
    obtain ⟨q1, q2⟩ := a2 this
    rw [Nat.blt_eq] at q1
    exact ⟨q1, q2⟩
  have HR : HRel N (renP ρ N []) (hpAt N hs) w := by
    refine ⟨?_, ?_, ?_, Nat.le_refl _, Nat.le_refl _⟩
    · intro i o hi
      have hm := hpAt_mem hi
      obtain ⟨hin, hc⟩ := low i o hm
      obtain ⟨im, O, r1, r2, r3⟩ := H.obj i _ (hsub i _ (hasAllV_eq k2 i _ hm))
      refine ⟨im, O, ?_, r2, simO_rel (fun hb => by omega) hc r3⟩
      unfold renP
      rw [if_pos hin]; exact r1
    · intro i j im jm o p hi _ _ _ _ hb
      have := (low i o (hpAt_mem hi)).1
      omega
    · intro i im hi
      unfold renP at hi
      split at hi
      · exact ⟨‹_›, (H.dom i im hi).2⟩
      · simp at hi
  have hl' : LRel (renP ρ N []) args0 args'.toList := ⟨hl.1, fun i x x' hx hx' => simV_rel 6 (List.all_eq_true.1 ha x (List.mem_of_getElem? hx)) (hl.2 i x x' hx hx')⟩
  refine (g2 N _ w args' m HR hl').mono ?_
  rintro en w' ⟨v1, h1, ⟨rfl, _, _⟩, v', ρ', rfl, hst, hvr⟩
  obtain rfl := plain_rel hvr hp
  refine ⟨rfl, fun b o hb => hst.keep b o hb ?_, hst.size, hst.os, hst.tape, hst.output⟩
  rintro ⟨i, o, im, hi, hro, _⟩
  have := (low i o (hpAt_mem hi)).1
  have hro' : N ≤ i := hro
  omega
end
end Go.Eng
/-
  As EngMemoL, drawn regions by EngConf2's rule.
-/
namespace Go.Eng
noncomputable section
def lpC2 (C : Cfg) (self : Self) : Lp := fun c rd nt s => match c with
  | .region _ ops true => match self (.code c rd nt s) with
    | some r => some [r]
    | none => (ok? (edgesB ops) (confV2 C self rd nt ops s)).bind fun r => some [r]
  | _ => none
theorem lpC2_ok {C : Cfg} (hC : C.Ok) {self : Self} (hs : Sound C self) : LpOk C.P.P (lpC2 C self) := by
  intro c rd nt s rs e base ρ w a rr m H ht hd hr
  unfold lpC2 at e
  split at e
  · rename_i id ops
    split at e
    · rename_i r h
      cases e
      obtain ⟨ex, s', rfl, k⟩ := hs.code _ _ _ _ _ h
      exact wpIn_mono (k base ρ w a rr m H ht hd hr) (fun ex a w h => ⟨_, _, .head _, h⟩)
    · obtain ⟨r, h, e⟩ := bind_some' e
      cases e
      obtain ⟨s', rfl, k⟩ := confV2_sound (id := id) hC hs h
      exact wpIn_mono (k base ρ w a rr m H ht hd hr) (fun ex a w h => ⟨_, _, .head _, h⟩)
  · cases e
end
end Go.Eng
/-
  Several kept answers of one function: the older ones are asked where the newer one has none.
-/
namespace Go.Eng
noncomputable def orcM (f : FuncId) (F : List Value → Hp → Option Value) (orc : FuncId → Array Value → Hp → Option (Value × Hp)) : FuncId → Array Value → Hp → Option (Value × Hp) :=
  fun g args h => cond (Nat.beq f g) (Option.rec (motive := fun _ => Option (Value × Hp)) (orc g args h) (fun v => some (v, h)) (F args.toList h)) (orc g args h)
theorem orcM_ok {C : Cfg} (hC : C.Ok) {f : FuncId} {F : List Value → Hp → Option Value} (hF : PSound C.P.P f F) : Cfg.Ok { C with orc := orcM f F C.orc } := by
  have hP := orcP_ok hC hF
  refine ⟨hC.env, hC.fn, ?_, hC.mixed⟩
  intro g args h v h' e
  simp only [orcM] at e
  cases hb : Nat.beq f g with
  | false => rw [hb] at e; exact hC.orc g args h v h' e
  | true =>
    rw [hb] at e
    simp only [cond_true] at e
    cases hf : F args.toList h with
    | none => rw [hf] at e; exact hC.orc g args h v h' e
    | some u =>
      rw [hf] at e
      refine hP.orc g args h v h' ?_
      show orcP f F C.orc g args h = some (v, h')
      unfold orcP
      rw [hb]
      simp only [cond_true, hf]
      exact e
end Go.Eng
/-
  A loop over a map by its table, the table's rows shown true piece by piece.
-/
namespace Go.Eng
noncomputable section
structure TCtx where
  id : Nat
  ops : Array Oper
  b2 : Code
  o0 : Oper
  it : Operand
  n : Nat
  low : List (Nat × AObj)
  sts : List S
def ctxT (tab : LTab) (c : Code) (nt : Nat) (s : S) : Option TCtx := match c with
  | .loop (.seq (.region id ops false) b2) => match ops.toList with
    | o0 :: _ => match o0.op with
      | .next it false => ok? (noneB o0.guard && (nilB s.df && dstOk nt o0.dst)) <| match s.h.get tab.ib with
        | some (.miter (some r) n []) => ok? (Nat.beq r tab.r && Nat.ble s.h.ro tab.ib) <|
          (lowAt s.h tab.low).bind fun low => (statesAt s low tab.states).bind fun sts => some ⟨id, ops, b2, o0, it, n, low, sts⟩
        | _ => none
      | _ => none
    | _ => none
  | _ => none
section
variable (C : Cfg) (self : Self) (rd : Option Nat) (nt : Nat) (tab : LTab) (c : Code) (s : S)
def headC : Bool := match ctxT tab c nt s with
  | some x => (match tab.states, x.sts with
    | z :: _, y :: _ => sameV nt s.h.next s.h.ro [] { s with h := s.h.del tab.ib } z s.h y
    | _, _ => false) && (accOk tab x.n && Nat.beq tab.next.length tab.states.length)
  | none => false
def rowC (i : Nat) : Bool := match ctxT tab c nt s with
  | some x => (match x.sts[i]?, tab.next[i]? with
    | some y, some row => rowOk C self rd nt x.ops x.b2 tab s x.sts x.o0.dst x.it x.n y row
    | _, _ => false)
  | none => false
def rowsC : Nat → Nat → Bool
  | _, 0 => true
  | i, k + 1 => rowC C self rd nt tab c s i && rowsC (i + 1) k
def endsC : Option (List R) := (ctxT tab c nt s).bind fun x => endsAt C self rd nt x.ops x.b2 tab x.o0.dst (endAcc tab x.n) x.sts 0
end
theorem rowsC_get {C : Cfg} {self : Self} {rd : Option Nat} {nt : Nat} {tab : LTab} {c : Code} {s : S} : ∀ {k i : Nat}, rowsC C self rd nt tab c s i k = true → ∀ j, i ≤ j → j < i + k → rowC C self rd nt tab c s j = true
  | 0, i, _, j, h1, h2 => by omega
  | k + 1, i, h, j, h1, h2 => by
    unfold rowsC at h
    obtain ⟨g1, g2⟩ := a2 h
    by_cases e : j = i
    · rw [e]; exact g1
    · exact rowsC_get g2 j (by omega) (by omega)
theorem rowsOk_of {C : Cfg} {self : Self} {rd : Option Nat} {nt : Nat} {ops : Array Oper} {b2 : Code} {tab : LTab} {s : S} {sts : List S} {d : Option Tmp} {it : Operand} {n : Nat} : ∀ {ys : List S} {rows : List (List (Nat × List Nat))}, ys.length = rows.length →
    (∀ (i : Nat) y row, ys[i]? = some y → rows[i]? = some row → rowOk C self rd nt ops b2 tab s sts d it n y row = true) → rowsOk C self rd nt ops b2 tab s sts d it n ys rows = true
  | [], [], _, _ => rfl
  | y :: ys, row :: rows, hl, h => by
    unfold rowsOk
    rw [h 0 y row rfl rfl, rowsOk_of (ys := ys) (rows := rows) (by simpa using hl) (fun i y' row' h1 h2 => h (i + 1) y' row' (by simpa using h1) (by simpa using h2))]
    rfl
  | [], _ :: _, hl, _ => by simp at hl
  | _ :: _, [], hl, _ => by simp at hl
theorem statesAt_len {s : S} {low : List (Nat × AObj)} : ∀ {l : List LTabS} {r : List S}, statesAt s low l = some r → r.length = l.length
  | [], r, e => by cases e; rfl
  | x :: l, r, e => by
    unfold statesAt at e
    obtain ⟨y, _, e⟩ := bind_some' e
    obtain ⟨r2, h2, e⟩ := bind_some' e
    cases e
    simp [statesAt_len h2]
def WpC (P : Program) (c : Code) (rd : Option Nat) (nt : Nat) (s : S) (rs : List R) : Prop := ∀ base ρ w a rr m, HRel base ρ s.h w → TmRel ρ nt s.tm a.tmps → DfRel ρ s.df a.defers → RdRel ρ rd rr → c.wpIn (fenceOf rr) m P (QCodeN base ρ nt s w rs) a w
theorem tabC_sound {C : Cfg} (hC : C.Ok) {self : Self} (hs : Sound C self) {tab : LTab} {c : Code} {rd : Option Nat} {nt : Nat} {s : S} {rs : List R} (hh : headC nt tab c s = true) (hr : ∀ i, i < tab.states.length → rowC C self rd nt tab c s i = true) (he : endsC C self rd nt tab c s = some rs) : WpC C.P.P c rd nt s rs := by
  intro base ρ w a rr m H ht hd hrd
  unfold endsC at he
  obtain ⟨x, hx, he⟩ := bind_some' he
  unfold headC at hh
  rw [hx] at hh
  simp only at hh
  obtain ⟨h1, hh⟩ := a2 hh
  obtain ⟨h2, h3⟩ := a2 hh
  have hrow : ∀ i, i < tab.states.length → ∃ y row, x.sts[i]? = some y ∧ tab.next[i]? = some row ∧ rowOk C self rd nt x.ops x.b2 tab s x.sts x.o0.dst x.it x.n y row = true := by
    intro i hi
    have := hr i hi
    unfold rowC at this
    rw [hx] at this
    simp only at this
    split at this
    · rename_i y row g1 g2
      exact ⟨y, row, g1, g2, this⟩
    · cases this
  unfold ctxT at hx
  split at hx
  case h_2 => cases hx
  rename_i id ops b2
  split at hx
  case h_2 => cases hx
  rename_i o0 rest hops
  split at hx
  case h_2 => cases hx
  rename_i it hop
  replace hx := ok?_some hx
  obtain ⟨e1, hx⟩ := hx
  obtain ⟨c1, e1⟩ := a2 e1
  obtain ⟨c2, c3⟩ := a2 e1
  split at hx
  case h_2 => cases hx
  rename_i r n hgi
  replace hx := ok?_some hx
  obtain ⟨e2, hx⟩ := hx
  obtain ⟨c4, c5⟩ := a2 e2
  replace hx := bind_some' hx
  obtain ⟨low, hlow, hx⟩ := hx
  replace hx := bind_some' hx
  obtain ⟨sts, hsts, hx⟩ := hx
  cases hx
  simp only at h1 h2 he hrow
  obtain rfl := nb c4
  have hdf := nilB_eq c2
  rw [hdf] at hd
  have hib : s.h.ro ≤ tab.ib ∧ tab.ib < s.h.next := ⟨Nat.le_of_ble_eq_true c5, H.lt hgi⟩
  have hrn : tab.r < s.h.next := by
    obtain ⟨im, O, g1, g2, g3⟩ := H.obj _ _ hgi
    cases g3 with
    | miter _ _ _ mm hsh hm => exact (H.dom _ _ hm).1
  have h0 : ops[0]? = some o0 := by
    rw [← Array.getElem?_toList, hops]; rfl
  split at h1
  case h_2 => cases h1
  rename_i z zs y ys hz hy0
  obtain ⟨x0, g1, g2⟩ := (statesAt_get hsts 0).1 y rfl
  rw [hz] at g1
  simp only [List.getElem?_cons_zero, Option.some.injEq] at g1
  subst g1
  have hno : ({ s with h := s.h.del tab.ib } : S).h.get tab.ib = none := by
    show (s.h.del tab.ib).get tab.ib = none
    unfold Hp.del Hp.get
    simp only [T.get_put, if_true]
  obtain ⟨ρ1, q1, q2, q3⟩ := same_step (h1 := s.h) (seen := []) (n := n) H hlow g2 h1 hib hrn (fun q => by
    show s.h.get q = if q = tab.ib then _ else (s.h.del tab.ib).get q
    unfold Hp.del Hp.get
    simp only [T.get_put]
    by_cases e : q = tab.ib
    · rw [if_pos e, e]; exact hgi
    · rw [if_neg e, if_neg e]) hno (Step.refl H) ht
  have hlen := statesAt_len hsts
  have hrows : rowsOk C self rd nt ops b2 tab s (y :: ys) o0.dst it n (y :: ys) tab.next = true := by
    refine rowsOk_of (by rw [hlen, nb h3]) ?_
    intro i y' row' k1 k2
    have hi : i < tab.states.length := by rw [← hlen]; exact (List.getElem?_eq_some_iff.1 k1).1
    obtain ⟨y2, row2, j1, j2, j3⟩ := hrow i hi
    rw [k1] at j1; cases j1
    rw [k2] at j2; cases j2
    exact j3
  exact loop_ok hC hs h0 hop (noneB_eq c1) c3 hib hrn hlow hsts h2 hrows he H hrd n [] 0 y ρ1 w a (by simp) List.nodup_nil (by intro k hk; cases hk) rfl rfl q1 q2 (by rw [dfNil hd]; trivial)
theorem some_getD {α : Type} {x : Option (List α)} (h : x.isSome = true) : x = some (x.getD []) := by cases x with | none => cases h | some _ => rfl
def objEqL (nt : Nat) (a b : AObj) : Bool := match a with
  | .loop st p tm n ps asg body d => (match b with
    | .loop st' p' tm' n' ps' asg' body' d' => stEq st st' && (nonePend p && (nonePend p' && (Nat.beq n n' && (sameTm n tm tm' && (T.keysLow n tm' && (listEq Nat.beq ps.toList ps'.toList && (codeEq asg asg' && (codeEq body body' && Nat.beq d d'))))))))
    | _ => false)
  | .miter (some r) n l => (match b with | .miter (some r') n' l' => Nat.beq r r' && (Nat.beq n n' && listEq Nat.beq l l') | _ => false)
  | a => objEq a b
def hasAllL (nt : Nat) : List (Nat × AObj) → Hp → Bool
  | [], _ => true
  | x :: l, h => (match h.get x.1 with | some o => objEqL nt o x.2 | none => false) && hasAllL nt l h
def stOf (nt next ro : Nat) (regs : List (Nat × Value)) (bl : List (Nat × AObj)) : S := { tm := regs.foldl (fun t x => t.put x.1 (some x.2)) T.nil, df := [], h := ⟨next, ro, addAll bl T.nil⟩ }
def lpP (c0 : Code) (rd0 : Option Nat) (nt0 next ro : Nat) (regs : List (Nat × Value)) (bl : List (Nat × AObj)) (rs : List R) : Lp := fun c rd nt s =>
  ok? (Nat.beq nt nt0 && (optNatEq rd rd0 && (Nat.beq s.h.next next && (Nat.beq s.h.ro ro && (nilB s.df && (sameTm nt s.tm (stOf nt next ro regs bl).tm && (T.keysLow nt (stOf nt next ro regs bl).tm && (hasAllL nt bl s.h && codeEq c c0)))))))) (some rs)
theorem objEqL_rel {ρ : Ren} {im : Img} {wr : Prop} {nt : Nat} {a b : AObj} {O : Obj} (h : objEqL nt a b = true) (hr : ORel ρ im wr a O) : ORel ρ im wr b O := by
  unfold objEqL at h
  split at h
  · split at h
    · obtain ⟨h1, h⟩ := a2 h
      obtain ⟨h2, h⟩ := a2 h
      obtain ⟨h3, h⟩ := a2 h
      obtain ⟨h4, h⟩ := a2 h
      obtain ⟨h5, h⟩ := a2 h
      obtain ⟨h6, h⟩ := a2 h
      obtain ⟨h7, h⟩ := a2 h
      obtain ⟨h8, h⟩ := a2 h
      obtain ⟨h9, h10⟩ := a2 h
      cases hr with
      | loop _ _ _ _ _ _ _ _ l dm k1 k2 k3 k4 k5 k6 k7 k8 =>
        have h4 := nb h4
        subst h4
        refine .loop _ _ _ _ _ _ _ _ l dm (by rw [← stEq_eq h1]; exact k1) (by rw [nonePend_eq h3]; rw [nonePend_eq h2] at k2; exact k2) (sameTm_rel h5 h6 k3)
          (by rw [← arrE (fun _ _ => nb) h7]; exact k4) (by rw [← codeEq_eq _ _ h8]; exact k5) (by rw [← codeEq_eq _ _ h9]; exact k6) (by rw [← nb h10]; exact k7) k8
    · cases h
  · split at h
    · obtain ⟨h1, h⟩ := a2 h
      obtain ⟨h2, h3⟩ := a2 h
      rw [← nb h1, ← nb h2, ← listEq_eq (fun _ _ => nb) h3]; exact hr
    · cases h
  · rw [← objEq_eq _ _ h]; exact hr
theorem hasAllL_get {nt : Nat} {h : Hp} : ∀ {l : List (Nat × AObj)}, hasAllL nt l h = true → ∀ i o, (i, o) ∈ l → ∃ o', h.get i = some o' ∧ objEqL nt o' o = true
  | [], _, i, o, hm => by cases hm
  | x :: l, e, i, o, hm => by
    unfold hasAllL at e
    obtain ⟨e1, e2⟩ := a2 e
    rcases List.mem_cons.1 hm with h1 | h1
    · subst h1
      split at e1
      · rename_i o' ho; exact ⟨o', ho, e1⟩
      · cases e1
    · exact hasAllL_get e2 i o h1
theorem lpP_ok {P : Program} {c0 : Code} {rd0 : Option Nat} {nt0 next ro : Nat} {regs : List (Nat × Value)} {bl : List (Nat × AObj)} {rs : List R} (h : WpC P c0 rd0 nt0 (stOf nt0 next ro regs bl) rs) : LpOk P (lpP c0 rd0 nt0 next ro regs bl rs) := by
  intro c rd nt s rs' e base ρ w a rr m H ht hd hr
  unfold lpP at e
  replace e := ok?_some e
  obtain ⟨e, e'⟩ := e
  cases e'
  obtain ⟨h1, e⟩ := a2 e
  obtain ⟨h2, e⟩ := a2 e
  obtain ⟨h3, e⟩ := a2 e
  obtain ⟨h4, e⟩ := a2 e
  obtain ⟨h5, e⟩ := a2 e
  obtain ⟨h6, e⟩ := a2 e
  obtain ⟨h7, e⟩ := a2 e
  obtain ⟨h8, h9⟩ := a2 e
  have h1 := nb h1
  have h2 := optNatEq_eq h2
  have h3 := nb h3
  have h4 := nb h4
  have h9 := codeEq_eq _ _ h9
  subst h1 h2 h3 h4 h9
  have hdf := nilB_eq h5
  have sub : ∀ i o, (stOf nt s.h.next s.h.ro regs bl).h.get i = some o → ∃ o', s.h.get i = some o' ∧ objEqL nt o' o = true := by
    intro i o hi
    rcases addAll_mem bl T.nil i o hi with hm | hm
    · exact hasAllL_get h8 i o hm
    · rw [T.get_nil] at hm; cases hm
  have H2 : HRel base ρ (stOf nt s.h.next s.h.ro regs bl).h w := by
    refine ⟨?_, ?_, H.dom, H.baseRo, H.roNext⟩
    · intro i o hi
      obtain ⟨o', g1, g2⟩ := sub i o hi
      obtain ⟨im, O, k1, k2, k3⟩ := H.obj i o' g1
      exact ⟨im, O, k1, k2, objEqL_rel g2 k3⟩
    · intro i j im jm o p hi hj e1 e2 hne hb
      obtain ⟨o', g1, _⟩ := sub i o hi
      obtain ⟨p', g2, _⟩ := sub j p hj
      exact H.inj i j im jm o' p' g1 g2 e1 e2 hne hb
  have wr : ∀ {b}, Wr ρ (stOf nt s.h.next s.h.ro regs bl).h b → Wr ρ s.h b := by
    rintro b ⟨i, o, im, g1, g2, g3, g4⟩
    obtain ⟨o', k1, _⟩ := sub i o g1
    exact ⟨i, o', im, k1, g2, g3, g4⟩
  refine wpIn_mono (h base ρ w a rr m H2 (sameTm_rel h6 h7 ht) (by rw [hdf] at hd; exact hd) hr) ?_
  rintro ex a1 w1 ⟨e1, s1, hm, ρ1, g1, g2, g3, g4⟩
  refine ⟨e1, s1, hm, ρ1, g1, ⟨g2.ext, g2.rel, fun b o hb hn => g2.keep b o hb (fun h => hn (wr h)), ?_, ?_, g2.size, g2.ro, g2.next, g2.os, g2.tape, g2.output⟩, g3, g4⟩
  · intro i im hi
    rcases g2.news i im hi with k | ⟨k1, k2⟩
    · exact .inl k
    · exact .inr ⟨k1, k2.imp id wr⟩
  · intro i o hi ho
    obtain ⟨p, hp⟩ := g2.olds i o hi ho
    obtain ⟨p', hp', _⟩ := sub i p hp
    exact ⟨p', hp'⟩
def lpOr (l1 l2 : Lp) : Lp := fun c rd nt s => match l1 c rd nt s with
  | some rs => some rs
  | none => l2 c rd nt s
theorem lpOr_ok {P : Program} {l1 l2 : Lp} (h1 : LpOk P l1) (h2 : LpOk P l2) : LpOk P (lpOr l1 l2) := by
  intro c rd nt s rs e
  unfold lpOr at e
  cases h : l1 c rd nt s with
  | some rs' => rw [h] at e; cases e; exact h1 c rd nt s _ h
  | none => rw [h] at e; exact h2 c rd nt s rs e
def findLoop : Code → Option Code
  | .loop (.seq (.region i ops false) b) => match ops.toList with
    | o :: _ => (match o.op with | .next _ false => some (.loop (.seq (.region i ops false) b)) | _ => findLoop b)
    | [] => findLoop b
  | .seq a b => match findLoop a with | some c => some c | none => findLoop b
  | .cond _ a b => match findLoop a with | some c => some c | none => findLoop b
  | .block _ a => findLoop a
  | .loop a => findLoop a
  | .scope a => findLoop a
  | _ => none
def findRange : Code → Option (Array Tmp × Code × Code)
  | .rangeFunc _ ps a b => some (ps, a, b)
  | .seq a b => match findRange a with | some c => some c | none => findRange b
  | .cond _ a b => match findRange a with | some c => some c | none => findRange b
  | .block _ a => findRange a
  | .loop a => findRange a
  | .scope a => findRange a
  | _ => none
def loopOf (f : Func) : Code := (f.body.bind findLoop).getD .skip
def rangeObj (f : Func) (nt : Nat) (regs : List (Nat × Value)) (d : Nat) : AObj := match f.body.bind findRange with
  | some (ps, a, b) => .loop .ready none (regs.foldl (fun t x => t.put x.1 (some x.2)) T.nil) nt ps a b d
  | none => .defs false
end
end Go.Eng
/-
  The evaluator with a second rule for regions that draw their order: by the sets of what was done.
-/
namespace Go.Eng
noncomputable section
def stepV2 (C : Cfg) (self : Self) (j : Job) : Option R := match stepV C self j with
  | some r => some r
  | none => match j with
    | .code (.region _ ops true) rd nt s => ok? (edgesB ops) (confV2 C self rd nt ops s)
    | _ => none
def run2 (C : Cfg) : Nat → Self := fun n => Nat.rec (fun _ => none) (fun _ self => stepV2 C self) n
end
theorem step_sound {C : Cfg} (hC : C.Ok) {self : Self} (hs : Sound C self) : Sound C (stepV C self) :=
  ⟨(fun c rd nt s r e => codeV_sound hC hs (drawV_sound hC hs) (rangeV_sound hC hs) c rd nt s r e), (fun _ _ _ _ e => call_sound hC hs e), (fun _ _ _ _ _ e => dcall_sound (self := self) hC e)⟩
theorem step2_sound {C : Cfg} (hC : C.Ok) {self : Self} (hs : Sound C self) : Sound C (stepV2 C self) := by
  have h1 := step_sound hC hs
  refine ⟨fun c rd nt s r e => ?_, fun f args h r e => ?_, fun f args u h r e => ?_⟩
  · unfold stepV2 at e
    split at e
    · rename_i r' h; cases e; exact h1.code _ _ _ _ _ h
    · split at e
      · rename_i id ops rd' nt' s' hj
        cases hj
        obtain ⟨s', rfl, k⟩ := confV2_sound (id := id) hC hs e
        exact ⟨_, _, rfl, k⟩
      · cases e
  · unfold stepV2 at e
    split at e
    · rename_i r' h; cases e; exact h1.call _ _ _ _ h
    · cases e
  · unfold stepV2 at e
    split at e
    · rename_i r' h; cases e; exact h1.dcall _ _ _ _ _ h
    · cases e
theorem eval2_sound {C : Cfg} (hC : C.Ok) : ∀ n, Sound C (run2 C n)
  | 0 => ⟨(fun _ _ _ _ _ e => (by cases e)), (fun _ _ _ _ e => (by cases e)), (fun _ _ _ _ _ e => (by cases e))⟩
  | n + 1 => step2_sound hC (eval2_sound hC n)
theorem const_sound2 {C : Cfg} {self : Self} (hs : Sound C self) {f : FuncId} {v : Value} {h2 : Hp} (hv : plain v = true) (e : self (.call f #[] h00) = some (.ret v h2)) : PSound C.P.P f (constF v) := by
  intro args h u hu
  unfold constF at hu
  split at hu
  · cases hu
    obtain ⟨g1, g2⟩ := hs.call f #[] h00 _ e
    refine ⟨hv, g1, fun base ρ hh w args' m H hs hl => ?_⟩
    refine (g2 0 (fun _ => none) w args' m (hrel0 w) ?_).mono ?_
    · exact ⟨hl.1, fun i x x' hx => (by cases hx)⟩
    · rintro en w' ⟨v', ρ', rfl, hst, hvr⟩
      obtain rfl := plain_rel hvr hv
      refine ⟨rfl, fun b o hb => hst.keep b o hb ?_, hst.size, hst.os, hst.tape, hst.output⟩
      rintro ⟨i, o, im, hi, _⟩
      rw [show h00.get i = none from T.get_nil i] at hi; cases hi
  · cases hu
theorem bool_sound2 {C : Cfg} {self : Self} (hs : Sound C self) {f : FuncId} {b : Bool} (e : isV (self (.call f #[] h00)) b = true) : PSound C.P.P f (constF (.bool b)) := by
  obtain ⟨h, e⟩ := isV_ret e
  exact const_sound2 hs rfl e
end Go.Eng
/-
  Long loops cut at their heads: what a loop answers from a told state is kept; the evaluator takes it there.
-/
namespace Go.Eng
noncomputable section
abbrev iV (n : Nat) : Value := .int .i64 (.ofNat n)
abbrev pV (b o : Nat) : Value := .pointer (some ⟨b, o, none⟩)
abbrev sV (b o n c : Nat) : Value := .slice (some ⟨b, o, none⟩) n c
abbrev gV (l : List Value) : Value := .agg ⟨l⟩
abbrev nN {α : Type} (l : List Nat) : List (Nat × Option α) := l.map fun i => (i, none)
def loopsC : Code → List Code
  | .loop a => .loop a :: loopsC a
  | .seq a b => loopsC a ++ loopsC b
  | .cond _ a b => loopsC a ++ loopsC b
  | .block _ a => loopsC a
  | .scope a => loopsC a
  | .rangeFunc _ _ a b => loopsC a ++ loopsC b
  | _ => []
def loopNo (f : Func) (k : Nat) : Code := (((f.body.map loopsC).getD [])[k]?).getD .skip
def stepQ (C : Cfg) (lp : Lp) (self : Self) (j : Job) : Option R := match j with
  | .code (.loop b) rd nt s => match lp (.loop b) rd nt s with
    | some [.code e s2] => some (.code e s2)
    | _ => stepV2 C self (.code (.loop b) rd nt s)
  | j => stepV2 C self j
def runQ (C : Cfg) (lp : Lp) : Nat → Self := fun n => Nat.rec (fun _ => none) (fun _ self => stepQ C lp self) n
def dfOf : List Nat → List Deferred
  | [] => []
  | d :: l => { target := .collected d, args := #[] } :: dfOf l
def defsB : List Nat → List (Nat × AObj)
  | [] => []
  | d :: l => (d, .defs true) :: defsB l
def isDf : List Deferred → List Nat → Bool
  | [], [] => true
  | x :: l, d :: m => (match x.target with | .collected b => Nat.beq b d && nilB x.args.toList | _ => false) && isDf l m
  | _, _ => false
def stQ (nt next ro : Nat) (regs : List (Nat × Value)) (bl : List (Nat × AObj)) (dl : List Nat) : S := { stOf nt next ro regs bl with df := dfOf dl }
def asTold (nt next ro : Nat) (regs : List (Nat × Value)) (bl : List (Nat × AObj)) (dl : List Nat) (s : S) : Bool :=
  Nat.beq s.h.next next && (Nat.beq s.h.ro ro && (isDf s.df dl && (sameTm nt s.tm (stOf nt next ro regs bl).tm && (T.keysLow nt (stOf nt next ro regs bl).tm && hasAllL nt bl s.h))))
def lpQ (c0 : Code) (rd0 : Option Nat) (nt0 next ro : Nat) (regs : List (Nat × Value)) (bl : List (Nat × AObj)) (dl : List Nat) (r : R) : Lp := fun c rd nt s =>
  ok? (Nat.beq nt nt0 && (optNatEq rd rd0 && (asTold nt next ro regs bl dl s && codeEq c c0))) (some [r])
def exEq : Ex → Ex → Bool
  | .normal, .normal => true
  | .ret, .ret => true
  | .exit a, .exit b => Nat.beq a b
  | _, _ => false
def isRes (ex : Ex) (nt next ro : Nat) (regs : List (Nat × Value)) (bl : List (Nat × AObj)) (dl : List Nat) (x : Option R) : Bool := match x with
  | some (.code e s) => exEq e ex && asTold nt next ro regs bl dl s
  | _ => false
end
theorem exEq_eq {a b : Ex} (h : exEq a b = true) : a = b := by
  unfold exEq at h
  split at h
  · rfl
  · rfl
  · rw [nb h]
  · cases h
theorem Step.less {base nt : Nat} {ρ ρ1 : Ren} {h h1 h2 : Hp} {w w1 : World} (s : Step base ρ h w ρ1 h1 w1) (hn : h2.next = h1.next) (hr : h2.ro = h1.ro) (sub : ∀ i o, h2.get i = some o → ∃ o', h1.get i = some o' ∧ objEqL nt o' o = true) : Step base ρ h w ρ1 h2 w1 := by
  refine ⟨s.ext, ⟨?_, ?_, ?_, ?_, ?_⟩, s.keep, s.news, ?_, s.size, by rw [hr]; exact s.ro, by rw [hn]; exact s.next, s.os, s.tape, s.output⟩
  · intro i o hi
    obtain ⟨o', g1, g2⟩ := sub i o hi
    obtain ⟨im, O, k1, k2, k3⟩ := s.rel.obj i o' g1
    exact ⟨im, O, k1, k2, objEqL_rel g2 k3⟩
  · intro i j im jm o p hi hj e1 e2 hne hb
    obtain ⟨o', g1, _⟩ := sub i o hi
    obtain ⟨p', g2, _⟩ := sub j p hj
    exact s.rel.inj i j im jm o' p' g1 g2 e1 e2 hne hb
  · intro i im hi; rw [hn]; exact s.rel.dom i im hi
  · rw [hr]; exact s.rel.baseRo
  · rw [hr, hn]; exact s.rel.roNext
  · intro i o hi ho
    obtain ⟨o', g1, _⟩ := sub i o ho
    exact s.olds i o' hi g1
theorem isDf_eq : ∀ {l : List Deferred} {m : List Nat}, isDf l m = true → l = dfOf m
  | [], [], _ => rfl
  | x :: l, d :: m, h => by
    unfold isDf at h
    obtain ⟨h1, h2⟩ := a2 h
    obtain ⟨tg, ar⟩ := x
    split at h1
    · rename_i b hb
      obtain ⟨h3, h4⟩ := a2 h1
      have h5 := nilB_eq h4
      dsimp only at hb h5
      subst hb
      rw [isDf_eq h2]
      show _ = { target := .collected d, args := #[] } :: dfOf m
      rw [← nb h3]
      congr 2
      exact Array.toList_inj.1 h5
    · cases h1
  | [], _ :: _, h => by cases h
  | _ :: _, [], h => by cases h
theorem told_sub {nt next ro : Nat} {regs : List (Nat × Value)} {bl : List (Nat × AObj)} {h : Hp} (h8 : hasAllL nt bl h = true) : ∀ i o, (stOf nt next ro regs bl).h.get i = some o → ∃ o', h.get i = some o' ∧ objEqL nt o' o = true := by
  intro i o hi
  rcases addAll_mem bl T.nil i o hi with hm | hm
  · exact hasAllL_get h8 i o hm
  · rw [T.get_nil] at hm; cases hm
theorem asTold_post {base nt next ro : Nat} {regs : List (Nat × Value)} {bl : List (Nat × AObj)} {dl : List Nat} {s s1 : S} {ρ : Ren} {w : World} {e : Ex} {ex : Exit} {a : Act} {w1 : World} (h : asTold nt next ro regs bl dl s1 = true) (q : QCode base ρ nt s w e s1 ex a w1) : QCode base ρ nt s w e (stQ nt next ro regs bl dl) ex a w1 := by
  unfold asTold at h
  obtain ⟨h3, h⟩ := a2 h
  obtain ⟨h4, h⟩ := a2 h
  obtain ⟨h5, h⟩ := a2 h
  obtain ⟨h6, h⟩ := a2 h
  obtain ⟨h7, h8⟩ := a2 h
  have h3 := nb h3
  have h4 := nb h4
  obtain ⟨ρ1, g1, g2, g3, g4⟩ := q
  refine ⟨ρ1, g1, g2.less (nt := nt) h3.symm h4.symm (told_sub (regs := regs) h8), sameTm_rel h6 h7 g3, ?_⟩
  rw [isDf_eq h5] at g4; exact g4
theorem lpQ_ok {P : Program} {c0 : Code} {rd0 : Option Nat} {nt0 next ro : Nat} {regs : List (Nat × Value)} {bl : List (Nat × AObj)} {dl : List Nat} {r : R} (h : WpC P c0 rd0 nt0 (stQ nt0 next ro regs bl dl) [r]) : LpOk P (lpQ c0 rd0 nt0 next ro regs bl dl r) := by
  intro c rd nt s rs' e base ρ w a rr m H ht hd hr
  unfold lpQ at e
  replace e := ok?_some e
  obtain ⟨e, e'⟩ := e
  cases e'
  obtain ⟨h1, e⟩ := a2 e
  obtain ⟨h2, e⟩ := a2 e
  obtain ⟨e, h9⟩ := a2 e
  unfold asTold at e
  obtain ⟨h3, e⟩ := a2 e
  obtain ⟨h4, e⟩ := a2 e
  obtain ⟨h5, e⟩ := a2 e
  obtain ⟨h6, e⟩ := a2 e
  obtain ⟨h7, h8⟩ := a2 e
  have h1 := nb h1
  have h2 := optNatEq_eq h2
  have h3 := nb h3
  have h4 := nb h4
  have h9 := codeEq_eq _ _ h9
  subst h1 h2 h3 h4 h9
  have hdf := isDf_eq h5
  have sub := told_sub (next := s.h.next) (ro := s.h.ro) (regs := regs) h8
  have H2 : HRel base ρ (stQ nt s.h.next s.h.ro regs bl dl).h w := by
    refine ⟨?_, ?_, H.dom, H.baseRo, H.roNext⟩
    · intro i o hi
      obtain ⟨o', g1, g2⟩ := sub i o hi
      obtain ⟨im, O, k1, k2, k3⟩ := H.obj i o' g1
      exact ⟨im, O, k1, k2, objEqL_rel g2 k3⟩
    · intro i j im jm o p hi hj e1 e2 hne hb
      obtain ⟨o', g1, _⟩ := sub i o hi
      obtain ⟨p', g2, _⟩ := sub j p hj
      exact H.inj i j im jm o' p' g1 g2 e1 e2 hne hb
  have wr : ∀ {b}, Wr ρ (stQ nt s.h.next s.h.ro regs bl dl).h b → Wr ρ s.h b := by
    rintro b ⟨i, o, im, g1, g2, g3, g4⟩
    obtain ⟨o', k1, _⟩ := sub i o g1
    exact ⟨i, o', im, k1, g2, g3, g4⟩
  refine wpIn_mono (h base ρ w a rr m H2 (sameTm_rel h6 h7 ht) (by rw [hdf] at hd; exact hd) hr) ?_
  rintro ex a1 w1 ⟨e1, s1, hm, ρ1, g1, g2, g3, g4⟩
  refine ⟨e1, s1, hm, ρ1, g1, ⟨g2.ext, g2.rel, fun b o hb hn => g2.keep b o hb (fun h => hn (wr h)), ?_, ?_, g2.size, g2.ro, g2.next, g2.os, g2.tape, g2.output⟩, g3, g4⟩
  · intro i im hi
    rcases g2.news i im hi with k | ⟨k1, k2⟩
    · exact .inl k
    · exact .inr ⟨k1, k2.imp id wr⟩
  · intro i o hi ho
    obtain ⟨p, hp⟩ := g2.olds i o hi ho
    obtain ⟨p', hp', _⟩ := sub i p hp
    exact ⟨p', hp'⟩
theorem cut_ok {C : Cfg} {self : Self} (hs : Sound C self) {c : Code} {rd : Option Nat} {ex : Ex} {nt next ro : Nat} {regs : List (Nat × Value)} {bl : List (Nat × AObj)} {dl : List Nat} {s : S} (e : isRes ex nt next ro regs bl dl (self (.code c rd nt s)) = true) : WpC C.P.P c rd nt s [.code ex (stQ nt next ro regs bl dl)] := by
  unfold isRes at e
  split at e
  · rename_i e1 s1 he
    obtain ⟨h1, h2⟩ := a2 e
    obtain rfl := exEq_eq h1
    obtain ⟨e2, s2, hr, k⟩ := hs.code _ _ _ _ _ he
    cases hr
    intro base ρ w a rr m H ht hd hrd
    exact wpIn_mono (k base ρ w a rr m H ht hd hrd) (fun ex a w q => ⟨_, _, .head _, asTold_post h2 q⟩)
  · cases e
theorem stepQ_sound {C : Cfg} (hC : C.Ok) {lp : Lp} (hl : LpOk C.P.P lp) {self : Self} (hs : Sound C self) : Sound C (stepQ C lp self) := by
  have h1 := step2_sound hC hs
  refine ⟨fun c rd nt s r e => ?_, fun f args h r e => h1.call _ _ _ _ e, fun f args u h r e => h1.dcall _ _ _ _ _ e⟩
  unfold stepQ at e
  split at e
  · rename_i b rd' nt' s' hj
    cases hj
    split at e
    · rename_i e1 s1 hr
      cases e
      have k := hl _ _ _ _ _ hr
      refine ⟨e1, s1, rfl, fun base ρ w a rr m H ht hd hrd => wpIn_mono (k base ρ w a rr m H ht hd hrd) ?_⟩
      rintro ex a w ⟨e2, s2, hm, q⟩
      obtain hm := List.mem_singleton.1 hm
      cases hm
      exact q
    · exact h1.code _ _ _ _ _ e
  · exact h1.code _ _ _ _ _ e
theorem runQ_sound {C : Cfg} (hC : C.Ok) {lp : Lp} (hl : LpOk C.P.P lp) : ∀ n, Sound C (runQ C lp n)
  | 0 => ⟨(fun _ _ _ _ _ e => (by cases e)), (fun _ _ _ _ e => (by cases e)), (fun _ _ _ _ _ e => (by cases e))⟩
  | n + 1 => stepQ_sound hC hl (runQ_sound hC hl n)
end Go.Eng
