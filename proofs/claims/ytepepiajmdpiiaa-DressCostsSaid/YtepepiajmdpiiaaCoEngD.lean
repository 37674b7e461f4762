/-
  An evaluator of the code, proved sound.
-/
import Derived.Test.YtepepiajmdpiiaaCoEngC
set_option linter.unusedVariables false
/-
  States that are the same but for the numbers of blocks that a turn of a loop has laid; what else was laid is forgotten.
-/
namespace Go.Eng
def idxP : List Nat → Nat → Nat → Option Nat
  | [], _, _ => none
  | a :: l, i, n => match Nat.beq a i with | true => some n | false => idxP l i (n + 1)
def sgP (N : Nat) (olds : List Nat) (i : Nat) : Option Nat := match Nat.blt i N with | true => some i | false => idxP olds i N
def renP (ρ : Ren) (N : Nat) (olds : List Nat) : Ren := fun j => if j < N then ρ j else (olds[j - N]?).bind ρ
theorem idxP_some : ∀ (l : List Nat) (i n k : Nat), idxP l i n = some k → n ≤ k ∧ l[k - n]? = some i
  | [], _, _, _, h => by cases h
  | a :: l, i, n, k, h => by
    unfold idxP at h
    split at h
    · rename_i e
      cases h
      exact ⟨Nat.le_refl _, by rw [Nat.sub_self, nb e]; rfl⟩
    · obtain ⟨h1, h2⟩ := idxP_some l i (n + 1) k h
      refine ⟨by omega, ?_⟩
      rw [show k - n = (k - (n + 1)) + 1 by omega]
      simpa using h2
theorem sg_ren {ρ : Ren} {N : Nat} {olds : List Nat} {i j : Nat} (h : sgP N olds i = some j) : renP ρ N olds j = ρ i := by
  unfold sgP at h
  unfold renP
  split at h
  · rename_i e
    cases h
    rw [Nat.blt_eq] at e
    rw [if_pos e]
  · obtain ⟨h1, h2⟩ := idxP_some _ _ _ _ h
    rw [if_neg (by omega), h2]; rfl
def simB (N : Nat) (olds : List Nat) (i j : Nat) : Bool := match sgP N olds i with | some k => Nat.beq k j | none => false
theorem simB_eq {N : Nat} {olds : List Nat} {i j : Nat} (h : simB N olds i j = true) : sgP N olds i = some j := by
  unfold simB at h
  split at h
  · rename_i k e; rw [e, nb h]
  · cases h
def nospot (a : Addr) : Bool := match a.spot with | none => true | some _ => false
theorem nospot_eq {a : Addr} (h : nospot a = true) : a.spot = none := by
  unfold nospot at h
  split at h
  · assumption
  · cases h
def simA (N : Nat) (olds : List Nat) (a b : Addr) : Bool := simB N olds a.block b.block && (Nat.beq a.off b.off && (nospot a && nospot b))
def simF (N : Nat) (olds : List Nat) (f g : Fn) : Bool := match f with
  | .func x => (match g with | .func y => Nat.beq x y | _ => false)
  | .yield x => (match g with | .yield y => simB N olds x y | _ => false)
  | _ => false
def simV (N : Nat) (olds : List Nat) : Nat → Value → Value → Bool
  | 0, _, _ => false
  | n + 1, u, v => match u with
    | .pointer (some a) => (match v with | .pointer (some b) => simA N olds a b | _ => false)
    | .pointer none => (match v with | .pointer none => true | _ => false)
    | .slice (some a) m c => (match v with | .slice (some b) m' c' => simA N olds a b && (Nat.beq m m' && Nat.beq c c') | _ => false)
    | .map (some r) => (match v with | .map (some r') => simB N olds r r' | _ => false)
    | .map none => (match v with | .map none => true | _ => false)
    | .nilFunc => (match v with | .nilFunc => true | _ => false)
    | .nilIface => (match v with | .nilIface => true | _ => false)
    | .func f a b => (match v with | .func g c d => simF N olds f g && (listEq (simV N olds n) a.toList c.toList && listEq (simV N olds n) b.toList d.toList) | _ => false)
    | .agg a => (match v with | .agg b => listEq (simV N olds n) a.toList b.toList | _ => false)
    | .tuple a => (match v with | .tuple b => listEq (simV N olds n) a.toList b.toList | _ => false)
    | .iface t x => (match v with | .iface u y => Nat.beq t u && simV N olds n x y | _ => false)
    | u => plain u && vflat u v
section
variable {ρ : Ren} {N : Nat} {olds : List Nat}
theorem simA_rel {a b a' : Addr} (h : simA N olds a b = true) (hr : ARel ρ a a') : ARel (renP ρ N olds) b a' := by
  unfold simA at h
  obtain ⟨h1, h⟩ := a2 h
  obtain ⟨h2, h⟩ := a2 h
  obtain ⟨h3, h4⟩ := a2 h
  obtain ⟨g1, g2, im, g3, g4, g5⟩ := hr
  exact ⟨nospot_eq h4, g2, im, by rw [sg_ren (simB_eq h1)]; exact g3, g4, by rw [← nb h2]; exact g5⟩
theorem ifB_if' (a b : Bool) : ifB a b false = (a && b) := by cases a <;> rfl
theorem listEq_get {α : Type} {f : α → α → Bool} : ∀ {l m : List α}, listEq f l m = true → l.length = m.length ∧ ∀ (i : Nat) (x y : α), l[i]? = some x → m[i]? = some y → f x y = true
  | [], [], _ => ⟨rfl, fun i x y h => by simp at h⟩
  | a :: l, b :: m, h => by
    unfold listEq at h
    rw [ifB_if'] at h
    obtain ⟨h1, h2⟩ := a2 h
    obtain ⟨g1, g2⟩ := listEq_get h2
    refine ⟨by simp [g1], fun i x y hx hy => ?_⟩
    cases i with
    | zero => simp at hx hy; subst hx hy; exact h1
    | succ i => exact g2 i x y (by simpa using hx) (by simpa using hy)
  | [], _ :: _, h => by cases h
  | _ :: _, [], h => by cases h
theorem simV_rel : ∀ (n : Nat) {u v w : Value}, simV N olds n u v = true → VRel ρ u w → VRel (renP ρ N olds) v w
  | 0, _, _, _, h, _ => by cases h
  | n + 1, u, v, w, h, hr => by
    have lst : ∀ {l m k : List Value}, listEq (simV N olds n) l m = true → LRel ρ l k → LRel (renP ρ N olds) m k := by
      intro l m k h hl
      obtain ⟨g1, g2⟩ := listEq_get h
      refine ⟨by rw [← g1]; exact hl.1, fun i x x' hx hx' => ?_⟩
      have hi : i < l.length := by rw [g1]; exact (List.getElem?_eq_some_iff.1 hx).1
      exact simV_rel n (g2 i _ _ (List.getElem?_eq_getElem hi) hx) (hl.2 i _ x' (List.getElem?_eq_getElem hi) hx')
    unfold simV at h
    split at h
    · split at h
      · cases hr with | ptr _ a' ha => exact .ptr _ _ (simA_rel h ha)
      · cases h
    · split at h
      · cases hr; exact .nilPtr
      · cases h
    · split at h
      · obtain ⟨h1, h⟩ := a2 h
        obtain ⟨h2, h3⟩ := a2 h
        have h2 := nb h2
        have h3 := nb h3
        subst h2 h3
        unfold simA at h1
        obtain ⟨k1, h1⟩ := a2 h1
        obtain ⟨k2, h1⟩ := a2 h1
        obtain ⟨k3, k4⟩ := a2 h1
        cases hr with
        | slice _ _ _ a' c' hs =>
          obtain ⟨g1, g2, im, g3, g4, g5⟩ := hs
          exact .slice _ _ _ _ _ ⟨nospot_eq k4, g2, im, by rw [sg_ren (simB_eq k1)]; exact g3, g4, by rw [← nb k2]; exact g5⟩
        | ghost _ a' im z g1 g2 g3 => exact .ghost _ _ im z (nospot_eq k4) (by rw [sg_ren (simB_eq k1)]; exact g2) g3
      · cases h
    · split at h
      · cases hr with | map _ im hm => exact .map _ im (by rw [sg_ren (simB_eq h)]; exact hm)
      · cases h
    · split at h
      · cases hr; exact .nilMap
      · cases h
    · split at h
      · cases hr; exact .nilFunc
      · cases h
    · split at h
      · cases hr; exact .nilIface
      · cases h
    · split at h
      · obtain ⟨h1, h⟩ := a2 h
        obtain ⟨h2, h3⟩ := a2 h
        obtain ⟨f', a', b', rfl, hf, ha, hb⟩ := hr.func_inv
        refine .func' ?_ (lst h2 ha) (lst h3 hb)
        unfold simF at h1
        split at h1
        · split at h1
          · rw [nb h1] at hf
            cases hf with | same _ hh => exact .same _ hh
          · cases h1
        · split at h1
          · cases hf with
            | same _ hh => exact absurd rfl (hh _)
            | yield _ im hh => exact .yield _ im (by rw [sg_ren (simB_eq h1)]; exact hh)
          · cases h1
        · cases h1
      · cases h
    · split at h
      · cases hr with
        | agg _ a' hs hv =>
          have := lst h (k := a'.toList) ⟨by simpa using hs, fun i x x' h1 h2 => hv i x x' (by simpa using h1) (by simpa using h2)⟩
          exact .agg _ _ (by simpa using this.1) (fun i x x' h1 h2 => this.2 i x x' (by simpa using h1) (by simpa using h2))
      · cases h
    · split at h
      · cases hr with
        | tuple _ a' hs hv =>
          have := lst h (k := a'.toList) ⟨by simpa using hs, fun i x x' h1 h2 => hv i x x' (by simpa using h1) (by simpa using h2)⟩
          exact .tuple _ _ (by simpa using this.1) (fun i x x' h1 h2 => this.2 i x x' (by simpa using h1) (by simpa using h2))
      · cases h
    · split at h
      · obtain ⟨h1, h2⟩ := a2 h
        rw [← nb h1]
        cases hr with | iface _ _ v' hv => exact .iface _ _ _ (simV_rel n h2 hv)
      · cases h
    · obtain ⟨h1, h2⟩ := a2 h
      have := vflat_eq _ _ h2
      subst this
      have := plain_rel hr h1
      subst this
      exact plain_self _ h1
noncomputable def simReg (N : Nat) (olds : List Nat) (a b : T Value) (t : Nat) : Bool := match b.get t with
  | some v => (match a.get t with | some u => simV N olds 6 u v | none => false)
  | none => (match a.get t with | some _ => false | none => true)
noncomputable def simTm (N : Nat) (olds : List Nat) (nt : Nat) (a b : T Value) : Bool := (List.range nt).all fun t => simReg N olds a b t
theorem undef_rel {ρ ρ' : Ren} {v : Value} (h : VRel ρ undef v) : VRel ρ' undef v := by
  cases h with
  | tuple _ a' hs _ => exact .tuple _ _ hs (fun i x x' h1 _ => by simp at h1)
theorem simTm_rel {nt : Nat} {a b : T Value} {tmps : Array Value} (h : simTm N olds nt a b = true) (hb : ∀ t v, b.get t = some v → t < nt) (ht : TmRel ρ nt a tmps) : TmRel (renP ρ N olds) nt b tmps := by
  refine ⟨ht.1, fun t => ?_⟩
  by_cases hn : t < nt
  · have h1 := List.all_eq_true.1 h t (List.mem_range.2 hn)
    have h2 := ht.2 t
    unfold simReg at h1
    split at h1
    · rename_i v hv
      split at h1
      · rename_i u hu
        rw [hv, Option.getD_some]
        rw [hu, Option.getD_some] at h2
        exact simV_rel _ h1 h2
      · cases h1
    · rename_i hv
      split at h1
      · cases h1
      · rename_i hu
        rw [hv, Option.getD_none]
        rw [hu, Option.getD_none] at h2
        exact undef_rel h2
  · have hv : b.get t = none := by
      cases hh : b.get t with
      | none => rfl
      | some v => exact absurd (hb t v hh) hn
    rw [hv, Option.getD_none, Array.getD_eq_getD_getElem?, Array.getElem?_eq_none (by rw [ht.1]; omega)]
    exact .tuple _ _ rfl (fun i x x' h1 _ => by simp at h1)
def stEq (a b : LoopState) : Bool := match a with
  | .ready => (match b with | .ready => true | _ => false)
  | .busy => (match b with | .busy => true | _ => false)
  | .done => (match b with | .done => true | _ => false)
  | .exhausted => (match b with | .exhausted => true | _ => false)
theorem stEq_eq {a b : LoopState} (h : stEq a b = true) : a = b := by cases a <;> cases b <;> first | rfl | cases h
def nonePend (p : Option Code) : Bool := match p with | none => true | some _ => false
theorem nonePend_eq {p : Option Code} (h : nonePend p = true) : p = none := by cases p with | none => rfl | some _ => cases h
def A.keysLow (nt : Nat) : A Value → Bool
  | .nil => true
  | .cons k _ r => Nat.blt k nt && A.keysLow nt r
def T.keysLow (nt : Nat) : T Value → Bool
  | .leaf es => A.keysLow nt es
  | .node _ l r => T.keysLow nt l && T.keysLow nt r
theorem A.keysLow_get {nt : Nat} : ∀ {es : A Value}, A.keysLow nt es = true → ∀ {k : Nat} {v : Value}, es.get k = some v → k < nt
  | .nil, _, k, v, h => by rw [A.get_nil] at h; cases h
  | .cons m x r, hl, k, v, h => by
    obtain ⟨h1, h2⟩ := a2 hl
    rw [A.get_cons] at h
    cases hb : Nat.beq m k with
    | true => rw [← nb hb]; rw [Nat.blt_eq] at h1; exact h1
    | false => rw [hb] at h; exact A.keysLow_get h2 h
theorem T.keysLow_get {nt : Nat} : ∀ {t : T Value}, T.keysLow nt t = true → ∀ {k : Nat} {v : Value}, t.get k = some v → k < nt
  | .leaf es, hl, k, v, h => A.keysLow_get hl h
  | .node m l r, hl, k, v, h => by
    obtain ⟨h1, h2⟩ := a2 hl
    rw [T.get_node] at h
    cases hb : Nat.ble m k with
    | true => rw [hb] at h; exact T.keysLow_get h2 h
    | false => rw [hb] at h; exact T.keysLow_get h1 h
def entEq (N : Nat) (olds : List Nat) (x y : Value × Value) : Bool := veq x.1 y.1 && simV N olds 6 x.2 y.2
noncomputable def simO (N : Nat) (olds : List Nat) (a b : AObj) : Bool := match a with
  | .cells c e es => (match b with | .cells d e' es' => listEq (simV N olds 6) c d && (Nat.beq e e' && optNatEq es es') | _ => false)
  | .map es => (match b with | .map es' => listEq (entEq N olds) es es' | _ => false)
  | .defs x => (match b with | .defs y => boolEq x y | _ => false)
  | .miter (some r) n seen => (match b with | .miter (some r') n' seen' => simB N olds r r' && (Nat.beq n n' && listEq Nat.beq seen seen') | _ => false)
  | .loop st p tm nt ps asg body d => (match b with
    | .loop st' p' tm' nt' ps' asg' body' d' => stEq st st' && (nonePend p && (nonePend p' && (Nat.beq nt nt' && (simTm N olds nt tm tm' && (T.keysLow nt tm' && (listEq Nat.beq ps.toList ps'.toList && (codeEq asg asg' && (codeEq body body' && simB N olds d d'))))))))
    | _ => false)
  | _ => false
theorem simO_rel {im : Img} {wr wr' : Prop} (hw : wr' → wr) {a b : AObj} {O : Obj} (h : simO N olds a b = true) (hr : ORel ρ im wr a O) : ORel (renP ρ N olds) im wr' b O := by
  unfold simO at h
  split at h
  · split at h
    · obtain ⟨h1, h⟩ := a2 h
      obtain ⟨h2, h3⟩ := a2 h
      have h2 := nb h2
      have h3 := optNatEq_eq h3
      subst h2 h3
      obtain ⟨g1, g2⟩ := listEq_get h1
      cases hr with
      | cells _ _ _ C fr hes hsz hknown hfit hcell hfr =>
        refine .cells _ _ _ C fr hes hsz (fun e => by rw [← g1]; exact hknown e) (by rw [← g1]; exact hfit) ?_ (fun e => hfr (hw e))
        intro k v hv
        have hk : k < _ := (List.getElem?_eq_some_iff.1 hv).1
        rw [← g1] at hk
        obtain ⟨v', r1, r2⟩ := hcell k _ (List.getElem?_eq_getElem hk)
        exact ⟨v', r1, simV_rel _ (g2 k _ _ (List.getElem?_eq_getElem hk) hv) r2⟩
    · cases h
  · split at h
    · obtain ⟨g1, g2⟩ := listEq_get h
      cases hr with
      | map _ ES clock hsz hent hborn =>
        refine .map _ ES clock (by rw [← g1]; exact hsz) ?_ (by rw [← g1]; exact hborn)
        intro k x hx
        have hk : k < _ := (List.getElem?_eq_some_iff.1 hx).1
        rw [← g1] at hk
        obtain ⟨e, r1, r2, r3, r4⟩ := hent k _ (List.getElem?_eq_getElem hk)
        have := g2 k _ _ (List.getElem?_eq_getElem hk) hx
        unfold entEq at this
        obtain ⟨t1, t2⟩ := a2 this
        have t1 := veq_eq _ _ t1
        exact ⟨e, r1, by rw [← t1]; exact r2, by rw [← t1]; exact r3, simV_rel _ t2 r4⟩
    · cases h
  · split at h
    · rw [← boolEq_eq _ _ h]
      cases hr with
      | defsT => exact .defsT
      | defsF => exact .defsF
    · cases h
  · split at h
    · obtain ⟨h1, h⟩ := a2 h
      obtain ⟨h2, h3⟩ := a2 h
      have h2 := nb h2
      have h3 := listEq_eq (fun _ _ => nb) h3
      subst h2 h3
      cases hr with
      | miter _ _ _ mm hsh hm => exact .miter _ _ _ mm hsh (by rw [sg_ren (simB_eq h1)]; exact hm)
    · cases h
  · split at h
    · obtain ⟨h1, h⟩ := a2 h
      obtain ⟨h2, h⟩ := a2 h
      obtain ⟨h3, h⟩ := a2 h
      obtain ⟨h4, h⟩ := a2 h
      obtain ⟨h5, h⟩ := a2 h
      obtain ⟨h6, h⟩ := a2 h
      obtain ⟨h7, h⟩ := a2 h
      obtain ⟨h8, h⟩ := a2 h
      obtain ⟨h9, h10⟩ := a2 h
      cases hr with
      | loop _ _ _ _ _ _ _ _ l dm k1 k2 k3 k4 k5 k6 k7 k8 =>
        have h4 := nb h4
        subst h4
        refine .loop _ _ _ _ _ _ _ _ l dm (by rw [← stEq_eq h1]; exact k1) (by rw [nonePend_eq h3]; rw [nonePend_eq h2] at k2; exact k2) (simTm_rel h5 (fun t v hv => T.keysLow_get h6 hv) k3)
          (by rw [← arrE (fun _ _ => nb) h7]; exact k4) (by rw [← codeEq_eq _ _ h8]; exact k5) (by rw [← codeEq_eq _ _ h9]; exact k6) (by rw [sg_ren (simB_eq h10)]; exact k7) k8
    · cases h
  · cases h
end
end Go.Eng
/-
  A range over a map whose turns may come in any order: by a table of the states that turns lead to.
-/
namespace Go.Eng
noncomputable section
structure LTabS where
  tm : List (Nat × Option Value)
  high : List (Nat × Option AObj)
  g : Nat
structure LTab where
  ib : Nat
  r : Nat
  low : List Nat
  states : List LTabS
  next : List (List (Nat × List Nat))
  acc : List Nat
  fold : List (List Nat)
section
variable (C : Cfg) (self : Self) (rd : Option Nat) (nt : Nat) (ops : Array Oper) (b2 : Code)
def noneB {α : Type} (x : Option α) : Bool := match x with | none => true | some _ => false
end
theorem HRel.sub {base : Nat} {ρ : Ren} {hM hK : Hp} {w : World} (H : HRel base ρ hM w) (hs : ∀ i o, hK.get i = some o → hM.get i = some o) (hn : hM.next = hK.next) (hr : hM.ro = hK.ro) : HRel base ρ hK w :=
  ⟨fun i o hi => H.obj i o (hs i o hi), fun i j im jm o p hi hj => H.inj i j im jm o p (hs i o hi) (hs j p hj), fun i im h => by rw [← hn]; exact H.dom i im h, by rw [← hr]; exact H.baseRo, by rw [← hr, ← hn]; exact H.roNext⟩
theorem noneB_eq {α : Type} {x : Option α} (h : noneB x = true) : x = none := by cases x with | none => rfl | some _ => cases h
section
variable {C : Cfg} (hC : C.Ok) {self : Self} (hs : Sound C self)
include hC hs in
end
def QF (base : Nat) (ρ : Ren) (nt ib : Nat) (X : AObj) (s : S) (w : World) (e : Ex) (s' : S) : Exit → Act → World → Prop := fun ex a' w' =>
  s'.h.get ib = none ∧ s.h.next ≤ s'.h.next ∧ s'.h.ro = s.h.ro ∧ ∃ ρ', ExRel ρ' e ex ∧ Step base ρ (s.h.upd ib X) w ρ' (s'.h.upd ib X) w' ∧ TmRel ρ' nt s'.tm a'.tmps ∧ DfRel ρ' s'.df a'.defers
theorem QF.after {base : Nat} {ρ ρ1 : Ren} {nt ib : Nat} {X : AObj} {s s1 s' : S} {w w1 : World} {e : Ex} (H : HRel base ρ (s.h.upd ib X) w) (st : Step base ρ (s.h.upd ib X) w ρ1 (s1.h.upd ib X) w1) (hn : s.h.next ≤ s1.h.next) (hr : s1.h.ro = s.h.ro) {ex : Exit} {a : Act} {w' : World}
    (h : QF base ρ1 nt ib X s1 w1 e s' ex a w') : QF base ρ nt ib X s w e s' ex a w' := by
  obtain ⟨g1, g2, g3, ρ2, k1, k2, k3, k4⟩ := h
  exact ⟨g1, Nat.le_trans hn g2, g3.trans hr, ρ2, k1, st.trans H k2, k3, k4⟩
section
variable {C : Cfg} (hC : C.Ok) {self : Self} (hs : Sound C self)
include hs in
include hC hs in
include hC hs in
end
section
variable {C : Cfg} (hC : C.Ok) {self : Self} (hs : Sound C self)
include hC hs in
include hC hs in
end
end
end Go.Eng
/-
  A region that draws its order, with one store: all orders lead to one state, by the sets of what was done.
-/
namespace Go.Eng
def vEq : Nat → Value → Value → Bool
  | 0, _, _ => false
  | n + 1, u, v => match u with
    | .pointer (some a) => (match v with | .pointer (some b) => Nat.beq a.block b.block && (Nat.beq a.off b.off && (nospot a && nospot b)) | _ => false)
    | .pointer none => (match v with | .pointer none => true | _ => false)
    | .map (some r) => (match v with | .map (some r') => Nat.beq r r' | _ => false)
    | .map none => (match v with | .map none => true | _ => false)
    | .nilFunc => (match v with | .nilFunc => true | _ => false)
    | .nilIface => (match v with | .nilIface => true | _ => false)
    | .func f a b => (match v with | .func g c d => (match f with | .func x => (match g with | .func y => Nat.beq x y | _ => false) | .yield x => (match g with | .yield y => Nat.beq x y | _ => false) | _ => false) && (listEq (vEq n) a.toList c.toList && listEq (vEq n) b.toList d.toList) | _ => false)
    | .agg a => (match v with | .agg b => listEq (vEq n) a.toList b.toList | _ => false)
    | .tuple a => (match v with | .tuple b => listEq (vEq n) a.toList b.toList | _ => false)
    | .iface t x => (match v with | .iface u y => Nat.beq t u && vEq n x y | _ => false)
    | u => vflat u v
theorem addr_same {a b : Addr} (h1 : a.block = b.block) (h2 : a.off = b.off) (h3 : a.spot = none) (h4 : b.spot = none) : a = b := by
  cases a; cases b; simp_all
theorem vEq_eq : ∀ (n : Nat) (u v : Value), vEq n u v = true → u = v
  | 0, _, _, h => by cases h
  | n + 1, u, v, h => by
    have ih := vEq_eq n
    unfold vEq at h
    split at h
    · split at h
      · obtain ⟨h1, h⟩ := a2 h
        obtain ⟨h2, h⟩ := a2 h
        obtain ⟨h3, h4⟩ := a2 h
        rw [addr_same (nb h1) (nb h2) (nospot_eq h3) (nospot_eq h4)]
      · cases h
    · split at h
      · rfl
      · cases h
    · split at h
      · rw [nb h]
      · cases h
    · split at h
      · rfl
      · cases h
    · split at h
      · rfl
      · cases h
    · split at h
      · rfl
      · cases h
    · split at h
      · obtain ⟨h1, h⟩ := a2 h
        obtain ⟨h2, h3⟩ := a2 h
        rw [arrE ih h2, arrE ih h3]
        split at h1
        · split at h1
          · rw [nb h1]
          · cases h1
        · split at h1
          · rw [nb h1]
          · cases h1
        · cases h1
      · cases h
    · split at h
      · rw [arrE ih h]
      · cases h
    · split at h
      · rw [arrE ih h]
      · cases h
    · split at h
      · obtain ⟨h1, h2⟩ := a2 h
        rw [nb h1, ih _ _ h2]
      · cases h
    · exact vflat_eq _ _ h
noncomputable section
def sameTm (nt : Nat) (a b : T Value) : Bool := (List.range nt).all fun t => match a.get t with
  | some u => (match b.get t with | some v => vEq 6 u v | none => false)
  | none => noneB (b.get t)
theorem sameTm_rel {ρ : Ren} {nt : Nat} {a b : T Value} {tmps : Array Value} (h : sameTm nt a b = true) (hb : T.keysLow nt b = true) (ht : TmRel ρ nt a tmps) : TmRel ρ nt b tmps := by
  refine ⟨ht.1, fun t => ?_⟩
  have h2 := ht.2 t
  by_cases hn : t < nt
  · have h1 := List.all_eq_true.1 h t (List.mem_range.2 hn)
    split at h1
    · rename_i u hu
      split at h1
      · rename_i v hv
        rw [hv, ← vEq_eq _ _ _ h1, ← hu]; exact h2
      · cases h1
    · rename_i hu
      rw [noneB_eq h1, ← hu]; exact h2
  · have hv : b.get t = none := by
      cases hh : b.get t with
      | none => rfl
      | some v => exact absurd (T.keysLow_get hb hh) hn
    rw [hv, Option.getD_none, Array.getD_eq_getD_getElem?, Array.getElem?_eq_none (by rw [ht.1]; omega)]
    exact .tuple _ _ rfl (fun i x x' h1 _ => by simp at h1)
def stillOp : Op → Bool
  | .move _ | .assign _ | .pick .. | .load .. | .nilCheck _ | .binOp .. | .fieldAddr .. | .field .. | .indexAddr .. | .index .. | .extract .. | .build .. | .lookup .. => true
  | _ => false
theorem calm_heap {E : Env} {ev : Ev} {o : Oper} {h h' : Hp} {v : Value} (hc : stillOp o.op = true) (e : opV E ev o h = some (.val v h')) : h' = h := by
  have pure : ∀ {x : Option Value}, pureOp h x = some (.val v h') → h' = h := by
    intro x hx
    unfold pureOp at hx
    obtain ⟨u, _, hx⟩ := bind_some' hx
    cases hx; rfl
  unfold stillOp at hc
  unfold opV at e
  split at hc
  all_goals first | (cases hc; done) | skip
  all_goals (rename_i hop; rw [hop] at e; simp only at e)
  · exact pure e
  · exact pure e
  · unfold opPick op3 at e
    obtain ⟨a, _, e⟩ := bind_some' e
    obtain ⟨b, _, e⟩ := bind_some' e
    obtain ⟨c, _, e⟩ := bind_some' e
    dsimp only at e
    split at e
    · cases e; rfl
    · cases e; rfl
    · cases e
  · unfold opLoad op1 at e
    obtain ⟨a, _, e⟩ := bind_some' e
    exact pure e
  · unfold opNilCheck op1 at e
    obtain ⟨a, _, e⟩ := bind_some' e
    exact pure e
  · unfold opBin op2 at e
    obtain ⟨a, _, e⟩ := bind_some' e
    obtain ⟨b, _, e⟩ := bind_some' e
    exact pure e
  · unfold opFieldAddr op1 at e
    obtain ⟨a, _, e⟩ := bind_some' e
    exact pure e
  · unfold opField op1 at e
    obtain ⟨a, _, e⟩ := bind_some' e
    exact pure e
  · unfold opIndexAddr op2 at e
    obtain ⟨a, _, e⟩ := bind_some' e
    obtain ⟨b, _, e⟩ := bind_some' e
    exact pure e
  · unfold opIndex op2 at e
    obtain ⟨a, _, e⟩ := bind_some' e
    obtain ⟨b, _, e⟩ := bind_some' e
    exact pure e
  · unfold opExtract op1 at e
    obtain ⟨a, _, e⟩ := bind_some' e
    try dsimp only at e
    split at e
    · exact pure e
    · cases e
  · unfold opBuild at e
    obtain ⟨a, _, e⟩ := bind_some' e
    exact pure e
  · unfold opLookup op2 at e
    obtain ⟨a, _, e⟩ := bind_some' e
    obtain ⟨b, _, e⟩ := bind_some' e
    exact pure e
structure St1 where
  k : Nat
  t : TypeId
  x : Operand
  y : Operand
  vx : Value
  vy : Value
  h1 : Hp
section
variable (C : Cfg) (nt : Nat) (ops : Array Oper) (h0 : Hp) (st : Option St1)
def readyM (mask i : Nat) : Bool := match ops[i]? with
  | some o => !(Nat.testBit mask i) && o.after.toList.all fun e => !(Region.binds .any e) || Nat.testBit mask e.on
  | none => false
def findM (m : Nat) : List (Nat × T Value) → Option (T Value)
  | [] => none
  | (n, t) :: l => match Nat.beq n m with | true => some t | false => findM m l
end
theorem findM_mem {m : Nat} {t : T Value} : ∀ {l : List (Nat × T Value)}, findM m l = some t → (m, t) ∈ l
  | [], h => by cases h
  | (n, u) :: l, h => by
    unfold findM at h
    split at h
    · rename_i hb
      cases h; rw [nb hb]; exact .head _
    · exact .tail _ (findM_mem h)
theorem left_set {ops : Array Oper} {listed listed' : Array Bool} {i : Nat} (hset : ∀ j, lst listed' j = (lst listed j || j == i)) (hi : lst listed i = false) (hlt : i < ops.size) : left ops listed' + 1 = left ops listed := by
  unfold left
  have h1 : (List.range ops.size).filter (fun x => !lst listed' x) = ((List.range ops.size).filter (fun x => !lst listed x)).erase i := by
    rw [List.Nodup.erase_eq_filter (List.nodup_range.sublist List.filter_sublist), List.filter_filter]
    refine List.filter_congr (fun x _ => ?_)
    rw [hset, Bool.not_or, Bool.and_comm]; rfl
  rw [h1, List.length_erase_of_mem (List.mem_filter.2 ⟨List.mem_range.2 hlt, by rw [hi]; rfl⟩)]
  have := List.length_pos_of_mem (List.mem_filter (p := fun x => !lst listed x).2 ⟨List.mem_range.2 hlt, by simp [hi]⟩)
  omega
section
variable {C : Cfg} (hC : C.Ok) {self : Self} (hs : Sound C self)
include hC hs in
include hC hs in
end
end
end Go.Eng
/-
  A region that draws its order, with some operations that change the heap, one behind the other in all orders: by the sets of what was done.
-/
namespace Go.Eng
noncomputable section
structure Big1 where
  k : Nat
  tm : T Value
  v : Value
  h1 : Hp
def bigV (C : Cfg) (self : Self) (o : Oper) (tm : T Value) (h : Hp) : Option (Value × Hp) := (opV C.P (evTm tm) o h).bind fun r => match r with
  | .val v h' => some (v, h')
  | .call fn args => (callV C self fn args h).bind fun r => match r with | .ret v h' => some (v, h') | _ => none
  | _ => none
theorem bigV_op1 {C : Cfg} {self : Self} {rd : Option Nat} {nt : Nat} {ops : Array Oper} {o : Oper} {tm tm' : T Value} {h h' : Hp} {v : Value} (df : List Deferred) (hw : wantedV ops tm o = true) (e : bigV C self o tm h = some (v, h')) (hp : putTm nt tm o.dst v = some tm') :
    op1V C self rd nt ops o { tm, df, h } = some (.code .normal { tm := tm', df, h := h' }) := by
  unfold bigV at e
  obtain ⟨r, hr, e⟩ := bind_some' e
  unfold op1V
  rw [show wantedV ops ({ tm, df, h } : S).tm o = true from hw]
  simp only [hr, Option.bind_some]
  split at e
  · cases e
    simp only [hp, Option.bind_some]
  · obtain ⟨r2, hr2, e⟩ := bind_some' e
    simp only [hr2, Option.bind_some]
    split at e
    · cases e
      simp only [hp, Option.bind_some]
    · cases e
  · cases e
theorem bigV_congr {C : Cfg} {self : Self} {o : Oper} {tm tm2 : T Value} {h : Hp} (H : ∀ x ∈ o.op.operands, evTm tm x = evTm tm2 x) : bigV C self o tm h = bigV C self o tm2 h := by
  unfold bigV
  rw [opV_congr H]
def hpB : Hp → List Big1 → Nat → Hp
  | h0, [], _ => h0
  | h0, b :: l, mask => match Nat.testBit mask b.k with | true => hpB b.h1 l mask | false => h0
def nextB : List Big1 → Nat → Nat → Option Big1
  | [], _, _ => none
  | b :: l, mask, i => match Nat.testBit mask b.k with
    | true => nextB l mask i
    | false => match Nat.beq b.k i && l.all (fun c => !(Nat.testBit mask c.k) && !(Nat.beq c.k i)) with
      | true => some b
      | false => none
def isBigK (l : List Big1) (i : Nat) : Bool := l.any fun b => Nat.beq b.k i
def BigsOk (C : Cfg) (self : Self) (ops : Array Oper) : Hp → List Big1 → Prop
  | _, [] => True
  | h0, b :: l => (∃ o, ops[b.k]? = some o ∧ bigV C self o b.tm h0 = some (b.v, b.h1)) ∧ BigsOk C self ops b.h1 l
theorem bit_or (mask i j : Nat) : Nat.testBit (mask ||| 2 ^ i) j = (Nat.testBit mask j || decide (i = j)) := by
  rw [Nat.testBit_or, Nat.testBit_two_pow]
theorem hpB_later {mask i : Nat} : ∀ (l : List Big1) (h : Hp), l.all (fun c => !(Nat.testBit mask c.k) && !(Nat.beq c.k i)) = true → hpB h l (mask ||| 2 ^ i) = h
  | [], h, _ => rfl
  | b :: l, h, ha => by
    have h1 := List.all_eq_true.1 ha b (.head _)
    simp only [Bool.and_eq_true, Bool.not_eq_true'] at h1
    have hb : Nat.testBit (mask ||| 2 ^ i) b.k = false := by
      rw [bit_or, h1.1, Bool.false_or, decide_eq_false_iff_not]
      intro e
      rw [e, Nat.beq_refl] at h1
      exact absurd h1.2 (by simp)
    unfold hpB
    rw [hb]
theorem hpB_other {mask i : Nat} : ∀ (l : List Big1) (h : Hp), isBigK l i = false → hpB h l (mask ||| 2 ^ i) = hpB h l mask
  | [], h, _ => rfl
  | b :: l, h, ha => by
    unfold isBigK at ha
    rw [List.any_cons, Bool.or_eq_false_iff] at ha
    have hb : Nat.testBit (mask ||| 2 ^ i) b.k = Nat.testBit mask b.k := by
      rw [bit_or, decide_eq_false_iff_not.2, Bool.or_false]
      intro e
      rw [e, Nat.beq_refl] at ha
      cases ha.1
    unfold hpB
    rw [hb]
    split
    · exact hpB_other l _ ha.2
    · rfl
theorem next_ok {C : Cfg} {self : Self} {ops : Array Oper} {mask i : Nat} {b : Big1} : ∀ {l : List Big1} {h : Hp}, BigsOk C self ops h l → nextB l mask i = some b →
    ∃ o, ops[i]? = some o ∧ bigV C self o b.tm (hpB h l mask) = some (b.v, b.h1) ∧ hpB h l (mask ||| 2 ^ i) = b.h1
  | [], _, _, e => by cases e
  | c :: l, h, hb, e => by
    unfold nextB at e
    split at e
    · rename_i ht
      obtain ⟨o, h1, h2, h3⟩ := next_ok hb.2 e
      refine ⟨o, h1, ?_, ?_⟩
      · unfold hpB; rw [ht]; exact h2
      · unfold hpB
        rw [show Nat.testBit (mask ||| 2 ^ i) c.k = true by rw [bit_or, ht, Bool.true_or]]
        exact h3
    · rename_i ht
      split at e
      · rename_i hc
        cases e
        obtain ⟨hk, hl⟩ := a2 hc
        have hk := nb hk
        subst hk
        obtain ⟨o, h1, h2⟩ := hb.1
        refine ⟨o, h1, ?_, ?_⟩
        · unfold hpB; rw [ht]; exact h2
        · unfold hpB
          rw [show Nat.testBit (mask ||| 2 ^ b.k) b.k = true by rw [bit_or]; simp]
          exact hpB_later l _ hl
      · cases e
def evEq (a b : Option Value) : Bool := match a, b with
  | some u, some v => vEq 6 u v
  | _, _ => false
theorem evEq_eq {a b : Option Value} (h : evEq a b = true) : a = b := by
  unfold evEq at h
  split at h
  · rw [vEq_eq _ _ _ h]
  · cases h
section
variable (C : Cfg) (self : Self) (rd : Option Nat) (nt : Nat) (ops : Array Oper) (h0 : Hp) (bs : List Big1)
def opC2 (mask : Nat) (tm : T Value) (i : Nat) : Option (T Value) := (ops[i]?).bind fun o =>
  match isBigK bs i with
  | true => (nextB bs mask i).bind fun b => ok? (wantedV ops tm o && o.op.operands.toList.all (fun x => evEq (evTm tm x) (evTm b.tm x))) (putTm nt tm o.dst b.v)
  | false => match wantedV ops tm o with
    | false => putTm nt tm o.dst undef
    | true => ok? (stillOp o.op) <| (opV C.P (evTm tm) o (hpB h0 bs mask)).bind fun r => match r with
      | .val v _ => putTm nt tm o.dst v
      | _ => none
def nextLev21 (mask : Nat) (tm : T Value) : List Nat → List (Nat × T Value) → List (Nat × T Value)
  | [], out => out
  | i :: is, out => match readyM ops mask i with
    | false => nextLev21 mask tm is out
    | true => match findM (mask ||| 2 ^ i) out with
      | some _ => nextLev21 mask tm is out
      | none => match opC2 C nt ops h0 bs mask tm i with
        | some tm' => nextLev21 mask tm is ((mask ||| 2 ^ i, tm') :: out)
        | none => nextLev21 mask tm is out
def nextLev2 : List (Nat × T Value) → List (Nat × T Value) → List (Nat × T Value)
  | [], out => out
  | (m, t) :: l, out => nextLev2 l (nextLev21 C nt ops h0 bs m t (List.range ops.size) out)
def levOk2 (lev out : List (Nat × T Value)) : Bool := lev.all fun x => (List.range ops.size).all fun i => match readyM ops x.1 i with
  | false => true
  | true => match opC2 C nt ops h0 bs x.1 x.2 i, findM (x.1 ||| 2 ^ i) out with
    | some tm', some t => sameTm nt tm' t && T.keysLow nt t
    | _, _ => false
def confGo2 : Nat → List (Nat × T Value) → Option (Nat × T Value)
  | 0, lev => match lev with | [x] => some x | _ => none
  | n + 1, lev => let out := nextLev2 C nt ops h0 bs lev []
    ok? (levOk2 C nt ops h0 bs lev out) (confGo2 n out)
def bigsV : List Oper → Nat → S → Option (List Big1)
  | [], _, _ => some []
  | o :: l, i, s => match wantedV ops s.tm o && !(stillOp o.op) with
    | true => (bigV C self o s.tm s.h).bind fun x => (putTm nt s.tm o.dst x.1).bind fun tm => (bigsV l (i + 1) { s with tm, h := x.2 }).bind fun r => some (⟨i, s.tm, x.1, x.2⟩ :: r)
    | false => (op1V C self rd nt ops o s).bind fun r => match r with
      | .code .normal s1 => bigsV l (i + 1) { s with tm := s1.tm }
      | _ => none
def confV2 (s : S) : Option R :=
  (bigsV C self rd nt ops ops.toList 0 s).bind fun bs => (confGo2 C nt ops s.h bs ops.size [(0, s.tm)]).bind fun x => some (.code .normal { s with tm := x.2, h := hpB s.h bs x.1 })
end
theorem bigsV_ok {C : Cfg} {self : Self} {rd : Option Nat} {nt : Nat} {ops : Array Oper} : ∀ (l : List Oper) (i : Nat) (s : S) (bs : List Big1), (∀ j o, l[j]? = some o → ops[i + j]? = some o) → bigsV C self rd nt ops l i s = some bs → BigsOk C self ops s.h bs
  | [], i, s, bs, _, e => by cases e; trivial
  | o :: l, i, s, bs, hl, e => by
    unfold bigsV at e
    have hl' : ∀ j o, l[j]? = some o → ops[i + 1 + j]? = some o := fun j o' h => by
      have := hl (j + 1) o' (by simpa using h)
      rwa [show i + (j + 1) = i + 1 + j by omega] at this
    split at e
    · obtain ⟨x, hx, e⟩ := bind_some' e
      obtain ⟨tm, _, e⟩ := bind_some' e
      obtain ⟨r, hr, e⟩ := bind_some' e
      cases e
      exact ⟨⟨o, hl 0 o rfl, hx⟩, bigsV_ok l (i + 1) _ r hl' hr⟩
    · obtain ⟨r, _, e⟩ := bind_some' e
      split at e
      · have := bigsV_ok l (i + 1) _ bs hl' e
        exact this
      · cases e
theorem levOk2_get {C : Cfg} {nt : Nat} {ops : Array Oper} {h0 : Hp} {bs : List Big1} {lev out : List (Nat × T Value)} (h : levOk2 C nt ops h0 bs lev out = true) {m : Nat} {t : T Value} (hm : (m, t) ∈ lev) {i : Nat} (hi : i < ops.size) (hr : readyM ops m i = true) :
    ∃ tm' t', opC2 C nt ops h0 bs m t i = some tm' ∧ (m ||| 2 ^ i, t') ∈ out ∧ sameTm nt tm' t' = true ∧ T.keysLow nt t' = true := by
  have := List.all_eq_true.1 (List.all_eq_true.1 h _ hm) i (List.mem_range.2 hi)
  rw [hr] at this
  simp only at this
  split at this
  · rename_i tm' t' h1 h2
    obtain ⟨g1, g2⟩ := a2 this
    exact ⟨tm', t', h1, findM_mem h2, g1, g2⟩
  · cases this
section
variable {C : Cfg} (hC : C.Ok) {self : Self} (hs : Sound C self)
theorem opC2_op1 {rd : Option Nat} {nt : Nat} {ops : Array Oper} {h0 : Hp} {bs : List Big1} (hst : BigsOk C self ops h0 bs) {mask : Nat} {tm tm' : T Value} {i : Nat} {o : Oper} (ho : ops[i]? = some o) (e : opC2 C nt ops h0 bs mask tm i = some tm') (df : List Deferred) :
    op1V C self rd nt ops o { tm, df, h := hpB h0 bs mask } = some (.code .normal { tm := tm', df, h := hpB h0 bs (mask ||| 2 ^ i) }) := by
  unfold opC2 at e
  rw [ho] at e
  simp only [Option.bind_some] at e
  split at e
  · obtain ⟨b, hb, e⟩ := bind_some' e
    obtain ⟨e1, e⟩ := ok?_some e
    obtain ⟨c1, c2⟩ := a2 e1
    obtain ⟨o', h1, h2, h3⟩ := next_ok hst hb
    rw [ho] at h1
    cases h1
    rw [h3]
    refine bigV_op1 df c1 ?_ e
    rw [bigV_congr (tm2 := b.tm) (fun x hx => evEq_eq (List.all_eq_true.1 c2 x (by simpa using hx)))]
    exact h2
  · rename_i hx
    rw [hpB_other _ _ hx]
    split at e
    · rename_i hw
      unfold op1V
      rw [show wantedV ops ({ tm, df, h := hpB h0 bs mask } : S).tm o = false from hw]
      simp only [e, Option.bind_some]
    · rename_i hw
      obtain ⟨c1, e⟩ := ok?_some e
      obtain ⟨r, hr, e⟩ := bind_some' e
      split at e
      · rename_i v h'
        have := calm_heap c1 hr
        subst this
        unfold op1V
        rw [show wantedV ops ({ tm, df, h := hpB h0 bs mask } : S).tm o = true from hw]
        simp only [hr, Option.bind_some, e]
      · cases e
include hC hs in
theorem conf2_any {rd rr : Option Nat} {nt m : Nat} {ops : Array Oper} {h0 : Hp} {bs : List Big1} {s : S} {fin : Nat × T Value} (hedge : edgesB ops = true) (hst : BigsOk C self ops h0 bs) {base : Nat} {ρ0 : Ren} {w0 : World} (H0 : HRel base ρ0 s.h w0) (hr : RdRel ρ0 rd rr) :
    ∀ (fuel : Nat) (lev : List (Nat × T Value)) (listed : Array Bool) (mask : Nat) (tm : T Value) (ρ : Ren) (a : Act) (w : World), confGo2 C nt ops h0 bs fuel lev = some fin → (mask, tm) ∈ lev → listed.size = ops.size → (∀ i, i < ops.size → lst listed i = Nat.testBit mask i) → left ops listed = fuel →
      Step base ρ0 s.h w0 ρ (hpB h0 bs mask) w → TmRel ρ nt tm a.tmps → DfRel ρ s.df a.defers →
      wpAnyIn (fenceOf rr) m C.P.P .any ops (QCode base ρ0 nt s w0 .normal { s with tm := fin.2, h := hpB h0 bs fin.1 }) fuel listed a w := by
  intro fuel
  induction fuel with
  | zero =>
    intro lev listed mask tm ρ a w hgo hm hsz hl hf stp ht hd
    have hL : ∀ i, i < ops.size → lst listed i = true := by
      intro i hi
      cases hh : lst listed i with
      | true => rfl
      | false =>
        have : i ∈ (List.range ops.size).filter fun i => !lst listed i := List.mem_filter.2 ⟨by simpa using hi, by rw [hh]; rfl⟩
        have := List.length_pos_of_mem this
        unfold left at hf
        omega
    have hready : Region.ready .any ops listed = [] := by
      rw [List.eq_nil_iff_forall_not_mem]
      intro i hi
      obtain ⟨o, ho, h1, _⟩ := (ready_iff hsz).1 hi
      rw [hL i (Array.getElem?_eq_some_iff.1 ho).1] at h1; cases h1
    unfold confGo2 at hgo
    split at hgo
    · cases hgo
      simp only [List.mem_singleton] at hm
      subst hm
      exact ⟨hready, ρ, trivial, stp, ht, hd⟩
    · cases hgo
  | succ fuel ih =>
    intro lev listed mask tm ρ a w hgo hm hsz hl hf stp ht hd
    unfold confGo2 at hgo
    obtain ⟨hlev, hgo⟩ := ok?_some hgo
    refine ⟨fun hready => ?_, fun i hi => ?_⟩
    · exfalso
      have hL := ready_nil hedge hsz hready
      have : left ops listed = 0 := by
        unfold left
        rw [List.length_eq_zero_iff, List.filter_eq_nil_iff]
        intro x hx h
        rw [hL x (by simpa using hx)] at h; cases h
      omega
    · obtain ⟨o, ho, hLi, hre⟩ := (ready_iff hsz).1 hi
      have hio : i < ops.size := (Array.getElem?_eq_some_iff.1 ho).1
      have hmi : Nat.testBit mask i = false := by rw [← hl i hio]; exact hLi
      have hrd : readyM ops mask i = true := by
        unfold readyM
        rw [ho]
        simp only [hmi, Bool.not_false, Bool.true_and, List.all_eq_true, Bool.or_eq_true, Bool.not_eq_true']
        intro e he
        cases hb : Region.binds .any e with
        | false => exact .inl rfl
        | true =>
          have := hre e (by simpa using he) hb
          refine .inr ?_
          have hlt : e.on < ops.size := by
            apply Classical.byContradiction
            intro hge
            have : lst listed e.on = false := by
              unfold lst
              rw [Array.getD_eq_getD_getElem?, Array.getElem?_eq_none (by omega)]; rfl
            have h9 := hre e (by simpa using he) hb
            rw [this] at h9; cases h9
          rw [← hl _ hlt]; exact this
      obtain ⟨tm', t', h1, h2, h3, h4⟩ := levOk2_get hlev hm hio hrd
      have hset : ∀ j, lst (listed.setIfInBounds i true) j = (lst listed j || j == i) := fun j => lst_set (by omega)
      have hop := opC2_op1 (self := self) (rd := rd) hst ho h1 s.df
      refine op1_sound hC hs ho hop stp.rel ht hd (hr.mono stp.ext) ?_ (fun v v' ρ' a' w' hv => by cases hv)
      intro _ ρ' a' w' hst' ht' hd'
      refine ih _ _ (mask ||| 2 ^ i) t' ρ' a' w' hgo h2 (by rw [Array.size_setIfInBounds]; exact hsz) ?_ ?_ (stp.trans H0 hst') (sameTm_rel h3 h4 ht') hd'
      · intro j hj
        rw [hset, Nat.testBit_or, hl j hj]
        by_cases e : j = i
        · subst e; rw [Nat.testBit_two_pow_self]; simp
        · rw [Nat.testBit_two_pow_of_ne (Ne.symm e)]; simp [e]
      · have := left_set (ops := ops) hset hLi hio
        omega
include hC hs in
theorem confV2_sound {rd : Option Nat} {nt id : Nat} {ops : Array Oper} {s : S} {r : R} (he : (ok? (edgesB ops) (confV2 C self rd nt ops s)) = some r) : ∃ s', r = .code .normal s' ∧ ∀ base ρ w a rr m, HRel base ρ s.h w → TmRel ρ nt s.tm a.tmps → DfRel ρ s.df a.defers → RdRel ρ rd rr →
    (Code.region id ops true).wpIn (fenceOf rr) m C.P.P (QCode base ρ nt s w .normal s') a w := by
  obtain ⟨hedge, he⟩ := ok?_some he
  unfold confV2 at he
  obtain ⟨bs, hst, he⟩ := bind_some' he
  obtain ⟨fin, hgo, he⟩ := bind_some' he
  cases he
  refine ⟨_, rfl, fun base ρ w a rr m H ht hd hr => wpIn_mono (wpIn_region_any (Q := QCode base ρ nt s { w with drawn := w.drawn + 1 } .normal { s with tm := fin.2, h := hpB s.h bs fin.1 }) hC.mixed ?_) (fun ex a w h => h.after H (Step.draw H _))⟩
  have H0 : HRel base ρ s.h { w with drawn := w.drawn + 1 } := H.heap_eq rfl
  have hl0 : ∀ i, lst (Array.replicate ops.size false) i = false := by
    intro i
    unfold lst
    rw [Array.getD_eq_getD_getElem?, Array.getElem?_replicate]
    split <;> rfl
  have hok : BigsOk C self ops s.h bs := bigsV_ok ops.toList 0 s bs (fun j o h => by rw [Nat.zero_add]; simpa using h) hst
  have hm0 : ∀ l, hpB s.h l 0 = s.h := by
    intro l
    cases l with
    | nil => rfl
    | cons b l => unfold hpB; rw [Nat.zero_testBit]
  refine conf2_any hC hs hedge hok H0 hr ops.size _ (Array.replicate ops.size false) 0 s.tm ρ a _ hgo (.head _) (by simp) (fun i _ => by rw [hl0, Nat.zero_testBit]) ?_ (by rw [hm0]; exact Step.refl H0) ht hd
  unfold left
  rw [show (List.range ops.size).filter (fun i => !lst (Array.replicate ops.size false) i) = List.range ops.size from List.filter_eq_self.2 (fun i _ => by rw [hl0]; rfl)]
  simp
end
end
end Go.Eng
/-
  The evaluator that goes through all orders, with tables for loops over maps and the rule for drawn regions; its answers kept.
-/
namespace Go.Eng
noncomputable section
def objEq (a b : AObj) : Bool := match a with
  | .cells c t s => (match b with | .cells d u r => listEq (vEq 6) c d && (Nat.beq t u && optNatEq s r) | _ => false)
  | .map es => (match b with | .map es' => listEq (fun x y => vEq 6 x.1 y.1 && vEq 6 x.2 y.2) es es' | _ => false)
  | .defs x => (match b with | .defs y => boolEq x y | _ => false)
  | _ => false
theorem objEq_eq (a b : AObj) (e : objEq a b = true) : a = b := by
  unfold objEq at e
  split at e
  · split at e
    · obtain ⟨e1, e⟩ := a2 e
      obtain ⟨e2, e3⟩ := a2 e
      rw [listEq_eq (vEq_eq 6) e1, nb e2, optNatEq_eq e3]
    · cases e
  · split at e
    · rw [listEq_eq (fun x y h => Prod.ext (vEq_eq 6 _ _ (a2 h).1) (vEq_eq 6 _ _ (a2 h).2)) e]
    · cases e
  · split at e
    · rw [boolEq_eq _ _ e]
    · cases e
  · cases e
def hasAllV (hs : List (Nat × AObj)) (h : Hp) : Bool := List.rec true (fun x _ ih => match h.get x.1 with | some o => ifB (objEq x.2 o) ih false | none => false) hs
theorem hasAllV_eq {h : Hp} : ∀ {hs : List (Nat × AObj)}, hasAllV hs h = true → ∀ i o, (i, o) ∈ hs → h.get i = some o
  | [], _, i, o, hm => by cases hm
  | (j, u) :: hs, e, i, o, hm => by
    have e' : (match h.get j with | some o => ifB (objEq u o) (hasAllV hs h) false | none => false) = true := e
    split at e'
    · rename_i p hp
      rw [ifB_if'] at e'
      obtain ⟨e1, e2⟩ := a2 e'
      rcases List.mem_cons.1 hm with h | h
      · cases h; rw [hp, objEq_eq _ _ e1]
      · exact hasAllV_eq e2 i o h
    · cases e'
def CallOk (P : Program) (f : FuncId) (args0 : List Value) (N : Nat) (hs : List (Nat × AObj)) (Q : Value → Hp → Prop) : Prop := Enters P f ∧ ∀ base ρ w args' m, HRel base ρ (hpAt N hs) w → LRel ρ args0 args'.toList →
  CallsIn Fence.wide m P f args' w (fun en w' => ∃ v h, Q v h ∧ QCall base ρ (hpAt N hs) w (.ret v h) en w')
def isRet (v : Value) (N' : Nat) (news : List (Nat × AObj)) (r : R) : Bool := match r with
  | .ret u h => vEq 6 u v && (Nat.ble h.next N' && hasAllV news h)
  | _ => false
def QRet (v : Value) (N' : Nat) (news : List (Nat × AObj)) (u : Value) (h : Hp) : Prop := u = v ∧ h.next ≤ N' ∧ ∀ i o, (i, o) ∈ news → h.get i = some o
theorem isRet_ok {v : Value} {N' : Nat} {news : List (Nat × AObj)} {r : R} (e : isRet v N' news r = true) : ∃ h, r = .ret v h ∧ QRet v N' news v h := by
  unfold isRet at e
  split at e
  · rename_i u h
    obtain ⟨e1, e⟩ := a2 e
    obtain ⟨e2, e3⟩ := a2 e
    have := vEq_eq 6 _ _ e1
    subst this
    exact ⟨h, rfl, rfl, Nat.le_of_ble_eq_true e2, hasAllV_eq e3⟩
  · cases e
def retR (x : Option R) (v : Value) (N' : Nat) (news : List (Nat × AObj)) : Bool := match x with | some r => isRet v N' news r | none => false
theorem callOk_run {C : Cfg} {self : Self} (hs' : Sound C self) {f : FuncId} {N N' : Nat} {args0 : List Value} {hs news : List (Nat × AObj)} {v : Value} (e : retR (self (.call f args0.toArray (hpAt N hs))) v N' news = true) : CallOk C.P.P f args0 N hs (QRet v N' news) := by
  unfold retR at e
  split at e
  · rename_i r hr
    obtain ⟨h, rfl, hq⟩ := isRet_ok e
    obtain ⟨g1, g2⟩ := hs'.call f args0.toArray _ _ hr
    exact ⟨g1, fun base ρ w args' m H hl => (g2 base ρ w args' m H (by simpa using hl)).mono fun en w' q => ⟨v, h, hq, q⟩⟩
  · cases e
def orcL (f : FuncId) (args0 : List Value) (hs : List (Nat × AObj)) (N : Nat) (v : Value) (news : List (Nat × AObj)) (N' : Nat) (orc : FuncId → Array Value → Hp → Option (Value × Hp)) : FuncId → Array Value → Hp → Option (Value × Hp) :=
  fun g args h => cond (Nat.beq f g) (ifB (listEq (vEq 6) args0 args.toList) (ifB (Nat.beq h.next N) (ifB (hasAllV hs h) (some (v, ⟨N', h.ro, addAll news h.objs⟩)) none) none) none) none |> fun r => match r with | some x => some x | none => orc g args h
theorem orcL_ok {C : Cfg} (hC : C.Ok) {f : FuncId} {N N' : Nat} {args0 : List Value} {hs news : List (Nat × AObj)} {v : Value} (hlow : hs.all (fun x => Nat.blt x.1 N) = true) (hnew : news.all (fun x => Nat.ble N x.1) = true) (hNN : Nat.ble N N' = true)
    (e : CallOk C.P.P f args0 N hs (QRet v N' news)) : Cfg.Ok { C with orc := orcL f args0 hs N v news N' C.orc } := by
  refine ⟨hC.env, hC.fn, ?_, hC.mixed⟩
  intro g args h u h' eo
  simp only [orcL] at eo
  split at eo
  case h_2 => exact hC.orc g args h u h' eo
  rename_i x hx
  cases eo
  cases hb : Nat.beq f g with
  | false => rw [hb] at hx; cases hx
  | true =>
  rw [hb] at hx
  obtain rfl := Nat.eq_of_beq_eq_true hb
  simp only [cond_true] at hx
  obtain ⟨k1, hx1⟩ := ifB_some hx
  obtain ⟨k2, hx2⟩ := ifB_some hx1
  obtain ⟨k3, hx3⟩ := ifB_some hx2
  cases hx3
  have hargs := listEq_eq (vEq_eq 6) k1
  have hN := Nat.eq_of_beq_eq_true k2
  obtain ⟨g1, g2⟩ := e
  refine ⟨g1, fun base ρ w args' m H hl => ?_⟩
  have low : ∀ i o, (i, o) ∈ hs → i < N := by
    intro i o hm
    have := (List.all_eq_true.1 hlow) _ hm
    rw [Nat.blt_eq] at this; exact this
  have HR : HRel N ρ (hpAt N hs) w := by
    refine ⟨?_, ?_, ?_, Nat.le_refl _, Nat.le_refl _⟩
    · intro i o hi
      have hm := hpAt_mem hi
      obtain ⟨im, O, r1, r2, r3⟩ := H.obj i _ (hasAllV_eq k3 i _ hm)
      have hi' := low i o hm
      exact ⟨im, O, r1, r2, r3.mono (Ext.refl ρ) (fun hb => by omega)⟩
    · intro i j im jm o p hi _ _ _ _ hb
      have := low i o (hpAt_mem hi)
      omega
    · intro i im hi
      have := H.dom i im hi
      exact ⟨by show i < N; omega, this.2⟩
  have hl' : LRel ρ args0 args'.toList := by
    rw [← hargs] at hl; simpa using hl
  refine (g2 N ρ w args' m HR hl').mono ?_
  rintro en w' ⟨v1, hf, ⟨rfl, hnx, hall⟩, v', ρ', rfl, st, hvr⟩
  have noWr : ∀ b, ¬ Wr ρ (hpAt N hs) b := by
    rintro b ⟨i, o, im, hi, hro, _⟩
    have := low i o (hpAt_mem hi)
    have hro' : N ≤ i := hro
    omega
  have hNN : N ≤ N' := Nat.le_of_ble_eq_true hNN
  have roN : h.ro ≤ N := by have := H.roNext; omega
  have getCase : ∀ i o, (addAll news h.objs).get i = some o → (N ≤ i ∧ hf.get i = some o) ∨ (i < N ∧ h.get i = some o) := by
    intro i o hi
    by_cases hiN : i < N
    · rw [addAll_low news h.objs i hnew hiN] at hi
      exact .inr ⟨hiN, hi⟩
    · rcases addAll_mem news h.objs i o hi with hm | hm
      · exact .inl ⟨by omega, hall i o hm⟩
      · have := H.lt (i := i) (o := o) hm
        omega
  have oldρ : ∀ i im, N ≤ i → ρ i = some im → False := by
    intro i im hi hr
    have := (H.dom i im hr).1
    omega
  have rel : HRel base ρ' ⟨N', h.ro, addAll news h.objs⟩ w' := by
    refine ⟨?_, ?_, ?_, H.baseRo, by show h.ro ≤ N'; omega⟩
    · intro i o hi
      rcases getCase i o hi with ⟨h1, h2⟩ | ⟨h1, h2⟩
      · obtain ⟨im, O, r1, r2, r3⟩ := st.rel.obj i o h2
        exact ⟨im, O, r1, r2, r3.mono (Ext.refl ρ') (fun _ => h1)⟩
      · obtain ⟨im, O, r1, r2, r3⟩ := H.obj i o h2
        exact ⟨im, O, st.ext _ _ r1, st.keep _ _ r2 (noWr _), r3.mono st.ext (fun hb => hb)⟩
    · intro i j im jm o p hi hj ri rj hij hb
      rcases getCase i o hi with ⟨a1, a2⟩ | ⟨a1, a2⟩
      · rcases getCase j p hj with ⟨b1, b2⟩ | ⟨b1, b2⟩
        · exact st.rel.inj i j im jm o p a2 b2 ri rj hij a1
        · have hjm : jm.blk < w.heap.size := by
            obtain ⟨im2, O, r1, r2, r3⟩ := H.obj j p b2
            have := st.ext _ _ r1
            rw [rj] at this; cases this
            exact (H.dom _ _ r1).2
          rcases st.news i im ri with h1 | ⟨_, h1 | h1⟩
          · exact (oldρ i im a1 h1).elim
          · omega
          · exact (noWr _ h1).elim
      · rcases getCase j p hj with ⟨b1, b2⟩ | ⟨b1, b2⟩
        · have him : im.blk < w.heap.size := by
            obtain ⟨im2, O, r1, r2, r3⟩ := H.obj i o a2
            have := st.ext _ _ r1
            rw [ri] at this; cases this
            exact (H.dom _ _ r1).2
          rcases st.news j jm rj with h1 | ⟨_, h1 | h1⟩
          · exact (oldρ j jm b1 h1).elim
          · omega
          · exact (noWr _ h1).elim
        · obtain ⟨im2, O, r1, r2, r3⟩ := H.obj i o a2
          obtain ⟨jm2, O2, s1, s2, s3⟩ := H.obj j p b2
          have t1 := st.ext _ _ r1
          rw [ri] at t1; cases t1
          have t2 := st.ext _ _ s1
          rw [rj] at t2; cases t2
          exact H.inj i j im jm o p a2 b2 r1 s1 hij hb
    · intro i im hi
      have := st.rel.dom i im hi
      exact ⟨by show i < N'; omega, this.2⟩
  refine ⟨v', ρ', rfl, ?_, hvr⟩
  refine ⟨st.ext, rel, fun b o hb _ => st.keep b o hb (noWr _), ?_, ?_, st.size, rfl, by show h.next ≤ N'; omega, st.os, st.tape, st.output⟩
  · intro i im hi
    rcases st.news i im hi with h1 | ⟨h1, h2 | h2⟩
    · exact .inl h1
    · have h1' : N ≤ i := h1
      exact .inr ⟨by omega, .inl h2⟩
    · exact (noWr _ h2).elim
  · intro i o hi hg
    rcases getCase i o hg with ⟨h1, h2⟩ | ⟨h1, h2⟩
    · omega
    · exact ⟨o, h2⟩
def memoL (args0 : List Value) (hs : List (Nat × AObj)) (v : Value) : List Value → Hp → Option Value := fun args h =>
  ifB (listEq (vEq 6) args0 args) (ifB (hasAllV hs h) (some v) none) none
def lowV (N : Nat) (v : Value) : Bool := simV N [] 6 v v
def lowO (N : Nat) (x : Nat × AObj) : Bool := Nat.blt x.1 N && simO N [] x.2 x.2
theorem memoL_sound {P : Program} {f : FuncId} {N N' : Nat} {args0 : List Value} {hs news : List (Nat × AObj)} {v : Value} (hp : plain v = true) (ha : args0.all (lowV N) = true) (ho : hs.all (lowO N) = true)
    (e : CallOk P f args0 N hs (QRet v N' news)) : PSound P f (memoL args0 hs v) := by
  obtain ⟨g1, g2⟩ := e
  intro args h u hu
  unfold memoL at hu
  obtain ⟨k1, hu⟩ := ifB_some hu
  obtain ⟨k2, hu⟩ := ifB_some hu
  cases hu
  have hargs := listEq_eq (vEq_eq 6) k1
  subst hargs
  refine ⟨hp, g1, fun base ρ h2 w args' m H hsub hl => ?_⟩
  have low : ∀ i o, (i, o) ∈ hs → i < N ∧ simO N [] o o = true := by
    intro i o hm
    have := List.all_eq_true.1 ho _ hm
    obtain ⟨q1, q2⟩ := a2 this
    rw [Nat.blt_eq] at q1
    exact ⟨q1, q2⟩
  have HR : HRel N (renP ρ N []) (hpAt N hs) w := by
    refine ⟨?_, ?_, ?_, Nat.le_refl _, Nat.le_refl _⟩
    · intro i o hi
      have hm := hpAt_mem hi
      obtain ⟨hin, hc⟩ := low i o hm
      obtain ⟨im, O, r1, r2, r3⟩ := H.obj i _ (hsub i _ (hasAllV_eq k2 i _ hm))
      refine ⟨im, O, ?_, r2, simO_rel (fun hb => by omega) hc r3⟩
      unfold renP
      rw [if_pos hin]; exact r1
    · intro i j im jm o p hi _ _ _ _ hb
      have := (low i o (hpAt_mem hi)).1
      omega
    · intro i im hi
      unfold renP at hi
      split at hi
      · exact ⟨‹_›, (H.dom i im hi).2⟩
      · simp at hi
  have hl' : LRel (renP ρ N []) args0 args'.toList := ⟨hl.1, fun i x x' hx hx' => simV_rel 6 (List.all_eq_true.1 ha x (List.mem_of_getElem? hx)) (hl.2 i x x' hx hx')⟩
  refine (g2 N _ w args' m HR hl').mono ?_
  rintro en w' ⟨v1, h1, ⟨rfl, _, _⟩, v', ρ', rfl, hst, hvr⟩
  obtain rfl := plain_rel hvr hp
  refine ⟨rfl, fun b o hb => hst.keep b o hb ?_, hst.size, hst.os, hst.tape, hst.output⟩
  rintro ⟨i, o, im, hi, hro, _⟩
  have := (low i o (hpAt_mem hi)).1
  have hro' : N ≤ i := hro
  omega
end
end Go.Eng
/-
  As EngMemoL, drawn regions by EngConf2's rule.
-/
namespace Go.Eng
noncomputable section
end
end Go.Eng
/-
  Several kept answers of one function: the older ones are asked where the newer one has none.
-/
namespace Go.Eng
noncomputable def orcM (f : FuncId) (F : List Value → Hp → Option Value) (orc : FuncId → Array Value → Hp → Option (Value × Hp)) : FuncId → Array Value → Hp → Option (Value × Hp) :=
  fun g args h => cond (Nat.beq f g) (Option.rec (motive := fun _ => Option (Value × Hp)) (orc g args h) (fun v => some (v, h)) (F args.toList h)) (orc g args h)
theorem orcM_ok {C : Cfg} (hC : C.Ok) {f : FuncId} {F : List Value → Hp → Option Value} (hF : PSound C.P.P f F) : Cfg.Ok { C with orc := orcM f F C.orc } := by
  have hP := orcP_ok hC hF
  refine ⟨hC.env, hC.fn, ?_, hC.mixed⟩
  intro g args h v h' e
  simp only [orcM] at e
  cases hb : Nat.beq f g with
  | false => rw [hb] at e; exact hC.orc g args h v h' e
  | true =>
    rw [hb] at e
    simp only [cond_true] at e
    cases hf : F args.toList h with
    | none => rw [hf] at e; exact hC.orc g args h v h' e
    | some u =>
      rw [hf] at e
      refine hP.orc g args h v h' ?_
      show orcP f F C.orc g args h = some (v, h')
      unfold orcP
      rw [hb]
      simp only [cond_true, hf]
      exact e
end Go.Eng
/-
  A loop over a map by its table, the table's rows shown true piece by piece.
-/
namespace Go.Eng
noncomputable section
structure TCtx where
  id : Nat
  ops : Array Oper
  b2 : Code
  o0 : Oper
  it : Operand
  n : Nat
  low : List (Nat × AObj)
  sts : List S
section
variable (C : Cfg) (self : Self) (rd : Option Nat) (nt : Nat) (tab : LTab) (c : Code) (s : S)
end
end
end Go.Eng
/-
  The evaluator with a second rule for regions that draw their order: by the sets of what was done.
-/
namespace Go.Eng
noncomputable section
def stepV2 (C : Cfg) (self : Self) (j : Job) : Option R := match stepV C self j with
  | some r => some r
  | none => match j with
    | .code (.region _ ops true) rd nt s => ok? (edgesB ops) (confV2 C self rd nt ops s)
    | _ => none
def run2 (C : Cfg) : Nat → Self := fun n => Nat.rec (fun _ => none) (fun _ self => stepV2 C self) n
end
theorem step_sound {C : Cfg} (hC : C.Ok) {self : Self} (hs : Sound C self) : Sound C (stepV C self) :=
  ⟨(fun c rd nt s r e => codeV_sound hC hs (drawV_sound hC hs) (rangeV_sound hC hs) c rd nt s r e), (fun _ _ _ _ e => call_sound hC hs e), (fun _ _ _ _ _ e => dcall_sound (self := self) hC e)⟩
theorem step2_sound {C : Cfg} (hC : C.Ok) {self : Self} (hs : Sound C self) : Sound C (stepV2 C self) := by
  have h1 := step_sound hC hs
  refine ⟨fun c rd nt s r e => ?_, fun f args h r e => ?_, fun f args u h r e => ?_⟩
  · unfold stepV2 at e
    split at e
    · rename_i r' h; cases e; exact h1.code _ _ _ _ _ h
    · split at e
      · rename_i id ops rd' nt' s' hj
        cases hj
        obtain ⟨s', rfl, k⟩ := confV2_sound (id := id) hC hs e
        exact ⟨_, _, rfl, k⟩
      · cases e
  · unfold stepV2 at e
    split at e
    · rename_i r' h; cases e; exact h1.call _ _ _ _ h
    · cases e
  · unfold stepV2 at e
    split at e
    · rename_i r' h; cases e; exact h1.dcall _ _ _ _ _ h
    · cases e
theorem eval2_sound {C : Cfg} (hC : C.Ok) : ∀ n, Sound C (run2 C n)
  | 0 => ⟨(fun _ _ _ _ _ e => (by cases e)), (fun _ _ _ _ e => (by cases e)), (fun _ _ _ _ _ e => (by cases e))⟩
  | n + 1 => step2_sound hC (eval2_sound hC n)
theorem const_sound2 {C : Cfg} {self : Self} (hs : Sound C self) {f : FuncId} {v : Value} {h2 : Hp} (hv : plain v = true) (e : self (.call f #[] h00) = some (.ret v h2)) : PSound C.P.P f (constF v) := by
  intro args h u hu
  unfold constF at hu
  split at hu
  · cases hu
    obtain ⟨g1, g2⟩ := hs.call f #[] h00 _ e
    refine ⟨hv, g1, fun base ρ hh w args' m H hs hl => ?_⟩
    refine (g2 0 (fun _ => none) w args' m (hrel0 w) ?_).mono ?_
    · exact ⟨hl.1, fun i x x' hx => (by cases hx)⟩
    · rintro en w' ⟨v', ρ', rfl, hst, hvr⟩
      obtain rfl := plain_rel hvr hv
      refine ⟨rfl, fun b o hb => hst.keep b o hb ?_, hst.size, hst.os, hst.tape, hst.output⟩
      rintro ⟨i, o, im, hi, _⟩
      rw [show h00.get i = none from T.get_nil i] at hi; cases hi
  · cases hu
theorem bool_sound2 {C : Cfg} {self : Self} (hs : Sound C self) {f : FuncId} {b : Bool} (e : isV (self (.call f #[] h00)) b = true) : PSound C.P.P f (constF (.bool b)) := by
  obtain ⟨h, e⟩ := isV_ret e
  exact const_sound2 hs rfl e
end Go.Eng
/-
  Long loops cut at their heads: what a loop answers from a told state is kept; the evaluator takes it there.
-/
namespace Go.Eng
noncomputable section
abbrev iV (n : Nat) : Value := .int .i64 (.ofNat n)
abbrev sV (b o n c : Nat) : Value := .slice (some ⟨b, o, none⟩) n c
abbrev gV (l : List Value) : Value := .agg ⟨l⟩
end
end Go.Eng
