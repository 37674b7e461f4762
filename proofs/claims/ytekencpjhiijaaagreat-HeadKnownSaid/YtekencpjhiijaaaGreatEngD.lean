/-
  An evaluator of the code, proved sound.
-/
import Derived.Test.YtekencpjhiijaaaGreatEngC
set_option linter.unusedVariables false
/-
  Ranges over maps of which nobody knows the order: all orders are gone through; what comes of a run is one of the answers.
-/
namespace Go.Eng
noncomputable section
abbrev SelfN := Job → Option (List R)
def flatM : List R → (R → Option (List R)) → Option (List R)
  | [], _ => some []
  | r :: l, k => (k r).bind fun a => (flatM l k).bind fun b => some (a ++ b)
def thenN (rs : List R) (k : S → Option (List R)) : Option (List R) := flatM rs fun r => match r with
  | .code .normal s => k s
  | .code e s => some [.code e s]
  | _ => none
def blockN (id : Nat) (r : R) : Option (List R) := match r with
  | .code (.exit i) s => match Nat.beq i id with | true => some [.code .normal s] | false => some [.code (.exit i) s]
  | .code e s => some [.code e s]
  | _ => none
def oneN (x : Option R) : Option (List R) := x.bind fun r => some [r]
def allN : List Nat → (Nat → Option R) → Option (List R)
  | [], _ => some []
  | k :: l, f => (f k).bind fun r => (allN l f).bind fun rs => some (r :: rs)
section
variable (C : Cfg) (self : Self) (nd : FuncId → Bool) (sn : SelfN)
def branchN (nt : Nat) (o : Oper) (s : S) (it : Operand) : Option (List R) :=
  (evTm s.tm it).bind fun v => (addrOf v).bind fun a => ok? (Nat.beq a.off 0) <|
  match s.h.get a.block with
  | some (.miter (some r) n seen) => match s.h.get r with
    | some (.map es) => ok? (Nat.beq es.length n) <| match leftM n seen with
      | [] => none
      | l => allN l fun k => (stepM s.h a.block r n seen es k).bind fun x => (putTm nt s.tm o.dst x.1).bind fun tm => some (.code .normal { s with tm, h := x.2 })
    | _ => none
  | _ => none
def op1N (rd : Option Nat) (nt : Nat) (ops : Array Oper) (o : Oper) (s : S) : Option (List R) :=
  match wantedV ops s.tm o with
  | false => oneN (op1V C self rd nt ops o s)
  | true => match o.op with
    | .next it false => match op1V C self rd nt ops o s with
      | some r => some [r]
      | none => branchN nt o s it
    | .call _ => match opV C.P (evTm s.tm) o s.h with
      | some (.call (.func g) args) => match nd g with
        | true => (sn (.call g args s.h)).bind fun rs => flatM rs fun r => match r with
          | .ret v h => (putTm nt s.tm o.dst v).bind fun tm => some [.code .normal { s with tm, h }]
          | .pan v h => some [.code (.panic v) { s with h }]
          | _ => none
        | false => oneN (op1V C self rd nt ops o s)
      | _ => oneN (op1V C self rd nt ops o s)
    | _ => oneN (op1V C self rd nt ops o s)
def opsN (rd : Option Nat) (nt : Nat) (ops : Array Oper) : List Oper → S → Option (List R)
  | [], s => some [.code .normal s]
  | o :: rest, s => (op1N C self nd sn rd nt ops o s).bind fun rs => thenN rs (opsN rd nt ops rest)
def rangeEnd (s : S) (h1 : Hp) (mark : List Deferred) (r : R) : Option (List R) :=
  match r with
  | .ret _ h3 => match h3.get h1.next with
    | some (.loop st pend tm0 nt0 params0 assign0 body0 d0) =>
      ok? (notBusy st && Nat.ble h3.ro h1.next) <|
      (match pend with
        | none => some Ex.normal
        | some .ret => some Ex.ret
        | some (.exit id) => some (Ex.exit id)
        | _ => none).bind fun e => some [.code e { tm := s.tm, df := mark ++ s.df, h := h3.upd h1.next (.loop .exhausted pend tm0 nt0 params0 assign0 body0 d0) }]
    | _ => none
  | _ => none
def argsN (first captured : Array Value) (l : Nat) : Array Value := first ++ #[Value.func (.yield l) #[] #[]] ++ captured
def rangeN (f : Operand) (params : Array Tmp) (assign body : Code) (rd : Option Nat) (nt : Nat) (s : S) : Option (List R) :=
  (evTm s.tm f).bind fun g => match g with
  | .func (.func gf) first captured =>
    (enterV rd s.h).bind fun x =>
    (match nd gf with
      | true => sn (.call gf (argsN first captured x.2.1.next) (x.2.1.add (.loop .ready none s.tm nt params assign body x.1)))
      | false => oneN (callV C self (.func gf) (argsN first captured x.2.1.next) (x.2.1.add (.loop .ready none s.tm nt params assign body x.1)))).bind fun rs =>
    flatM rs (rangeEnd s x.2.1 x.2.2)
  | _ => none
def codeN (c : Code) (rd : Option Nat) (nt : Nat) (s : S) : Option (List R) :=
  match c with
  | .seq a b => (sn (.code a rd nt s)).bind fun rs => thenN rs fun s => sn (.code b rd nt s)
  | .cond c x y => (evalBool s.tm c).bind fun b => match b with | true => sn (.code x rd nt s) | false => sn (.code y rd nt s)
  | .block id b => (sn (.code b rd nt s)).bind fun rs => flatM rs (blockN id)
  | .loop b => (sn (.code b rd nt s)).bind fun rs => thenN rs fun s => sn (.code (.loop b) rd nt s)
  | .scope b => sn (.code b rd nt s)
  | .region _ ops false => opsN C self nd sn rd nt ops ops.toList s
  | .rangeFunc f ps a b => rangeN C self nd sn f ps a b rd nt s
  | c => oneN (self (.code c rd nt s))
def leaveN (fn : Func) (r : R) : Option (List R) :=
  match r with
  | .code .normal s => oneN (leaveV C self fn s.tm s.df .returning s.h)
  | .code .ret s => oneN (leaveV C self fn s.tm s.df .returning s.h)
  | _ => none
def stepN : SelfN
  | .code c rd nt s => codeN C self nd sn c rd nt s
  | .call f args h => (C.fn f).bind fun fn => fn.body.bind fun c =>
    (sn (.code c none (args.size + (fn.ntmps - args.size)) { tm := initTm args.toList 0 .nil, df := [], h })).bind fun rs => flatM rs (leaveN C self fn)
  | .dcall .. => none
end
def runN (C : Cfg) (self : Self) (nd : FuncId → Bool) : Nat → SelfN := fun n => Nat.rec (fun _ => none) (fun _ sn => stepN C self nd sn) n

theorem oneN_some {x : Option R} {rs : List R} (e : oneN x = some rs) : ∃ r, x = some r ∧ rs = [r] := by
  unfold oneN at e
  obtain ⟨r, h, e⟩ := bind_some' e
  cases e; exact ⟨r, h, rfl⟩
theorem flatM_mem {k : R → Option (List R)} : ∀ {l out : List R}, flatM l k = some out → ∀ r ∈ l, ∃ rs, k r = some rs ∧ ∀ x ∈ rs, x ∈ out
  | [], _, _, r, hr => by cases hr
  | a :: l, out, e, r, hr => by
    unfold flatM at e
    obtain ⟨x, hx, e⟩ := bind_some' e
    obtain ⟨y, hy, e⟩ := bind_some' e
    cases e
    rcases List.mem_cons.1 hr with rfl | hr
    · exact ⟨x, hx, fun z hz => List.mem_append_left _ hz⟩
    · obtain ⟨rs, h1, h2⟩ := flatM_mem hy r hr
      exact ⟨rs, h1, fun z hz => List.mem_append_right _ (h2 z hz)⟩
theorem allN_mem {f : Nat → Option R} : ∀ {l : List Nat} {out : List R}, allN l f = some out → ∀ k ∈ l, ∃ r, f k = some r ∧ r ∈ out
  | [], _, _, r, hr => by cases hr
  | a :: l, out, e, k, hk => by
    unfold allN at e
    obtain ⟨x, hx, e⟩ := bind_some' e
    obtain ⟨y, hy, e⟩ := bind_some' e
    cases e
    rcases List.mem_cons.1 hk with rfl | hk
    · exact ⟨x, hx, .head _⟩
    · obtain ⟨r, h1, h2⟩ := allN_mem hy k hk
      exact ⟨r, h1, .tail _ h2⟩

def QCodeN (base : Nat) (ρ : Ren) (nt : Nat) (s : S) (w : World) (rs : List R) : Exit → Act → World → Prop := fun ex a w' => ∃ e s', R.code e s' ∈ rs ∧ QCode base ρ nt s w e s' ex a w'
def QCallN (base : Nat) (ρ : Ren) (h : Hp) (w : World) (rs : List R) : Ending → World → Prop := fun en w' => ∃ r ∈ rs, QCall base ρ h w r en w'
structure SoundN (C : Cfg) (sn : SelfN) : Prop where
  code : ∀ c rd nt s rs, sn (.code c rd nt s) = some rs → ∀ base ρ w a rr m, HRel base ρ s.h w → TmRel ρ nt s.tm a.tmps → DfRel ρ s.df a.defers → RdRel ρ rd rr → c.wpIn (fenceOf rr) m C.P.P (QCodeN base ρ nt s w rs) a w
  call : ∀ f args h rs, sn (.call f args h) = some rs → Enters C.P.P f ∧ ∀ base ρ w args' m, HRel base ρ h w → LRel ρ args.toList args'.toList → CallsIn Fence.wide m C.P.P f args' w (QCallN base ρ h w rs)

section
variable {C : Cfg} (hC : C.Ok) {self : Self} (hs : Sound C self) {nd : FuncId → Bool} {sn : SelfN} (hn : SoundN C sn)

theorem QCodeN_exits {base : Nat} {ρ : Ren} {nt : Nat} {s : S} {w : World} {rs : List R} : ∀ ex a w', QCodeN base ρ nt s w rs ex a w' → (∀ l, ex ≠ .goto l) ∧ ex ≠ .outgrown :=
  fun ex a w' ⟨_, _, _, h⟩ => QCode_exits ex a w' h
theorem QCodeN.sub {base : Nat} {ρ : Ren} {nt : Nat} {s : S} {w : World} {rs rs' : List R} (hs : ∀ x ∈ rs, x ∈ rs') {ex : Exit} {a : Act} {w' : World} (h : QCodeN base ρ nt s w rs ex a w') : QCodeN base ρ nt s w rs' ex a w' :=
  let ⟨e, s', hm, hq⟩ := h; ⟨e, s', hs _ hm, hq⟩
theorem QCodeN.after {base : Nat} {ρ ρ1 : Ren} {nt : Nat} {s s1 : S} {w w1 : World} {rs : List R} (H : HRel base ρ s.h w) (hst : Step base ρ s.h w ρ1 s1.h w1) {ex : Exit} {a : Act} {w' : World} (h : QCodeN base ρ1 nt s1 w1 rs ex a w') : QCodeN base ρ nt s w rs ex a w' :=
  let ⟨e, s', hm, hq⟩ := h; ⟨e, s', hm, hq.after H hst⟩

include hC hs hn in
theorem op1N_sound {base : Nat} {ρ : Ren} {w : World} {rd rr : Option Nat} {nt m i : Nat} {ops : Array Oper} {o : Oper} {s : S} {rs : List R} {a : Act} (ho : ops[i]? = some o) (he : op1N C self nd sn rd nt ops o s = some rs)
    (H : HRel base ρ s.h w) (ht : TmRel ρ nt s.tm a.tmps) (hd : DfRel ρ s.df a.defers) (hr : RdRel ρ rd rr) {K : Act → World → Prop} {Q : Exit → Act → World → Prop}
    (hK : ∀ s', R.code .normal s' ∈ rs → ∀ ρ' a' w', Step base ρ s.h w ρ' s'.h w' → TmRel ρ' nt s'.tm a'.tmps → DfRel ρ' s'.df a'.defers → K a' w')
    (hQ : ∀ v s', R.code (.panic v) s' ∈ rs → ∀ v' ρ' a' w', VRel ρ' v v' → Step base ρ s.h w ρ' s'.h w' → TmRel ρ' nt s'.tm a'.tmps → DfRel ρ' s'.df a'.defers → Q (.panic [{ v := v', recovered := false }]) a' w') :
    wpOpIn (fenceOf rr) m C.P.P ops Q i K a w := by
  have single : ∀ r, op1V C self rd nt ops o s = some r → rs = [r] → wpOpIn (fenceOf rr) m C.P.P ops Q i K a w := by
    intro r h1 h2
    subst h2
    obtain ⟨e, s', rfl, _⟩ := op1V_inv h1
    refine op1_sound hC hs ho h1 H ht hd hr ?_ ?_
    · rintro rfl ρ' a' w' k1 k2 k3
      exact hK s' (.head _) ρ' a' w' k1 k2 k3
    · rintro v v' ρ' a' w' rfl hv k1 k2 k3
      exact hQ v s' (.head _) v' ρ' a' w' hv k1 k2 k3
  have one : oneN (op1V C self rd nt ops o s) = some rs → wpOpIn (fenceOf rr) m C.P.P ops Q i K a w := fun h => by
    obtain ⟨r, h1, h2⟩ := oneN_some h
    exact single r h1 h2
  unfold op1N at he
  split at he
  · exact one he
  · rename_i hw
    have base0 : ∀ (P : Prop), P → (wantedV ops s.tm o = true) := fun _ _ => hw
    split at he
    · -- an entry of a map
      rename_i it hop
      split at he
      · rename_i r h1
        exact single r h1 (Option.some.inj he).symm
      · unfold branchN at he
        obtain ⟨v, hv, he⟩ := bind_some' he
        obtain ⟨ad, ha, he⟩ := bind_some' he
        obtain ⟨h0, he⟩ := ok?_some he
        have h0 := Nat.eq_of_beq_eq_true h0
        split at he
        · rename_i r n seen hg
          split at he
          · rename_i es hr
            obtain ⟨hnn, he⟩ := ok?_some he
            have hnn := Nat.eq_of_beq_eq_true hnn
            split at he
            · cases he
            · rename_i hne
              obtain ⟨a', hae, s1, s2, im, s3, s4, s5⟩ := addrOf_rel ha (evTm_rel ht _ _ hv)
              obtain ⟨hsh, hor⟩ := next_map (P := C.P.P) H hg hr hnn s3 o.type
              have ha' : a' = ⟨im.blk, 0, none⟩ := addr_eq s2 s4 (by omega)
              subst ha'
              rcases hor with ⟨g1, _⟩ | ⟨k, x, v', w', g1, g2, g3, g4, g5, g6⟩
              · exact absurd g1 (hne ·)
              · obtain ⟨rr', hf, hmem⟩ := allN_mem he k g1
                obtain ⟨y, hy, hf⟩ := bind_some' hf
                unfold stepM at hy
                rw [g2] at hy
                simp only [Option.bind_some] at hy
                obtain ⟨hro, hy⟩ := ok?_some hy
                cases hy
                obtain ⟨tm, htm, hf⟩ := bind_some' hf
                cases hf
                unfold wpOpIn
                rw [ho]
                simp only [wantedV_eq ht ops o, hw, if_true]
                refine ⟨fun f _ => fenceOf_fn rr f, ?_⟩
                have hsem : o.semAt (fenceOf rr).round a.eval = execOp a.eval o := Oper.semAt_eq _ _ _ (fun c hc => by rw [hop] at hc; cases hc)
                have hst := g6 (Nat.le_of_ble_eq_true hro)
                have hrun : (execOp a.eval o).run C.P.P w = .ok (.value (.tuple #[.bool true, x.1, v'])) w' := by
                  simp only [execOp, hop, hae, Sem.run_bind, g3, Result.andThen_ok, Sem.run_pure]
                rw [hsem, hrun]
                refine hK _ hmem ρ _ w' hst (ht.put htm (.tuple' (.cons (.bool _) (.cons (plain_self ρ g5) (.cons g4 (.nil ρ)))))) (by rw [put_defers]; exact hd)
          · cases he
        · cases he
    · -- a call
      rename_i c hop
      split at he
      · rename_i g args hov
        split at he
        · obtain ⟨rs1, hcall, he⟩ := bind_some' he
          obtain ⟨hent, hcs⟩ := hn.call _ _ _ _ hcall
          have hok := opV_run hC.env H (evTm_rel ht) hov
          unfold wpOpIn
          rw [ho]
          simp only [wantedV_eq ht ops o, hw, if_true]
          refine ⟨fun f _ => fenceOf_fn rr f, ?_⟩
          have hsem : o.semAt (fenceOf rr).round a.eval = execOp a.eval o := Oper.semAt_eq _ _ _ (fun c hc => by rw [hop] at hc; cases hc)
          rw [hsem]
          obtain ⟨args', hrun, hargs⟩ := hok
          rw [hrun, hent]
          refine ⟨(fun h => by (rw [fenceOf_depth] at h; cases h)), fenceOf_calls ((hcs base ρ w args' (m - 1) H hargs).mono fun en w'' hq => ?_)⟩
          obtain ⟨r, hmem, hq⟩ := hq
          obtain ⟨rs2, hk, hsub⟩ := flatM_mem he r hmem
          have fin : (match en with
              | .returned v => K (a.put o.dst v) w''
              | .panicked chain => Q (.panic chain) a w''
              | .outgrown => LetsOut Q) := by
            split at hk
            · obtain ⟨tm, htm, hk⟩ := bind_some' hk
              cases hk
              obtain ⟨v', ρ', rfl, hst, hv⟩ := hq
              exact hK _ (hsub _ (.head _)) ρ' _ w'' hst ((ht.mono hst.ext).put htm hv) (by rw [put_defers]; exact hd.mono hst.ext)
            · cases hk
              obtain ⟨v', ρ', rfl, hst, hv⟩ := hq
              exact hQ _ _ (hsub _ (.head _)) v' ρ' a w'' hv hst (ht.mono hst.ext) (hd.mono hst.ext)
            · cases hk
          cases en <;> exact fin
        · exact one he
      · exact one he
    · exact one he

include hC hs hn in
theorem opsN_sound {rd rr : Option Nat} {nt m : Nat} {ops : Array Oper} {Q : Exit → Act → World → Prop} : ∀ (n k : Nat) {base : Nat} {ρ : Ren} {w : World} {s : S} {rs : List R} {a : Act}, n = ops.size - k → k ≤ ops.size → opsN C self nd sn rd nt ops (ops.toList.drop k) s = some rs →
    HRel base ρ s.h w → TmRel ρ nt s.tm a.tmps → DfRel ρ s.df a.defers → RdRel ρ rd rr →
    (∀ ex a' w', QCodeN base ρ nt s w rs ex a' w' → Q ex a' w') → wpOpsIn (fenceOf rr) m C.P.P ops Q (List.range' k n) a w
  | 0, k, base, ρ, w, s, rs, a, hk0, hk, he, H, ht, hd, hr, hq => by
    have : ops.toList.drop k = [] := by apply List.drop_of_length_le; simp; omega
    rw [this] at he
    cases he
    exact hq .normal a w ⟨_, _, .head _, ρ, trivial, Step.refl H, ht, hd⟩
  | n + 1, k, base, ρ, w, s, rs, a, hk0, hk, he, H, ht, hd, hr, hq => by
    have hlt : k < ops.size := by omega
    have hdrop : ops.toList.drop k = ops[k] :: ops.toList.drop (k + 1) := by
      rw [List.drop_eq_getElem_cons (by simpa using hlt)]; simp
    rw [hdrop] at he
    unfold opsN at he
    obtain ⟨rs1, h1, he⟩ := bind_some' he
    rw [List.range'_succ, wpOpsIn_cons]
    refine op1N_sound hC hs hn (by simp [hlt]) h1 H ht hd hr ?_ ?_
    · intro s1 hmem ρ' a' w' hst ht' hd'
      obtain ⟨rs2, hk2, hsub⟩ := flatM_mem he _ hmem
      refine opsN_sound n (k + 1) (by omega) (by omega) hk2 hst.rel ht' hd' (hr.mono hst.ext) ?_
      intro ex a2 w2 h
      exact hq ex a2 w2 ((h.sub hsub).after H hst)
    · intro v s1 hmem v' ρ' a' w' hv hst ht' hd'
      obtain ⟨rs2, hk2, hsub⟩ := flatM_mem he _ hmem
      cases hk2
      exact hq _ a' w' ⟨_, _, hsub _ (.head _), ρ', ⟨v', rfl, hv⟩, hst, ht', hd'⟩
end
end
end Go.Eng
/-
  Ranges over maps: code, calls; answers that hang on no order.
-/
namespace Go.Eng
section
variable {C : Cfg} (hC : C.Ok) {self : Self} (hs : Sound C self) {nd : FuncId → Bool} {sn : SelfN} (hn : SoundN C sn)

include hC hs hn in
theorem rangeN_sound {f : Operand} {ps : Array Tmp} {asg body : Code} {rd : Option Nat} {nt : Nat} {s : S} {rs : List R} (e : rangeN C self nd sn f ps asg body rd nt s = some rs) : ∀ base ρ w a rr m, HRel base ρ s.h w → TmRel ρ nt s.tm a.tmps → DfRel ρ s.df a.defers → RdRel ρ rd rr →
    (Code.rangeFunc f ps asg body).wpIn (fenceOf rr) m C.P.P (QCodeN base ρ nt s w rs) a w := by
  unfold rangeN at e
  obtain ⟨g, hg, e⟩ := bind_some' e
  split at e
  · rename_i gf first captured
    obtain ⟨⟨d, h1, mark⟩, hen, e⟩ := bind_some' e
    obtain ⟨rs1, hcall, e⟩ := bind_some' e
    have hcs0 : Enters C.P.P gf ∧ ∀ base ρ w args' m, HRel base ρ (h1.add (.loop .ready none s.tm nt ps asg body d)) w → LRel ρ (argsN first captured h1.next).toList args'.toList →
        CallsIn Fence.wide m C.P.P gf args' w (QCallN base ρ (h1.add (.loop .ready none s.tm nt ps asg body d)) w rs1) := by
      split at hcall
      · exact hn.call _ _ _ _ hcall
      · obtain ⟨r, hr, rfl⟩ := oneN_some hcall
        obtain ⟨k1, k2⟩ := callV_sound hC hs hr
        exact ⟨k1, fun base ρ w args' m H hl => (k2 base ρ w args' m H hl).mono fun en w' q => ⟨r, .head _, q⟩⟩
    obtain ⟨hent, hcs⟩ := hcs0
    intro base ρ w a rr m H ht hd hr
    refine wpIn_rangeFunc (fun fn hfn => ?_)
    obtain ⟨f', fa, ca, hae, hfr, hfa, hca⟩ := (evTm_rel ht f _ hg).func_inv
    obtain rfl : f' = .func gf := by cases hfr; rfl
    obtain ⟨ρ1, l, im, mark', w1, hel, hst, him, rfl, hmk⟩ := enterV_sound fn C.P.P hen H ht hr
    refine ⟨im.blk, mark', w1, { target := .fn (.func gf) ca, args := fa ++ #[.func (.yield im.blk) #[] #[]] }, w1, gf, fa ++ #[.func (.yield im.blk) #[] #[]] ++ ca, w1, hel, ?_, ?_, ?_, ?_, ?_⟩
    · simp only [resolve, hae]
      simp [go_sem]
    · intro f' _; exact fenceOf_fn rr f'
    · simp [invoke, go_sem]
      exact hent _ _
    · intro h; rw [fenceOf_depth] at h; cases h
    · have hargs : LRel ρ1 (argsN first captured h1.next).toList (fa ++ #[Value.func (.yield im.blk) #[] #[]] ++ ca).toList := by
        unfold argsN
        simp only [Array.toList_append]
        exact ((hfa.mono hst.ext).append (.cons (.func' (.yield _ _ him) (.nil _) (.nil _)) (.nil _))).append (hca.mono hst.ext)
      refine fenceOf_calls ((hcs base ρ1 w1 _ (m - 1) hst.rel hargs).mono fun en w2 hq => ?_)
      obtain ⟨r, hmem, hq⟩ := hq
      obtain ⟨rs2, hk, hsub⟩ := flatM_mem e r hmem
      unfold rangeEnd at hk
      split at hk
      · rename_i h3
        obtain ⟨v', ρ2, rfl, hst2, hv⟩ := hq
        split at hk
        · rename_i st pend tm0 nt0 params0 assign0 body0 d0 hg3
          obtain ⟨hb, hk⟩ := ok?_some hk
          obtain ⟨e2, hpe, hk⟩ := bind_some' hk
          rw [Bool.and_eq_true] at hb
          obtain ⟨hb1, hb2⟩ := hb
          have him2 := hst2.ext _ _ him
          obtain ⟨L, dm, p2, p1, p3, p4, p5, p6, p7, p8, p9⟩ := loop_at hst2.rel him2 hg3
          obtain ⟨u3, u4⟩ := loop_upd hst2.rel him2 hg3 (Nat.le_of_ble_eq_true hb2) .exhausted pend p2 C.P.P
          have hne : L.state ≠ .busy := by
            rw [p1]; intro h; subst h; cases hb1
          have hall := (hst.trans H hst2).trans H u4
          have hdf : DfRel ρ2 (mark ++ s.df) (mark' ++ a.defers) := (hmk.mono hst2.ext).append (hd.mono (hst.ext.trans hst2.ext))
          have ht2 := ht.mono (hst.ext.trans hst2.ext)
          have hrun := run_endLoop (P := C.P.P) p2 hne
          rw [p3] at hrun
          refine ⟨pend, _, hrun, ?_⟩
          cases hk
          split at hpe
          · cases hpe
            exact ⟨_, _, hsub _ (.head _), ρ2, trivial, hall, ht2, hdf⟩
          · cases hpe
            exact wpIn_ret ⟨_, _, hsub _ (.head _), ρ2, trivial, hall, ht2, hdf⟩
          · cases hpe
            exact wpIn_exit ⟨_, _, hsub _ (.head _), ρ2, rfl, hall, ht2, hdf⟩
          · cases hpe
        · cases hk
      · cases hk
  · cases e

theorem thenN_norm {rs out : List R} {k : S → Option (List R)} (e : thenN rs k = some out) {s : S} (h : R.code .normal s ∈ rs) : ∃ rs1, k s = some rs1 ∧ ∀ x ∈ rs1, x ∈ out := flatM_mem e _ h
theorem thenN_other {rs out : List R} {k : S → Option (List R)} (e : thenN rs k = some out) {ex : Ex} {s : S} (h : R.code ex s ∈ rs) (hx : ex ≠ .normal) : R.code ex s ∈ out := by
  obtain ⟨rs1, h1, h2⟩ := flatM_mem e _ h
  cases ex with
  | normal => exact absurd rfl hx
  | _ => cases h1; exact h2 _ (.head _)

include hC hs hn in
theorem codeN_sound (c : Code) (rd : Option Nat) (nt : Nat) (s : S) (rs : List R) (e : codeN C self nd sn c rd nt s = some rs) : ∀ base ρ w a rr m, HRel base ρ s.h w → TmRel ρ nt s.tm a.tmps → DfRel ρ s.df a.defers → RdRel ρ rd rr →
    c.wpIn (fenceOf rr) m C.P.P (QCodeN base ρ nt s w rs) a w := by
  unfold codeN at e
  split at e
  · -- seq
    rename_i x y
    obtain ⟨rs1, h1, e⟩ := bind_some' e
    intro base ρ w a rr m H ht hd hr
    refine wpIn_seq (wpIn_mono (hn.code _ _ _ _ _ h1 base ρ w a rr m H ht hd hr) ?_)
    rintro ex a1 w1 ⟨e1, s1, hmem, hq⟩
    cases e1 with
    | normal =>
      obtain ⟨rs2, h2, hsub⟩ := thenN_norm e hmem
      obtain ⟨ρ1, hex, hst, ht1, hd1⟩ := hq
      cases ex <;> simp only [ExRel] at hex
      exact wpIn_mono (hn.code _ _ _ _ _ h2 base ρ1 w1 a1 rr m hst.rel ht1 hd1 (hr.mono hst.ext)) (fun ex a w h => (h.sub hsub).after H hst)
    | _ =>
      have hm := thenN_other e hmem (by simp)
      cases ex <;> first | exact ⟨_, _, hm, hq⟩ | (obtain ⟨_, hex, _⟩ := hq; simp [ExRel] at hex)
  · -- cond
    rename_i c x y
    obtain ⟨b, hb, e⟩ := bind_some' e
    intro base ρ w a rr m H ht hd hr
    cases b with
    | true => exact wpIn_cond_true (evalBool_rel ht hb) (hn.code _ _ _ _ _ e base ρ w a rr m H ht hd hr)
    | false => exact wpIn_cond_false (evalBool_rel ht hb) (hn.code _ _ _ _ _ e base ρ w a rr m H ht hd hr)
  · -- block
    rename_i id x
    obtain ⟨rs1, h1, e⟩ := bind_some' e
    intro base ρ w a rr m H ht hd hr
    refine wpIn_block (wpIn_mono (hn.code _ _ _ _ _ h1 base ρ w a rr m H ht hd hr) ?_)
    rintro ex a1 w1 ⟨e1, s1, hmem, hq⟩
    obtain ⟨rs2, h2, hsub⟩ := flatM_mem e _ hmem
    cases e1 with
    | exit i =>
      obtain ⟨ρ1, hex, hst, ht1, hd1⟩ := hq
      cases ex <;> simp only [ExRel] at hex
      subst hex
      simp only [blockN] at h2
      split at h2
      · rename_i hi
        cases h2
        have hi := Nat.eq_of_beq_eq_true hi
        simp only [Exit.inBlock, hi, if_true]
        exact ⟨_, _, hsub _ (.head _), ρ1, trivial, hst, ht1, hd1⟩
      · rename_i hi
        cases h2
        have hne : i ≠ id := fun h => by subst h; simp at hi
        simp only [Exit.inBlock, hne, if_false]
        exact ⟨_, _, hsub _ (.head _), ρ1, rfl, hst, ht1, hd1⟩
    | _ =>
      cases h2
      have hm := hsub _ (.head _)
      cases ex <;> first | exact ⟨_, _, hm, hq⟩ | (obtain ⟨_, hex, _⟩ := hq; simp [ExRel] at hex)
  · -- loop
    rename_i x
    obtain ⟨rs1, h1, e⟩ := bind_some' e
    intro base ρ w a rr m H ht hd hr
    refine wpIn_unroll QCodeN_exits (wpIn_mono (hn.code _ _ _ _ _ h1 base ρ w a rr m H ht hd hr) ?_)
    rintro ex a1 w1 ⟨e1, s1, hmem, hq⟩
    cases e1 with
    | normal =>
      obtain ⟨rs2, h2, hsub⟩ := thenN_norm e hmem
      obtain ⟨ρ1, hex, hst, ht1, hd1⟩ := hq
      cases ex <;> simp only [ExRel] at hex
      exact wpIn_mono (hn.code _ _ _ _ _ h2 base ρ1 w1 a1 rr m hst.rel ht1 hd1 (hr.mono hst.ext)) (fun ex a w h => (h.sub hsub).after H hst)
    | _ =>
      have hm := thenN_other e hmem (by simp)
      cases ex <;> first | exact ⟨_, _, hm, hq⟩ | (obtain ⟨_, hex, _⟩ := hq; simp [ExRel] at hex)
  · -- scope
    exact fun base ρ w a rr m H ht hd hr => wpIn_scope QCodeN_exits (hn.code _ _ _ _ _ e base ρ w a rr m H ht hd hr)
  · -- region
    rename_i id ops
    intro base ρ w a rr m H ht hd hr
    refine wpIn_region ?_
    rw [List.range_eq_range']
    exact opsN_sound hC hs hn ops.size 0 (by omega) (Nat.zero_le _) (by simpa using e) H ht hd hr (fun _ _ _ h => h)
  · exact rangeN_sound hC hs hn e
  · obtain ⟨r, h1, rfl⟩ := oneN_some e
    obtain ⟨e1, s1, rfl, k1⟩ := hs.code _ _ _ _ _ h1
    exact fun base ρ w a rr m H ht hd hr => wpIn_mono (k1 base ρ w a rr m H ht hd hr) (fun ex a w h => ⟨e1, s1, .head _, h⟩)

omit hC hs hn in
theorem leavesInM_mono {F : Fence} {m : Nat} {P : Program} {fn : Func} {tmps : Array Value} {R R' : Ending → World → Prop} (k : ∀ e w, R e w → R' e w) : ∀ {ds : List Deferred} {u : FrameMode} {w : World}, LeavesInM F m P fn tmps R ds u w → LeavesInM F m P fn tmps R' ds u w
  | [], u, w, h => by
    cases u with
    | run => exact h
    | returning => obtain ⟨v, h1, h2⟩ := h; exact ⟨v, h1, k _ _ h2⟩
    | panicking c => exact k _ _ h
  | d :: ds, u, w, ⟨h0, h⟩ => by
    refine ⟨h0, ?_⟩
    rcases h with ⟨r, w', h1, h2, h3⟩ | ⟨h1, fv, cap, f, args, h2, h3, h4, h5⟩
    · exact .inl ⟨r, w', h1, h2, leavesInM_mono k h3⟩
    · refine .inr ⟨h1, fv, cap, f, args, h2, h3, h4, h5.mono ?_⟩
      intro en u' w' q
      cases en with
      | returned v => exact leavesInM_mono k q
      | panicked c => exact leavesInM_mono k q
      | outgrown => exact k _ _ q

include hC hs hn in
theorem callN_sound {f : FuncId} {args : Array Value} {h : Hp} {rs : List R} (e : stepN C self nd sn (.call f args h) = some rs) : Enters C.P.P f ∧ ∀ base ρ w args' m, HRel base ρ h w → LRel ρ args.toList args'.toList → CallsIn Fence.wide m C.P.P f args' w (QCallN base ρ h w rs) := by
  simp only [stepN] at e
  obtain ⟨fn, hfn, e⟩ := bind_some' e
  obtain ⟨c, hc, e⟩ := bind_some' e
  obtain ⟨rs1, h1, e⟩ := bind_some' e
  obtain ⟨hf, hent⟩ := hC.fn _ _ hfn
  refine ⟨hent, fun base ρ w args' m H ha => callsIn_of_wp_marks hf hc trivial ?_⟩
  refine wpIn_mono (hn.code _ _ _ _ _ h1 base ρ w { tmps := args' ++ Array.replicate (fn.ntmps - args'.size) undef, defers := [] } none m H (initTm_rel ha fn.ntmps) trivial (.inl ⟨rfl, rfl⟩)) ?_
  rintro ex a1 w1 ⟨e1, s1, hmem, ρ1, hex, hst, ht, hd⟩
  obtain ⟨rs2, h2, hsub⟩ := flatM_mem e _ hmem
  cases e1 with
  | normal =>
    cases ex <;> simp only [ExRel] at hex
    obtain ⟨r, hr, rfl⟩ := oneN_some h2
    exact leavesInM_mono (fun en w' q => ⟨r, hsub _ (.head _), q⟩) (leaveV_sound hs hC.env H s1.df hr hst ht hd (u' := .returning) trivial)
  | ret =>
    cases ex <;> simp only [ExRel] at hex
    obtain ⟨r, hr, rfl⟩ := oneN_some h2
    exact leavesInM_mono (fun en w' q => ⟨r, hsub _ (.head _), q⟩) (leaveV_sound hs hC.env H s1.df hr hst ht hd (u' := .returning) trivial)
  | panic v => cases h2
  | exit i => cases h2
end

theorem runN_sound {C : Cfg} (hC : C.Ok) {self : Self} (hs : Sound C self) (nd : FuncId → Bool) : ∀ n, SoundN C (runN C self nd n)
  | 0 => ⟨(fun _ _ _ _ _ e => (by cases e)), (fun _ _ _ _ e => (by cases e))⟩
  | n + 1 =>
    have ih := runN_sound hC hs nd n
    ⟨(fun c rd nt s rs e => codeN_sound hC hs ih c rd nt s rs e), (fun _ _ _ _ e => callN_sound (nd := nd) hC hs ih e)⟩
end Go.Eng
namespace Go.Eng
/-- Of what a call has laid one block is kept, and nothing that was there was written. -/
theorem Step.kept {base : Nat} {ρ ρ' : Ren} {h h2 : Hp} {w w' : World} (H : HRel base ρ h w) (s : Step base ρ { h with ro := h.next } w ρ' h2 w') {b : Nat} {o : AObj} (hb : h.next ≤ b) (hg : h2.get b = some o) :
    Step base ρ h w ρ' { next := h2.next, ro := h.ro, objs := h.objs.put b (some o) } w' := by
  have hk : ∀ b o, w.heap[b]? = some o → w'.heap[b]? = some o := fun b o hb => s.keep b o hb (Wr.quiet H)
  have get : ∀ i, Hp.get { next := h2.next, ro := h.ro, objs := h.objs.put b (some o) } i = if i = b then some o else h.get i := fun i => T.get_put _ _ _ _
  have hnb : h.get b = none := by
    cases hh : h.get b with
    | none => rfl
    | some p => have := H.lt hh; omega
  have fresh : ∀ im, ρ' b = some im → w.heap.size ≤ im.blk := by
    intro im hi
    rcases s.news b im hi with h1 | ⟨_, h1 | h1⟩
    · have := (H.dom b im h1).1; omega
    · exact h1
    · exact absurd h1 (Wr.quiet H)
  have hn : h.next ≤ h2.next := s.next
  refine ⟨s.ext, ⟨?_, ?_, s.rel.dom, H.baseRo, Nat.le_trans H.roNext hn⟩, fun c q hc _ => hk c q hc, ?_, ?_, s.size, rfl, hn, s.os, s.tape, s.output⟩
  · intro i q hi
    rw [get] at hi
    by_cases e : i = b
    · rw [if_pos e] at hi
      cases hi
      subst e
      exact s.rel.obj _ _ hg
    · rw [if_neg e] at hi
      obtain ⟨im, O, h1, h3, h4⟩ := H.obj i q hi
      exact ⟨im, O, s.ext _ _ h1, hk _ _ h3, h4.mono s.ext id⟩
  · intro i j im jm p q hi hj h1 h3 hne hbi
    rw [get] at hi hj
    by_cases ei : i = b
    · subst ei
      by_cases ej : j = i
      · exact absurd ej.symm hne
      · rw [if_neg ej] at hj
        obtain ⟨jm', _, g1, _⟩ := H.obj j q hj
        have := s.ext _ _ g1
        rw [h3] at this; cases this
        have := (H.dom j _ g1).2
        have := fresh im h1
        omega
    · rw [if_neg ei] at hi
      obtain ⟨im', _, g1, _⟩ := H.obj i p hi
      have e1 := s.ext _ _ g1
      rw [h1] at e1; cases e1
      by_cases ej : j = b
      · subst ej
        have := (H.dom i _ g1).2
        have := fresh jm h3
        omega
      · rw [if_neg ej] at hj
        obtain ⟨jm', _, g2, _⟩ := H.obj j q hj
        have e2 := s.ext _ _ g2
        rw [h3] at e2; cases e2
        exact H.inj i j _ _ p q hi hj g1 g2 hne hbi
  · intro i im hi
    rcases s.news i im hi with h1 | ⟨h1, h2 | h2⟩
    · exact .inl h1
    · exact .inr ⟨h1, .inl h2⟩
    · exact absurd h2 (Wr.quiet H)
  · intro i q hi hq
    rw [get, if_neg (by omega)] at hq
    exact ⟨q, hq⟩

noncomputable section
def sameRow (c : List Value) (e : TypeId) (es : Option Nat) (o : Option AObj) : Bool := match o with
  | some (.cells c' e' es') => listEq veq c c' && Nat.beq e e' && optNatEq es es'
  | _ => false
/-- All answers are one: it, and the block that it names. -/
def collapseN (h : Hp) (rs : List R) : Option (Value × Hp) := match rs with
  | .ret v h1 :: l => match plain v with
    | true => ok? (l.all fun r => match r with | .ret v' _ => veq v v' | _ => false) (some (v, h))
    | false => match v with
      | .slice (some a) _ _ => ok? (Nat.ble h.next a.block) <| match h1.get a.block with
        | some (.cells c e es) => ok? (l.all fun r => match r with | .ret v' h' => veq v v' && Nat.beq h1.next h'.next && sameRow c e es (h'.get a.block) | _ => false)
            (some (v, { next := h1.next, ro := h.ro, objs := h.objs.put a.block (some (.cells c e es)) }))
        | _ => none
      | _ => none
  | _ => none
theorem collapseN_ok {h h' : Hp} {rs : List R} {v : Value} (e : collapseN h rs = some (v, h')) : ∀ r ∈ rs, ∃ h2, r = .ret v h2 ∧
    ((plain v = true ∧ h' = h) ∨ ∃ b o, h.next ≤ b ∧ h2.get b = some o ∧ plain v = false ∧ h' = { next := h2.next, ro := h.ro, objs := h.objs.put b (some o) }) := by
  unfold collapseN at e
  split at e
  · rename_i v1 h1 l
    split at e
    · rename_i hp
      obtain ⟨ha, e⟩ := ok?_some e
      cases e
      intro r hr
      rcases List.mem_cons.1 hr with rfl | hr
      · exact ⟨h1, rfl, .inl ⟨hp, rfl⟩⟩
      · have := List.all_eq_true.1 ha r hr
        split at this
        · rename_i v2 h2 _
          exact ⟨h2, by rw [veq_eq _ _ this], .inl ⟨hp, rfl⟩⟩
        · cases this
    · rename_i hp
      split at e
      · rename_i a n c
        obtain ⟨hb, e⟩ := ok?_some e
        have hb := Nat.le_of_ble_eq_true hb
        split at e
        · rename_i cs t es hg
          obtain ⟨ha, e⟩ := ok?_some e
          cases e
          intro r hr
          rcases List.mem_cons.1 hr with rfl | hr
          · exact ⟨h1, rfl, .inr ⟨a.block, _, hb, hg, hp, rfl⟩⟩
          · have := List.all_eq_true.1 ha r hr
            split at this
            · rename_i v2 h2 _
              simp only [Bool.and_eq_true] at this
              obtain ⟨⟨g1, g2⟩, g3⟩ := this
              unfold sameRow at g3
              split at g3
              · rename_i c' e' es' hg2
                simp only [Bool.and_eq_true] at g3
                obtain ⟨⟨k1, k2⟩, k3⟩ := g3
                have k1 := listEq_eq veq_eq k1
                have k2 := Nat.eq_of_beq_eq_true k2
                have k3 := optNatEq_eq k3
                subst k1 k2 k3
                exact ⟨h2, by rw [veq_eq _ _ g1], .inr ⟨a.block, _, hb, hg2, hp, by rw [Nat.eq_of_beq_eq_true g2]⟩⟩
              · cases g3
            · cases this
        · cases e
      · cases e
  · cases e
def orcU (C : Cfg) (self : Self) (nd : FuncId → Bool) (n : Nat) (f : FuncId) (orc : FuncId → Array Value → Hp → Option (Value × Hp)) : FuncId → Array Value → Hp → Option (Value × Hp) :=
  fun g args h => cond (Nat.beq f g) ((runN C self nd n (.call f args { h with ro := h.next })).bind (collapseN h)) (orc g args h)
theorem orcU_ok {C : Cfg} (hC : C.Ok) {self : Self} (hs : Sound C self) (nd : FuncId → Bool) (n : Nat) (f : FuncId) {D : Cfg} (hP : D.P = C.P) (hD : D.Ok) : Cfg.Ok { D with orc := orcU C self nd n f D.orc } := by
  refine ⟨hD.env, hD.fn, ?_, hD.mixed⟩
  intro g args h v h' e
  simp only [orcU] at e
  cases hb : Nat.beq f g with
  | false => rw [hb] at e; exact hD.orc g args h v h' e
  | true =>
    rw [hb] at e
    obtain rfl := Nat.eq_of_beq_eq_true hb
    simp only [cond_true] at e
    obtain ⟨rs, hr, e⟩ := bind_some' e
    obtain ⟨k1, k2⟩ := (runN_sound hC hs nd n).call _ _ _ _ hr
    show Enters D.P.P f ∧ _
    rw [hP]
    refine ⟨k1, fun base ρ w args' m H hl => (k2 base ρ w args' m H.quiet hl).mono ?_⟩
    rintro en w' ⟨r, hmem, hq⟩
    obtain ⟨h2, rfl, hor⟩ := collapseN_ok e r hmem
    obtain ⟨v', ρ', rfl, hst, hv⟩ := hq
    rcases hor with ⟨hp, rfl⟩ | ⟨b, o, g1, g2, _, rfl⟩
    · obtain rfl := plain_rel hv hp
      exact ⟨_, ρ, rfl, Step.quiet_same H hst, plain_self ρ hp⟩
    · exact ⟨_, ρ', rfl, Step.kept H hst g1 g2, hv⟩
end
end Go.Eng
