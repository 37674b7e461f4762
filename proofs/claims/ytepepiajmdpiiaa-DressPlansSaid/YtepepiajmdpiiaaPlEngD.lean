/-
  An evaluator of the code, proved sound.
-/
import Derived.Test.YtepepiajmdpiiaaPlEngC
set_option linter.unusedVariables false
/-
  The evaluator with a second rule for regions that draw their order: by the sets of what was done.
-/
namespace Go.Eng
noncomputable section
def M6 (C : dK) (self : Self) (j : Job) : Option R := match gB C self j with
 | some r => some r
 | none => match j with
  | .code (.region _ ops true) rd nt s => ok? (kH ops) (Y0 C self rd nt ops s)
  | _ => none
def WI (C : dK) : Nat → Self := fun n => Nat.rec (fun _ => none) (fun _ self => M6 C self) n
end
theorem aAL {C : dK} (hC : C.Ok) {self : Self} (hs : Sound C self) : Sound C (gB C self) :=
 ⟨(fun c rd nt s r e => JF hC hs (IV hC hs) (EZ hC hs) c rd nt s r e), (fun _ _ _ _ e => M7 hC hs e), (fun _ _ _ _ _ e => JG (self := self) hC e)⟩
theorem WJ {C : dK} (hC : C.Ok) {self : Self} (hs : Sound C self) : Sound C (M6 C self) := by
 have h1 := aAL hC hs
 refine ⟨fun c rd nt s r e => ?_, fun f args h r e => ?_, fun f args u h r e => ?_⟩
 ·unfold M6 at e
  split at e
  ·rename_i r' h; cases e; exact h1.code _ _ _ _ _ h
  ·split at e
   ·rename_i id ops rd' nt' s' hj
    cases hj
    obtain ⟨s', rfl, k⟩ := RS (id := id) hC hs e
    exact ⟨_, _, rfl, k⟩
   ·cases e
 ·unfold M6 at e
  split at e
  ·rename_i r' h; cases e; exact h1.call _ _ _ _ h
  ·cases e
 ·unfold M6 at e
  split at e
  ·rename_i r' h; cases e; exact h1.dcall _ _ _ _ _ h
  ·cases e
theorem eval2_sound {C : dK} (hC : C.Ok) : ∀ n, Sound C (WI C n)
 | 0 => ⟨(fun _ _ _ _ _ e => (by cases e)), (fun _ _ _ _ e => (by cases e)), (fun _ _ _ _ _ e => (by cases e))⟩
 | n + 1 => WJ hC (eval2_sound hC n)
theorem TS {C : dK} {self : Self} (hs : Sound C self) {f : FuncId} {v : Value} {h2 : Hp} (hv : plain v = true) (e : self (.call f #[] h00) = some (.ret v h2)) : PSound C.P.P f (LA v) := by
 intro args h u hu
 unfold LA at hu
 split at hu
 ·cases hu
  obtain ⟨g1, g2⟩ := hs.call f #[] h00 _ e
  refine ⟨hv, g1, fun base ρ hh w args' m H hs hl => ?_⟩
  refine (g2 0 (fun _ => none) w args' m (aWI w) ?_).mono ?_
  ·exact ⟨hl.1, fun i x x' hx => (by cases hx)⟩
  ·rintro en w' ⟨v', ρ', rfl, hst, hvr⟩
   obtain rfl := gL hvr hv
   refine ⟨rfl, fun b o hb => hst.keep b o hb ?_, hst.size, hst.os, hst.tape, hst.output⟩
   rintro ⟨i, o, im, hi, _⟩
   rw [show h00.get i = none from T.get_nil i] at hi; cases hi
 ·cases hu
theorem WK {C : dK} {self : Self} (hs : Sound C self) {f : FuncId} {b : Bool} (e : isV (self (.call f #[] h00)) b = true) : PSound C.P.P f (LA (.bool b)) := by
 obtain ⟨h, e⟩ := aMU e
 exact TS hs rfl e
end Go.Eng
/-
  Long loops cut at their heads: what a loop answers from a told state is kept; the evaluator takes it there.
-/
namespace Go.Eng
noncomputable section
abbrev iV (n : Nat) : Value := .int .i64 (.ofNat n)
abbrev sV (b o n c : Nat) : Value := .slice (some ⟨b, o, none⟩) n c
abbrev gV (l : List Value) : Value := .agg ⟨l⟩
end
end Go.Eng
