/- DressCosts returns true whatever the room, the figure and the person: Check and Cost return what the document says. No condition. -/
import Derived.Test.YtepepiajmdpiiaaCoS16
import Derived.Test.YtepepiajmdpiiaaRows
import Derived.WalkKit
import Derived.ProofKit
import Derived.OpenShut
open Go Go.Eng
set_option maxRecDepth 100000
namespace Go.Proofs.Ytepepiajmdpiiaa.K.L
theorem tys3 : [25, 26].all (argTy Try.prog 10) = true := by kernel_rfl
theorem argAll2 {P : Program} {h : Hp} {n : Nat} {t1 t2 : TypeId} {avs : List Value} (ha : ArgAll P h n [t1, t2] avs) : ∃ v1 v2, avs = [v1, v2] ∧ ArgV P h n t1 v1 ∧ ArgV P h n t2 v2 := by
  match avs, ha with
  | [v1, v2], ⟨a1, a2, _⟩ => exact ⟨v1, v2, rfl, a1, a2⟩
theorem costs_run (h : Hp) (avs : List Value) (w : Wf h) (ha : ArgAll Try.prog h 10 [25, 26] avs) : ∃ h', Runs C52 (.call 3 avs.toArray h) (.ret (.bool true) h') := by
  obtain ⟨v1, v2, rfl, a1, a2⟩ := argAll2 ha
  obtain ⟨cs1, rfl, b1⟩ := a1.agg (.inl pa25')
  obtain ⟨s, hs⟩ := room_of (n := 5) b1
  obtain ⟨cs2, rfl, b2⟩ := a2.agg (.inr pa26)
  obtain ⟨x, y, rfl⟩ := two_of (n := 8) b2
  obtain ⟨h', e⟩ := law3_at w hs x y
  exact ⟨h', r3 _ _ _ _ e⟩
end Go.Proofs.Ytepepiajmdpiiaa.K.L
namespace Go.Proofs.Ytepepiajmdpiiaa.dressCosts
open Go.ChangeShapes Go.WideShapes Go.ChangeAt Go.RowKit
theorem own : ownKnob Try.prog.godebug = none := by kernel_rfl
theorem two {H : Type} {enc : TypeId × Value → H} {W : World} {fr : Nat} {fx : Nat → Bool} {o : Bool} {P : Program} {t1 t2 : TypeId} {vs : List Value} {ds : List (DataW H)} {p : List MemPlace}
    (h : DataW.TrodAll enc P W fr fx o [t1, t2] vs ds p) : ∃ d1 d2, ds = [d1, d2] := by
  match vs, ds, h with
  | _ :: vs1, _ :: ds1, ⟨_, _, _, h, _⟩ =>
    match vs1, ds1, h with
    | _ :: vs2, _ :: ds2, ⟨_, _, _, h, _⟩ =>
      match vs2, ds2, h with
      | [], [], _ => exact ⟨_, _, rfl⟩
set_option maxRecDepth 100000 in
theorem lifted (os : Os) (started : os.Started) (H : Type) (enc : TypeId × Value → H) :
    ReturnsInHanded {} Try.checked os 3 .any (Rows.dressCostsSpec.pre6 enc Try.prog Try.f3 Rows.dressCostsRow.domain false) (Rows.dressCostsSpec.post enc Try.prog Try.f3 false true false false) := by
  refine returnsInHanded_of_change_shaped (C := Try.checked) own started (by kernel_rfl) Try.func3
    (ChangeSpec.witness6 (enc := enc) (C := Try.checked) false ⟨#[], #[.agg #[.slice none 0 0, .slice none 0 0, .slice none 0 0, .slice none 0 0], .agg #[.int .i64 0, .int .i64 0]], []⟩ 8 (by kernel_rfl) (by kernel_rfl) (by kernel_rfl) (by kernel_rfl)) ?_
  intro W base args ds gs before hval0 hW hcnd hwt hso hcalm
  have hval : ∀ (j : Nat) t v, Try.f3.params[j]? = some t → args[j]? = some v → Value.okWide Try.prog W .any base t v := hval0
  have hW' := hW
  obtain ⟨p, q, hA0, hV, rfl, hfz, hnd⟩ := hW
  have hA : DataW.TrodAll enc Try.prog W 0 (fun _ => true) true Try.f3.params.toList args.toList ds p := hA0
  rw [Try.params3] at hA hval
  obtain ⟨rfl, rfl⟩ := trodVars_none hV
  clear hA0 hval0
  simp only [List.append_nil] at hW'
  refine (law_calls2 (enc := enc) (C := K.L.C52) K.L.ok52 (f := 3) (n := 10) (b0 := base) (ts := [25, 26]) (fun h avs w _ ha => K.L.costs_run h avs w ha) hso (fun j t v h1 h2 => hval j t v (by simpa using h1) (by simpa using h2)) hA K.L.tys3).mono fun e W' ⟨he, hb⟩ => ?_
  subst he
  obtain ⟨d1, d2, rfl⟩ := two hA
  have hA2 := all_after (n := 10) hb K.L.tys3 hA
  refine ⟨_, rfl, ?_⟩
  exact ⟨[d1, d2], [], p, [], _, [], hW', trodAll_cons_mk (shut_bool Try.underlying4 _) trodAll_mk0, hA2, rfl, hb.frame _, fun h => by cases h⟩
theorem over : Rows.dressCostsRow.holds Try.pinned (OpenSpec.ofChange Rows.dressCostsSpec) :=
  OpenClaim.holds_of_wide 3 Try.f3 rfl rfl rfl rfl rfl rfl rfl ⟨rfl, rfl, rfl, rfl, rfl⟩ rfl rfl rfl rfl rfl (by kernel_rfl) Try.func3 (by kernel_rfl)
    (of_decide_eq_true (by kernel_rfl)) (by unfold Func.isWrapper; first | (rw [if_pos (by decide +kernel)]; kernel_rfl) | (rw [if_neg (by decide +kernel)]; exact ⟨rfl, rfl⟩))
    (fun os started H enc _ => lifted os started H enc)
theorem proved : Rows.DressCostsSaid := over
end Go.Proofs.Ytepepiajmdpiiaa.dressCosts
