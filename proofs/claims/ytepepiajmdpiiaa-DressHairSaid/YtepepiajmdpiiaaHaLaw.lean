/- DressHair returns true whatever the room, and the numbers that choose a plan: what is left is, together, all Ounces, and the Hair of figures whose hair is changed, less that of their persons. No condition. -/
import Derived.Test.YtepepiajmdpiiaaHaS31
import Derived.Test.YtepepiajmdpiiaaRows
import Derived.WalkKit
import Derived.ProofKit
import Derived.OpenShut
open Go Go.Eng
set_option maxRecDepth 100000
namespace Go.Proofs.Ytepepiajmdpiiaa.K.L
theorem aO9 : [25, 48].all (rD Try.prog 10) = true := by kernel_rfl
theorem aNN {P : Program} {h : Hp} {n : Nat} {t1 t2 : TypeId} {JZ : List Value} (ha : rE P h n [t1, t2] JZ) : ∃ v1 v2, JZ = [v1, v2] ∧ CQ P h n t1 v1 ∧ CQ P h n t2 v2 := by
 match JZ, ha with
 | [v1, v2], ⟨a1, a2, _⟩ => exact ⟨v1, v2, rfl, a1, a2⟩
theorem aJT (h : Hp) (JZ : List Value) (w : Wf h) (ha : rE Try.prog h 10 [25, 48] JZ) : ∃ h', gW C65 (.call 12 JZ.toArray h) (.ret (.bool true) h') := by
 obtain ⟨v1, v2, rfl, a1, a2⟩ := aNN ha
 obtain ⟨cs1, rfl, b1⟩ := a1.agg (.inl aXN)
 obtain ⟨s, hs⟩ := aM9 (n := 5) b1
 obtain ⟨xs, sl, hx⟩ := aJO (n := 8) (a2.flat bCZ)
 obtain ⟨h', e⟩ := aJN w hs sl hx
 exact ⟨h', kT _ _ _ _ e⟩
end Go.Proofs.Ytepepiajmdpiiaa.K.L
namespace Go.Proofs.Ytepepiajmdpiiaa.dressHair
open Go.ChangeShapes Go.WideShapes Go.ChangeAt Go.RowKit
theorem own : ownKnob Try.prog.godebug = none := by kernel_rfl
theorem two {H : Type} {enc : TypeId × Value → H} {W : World} {fr : Nat} {fx : Nat → Bool} {o : Bool} {P : Program} {t1 t2 : TypeId} {vs : List Value} {ds : List (DataW H)} {p : List MemPlace}
  (h : DataW.TrodAll enc P W fr fx o [t1, t2] vs ds p) : ∃ d1 d2, ds = [d1, d2] := by
 match vs, ds, h with
 | _ :: vs1, _ :: ds1, ⟨_, _, _, h, _⟩ =>
  match vs1, ds1, h with
  | _ :: vs2, _ :: ds2, ⟨_, _, _, h, _⟩ =>
   match vs2, ds2, h with
   | [], [], _ => exact ⟨_, _, rfl⟩
set_option maxRecDepth 100000 in
theorem lifted (os : Os) (started : os.Started) (H : Type) (enc : TypeId × Value → H) :
  ReturnsInHanded {} Try.checked os 12 .any (Rows.dressHairSpec.pre6 enc Try.prog Try.f12 Rows.dressHairRow.domain false) (Rows.dressHairSpec.post enc Try.prog Try.f12 false true false false) := by
 refine returnsInHanded_of_change_shaped (C := Try.checked) own started (by kernel_rfl) Try.func12
  (ChangeSpec.witness6 (enc := enc) (C := Try.checked) false ⟨#[], #[.agg #[.slice none 0 0, .slice none 0 0, .slice none 0 0, .slice none 0 0], .slice none 0 0], []⟩ 8 (by kernel_rfl) (by kernel_rfl) (by kernel_rfl) (by kernel_rfl)) ?_
 intro W base args ds gs before hval0 hW hcnd hwt hso hcalm
 have hval : ∀ (j : Nat) t v, Try.f12.params[j]? = some t → args[j]? = some v → Value.okWide Try.prog W .any base t v := hval0
 have hW' := hW
 obtain ⟨p, q, hA0, hV, rfl, hfz, hnd⟩ := hW
 have hA : DataW.TrodAll enc Try.prog W 0 (fun _ => true) true Try.f12.params.toList args.toList ds p := hA0
 rw [Try.params12] at hA hval
 obtain ⟨rfl, rfl⟩ := trodVars_none hV
 clear hA0 hval0
 simp only [List.append_nil] at hW'
 refine (X7 (enc := enc) (C := K.L.C65) K.L.aYU (f := 12) (n := 10) (b0 := base) (ts := [25, 48]) (fun h JZ w _ ha => K.L.aJT h JZ w ha) hso (fun j t v h1 h2 => hval j t v (by simpa using h1) (by simpa using h2)) hA K.L.aO9).mono fun e W' ⟨he, hb⟩ => ?_
 subst he
 obtain ⟨d1, d2, rfl⟩ := two hA
 have hA2 := OM (n := 10) hb K.L.aO9 hA
 refine ⟨_, rfl, ?_⟩
 exact ⟨[d1, d2], [], p, [], _, [], hW', trodAll_cons_mk (shut_bool Try.underlying4 _) trodAll_mk0, hA2, rfl, hb.frame _, fun h => by cases h⟩
theorem over : Rows.dressHairRow.holds Try.pinned (OpenSpec.ofChange Rows.dressHairSpec) :=
 OpenClaim.holds_of_wide 12 Try.f12 rfl rfl rfl rfl rfl rfl rfl ⟨rfl, rfl, rfl, rfl, rfl⟩ rfl rfl rfl rfl rfl (by kernel_rfl) Try.func12 (by kernel_rfl)
  (of_decide_eq_true (by kernel_rfl)) (by unfold Func.isWrapper; first | (rw [if_pos (by decide +kernel)]; kernel_rfl) | (rw [if_neg (by decide +kernel)]; exact ⟨rfl, rfl⟩))
  (fun os started H enc _ => lifted os started H enc)
theorem proved : Rows.DressHairSaid := over
end Go.Proofs.Ytepepiajmdpiiaa.dressHair
