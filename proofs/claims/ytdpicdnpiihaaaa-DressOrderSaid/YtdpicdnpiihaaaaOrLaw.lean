/- DressOrder returns true whatever the room: with the figures in the opposite order Best costs as much, and as much must be bought; with all Costs doubled, as far as they can be, it costs twice as much, by the same plan. No condition. -/
import Derived.Test.YtdpicdnpiihaaaaOrW54
import Derived.Test.YtdpicdnpiihaaaaOrS16
import Derived.Test.YtdpicdnpiihaaaaRows
import Derived.WalkKit
import Derived.ProofKit
import Derived.OpenShut
open Go Go.bI
set_option maxRecDepth 100000
namespace Go.Proofs.Ytdpicdnpiihaaaa.K.L
theorem aUE : [25].all (tT Try.prog 10) = true := by kernel_rfl
theorem aSE {P : Program} {h : Hp} {n : Nat} {t1 : TypeId} {LW : List Value} (ha : tV P h n [t1] LW) : ∃ v1, LW = [v1] ∧ M9 P h n t1 v1 := by
 match LW, ha with
 | [v1], ⟨a1, _⟩ => exact ⟨v1, rfl, a1⟩
theorem aHR (h : Hp) (LW : List Value) (w : Wf h) (ha : tV Try.prog h 10 [25] LW) : ∃ h', eG C78 (.call 15 LW.toArray h) (.ret (.bool true) h') := by
 obtain ⟨v1, rfl, a1⟩ := aSE ha
 obtain ⟨cs1, rfl, b1⟩ := a1.agg (.inl a6F)
 obtain ⟨s, hs⟩ := aRW (n := 5) b1
 obtain ⟨h', e⟩ := aO9 w hs
 exact ⟨h', FT _ _ _ _ e⟩
end Go.Proofs.Ytdpicdnpiihaaaa.K.L
namespace Go.Proofs.Ytdpicdnpiihaaaa.dressOrder
open Go.ChangeShapes Go.WideShapes Go.ChangeAt Go.RowKit
theorem own : ownKnob Try.prog.godebug = none := by kernel_rfl
theorem bJE {H : Type} {enc : TypeId × Value → H} {W : World} {fr : Nat} {fx : Nat → Bool} {o : Bool} {P : Program} {t1 : TypeId} {vs : List Value} {ds : List (DataW H)} {p : List MemPlace}
  (h : DataW.TrodAll enc P W fr fx o [t1] vs ds p) : ∃ d1, ds = [d1] := by
 match vs, ds, h with
 | _ :: vs1, _ :: ds1, ⟨_, _, _, h, _⟩ =>
  match vs1, ds1, h with
  | [], [], _ => exact ⟨_, rfl⟩
set_option maxRecDepth 100000 in
theorem lifted (os : Os) (started : os.Started) (H : Type) (enc : TypeId × Value → H) :
  ReturnsInHanded {} Try.checked os 15 .any (Rows.dressOrderSpec.pre6 enc Try.prog Try.f15 Rows.dressOrderRow.domain false) (Rows.dressOrderSpec.post enc Try.prog Try.f15 false true false false) := by
 refine returnsInHanded_of_change_shaped (C := Try.checked) own started (by kernel_rfl) Try.func15
  (ChangeSpec.witness6 (enc := enc) (C := Try.checked) false ⟨#[], #[.agg #[.slice none 0 0, .slice none 0 0, .slice none 0 0, .slice none 0 0]], []⟩ 8 (by kernel_rfl) (by kernel_rfl) (by kernel_rfl) (by kernel_rfl)) ?_
 intro W base args ds gs before hval0 hW hcnd hwt hso hcalm
 have hval : ∀ (j : Nat) t v, Try.f15.params[j]? = some t → args[j]? = some v → Value.okWide Try.prog W .any base t v := hval0
 have hW' := hW
 obtain ⟨p, q, hA0, hV, rfl, hfz, hnd⟩ := hW
 have hA : DataW.TrodAll enc Try.prog W 0 (fun _ => true) true Try.f15.params.toList args.toList ds p := hA0
 rw [Try.params15] at hA hval
 obtain ⟨rfl, rfl⟩ := trodVars_none hV
 clear hA0 hval0
 simp only [List.append_nil] at hW'
 refine (aAQ (enc := enc) (C := K.L.C78) K.L.a5Z (f := 15) (n := 10) (b0 := base) (ts := [25]) (fun h LW w _ ha => K.L.aHR h LW w ha) hso (fun j t v h1 h2 => hval j t v (by simpa using h1) (by simpa using h2)) hA K.L.aUE).mono fun e W' ⟨he, hb⟩ => ?_
 subst he
 obtain ⟨d1, rfl⟩ := bJE hA
 have hA2 := RN (n := 10) hb K.L.aUE hA
 refine ⟨_, rfl, ?_⟩
 exact ⟨[d1], [], p, [], _, [], hW', trodAll_cons_mk (shut_bool Try.underlying4 _) trodAll_mk0, hA2, rfl, hb.frame _, fun h => by cases h⟩
theorem over : Rows.dressOrderRow.holds Try.pinned (OpenSpec.ofChange Rows.dressOrderSpec) :=
 OpenClaim.holds_of_wide 15 Try.f15 rfl rfl rfl rfl rfl rfl rfl ⟨rfl, rfl, rfl, rfl, rfl⟩ rfl rfl rfl rfl rfl (by kernel_rfl) Try.func15 (by kernel_rfl)
  (of_decide_eq_true (by kernel_rfl)) (by unfold Func.isWrapper; first | (rw [if_pos (by decide +kernel)]; kernel_rfl) | (rw [if_neg (by decide +kernel)]; exact ⟨rfl, rfl⟩))
  (fun os started H enc _ => lifted os started H enc)
theorem proved : Rows.DressOrderSaid := over
end Go.Proofs.Ytdpicdnpiihaaaa.dressOrder
