/- DressBought returns true whatever the room, and the numbers of other ounces: with the ounces of Buy a plan is allowed, and Best costs what Buy says; with any fewer ounces, together, none is; if a plan is allowed nothing must be bought, and the cost is that of Best. No condition. -/
import Derived.Test.YtdpicdnpiihaaaaBoV51
import Derived.Test.YtdpicdnpiihaaaaBoS47
import Derived.Test.YtdpicdnpiihaaaaRows
import Derived.WalkKit
import Derived.ProofKit
import Derived.OpenShut
open Go Go.bK
set_option maxRecDepth 100000
namespace Go.Proofs.Ytdpicdnpiihaaaa.K.L
theorem aS7 : [25, 48].all (tO Try.prog 10) = true := by kernel_rfl
theorem aQ7 {P : Program} {h : Hp} {n : Nat} {t1 t2 : TypeId} {LJ : List Value} (ha : tQ P h n [t1, t2] LJ) : ∃ v1 v2, LJ = [v1, v2] ∧ EQ P h n t1 v1 ∧ EQ P h n t2 v2 := by
 match LJ, ha with
 | [v1, v2], ⟨a1, a2, _⟩ => exact ⟨v1, v2, rfl, a1, a2⟩
theorem aCV (h : Hp) (LJ : List Value) (w : Wf h) (ha : tQ Try.prog h 10 [25, 48] LJ) : ∃ h', eF C76 (.call 11 LJ.toArray h) (.ret (.bool true) h') := by
 obtain ⟨v1, v2, rfl, a1, a2⟩ := aQ7 ha
 obtain ⟨cs1, rfl, b1⟩ := a1.agg (.inl a4C)
 obtain ⟨s, hs⟩ := aQO (n := 5) b1
 obtain ⟨xs, sl, hx⟩ := aNP (n := 8) (a2.flat bHA)
 obtain ⟨h', e⟩ := aN2 w hs sl hx
 exact ⟨h', kH _ _ _ _ e⟩
end Go.Proofs.Ytdpicdnpiihaaaa.K.L
namespace Go.Proofs.Ytdpicdnpiihaaaa.dressBought
open Go.ChangeShapes Go.WideShapes Go.ChangeAt Go.RowKit
theorem own : ownKnob Try.prog.godebug = none := by kernel_rfl
theorem two {H : Type} {enc : TypeId × Value → H} {W : World} {fr : Nat} {fx : Nat → Bool} {o : Bool} {P : Program} {t1 t2 : TypeId} {vs : List Value} {ds : List (DataW H)} {p : List MemPlace}
  (h : DataW.TrodAll enc P W fr fx o [t1, t2] vs ds p) : ∃ d1 d2, ds = [d1, d2] := by
 match vs, ds, h with
 | _ :: vs1, _ :: ds1, ⟨_, _, _, h, _⟩ =>
  match vs1, ds1, h with
  | _ :: vs2, _ :: ds2, ⟨_, _, _, h, _⟩ =>
   match vs2, ds2, h with
   | [], [], _ => exact ⟨_, _, rfl⟩
set_option maxRecDepth 100000 in
theorem lifted (os : Os) (started : os.Started) (H : Type) (enc : TypeId × Value → H) :
  ReturnsInHanded {} Try.checked os 11 .any (Rows.dressBoughtSpec.pre6 enc Try.prog Try.f11 Rows.dressBoughtRow.domain false) (Rows.dressBoughtSpec.post enc Try.prog Try.f11 false true false false) := by
 refine returnsInHanded_of_change_shaped (C := Try.checked) own started (by kernel_rfl) Try.func11
  (ChangeSpec.witness6 (enc := enc) (C := Try.checked) false ⟨#[], #[.agg #[.slice none 0 0, .slice none 0 0, .slice none 0 0, .slice none 0 0], .slice none 0 0], []⟩ 8 (by kernel_rfl) (by kernel_rfl) (by kernel_rfl) (by kernel_rfl)) ?_
 intro W base args ds gs before hval0 hW hcnd hwt hso hcalm
 have hval : ∀ (j : Nat) t v, Try.f11.params[j]? = some t → args[j]? = some v → Value.okWide Try.prog W .any base t v := hval0
 have hW' := hW
 obtain ⟨p, q, hA0, hV, rfl, hfz, hnd⟩ := hW
 have hA : DataW.TrodAll enc Try.prog W 0 (fun _ => true) true Try.f11.params.toList args.toList ds p := hA0
 rw [Try.params11] at hA hval
 obtain ⟨rfl, rfl⟩ := trodVars_none hV
 clear hA0 hval0
 simp only [List.append_nil] at hW'
 refine (Z0 (enc := enc) (C := K.L.C76) K.L.a3X (f := 11) (n := 10) (b0 := base) (ts := [25, 48]) (fun h LJ w _ ha => K.L.aCV h LJ w ha) hso (fun j t v h1 h2 => hval j t v (by simpa using h1) (by simpa using h2)) hA K.L.aS7).mono fun e W' ⟨he, hb⟩ => ?_
 subst he
 obtain ⟨d1, d2, rfl⟩ := two hA
 have hA2 := QZ (n := 10) hb K.L.aS7 hA
 refine ⟨_, rfl, ?_⟩
 exact ⟨[d1, d2], [], p, [], _, [], hW', trodAll_cons_mk (shut_bool Try.underlying4 _) trodAll_mk0, hA2, rfl, hb.frame _, fun h => by cases h⟩
theorem over : Rows.dressBoughtRow.holds Try.pinned (OpenSpec.ofChange Rows.dressBoughtSpec) :=
 OpenClaim.holds_of_wide 11 Try.f11 rfl rfl rfl rfl rfl rfl rfl ⟨rfl, rfl, rfl, rfl, rfl⟩ rfl rfl rfl rfl rfl (by kernel_rfl) Try.func11 (by kernel_rfl)
  (of_decide_eq_true (by kernel_rfl)) (by unfold Func.isWrapper; first | (rw [if_pos (by decide +kernel)]; kernel_rfl) | (rw [if_neg (by decide +kernel)]; exact ⟨rfl, rfl⟩))
  (fun os started H enc _ => lifted os started H enc)
theorem proved : Rows.DressBoughtSaid := over
end Go.Proofs.Ytdpicdnpiihaaaa.dressBought
