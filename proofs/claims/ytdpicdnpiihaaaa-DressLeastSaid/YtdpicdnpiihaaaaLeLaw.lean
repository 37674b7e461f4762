/- DressLeast returns true whatever the room, and the numbers that choose another plan: the plan of Best is allowed, and costs what it says; no plan that is allowed costs less, or as much and comes before. No condition. -/
import Derived.Test.YtdpicdnpiihaaaaLeS47
import Derived.Test.YtdpicdnpiihaaaaRows
import Derived.WalkKit
import Derived.ProofKit
import Derived.OpenShut
open Go Go.bK
set_option maxRecDepth 100000
namespace Go.Proofs.Ytdpicdnpiihaaaa.K.L
theorem a6S : [25, 48].all (tK Try.prog 10) = true := by kernel_rfl
theorem aSW {P : Program} {h : Hp} {n : Nat} {t1 t2 : TypeId} {L6 : List Value} (ha : tN P h n [t1, t2] L6) : ∃ v1 v2, L6 = [v1, v2] ∧ E8 P h n t1 v1 ∧ E8 P h n t2 v2 := by
 match L6, ha with
 | [v1, v2], ⟨a1, a2, _⟩ => exact ⟨v1, v2, rfl, a1, a2⟩
theorem aHP (h : Hp) (L6 : List Value) (w : Wf h) (ha : tN Try.prog h 10 [25, 48] L6) : ∃ h', fB C73 (.call 8 L6.toArray h) (.ret (.bool true) h') := by
 obtain ⟨v1, v2, rfl, a1, a2⟩ := aSW ha
 obtain ⟨cs1, rfl, b1⟩ := a1.agg (.inl a5W)
 obtain ⟨s, hs⟩ := aSF (n := 5) b1
 obtain ⟨xs, sl, hx⟩ := aPO (n := 8) (a2.flat bH0)
 obtain ⟨h', e⟩ := aST w hs sl hx
 exact ⟨h', r8 _ _ _ _ e⟩
end Go.Proofs.Ytdpicdnpiihaaaa.K.L
namespace Go.Proofs.Ytdpicdnpiihaaaa.dressLeast
open Go.ChangeShapes Go.WideShapes Go.ChangeAt Go.RowKit
theorem own : ownKnob Try.prog.godebug = none := by kernel_rfl
theorem two {H : Type} {enc : TypeId × Value → H} {W : World} {fr : Nat} {fx : Nat → Bool} {o : Bool} {P : Program} {t1 t2 : TypeId} {vs : List Value} {ds : List (DataW H)} {p : List MemPlace}
  (h : DataW.TrodAll enc P W fr fx o [t1, t2] vs ds p) : ∃ d1 d2, ds = [d1, d2] := by
 match vs, ds, h with
 | _ :: vs1, _ :: ds1, ⟨_, _, _, h, _⟩ =>
  match vs1, ds1, h with
  | _ :: vs2, _ :: ds2, ⟨_, _, _, h, _⟩ =>
   match vs2, ds2, h with
   | [], [], _ => exact ⟨_, _, rfl⟩
set_option maxRecDepth 100000 in
theorem lifted (os : Os) (started : os.Started) (H : Type) (enc : TypeId × Value → H) :
  ReturnsInHanded {} Try.checked os 8 .any (Rows.dressLeastSpec.pre6 enc Try.prog Try.f8 Rows.dressLeastRow.domain false) (Rows.dressLeastSpec.post enc Try.prog Try.f8 false true false false) := by
 refine returnsInHanded_of_change_shaped (C := Try.checked) own started (by kernel_rfl) Try.func8
  (ChangeSpec.witness6 (enc := enc) (C := Try.checked) false ⟨#[], #[.agg #[.slice none 0 0, .slice none 0 0, .slice none 0 0, .slice none 0 0], .slice none 0 0], []⟩ 8 (by kernel_rfl) (by kernel_rfl) (by kernel_rfl) (by kernel_rfl)) ?_
 intro W base args ds gs before hval0 hW hcnd hwt hso hcalm
 have hval : ∀ (j : Nat) t v, Try.f8.params[j]? = some t → args[j]? = some v → Value.okWide Try.prog W .any base t v := hval0
 have hW' := hW
 obtain ⟨p, q, hA0, hV, rfl, hfz, hnd⟩ := hW
 have hA : DataW.TrodAll enc Try.prog W 0 (fun _ => true) true Try.f8.params.toList args.toList ds p := hA0
 rw [Try.params8] at hA hval
 obtain ⟨rfl, rfl⟩ := trodVars_none hV
 clear hA0 hval0
 simp only [List.append_nil] at hW'
 refine (aAM (enc := enc) (C := K.L.C73) K.L.a5S (f := 8) (n := 10) (b0 := base) (ts := [25, 48]) (fun h L6 w _ ha => K.L.aHP h L6 w ha) hso (fun j t v h1 h2 => hval j t v (by simpa using h1) (by simpa using h2)) hA K.L.a6S).mono fun e W' ⟨he, hb⟩ => ?_
 subst he
 obtain ⟨d1, d2, rfl⟩ := two hA
 have hA2 := RJ (n := 10) hb K.L.a6S hA
 refine ⟨_, rfl, ?_⟩
 exact ⟨[d1, d2], [], p, [], _, [], hW', trodAll_cons_mk (shut_bool Try.underlying4 _) trodAll_mk0, hA2, rfl, hb.frame _, fun h => by cases h⟩
theorem over : Rows.dressLeastRow.holds Try.pinned (OpenSpec.ofChange Rows.dressLeastSpec) :=
 OpenClaim.holds_of_wide 8 Try.f8 rfl rfl rfl rfl rfl rfl rfl ⟨rfl, rfl, rfl, rfl, rfl⟩ rfl rfl rfl rfl rfl (by kernel_rfl) Try.func8 (by kernel_rfl)
  (of_decide_eq_true (by kernel_rfl)) (by unfold Func.isWrapper; first | (rw [if_pos (by decide +kernel)]; kernel_rfl) | (rw [if_neg (by decide +kernel)]; exact ⟨rfl, rfl⟩))
  (fun os started H enc _ => lifted os started H enc)
theorem proved : Rows.DressLeastSaid := over
end Go.Proofs.Ytdpicdnpiihaaaa.dressLeast
