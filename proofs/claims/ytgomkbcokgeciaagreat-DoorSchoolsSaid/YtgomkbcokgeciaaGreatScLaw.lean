/- DoorSchools returns true whatever the book, the day and the two numbers of children: schools that come as one never pay more, and at most half the Price less for each school but one; a school with more children pays no less. No condition. -/
import Derived.Test.YtgomkbcokgeciaaGreatScS10
import Derived.Test.YtgomkbcokgeciaaGreatRows
import Derived.WalkKit
import Derived.ProofKit
import Derived.OpenShut
open Go Go.bR
set_option maxRecDepth 100000
namespace Go.Proofs.YtgomkbcokgeciaaGreat.K.L
theorem bFB : [25, 5, 80].all (tF Tryz.prog 10) = true := by kernel_rfl
theorem aYS {P : Program} {h : Hp} {n : Nat} {t1 t2 t3 : TypeId} {MV : List Value} (ha : tH P h n [t1, t2, t3] MV) : ∃ v1 v2 v3, MV = [v1, v2, v3] ∧ D8 P h n t1 v1 ∧ D8 P h n t2 v2 ∧ D8 P h n t3 v3 := by
 match MV, ha with
 | [v1, v2, v3], ⟨a1, a2, a3, _⟩ => exact ⟨v1, v2, v3, rfl, a1, a2, a3⟩
theorem aDJ (h : Hp) (MV : List Value) (w : Wf h) (ha : tH Tryz.prog h 10 [25, 5, 80] MV) : ∃ h', jU C54 (.call 9 MV.toArray h) (.ret (.bool true) h') := by
 obtain ⟨v1, v2, v3, rfl, a1, a2, a3⟩ := aYS ha
 obtain ⟨cs1, rfl, b1⟩ := a1.agg (.inl bD9)
 obtain ⟨s, hs⟩ := aYA (n := 3) b1
 obtain ⟨b, hb, e2⟩ := byte_of (n := 9) (a2.flat pa5)
 obtain ⟨cs2, rfl, b3⟩ := a3.agg (.inr bPT)
 obtain ⟨l3, p3⟩ := b3.arr (n := 9) bPS
 rw [ce5] at p3
 rw [bPN] at l3
 match cs2, l3 with
 | [x, y], _ =>
  obtain ⟨ix, hx, ex⟩ := byte_of (n := 8) (p3 0 (by omega))
  obtain ⟨iy, hy, ey⟩ := byte_of (n := 8) (p3 1 (by omega))
  simp at e2 ex ey
  subst e2 ex ey
  obtain ⟨h', e⟩ := aYQ w hs b ix iy hb hx hy
  exact ⟨h', r9 _ _ _ _ e⟩
end Go.Proofs.YtgomkbcokgeciaaGreat.K.L
namespace Go.Proofs.YtgomkbcokgeciaaGreat.doorSchools
open Go.ChangeShapes Go.WideShapes Go.ChangeAt Go.RowKit
theorem own : ownKnob Tryz.prog.godebug = none := by kernel_rfl
theorem three {H : Type} {enc : TypeId × Value → H} {W : World} {fr : Nat} {fx : Nat → Bool} {o : Bool} {P : Program} {t1 t2 t3 : TypeId} {vs : List Value} {ds : List (DataW H)} {p : List MemPlace}
  (h : DataW.TrodAll enc P W fr fx o [t1, t2, t3] vs ds p) : ∃ d1 d2 d3, ds = [d1, d2, d3] := by
 match vs, ds, h with
 | _ :: vs1, _ :: ds1, ⟨_, _, _, h, _⟩ =>
  match vs1, ds1, h with
  | _ :: vs2, _ :: ds2, ⟨_, _, _, h, _⟩ =>
   match vs2, ds2, h with
   | _ :: vs3, _ :: ds3, ⟨_, _, _, h, _⟩ =>
    match vs3, ds3, h with
    | [], [], _ => exact ⟨_, _, _, rfl⟩
set_option maxRecDepth 100000 in
theorem lifted (os : Os) (started : os.Started) (H : Type) (enc : TypeId × Value → H) :
  ReturnsInHanded {} Tryz.checked os 9 .any (Rows.doorSchoolsSpec.pre6 enc Tryz.prog Tryz.f9 Rows.doorSchoolsRow.domain false) (Rows.doorSchoolsSpec.post enc Tryz.prog Tryz.f9 false true false false) := by
 refine returnsInHanded_of_change_shaped (C := Tryz.checked) own started (by kernel_rfl) Tryz.func9
  (ChangeSpec.witness6 (enc := enc) (C := Tryz.checked) false ⟨#[], #[.agg #[.int .i64 0, .slice none 0 0, .slice none 0 0], .int .u8 0, .agg #[.int .u8 0, .int .u8 0]], []⟩ 8 (by kernel_rfl) (by kernel_rfl) (by kernel_rfl) (by kernel_rfl)) ?_
 intro W base args ds gs before hval0 hW hcnd hwt hso hcalm
 have hval : ∀ (j : Nat) t v, Tryz.f9.params[j]? = some t → args[j]? = some v → Value.okWide Tryz.prog W .any base t v := hval0
 have hW' := hW
 obtain ⟨p, q, hA0, hV, rfl, hfz, hnd⟩ := hW
 have hA : DataW.TrodAll enc Tryz.prog W 0 (fun _ => true) true Tryz.f9.params.toList args.toList ds p := hA0
 rw [Tryz.params9] at hA hval
 obtain ⟨rfl, rfl⟩ := trodVars_none hV
 clear hA0 hval0
 simp only [List.append_nil] at hW'
 refine (aEV (enc := enc) (C := K.L.C54) K.L.bFC (f := 9) (n := 10) (b0 := base) (ts := [25, 5, 80]) (fun h MV w _ ha => K.L.aDJ h MV w ha) hso (fun j t v h1 h2 => hval j t v (by simpa using h1) (by simpa using h2)) hA K.L.bFB).mono fun e W' ⟨he, hb⟩ => ?_
 subst he
 obtain ⟨d1, d2, d3, rfl⟩ := three hA
 have hA2 := TN (n := 10) hb K.L.bFB hA
 refine ⟨_, rfl, ?_⟩
 exact ⟨[d1, d2, d3], [], p, [], _, [], hW', trodAll_cons_mk (shut_bool Tryz.underlying4 _) trodAll_mk0, hA2, rfl, hb.frame _, fun h => by cases h⟩
theorem over : Rows.doorSchoolsRow.holds Tryz.pinned (OpenSpec.ofChange Rows.doorSchoolsSpec) :=
 OpenClaim.holds_of_wide 9 Tryz.f9 rfl rfl rfl rfl rfl rfl rfl ⟨rfl, rfl, rfl, rfl, rfl⟩ rfl rfl rfl rfl rfl (by kernel_rfl) Tryz.func9 (by kernel_rfl)
  (of_decide_eq_true (by kernel_rfl)) (by unfold Func.isWrapper; first | (rw [if_pos (by decide +kernel)]; kernel_rfl) | (rw [if_neg (by decide +kernel)]; exact ⟨rfl, rfl⟩))
  (fun os started H enc _ => lifted os started H enc)
theorem proved : Rows.DoorSchoolsSaid := over
end Go.Proofs.YtgomkbcokgeciaaGreat.doorSchools
