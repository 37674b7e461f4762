/- RoomFates returns true whatever the house, the figure, the place and the stoves: Check, Warmth and Fate return what the document says. No condition. -/
import Derived.Test.YtekocllllbdbgaaFtS16
import Derived.Test.YtekocllllbdbgaaRows
import Derived.WalkKit
import Derived.ProofKit
import Derived.OpenShut
open Go Go.Eng
set_option maxRecDepth 100000
namespace Go.Proofs.Ytekocllllbdbgaa.K.L
theorem ar29 : arrT Try.prog 29 = some (2, 3) := by kernel_rfl
theorem ce29 : Try.prog.cellsOf 29 = 2 := by kernel_rfl
theorem pa3 : partsT Try.prog 3 = none ∧ arrT Try.prog 3 = none := ⟨by kernel_rfl, by kernel_rfl⟩
theorem pa29 : (arrT Try.prog 29).isSome = true := by kernel_rfl
theorem pa28' : (partsT Try.prog 28).isSome = true := by kernel_rfl
theorem tys3 : [28, 29, 3].all (argTy Try.prog 10) = true := by kernel_rfl
theorem argAll3 {P : Program} {h : Hp} {n : Nat} {t1 t2 t3 : TypeId} {avs : List Value} (ha : ArgAll P h n [t1, t2, t3] avs) : ∃ v1 v2 v3, avs = [v1, v2, v3] ∧ ArgV P h n t1 v1 ∧ ArgV P h n t2 v2 ∧ ArgV P h n t3 v3 := by
  match avs, ha with
  | [v1, v2, v3], ⟨a1, a2, a3, _⟩ => exact ⟨v1, v2, v3, rfl, a1, a2, a3⟩
theorem fates_run (h : Hp) (avs : List Value) (w : Wf h) (ha : ArgAll Try.prog h 10 [28, 29, 3] avs) : ∃ h', Runs C78 (.call 3 avs.toArray h) (.ret (.bool true) h') := by
  obtain ⟨v1, v2, v3, rfl, a1, a2, a3⟩ := argAll3 ha
  · obtain ⟨cs1, rfl, b1⟩ := a1.agg (.inl pa28')
    obtain ⟨s, hs⟩ := house_of (n := 3) b1
    obtain ⟨cs2, rfl, b2⟩ := a2.agg (.inr pa29)
    obtain ⟨l2, p2⟩ := b2.arr (n := 9) ar29
    obtain ⟨i3, e3, _⟩ := (a3.flat pa3).int (n := 9) ki3
    rw [ce3] at p2
    rw [ce29] at l2
    match cs2, l2 with
    | [x, y], _ =>
      obtain ⟨ix, ex, _⟩ := (p2 0 (by omega)).int (n := 8) ki3
      obtain ⟨iy, ey, _⟩ := (p2 1 (by omega)).int (n := 8) ki3
      simp at e3 ex ey
      subst e3 ex ey
      obtain ⟨h', e⟩ := fates3_at w hs ix iy i3
      exact ⟨h', r3 _ _ _ _ e⟩
end Go.Proofs.Ytekocllllbdbgaa.K.L
namespace Go.Proofs.Ytekocllllbdbgaa.roomFates
open Go.ChangeShapes Go.WideShapes Go.ChangeAt Go.RowKit
theorem own : ownKnob Try.prog.godebug = none := by kernel_rfl
theorem three {H : Type} {enc : TypeId × Value → H} {W : World} {fr : Nat} {fx : Nat → Bool} {o : Bool} {P : Program} {t1 t2 t3 : TypeId} {vs : List Value} {ds : List (DataW H)} {p : List MemPlace}
    (h : DataW.TrodAll enc P W fr fx o [t1, t2, t3] vs ds p) : ∃ d1 d2 d3, ds = [d1, d2, d3] := by
  match vs, ds, h with
  | _ :: vs1, _ :: ds1, ⟨_, _, _, h, _⟩ =>
    match vs1, ds1, h with
    | _ :: vs2, _ :: ds2, ⟨_, _, _, h, _⟩ =>
      match vs2, ds2, h with
      | _ :: vs3, _ :: ds3, ⟨_, _, _, h, _⟩ =>
        match vs3, ds3, h with
        | [], [], _ => exact ⟨_, _, _, rfl⟩
set_option maxRecDepth 100000 in
theorem lifted (os : Os) (started : os.Started) (H : Type) (enc : TypeId × Value → H) :
    ReturnsInHanded {} Try.checked os 3 .any (Rows.roomFatesSpec.pre6 enc Try.prog Try.f3 Rows.roomFatesRow.domain false) (Rows.roomFatesSpec.post enc Try.prog Try.f3 false true false false) := by
  refine returnsInHanded_of_change_shaped (C := Try.checked) own started (by kernel_rfl) Try.func3
    (ChangeSpec.witness6 (enc := enc) (C := Try.checked) false ⟨#[], #[.agg #[.int .i64 0, .int .i64 0, .int .i64 0, .slice none 0 0, .slice none 0 0, .slice none 0 0, .slice none 0 0], .agg #[.int .i64 0, .int .i64 0], .int .i64 0], []⟩ 8 (by kernel_rfl) (by kernel_rfl) (by kernel_rfl) (by kernel_rfl)) ?_
  intro W base args ds gs before hval0 hW hcnd hwt hso hcalm
  have hval : ∀ (j : Nat) t v, Try.f3.params[j]? = some t → args[j]? = some v → Value.okWide Try.prog W .any base t v := hval0
  have hW' := hW
  obtain ⟨p, q, hA0, hV, rfl, hfz, hnd⟩ := hW
  have hA : DataW.TrodAll enc Try.prog W 0 (fun _ => true) true Try.f3.params.toList args.toList ds p := hA0
  rw [Try.params3] at hA hval
  obtain ⟨rfl, rfl⟩ := trodVars_none hV
  clear hA0 hval0
  simp only [List.append_nil] at hW'
  refine (law_calls2 (enc := enc) (C := K.L.C78) K.L.ok78 (f := 3) (n := 10) (b0 := base) (ts := [28, 29, 3]) (fun h avs w _ ha => K.L.fates_run h avs w ha) hso (fun j t v h1 h2 => hval j t v (by simpa using h1) (by simpa using h2)) hA K.L.tys3).mono fun e W' ⟨he, hb⟩ => ?_
  subst he
  obtain ⟨d1, d2, d3, rfl⟩ := three hA
  have hA2 := all_after (n := 10) hb K.L.tys3 hA
  refine ⟨_, rfl, ?_⟩
  exact ⟨[d1, d2, d3], [], p, [], _, [], hW', trodAll_cons_mk (shut_bool Try.underlying4 _) trodAll_mk0, hA2, rfl, hb.frame _, fun h => by cases h⟩
theorem over : Rows.roomFatesRow.holds Try.pinned (OpenSpec.ofChange Rows.roomFatesSpec) :=
  OpenClaim.holds_of_wide 3 Try.f3 rfl rfl rfl rfl rfl rfl rfl ⟨rfl, rfl, rfl, rfl, rfl⟩ rfl rfl rfl rfl rfl (by kernel_rfl) Try.func3 (by kernel_rfl)
    (of_decide_eq_true (by kernel_rfl)) (by unfold Func.isWrapper; first | (rw [if_pos (by decide +kernel)]; kernel_rfl) | (rw [if_neg (by decide +kernel)]; exact ⟨rfl, rfl⟩))
    (fun os started H enc _ => lifted os started H enc)
theorem proved : Rows.RoomFatesSaid := over
end Go.Proofs.Ytekocllllbdbgaa.roomFates
