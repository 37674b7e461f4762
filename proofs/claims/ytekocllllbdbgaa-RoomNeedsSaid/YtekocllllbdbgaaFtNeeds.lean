/- RoomNeeds returns true whatever the house, the figure and the stoves: with the stoves of Needs the figure is safe somewhere, with any fewer, or as many and a lesser number, nowhere. No condition. -/
import Derived.Test.YtekocllllbdbgaaFtN16
import Derived.Test.YtekocllllbdbgaaFtN18
import Derived.Test.YtekocllllbdbgaaRows
import Derived.WalkKit
import Derived.ProofKit
import Derived.OpenShut
open Go Go.Eng
set_option maxRecDepth 100000
namespace Go.Proofs.Ytekocllllbdbgaa.K.L
theorem ki5 : kindT Try.prog 5 = some .u8 := by kernel_rfl
theorem pa5 : partsT Try.prog 5 = none ∧ arrT Try.prog 5 = none := ⟨by kernel_rfl, by kernel_rfl⟩
theorem pa28' : (partsT Try.prog 28).isSome = true := by kernel_rfl
theorem tys11 : [28, 5, 5].all (argTy Try.prog 10) = true := by kernel_rfl
theorem argAll3 {P : Program} {h : Hp} {n : Nat} {t1 t2 t3 : TypeId} {avs : List Value} (ha : ArgAll P h n [t1, t2, t3] avs) : ∃ v1 v2 v3, avs = [v1, v2, v3] ∧ ArgV P h n t1 v1 ∧ ArgV P h n t2 v2 ∧ ArgV P h n t3 v3 := by
  match avs, ha with
  | [v1, v2, v3], ⟨a1, a2, a3, _⟩ => exact ⟨v1, v2, v3, rfl, a1, a2, a3⟩
theorem needs_run (h : Hp) (avs : List Value) (w : Wf h) (ha : ArgAll Try.prog h 10 [28, 5, 5] avs) : ∃ h', Runs C77 (.call 11 avs.toArray h) (.ret (.bool true) h') := by
  obtain ⟨v1, v2, v3, rfl, a1, a2, a3⟩ := argAll3 ha
  obtain ⟨cs1, rfl, b1⟩ := a1.agg (.inl pa28')
  obtain ⟨s, hs⟩ := house_of (n := 3) b1
  obtain ⟨i2, e2, w2⟩ := (a2.flat pa5).int (n := 9) ki5
  obtain ⟨i3, e3, w3⟩ := (a3.flat pa5).int (n := 9) ki5
  simp at e2 e3
  subst e2 e3
  have hm1 : IntKind.u8.min = 0 := by decide +kernel
  have hm2 : IntKind.u8.max = 255 := by decide +kernel
  have b2 : 0 ≤ i2 ∧ i2 ≤ 255 := by
    simp [Lit.wf] at w2
    omega
  have b3 : 0 ≤ i3 ∧ i3 ≤ 255 := by
    simp [Lit.wf] at w3
    omega
  obtain ⟨h', e⟩ := needs11_at w hs b2 b3
  exact ⟨h', r11 _ _ _ _ e⟩
end Go.Proofs.Ytekocllllbdbgaa.K.L
namespace Go.Proofs.Ytekocllllbdbgaa.roomNeeds
open Go.ChangeShapes Go.WideShapes Go.ChangeAt Go.RowKit
theorem own : ownKnob Try.prog.godebug = none := by kernel_rfl
theorem three {H : Type} {enc : TypeId × Value → H} {W : World} {fr : Nat} {fx : Nat → Bool} {o : Bool} {P : Program} {t1 t2 t3 : TypeId} {vs : List Value} {ds : List (DataW H)} {p : List MemPlace}
    (h : DataW.TrodAll enc P W fr fx o [t1, t2, t3] vs ds p) : ∃ d1 d2 d3, ds = [d1, d2, d3] := by
  match vs, ds, h with
  | _ :: vs1, _ :: ds1, ⟨_, _, _, h, _⟩ =>
    match vs1, ds1, h with
    | _ :: vs2, _ :: ds2, ⟨_, _, _, h, _⟩ =>
      match vs2, ds2, h with
      | _ :: vs3, _ :: ds3, ⟨_, _, _, h, _⟩ =>
        match vs3, ds3, h with
        | [], [], _ => exact ⟨_, _, _, rfl⟩
set_option maxRecDepth 100000 in
theorem lifted (os : Os) (started : os.Started) (H : Type) (enc : TypeId × Value → H) :
    ReturnsInHanded {} Try.checked os 11 .any (Rows.roomNeedsSpec.pre6 enc Try.prog Try.f11 Rows.roomNeedsRow.domain false) (Rows.roomNeedsSpec.post enc Try.prog Try.f11 false true false false) := by
  refine returnsInHanded_of_change_shaped (C := Try.checked) own started (by kernel_rfl) Try.func11
    (ChangeSpec.witness6 (enc := enc) (C := Try.checked) false ⟨#[], #[.agg #[.int .i64 0, .int .i64 0, .int .i64 0, .slice none 0 0, .slice none 0 0, .slice none 0 0, .slice none 0 0], .int .u8 0, .int .u8 0], []⟩ 8 (by kernel_rfl) (by kernel_rfl) (by kernel_rfl) (by kernel_rfl)) ?_
  intro W base args ds gs before hval0 hW hcnd hwt hso hcalm
  have hval : ∀ (j : Nat) t v, Try.f11.params[j]? = some t → args[j]? = some v → Value.okWide Try.prog W .any base t v := hval0
  have hW' := hW
  obtain ⟨p, q, hA0, hV, rfl, hfz, hnd⟩ := hW
  have hA : DataW.TrodAll enc Try.prog W 0 (fun _ => true) true Try.f11.params.toList args.toList ds p := hA0
  rw [Try.params11] at hA hval
  obtain ⟨rfl, rfl⟩ := trodVars_none hV
  clear hA0 hval0
  simp only [List.append_nil] at hW'
  refine (law_calls2 (enc := enc) (C := K.L.C77) K.L.ok77 (f := 11) (n := 10) (b0 := base) (ts := [28, 5, 5]) (fun h avs w _ ha => K.L.needs_run h avs w ha) hso (fun j t v h1 h2 => hval j t v (by simpa using h1) (by simpa using h2)) hA K.L.tys11).mono fun e W' ⟨he, hb⟩ => ?_
  subst he
  obtain ⟨d1, d2, d3, rfl⟩ := three hA
  have hA2 := all_after (n := 10) hb K.L.tys11 hA
  refine ⟨_, rfl, ?_⟩
  exact ⟨[d1, d2, d3], [], p, [], _, [], hW', trodAll_cons_mk (shut_bool Try.underlying4 _) trodAll_mk0, hA2, rfl, hb.frame _, fun h => by cases h⟩
theorem over : Rows.roomNeedsRow.holds Try.pinned (OpenSpec.ofChange Rows.roomNeedsSpec) :=
  OpenClaim.holds_of_wide 11 Try.f11 rfl rfl rfl rfl rfl rfl rfl ⟨rfl, rfl, rfl, rfl, rfl⟩ rfl rfl rfl rfl rfl (by kernel_rfl) Try.func11 (by kernel_rfl)
    (of_decide_eq_true (by kernel_rfl)) (by unfold Func.isWrapper; first | (rw [if_pos (by decide +kernel)]; kernel_rfl) | (rw [if_neg (by decide +kernel)]; exact ⟨rfl, rfl⟩))
    (fun os started H enc _ => lifted os started H enc)
theorem proved : Rows.RoomNeedsSaid := over
end Go.Proofs.Ytekocllllbdbgaa.roomNeeds
