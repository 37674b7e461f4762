/- RoomFate returns true whatever the house and the numbers: a figure that is safe, or lost, stays so if the weather is better known; no degrees of the warmth say otherwise; with one more stove lit no end of the warmth is less. No condition. -/
import Derived.Test.YtekocllllbdbgaaFtQ16
import Derived.Test.YtekocllllbdbgaaFtQ18
import Derived.Test.YtekocllllbdbgaaRows
import Derived.WalkKit
import Derived.ProofKit
import Derived.OpenShut
open Go Go.Eng
set_option maxRecDepth 100000
namespace Go.Proofs.Ytekocllllbdbgaa.K.L
theorem ar65 : arrT Try.prog 65 = some (3, 5) := by kernel_rfl
theorem ce65 : Try.prog.cellsOf 65 = 3 := by kernel_rfl
theorem ce5 : Try.prog.cellsOf 5 = 1 := by kernel_rfl
theorem ki5 : kindT Try.prog 5 = some .u8 := by kernel_rfl
theorem pa65 : (arrT Try.prog 65).isSome = true := by kernel_rfl
theorem pa28' : (partsT Try.prog 28).isSome = true := by kernel_rfl
theorem tys8 : [28, 65, 65].all (argTy Try.prog 10) = true := by kernel_rfl
theorem wf8_in {k : Int} (w : (Lit.int .u8 k).wf = true) : 0 ≤ k ∧ k ≤ 255 := by
  have hm1 : IntKind.u8.min = 0 := by decide +kernel
  have hm2 : IntKind.u8.max = 255 := by decide +kernel
  simp [Lit.wf] at w
  omega
theorem three_of {h : Hp} {v : Value} (a : ArgV Try.prog h 10 65 v) : ∃ x y z : Int, v = .agg (Array.mk [.int .u8 x, .int .u8 y, .int .u8 z]) ∧ (0 ≤ x ∧ x ≤ 255) ∧ (0 ≤ y ∧ y ≤ 255) ∧ (0 ≤ z ∧ z ≤ 255) := by
  obtain ⟨cs, rfl, b⟩ := a.agg (.inr pa65)
  obtain ⟨l, p⟩ := b.arr (n := 9) ar65
  rw [ce5] at p
  rw [ce65] at l
  match cs, l with
  | [x, y, z], _ =>
    obtain ⟨ix, ex, wx⟩ := (p 0 (by omega)).int (n := 8) ki5
    obtain ⟨iy, ey, wy⟩ := (p 1 (by omega)).int (n := 8) ki5
    obtain ⟨iz, ez, wz⟩ := (p 2 (by omega)).int (n := 8) ki5
    simp at ex ey ez
    subst ex ey ez
    exact ⟨ix, iy, iz, rfl, wf8_in wx, wf8_in wy, wf8_in wz⟩
theorem argAll3 {P : Program} {h : Hp} {n : Nat} {t1 t2 t3 : TypeId} {avs : List Value} (ha : ArgAll P h n [t1, t2, t3] avs) : ∃ v1 v2 v3, avs = [v1, v2, v3] ∧ ArgV P h n t1 v1 ∧ ArgV P h n t2 v2 ∧ ArgV P h n t3 v3 := by
  match avs, ha with
  | [v1, v2, v3], ⟨a1, a2, a3, _⟩ => exact ⟨v1, v2, v3, rfl, a1, a2, a3⟩
theorem fate_run (h : Hp) (avs : List Value) (w : Wf h) (ha : ArgAll Try.prog h 10 [28, 65, 65] avs) : ∃ h', Runs C76 (.call 8 avs.toArray h) (.ret (.bool true) h') := by
  obtain ⟨v1, v2, v3, rfl, a1, a2, a3⟩ := argAll3 ha
  obtain ⟨cs1, rfl, b1⟩ := a1.agg (.inl pa28')
  obtain ⟨s, hs⟩ := house_of (n := 3) b1
  obtain ⟨x0, x1, x2, rfl, bx0, bx1, bx2⟩ := three_of a2
  obtain ⟨y0, y1, y2, rfl, by0, by1, by2⟩ := three_of a3
  obtain ⟨h', e⟩ := fate8_at w hs bx0 bx1 bx2 by0 by1 by2
  exact ⟨h', r8 _ _ _ _ e⟩
end Go.Proofs.Ytekocllllbdbgaa.K.L
namespace Go.Proofs.Ytekocllllbdbgaa.roomFate
open Go.ChangeShapes Go.WideShapes Go.ChangeAt Go.RowKit
theorem own : ownKnob Try.prog.godebug = none := by kernel_rfl
theorem three {H : Type} {enc : TypeId × Value → H} {W : World} {fr : Nat} {fx : Nat → Bool} {o : Bool} {P : Program} {t1 t2 t3 : TypeId} {vs : List Value} {ds : List (DataW H)} {p : List MemPlace}
    (h : DataW.TrodAll enc P W fr fx o [t1, t2, t3] vs ds p) : ∃ d1 d2 d3, ds = [d1, d2, d3] := by
  match vs, ds, h with
  | _ :: vs1, _ :: ds1, ⟨_, _, _, h, _⟩ =>
    match vs1, ds1, h with
    | _ :: vs2, _ :: ds2, ⟨_, _, _, h, _⟩ =>
      match vs2, ds2, h with
      | _ :: vs3, _ :: ds3, ⟨_, _, _, h, _⟩ =>
        match vs3, ds3, h with
        | [], [], _ => exact ⟨_, _, _, rfl⟩
set_option maxRecDepth 100000 in
theorem lifted (os : Os) (started : os.Started) (H : Type) (enc : TypeId × Value → H) :
    ReturnsInHanded {} Try.checked os 8 .any (Rows.roomFateSpec.pre6 enc Try.prog Try.f8 Rows.roomFateRow.domain false) (Rows.roomFateSpec.post enc Try.prog Try.f8 false true false false) := by
  refine returnsInHanded_of_change_shaped (C := Try.checked) own started (by kernel_rfl) Try.func8
    (ChangeSpec.witness6 (enc := enc) (C := Try.checked) false ⟨#[], #[.agg #[.int .i64 0, .int .i64 0, .int .i64 0, .slice none 0 0, .slice none 0 0, .slice none 0 0, .slice none 0 0], .agg #[.int .u8 0, .int .u8 0, .int .u8 0], .agg #[.int .u8 0, .int .u8 0, .int .u8 0]], []⟩ 8 (by kernel_rfl) (by kernel_rfl) (by kernel_rfl) (by kernel_rfl)) ?_
  intro W base args ds gs before hval0 hW hcnd hwt hso hcalm
  have hval : ∀ (j : Nat) t v, Try.f8.params[j]? = some t → args[j]? = some v → Value.okWide Try.prog W .any base t v := hval0
  have hW' := hW
  obtain ⟨p, q, hA0, hV, rfl, hfz, hnd⟩ := hW
  have hA : DataW.TrodAll enc Try.prog W 0 (fun _ => true) true Try.f8.params.toList args.toList ds p := hA0
  rw [Try.params8] at hA hval
  obtain ⟨rfl, rfl⟩ := trodVars_none hV
  clear hA0 hval0
  simp only [List.append_nil] at hW'
  refine (law_calls2 (enc := enc) (C := K.L.C76) K.L.ok76 (f := 8) (n := 10) (b0 := base) (ts := [28, 65, 65]) (fun h avs w _ ha => K.L.fate_run h avs w ha) hso (fun j t v h1 h2 => hval j t v (by simpa using h1) (by simpa using h2)) hA K.L.tys8).mono fun e W' ⟨he, hb⟩ => ?_
  subst he
  obtain ⟨d1, d2, d3, rfl⟩ := three hA
  have hA2 := all_after (n := 10) hb K.L.tys8 hA
  refine ⟨_, rfl, ?_⟩
  exact ⟨[d1, d2, d3], [], p, [], _, [], hW', trodAll_cons_mk (shut_bool Try.underlying4 _) trodAll_mk0, hA2, rfl, hb.frame _, fun h => by cases h⟩
theorem over : Rows.roomFateRow.holds Try.pinned (OpenSpec.ofChange Rows.roomFateSpec) :=
  OpenClaim.holds_of_wide 8 Try.f8 rfl rfl rfl rfl rfl rfl rfl ⟨rfl, rfl, rfl, rfl, rfl⟩ rfl rfl rfl rfl rfl (by kernel_rfl) Try.func8 (by kernel_rfl)
    (of_decide_eq_true (by kernel_rfl)) (by unfold Func.isWrapper; first | (rw [if_pos (by decide +kernel)]; kernel_rfl) | (rw [if_neg (by decide +kernel)]; exact ⟨rfl, rfl⟩))
    (fun os started H enc _ => lifted os started H enc)
theorem proved : Rows.RoomFateSaid := over
end Go.Proofs.Ytekocllllbdbgaa.roomFate
