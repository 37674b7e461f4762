/- DressAs returns true whatever the room, the figure and the person: a figure that looks like the person in all kinds costs nothing, and if persons are figures, each with its own looks, Best costs nothing. No condition. -/
import Derived.Test.YtdpicdnpiihaaaaAsQ52
import Derived.Test.YtdpicdnpiihaaaaRows
import Derived.WalkKit
import Derived.ProofKit
import Derived.OpenShut
open Go Go.bG
set_option maxRecDepth 100000
namespace Go.Proofs.Ytdpicdnpiihaaaa.K.L
theorem aSN : [25, 64].all (sO Try.prog 10) = true := by kernel_rfl
theorem aQL {P : Program} {h : Hp} {n : Nat} {t1 t2 : TypeId} {KV : List Value} (ha : sP P h n [t1, t2] KV) : ∃ v1 v2, KV = [v1, v2] ∧ KU P h n t1 v1 ∧ KU P h n t2 v2 := by
 match KV, ha with
 | [v1, v2], ⟨a1, a2, _⟩ => exact ⟨v1, v2, rfl, a1, a2⟩
theorem aVT (h : Hp) (KV : List Value) (w : Wf h) (ha : sP Try.prog h 10 [25, 64] KV) : ∃ h', eF C74 (.call 14 KV.toArray h) (.ret (.bool true) h') := by
 obtain ⟨v1, v2, rfl, a1, a2⟩ := aQL ha
 obtain ⟨cs1, rfl, b1⟩ := a1.agg (.inl a3D)
 obtain ⟨s, hs⟩ := aP5 (n := 5) b1
 obtain ⟨cs2, rfl, b2⟩ := a2.agg (.inr bF6)
 obtain ⟨x, y, rfl, hx, hy⟩ := aF7 (n := 8) b2
 obtain ⟨h', e⟩ := aNK w hs hx hy
 exact ⟨h', OM _ _ _ _ e⟩
end Go.Proofs.Ytdpicdnpiihaaaa.K.L
namespace Go.Proofs.Ytdpicdnpiihaaaa.dressAs
open Go.ChangeShapes Go.WideShapes Go.ChangeAt Go.RowKit
theorem own : ownKnob Try.prog.godebug = none := by kernel_rfl
theorem two {H : Type} {enc : TypeId × Value → H} {W : World} {fr : Nat} {fx : Nat → Bool} {o : Bool} {P : Program} {t1 t2 : TypeId} {vs : List Value} {ds : List (DataW H)} {p : List MemPlace}
  (h : DataW.TrodAll enc P W fr fx o [t1, t2] vs ds p) : ∃ d1 d2, ds = [d1, d2] := by
 match vs, ds, h with
 | _ :: vs1, _ :: ds1, ⟨_, _, _, h, _⟩ =>
  match vs1, ds1, h with
  | _ :: vs2, _ :: ds2, ⟨_, _, _, h, _⟩ =>
   match vs2, ds2, h with
   | [], [], _ => exact ⟨_, _, rfl⟩
set_option maxRecDepth 100000 in
theorem lifted (os : Os) (started : os.Started) (H : Type) (enc : TypeId × Value → H) :
  ReturnsInHanded {} Try.checked os 14 .any (Rows.dressAsSpec.pre6 enc Try.prog Try.f14 Rows.dressAsRow.domain false) (Rows.dressAsSpec.post enc Try.prog Try.f14 false true false false) := by
 refine returnsInHanded_of_change_shaped (C := Try.checked) own started (by kernel_rfl) Try.func14
  (ChangeSpec.witness6 (enc := enc) (C := Try.checked) false ⟨#[], #[.agg #[.slice none 0 0, .slice none 0 0, .slice none 0 0, .slice none 0 0], .agg #[.int .u8 0, .int .u8 0]], []⟩ 8 (by kernel_rfl) (by kernel_rfl) (by kernel_rfl) (by kernel_rfl)) ?_
 intro W base args ds gs before hval0 hW hcnd hwt hso hcalm
 have hval : ∀ (j : Nat) t v, Try.f14.params[j]? = some t → args[j]? = some v → Value.okWide Try.prog W .any base t v := hval0
 have hW' := hW
 obtain ⟨p, q, hA0, hV, rfl, hfz, hnd⟩ := hW
 have hA : DataW.TrodAll enc Try.prog W 0 (fun _ => true) true Try.f14.params.toList args.toList ds p := hA0
 rw [Try.params14] at hA hval
 obtain ⟨rfl, rfl⟩ := trodVars_none hV
 clear hA0 hval0
 simp only [List.append_nil] at hW'
 refine (Y8 (enc := enc) (C := K.L.C74) K.L.aUL (f := 14) (n := 10) (b0 := base) (ts := [25, 64]) (fun h KV w _ ha => K.L.aVT h KV w ha) hso (fun j t v h1 h2 => hval j t v (by simpa using h1) (by simpa using h2)) hA K.L.aSN).mono fun e W' ⟨he, hb⟩ => ?_
 subst he
 obtain ⟨d1, d2, rfl⟩ := two hA
 have hA2 := QF (n := 10) hb K.L.aSN hA
 refine ⟨_, rfl, ?_⟩
 exact ⟨[d1, d2], [], p, [], _, [], hW', trodAll_cons_mk (shut_bool Try.underlying4 _) trodAll_mk0, hA2, rfl, hb.frame _, fun h => by cases h⟩
theorem over : Rows.dressAsRow.holds Try.pinned (OpenSpec.ofChange Rows.dressAsSpec) :=
 OpenClaim.holds_of_wide 14 Try.f14 rfl rfl rfl rfl rfl rfl rfl ⟨rfl, rfl, rfl, rfl, rfl⟩ rfl rfl rfl rfl rfl (by kernel_rfl) Try.func14 (by kernel_rfl)
  (of_decide_eq_true (by kernel_rfl)) (by unfold Func.isWrapper; first | (rw [if_pos (by decide +kernel)]; kernel_rfl) | (rw [if_neg (by decide +kernel)]; exact ⟨rfl, rfl⟩))
  (fun os started H enc _ => lifted os started H enc)
theorem proved : Rows.DressAsSaid := over
end Go.Proofs.Ytdpicdnpiihaaaa.dressAs
