/- BillTrue returns true whatever the show, the number and the entries: Check, Surely and True return what the document says. No condition of its own: the row lists three package-level variables of Go's library (its cell 'laid'), which the card ties to the program's text. -/
import Derived.Test.YtgjdokjoejhepaaGreatDoorTrS29
import Derived.Test.YtgjdokjoejhepaaGreatDoorRows
import Derived.Test.YtgjdokjoejhepaaGreatDoorTie
import Derived.Test.YtgjdokjoejhepaaGreatDoorCards
import Derived.WalkKit
import Derived.ProofKit
import Derived.OpenShut
import Derived.Lay
import Derived.SevenTiedAt
import Derived.HandedShaped
open Go Go.bP
set_option maxRecDepth 100000
namespace Go
theorem FQ {H : Type} {enc : TypeId × Value → H} {a : Assume} {C : Checked} {os : Os} {f : FuncId} {fn : Func} {s : ChangeSpec} {conds : List PathCond} {apart fresh handsOn again : Bool} {X : World → Array Value → Prop}
  (hX : ∀ (w w' : World) (args : Array Value), w.heap = w'.heap → X w args → X w' args)
  (own : ownKnob C.prog.godebug = none) (started : os.Started) (noInit : C.prog.inits.idxOf? f = none) (hfn : C.prog.funcs[f]? = some fn)
  (witness : ∃ (w : World) (tape : Tape) (i : Input), w.os = os ∧ (w.forCall tape i).Shaped C.prog ∧ i.vars = [] ∧ Input.okWide C.prog (w.forCall tape i) .any w.heap.size f i ∧
   ((s.pre enc C.prog fn conds apart (w.forCall tape i).memory i.args ∧ X (w.forCall tape i).memory i.args) ∧ sizedMet enc C.prog fn (OpenSpec.ofChange s) apart (w.forCall tape i).memory i.args) ∧ a.holds C.prog (lone (Frame.enter C.prog f i.args .normal) [] (w.forCall tape i)))
  (contract : ∀ (W : World) (base : Nat) (args : Array Value) (ds gs : List (DataW H)) (before : List MemPlace),
   (∀ (j : Nat) t v, fn.params[j]? = some t → args[j]? = some v → Value.okWide C.prog W .any base t v) →
   DataW.Whole enc C.prog fn.params.toList s.vars apart W args.toList ds gs before → X W args → W.ShapedOpen C.prog →
   Calls C.prog f args W fun e W' => ∃ v, e = .returned v ∧ s.post enc C.prog fn apart fresh handsOn again W args v W') :
  ReturnsInHanded a C os f .any (fun w args => (s.pre enc C.prog fn conds apart w args ∧ X w args) ∧ sizedMet enc C.prog fn (OpenSpec.ofChange s) apart w args) (s.post enc C.prog fn apart fresh handsOn again) := by
 refine returnsInHanded_of_calls own started noInit witness ?_
 intro w tape i _ hsh _ hok hpre _
 obtain ⟨_, _, _, fn', hfn', _, _, _, _, hval⟩ := hok
 obtain rfl : fn' = fn := Option.some.inj (hfn'.symm.trans hfn)
 obtain ⟨⟨⟨ds, gs, before, hw, _⟩, hx⟩, _⟩ := hpre
 refine (contract (w.forCall tape i) w.heap.size i.args ds gs before hval (DataW.Whole.of_heap (w' := w.forCall tape i) (by rfl) hw) (hX _ _ _ (by rfl) hx) hsh).mono fun e W' ⟨v, he, hp⟩ => ?_
 subst he
 exact ChangeSpec.post_blind hp
end Go
namespace Go.Proofs.YtgjdokjoejhepaaGreatDoor.K.L
theorem pa3 : rE Tryz.prog 3 = none ∧ aI9 Tryz.prog 3 = none := ⟨by kernel_rfl, by kernel_rfl⟩
theorem pa26 : rE Tryz.prog 26 = none ∧ aI9 Tryz.prog 26 = none := ⟨by kernel_rfl, by kernel_rfl⟩
theorem bCH : [25, 3, 26].all (sF Tryz.prog 10) = true := by kernel_rfl
theorem aUT {P : Program} {h : Hp} {n : Nat} {t1 t2 t3 : TypeId} {MR : List Value} (ha : sG P h n [t1, t2, t3] MR) : ∃ v1 v2 v3, MR = [v1, v2, v3] ∧ DL P h n t1 v1 ∧ DL P h n t2 v2 ∧ DL P h n t3 v3 := by
 match MR, ha with
 | [v1, v2, v3], ⟨a1, a2, a3, _⟩ => exact ⟨v1, v2, v3, rfl, a1, a2, a3⟩
theorem aRD (h : Hp) (MR : List Value) (w : Wf h) (ha : sG Tryz.prog h 10 [25, 3, 26] MR) : ∃ h', gG C58 (.call 3 MR.toArray h) (.ret (.bool true) h') := by
 obtain ⟨v1, v2, v3, rfl, a1, a2, a3⟩ := aUT ha
 obtain ⟨cs1, rfl, b1⟩ := a1.agg (.inl bCA)
 obtain ⟨s, hs⟩ := aUN (n := 6) b1
 obtain ⟨n, e2⟩ := aQ9 (n := 9) (a2.flat pa3)
 obtain ⟨v, c, e3, hc⟩ := a1U (n := 7) (a3.flat pa26)
 simp [dH] at e2 e3
 subst e2 e3
 obtain ⟨h', e⟩ := aUM w hs n hc
 exact ⟨h', r3 _ _ _ _ e⟩
end Go.Proofs.YtgjdokjoejhepaaGreatDoor.K.L
namespace Go.Proofs.YtgjdokjoejhepaaGreatDoor.billTrue
open Go.ChangeShapes Go.WideShapes Go.ChangeAt Go.RowKit
set_option linter.unusedVariables false
theorem own : ownKnob Tryz.prog.godebug = none := by kernel_rfl
theorem bMX : Tryz.prog.wantsStandIn 25 = false := by kernel_rfl
theorem ws3 : Tryz.prog.wantsStandIn 3 = false := by kernel_rfl
theorem bMY : Tryz.prog.wantsStandIn 26 = false := by kernel_rfl
theorem three {H : Type} {enc : TypeId × Value → H} {W : World} {fr : Nat} {fx : Nat → Bool} {o : Bool} {P : Program} {t1 t2 t3 : TypeId} {vs : List Value} {ds : List (DataW H)} {p : List MemPlace}
  (h : DataW.TrodAll enc P W fr fx o [t1, t2, t3] vs ds p) : ∃ d1 d2 d3, ds = [d1, d2, d3] := by
 match vs, ds, h with
 | _ :: vs1, _ :: ds1, ⟨_, _, _, h, _⟩ =>
  match vs1, ds1, h with
  | _ :: vs2, _ :: ds2, ⟨_, _, _, h, _⟩ =>
   match vs2, ds2, h with
   | _ :: vs3, _ :: ds3, ⟨_, _, _, h, _⟩ =>
    match vs3, ds3, h with
    | [], [], _ => exact ⟨_, _, _, rfl⟩
set_option maxRecDepth 100000 in
theorem lifted (os : Os) (started : os.Started) (H : Type) (enc : TypeId × Value → H) :
  ReturnsInHanded {} Tryz.checked os 3 .any (fun w args => (Rows.billTrueSpec.pre enc Tryz.prog Tryz.f3 [] false w args ∧ laidMetH Tryz.prog Rows.billTrueRow.laid w) ∧ sizedMet enc Tryz.prog Tryz.f3 (OpenSpec.ofChange Rows.billTrueSpec) false w args)
   (Rows.billTrueSpec.post enc Tryz.prog Tryz.f3 false true false false) := by
 refine FQ (C := Tryz.checked) (X := fun w _ => laidMetH Tryz.prog Rows.billTrueRow.laid w) (fun _ _ _ hh h => h.of_heap hh) own started (by kernel_rfl) Tryz.func3
  (ChangeSpec.witness_shaped (enc := enc) (C := Tryz.checked) (os := os) (X := fun w _ => laidMetH Tryz.prog Rows.billTrueRow.laid w) false (World.laidAll Tryz.prog os Rows.billTrueRow.laid) #[.agg #[.int .i64 0, .slice none 0 0, .slice none 0 0], .int .i64 0, .slice none 0 0] 8 (World.laidAll_os _ _ _)
   (World.shaped_of_ZipB (by kernel_rfl) (by kernel_rfl)) (by kernel_rfl) (by kernel_rfl) (by kernel_rfl)
   (by rw [MakeChecks.laidMetH_plain _ _ _ (by kernel_rfl)]; exact laidMet_laidAll _ (by kernel_rfl) (by kernel_rfl))) ?_
 intro W base args ds gs before hval0 hW _ hso
 have hval : ∀ (j : Nat) t v, Tryz.f3.params[j]? = some t → args[j]? = some v → Value.okWide Tryz.prog W .any base t v := hval0
 have hW' := hW
 obtain ⟨p, q, hA0, hV, rfl, hfz, hnd⟩ := hW
 have hA : DataW.TrodAll enc Tryz.prog W 0 (fun _ => true) true Tryz.f3.params.toList args.toList ds p := hA0
 rw [Tryz.params3] at hA hval
 obtain ⟨rfl, rfl⟩ := trodVars_none hV
 clear hA0 hval0
 simp only [List.append_nil] at hW'
 refine (aCV (enc := enc) (C := K.L.C58) K.L.bA9 (f := 3) (n := 10) (b0 := base) (ts := [25, 3, 26]) (fun h MR w _ ha => K.L.aRD h MR w ha) hso (fun j t v h1 h2 => hval j t v (by simpa using h1) (by simpa using h2)) hA K.L.bCH).mono fun e W' ⟨he, hb⟩ => ?_
 subst he
 obtain ⟨d1, d2, d3, rfl⟩ := three hA
 have hA2 := SX (n := 10) hb K.L.bCH hA
 refine ⟨_, rfl, ?_⟩
 exact ⟨[d1, d2, d3], [], p, [], _, [], hW', trodAll_cons_mk (shut_bool Tryz.underlying4 _) trodAll_mk0, hA2, rfl, hb.frame _, fun h => by cases h⟩
theorem over : Rows.billTrueRow.holds Tryz.pinned (OpenSpec.ofChange Rows.billTrueSpec) :=
 OpenClaim.holds_of_wide 3 Tryz.f3 rfl rfl rfl rfl rfl rfl rfl ⟨rfl, rfl, rfl, rfl, rfl⟩ rfl rfl rfl rfl rfl (by kernel_rfl) Tryz.func3 (by kernel_rfl)
  (of_decide_eq_true (by kernel_rfl)) (by unfold Func.isWrapper; first | (rw [if_pos (by decide +kernel)]; kernel_rfl) | (rw [if_neg (by decide +kernel)]; exact ⟨rfl, rfl⟩))
  (fun os started H enc _ => lifted os started H enc)
theorem proved : Rows.BillTrueCardSaid :=
 Claim7.holds_tied_plain_at .later [] [.data, .data, .data] true (true, "eb15d58481eafbdac97b6d187970f98e0069e52aa6d1e2d36dd469f126d2b55f") false
  over (fun _ h => by cases h) (by kernel_rfl) (fun _ h => by cases h) billTrue_row_tie rfl ⟨rfl, rfl⟩ (by kernel_rfl) rfl
  (fun f fn hf hfn => by
   obtain rfl : f = 3 := Option.some.inj ((show Tryz.prog.funcNamed "ceroplast/ceroplastlaw07.BillTrue" = some 3 by kernel_rfl).symm.trans hf) |>.symm
   obtain rfl : fn = Tryz.f3 := (Option.some.inj (Tryz.func3.symm.trans hfn)).symm
   exact ⟨by kernel_rfl, fun j t ht => by
    rw [Tryz.params3] at ht
    have hm : t ∈ [25, 3, 26] := List.mem_of_getElem? (by simpa using ht)
    simp only [List.mem_cons, List.not_mem_nil, or_false] at hm
    rcases hm with rfl | rfl | rfl
    ·exact bMX
    ·exact ws3
    ·exact bMY⟩)
  (by kernel_rfl)
end Go.Proofs.YtgjdokjoejhepaaGreatDoor.billTrue
