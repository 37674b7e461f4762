/- Contracts of told functions: whether an entry holds (the code). -/
import Derived.Test.YtgjdokjoejhepaaGreatDoorTrS11
open Go Go.bP Go.bP.Y
set_option maxRecDepth 100000
set_option linter.unusedVariables false
namespace Go.Proofs.YtgjdokjoejhepaaGreatDoor.K.L
structure En where
 says : Int
 a : Int
 b : Int
def En.row (e : En) : List Value := [.int .i64 e.says, .int .i64 e.a, .int .i64 e.b]
theorem bB1 : ((env.ty.get 57).bind fun i => i.eqs) = some [.i64, .i64, .i64] := by kernel_rfl
theorem bMB (xo yo : Operand) (e g : En) : nG env .eql 57 xo yo (.agg (Array.mk e.row)) (.agg (Array.mk g.row)) = some (.bool (decide (e.says = g.says) && (decide (e.a = g.a) && decide (e.b = g.b)))) := by
 have h : xM env .eql 57 (.agg (Array.mk e.row)) (.agg (Array.mk g.row)) = some (.bool (ZL e.says g.says && (ZL e.a g.a && (ZL e.b g.b && true)))) := by
  unfold xM
  simp only [bB1, Option.bind_some]
  rfl
 unfold nG
 rw [show CJ .eql (.agg (Array.mk e.row)) (.agg (Array.mk g.row)) = none from rfl]
 simp only
 unfold kX
 rw [h]
 simp only [aAH, Bool.and_true, beq_eq_decide]
structure HI (h1 : Hp) (bp bq d : Nat) (r : List Value) (x : Int) (h : Hp) : Prop where
 grew : bE h1 h
 gp : h.get bp = some (.cells r 88 none)
 gq : h.get bq = some (.cells [.int .i64 x] 3 none)
 gd : h.get d = some (.sK true)
theorem HI.more {h1 h h' : Hp} {bp bq d : Nat} {r : List Value} {x : Int} (I : HI h1 bp bq d r x h) (g : bE h h') : HI h1 bp bq d r x h' :=
 ⟨I.grew.trans g, g.sub _ _ I.gp, g.sub _ _ I.gq, g.sub _ _ I.gd⟩
theorem HI.upd {h1 h : Hp} {bp bq d : Nat} {r : List Value} {x : Int} (I : HI h1 bp bq d r x h) (w1 : Wf h1) {b : Nat} (hb : h1.next ≤ b) (hb2 : b < h.next) (n1 : b ≠ bp) (n2 : b ≠ bq) (n3 : b ≠ d) (o : aW) : HI h1 bp bq d r x (h.upd b o) :=
 ⟨bE.upd w1 I.grew hb hb2 o, by rw [dL, if_neg (fun e => n1 e.symm)]; exact I.gp, by rw [dL, if_neg (fun e => n2 e.symm)]; exact I.gq, by rw [dL, if_neg (fun e => n3 e.symm)]; exact I.gd⟩
theorem bB2 (Y : YF) (a : List Value) (h : Hp) : vS 146 Y a h = VG Y a h := rfl
theorem aFB {h : Hp} (w : Wf h) (e : TypeId) (z : List Value) (hz : z.length = 3) (l : List Value) (hl : l.length = 3) (hx : l.all oneCell = true) : ∃ h', bE h h' ∧ h'.get h.next = some (.cells l e none) ∧ ∀ (k : Value → Hp → aT), (dP h e z fun a h3 => iY 3 h3 a (.agg (Array.mk l)) fun h4 => k a h4) = k (.pointer (some ⟨h.next, 0, none⟩)) h' := by
 refine ⟨(h.add (.cells z e none)).upd h.next (.cells l e none), bE.upd w (bE.add w _) (Nat.le_refl _) (by rw [BK]; omega) _, by rw [dL, if_pos rfl], fun k => ?_⟩
 rw [bL, qR (n := 3) (c := z) (by rw [dM, if_pos rfl]) (by rw [PW]; exact w.1) hl hx (by omega), List.drop_of_length_le (by omega)]
 simp
section
variable {s : Sh} {r : List Value} {e : En}
theorem aQT {h1 : Hp} (w1 : Wf h1) {bp bq d c l : Nat} {x : Int} {pe : Value} (he : At h1 pe e.row) (hc : h1.next ≤ c) (hl : h1.next ≤ l) (n1 : c ≠ bp ∧ c ≠ bq ∧ c ≠ d ∧ c ≠ l) (n2 : l ≠ bp ∧ l ≠ bq ∧ l ≠ d) {X : LX} {z : Z} (hz : z.ds = []) (g : En) {h : Hp}
  (I : HI h1 bp bq d r x h) (hX : h.get l = some (X.obj .ready none)) (hcc : h.get c = some (.cells [.bool false] 4 none)) :
  ∃ h', YL l X (fun args h => IQ yN 1 l (AL.v pe (AL.v (.pointer (some ⟨c, 0, none⟩)) AL.n)) z args h) yN l [.agg (Array.mk g.row)] h = some (.bool (!(decide (g.says = e.says) && (decide (g.a = e.a) && decide (g.b = e.b)))), h') ∧
   HI h1 bp bq d r x h' ∧ (∀ i o, i ≠ l → i ≠ c → h.get i = some o → h'.get i = some o) ∧
   (if (decide (g.says = e.says) && (decide (g.a = e.a) && decide (g.b = e.b))) then h'.get l = some (X.obj .done (some .ret)) ∧ h'.get c = some (.cells [.bool true] 4 none) else h'.get l = some (X.obj .ready none) ∧ h'.get c = some (.cells [.bool false] 4 none)) := by
 have hr1 := w1.1
 have hlt := I.grew.wf.2 _ _ hX
 have hct := I.grew.wf.2 _ _ hcc
 obtain ⟨n11, n12, n13, n14⟩ := n1
 obtain ⟨n21, n22, n23⟩ := n2
 rw [aYS hX]
 have e1 : IQ yN 1 l (AL.v pe (AL.v (.pointer (some ⟨c, 0, none⟩)) AL.n)) z [.agg (Array.mk g.row)] h = IP yN l (nO (FI yN l) 999999) (.agg (Array.mk g.row)) pe (.pointer (some ⟨c, 0, none⟩)) (Z.put ⟨z.tm, []⟩ 19 (.agg (Array.mk g.row))) h := rfl
 rw [e1]
 unfold IP
 obtain ⟨hA, gA, rA, kA⟩ := aFB I.grew.wf 57 [(Value.int .i64 (Int.ofNat 0)), (Value.int .i64 (Int.ofNat 0)), (Value.int .i64 (Int.ofNat 0))] rfl g.row rfl rfl
 rw [kA]
 have IA := I.more gA
 have lA : hA.get l = some (.loop .ready none X.tm X.nt X.ps X.a X.b X.d) := gA.sub _ _ hX
 have cA := gA.sub _ _ hcc
 have nA := gA.next
 have lt2 := IA.grew.wf.2 _ _ lA
 rw [aOE lA (by have := IA.grew.ro; omega)]
 have IC := IA.upd w1 (b := l) hl lt2 n21 n22 n23 (.loop .busy none X.tm X.nt X.ps X.a X.b X.d)
 have lC : (hA.upd l (.loop .busy none X.tm X.nt X.ps X.a X.b X.d)).get l = some (.loop .busy none X.tm X.nt X.ps X.a X.b X.d) := by rw [dL, if_pos rfl]
 have cC : (hA.upd l (.loop .busy none X.tm X.nt X.ps X.a X.b X.d)).get c = some (.cells [.bool false] 4 none) := by rw [dL, if_neg n14]; exact cA
 have rC : (hA.upd l (.loop .busy none X.tm X.nt X.ps X.a X.b X.d)).get h.next = some (.cells g.row 57 none) := by rw [dL, if_neg (by omega)]; exact rA
 have kC : ∀ i o, i ≠ l → h.get i = some o → (hA.upd l (.loop .busy none X.tm X.nt X.ps X.a X.b X.d)).get i = some o := fun i o hi ho => by rw [dL, if_neg hi]; exact gA.sub _ _ ho
 generalize hA.upd l (.loop .busy none X.tm X.nt X.ps X.a X.b X.d) = hC at IC lC cC rC kC ⊢
 have st : ∀ z' h', nO (FI yN l) 999999 1 (AL.v pe (AL.v (.pointer (some ⟨c, 0, none⟩)) (AL.v (.pointer (some ⟨h.next, 0, none⟩)) AL.n))) z' h' = IM yN l (nO (FI yN l) 999998) pe (.pointer (some ⟨c, 0, none⟩)) (.pointer (some ⟨h.next, 0, none⟩)) z' h' := fun _ _ => rfl
 rw [st]
 unfold IM
 have ag : At hC (.pointer (some ⟨h.next, 0, none⟩)) g.row := ⟨h.next, 0, _, 57, none, rfl, rC, by simp, fun k x hx => by simpa using hx⟩
 have ae := he.sub IC.grew.sub
 have bSB := IC.grew.ro
 have ltl := IC.grew.wf.2 _ _ lC
 have ltc := IC.grew.wf.2 _ _ cC
 rw [ag.fF (z := 3) rfl, ae.fF (z := 3) rfl, bMB, aM, aO, aI]
 cases hs : (decide (g.says = e.says) && (decide (g.a = e.a) && decide (g.b = e.b))) with
 | true =>
  rw [if_pos rfl, qQ cC (by omega) rfl (by simp)]
  have ID := IC.upd w1 (b := c) hc ltc n11 n12 n13 (.cells ([Value.bool false].set 0 (Value.bool true)) 4 none)
  have lD : (hC.upd c (.cells ([Value.bool false].set 0 (Value.bool true)) 4 none)).get l = some (.loop .busy none X.tm X.nt X.ps X.a X.b X.d) := by rw [dL, if_neg (fun x => n14 x.symm)]; exact lC
  rw [aD, QO lD (by have := ID.grew.ro; omega)]
  refine ⟨_, rfl, ID.upd w1 hl (ID.grew.wf.2 _ _ lD) n21 n22 n23 _, fun i o hi hi2 ho => ?_, ?_⟩
  ·rw [dL, if_neg hi, dL, if_neg hi2]; exact kC i o hi ho
  ·rw [if_pos rfl]
   exact ⟨by rw [dL, if_pos rfl]; rfl, by rw [dL, if_neg n14, dL, if_pos rfl]; rfl⟩
 | false =>
  rw [if_neg (by simp), aD, RZ lC (by omega)]
  refine ⟨_, rfl, IC.upd w1 hl ltl n21 n22 n23 _, fun i o hi hi2 ho => ?_, ?_⟩
  ·rw [dL, if_neg hi]; exact kC i o hi ho
  ·rw [if_neg (by simp)]
   exact ⟨by rw [dL, if_pos rfl]; rfl, by rw [dL, if_neg n14]; exact cC⟩
end
end Go.Proofs.YtgjdokjoejhepaaGreatDoor.K.L
