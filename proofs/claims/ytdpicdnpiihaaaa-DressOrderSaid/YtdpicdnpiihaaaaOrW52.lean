/- Figures put in the opposite order: the loop. -/
import Derived.Test.YtdpicdnpiihaaaaOrW49
import Derived.Test.YtdpicdnpiihaaaaOrToldW
import Derived.Test.YtdpicdnpiihaaaaOrQ49
open Go Go.bI
set_option maxRecDepth 100000
set_option linter.unusedVariables false
namespace Go.Proofs.Ytdpicdnpiihaaaa.K.L
theorem aHN {h : Hp} {b0 : Nat} (h0 : h.get b0 = some (.cells [] 59 none)) : cB env h #[23, 23] (List.toArray [.slice (some ⟨b0, 0, none⟩) 0 0, .slice none 0 0]) = some (.slice (some ⟨b0, 0, none⟩) 0 0, h) := by
 obtain ⟨ti, hti⟩ : ∃ ti, env.ty.get 59 = some ti := by
  cases e : env.ty.get 59 with
  | none => have := IX; rw [e] at this; cases this
  | some ti => exact ⟨ti, rfl⟩
 have hb3 : ti.info.bytes = 48 := by have := IX; rw [hti] at this; simpa using this
 obtain ⟨z, hz'⟩ : ∃ z, jR env 59 = some z := by
  cases e : jR env 59 with
  | none => have := QN; rw [e] at this; cases this
  | some z => exact ⟨z, rfl⟩
 have hzs : Nat.beq z.cells.size 3 = true := by have := QN; rw [hz'] at this; simpa using this
 have hsrc : qH h 0 3 (.slice none 0 0) = some [] := rfl
 have hre : kG h b0 = some none := by unfold kG; rw [h0]
 unfold cB
 rw [show (#[23, 23] : Array TypeId)[0]? = some 23 from rfl, show (#[23, 23] : Array TypeId)[1]? = some 23 from rfl, show (List.toArray [Value.slice (some ⟨b0, 0, none⟩) 0 0, .slice none 0 0])[0]? = some (.slice (some ⟨b0, 0, none⟩) 0 0) from rfl, show (List.toArray [Value.slice (some ⟨b0, 0, none⟩) 0 0, .slice none 0 0])[1]? = some (.slice none 0 0) from rfl]
 simp only [Option.bind_some, aE9, PT, hti, hz', wH, hb3]
 rw [show (Nat.blt 0 3 && Nat.blt 0 48 && Nat.ble 48 65536 && Nat.beq z.cells.size 3) = true from by rw [hzs]; rfl]
 simp only [ok?, hre, Option.bind_some, hsrc]
theorem a7I (h : Hp) (nm : ByteArray) (a : Option Addr) (n c : Nat) (i : Int) : aU env h 23 1 (List.toArray [(0, .agg (Array.mk [.string nm, .slice a n c, .int .i64 i]))]) = some (.slice (some ⟨h.next, 0, none⟩) 1 1, h.add (.cells [.string nm, .slice a n c, .int .i64 i] 59 none)) := by kernel_rfl
theorem aFN {h : Hp} {g : Lk} (a : LD h g) (H : Hp) : aU env H 23 1 (List.toArray [(0, .agg (Array.mk g.row))]) = some (.slice (some ⟨H.next, 0, none⟩) 1 1, H.add (.cells g.row 59 none)) := by
 obtain ⟨b, n, c, e⟩ := lV.sl a
 unfold Lk.row
 rw [e]
 exact a7I H g.nm b n c g.lJ
theorem aAL (H : Hp) (ro : Nat) (x y : bY) (h : H.ro = ro) : Hp.mk (H.next + 1 + 1) ro (aG [(H.next + 1, y)] (aG [(H.next, x)] H.aC)) = (H.add x).add y := by
 rw [← h]; rfl
theorem UT (H : Hp) (ro : Nat) (x y u : bY) (h : H.ro = ro) : Hp.mk (H.next + 1 + 1 + 1) ro (aG [(H.next + 1 + 1, u)] (aG [(H.next + 1, y)] (aG [(H.next, x)] H.aC))) = ((H.add x).add y).add u := by
 rw [← h]; rfl
def CK (h : Hp) (v : Value) (gs : List Lk) : Prop := (v = .slice none 0 0 ∧ gs = []) ∨ (gs ≠ [] ∧ ∃ b, v = .slice (some ⟨b, 0, none⟩) gs.length gs.length ∧ h.get b = some (.cells (gs.flatMap Lk.row) 59 (some 3)))
theorem CK.one {h : Hp} {v : Value} {gs : List Lk} (a : CK h v gs) : oneCell v = true := by
 rcases a with ⟨rfl, _⟩ | ⟨_, b, rfl, _⟩ <;> rfl
theorem CK.off {h : Hp} {v : Value} {gs : List Lk} (a : CK h v gs) {b : Nat} {c : List Value} (hg : h.get b = some (.cells c 25 none)) (o : bY) : CK (h.upd b o) v gs := by
 rcases a with a | ⟨n, b', e, hg'⟩
 ·exact .inl a
 ·refine .inr ⟨n, b', e, ?_⟩
  rw [bL, if_neg]
  ·exact hg'
  ·intro q
   rw [q, hg] at hg'
   have := Option.some.inj hg'
   injection this with _ h2 _
   exact absurd h2 (by decide)
theorem CK.sub {h h' : Hp} (hs : Sub h h') {v : Value} {gs : List Lk} (a : CK h v gs) : CK h' v gs := by
 rcases a with a | ⟨n, b', e, hg'⟩
 ·exact .inl a
 ·exact .inr ⟨n, b', e, hs _ _ hg'⟩
theorem flat3 : ∀ gs : List Lk, (gs.flatMap Lk.row).length = gs.length * 3
 | [] => rfl
 | g :: gs => by
  rw [List.flatMap_cons, List.length_append, flat3 gs]
  show 3 + gs.length * 3 = (gs.length + 1) * 3
  omega
theorem UU : ∀ (gs : List Lk) (i : Nat) (g : Lk), gs[i]? = some g → ∀ (k : Nat) (x : Value), g.row[k]? = some x → (gs.flatMap Lk.row)[i * 3 + k]? = some x
 | [], i, g, h, _, _, _ => by simp at h
 | d :: gs, 0, g, h, k, x, hx => by
  simp at h; subst h
  have : k < d.row.length := (List.getElem?_eq_some_iff.1 hx).1
  rw [List.flatMap_cons, Nat.zero_mul, Nat.zero_add, List.getElem?_append_left this]; exact hx
 | d :: gs, i + 1, g, h, k, x, hx => by
  have ih := UU gs i g (by simpa using h) k x hx
  rw [List.flatMap_cons, List.getElem?_append_right (by show 3 ≤ _; omega), show (i + 1) * 3 + k - d.row.length = i * 3 + k from by show (i + 1) * 3 + k - 3 = _; omega]
  exact ih
theorem CK.sl {h : Hp} {v : Value} {gs : List Lk} (a : CK h v gs) : lV h 3 v (gs.map Lk.row) := by
 rcases a with ⟨e, h1⟩ | ⟨_, b, e, hg⟩
 ·exact .inl ⟨e, by rw [h1]; rfl⟩
 ·refine .inr ⟨b, _, 59, some 3, by rw [List.length_map]; exact e, hg, .inl rfl, fun i r hi => ?_⟩
  rw [List.getElem?_map] at hi
  cases hx : gs[i]? with
  | none => rw [hx] at hi; cases hi
  | some g =>
   rw [hx] at hi
   cases hi
   have := (List.getElem?_eq_some_iff.1 hx).1
   exact ⟨rfl, by rw [flat3]; omega, UU gs i g hx⟩
theorem aXF {h : Hp} (w : Wf h) {v : Value} {gs : List Lk} (a : CK h v gs) (hl : gs.length ≤ 50) {f : Lk} (lf : LD h f) {X : Nat → (Value → aF) → aF} {Y : Nat → (Value → aF) → aF}
  (hX : ∀ n k, X n k = k v) (hY : ∀ n k, Y n k = k (.agg (Array.mk f.row))) :
  ∃ v' h', aV h h' ∧ CK h' v' (gs ++ [f]) ∧ ∀ K : Value → Hp → aF,
   (aK (aU env (Hp.mk h.next h.next T.nil) 23 0 (List.toArray [])) fun v1 h1 => eP v1 h.next h1 fun w2 n2 => X n2 fun v4 => aK (cB env (Hp.mk n2 n2 (aG w2 h.aC)) #[23, 23] (List.toArray [v1, v4])) fun v5 h5 => eP v5 n2 h5 fun w6 n6 => Y n6 fun v10 =>
    aK (aU env (Hp.mk n6 n6 T.nil) 23 1 (List.toArray [(0, v10)])) fun v11 h11 => eP v11 n6 h11 fun QY n12 => aK (cB env (Hp.mk n12 h.ro (aG QY (aG w6 (aG w2 h.aC)))) #[23, 23] (List.toArray [v5, v11])) fun v13 zT => K v13 zT) = K v' h' := by
 have ge := aV.add w (.cells [] 59 none)
 have ce : (h.add (.cells [] 59 none)).get h.next = some (.cells [] 59 none) := by rw [bD]; exact if_pos rfl
 have fr : f.row.all oneCell = true := lf.one
 rcases a with ⟨rfl, rfl⟩ | ⟨h0, b, rfl, hg⟩
 ·have d1 : ((h.add (.cells [] 59 none)).add (.cells f.row 59 none)).get h.next = some (.cells [] 59 none) := (aV.add ge.wf _).sub _ _ ce
  have d2 : ((h.add (.cells [] 59 none)).add (.cells f.row 59 none)).get (h.next + 1) = some (.cells f.row 59 none) := by rw [bD]; exact if_pos rfl
  have gr := ge.trans (aV.add ge.wf (.cells f.row 59 none))
  have gz := gr.trans (aV.add gr.wf (.cells f.row 59 (some 3)))
  refine ⟨.slice (some ⟨((h.add (.cells [] 59 none)).add (.cells f.row 59 none)).next, 0, none⟩) 1 1, ((h.add (.cells [] 59 none)).add (.cells f.row 59 none)).add (.cells f.row 59 (some 3)), gz, .inr ⟨by simp, _, rfl, by rw [bD, if_pos rfl]; rfl⟩, fun K => ?_⟩
  rw [a7E, aB, show (Hp.mk h.next h.next T.nil).next = h.next from rfl, oQ, hX, aHN (h := Hp.mk (h.next + 1) (h.next + 1) (aG [(h.next, .cells [] 59 none)] h.aC)) ce, aB, jM, hY, aFN lf, aB, show (Hp.mk (h.next + 1) (h.next + 1) T.nil).next = h.next + 1 from rfl, oQ,
   show (aG [] (aG [(h.next, bY.cells [] 59 none)] h.aC)) = aG [(h.next, bY.cells [] 59 none)] h.aC from rfl, aAL h h.ro _ _ rfl, aUC (k := 1) d1 (by decide) (iH d2 rfl), aB]
 ·have e1 : (h.add (.cells [] 59 none)).get b = some (.cells (gs.flatMap Lk.row) 59 (some 3)) := (aV.add w _).sub _ _ hg
  have fl := flat3 gs
  have hl1 : 0 < gs.length := by cases gs with | nil => exact absurd rfl h0 | cons a l => simp
  have gc := ge.trans (aV.add ge.wf (.cells (gs.flatMap Lk.row) 59 (some 3)))
  have dc : ((h.add (.cells [] 59 none)).add (.cells (gs.flatMap Lk.row) 59 (some 3))).get (h.next + 1) = some (.cells (gs.flatMap Lk.row) 59 (some 3)) := by rw [bD]; exact if_pos rfl
  have rw' : RwA h ((h.add (.cells [] 59 none)).add (.cells (gs.flatMap Lk.row) 59 (some 3))) 3 59 (.slice (some ⟨h.next + 1, 0, none⟩) gs.length gs.length) gs.length (gs.flatMap Lk.row) := .inr ⟨_, rfl, by omega, dc⟩
  obtain ⟨v', h', e2, g2, r2, _, _⟩ := aC5 aE9 PT (by decide) IX (by decide) QN w gc rw' (by omega) fl (x := f.row) rfl fr
  have e2' : cB env (((h.add (.cells [] 59 none)).add (.cells (gs.flatMap Lk.row) 59 (some 3))).add (.cells f.row 59 none)) #[23, 23] (List.toArray [.slice (some ⟨h.next + 1, 0, none⟩) gs.length gs.length, .slice (some ⟨h.next + 1 + 1, 0, none⟩) 1 1]) = some (v', h') := e2
  refine ⟨v', h', g2, ?_, fun K => ?_⟩
  ·rcases r2 with ⟨_, n0, _⟩ | ⟨b', e, _, hg'⟩
   ·omega
   ·exact .inr ⟨by simp, b', by rw [List.length_append]; exact e, by rw [List.flatMap_append]; simpa using hg'⟩
  ·rw [a7E, aB, show (Hp.mk h.next h.next T.nil).next = h.next from rfl, oQ, hX, aUC (h := Hp.mk (h.next + 1) (h.next + 1) (aG [(h.next, .cells [] 59 none)] h.aC)) (k := gs.length) (cap := gs.length) ce ⟨hl1, by omega⟩ (iH (h := Hp.mk (h.next + 1) (h.next + 1) (aG [(h.next, .cells [] 59 none)] h.aC)) e1 fl), aB, show (Hp.mk (h.next + 1) (h.next + 1) (aG [(h.next, bY.cells [] 59 none)] h.aC)).next = h.next + 1 from rfl, oQ, hY, aFN lf, aB, show (Hp.mk (h.next + 1 + 1) (h.next + 1 + 1) T.nil).next = h.next + 1 + 1 from rfl, oQ, UT h h.ro _ _ _ rfl, e2', aB]
end Go.Proofs.Ytdpicdnpiihaaaa.K.L
open Go Go.bI
set_option maxRecDepth 100000
set_option linter.unusedVariables false
namespace Go.Proofs.Ytdpicdnpiihaaaa.K.L
theorem aHO {h : Hp} {b0 : Nat} (h0 : h.get b0 = some (.cells [] 3 none)) : cB env h #[22, 22] (List.toArray [.slice (some ⟨b0, 0, none⟩) 0 0, .slice none 0 0]) = some (.slice (some ⟨b0, 0, none⟩) 0 0, h) := by
 obtain ⟨ti, hti⟩ : ∃ ti, env.ty.get 3 = some ti := by
  cases e : env.ty.get 3 with
  | none => have := CB; rw [e] at this; cases this
  | some ti => exact ⟨ti, rfl⟩
 have hb3 : ti.info.bytes = 8 := by have := CB; rw [hti] at this; simpa using this
 obtain ⟨z, hz'⟩ : ∃ z, jR env 3 = some z := by
  cases e : jR env 3 with
  | none => have := LJ; rw [e] at this; cases this
  | some z => exact ⟨z, rfl⟩
 have hzs : Nat.beq z.cells.size 1 = true := by have := LJ; rw [hz'] at this; simpa using this
 have hsrc : qH h 0 1 (.slice none 0 0) = some [] := rfl
 have hre : kG h b0 = some none := by unfold kG; rw [h0]
 unfold cB
 rw [show (#[22, 22] : Array TypeId)[0]? = some 22 from rfl, show (#[22, 22] : Array TypeId)[1]? = some 22 from rfl, show (List.toArray [Value.slice (some ⟨b0, 0, none⟩) 0 0, .slice none 0 0])[0]? = some (.slice (some ⟨b0, 0, none⟩) 0 0) from rfl, show (List.toArray [Value.slice (some ⟨b0, 0, none⟩) 0 0, .slice none 0 0])[1]? = some (.slice none 0 0) from rfl]
 simp only [Option.bind_some, PW, LH, hti, hz', wH, hb3]
 rw [show (Nat.blt 0 1 && Nat.blt 0 8 && Nat.ble 8 65536 && Nat.beq z.cells.size 1) = true from by rw [hzs]; rfl]
 simp only [ok?, hre, Option.bind_some, hsrc]
def TwA (h : Hp) (v : Value) (ns : List Int) : Prop := (v = .slice none 0 0 ∧ ns = []) ∨ (ns ≠ [] ∧ ∃ b, v = .slice (some ⟨b, 0, none⟩) ns.length ns.length ∧ h.get b = some (.cells (ns.map (Value.int .i64)) 3 (some 1)))
theorem TwA.one {h : Hp} {v : Value} {ns : List Int} (a : TwA h v ns) : oneCell v = true := by
 rcases a with ⟨rfl, _⟩ | ⟨_, b, rfl, _⟩ <;> rfl
theorem TwA.off {h : Hp} {v : Value} {ns : List Int} (a : TwA h v ns) {b : Nat} {c : List Value} (hg : h.get b = some (.cells c 25 none)) (o : bY) : TwA (h.upd b o) v ns := by
 rcases a with a | ⟨n, b', e, hg'⟩
 ·exact .inl a
 ·refine .inr ⟨n, b', e, ?_⟩
  rw [bL, if_neg]
  ·exact hg'
  ·intro q
   rw [q, hg] at hg'
   have := Option.some.inj hg'
   injection this with _ h2 _
   exact absurd h2 (by decide)
theorem TwA.sl {h : Hp} {v : Value} {ns : List Int} (a : TwA h v ns) : lV h 1 v (ns.map cZ) := by
 rcases a with ⟨e, h1⟩ | ⟨_, b, e, hg⟩
 ·exact qZ.sl (hb := Hp.mk 0 h.ro h.aC) (.inl ⟨e, h1⟩)
 ·exact qZ.sl (hb := Hp.mk 0 h.ro h.aC) (.inr ⟨b, e, Nat.zero_le _, hg⟩)
theorem aXG {h : Hp} (w : Wf h) {v : Value} {ns : List Int} (a : TwA h v ns) (hl : ns.length ≤ 50) {x : Int} {X : Nat → (Value → aF) → aF} {Y : Nat → (Int → aF) → aF}
  (hX : ∀ n k, X n k = k v) (hY : ∀ n k, Y n k = k x) :
  ∃ v' h', aV h h' ∧ TwA h' v' (ns ++ [x]) ∧ ∀ K : Value → Hp → aF,
   (aK (aU env (Hp.mk h.next h.next T.nil) 22 0 (List.toArray [])) fun v1 h1 => eP v1 h.next h1 fun w2 n2 => X n2 fun v4 => aK (cB env (Hp.mk n2 n2 (aG w2 h.aC)) #[22, 22] (List.toArray [v1, v4])) fun v5 h5 => eP v5 n2 h5 fun w6 n6 => Y n6 fun i10 =>
    aK (aU env (Hp.mk n6 n6 T.nil) 22 1 (List.toArray [(0, .int .i64 i10)])) fun v11 h11 => eP v11 n6 h11 fun QY n12 => aK (cB env (Hp.mk n12 h.ro (aG QY (aG w6 (aG w2 h.aC)))) #[22, 22] (List.toArray [v5, v11])) fun v13 zT => K v13 zT) = K v' h' := by
 have ge := aV.add w (.cells [] 3 none)
 have ce : (h.add (.cells [] 3 none)).get h.next = some (.cells [] 3 none) := by rw [bD]; exact if_pos rfl
 rcases a with ⟨rfl, rfl⟩ | ⟨h0, b, rfl, hg⟩
 ·have d1 : ((h.add (.cells [] 3 none)).add (.cells [.int .i64 x] 3 none)).get h.next = some (.cells [] 3 none) := (aV.add ge.wf _).sub _ _ ce
  have d2 : ((h.add (.cells [] 3 none)).add (.cells [.int .i64 x] 3 none)).get (h.next + 1) = some (.cells [.int .i64 x] 3 none) := by rw [bD]; exact if_pos rfl
  have gr := ge.trans (aV.add ge.wf (.cells [.int .i64 x] 3 none))
  have gz := gr.trans (aV.add gr.wf (.cells [.int .i64 x] 3 (some 1)))
  have an := aFC (h := (h.add (.cells [] 3 none)).add (.cells [.int .i64 x] 3 none)) (b0 := h.next) d1 (b := h.next + 1) (o := 0) (m := 1) (c := 1) (M := [x]) rfl (by decide) (fun _ => iH d2 rfl) (fun e => by cases e)
  rw [if_neg (by decide)] at an
  refine ⟨.slice (some ⟨((h.add (.cells [] 3 none)).add (.cells [.int .i64 x] 3 none)).next, 0, none⟩) 1 1, ((h.add (.cells [] 3 none)).add (.cells [.int .i64 x] 3 none)).add (.cells [.int .i64 x] 3 (some 1)), gz, .inr ⟨by simp, _, rfl, by rw [bD, if_pos rfl]; rfl⟩, fun K => ?_⟩
  rw [noI, aB, show (Hp.mk h.next h.next T.nil).next = h.next from rfl, oQ, hX, aHO (h := Hp.mk (h.next + 1) (h.next + 1) (aG [(h.next, .cells [] 3 none)] h.aC)) ce, aB, jM, hY, WR, aB, show (Hp.mk (h.next + 1) (h.next + 1) T.nil).next = h.next + 1 from rfl, oQ,
   show (aG [] (aG [(h.next, bY.cells [] 3 none)] h.aC)) = aG [(h.next, bY.cells [] 3 none)] h.aC from rfl, aAL h h.ro _ _ rfl, an, aB]
  rfl
 ·have e1 : (h.add (.cells [] 3 none)).get b = some (.cells (ns.map (Value.int .i64)) 3 (some 1)) := (aV.add w _).sub _ _ hg
  have hl1 : 0 < ns.length := by cases ns with | nil => exact absurd rfl h0 | cons a l => simp
  have gc := ge.trans (aV.add ge.wf (.cells (ns.map (Value.int .i64)) 3 (some 1)))
  have dc : ((h.add (.cells [] 3 none)).add (.cells (ns.map (Value.int .i64)) 3 (some 1))).get (h.next + 1) = some (.cells (ns.map (Value.int .i64)) 3 (some 1)) := by rw [bD]; exact if_pos rfl
  have ia : qZ h ((h.add (.cells [] 3 none)).add (.cells (ns.map (Value.int .i64)) 3 (some 1))) (.slice (some ⟨h.next + 1, 0, none⟩) ns.length ns.length) ns := .inr ⟨_, rfl, by omega, dc⟩
  obtain ⟨v', h', e2, g2, r2⟩ := DW w gc ia (by omega) x
  have an := aFC (h := Hp.mk (h.next + 1) (h.next + 1) (aG [(h.next, .cells [] 3 none)] h.aC)) (b0 := h.next) ce (b := b) (o := 0) (m := ns.length) (c := ns.length) (M := ns) rfl (by omega) (fun _ => iH (h := Hp.mk (h.next + 1) (h.next + 1) (aG [(h.next, .cells [] 3 none)] h.aC)) e1 (by simp)) (fun e => by omega)
  rw [if_neg (by omega)] at an
  have e2' : cB env (((h.add (.cells [] 3 none)).add (.cells (ns.map (Value.int .i64)) 3 (some 1))).add (.cells [.int .i64 x] 3 none)) #[22, 22] (List.toArray [.slice (some ⟨h.next + 1, 0, none⟩) ns.length ns.length, .slice (some ⟨h.next + 1 + 1, 0, none⟩) 1 1]) = some (v', h') := e2
  refine ⟨v', h', g2, ?_, fun K => ?_⟩
  ·rcases r2 with ⟨_, n0⟩ | ⟨b', e, _, hg'⟩
   ·simp at n0
   ·exact .inr ⟨by simp, b', e, hg'⟩
  ·rw [noI, aB, show (Hp.mk h.next h.next T.nil).next = h.next from rfl, oQ, hX, an, aB, show (Hp.mk (h.next + 1) (h.next + 1) (aG [(h.next, bY.cells [] 3 none)] h.aC)).next = h.next + 1 from rfl, oQ, hY, WR, aB, show (Hp.mk (h.next + 1 + 1) (h.next + 1 + 1) T.nil).next = h.next + 1 + 1 from rfl, oQ, UT h h.ro _ _ _ rfl, e2', aB]
end Go.Proofs.Ytdpicdnpiihaaaa.K.L
open Go Go.bI
set_option maxRecDepth 100000
set_option linter.unusedVariables false
namespace Go.Proofs.Ytdpicdnpiihaaaa.K.L
theorem aO4 (n : Nat) (p q r : Value) (i : Int) (h : Hp) : aN EP (n + 1) 1 (AL.v p (AL.v q (AL.v r (AL.i i AL.n)))) h = aE3 (aN EP n) p q r i h := rfl
theorem aO5 (n : Nat) (p q r : Value) (i : Int) (h : Hp) : aN EP (n + 1) 2 (AL.v p (AL.v q (AL.v r (AL.i i AL.n)))) h = aE2 (aN EP n) p q r i h := rfl
theorem aXH (n : Nat) (p q r : Value) (h : Hp) : aN EP (n + 1) 8 (AL.v p (AL.v q (AL.v r AL.n))) h = aNW (aN EP n) p q r h := rfl
theorem aXI (n : Nat) (p q r : Value) (h : Hp) : aN EP (n + 1) 9 (AL.v p (AL.v q (AL.v r AL.n))) h = aN EP n 2 (AL.v p (AL.v q (AL.v r (AL.i (Int.ofNat 0) AL.n)))) h := rfl
structure aO6 (h0 h : Hp) (s : Rm) (p vc vo vf vp : Value) (b3 b4 : Nat) (r3 r4 : List Value) : Prop where
 g : aV h0 h
 ar : At h0 p (dO vc vo vf vp)
 d3 : h.get b3 = some (.cells r3 25 none)
 d4 : h.get b4 = some (.cells r4 25 none)
 n3 : h0.next ≤ b3
 n4 : h0.next ≤ b4
 ne : b3 ≠ b4
theorem aFO {h0 : Hp} (w0 : Wf h0) {s : Rm} (F : nI s) {p vc vo vf vp : Value} (sc : lV h0 1 vc (s.costs.map cZ)) {b3 b4 : Nat} {v3 : Value} (gs : List Lk)
  (done : ∀ (h : Hp) (n : Nat) (v : Value), 100 ≤ n → aO6 h0 h s p vc vo vf vp b3 b4 (dO vc vo v3 vp) (dO v vo vf vp) → CK h v3 gs → TwA h v (s.costs.map fun x => 2 * x) → ∃ h', aN EP n 8 (AL.v p (AL.v (.pointer (some ⟨b3, 0, none⟩)) (AL.v (.pointer (some ⟨b4, 0, none⟩)) AL.n))) h = some (.bool true, h')) :
  ∀ (m i n : Nat) (h : Hp) (v : Value), i + m = s.costs.length → m + 200 ≤ n → aO6 h0 h s p vc vo vf vp b3 b4 (dO vc vo v3 vp) (dO v vo vf vp) → CK h v3 gs → TwA h v ((s.costs.map fun x => 2 * x).take i) →
  ∃ h', aN EP n 2 (AL.v p (AL.v (.pointer (some ⟨b3, 0, none⟩)) (AL.v (.pointer (some ⟨b4, 0, none⟩)) (AL.i (i : Int) AL.n)))) h = some (.bool true, h')
 | 0, i, n', h, v, hi, hn, T, R, W => by
  obtain ⟨n, rfl⟩ : ∃ n, n' = n + 1 := ⟨n' - 1, by omega⟩
  have ar := T.ar.sub T.g.sub
  rw [aO5]
  unfold aE2
  rw [ar.wP 0 (x := vc) rfl, (sc.sub T.g.sub).rows.len, List.length_map, aQ, aW, aH, if_neg (by simp; omega)]
  rw [List.take_of_length_le (by rw [List.length_map]; omega)] at W
  exact done h n v (by omega) T R W
 | m + 1, i, n', h, v, hi, hn, T, R, W => by
  obtain ⟨n, rfl⟩ : ∃ n, n' = n + 1 := ⟨n' - 1, by omega⟩
  have nc := F.nc
  have hi' : i < s.costs.length := by omega
  have bc := F.cs _ (List.getElem_mem hi')
  have ar := T.ar.sub T.g.sub
  obtain ⟨y, ey, ay, _⟩ := (sc.sub T.g.sub).rows.at (i := i) (r := cZ s.costs[i]) (by rw [List.getElem?_map, List.getElem?_eq_getElem hi']; rfl)
  obtain ⟨v2, h2, g2, W2, e2⟩ := aXG T.g.wf W (by rw [List.length_take, List.length_map]; omega) (x := 2 * s.costs[i])
   (X := fun n2 k => aO 0 (.pointer (some ⟨b4, 0, none⟩)) fun v6 => aJ (Hp.mk n2 n2 h.aC) v6 k)
   (Y := fun n9 k => aO 0 p fun v10 => aJ (Hp.mk n9 n9 h.aC) v10 fun v11 => dN 1 v11 (i : Int) fun v12 => aJ (Hp.mk n9 n9 h.aC) v12 fun v13 => aS .i64 v13 fun i14 => wrap64 (Int.mul (Int.ofNat 2) i14) k)
   (fun n k => fB (h := Hp.mk n n h.aC) (o := 0) T.d4 rfl k)
   (fun n k => by
    have ar' : At (Hp.mk n n h.aC) p (dO vc vo vf vp) := ar
    have ay' : At (Hp.mk n n h.aC) y (cZ s.costs[i]) := ay
    rw [ar'.wP 0 (x := vc) rfl, ey, ay'.j6 (x := .int .i64 s.costs[i]) rfl, aI, show Int.mul (Int.ofNat 2) s.costs[i] = 2 * s.costs[i] from rfl, wrap64_in _ (by omega) (by omega)])
  rw [aO5]
  unfold aE2
  rw [ar.wP 0 (x := vc) rfl, (sc.sub T.g.sub).rows.len, List.length_map, aQ, aW, aH, if_pos (by simp; omega)]
  have ee := e2 fun v18 h18 => aO 0 (.pointer (some ⟨b4, 0, none⟩)) fun v19 => iB h18 v19 v18 fun h20 => wrap64 (Int.add (i : Int) (Int.ofNat 1)) fun i21 => aN EP n 2 (AL.v p (AL.v (.pointer (some ⟨b3, 0, none⟩)) (AL.v (.pointer (some ⟨b4, 0, none⟩)) (AL.i i21 AL.n)))) h20
  refine Eq.mp (congrArg (fun x => ∃ h', x = some (Value.bool true, h')) ee.symm) ?_
  have d4 := g2.sub _ _ T.d4
  have w0r := w0.1
  have n4 := T.n4
  have ro : h2.ro = h0.ro := g2.ro.trans T.g.ro
  have p0 : ∀ k : Value → aF, aO 0 (.pointer (some ⟨b4, 0, none⟩)) k = k (.pointer (some ⟨b4, 0, none⟩)) := fun _ => rfl
  rw [p0, kY (o := 0) d4 (by omega) W2.one (by show 0 < 4; decide), show (dO v vo vf vp).set 0 v2 = dO v2 vo vf vp from rfl, show Int.add (i : Int) (Int.ofNat 1) = ((i + 1 : Nat) : Int) from rfl, wrap64_in _ (by omega) (by omega)]
  have lt4 := g2.wf.2 _ _ d4
  refine aFO w0 F sc gs done m (i + 1) n _ v2 (by omega) (by omega) ⟨aV.upd w0 (T.g.trans g2) T.n4 lt4 _, T.ar, by rw [bL, if_neg T.ne]; exact g2.sub _ _ T.d3, by rw [bL, if_pos rfl], T.n3, T.n4, T.ne⟩ ((R.sub g2.sub).off d4 _) ?_
  have : (s.costs.map fun x => 2 * x).take (i + 1) = (s.costs.map fun x => 2 * x).take i ++ [2 * s.costs[i]] := by
   rw [List.take_succ_eq_append_getElem (by rw [List.length_map]; exact hi'), List.getElem_map]
  rw [this]
  exact W2.off d4 _
end Go.Proofs.Ytdpicdnpiihaaaa.K.L
