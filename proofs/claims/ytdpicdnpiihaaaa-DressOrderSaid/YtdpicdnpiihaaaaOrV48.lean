/- Contracts of told functions: Buy; a room with more ounces. -/
import Derived.Test.YtdpicdnpiihaaaaOrS45
import Derived.Test.YtdpicdnpiihaaaaOrToldV
open Go Go.bI
set_option maxRecDepth 100000
set_option linter.unusedVariables false
namespace Go.Proofs.Ytdpicdnpiihaaaa.K.L
def sD (s : Rm) : List Int × Int × Int := if (fC s).2.2 ≠ 0 then ([], 0, (fC s).2.2) else match leastOf s (kP s) with
 | none => ([], 0, 9)
 | some b => (((gK s (W0 s) (gQ 0 b)).map fP).take s.bW.length, iL s (gQ 0 b), 0)
theorem aDI (l : List Int) : lD (.agg (Array.mk (l.map (Value.int .i64)))) = true := by
 rw [pV]
 show (l.map (Value.int .i64)).all (fU 5) = true
 rw [List.all_map, List.all_eq_true]
 intro x _
 rfl
theorem aAC {h : Hp} (w : Wf h) {s : Rm} {r : List Value} (a : FU h s r) :
  ∃ h' v, F34 [.agg (Array.mk r)] h = some (.tuple (List.toArray [v, .int .i64 (sD s).2.1, .int .i64 (sD s).2.2]), h') ∧ aV h h' ∧ qZ h h' v (sD s).1 := by
 have start : F34 [.agg (Array.mk r)] h = aNL (aN T34 999999) (.agg (Array.mk r)) h := rfl
 rw [start]
 unfold aNL
 have hr4 := a.len
 rw [fF, bT]
 have g0 : aV h (h.add (.cells r 25 none)) := aV.add w _
 have a0 : At (h.add (.cells r 25 none)) (.pointer (some ⟨h.next, 0, none⟩)) r := At.new
 generalize h.add (.cells r 25 none) = h0 at g0 a0 ⊢
 obtain ⟨h2', lk, e2, gg, hl5, h1c, hlk⟩ := UJ (h := dF h0) (fM g0.wf) (a.sub g0.sub)
 obtain ⟨h2, e3, g2, o2⟩ := xU g0.wf e2 gg
 rw [a0.eX (z := 4) hr4, e3, aB, bG (v := .agg (Array.mk lk)) rfl, bG (v := .int .i64 (fC s).2.2) rfl, aI]
 obtain ⟨h4, p4, g4, a4, hk⟩ := l9 (ρ := Value × Hp) (z := 5) g2.wf 71 (c := zeroV) (l := lk) rfl hl5 h1c (fun _ _ => none)
 rw [show [(Value.slice none 0 0), (Value.slice none 0 0), (Value.slice none 0 0), (Value.slice none 0 0), (Value.map none)] = zeroV from rfl, hk, aR, cK, aH]
 have g4h : aV h h4 := (g0.trans g2).trans g4
 unfold sD
 by_cases e0 : (fC s).2.2 = 0
 case neg =>
  rw [if_pos (by simpa using e0), if_pos e0]
  exact ⟨h4, _, rfl, g4h, .inl ⟨rfl, rfl⟩⟩
 have F := rF e0
 obtain ⟨V2, T2⟩ := hlk e0
 have V4 := (aF8 (o2 (V2.loud _)) V2).sub g4.sub
 have as4 : At (Hp.mk h4.next h4.next h4.aC) p4 lk := a4
 have V4s : GD _ (dF h4) s lk := V4
 rw [if_neg (by simpa using e0), if_neg (by simpa using e0), as4.eX (z := 5) hl5, as4.eX (z := 5) hl5, CF (h := dF h4) F V4s, aM, aB, aI]
 obtain ⟨h5', v, e5, g5', q1, q2⟩ := IU (h := dF h4) (fM g4.wf) F V4s
 cases hq : leastOf s (kP s) with
 | none =>
  rw [hq] at q1 e5
  obtain rfl := q1 rfl
  have e6 : bQ F76 [.agg (Array.mk lk), .int .i64 (nJ s.dR.length)] (Hp.mk h4.next h4.next h4.aC) = some (.tuple (List.toArray [.slice none 0 0, .int .i64 9]), Hp.mk h4.next h4.next h4.aC) := bO e5 rfl
  rw [e6, aB, jM, bG (v := .slice none 0 0) rfl, bG (v := .int .i64 9) rfl, aI, aR, cK, aH, if_pos (by decide)]
  exact ⟨_, _, rfl, g4h, .inl ⟨rfl, rfl⟩⟩
 | some b =>
  rw [hq] at q2 e5
  obtain ⟨k, rfl, hk, ck⟩ := q2 b rfl
  have hm : b ∈ kP s := mD s (P := fun g => g ∈ kP s) (fun g hg => hg) _ hq
  obtain ⟨ip, hlen, hx⟩ := oZ F hm
  obtain ⟨H5, W5, gH5, sH5, eH5, ek5⟩ := UF g4.wf e5 rfl g5'
  rw [ek5, bG (v := LQ k (gQ 0 b)) rfl, bG (v := .int .i64 0) rfl, aI, aR, cK, aH, if_neg (by decide), eH5]
  have hk' : h4.next ≤ k := hk
  have c5 : RJ H5 k (gQ 0 b) := ck.keep fun o e => sH5 _ _ hk' e
  have c5s : RJ (dF H5) k (gQ 0 b) := c5
  have a5 : At (Hp.mk H5.next H5.next H5.aC) p4 lk := a4.sub gH5.sub
  have V5 : GD _ (dF H5) s lk := V4.sub fun i o e => gH5.sub _ _ e
  obtain ⟨h6, e6, g6⟩ := J8 (h := dF H5) (fM gH5.wf) F V5 c5s.sl ip
  obtain ⟨b1, b2⟩ := pQ F ip
  have e7 : bQ F60 [.agg (Array.mk lk), LQ k (gQ 0 b)] (Hp.mk H5.next H5.next H5.aC) = some (.agg (Array.mk ((gK s (W0 s) (gQ 0 b)).map (Value.int .i64))), Hp.mk H5.next H5.next H5.aC) := bO e6 (aDI _)
  rw [a5.eX (z := 5) hl5, a5.eX (z := 5) hl5, e7, aB, jM, J9 _ b1 (fun x hx => by have := b2 x hx; omega), aM, aB]
  rw [show (Hp.mk H5.next H5.next (aG [] H5.aC)) = Hp.mk H5.next H5.next H5.aC from rfl, jM]
  rw [show (aG [] (aG [] H5.aC)) = H5.aC from rfl]
  obtain ⟨h8, v8, e8, g8, i8⟩ := aG8 (h := dF H5) (fM gH5.wf) F V5 (W := (gK s (W0 s) (gQ 0 b)).map fP) (by rw [List.length_map]; exact b1)
  obtain ⟨H6, W6, gH6, iH6, eH6, ek6⟩ := keptIn gH5.wf e8 g8 i8
  rw [ek6]
  have a6 : At (Hp.mk H6.next H6.next H5.aC) p4 lk := a4.sub gH5.sub
  rw [a6.eX (z := 5) hl5, eH6, zF F (V4.sub fun i o e => gH6.sub _ _ (gH5.sub _ _ e)) (c5.keep fun o e => gH6.sub _ _ e).sl.rows ip, aM, aB, aI]
  exact ⟨_, _, rfl, (g4h.trans gH5).trans gH6, iH6.low (by have := (g4h.trans gH5).next; exact this)⟩
def sF (a b : List Int) : List Int := List.zipWith (· + ·) a b
theorem qZ.off {hb h : Hp} {v : Value} {ns : List Int} (a : qZ hb h v ns) {b : Nat} {c : List Value} (hg : h.get b = some (.cells c 25 none)) (o : bY) : qZ hb (h.upd b o) v ns := by
 rcases a with a | ⟨b', e, hle, hg'⟩
 ·exact .inl a
 ·refine .inr ⟨b', e, hle, ?_⟩
  rw [bL, if_neg]
  ·exact hg'
  ·intro q
   rw [q, hg] at hg'
   have := Option.some.inj hg'
   injection this with _ h2 _
   exact absurd h2 (by decide)
noncomputable def kH : List Value := [(Value.slice none 0 0), (Value.slice none 0 0), (Value.slice none 0 0), (Value.slice none 0 0)]
end Go.Proofs.Ytdpicdnpiihaaaa.K.L
