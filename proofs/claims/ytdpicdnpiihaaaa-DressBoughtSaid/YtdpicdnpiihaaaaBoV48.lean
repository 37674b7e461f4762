/- Contracts of told functions: Buy; a room with more ounces. -/
import Derived.Test.YtdpicdnpiihaaaaBoS47
import Derived.Test.YtdpicdnpiihaaaaBoToldV
open Go Go.bK
set_option maxRecDepth 100000
set_option linter.unusedVariables false
namespace Go.Proofs.Ytdpicdnpiihaaaa.K.L
def L8 (s : Rm) : List Int × Int × Int := if (gK s).2.2 ≠ 0 then ([], 0, (gK s).2.2) else match leastOf s (iR s) with
 | none => ([], 0, 9)
 | some b => (((gV s (W0 s) (fK 0 b)).map eX).take s.bF.length, iP s (fK 0 b), 0)
theorem aCU (l : List Int) : kT (.agg (Array.mk (l.map (Value.int .i64)))) = true := by
 rw [nP]
 show (l.map (Value.int .i64)).all (fO 5) = true
 rw [List.all_map, List.all_eq_true]
 intro x _
 rfl
theorem aNW {h : Hp} (w : Wf h) {s : Rm} {r : List Value} (a : DI h s r) :
  ∃ h' v, F34 [.agg (Array.mk r)] h = some (.tuple (List.toArray [v, .int .i64 (L8 s).2.1, .int .i64 (L8 s).2.2]), h') ∧ aV h h' ∧ qO h h' v (L8 s).1 := by
 have start : F34 [.agg (Array.mk r)] h = aMH (aK T34 999999) (.agg (Array.mk r)) h := rfl
 rw [start]
 unfold aMH
 have hr4 := a.len
 rw [fA, bO]
 have g0 : aV h (h.add (.cells r 25 none)) := aV.add w _
 have a0 : At (h.add (.cells r 25 none)) (.pointer (some ⟨h.next, 0, none⟩)) r := At.new
 generalize h.add (.cells r 25 none) = h0 at g0 a0 ⊢
 obtain ⟨h2', lk, e2, gg, hl5, h1c, hlk⟩ := TR (h := bZ h0) (fB g0.wf) (a.sub g0.sub)
 obtain ⟨h2, e3, g2, o2⟩ := xR g0.wf e2 gg
 rw [a0.eU (z := 4) hr4, e3, aB, bH (v := .agg (Array.mk lk)) rfl, bH (v := .int .i64 (gK s).2.2) rfl, aH]
 obtain ⟨h4, p4, g4, a4, hk⟩ := lT (ρ := Value × Hp) (z := 5) g2.wf 71 (c := zeroV) (l := lk) rfl hl5 h1c (fun _ _ => none)
 rw [show [(Value.slice none 0 0), (Value.slice none 0 0), (Value.slice none 0 0), (Value.slice none 0 0), (Value.map none)] = zeroV from rfl, hk, aQ, bI, aG]
 have g4h : aV h h4 := (g0.trans g2).trans g4
 unfold L8
 by_cases e0 : (gK s).2.2 = 0
 case neg =>
  rw [if_pos (by simpa using e0), if_pos e0]
  exact ⟨h4, _, rfl, g4h, .inl ⟨rfl, rfl⟩⟩
 have F := rG e0
 obtain ⟨V2, T2⟩ := hlk e0
 have V4 := (aFC (o2 (V2.loud _)) V2).sub g4.sub
 have as4 : At (Hp.mk h4.next h4.next h4.aC) p4 lk := a4
 have V4s : FR _ (bZ h4) s lk := V4
 rw [if_neg (by simpa using e0), if_neg (by simpa using e0), as4.eU (z := 5) hl5, as4.eU (z := 5) hl5, BV (h := bZ h4) F V4s, aJ, aB, aH]
 obtain ⟨h5', v, e5, g5', q1, q2⟩ := IK (h := bZ h4) (fB g4.wf) F V4s
 cases hq : leastOf s (iR s) with
 | none =>
  rw [hq] at q1 e5
  obtain rfl := q1 rfl
  have e6 : bV F76 [.agg (Array.mk lk), .int .i64 (mZ s.dF.length)] (Hp.mk h4.next h4.next h4.aC) = some (.tuple (List.toArray [.slice none 0 0, .int .i64 9]), Hp.mk h4.next h4.next h4.aC) := bJ e5 rfl
  rw [e6, aB, kE, bH (v := .slice none 0 0) rfl, bH (v := .int .i64 9) rfl, aH, aQ, bI, aG, if_pos (by decide)]
  exact ⟨_, _, rfl, g4h, .inl ⟨rfl, rfl⟩⟩
 | some b =>
  rw [hq] at q2 e5
  obtain ⟨k, rfl, hk, ck⟩ := q2 b rfl
  have hm : b ∈ iR s := kQ s (P := fun g => g ∈ iR s) (fun g hg => hg) _ hq
  obtain ⟨ip, hlen, hx⟩ := kG F hm
  obtain ⟨H5, W5, ZZ, sH5, eH5, ek5⟩ := LF g4.wf e5 rfl g5'
  rw [ek5, bH (v := LD k (fK 0 b)) rfl, bH (v := .int .i64 0) rfl, aH, aQ, bI, aG, if_neg (by decide), eH5]
  have hk' : h4.next ≤ k := hk
  have c5 : QW H5 k (fK 0 b) := ck.keep fun o e => sH5 _ _ hk' e
  have c5s : QW (bZ H5) k (fK 0 b) := c5
  have a5 : At (Hp.mk H5.next H5.next H5.aC) p4 lk := a4.sub ZZ.sub
  have V5 : FR _ (bZ H5) s lk := V4.sub fun i o e => ZZ.sub _ _ e
  obtain ⟨h6, e6, g6⟩ := J2 (h := bZ H5) (fB ZZ.wf) F V5 c5s.sl ip
  obtain ⟨b1, b2⟩ := nK F ip
  have e7 : bV F60 [.agg (Array.mk lk), LD k (fK 0 b)] (Hp.mk H5.next H5.next H5.aC) = some (.agg (Array.mk ((gV s (W0 s) (fK 0 b)).map (Value.int .i64))), Hp.mk H5.next H5.next H5.aC) := bJ e6 (aCU _)
  rw [a5.eU (z := 5) hl5, a5.eU (z := 5) hl5, e7, aB, kE, J3 _ b1 (fun x hx => by have := b2 x hx; omega), aJ, aB]
  rw [show (Hp.mk H5.next H5.next (aP [] H5.aC)) = Hp.mk H5.next H5.next H5.aC from rfl, kE]
  rw [show (aP [] (aP [] H5.aC)) = H5.aC from rfl]
  obtain ⟨h8, v8, e8, g8, i8⟩ := aGD (h := bZ H5) (fB ZZ.wf) F V5 (W := (gV s (W0 s) (fK 0 b)).map eX) (by rw [List.length_map]; exact b1)
  obtain ⟨H6, W6, gH6, iH6, eH6, ek6⟩ := keptIn ZZ.wf e8 g8 i8
  rw [ek6]
  have a6 : At (Hp.mk H6.next H6.next H5.aC) p4 lk := a4.sub ZZ.sub
  rw [a6.eU (z := 5) hl5, eH6, yZ F (V4.sub fun i o e => gH6.sub _ _ (ZZ.sub _ _ e)) (c5.keep fun o e => gH6.sub _ _ e).sl.rows ip, aJ, aB, aH]
  exact ⟨_, _, rfl, (g4h.trans ZZ).trans gH6, iH6.low (by have := (g4h.trans ZZ).next; exact this)⟩
def l9 (a b : List Int) : List Int := List.zipWith (· + ·) a b
theorem qO.off {hb h : Hp} {v : Value} {ns : List Int} (a : qO hb h v ns) {b : Nat} {c : List Value} (hg : h.get b = some (.cells c 25 none)) (o : dG) : qO hb (h.upd b o) v ns := by
 rcases a with a | ⟨b', e, hle, hg'⟩
 ·exact .inl a
 ·refine .inr ⟨b', e, hle, ?_⟩
  rw [bU, if_neg]
  ·exact hg'
  ·intro q
   rw [q, hg] at hg'
   have := Option.some.inj hg'
   injection this with _ h2 _
   exact absurd h2 (by decide)
theorem aNX (n : Nat) (v p q u : Value) (i : Int) (h : Hp) : aK T47 (n + 1) 1 (AL.v v (AL.v p (AL.v q (AL.v u (AL.i i AL.n))))) h = aEA (aK T47 n) v p q u i h := rfl
theorem aV6 (n : Nat) (p q u : Value) (h : Hp) : aK T47 (n + 1) 2 (AL.v p (AL.v q (AL.v u AL.n))) h = aMJ (aK T47 n) p q u h := rfl
noncomputable def kY : List Value := [(Value.slice none 0 0), (Value.slice none 0 0), (Value.slice none 0 0), (Value.slice none 0 0)]
theorem EO {hb : Hp} (w : Wf hb) {h0 : Hp} (w0 : Wf h0) (g0 : aV h0 hb) {vc vo vf vp vl : Value} {os l : List Int} (so : kR hb 1 vo (os.map cZ)) (sl : kR hb 1 vl (l.map cZ)) (hl : l.length = os.length) (ho : os.length ≤ 10) (bo : ∀ x ∈ os, -100000 ≤ x ∧ x ≤ 100000) (bl : ∀ x ∈ l, -100000 ≤ x ∧ x ≤ 100000)
  {b2 b4 : Nat} (n2 : h0.next ≤ b2) (n4 : h0.next ≤ b4) (n24 : b2 ≠ b4) (d2 : hb.get b2 = some (.cells (bT vc vo vf vp) 25 none)) (d4 : hb.get b4 = some (.cells kY 25 none)) (one : (bT vc vo vf vp).all oneCell = true) :
  ∀ (m i n : Nat) (h : Hp) (u : Value), aV hb h → qO hb h u ((l9 os l).take i) → i + m = os.length → m + 3 ≤ n →
  ∃ h' v', aK T47 n 1 (AL.v vl (AL.v (.pointer (some ⟨b2, 0, none⟩)) (AL.v (.pointer (some ⟨b4, 0, none⟩)) (AL.v u (AL.i (i : Int) AL.n))))) h = some (.agg (Array.mk (bT vc v' vf vp)), h') ∧ aV h0 h' ∧ qO hb h' v' (l9 os l)
 | 0, i, n', h, u, g, nm, hi, hn => by
  obtain ⟨n, rfl⟩ : ∃ n, n' = n + 2 := ⟨n' - 2, by omega⟩
  have hlen : (l9 os l).length = os.length := by unfold l9; rw [List.length_zipWith]; omega
  rw [List.take_of_length_le (by omega)] at nm
  have ar : At h (.pointer (some ⟨b2, 0, none⟩)) (bT vc vo vf vp) := ⟨b2, 0, _, 25, none, rfl, g.sub _ _ d2, by show 0 + 4 ≤ 4; decide, fun k x hx => by rw [Nat.zero_add]; exact hx⟩
  rw [aNX]
  unfold aEA
  rw [ar.vV 1 (x := vo) rfl, (so.sub g.sub).rows.len, List.length_map, aM, aU, aG, if_neg (by simp; omega), aV6]
  unfold aMJ
  have hro : h.ro = h0.ro := g.ro.trans g0.ro
  have w0r := w0.1
  have f2 := g.sub _ _ d2
  have f4 := g.sub _ _ d4
  have lt2 := g.wf.2 _ _ f2
  have lt4 := g.wf.2 _ _ f4
  have p1 : ∀ (k : Value → aF), aR 1 (.pointer (some ⟨b2, 0, none⟩)) k = k (.pointer (some ⟨b2, 1, none⟩)) := fun _ => rfl
  have n1 : ∀ k : Hp → aF, dY 4 (h.upd b2 (.cells (bT vc u vf vp) 25 none)) (.pointer (some ⟨b4, 0, none⟩)) (.agg (Array.mk (bT vc u vf vp))) k = k ((h.upd b2 (.cells (bT vc u vf vp) 25 none)).upd b4 (.cells (bT vc u vf vp) 25 none)) := fun k => by
   have on : (bT vc u vf vp).all oneCell = true := by
    simp only [bT, List.all_cons, List.all_nil, Bool.and_true, Bool.and_eq_true] at one ⊢
    exact ⟨one.1, nm.one, one.2.2⟩
   rw [qB (n := 4) (c := kY) (t := 25) (s := none) (by rw [bU, if_neg (Ne.symm n24)]; exact f4) (by show h.ro ≤ b4; omega) rfl on (by show 0 + 4 ≤ 4; decide)]
   rfl
  rw [p1, qA (o := 1) f2 (by omega) nm.one (by show 1 < 4; decide), show (bT vc vo vf vp).set 1 u = bT vc u vf vp from rfl,
   FI (o := 0) (n := 4) (c := bT vc u vf vp) (t := 25) (s := none) (by rw [bU, if_pos rfl]) (by show 0 + 4 ≤ 4; decide), show List.take 4 (List.drop 0 (bT vc u vf vp)) = bT vc u vf vp from rfl, n1,
   FI (o := 0) (n := 4) (c := bT vc u vf vp) (t := 25) (s := none) (by rw [bU, if_pos rfl]) (by show 0 + 4 ≤ 4; decide), show List.take 4 (List.drop 0 (bT vc u vf vp)) = bT vc u vf vp from rfl]
  refine ⟨_, u, rfl, aV.upd w0 (aV.upd w0 (g0.trans g) n2 lt2 _) n4 lt4 _, ?_⟩
  exact (nm.off f2 _).off (c := kY) (by rw [bU, if_neg (Ne.symm n24)]; exact f4) _
 | m + 1, i, n', h, u, g, nm, hi, hn => by
  obtain ⟨n, rfl⟩ : ∃ n, n' = n + 1 := ⟨n' - 1, by omega⟩
  have i1 : i < os.length := by omega
  have i2 : i < l.length := by omega
  have hlen : (l9 os l).length = os.length := by unfold l9; rw [List.length_zipWith]; omega
  have hget : (l9 os l)[i]'(by omega) = os[i] + l[i] := by unfold l9; rw [List.getElem_zipWith]
  have ar : At h (.pointer (some ⟨b2, 0, none⟩)) (bT vc vo vf vp) := ⟨b2, 0, _, 25, none, rfl, g.sub _ _ d2, by show 0 + 4 ≤ 4; decide, fun k x hx => by rw [Nat.zero_add]; exact hx⟩
  obtain ⟨y, ey, ay, _⟩ := (so.sub g.sub).rows.at (i := i) (r := cZ os[i]) (by rw [List.getElem?_map, List.getElem?_eq_getElem i1]; rfl)
  obtain ⟨z, ez, az, _⟩ := (sl.sub g.sub).rows.at (i := i) (r := cZ l[i]) (by rw [List.getElem?_map, List.getElem?_eq_getElem i2]; rfl)
  have x1 := bo _ (List.getElem_mem i1)
  have x2 := bl _ (List.getElem_mem i2)
  rw [aNX]
  unfold aEA
  rw [ar.vV 1 (x := vo) rfl, (so.sub g.sub).rows.len, List.length_map, aM, aU, aG, if_pos (by simp; omega), ar.vV 1 (x := vo) rfl, ey, ay.jT (x := .int .i64 os[i]) rfl, aH, (sl.sub g.sub).rows.len, List.length_map, aM, aU, aG, if_pos (by simp; omega), ez, az.jT (x := .int .i64 l[i]) rfl, aH, show Int.add os[i] l[i] = os[i] + l[i] from rfl, wrap64_in _ (by omega) (by omega), V7, aB]
  obtain ⟨v2, h2, e2, g2, nm2⟩ := xQ w g nm (by rw [List.length_take]; omega) (os[i] + l[i])
  rw [e2, aB, show Int.add (i : Int) (Int.ofNat 1) = ((i + 1 : Nat) : Int) from rfl, wrap64_in _ (by omega) (by omega)]
  refine EO w w0 g0 so sl hl ho bo bl n2 n4 n24 d2 d4 one m (i + 1) n h2 v2 g2 ?_ (by omega) (by omega)
  rw [List.take_succ_eq_append_getElem (by omega), hget]
  exact nm2
theorem LH {h : Hp} (w : Wf h) {s : Rm} (F : lJ s) {vc vo vf vp : Value} (A : DI h s (bT vc vo vf vp)) {vl : Value} {l : List Int} (sl : kR h 1 vl (l.map cZ)) (hl : l.length = s.bF.length) (bl : ∀ x ∈ l, -100000 ≤ x ∧ x ≤ 100000) :
  ∃ h' v', F47 [.agg (Array.mk (bT vc vo vf vp)), vl] h = some (.agg (Array.mk (bT vc v' vf vp)), h') ∧ aV h h' ∧ qO h h' v' (l9 s.bF l) := by
 have start : F47 [.agg (Array.mk (bT vc vo vf vp)), vl] h = aMK (aK T47 999999) (.agg (Array.mk (bT vc vo vf vp))) vl h := rfl
 rw [start]
 unfold aMK
 rw [fA, bO, bO, show [(Value.slice none 0 0), (Value.slice none 0 0), (Value.slice none 0 0), (Value.slice none 0 0)] = kY from rfl]
 have one := A.one
 obtain ⟨vc', vo', vf', vp', er, sc, so, sf, sp, af, ap⟩ := A
 obtain ⟨rfl, rfl, rfl, rfl⟩ : vc = vc' ∧ vo = vo' ∧ vf = vf' ∧ vp = vp' := by simpa [bT] using er
 have g1 := aV.add w (.cells (bT vc vo vf vp) 25 none)
 have g2 := g1.trans (aV.add g1.wf (.cells kY 25 none))
 have d2 : ((h.add (.cells (bT vc vo vf vp) 25 none)).add (.cells kY 25 none)).get h.next = some (.cells (bT vc vo vf vp) 25 none) := by
  rw [bR, if_neg (by rw [mF]; omega), bR]; exact if_pos rfl
 have d4 : ((h.add (.cells (bT vc vo vf vp) 25 none)).add (.cells kY 25 none)).get (h.next + 1) = some (.cells kY 25 none) := by rw [bR]; exact if_pos rfl
 rw [show (h.add (.cells (bT vc vo vf vp) 25 none)).next = h.next + 1 from rfl]
 have no := F.no
 obtain ⟨h', v', e, g, i⟩ := EO g2.wf w g2 (so.sub g2.sub) (sl.sub g2.sub) hl (by omega) (fun x hx => by have := F.os x hx; omega) bl (Nat.le_refl _) (by omega) (by omega) d2 d4 one s.bF.length 0 999999 _ (.slice none 0 0) (aV.refl g2.wf) (.inl ⟨rfl, rfl⟩) (by omega) (by omega)
 exact ⟨h', v', e, g, i.low g2.next⟩
end Go.Proofs.Ytdpicdnpiihaaaa.K.L
