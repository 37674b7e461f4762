/- Contracts of told functions: whether the hair is changed; what is left of it. -/
import Derived.Test.YtdpicdnpiihaaaaBoS18
open Go Go.bK
set_option maxRecDepth 100000
set_option linter.unusedVariables false
namespace Go.Proofs.Ytdpicdnpiihaaaa.K.L
theorem aCH {h : Hp} (w : Wf h) {l1 l2 : List Value} (e1 : l1.length = 3) (e2 : l2.length = 3) (x1 : l1.all oneCell = true) (x2 : l2.all oneCell = true) (chk : List (Nat × dG) → List (Nat × dG) → Nat → Bool) (hc : ∀ x w, chk [(h.next, x)] w h.next = true) :
  ∃ h', aV h h' ∧ At h' (.pointer (some ⟨h.next, 0, none⟩)) l1 ∧ At h' (.pointer (some ⟨h.next + 1, 0, none⟩)) l2 ∧ ∀ K : Value → Value → Hp → aF,
   (bD (Hp.mk h.next h.next T.nil) 59 mH fun a9 h9 => iH a9 h.next h9 fun w10 n10 => bD (Hp.mk n10 n10 T.nil) 59 mH fun a11 h11 => iH a11 n10 h11 fun w12 n12 => EW env 59 a9 (.agg (Array.mk l1)) n12 h.next (aP w12 (aP w10 h.aC)) (chk w10 w12) fun w13 => dY 3 (Hp.mk n12 h.ro (aP w13 (aP w12 (aP w10 h.aC)))) a11 (.agg (Array.mk l2)) fun h14 => K a9 a11 h14) = K (.pointer (some ⟨h.next, 0, none⟩)) (.pointer (some ⟨h.next + 1, 0, none⟩)) h' := by
 have gN : aV h (((h.add (.cells mH 59 none)).add (.cells mH 59 none)).upd h.next (.cells l1 59 none)) :=
  aV.upd w ((aV.add w _).trans (aV.add (w.add _) _)) (Nat.le_refl _) (by rw [mF, mF]; omega) _
 have cx : (((h.add (.cells mH 59 none)).add (.cells mH 59 none)).upd h.next (.cells l1 59 none)).get h.next = some (.cells l1 59 none) := by rw [bU, if_pos rfl]
 have cz : (((h.add (.cells mH 59 none)).add (.cells mH 59 none)).upd h.next (.cells l1 59 none)).get (h.next + 1) = some (.cells mH 59 none) := by
  rw [bU, if_neg (by omega), bR, if_pos (by rw [mF])]
 obtain ⟨h22, g22, a22, k22, o22⟩ := DK (z := 3) (l := l2) w gN (b := h.next + 1) (by omega) cz rfl e2 x2
 have ax : At h22 (.pointer (some ⟨h.next, 0, none⟩)) l1 := ⟨h.next, 0, _, 59, none, rfl, o22 _ _ (by omega) cx, by simp, fun k y hy => by simpa using hy⟩
 refine ⟨h22, g22, ax, a22, fun K => ?_⟩
 rw [bO, show (Hp.mk h.next h.next T.nil).next = h.next from rfl, DL, bO, show (Hp.mk (h.next + 1) (h.next + 1) T.nil).next = h.next + 1 from rfl, DL]
 have hget : Hp.get ⟨h.next + 1 + 1, h.next, aP [(h.next + 1, dG.cells mH 59 none)] (aP [(h.next, dG.cells mH 59 none)] h.aC)⟩ h.next = some (.cells mH 59 none) := by
  show ((h.add (.cells mH 59 none)).add (.cells mH 59 none)).get h.next = _
  rw [bR, if_neg (by rw [mF]; omega), bR, if_pos rfl]
 have sq : ∀ k : List (Nat × dG) → aF, EW env 59 (.pointer (some ⟨h.next, 0, none⟩)) (.agg (Array.mk l1)) (h.next + 1 + 1) h.next (aP [(h.next + 1, .cells mH 59 none)] (aP [(h.next, .cells mH 59 none)] h.aC)) (chk [(h.next, .cells mH 59 none)] [(h.next + 1, .cells mH 59 none)]) k = k [(h.next, .cells l1 59 none)] := by
  intro k
  unfold EW
  rw [show addrOf (.pointer (some ⟨h.next, 0, none⟩)) = some ⟨h.next, 0, none⟩ from rfl]
  simp only [hc]
  rw [aG, if_pos rfl, WB _ hget rfl e1 x1 (Nat.le_refl _), aJ]
  rw [show Nat.beq (Hp.upd ⟨h.next + 1 + 1, h.next, aP [(h.next + 1, dG.cells mH 59 none)] (aP [(h.next, dG.cells mH 59 none)] h.aC)⟩ h.next (.cells l1 59 none)).next (h.next + 1 + 1) = true from Nat.beq_refl _, aG, if_pos rfl, bU, if_pos rfl, aJ]
 rw [sq]
 exact k22 _ _
theorem At.off {h : Hp} {b o b5 : Nat} {r : List Value} (a : At h (.pointer (some ⟨b, o, none⟩)) r) (hne : b ≠ b5) (x : dG) : At (h.upd b5 x) (.pointer (some ⟨b, o, none⟩)) r := by
 obtain ⟨b', k, c, t, s, h1, h2, h3, h4⟩ := a
 cases h1
 exact ⟨b, o, c, t, s, rfl, by rw [bU, if_neg hne]; exact h2, h3, h4⟩
theorem aEG {ρ : Type} (b i : Nat) (hi : i < 4) (k : Value → Option ρ) : NS 4 1 (.pointer (some ⟨b, 0, none⟩)) (i : Int) k = k (.pointer (some ⟨b, i, none⟩)) := by
 show bY (Nat.ble (Nat.succ i) 4) (gZ (Nat.add 0 (Nat.mul i 1)) fun o => k (.pointer (some ⟨b, o, none⟩))) none = _
 rw [show Nat.ble (Nat.succ i) 4 = true from by rw [Nat.ble_eq]; omega, dJ, show Nat.add 0 (Nat.mul i 1) = i from by show 0 + i * 1 = i; omega]
def hch (s : Rm) (c : Nat × Nat) : Bool := (V8 s c).contains 0
theorem WC {h : Hp} {s : Rm} (F : lJ s) {lo : Nat} {lk : List Value} (V : FR lo h s lk) {c : Nat × Nat} (h1 : c.1 < s.dZ.length) (h2 : c.2 < s.dF.length) : F92 [.agg (Array.mk lk), .agg (Array.mk (iB c))] h = some (.bool (hch s c)) := by
 obtain ⟨r, mb, hb, rfl, A, M, _⟩ := V
 obtain ⟨vc, vo, vf, vp, rfl, sc, _⟩ := A
 obtain ⟨u, hu, au⟩ := M.get (a := c.1) (b := c.2) trivial (List.getElem?_eq_getElem h1) (List.getElem?_eq_getElem h2)
 rw [← V9 (s := s) (c := c) (List.getElem?_eq_getElem h1) (List.getElem?_eq_getElem h2)] at au
 obtain ⟨k1, _⟩ := aMT F h1 h2
 show plainO (aJX h (G.aK (T92 h) 999999) (.agg (Array.mk (bT vc vo vf vp ++ [.map (some mb)]))) (.agg (Array.mk (iB c)))) = _
 unfold aJX
 rw [fA, fA, j5, j5, oN _ _ 4 (.map (some mb)) rfl, aSU, Y3, hu, aJ, show (Int.ofNat 0) = (0 : Int) from rfl, QT au.rows 0 (by omega), aJ, aW]
 rfl
theorem aCI {f q : Lk} {k : Nat} (e1 : f.lk.length = k + 1) (e2 : q.lk.length = k + 1) : (jS 0 f.lk q.lk).contains 0 = (decide (gG q ≠ -1) && decide (gG q ≠ gG f)) := by
 unfold gG
 cases h1 : f.lk with
 | nil => rw [h1] at e1; simp at e1
 | cons a l =>
 cases h2 : q.lk with
 | nil => rw [h2] at e2; simp at e2
 | cons b m =>
 have no : (jS 1 l m).contains 0 = false := by
  cases c : (jS 1 l m).contains 0 with
  | false => rfl
  | true =>
   have : (0 : Int) ∈ jS 1 l m := by simpa using c
   obtain ⟨k, e, h, _⟩ := JZ _ _ _ _ this
   omega
 show (jS 0 (a :: l) (b :: m)).contains 0 = (decide (b ≠ -1) && decide (b ≠ a))
 unfold jS
 by_cases c : b ≠ -1 ∧ b ≠ a
 ·rw [if_pos c, decide_eq_true c.1, decide_eq_true c.2]; simp
 ·rw [if_neg c, no]
  by_cases c1 : b = -1
  ·simp [c1]
  ·have : b = a := by
    by_cases c2 : b = a
    ·exact c2
    ·exact absurd ⟨c1, c2⟩ c
   simp [this]
theorem aNA {s : Rm} (F : lJ s) {c : Nat × Nat} {f q : Lk} (hf : s.dZ[c.1]? = some f) (hq : s.dF[c.2]? = some q) : hch s c = (decide (gG q ≠ -1) && decide (gG q ≠ gG f)) := by
 have f1 := (F.fs f (List.mem_of_getElem? hf)).1
 have f2 := (F.ps q (List.mem_of_getElem? hq)).1
 have nc := F.nc
 unfold hch
 rw [V9 hf hq]
 exact aCI (k := s.costs.length - 1) (by omega) (by omega)
def qX (W : List Int) (i : Int) (d : Int) : List Int := W.set i.toNat (W.getD i.toNat 0 + d)
def sZ (s : Rm) (c : Nat × Nat) : Int := ((s.dZ[c.1]?).map gG).getD 0
def wK (s : Rm) (c : Nat × Nat) : Int := ((s.dZ[c.1]?).map Lk.kZ).getD 0
def FN (s : Rm) (c : Nat × Nat) : Int := ((s.dF[c.2]?).map gG).getD 0
def PK (s : Rm) (c : Nat × Nat) : Int := ((s.dF[c.2]?).map Lk.kZ).getD 0
def stepW (s : Rm) (W : List Int) (c : Nat × Nat) : List Int := if hch s c then qX (qX W (sZ s c) (wK s c)) (FN s c) (-(PK s c)) else W
def gV (s : Rm) : List Int → List (Nat × Nat) → List Int
 | W, [] => W
 | W, c :: l => gV s (stepW s W c) l
theorem sD (W : List Int) (i d : Int) : (qX W i d).length = W.length := List.length_set
theorem MQ {W : List Int} {B i d : Int} (h : ∀ x ∈ W, -B ≤ x ∧ x ≤ B) (hB : 0 ≤ B) (hd : -50 ≤ d ∧ d ≤ 50) : ∀ x ∈ qX W i d, -(B + 50) ≤ x ∧ x ≤ B + 50 := by
 intro x hx
 unfold qX at hx
 rcases List.mem_or_eq_of_mem_set hx with hx | hx
 ·have := h x hx; omega
 ·subst hx
  rw [List.getD_eq_getElem?_getD]
  cases e : W[i.toNat]? with
  | none => simp; omega
  | some y => have := h y (List.mem_of_getElem? e); simp; omega
noncomputable def sK : List Value := [(Value.int .i64 (Int.ofNat 0)), (Value.int .i64 (Int.ofNat 0)), (Value.int .i64 (Int.ofNat 0)), (Value.int .i64 (Int.ofNat 0))]
theorem Y4 (W : List Int) : (W.map (Value.int .i64)).all oneCell = true := by
 rw [List.all_map, List.all_eq_true]; intro x _; rfl
theorem aNB (n : Nat) (p q x u : Value) (k i : Int) (h : Hp) : aK T60 (n + 1) 1 (AL.v p (AL.v q (AL.v x (AL.v u (AL.i k (AL.i i AL.n)))))) h = aDU (aK T60 n) p q x u k i h := rfl
theorem aVO (n : Nat) (q x : Value) (h : Hp) : aK T60 (n + 1) 2 (AL.v q (AL.v x AL.n)) h = aJZ (aK T60 n) q x h := rfl
theorem K8 {h0 hb : Hp} (w0 : Wf h0) (g0 : aV h0 hb) {s : Rm} (F : lJ s) {p : Value} {lk : List Value} {lo : Nat} (V : FR lo hb s lk) (ap : At hb p lk) {b4 b5 : Nat} (hb4 : h0.next ≤ b4) (c4 : hb.get b4 = some (.cells sK 87 none)) (hb5 : hb.next ≤ b5)
  {u : Value} {l : List (Nat × Nat)} (sl : kR hb 2 u (l.map iB)) (hl : PG s l) : ∀ (m k n : Nat) (h : Hp) (W : List Int), aV hb h → h.get b5 = some (.cells (W.map (Value.int .i64)) 87 none) → W.length = 4 → (∀ x ∈ W, -(50 + 100 * (k : Int)) ≤ x ∧ x ≤ 50 + 100 * (k : Int)) → k + m = l.length → m + 3 ≤ n →
  ∃ h', aK T60 n 1 (AL.v p (AL.v (.pointer (some ⟨b4, 0, none⟩)) (AL.v (.pointer (some ⟨b5, 0, none⟩)) (AL.v u (AL.i (l.length : Int) (AL.i (k : Int) AL.n)))))) h = some (.agg (Array.mk ((gV s W (l.drop k)).map (Value.int .i64))), h') ∧ aV h0 h'
 | 0, k, n', h, W, g, c5, hW, hB, hk, hn => by
  obtain ⟨n, rfl⟩ : ∃ n, n' = n + 2 := ⟨n' - 2, by omega⟩
  rw [aNB]
  unfold aDU
  rw [aM, aU, aG, if_neg (by simp; omega), aVO, List.drop_of_length_le (by omega)]
  unfold aJZ gV
  have a5 : At h (.pointer (some ⟨b5, 0, none⟩)) (W.map (Value.int .i64)) := ⟨b5, 0, _, 87, none, rfl, c5, by simp, fun k x hx => by simpa using hx⟩
  obtain ⟨h3, g3, a3, k3, _⟩ := DK (z := 4) (l := W.map (Value.int .i64)) w0 (g0.trans g) hb4 (g.sub _ _ c4) rfl (by rw [List.length_map]; exact hW) (Y4 W)
  rw [a5.eU (z := 4) (by rw [List.length_map]; exact hW), k3, a3.eU (z := 4) (by rw [List.length_map]; exact hW)]
  exact ⟨h3, rfl, g3⟩
 | m + 1, k, n', h, W, g, c5, hW, hB, hk, hn => by
  obtain ⟨n, rfl⟩ : ∃ n, n' = n + 1 := ⟨n' - 1, by omega⟩
  have hk' : k < l.length := by omega
  have l10 := hl.1
  obtain ⟨i1, i2⟩ := hl.2 _ (List.getElem_mem hk')
  have hf : s.dZ[(l[k]).1]? = some s.dZ[(l[k]).1] := List.getElem?_eq_getElem i1
  have hq : s.dF[(l[k]).2]? = some s.dF[(l[k]).2] := List.getElem?_eq_getElem i2
  obtain ⟨q, eq, aq, lq⟩ := (sl.sub g.sub).rows.at (i := k) (r := iB l[k]) (by rw [List.getElem?_map, List.getElem?_eq_getElem hk']; rfl)
  rw [aNB]
  unfold aDU
  rw [aM, aU, aG, if_pos (by simp; omega), eq, aq.eU lq]
  obtain ⟨h4, q4, g4, a4, hk4⟩ := lT (ρ := Value × Hp) (z := 2) g.wf 76 (c := [(Value.int .i64 (Int.ofNat 0)), (Value.int .i64 (Int.ofNat 0))]) (l := iB l[k]) rfl rfl rfl (fun _ _ => none)
  have gb4 := g.trans g4
  have V4 := V.sub gb4.sub
  have c54 := g4.sub _ _ c5
  rw [hk4, (ap.sub gb4.sub).eU (z := 5) V4.len, a4.eU (z := 2) rfl, WC F V4 i1 i2, aJ, aB, aW, aG, List.drop_eq_getElem_cons hk', show gV s W (l[k] :: l.drop (k + 1)) = gV s (stepW s W l[k]) (l.drop (k + 1)) from rfl]
  have next : ∀ (h2 : Hp) (W2 : List Int), aV hb h2 → h2.get b5 = some (.cells (W2.map (Value.int .i64)) 87 none) → W2.length = 4 → (∀ x ∈ W2, -(50 + 100 * ((k + 1 : Nat) : Int)) ≤ x ∧ x ≤ 50 + 100 * ((k + 1 : Nat) : Int)) → ∃ h', (wrap64 (Int.add (k : Int) (Int.ofNat 1)) fun i => aK T60 n 1 (AL.v p (AL.v (.pointer (some ⟨b4, 0, none⟩)) (AL.v (.pointer (some ⟨b5, 0, none⟩)) (AL.v u (AL.i (l.length : Int) (AL.i i AL.n)))))) h2) = some (.agg (Array.mk ((gV s W2 (l.drop (k + 1))).map (Value.int .i64))), h') ∧ aV h0 h' := by
   intro h2 W2 g2 c2 hW2 hB2
   rw [show Int.add (k : Int) (Int.ofNat 1) = ((k + 1 : Nat) : Int) from rfl, wrap64_in _ (by omega) (by omega)]
   exact K8 w0 g0 F V ap hb4 c4 hb5 sl hl m (k + 1) n h2 W2 g2 c2 hW2 hB2 (by omega) (by omega)
  cases ch : hch s l[k] with
  | false =>
   rw [if_neg (by simp), show stepW s W l[k] = W from by unfold stepW; rw [ch]; rfl]
   exact next h4 W gb4 c54 hW (fun x hx => by have := hB x hx; omega)
  | true =>
  have V4c := V4
  obtain ⟨r, mb, hbm, hlr, A, M, hlo⟩ := V4c
  obtain ⟨q5, hq5, Y5⟩ := (ap.sub gb4.sub).part 0 4 (by rw [V4.len]; decide)
  replace Y5 : At h4 q5 r := by rw [hlr] at Y5; rw [List.drop_zero, List.take_append_of_le_length (by rw [A.len]; omega), List.take_of_length_le (by rw [A.len]; omega)] at Y5; exact Y5
  obtain ⟨vc, vo, vf, vp, rfl, sc, so, sf, sp, af, aqq⟩ := A
  have q5' : At (Hp.mk h4.next h4.next h4.aC) q5 (bT vc vo vf vp) := Y5
  have a4' : At (Hp.mk h4.next h4.next h4.aC) q4 (iB l[k]) := a4
  obtain ⟨x, ex, ax, lx⟩ := sf.rows.at (i := (l[k]).1) (r := (s.dZ[(l[k]).1]).row) (by rw [List.getElem?_map, hf]; rfl)
  obtain ⟨y, ey, ay, ly⟩ := sp.rows.at (i := (l[k]).2) (r := (s.dF[(l[k]).2]).row) (by rw [List.getElem?_map, hq]; rfl)
  have x1 : At (Hp.mk h4.next h4.next h4.aC) x (s.dZ[(l[k]).1]).row := ax
  have y1 : At (Hp.mk h4.next h4.next h4.aC) y (s.dF[(l[k]).2]).row := ay
  have lf := af _ (List.getElem_mem i1)
  have lq := aqq _ (List.getElem_mem i2)
  obtain ⟨h6, g6, b6, d6, hk6⟩ := aCH g4.wf (l1 := (s.dZ[(l[k]).1]).row) (l2 := (s.dF[(l[k]).2]).row) rfl rfl lf.one lq.one (fun w26 w28 b => (iA [] b || (iA [] b || (iA [] b || (iA [] b || (iA [] b || (iA [] b || (iA [] b || (iA w26 b || (iA w28 b || false)))))))))) (fun x w => by
   have hh : iA [(h4.next, x)] h4.next = true := by unfold iA; simp
   simp only [hh, Bool.true_or, Bool.or_true])
  rw [if_pos rfl, hq5, q5'.vV 2 (x := vf) rfl, a4'.vV 0 (x := .int .i64 ((l[k]).1 : Int)) rfl, aH, ex, x1.eU (z := 3) rfl, hq5, q5'.vV 3 (x := vp) rfl, a4'.vV 1 (x := .int .i64 ((l[k]).2 : Int)) rfl, aH, ey, y1.eU (z := 3) rfl, show [(Value.string (ByteArray.mk #[])), (Value.slice none 0 0), (Value.int .i64 (Int.ofNat 0))] = mH from rfl, hk6]
  have f1 := F.fs _ (List.getElem_mem i1)
  have f2 := F.ps _ (List.getElem_mem i2)
  have nc := F.nc
  have no := F.no
  have hce := aNA F hf hq
  rw [ch, eq_comm, Bool.and_eq_true, decide_eq_true_iff, decide_eq_true_iff] at hce
  have hhf := MP (g := s.dZ[(l[k]).1]) (k := s.costs.length - 1) (by omega)
  have hhq := MP (g := s.dF[(l[k]).2]) (k := s.costs.length - 1) (by omega)
  obtain ⟨z1, ez1, az1, _⟩ := (lf.sub g6.sub).rows.at (i := 0) (r := cZ (gG s.dZ[(l[k]).1])) (by rw [List.getElem?_map, hhf]; rfl)
  obtain ⟨i, ei⟩ : ∃ i : Nat, gG s.dZ[(l[k]).1] = (i : Int) := ⟨(gG s.dZ[(l[k]).1]).toNat, by omega⟩
  obtain ⟨j, ej⟩ : ∃ j : Nat, gG s.dF[(l[k]).2] = (j : Int) := ⟨(gG s.dF[(l[k]).2]).toNat, by omega⟩
  have hi4 : i < 4 := by omega
  have hj4 : j < 4 := by omega
  have c56 := g6.sub _ _ c54
  have gb6 := gb4.trans g6
  have lt5 := g4.wf.2 _ _ c54
  have ro6 : h6.ro ≤ b5 := by rw [gb6.ro]; have := g0.wf.1; omega
  have wi : (W.map (Value.int .i64))[i]? = some (.int .i64 W[i]) := by rw [List.getElem?_map, List.getElem?_eq_getElem (by omega)]; rfl
  have Wi := hB W[i] (List.getElem_mem _)
  have W1 : qX W (sZ s l[k]) (wK s l[k]) = W.set i (W[i] + (s.dZ[(l[k]).1]).kZ) := by
   unfold qX sZ wK
   rw [hf]
   simp only [Option.map_some, Option.getD_some]
   rw [ei, Int.toNat_natCast, List.getD_eq_getElem?_getD, List.getElem?_eq_getElem (by omega), Option.getD_some]
  have hB1 := MQ (i := sZ s l[k]) (d := wK s l[k]) hB (by omega) (by unfold wK; rw [hf]; simp only [Option.map_some, Option.getD_some]; omega)
  have lW1 : (qX W (sZ s l[k]) (wK s l[k])).length = 4 := by rw [sD]; exact hW
  have bGO : (W.map (Value.int .i64)).set i (.int .i64 (W[i] + (s.dZ[(l[k]).1]).kZ)) = (qX W (sZ s l[k]) (wK s l[k])).map (Value.int .i64) := by rw [W1, List.map_set]
  rw [b6.vV 1 (x := (s.dZ[(l[k]).1]).lv) rfl, show (Int.ofNat 0) = ((0 : Nat) : Int) from rfl, ez1, az1.jT (x := .int .i64 (gG s.dZ[(l[k]).1])) rfl, aH, ei, aEG _ _ hi4, fP c56 wi, aH, b6.vV 2 (x := .int .i64 (s.dZ[(l[k]).1]).kZ) rfl, aH, show Int.add W[i] (s.dZ[(l[k]).1]).kZ = W[i] + (s.dZ[(l[k]).1]).kZ from rfl, wrap64_in _ (by omega) (by omega), aEG _ _ hi4, qA c56 ro6 rfl (by rw [List.length_map]; omega), bGO]
  have g7 : aV hb (h6.upd b5 (.cells ((qX W (sZ s l[k]) (wK s l[k])).map (Value.int .i64)) 87 none)) := aV.upd g0.wf gb6 hb5 (by have := g6.next; omega) _
  have c57 : (h6.upd b5 (.cells ((qX W (sZ s l[k]) (wK s l[k])).map (Value.int .i64)) 87 none)).get b5 = some (.cells ((qX W (sZ s l[k]) (wK s l[k])).map (Value.int .i64)) 87 none) := by rw [bU, if_pos rfl]
  have d7 := At.off d6 (b5 := b5) (by omega) (.cells ((qX W (sZ s l[k]) (wK s l[k])).map (Value.int .i64)) 87 none)
  have ro7 : (h6.upd b5 (.cells ((qX W (sZ s l[k]) (wK s l[k])).map (Value.int .i64)) 87 none)).ro ≤ b5 := ro6
  obtain ⟨r0, mb0, bP0, bP1, A0, M0, hlo0⟩ := V
  obtain ⟨vc0, vo0, vf0, vp0, rfl, _, _, _, _, _, aq0⟩ := A0
  have lq0 := aq0 _ (List.getElem_mem i2)
  obtain ⟨z2, ez2, az2, _⟩ := (lq0.sub g7.sub).rows.at (i := 0) (r := cZ (gG s.dF[(l[k]).2])) (by rw [List.getElem?_map, hhq]; rfl)
  generalize h6.upd b5 (.cells ((qX W (sZ s l[k]) (wK s l[k])).map (Value.int .i64)) 87 none) = h7 at g7 c57 d7 ro7 az2 ⊢
  have hst : stepW s W l[k] = qX (qX W (sZ s l[k]) (wK s l[k])) (FN s l[k]) (-(PK s l[k])) := by unfold stepW; rw [ch]; rfl
  rw [hst]
  generalize qX W (sZ s l[k]) (wK s l[k]) = W2 at lW1 hB1 c57 ⊢
  have wj : (W2.map (Value.int .i64))[j]? = some (.int .i64 W2[j]) := by rw [List.getElem?_map, List.getElem?_eq_getElem (by omega)]; rfl
  have Wj := hB1 W2[j] (List.getElem_mem _)
  have W3 : qX W2 (FN s l[k]) (-(PK s l[k])) = W2.set j (W2[j] - (s.dF[(l[k]).2]).kZ) := by
   unfold qX FN PK
   rw [hq]
   simp only [Option.map_some, Option.getD_some]
   rw [ej, Int.toNat_natCast, List.getD_eq_getElem?_getD, List.getElem?_eq_getElem (by omega), Option.getD_some, Int.sub_eq_add_neg]
  have hB3 := MQ (i := FN s l[k]) (d := -(PK s l[k])) hB1 (by omega) (by unfold PK; rw [hq]; simp only [Option.map_some, Option.getD_some]; omega)
  have a4G : (W2.map (Value.int .i64)).set j (.int .i64 (W2[j] - (s.dF[(l[k]).2]).kZ)) = (qX W2 (FN s l[k]) (-(PK s l[k]))).map (Value.int .i64) := by rw [W3, List.map_set]
  rw [d7.vV 1 (x := (s.dF[(l[k]).2]).lv) rfl, ez2, az2.jT (x := .int .i64 (gG s.dF[(l[k]).2])) rfl, aH, ej, aEG _ _ hj4, fP c57 wj, aH, d7.vV 2 (x := .int .i64 (s.dF[(l[k]).2]).kZ) rfl, aH, show Int.sub W2[j] (s.dF[(l[k]).2]).kZ = W2[j] - (s.dF[(l[k]).2]).kZ from rfl, wrap64_in _ (by omega) (by omega), aEG _ _ hj4, qA c57 ro7 rfl (by rw [List.length_map]; omega), a4G]
  exact next _ _ (aV.upd g0.wf g7 hb5 (g7.wf.2 _ _ c57) _) (by rw [bU, if_pos rfl]) (by rw [sD]; exact lW1) (fun x hx => by have := hB3 x hx; omega)
end Go.Proofs.Ytdpicdnpiihaaaa.K.L
