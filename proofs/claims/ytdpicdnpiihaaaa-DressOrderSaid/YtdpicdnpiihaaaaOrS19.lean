/- Contracts of told functions: whether the hair is changed; what is left of it. -/
import Derived.Test.YtdpicdnpiihaaaaOrS18
open Go Go.bI
set_option maxRecDepth 100000
set_option linter.unusedVariables false
namespace Go.Proofs.Ytdpicdnpiihaaaa.K.L
theorem aC6 {h : Hp} (w : Wf h) {l1 l2 : List Value} (e1 : l1.length = 3) (e2 : l2.length = 3) (x1 : l1.all oneCell = true) (x2 : l2.all oneCell = true) (chk : List (Nat × bY) → List (Nat × bY) → Nat → Bool) (hc : ∀ x w, chk [(h.next, x)] w h.next = true) :
  ∃ h', aV h h' ∧ At h' (.pointer (some ⟨h.next, 0, none⟩)) l1 ∧ At h' (.pointer (some ⟨h.next + 1, 0, none⟩)) l2 ∧ ∀ K : Value → Value → Hp → aF,
   (bC (Hp.mk h.next h.next T.nil) 59 mQ fun a9 h9 => eP a9 h.next h9 fun TV n10 => bC (Hp.mk n10 n10 T.nil) 59 mQ fun a11 h11 => eP a11 n10 h11 fun QY n12 => uH env 59 a9 (.agg (Array.mk l1)) n12 h.next (aG QY (aG TV h.aC)) (chk TV QY) fun w13 => dY 3 (Hp.mk n12 h.ro (aG w13 (aG QY (aG TV h.aC)))) a11 (.agg (Array.mk l2)) fun ZB => K a9 a11 ZB) = K (.pointer (some ⟨h.next, 0, none⟩)) (.pointer (some ⟨h.next + 1, 0, none⟩)) h' := by
 have gN : aV h (((h.add (.cells mQ 59 none)).add (.cells mQ 59 none)).upd h.next (.cells l1 59 none)) :=
  aV.upd w ((aV.add w _).trans (aV.add (w.add _) _)) (Nat.le_refl _) (by rw [kZ, kZ]; omega) _
 have cx : (((h.add (.cells mQ 59 none)).add (.cells mQ 59 none)).upd h.next (.cells l1 59 none)).get h.next = some (.cells l1 59 none) := by rw [bL, if_pos rfl]
 have cz : (((h.add (.cells mQ 59 none)).add (.cells mQ 59 none)).upd h.next (.cells l1 59 none)).get (h.next + 1) = some (.cells mQ 59 none) := by
  rw [bL, if_neg (by omega), bD, if_pos (by rw [kZ])]
 obtain ⟨h22, g22, a22, k22, o22⟩ := DU (z := 3) (l := l2) w gN (b := h.next + 1) (by omega) cz rfl e2 x2
 have ax : At h22 (.pointer (some ⟨h.next, 0, none⟩)) l1 := ⟨h.next, 0, _, 59, none, rfl, o22 _ _ (by omega) cx, by simp, fun k y hy => by simpa using hy⟩
 refine ⟨h22, g22, ax, a22, fun K => ?_⟩
 rw [bT, show (Hp.mk h.next h.next T.nil).next = h.next from rfl, DV, bT, show (Hp.mk (h.next + 1) (h.next + 1) T.nil).next = h.next + 1 from rfl, DV]
 have hget : Hp.get ⟨h.next + 1 + 1, h.next, aG [(h.next + 1, bY.cells mQ 59 none)] (aG [(h.next, bY.cells mQ 59 none)] h.aC)⟩ h.next = some (.cells mQ 59 none) := by
  show ((h.add (.cells mQ 59 none)).add (.cells mQ 59 none)).get h.next = _
  rw [bD, if_neg (by rw [kZ]; omega), bD, if_pos rfl]
 have sq : ∀ k : List (Nat × bY) → aF, uH env 59 (.pointer (some ⟨h.next, 0, none⟩)) (.agg (Array.mk l1)) (h.next + 1 + 1) h.next (aG [(h.next + 1, .cells mQ 59 none)] (aG [(h.next, .cells mQ 59 none)] h.aC)) (chk [(h.next, .cells mQ 59 none)] [(h.next + 1, .cells mQ 59 none)]) k = k [(h.next, .cells l1 59 none)] := by
  intro k
  unfold uH
  rw [show addrOf (.pointer (some ⟨h.next, 0, none⟩)) = some ⟨h.next, 0, none⟩ from rfl]
  simp only [hc]
  rw [aH, if_pos rfl, WU _ hget rfl e1 x1 (Nat.le_refl _), aM]
  rw [show Nat.beq (Hp.upd ⟨h.next + 1 + 1, h.next, aG [(h.next + 1, bY.cells mQ 59 none)] (aG [(h.next, bY.cells mQ 59 none)] h.aC)⟩ h.next (.cells l1 59 none)).next (h.next + 1 + 1) = true from Nat.beq_refl _, aH, if_pos rfl, bL, if_pos rfl, aM]
 rw [sq]
 exact k22 _ _
theorem At.off {h : Hp} {b o b5 : Nat} {r : List Value} (a : At h (.pointer (some ⟨b, o, none⟩)) r) (hne : b ≠ b5) (x : bY) : At (h.upd b5 x) (.pointer (some ⟨b, o, none⟩)) r := by
 obtain ⟨b', k, c, t, s, h1, h2, h3, h4⟩ := a
 cases h1
 exact ⟨b, o, c, t, s, rfl, by rw [bL, if_neg hne]; exact h2, h3, h4⟩
theorem aE7 {ρ : Type} (b i : Nat) (hi : i < 4) (k : Value → Option ρ) : OC 4 1 (.pointer (some ⟨b, 0, none⟩)) (i : Int) k = k (.pointer (some ⟨b, i, none⟩)) := by
 show bU (Nat.ble (Nat.succ i) 4) (iF (Nat.add 0 (Nat.mul i 1)) fun o => k (.pointer (some ⟨b, o, none⟩))) none = _
 rw [show Nat.ble (Nat.succ i) 4 = true from by rw [Nat.ble_eq]; omega, dM, show Nat.add 0 (Nat.mul i 1) = i from by show 0 + i * 1 = i; omega]
def hch (s : Rm) (c : Nat × Nat) : Bool := (IY s c).contains 0
theorem WV {h : Hp} {s : Rm} (F : nI s) {lo : Nat} {lk : List Value} (V : GD lo h s lk) {c : Nat × Nat} (h1 : c.1 < s.bP.length) (h2 : c.2 < s.dR.length) : F92 [.agg (Array.mk lk), .agg (Array.mk (iG c))] h = some (.bool (hch s c)) := by
 obtain ⟨r, mb, hb, rfl, A, M, _⟩ := V
 obtain ⟨vc, vo, vf, vp, rfl, sc, _⟩ := A
 obtain ⟨u, hu, au⟩ := M.get (a := c.1) (b := c.2) trivial (List.getElem?_eq_getElem h1) (List.getElem?_eq_getElem h2)
 rw [← WS (s := s) (c := c) (List.getElem?_eq_getElem h1) (List.getElem?_eq_getElem h2)] at au
 obtain ⟨k1, _⟩ := aC2 F h1 h2
 show plainO (aK0 h (G.aN (T92 h) 999999) (.agg (Array.mk (dO vc vo vf vp ++ [.map (some mb)]))) (.agg (Array.mk (iG c)))) = _
 unfold aK0
 rw [fF, fF, kI, kI, oP _ _ 4 (.map (some mb)) rfl, aT0, ZK, hu, aM, show (Int.ofNat 0) = (0 : Int) from rfl, RF au.rows 0 (by omega), aM, aZ]
 rfl
theorem aC7 {f q : Lk} {k : Nat} (e1 : f.lk.length = k + 1) (e2 : q.lk.length = k + 1) : (jZ 0 f.lk q.lk).contains 0 = (decide (gM q ≠ -1) && decide (gM q ≠ gM f)) := by
 unfold gM
 cases h1 : f.lk with
 | nil => rw [h1] at e1; simp at e1
 | cons a l =>
 cases h2 : q.lk with
 | nil => rw [h2] at e2; simp at e2
 | cons b m =>
 have no : (jZ 1 l m).contains 0 = false := by
  cases c : (jZ 1 l m).contains 0 with
  | false => rfl
  | true =>
   have : (0 : Int) ∈ jZ 1 l m := by simpa using c
   obtain ⟨k, e, h, _⟩ := J6 _ _ _ _ this
   omega
 show (jZ 0 (a :: l) (b :: m)).contains 0 = (decide (b ≠ -1) && decide (b ≠ a))
 unfold jZ
 by_cases c : b ≠ -1 ∧ b ≠ a
 ·rw [if_pos c, decide_eq_true c.1, decide_eq_true c.2]; simp
 ·rw [if_neg c, no]
  by_cases c1 : b = -1
  ·simp [c1]
  ·have : b = a := by
    by_cases c2 : b = a
    ·exact c2
    ·exact absurd ⟨c1, c2⟩ c
   simp [this]
theorem aOF {s : Rm} (F : nI s) {c : Nat × Nat} {f q : Lk} (hf : s.bP[c.1]? = some f) (hq : s.dR[c.2]? = some q) : hch s c = (decide (gM q ≠ -1) && decide (gM q ≠ gM f)) := by
 have f1 := (F.fs f (List.mem_of_getElem? hf)).1
 have f2 := (F.ps q (List.mem_of_getElem? hq)).1
 have nc := F.nc
 unfold hch
 rw [WS hf hq]
 exact aC7 (k := s.costs.length - 1) (by omega) (by omega)
def qX (W : List Int) (i : Int) (d : Int) : List Int := W.set i.toNat (W.getD i.toNat 0 + d)
def qY (s : Rm) (c : Nat × Nat) : Int := ((s.bP[c.1]?).map gM).getD 0
def tF (s : Rm) (c : Nat × Nat) : Int := ((s.bP[c.1]?).map Lk.lJ).getD 0
def BX (s : Rm) (c : Nat × Nat) : Int := ((s.dR[c.2]?).map gM).getD 0
def J7 (s : Rm) (c : Nat × Nat) : Int := ((s.dR[c.2]?).map Lk.lJ).getD 0
def stepW (s : Rm) (W : List Int) (c : Nat × Nat) : List Int := if hch s c then qX (qX W (qY s c) (tF s c)) (BX s c) (-(J7 s c)) else W
def gK (s : Rm) : List Int → List (Nat × Nat) → List Int
 | W, [] => W
 | W, c :: l => gK s (stepW s W c) l
theorem rZ (W : List Int) (i d : Int) : (qX W i d).length = W.length := List.length_set
theorem M4 {W : List Int} {B i d : Int} (h : ∀ x ∈ W, -B ≤ x ∧ x ≤ B) (hB : 0 ≤ B) (hd : -50 ≤ d ∧ d ≤ 50) : ∀ x ∈ qX W i d, -(B + 50) ≤ x ∧ x ≤ B + 50 := by
 intro x hx
 unfold qX at hx
 rcases List.mem_or_eq_of_mem_set hx with hx | hx
 ·have := h x hx; omega
 ·subst hx
  rw [List.getD_eq_getElem?_getD]
  cases e : W[i.toNat]? with
  | none => simp; omega
  | some y => have := h y (List.mem_of_getElem? e); simp; omega
noncomputable def sN : List Value := [(Value.int .i64 (Int.ofNat 0)), (Value.int .i64 (Int.ofNat 0)), (Value.int .i64 (Int.ofNat 0)), (Value.int .i64 (Int.ofNat 0))]
theorem ZL (W : List Int) : (W.map (Value.int .i64)).all oneCell = true := by
 rw [List.all_map, List.all_eq_true]; intro x _; rfl
theorem aOG (n : Nat) (p q x u : Value) (k i : Int) (h : Hp) : aN T60 (n + 1) 1 (AL.v p (AL.v q (AL.v x (AL.v u (AL.i k (AL.i i AL.n)))))) h = aEI (aN T60 n) p q x u k i h := rfl
theorem aWW (n : Nat) (q x : Value) (h : Hp) : aN T60 (n + 1) 2 (AL.v q (AL.v x AL.n)) h = aK2 (aN T60 n) q x h := rfl
theorem LG {h0 hb : Hp} (w0 : Wf h0) (g0 : aV h0 hb) {s : Rm} (F : nI s) {p : Value} {lk : List Value} {lo : Nat} (V : GD lo hb s lk) (ap : At hb p lk) {b4 b5 : Nat} (hb4 : h0.next ≤ b4) (c4 : hb.get b4 = some (.cells sN 87 none)) (hb5 : hb.next ≤ b5)
  {u : Value} {l : List (Nat × Nat)} (sl : lV hb 2 u (l.map iG)) (hl : QZ s l) : ∀ (m k n : Nat) (h : Hp) (W : List Int), aV hb h → h.get b5 = some (.cells (W.map (Value.int .i64)) 87 none) → W.length = 4 → (∀ x ∈ W, -(50 + 100 * (k : Int)) ≤ x ∧ x ≤ 50 + 100 * (k : Int)) → k + m = l.length → m + 3 ≤ n →
  ∃ h', aN T60 n 1 (AL.v p (AL.v (.pointer (some ⟨b4, 0, none⟩)) (AL.v (.pointer (some ⟨b5, 0, none⟩)) (AL.v u (AL.i (l.length : Int) (AL.i (k : Int) AL.n)))))) h = some (.agg (Array.mk ((gK s W (l.drop k)).map (Value.int .i64))), h') ∧ aV h0 h'
 | 0, k, n', h, W, g, c5, hW, hB, hk, hn => by
  obtain ⟨n, rfl⟩ : ∃ n, n' = n + 2 := ⟨n' - 2, by omega⟩
  rw [aOG]
  unfold aEI
  rw [aQ, aW, aH, if_neg (by simp; omega), aWW, List.drop_of_length_le (by omega)]
  unfold aK2 gK
  have a5 : At h (.pointer (some ⟨b5, 0, none⟩)) (W.map (Value.int .i64)) := ⟨b5, 0, _, 87, none, rfl, c5, by simp, fun k x hx => by simpa using hx⟩
  obtain ⟨h3, g3, a3, k3, _⟩ := DU (z := 4) (l := W.map (Value.int .i64)) w0 (g0.trans g) hb4 (g.sub _ _ c4) rfl (by rw [List.length_map]; exact hW) (ZL W)
  rw [a5.eX (z := 4) (by rw [List.length_map]; exact hW), k3, a3.eX (z := 4) (by rw [List.length_map]; exact hW)]
  exact ⟨h3, rfl, g3⟩
 | m + 1, k, n', h, W, g, c5, hW, hB, hk, hn => by
  obtain ⟨n, rfl⟩ : ∃ n, n' = n + 1 := ⟨n' - 1, by omega⟩
  have hk' : k < l.length := by omega
  have l10 := hl.1
  obtain ⟨i1, i2⟩ := hl.2 _ (List.getElem_mem hk')
  have hf : s.bP[(l[k]).1]? = some s.bP[(l[k]).1] := List.getElem?_eq_getElem i1
  have hq : s.dR[(l[k]).2]? = some s.dR[(l[k]).2] := List.getElem?_eq_getElem i2
  obtain ⟨q, eq, aq, lq⟩ := (sl.sub g.sub).rows.at (i := k) (r := iG l[k]) (by rw [List.getElem?_map, List.getElem?_eq_getElem hk']; rfl)
  rw [aOG]
  unfold aEI
  rw [aQ, aW, aH, if_pos (by simp; omega), eq, aq.eX lq]
  obtain ⟨h4, q4, g4, a4, hk4⟩ := l9 (ρ := Value × Hp) (z := 2) g.wf 76 (c := [(Value.int .i64 (Int.ofNat 0)), (Value.int .i64 (Int.ofNat 0))]) (l := iG l[k]) rfl rfl rfl (fun _ _ => none)
  have gb4 := g.trans g4
  have V4 := V.sub gb4.sub
  have c54 := g4.sub _ _ c5
  rw [hk4, (ap.sub gb4.sub).eX (z := 5) V4.len, a4.eX (z := 2) rfl, WV F V4 i1 i2, aM, aB, aZ, aH, List.drop_eq_getElem_cons hk', show gK s W (l[k] :: l.drop (k + 1)) = gK s (stepW s W l[k]) (l.drop (k + 1)) from rfl]
  have next : ∀ (h2 : Hp) (W2 : List Int), aV hb h2 → h2.get b5 = some (.cells (W2.map (Value.int .i64)) 87 none) → W2.length = 4 → (∀ x ∈ W2, -(50 + 100 * ((k + 1 : Nat) : Int)) ≤ x ∧ x ≤ 50 + 100 * ((k + 1 : Nat) : Int)) → ∃ h', (wrap64 (Int.add (k : Int) (Int.ofNat 1)) fun i => aN T60 n 1 (AL.v p (AL.v (.pointer (some ⟨b4, 0, none⟩)) (AL.v (.pointer (some ⟨b5, 0, none⟩)) (AL.v u (AL.i (l.length : Int) (AL.i i AL.n)))))) h2) = some (.agg (Array.mk ((gK s W2 (l.drop (k + 1))).map (Value.int .i64))), h') ∧ aV h0 h' := by
   intro h2 W2 g2 c2 hW2 hB2
   rw [show Int.add (k : Int) (Int.ofNat 1) = ((k + 1 : Nat) : Int) from rfl, wrap64_in _ (by omega) (by omega)]
   exact LG w0 g0 F V ap hb4 c4 hb5 sl hl m (k + 1) n h2 W2 g2 c2 hW2 hB2 (by omega) (by omega)
  cases ch : hch s l[k] with
  | false =>
   rw [if_neg (by simp), show stepW s W l[k] = W from by unfold stepW; rw [ch]; rfl]
   exact next h4 W gb4 c54 hW (fun x hx => by have := hB x hx; omega)
  | true =>
  have V4c := V4
  obtain ⟨r, mb, hbm, hlr, A, M, hlo⟩ := V4c
  obtain ⟨q5, hq5, ZM⟩ := (ap.sub gb4.sub).part 0 4 (by rw [V4.len]; decide)
  replace ZM : At h4 q5 r := by rw [hlr] at ZM; rw [List.drop_zero, List.take_append_of_le_length (by rw [A.len]; omega), List.take_of_length_le (by rw [A.len]; omega)] at ZM; exact ZM
  obtain ⟨vc, vo, vf, vp, rfl, sc, so, sf, sp, af, aqq⟩ := A
  have q5' : At (Hp.mk h4.next h4.next h4.aC) q5 (dO vc vo vf vp) := ZM
  have a4' : At (Hp.mk h4.next h4.next h4.aC) q4 (iG l[k]) := a4
  obtain ⟨x, ex, ax, lx⟩ := sf.rows.at (i := (l[k]).1) (r := (s.bP[(l[k]).1]).row) (by rw [List.getElem?_map, hf]; rfl)
  obtain ⟨y, ey, ay, ly⟩ := sp.rows.at (i := (l[k]).2) (r := (s.dR[(l[k]).2]).row) (by rw [List.getElem?_map, hq]; rfl)
  have x1 : At (Hp.mk h4.next h4.next h4.aC) x (s.bP[(l[k]).1]).row := ax
  have y1 : At (Hp.mk h4.next h4.next h4.aC) y (s.dR[(l[k]).2]).row := ay
  have lf := af _ (List.getElem_mem i1)
  have lq := aqq _ (List.getElem_mem i2)
  obtain ⟨h6, g6, b6, d6, hk6⟩ := aC6 g4.wf (l1 := (s.bP[(l[k]).1]).row) (l2 := (s.dR[(l[k]).2]).row) rfl rfl lf.one lq.one (fun w26 w28 b => (fI [] b || (fI [] b || (fI [] b || (fI [] b || (fI [] b || (fI [] b || (fI [] b || (fI w26 b || (fI w28 b || false)))))))))) (fun x w => by
   have hh : fI [(h4.next, x)] h4.next = true := by unfold fI; simp
   simp only [hh, Bool.true_or, Bool.or_true])
  rw [if_pos rfl, hq5, q5'.wP 2 (x := vf) rfl, a4'.wP 0 (x := .int .i64 ((l[k]).1 : Int)) rfl, aI, ex, x1.eX (z := 3) rfl, hq5, q5'.wP 3 (x := vp) rfl, a4'.wP 1 (x := .int .i64 ((l[k]).2 : Int)) rfl, aI, ey, y1.eX (z := 3) rfl, show [(Value.string (ByteArray.mk #[])), (Value.slice none 0 0), (Value.int .i64 (Int.ofNat 0))] = mQ from rfl, hk6]
  have f1 := F.fs _ (List.getElem_mem i1)
  have f2 := F.ps _ (List.getElem_mem i2)
  have nc := F.nc
  have no := F.no
  have hce := aOF F hf hq
  rw [ch, eq_comm, Bool.and_eq_true, decide_eq_true_iff, decide_eq_true_iff] at hce
  have hhf := M3 (g := s.bP[(l[k]).1]) (k := s.costs.length - 1) (by omega)
  have hhq := M3 (g := s.dR[(l[k]).2]) (k := s.costs.length - 1) (by omega)
  obtain ⟨z1, ez1, az1, _⟩ := (lf.sub g6.sub).rows.at (i := 0) (r := cZ (gM s.bP[(l[k]).1])) (by rw [List.getElem?_map, hhf]; rfl)
  obtain ⟨i, ei⟩ : ∃ i : Nat, gM s.bP[(l[k]).1] = (i : Int) := ⟨(gM s.bP[(l[k]).1]).toNat, by omega⟩
  obtain ⟨j, ej⟩ : ∃ j : Nat, gM s.dR[(l[k]).2] = (j : Int) := ⟨(gM s.dR[(l[k]).2]).toNat, by omega⟩
  have hi4 : i < 4 := by omega
  have hj4 : j < 4 := by omega
  have c56 := g6.sub _ _ c54
  have gb6 := gb4.trans g6
  have lt5 := g4.wf.2 _ _ c54
  have ro6 : h6.ro ≤ b5 := by rw [gb6.ro]; have := g0.wf.1; omega
  have wi : (W.map (Value.int .i64))[i]? = some (.int .i64 W[i]) := by rw [List.getElem?_map, List.getElem?_eq_getElem (by omega)]; rfl
  have Wi := hB W[i] (List.getElem_mem _)
  have W1 : qX W (qY s l[k]) (tF s l[k]) = W.set i (W[i] + (s.bP[(l[k]).1]).lJ) := by
   unfold qX qY tF
   rw [hf]
   simp only [Option.map_some, Option.getD_some]
   rw [ei, Int.toNat_natCast, List.getD_eq_getElem?_getD, List.getElem?_eq_getElem (by omega), Option.getD_some]
  have hB1 := M4 (i := qY s l[k]) (d := tF s l[k]) hB (by omega) (by unfold tF; rw [hf]; simp only [Option.map_some, Option.getD_some]; omega)
  have lW1 : (qX W (qY s l[k]) (tF s l[k])).length = 4 := by rw [rZ]; exact hW
  have bIJ : (W.map (Value.int .i64)).set i (.int .i64 (W[i] + (s.bP[(l[k]).1]).lJ)) = (qX W (qY s l[k]) (tF s l[k])).map (Value.int .i64) := by rw [W1, List.map_set]
  rw [b6.wP 1 (x := (s.bP[(l[k]).1]).lv) rfl, show (Int.ofNat 0) = ((0 : Nat) : Int) from rfl, ez1, az1.j6 (x := .int .i64 (gM s.bP[(l[k]).1])) rfl, aI, ei, aE7 _ _ hi4, fB c56 wi, aI, b6.wP 2 (x := .int .i64 (s.bP[(l[k]).1]).lJ) rfl, aI, show Int.add W[i] (s.bP[(l[k]).1]).lJ = W[i] + (s.bP[(l[k]).1]).lJ from rfl, wrap64_in _ (by omega) (by omega), aE7 _ _ hi4, kY c56 ro6 rfl (by rw [List.length_map]; omega), bIJ]
  have g7 : aV hb (h6.upd b5 (.cells ((qX W (qY s l[k]) (tF s l[k])).map (Value.int .i64)) 87 none)) := aV.upd g0.wf gb6 hb5 (by have := g6.next; omega) _
  have c57 : (h6.upd b5 (.cells ((qX W (qY s l[k]) (tF s l[k])).map (Value.int .i64)) 87 none)).get b5 = some (.cells ((qX W (qY s l[k]) (tF s l[k])).map (Value.int .i64)) 87 none) := by rw [bL, if_pos rfl]
  have d7 := At.off d6 (b5 := b5) (by omega) (.cells ((qX W (qY s l[k]) (tF s l[k])).map (Value.int .i64)) 87 none)
  have ro7 : (h6.upd b5 (.cells ((qX W (qY s l[k]) (tF s l[k])).map (Value.int .i64)) 87 none)).ro ≤ b5 := ro6
  obtain ⟨r0, mb0, bR6, bR7, A0, M0, hlo0⟩ := V
  obtain ⟨vc0, vo0, vf0, vp0, rfl, _, _, _, _, _, aq0⟩ := A0
  have lq0 := aq0 _ (List.getElem_mem i2)
  obtain ⟨z2, ez2, az2, _⟩ := (lq0.sub g7.sub).rows.at (i := 0) (r := cZ (gM s.dR[(l[k]).2])) (by rw [List.getElem?_map, hhq]; rfl)
  generalize h6.upd b5 (.cells ((qX W (qY s l[k]) (tF s l[k])).map (Value.int .i64)) 87 none) = h7 at g7 c57 d7 ro7 az2 ⊢
  have hst : stepW s W l[k] = qX (qX W (qY s l[k]) (tF s l[k])) (BX s l[k]) (-(J7 s l[k])) := by unfold stepW; rw [ch]; rfl
  rw [hst]
  generalize qX W (qY s l[k]) (tF s l[k]) = W2 at lW1 hB1 c57 ⊢
  have wj : (W2.map (Value.int .i64))[j]? = some (.int .i64 W2[j]) := by rw [List.getElem?_map, List.getElem?_eq_getElem (by omega)]; rfl
  have Wj := hB1 W2[j] (List.getElem_mem _)
  have W3 : qX W2 (BX s l[k]) (-(J7 s l[k])) = W2.set j (W2[j] - (s.dR[(l[k]).2]).lJ) := by
   unfold qX BX J7
   rw [hq]
   simp only [Option.map_some, Option.getD_some]
   rw [ej, Int.toNat_natCast, List.getD_eq_getElem?_getD, List.getElem?_eq_getElem (by omega), Option.getD_some, Int.sub_eq_add_neg]
  have hB3 := M4 (i := BX s l[k]) (d := -(J7 s l[k])) hB1 (by omega) (by unfold J7; rw [hq]; simp only [Option.map_some, Option.getD_some]; omega)
  have a6J : (W2.map (Value.int .i64)).set j (.int .i64 (W2[j] - (s.dR[(l[k]).2]).lJ)) = (qX W2 (BX s l[k]) (-(J7 s l[k]))).map (Value.int .i64) := by rw [W3, List.map_set]
  rw [d7.wP 1 (x := (s.dR[(l[k]).2]).lv) rfl, ez2, az2.j6 (x := .int .i64 (gM s.dR[(l[k]).2])) rfl, aI, ej, aE7 _ _ hj4, fB c57 wj, aI, d7.wP 2 (x := .int .i64 (s.dR[(l[k]).2]).lJ) rfl, aI, show Int.sub W2[j] (s.dR[(l[k]).2]).lJ = W2[j] - (s.dR[(l[k]).2]).lJ from rfl, wrap64_in _ (by omega) (by omega), aE7 _ _ hj4, kY c57 ro7 rfl (by rw [List.length_map]; omega), a6J]
  exact next _ _ (aV.upd g0.wf g7 hb5 (g7.wf.2 _ _ c57) _) (by rw [bL, if_pos rfl]) (by rw [rZ]; exact lW1) (fun x hx => by have := hB3 x hx; omega)
end Go.Proofs.Ytdpicdnpiihaaaa.K.L
