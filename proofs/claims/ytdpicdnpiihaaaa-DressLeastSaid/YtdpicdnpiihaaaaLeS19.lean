/- Contracts of told functions: whether the hair is changed; what is left of it. -/
import Derived.Test.YtdpicdnpiihaaaaLeS18
open Go Go.bK
set_option maxRecDepth 100000
set_option linter.unusedVariables false
namespace Go.Proofs.Ytdpicdnpiihaaaa.K.L
theorem PY {h : Hp} (w : Wf h) {l1 l2 : List Value} (e1 : l1.length = 3) (e2 : l2.length = 3) (x1 : l1.all oneCell = true) (x2 : l2.all oneCell = true) (chk : List (Nat × cK) → List (Nat × cK) → Nat → Bool) (hc : ∀ x w, chk [(h.next, x)] w h.next = true) :
  ∃ h', aR h h' ∧ At h' (.pointer (some ⟨h.next, 0, none⟩)) l1 ∧ At h' (.pointer (some ⟨h.next + 1, 0, none⟩)) l2 ∧ ∀ K : Value → Value → Hp → aJ,
   (bO (Hp.mk h.next h.next T.nil) 59 lQ fun a9 h9 => jA a9 h.next h9 fun w10 n10 => bO (Hp.mk n10 n10 T.nil) 59 lQ fun a11 h11 => jA a11 n10 h11 fun w12 n12 => FE env 59 a9 (.agg (Array.mk l1)) n12 h.next (aV w12 (aV w10 h.aF)) (chk w10 w12) fun w13 => fA 3 (Hp.mk n12 h.ro (aV w13 (aV w12 (aV w10 h.aF)))) a11 (.agg (Array.mk l2)) fun h14 => K a9 a11 h14) = K (.pointer (some ⟨h.next, 0, none⟩)) (.pointer (some ⟨h.next + 1, 0, none⟩)) h' := by
 have gN : aR h (((h.add (.cells lQ 59 none)).add (.cells lQ 59 none)).upd h.next (.cells l1 59 none)) :=
  aR.upd w ((aR.add w _).trans (aR.add (w.add _) _)) (Nat.le_refl _) (by rw [nA, nA]; omega) _
 have cx : (((h.add (.cells lQ 59 none)).add (.cells lQ 59 none)).upd h.next (.cells l1 59 none)).get h.next = some (.cells l1 59 none) := by rw [dH, if_pos rfl]
 have cz : (((h.add (.cells lQ 59 none)).add (.cells lQ 59 none)).upd h.next (.cells l1 59 none)).get (h.next + 1) = some (.cells lQ 59 none) := by
  rw [dH, if_neg (by omega), bM, if_pos (by rw [nA])]
 obtain ⟨h22, g22, a22, k22, o22⟩ := pW (z := 3) (l := l2) w gN (b := h.next + 1) (by omega) cz rfl e2 x2
 have ax : At h22 (.pointer (some ⟨h.next, 0, none⟩)) l1 := ⟨h.next, 0, _, 59, none, rfl, o22 _ _ (by omega) cx, by simp, fun k y hy => by simpa using hy⟩
 refine ⟨h22, g22, ax, a22, fun K => ?_⟩
 rw [aX, show (Hp.mk h.next h.next T.nil).next = h.next from rfl, UB, aX, show (Hp.mk (h.next + 1) (h.next + 1) T.nil).next = h.next + 1 from rfl, UB]
 have hget : Hp.get ⟨h.next + 1 + 1, h.next, aV [(h.next + 1, cK.cells lQ 59 none)] (aV [(h.next, cK.cells lQ 59 none)] h.aF)⟩ h.next = some (.cells lQ 59 none) := by
  show ((h.add (.cells lQ 59 none)).add (.cells lQ 59 none)).get h.next = _
  rw [bM, if_neg (by rw [nA]; omega), bM, if_pos rfl]
 have sq : ∀ k : List (Nat × cK) → aJ, FE env 59 (.pointer (some ⟨h.next, 0, none⟩)) (.agg (Array.mk l1)) (h.next + 1 + 1) h.next (aV [(h.next + 1, .cells lQ 59 none)] (aV [(h.next, .cells lQ 59 none)] h.aF)) (chk [(h.next, .cells lQ 59 none)] [(h.next + 1, .cells lQ 59 none)]) k = k [(h.next, .cells l1 59 none)] := by
  intro k
  unfold FE
  rw [show addrOf (.pointer (some ⟨h.next, 0, none⟩)) = some ⟨h.next, 0, none⟩ from rfl]
  simp only [hc]
  rw [aC, if_pos rfl, WQ _ hget rfl e1 x1 (Nat.le_refl _), aK]
  rw [show Nat.beq (Hp.upd ⟨h.next + 1 + 1, h.next, aV [(h.next + 1, cK.cells lQ 59 none)] (aV [(h.next, cK.cells lQ 59 none)] h.aF)⟩ h.next (.cells l1 59 none)).next (h.next + 1 + 1) = true from Nat.beq_refl _, aC, if_pos rfl, dH, if_pos rfl, aK]
 rw [sq]
 exact k22 _ _
theorem At.off {h : Hp} {b o b5 : Nat} {r : List Value} (a : At h (.pointer (some ⟨b, o, none⟩)) r) (hne : b ≠ b5) (x : cK) : At (h.upd b5 x) (.pointer (some ⟨b, o, none⟩)) r := by
 obtain ⟨b', k, c, t, s, h1, h2, h3, h4⟩ := a
 cases h1
 exact ⟨b, o, c, t, s, rfl, by rw [dH, if_neg hne]; exact h2, h3, h4⟩
theorem aFC {ρ : Type} (b i : Nat) (hi : i < 4) (k : Value → Option ρ) : OC 4 1 (.pointer (some ⟨b, 0, none⟩)) (i : Int) k = k (.pointer (some ⟨b, i, none⟩)) := by
 show dA (Nat.ble (Nat.succ i) 4) (iB (Nat.add 0 (Nat.mul i 1)) fun o => k (.pointer (some ⟨b, o, none⟩))) none = _
 rw [show Nat.ble (Nat.succ i) 4 = true from by rw [Nat.ble_eq]; omega, dF, show Nat.add 0 (Nat.mul i 1) = i from by show 0 + i * 1 = i; omega]
def hch (s : Rm) (c : Nat × Nat) : Bool := (MK s c).contains 0
theorem WT {h : Hp} {s : Rm} (F : kY s) {lo : Nat} {lk : List Value} (V : IQ lo h s lk) {c : Nat × Nat} (h1 : c.1 < s.bR.length) (h2 : c.2 < s.bE.length) : F92 [.agg (Array.mk lk), .agg (Array.mk (gI c))] h = some (.bool (hch s c)) := by
 obtain ⟨r, mb, hb, rfl, A, M, _⟩ := V
 obtain ⟨vc, vo, vf, vp, rfl, sc, _⟩ := A
 obtain ⟨u, hu, au⟩ := M.get (a := c.1) (b := c.2) trivial (List.getElem?_eq_getElem h1) (List.getElem?_eq_getElem h2)
 rw [← J8 (s := s) (c := c) (List.getElem?_eq_getElem h1) (List.getElem?_eq_getElem h2)] at au
 obtain ⟨k1, _⟩ := PR F h1 h2
 show plainO (aK4 h (G.aI (T92 h) 999999) (.agg (Array.mk (fP vc vo vf vp ++ [.map (some mb)]))) (.agg (Array.mk (gI c)))) = _
 unfold aK4
 rw [dN, dN, j5, j5, oD _ _ 4 (.map (some mb)) rfl, aUH, ZP, hu, aK, show (Int.ofNat 0) = (0 : Int) from rfl, ET au.rows 0 (by omega), aK, aS]
 rfl
theorem aC3 {f q : Lk} {k : Nat} (e1 : f.lk.length = k + 1) (e2 : q.lk.length = k + 1) : (iH 0 f.lk q.lk).contains 0 = (decide (eU q ≠ -1) && decide (eU q ≠ eU f)) := by
 unfold eU
 cases h1 : f.lk with
 | nil => rw [h1] at e1; simp at e1
 | cons a l =>
 cases h2 : q.lk with
 | nil => rw [h2] at e2; simp at e2
 | cons b m =>
 have no : (iH 1 l m).contains 0 = false := by
  cases c : (iH 1 l m).contains 0 with
  | false => rfl
  | true =>
   have : (0 : Int) ∈ iH 1 l m := by simpa using c
   obtain ⟨k, e, h, _⟩ := KA _ _ _ _ this
   omega
 show (iH 0 (a :: l) (b :: m)).contains 0 = (decide (b ≠ -1) && decide (b ≠ a))
 unfold iH
 by_cases c : b ≠ -1 ∧ b ≠ a
 ·rw [if_pos c, decide_eq_true c.1, decide_eq_true c.2]; simp
 ·rw [if_neg c, no]
  by_cases c1 : b = -1
  ·simp [c1]
  ·have : b = a := by
    by_cases c2 : b = a
    ·exact c2
    ·exact absurd ⟨c1, c2⟩ c
   simp [this]
theorem aOR {s : Rm} (F : kY s) {c : Nat × Nat} {f q : Lk} (hf : s.bR[c.1]? = some f) (hq : s.bE[c.2]? = some q) : hch s c = (decide (eU q ≠ -1) && decide (eU q ≠ eU f)) := by
 have f1 := (F.fs f (List.mem_of_getElem? hf)).1
 have f2 := (F.ps q (List.mem_of_getElem? hq)).1
 have nc := F.nc
 unfold hch
 rw [J8 hf hq]
 exact aC3 (k := s.costs.length - 1) (by omega) (by omega)
def sF (W : List Int) (i : Int) (d : Int) : List Int := W.set i.toNat (W.getD i.toNat 0 + d)
def rZ (s : Rm) (c : Nat × Nat) : Int := ((s.bR[c.1]?).map eU).getD 0
def vC (s : Rm) (c : Nat × Nat) : Int := ((s.bR[c.1]?).map Lk.iW).getD 0
def CG (s : Rm) (c : Nat × Nat) : Int := ((s.bE[c.2]?).map eU).getD 0
def KC (s : Rm) (c : Nat × Nat) : Int := ((s.bE[c.2]?).map Lk.iW).getD 0
def stepW (s : Rm) (W : List Int) (c : Nat × Nat) : List Int := if hch s c then sF (sF W (rZ s c) (vC s c)) (CG s c) (-(KC s c)) else W
def iQ (s : Rm) : List Int → List (Nat × Nat) → List Int
 | W, [] => W
 | W, c :: l => iQ s (stepW s W c) l
theorem CJ (W : List Int) (i d : Int) : (sF W i d).length = W.length := List.length_set
theorem M6 {W : List Int} {B i d : Int} (h : ∀ x ∈ W, -B ≤ x ∧ x ≤ B) (hB : 0 ≤ B) (hd : -50 ≤ d ∧ d ≤ 50) : ∀ x ∈ sF W i d, -(B + 50) ≤ x ∧ x ≤ B + 50 := by
 intro x hx
 unfold sF at hx
 rcases List.mem_or_eq_of_mem_set hx with hx | hx
 ·have := h x hx; omega
 ·subst hx
  rw [List.getD_eq_getElem?_getD]
  cases e : W[i.toNat]? with
  | none => simp; omega
  | some y => have := h y (List.mem_of_getElem? e); simp; omega
noncomputable def sM : List Value := [(Value.int .i64 (Int.ofNat 0)), (Value.int .i64 (Int.ofNat 0)), (Value.int .i64 (Int.ofNat 0)), (Value.int .i64 (Int.ofNat 0))]
theorem PZ (W : List Int) : (W.map (Value.int .i64)).all oneCell = true := by
 rw [List.all_map, List.all_eq_true]; intro x _; rfl
theorem aOS (n : Nat) (p q x u : Value) (k i : Int) (h : Hp) : aI T60 (n + 1) 1 (AL.v p (AL.v q (AL.v x (AL.v u (AL.i k (AL.i i AL.n)))))) h = aEJ (aI T60 n) p q x u k i h := rfl
theorem aXH (n : Nat) (q x : Value) (h : Hp) : aI T60 (n + 1) 2 (AL.v q (AL.v x AL.n)) h = aK6 (aI T60 n) q x h := rfl
theorem LK {h0 hb : Hp} (w0 : Wf h0) (g0 : aR h0 hb) {s : Rm} (F : kY s) {p : Value} {lk : List Value} {lo : Nat} (V : IQ lo hb s lk) (ap : At hb p lk) {b4 b5 : Nat} (hb4 : h0.next ≤ b4) (c4 : hb.get b4 = some (.cells sM 87 none)) (hb5 : hb.next ≤ b5)
  {u : Value} {l : List (Nat × Nat)} (sl : jC hb 2 u (l.map gI)) (hl : M5 s l) : ∀ (m k n : Nat) (h : Hp) (W : List Int), aR hb h → h.get b5 = some (.cells (W.map (Value.int .i64)) 87 none) → W.length = 4 → (∀ x ∈ W, -(50 + 100 * (k : Int)) ≤ x ∧ x ≤ 50 + 100 * (k : Int)) → k + m = l.length → m + 3 ≤ n →
  ∃ h', aI T60 n 1 (AL.v p (AL.v (.pointer (some ⟨b4, 0, none⟩)) (AL.v (.pointer (some ⟨b5, 0, none⟩)) (AL.v u (AL.i (l.length : Int) (AL.i (k : Int) AL.n)))))) h = some (.agg (Array.mk ((iQ s W (l.drop k)).map (Value.int .i64))), h') ∧ aR h0 h'
 | 0, k, n', h, W, g, c5, hW, hB, hk, hn => by
  obtain ⟨n, rfl⟩ : ∃ n, n' = n + 2 := ⟨n' - 2, by omega⟩
  rw [aOS]
  unfold aEJ
  rw [aH, aN, aC, if_neg (by simp; omega), aXH, List.drop_of_length_le (by omega)]
  unfold aK6 iQ
  have a5 : At h (.pointer (some ⟨b5, 0, none⟩)) (W.map (Value.int .i64)) := ⟨b5, 0, _, 87, none, rfl, c5, by simp, fun k x hx => by simpa using hx⟩
  obtain ⟨h3, g3, a3, k3, _⟩ := pW (z := 4) (l := W.map (Value.int .i64)) w0 (g0.trans g) hb4 (g.sub _ _ c4) rfl (by rw [List.length_map]; exact hW) (PZ W)
  rw [a5.dL (z := 4) (by rw [List.length_map]; exact hW), k3, a3.dL (z := 4) (by rw [List.length_map]; exact hW)]
  exact ⟨h3, rfl, g3⟩
 | m + 1, k, n', h, W, g, c5, hW, hB, hk, hn => by
  obtain ⟨n, rfl⟩ : ∃ n, n' = n + 1 := ⟨n' - 1, by omega⟩
  have hk' : k < l.length := by omega
  have l10 := hl.1
  obtain ⟨i1, i2⟩ := hl.2 _ (List.getElem_mem hk')
  have hf : s.bR[(l[k]).1]? = some s.bR[(l[k]).1] := List.getElem?_eq_getElem i1
  have hq : s.bE[(l[k]).2]? = some s.bE[(l[k]).2] := List.getElem?_eq_getElem i2
  obtain ⟨q, eq, aq, lq⟩ := (sl.sub g.sub).rows.at (i := k) (r := gI l[k]) (by rw [List.getElem?_map, List.getElem?_eq_getElem hk']; rfl)
  rw [aOS]
  unfold aEJ
  rw [aH, aN, aC, if_pos (by simp; omega), eq, aq.dL lq]
  obtain ⟨h4, q4, g4, a4, hk4⟩ := lS (ρ := Value × Hp) (z := 2) g.wf 76 (c := [(Value.int .i64 (Int.ofNat 0)), (Value.int .i64 (Int.ofNat 0))]) (l := gI l[k]) rfl rfl rfl (fun _ _ => none)
  have gb4 := g.trans g4
  have V4 := V.sub gb4.sub
  have c54 := g4.sub _ _ c5
  rw [hk4, (ap.sub gb4.sub).dL (z := 5) V4.len, a4.dL (z := 2) rfl, WT F V4 i1 i2, aK, aB, aS, aC, List.drop_eq_getElem_cons hk', show iQ s W (l[k] :: l.drop (k + 1)) = iQ s (stepW s W l[k]) (l.drop (k + 1)) from rfl]
  have next : ∀ (h2 : Hp) (W2 : List Int), aR hb h2 → h2.get b5 = some (.cells (W2.map (Value.int .i64)) 87 none) → W2.length = 4 → (∀ x ∈ W2, -(50 + 100 * ((k + 1 : Nat) : Int)) ≤ x ∧ x ≤ 50 + 100 * ((k + 1 : Nat) : Int)) → ∃ h', (wrap64 (Int.add (k : Int) (Int.ofNat 1)) fun i => aI T60 n 1 (AL.v p (AL.v (.pointer (some ⟨b4, 0, none⟩)) (AL.v (.pointer (some ⟨b5, 0, none⟩)) (AL.v u (AL.i (l.length : Int) (AL.i i AL.n)))))) h2) = some (.agg (Array.mk ((iQ s W2 (l.drop (k + 1))).map (Value.int .i64))), h') ∧ aR h0 h' := by
   intro h2 W2 g2 c2 hW2 hB2
   rw [show Int.add (k : Int) (Int.ofNat 1) = ((k + 1 : Nat) : Int) from rfl, wrap64_in _ (by omega) (by omega)]
   exact LK w0 g0 F V ap hb4 c4 hb5 sl hl m (k + 1) n h2 W2 g2 c2 hW2 hB2 (by omega) (by omega)
  cases ch : hch s l[k] with
  | false =>
   rw [if_neg (by simp), show stepW s W l[k] = W from by unfold stepW; rw [ch]; rfl]
   exact next h4 W gb4 c54 hW (fun x hx => by have := hB x hx; omega)
  | true =>
  have V4c := V4
  obtain ⟨r, mb, hbm, hlr, A, M, hlo⟩ := V4c
  obtain ⟨q5, hq5, aq5⟩ := (ap.sub gb4.sub).part 0 4 (by rw [V4.len]; decide)
  replace aq5 : At h4 q5 r := by rw [hlr] at aq5; rw [List.drop_zero, List.take_append_of_le_length (by rw [A.len]; omega), List.take_of_length_le (by rw [A.len]; omega)] at aq5; exact aq5
  obtain ⟨vc, vo, vf, vp, rfl, sc, so, sf, sp, af, aqq⟩ := A
  have q5' : At (Hp.mk h4.next h4.next h4.aF) q5 (fP vc vo vf vp) := aq5
  have a4' : At (Hp.mk h4.next h4.next h4.aF) q4 (gI l[k]) := a4
  obtain ⟨x, ex, ax, lx⟩ := sf.rows.at (i := (l[k]).1) (r := (s.bR[(l[k]).1]).row) (by rw [List.getElem?_map, hf]; rfl)
  obtain ⟨y, ey, ay, ly⟩ := sp.rows.at (i := (l[k]).2) (r := (s.bE[(l[k]).2]).row) (by rw [List.getElem?_map, hq]; rfl)
  have x1 : At (Hp.mk h4.next h4.next h4.aF) x (s.bR[(l[k]).1]).row := ax
  have y1 : At (Hp.mk h4.next h4.next h4.aF) y (s.bE[(l[k]).2]).row := ay
  have lf := af _ (List.getElem_mem i1)
  have lq := aqq _ (List.getElem_mem i2)
  obtain ⟨h6, g6, b6, d6, hk6⟩ := PY g4.wf (l1 := (s.bR[(l[k]).1]).row) (l2 := (s.bE[(l[k]).2]).row) rfl rfl lf.one lq.one (fun w26 w28 b => (eY [] b || (eY [] b || (eY [] b || (eY [] b || (eY [] b || (eY [] b || (eY [] b || (eY w26 b || (eY w28 b || false)))))))))) (fun x w => by
   have hh : eY [(h4.next, x)] h4.next = true := by unfold eY; simp
   simp only [hh, Bool.true_or, Bool.or_true])
  rw [if_pos rfl, hq5, q5'.pF 2 (x := vf) rfl, a4'.pF 0 (x := .int .i64 ((l[k]).1 : Int)) rfl, aG, ex, x1.dL (z := 3) rfl, hq5, q5'.pF 3 (x := vp) rfl, a4'.pF 1 (x := .int .i64 ((l[k]).2 : Int)) rfl, aG, ey, y1.dL (z := 3) rfl, show [(Value.string (ByteArray.mk #[])), (Value.slice none 0 0), (Value.int .i64 (Int.ofNat 0))] = lQ from rfl, hk6]
  have f1 := F.fs _ (List.getElem_mem i1)
  have f2 := F.ps _ (List.getElem_mem i2)
  have nc := F.nc
  have no := F.no
  have hce := aOR F hf hq
  rw [ch, eq_comm, Bool.and_eq_true, decide_eq_true_iff, decide_eq_true_iff] at hce
  have hhf := DX (g := s.bR[(l[k]).1]) (k := s.costs.length - 1) (by omega)
  have hhq := DX (g := s.bE[(l[k]).2]) (k := s.costs.length - 1) (by omega)
  obtain ⟨z1, ez1, az1, _⟩ := (lf.sub g6.sub).rows.at (i := 0) (r := bB (eU s.bR[(l[k]).1])) (by rw [List.getElem?_map, hhf]; rfl)
  obtain ⟨i, ei⟩ : ∃ i : Nat, eU s.bR[(l[k]).1] = (i : Int) := ⟨(eU s.bR[(l[k]).1]).toNat, by omega⟩
  obtain ⟨j, ej⟩ : ∃ j : Nat, eU s.bE[(l[k]).2] = (j : Int) := ⟨(eU s.bE[(l[k]).2]).toNat, by omega⟩
  have hi4 : i < 4 := by omega
  have hj4 : j < 4 := by omega
  have c56 := g6.sub _ _ c54
  have gb6 := gb4.trans g6
  have lt5 := g4.wf.2 _ _ c54
  have ro6 : h6.ro ≤ b5 := by rw [gb6.ro]; have := g0.wf.1; omega
  have wi : (W.map (Value.int .i64))[i]? = some (.int .i64 W[i]) := by rw [List.getElem?_map, List.getElem?_eq_getElem (by omega)]; rfl
  have Wi := hB W[i] (List.getElem_mem _)
  have W1 : sF W (rZ s l[k]) (vC s l[k]) = W.set i (W[i] + (s.bR[(l[k]).1]).iW) := by
   unfold sF rZ vC
   rw [hf]
   simp only [Option.map_some, Option.getD_some]
   rw [ei, Int.toNat_natCast, List.getD_eq_getElem?_getD, List.getElem?_eq_getElem (by omega), Option.getD_some]
  have hB1 := M6 (i := rZ s l[k]) (d := vC s l[k]) hB (by omega) (by unfold vC; rw [hf]; simp only [Option.map_some, Option.getD_some]; omega)
  have lW1 : (sF W (rZ s l[k]) (vC s l[k])).length = 4 := by rw [CJ]; exact hW
  have bHB : (W.map (Value.int .i64)).set i (.int .i64 (W[i] + (s.bR[(l[k]).1]).iW)) = (sF W (rZ s l[k]) (vC s l[k])).map (Value.int .i64) := by rw [W1, List.map_set]
  rw [b6.pF 1 (x := (s.bR[(l[k]).1]).lv) rfl, show (Int.ofNat 0) = ((0 : Nat) : Int) from rfl, ez1, az1.gL (x := .int .i64 (eU s.bR[(l[k]).1])) rfl, aG, ei, aFC _ _ hi4, fK c56 wi, aG, b6.pF 2 (x := .int .i64 (s.bR[(l[k]).1]).iW) rfl, aG, show Int.add W[i] (s.bR[(l[k]).1]).iW = W[i] + (s.bR[(l[k]).1]).iW from rfl, wrap64_in _ (by omega) (by omega), aFC _ _ hi4, rU c56 ro6 rfl (by rw [List.length_map]; omega), bHB]
  have g7 : aR hb (h6.upd b5 (.cells ((sF W (rZ s l[k]) (vC s l[k])).map (Value.int .i64)) 87 none)) := aR.upd g0.wf gb6 hb5 (by have := g6.next; omega) _
  have c57 : (h6.upd b5 (.cells ((sF W (rZ s l[k]) (vC s l[k])).map (Value.int .i64)) 87 none)).get b5 = some (.cells ((sF W (rZ s l[k]) (vC s l[k])).map (Value.int .i64)) 87 none) := by rw [dH, if_pos rfl]
  have d7 := At.off d6 (b5 := b5) (by omega) (.cells ((sF W (rZ s l[k]) (vC s l[k])).map (Value.int .i64)) 87 none)
  have ro7 : (h6.upd b5 (.cells ((sF W (rZ s l[k]) (vC s l[k])).map (Value.int .i64)) 87 none)).ro ≤ b5 := ro6
  obtain ⟨r0, mb0, bQH, bQI, A0, M0, hlo0⟩ := V
  obtain ⟨vc0, vo0, vf0, vp0, rfl, _, _, _, _, _, aq0⟩ := A0
  have lq0 := aq0 _ (List.getElem_mem i2)
  obtain ⟨z2, ez2, az2, _⟩ := (lq0.sub g7.sub).rows.at (i := 0) (r := bB (eU s.bE[(l[k]).2])) (by rw [List.getElem?_map, hhq]; rfl)
  generalize h6.upd b5 (.cells ((sF W (rZ s l[k]) (vC s l[k])).map (Value.int .i64)) 87 none) = h7 at g7 c57 d7 ro7 az2 ⊢
  have hst : stepW s W l[k] = sF (sF W (rZ s l[k]) (vC s l[k])) (CG s l[k]) (-(KC s l[k])) := by unfold stepW; rw [ch]; rfl
  rw [hst]
  generalize sF W (rZ s l[k]) (vC s l[k]) = W2 at lW1 hB1 c57 ⊢
  have wj : (W2.map (Value.int .i64))[j]? = some (.int .i64 W2[j]) := by rw [List.getElem?_map, List.getElem?_eq_getElem (by omega)]; rfl
  have Wj := hB1 W2[j] (List.getElem_mem _)
  have W3 : sF W2 (CG s l[k]) (-(KC s l[k])) = W2.set j (W2[j] - (s.bE[(l[k]).2]).iW) := by
   unfold sF CG KC
   rw [hq]
   simp only [Option.map_some, Option.getD_some]
   rw [ej, Int.toNat_natCast, List.getD_eq_getElem?_getD, List.getElem?_eq_getElem (by omega), Option.getD_some, Int.sub_eq_add_neg]
  have hB3 := M6 (i := CG s l[k]) (d := -(KC s l[k])) hB1 (by omega) (by unfold KC; rw [hq]; simp only [Option.map_some, Option.getD_some]; omega)
  have a6A : (W2.map (Value.int .i64)).set j (.int .i64 (W2[j] - (s.bE[(l[k]).2]).iW)) = (sF W2 (CG s l[k]) (-(KC s l[k]))).map (Value.int .i64) := by rw [W3, List.map_set]
  rw [d7.pF 1 (x := (s.bE[(l[k]).2]).lv) rfl, ez2, az2.gL (x := .int .i64 (eU s.bE[(l[k]).2])) rfl, aG, ej, aFC _ _ hj4, fK c57 wj, aG, d7.pF 2 (x := .int .i64 (s.bE[(l[k]).2]).iW) rfl, aG, show Int.sub W2[j] (s.bE[(l[k]).2]).iW = W2[j] - (s.bE[(l[k]).2]).iW from rfl, wrap64_in _ (by omega) (by omega), aFC _ _ hj4, rU c57 ro7 rfl (by rw [List.length_map]; omega), a6A]
  exact next _ _ (aR.upd g0.wf g7 hb5 (g7.wf.2 _ _ c57) _) (by rw [dH, if_pos rfl]) (by rw [CJ]; exact lW1) (fun x hx => by have := hB3 x hx; omega)
end Go.Proofs.Ytdpicdnpiihaaaa.K.L
