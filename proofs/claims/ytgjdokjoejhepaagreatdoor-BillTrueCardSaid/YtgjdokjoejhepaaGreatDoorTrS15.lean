/- Contracts of told functions: the places of the figures in a catalogue's entries (the code). -/
import Derived.Test.YtgjdokjoejhepaaGreatDoorTrS14
open Go Go.bP
set_option maxRecDepth 100000
set_option linter.unusedVariables false
namespace Go.Proofs.YtgjdokjoejhepaaGreatDoor.K.L
def kG (e : En) : List Nat := (kV e).map Int.toNat
def InE (e : En) : Prop := ∀ x ∈ kV e, 0 ≤ x ∧ x < 6
theorem aK6 {e : En} (h : InE e) : (kV e).map (Value.int .i64) = (kG e).map fun (x : Nat) => Value.int .i64 (x : Int) := by
 unfold kG
 rw [List.map_map]
 apply List.map_congr_left
 intro x hx
 have := (h x hx).1
 show Value.int .i64 x = Value.int .i64 ((x.toNat : Nat) : Int)
 rw [Int.toNat_of_nonneg this]
theorem aK7 {e : En} (h : InE e) : ∀ x ∈ kG e, x < 6 := by
 intro x hx
 unfold kG at hx
 obtain ⟨y, hy, rfl⟩ := List.mem_map.1 hx
 have := h y hy
 omega
theorem aK8 (e : En) : (kV e).length = (kG e).length := by unfold kG; simp
theorem aK9 (e : En) : (kG e).length ≤ 2 := by
 unfold kG kV
 by_cases c : e.says = 1
 ·rw [if_pos c]; exact Nat.le_refl 2
 ·rw [if_neg c]; exact Nat.le_succ 1
def zL (cnt : List Nat) (e : En) : List Nat := (kG e).foldl bump cnt
theorem aIZ (cnt : List Nat) : (jI cnt).all oneCell = true := by
 unfold jI
 rw [List.all_map, List.all_eq_true]
 intro x _
 rfl
theorem Y4 (cnt : List Nat) : (jI cnt).length = cnt.length := by unfold jI; simp
theorem QX {hb : Hp} (w : Wf hb) {b3 : Nat} (hb3 : hb.next ≤ b3) {r2 v : Value} {c : List En} (hc : bP.Rows hb 3 v (c.map En.row)) (hin : ∀ e ∈ c, InE e) (hlen : c.length ≤ 10000) : ∀ m i n (h : Hp) (cnt : List Nat) (K : Nat), bE hb h → h.get b3 = some (.cells (jI cnt) 136 none) → cnt.length = 6 → (∀ n ∈ cnt, n ≤ K) → K + 2 * m ≤ 100000 → i + m = c.length →
  ∃ h', bE hb h' ∧ (∀ k o, k ≠ b3 → h.get k = some o → h'.get k = some o) ∧ h'.get b3 = some (.cells (jI ((c.drop i).foldl zL cnt)) 136 none) ∧ ((c.drop i).foldl zL cnt).length = 6 ∧
   aP xC (5 * m + 2 + n) 1 (AL.v r2 (AL.v (.pointer (some ⟨b3, 0, none⟩)) (AL.v v (AL.i (c.length : Int) (AL.i (i : Int) AL.n))))) h = YO (aP xC 0) r2 (.pointer (some ⟨b3, 0, none⟩)) h'
 | 0, i, n, h, cnt, K, g, h3, h6, hK, hK2, him => by
  refine ⟨h, g, fun k o _ ho => ho, by rw [List.drop_of_length_le (by omega)]; exact h3, by rw [List.drop_of_length_le (by omega)]; exact h6, ?_⟩
  have step : aP xC (5 * 0 + 2 + n) 1 (AL.v r2 (AL.v (.pointer (some ⟨b3, 0, none⟩)) (AL.v v (AL.i (c.length : Int) (AL.i (i : Int) AL.n))))) h = KH (aP xC (n + 1)) r2 (.pointer (some ⟨b3, 0, none⟩)) v (c.length : Int) (i : Int) h := by rw [show 5 * 0 + 2 + n = (n + 1) + 1 by omega]; rfl
  rw [step]
  unfold KH
  rw [aN, bA, aI, if_neg (by simp; omega)]
  rfl
 | m + 1, i, n, h, cnt, K, g, h3, h6, hK, hK2, him => by
  have hi : i < c.length := by omega
  have hg : (c.map En.row)[i]? = some (c[i]).row := by rw [List.getElem?_map, List.getElem?_eq_getElem hi]; rfl
  obtain ⟨q, hq, haq, hl⟩ := (hc.sub g.sub).at hg
  have hE := hin _ (List.getElem_mem hi)
  have step : aP xC (5 * (m + 1) + 2 + n) 1 (AL.v r2 (AL.v (.pointer (some ⟨b3, 0, none⟩)) (AL.v v (AL.i (c.length : Int) (AL.i (i : Int) AL.n))))) h = KH (aP xC (5 * m + 6 + n)) r2 (.pointer (some ⟨b3, 0, none⟩)) v (c.length : Int) (i : Int) h := by rw [show 5 * (m + 1) + 2 + n = (5 * m + 6 + n) + 1 by omega]; rfl
  obtain ⟨hA, gA, rA, kA⟩ := aFB g.wf 57 [(Value.int .i64 (Int.ofNat 0)), (Value.int .i64 (Int.ofNat 0)), (Value.int .i64 (Int.ofNat 0))] rfl (c[i]).row rfl rfl
  have aA : At hA (.pointer (some ⟨h.next, 0, none⟩)) (c[i]).row := ⟨h.next, 0, _, 57, none, rfl, rA, by simp, fun k x hx => by simpa using hx⟩
  have lt3 := g.wf.2 _ _ h3
  have nA := gA.next
  have gB := bE.add gA.wf (.cells (c[i]).row 57 none)
  have nB : (hA.add (.cells (c[i]).row 57 none)).next = hA.next + 1 := rfl
  have gC := bE.add gB.wf (.cells ((kV c[i]).map (Value.int .i64)) 3 none)
  have rC : ((hA.add (.cells (c[i]).row 57 none)).add (.cells ((kV c[i]).map (Value.int .i64)) 3 none)).get (hA.next + 1) = some (.cells ((kG c[i]).map fun (x : Nat) => Value.int .i64 (x : Int)) 3 none) := by rw [dM, if_pos nB.symm, aK6 hE]
  have gD := gA.trans (gB.trans gC)
  have body : aP xC (5 * (m + 1) + 2 + n) 1 (AL.v r2 (AL.v (.pointer (some ⟨b3, 0, none⟩)) (AL.v v (AL.i (c.length : Int) (AL.i (i : Int) AL.n))))) h = aP xC (5 * m + 6 + n) 2 (AL.v r2 (AL.v (.pointer (some ⟨b3, 0, none⟩)) (AL.v v (AL.i (c.length : Int) (AL.i (i : Int) (AL.v (.slice (some ⟨hA.next + 1, 0, none⟩) (kG c[i]).length (kG c[i]).length) (AL.i ((kG c[i]).length : Int) (AL.i ((0 : Nat) : Int) AL.n)))))))) ((hA.add (.cells (c[i]).row 57 none)).add (.cells ((kV c[i]).map (Value.int .i64)) 3 none)) := by
   rw [step]
   unfold KH
   rw [aN, bA, aI, if_pos (by simp; omega), hq, haq.fF hl, kA, aA.fF (z := 3) rfl, aFC, aD, aK8]
   rfl
  rw [body]
  have L2 := aK9 c[i]
  generalize (hA.add (.cells (c[i]).row 57 none)).add (.cells ((kV c[i]).map (Value.int .i64)) 3 none) = hD at gD rC ⊢
  obtain ⟨h', q1, q2, q3, q4, q5, q6⟩ := VX (r2 := r2) (r8 := v) (r9 := (c.length : Int)) (kW := (i : Int)) (bv := hA.next + 1) w hb3 (aK7 hE) (by omega) (5 * m + 5 + n - (kG c[i]).length) (kG c[i]).length 0 hD cnt K (g.trans gD) (gD.sub _ _ h3) h6 hK (by omega) (by omega) rC (by omega)
  rw [show (kG c[i]).length + 1 + (5 * m + 5 + n - (kG c[i]).length) = 5 * m + 6 + n by omega] at q6
  rw [q6, show 5 * m + 5 + n - (kG c[i]).length = (5 * m + 2 + (n + 2 - (kG c[i]).length)) + 1 by omega]
  rw [List.drop_zero] at q3 q4 q5
  obtain ⟨h'', p1, p2, p3, p4, p5⟩ := QX (r2 := r2) w hb3 hc hin hlen m (i + 1) (n + 2 - (kG c[i]).length) h' (zL cnt c[i]) (K + (kG c[i]).length) q1 q3 q4 q5 (by omega) (by omega)
  refine ⟨h'', p1, fun k o hk ho => p2 k o hk (q2 k o hk (gD.sub _ _ ho)), ?_, ?_, ?_⟩
  ·rw [List.drop_eq_getElem_cons hi]; exact p3
  ·rw [List.drop_eq_getElem_cons hi]; exact p4
  ·rw [← p5]
   show YP (aP xC (5 * m + 2 + (n + 2 - (kG c[i]).length))) r2 (.pointer (some ⟨b3, 0, none⟩)) v (c.length : Int) (i : Int) h' = _
   unfold YP
   rw [show Int.add (i : Int) (Int.ofNat 1) = ((i + 1 : Nat) : Int) from rfl, wrap64_in _ (by omega) (by omega)]
theorem aXJ {h : Hp} {b2 b3 : Nat} {c z : List Value} (hro : h.ro ≤ b2) (h2 : h.get b2 = some (.cells z 136 none)) (hz : z.length = 6) (h3 : h.get b3 = some (.cells c 136 none)) (hc : c.length = 6) (ho : c.all oneCell = true) : (bQ 6 h (.pointer (some ⟨b3, 0, none⟩)) fun v0 => iY 6 h (.pointer (some ⟨b2, 0, none⟩)) v0 fun h1 => bQ 6 h1 (.pointer (some ⟨b2, 0, none⟩)) fun v2 => some (v2, h1)) = some (.agg (Array.mk c), h.upd b2 (.cells c 136 none)) := by
 rw [yM h3 (by omega), show List.take 6 (List.drop 0 c) = c by rw [List.drop_zero, List.take_of_length_le (by omega)], qR (c := z) h2 hro hc ho (by omega), show List.take 0 z ++ c ++ List.drop (0 + c.length) z = c by rw [List.drop_of_length_le (by omega)]; simp, yM (c := c) (by rw [dL, if_pos rfl]) (by omega), show List.take 6 (List.drop 0 c) = c by rw [List.drop_zero, List.take_of_length_le (by omega)]]
def jO : List Nat := [0, 0, 0, 0, 0, 0]
theorem QY {h : Hp} (w : Wf h) {v : Value} {c : List En} (hc : bP.Rows h 3 v (c.map En.row)) (hin : ∀ e ∈ c, InE e) (hlen : c.length ≤ 10000) : ∃ h', bE h h' ∧ aP4 [v] h = some (.agg (Array.mk (jI (c.foldl zL jO))), h') := by
 have start : aP4 [v] h = YQ (aP xC 999999) v h := rfl
 rw [start]
 unfold YQ
 rw [bL, bL, hc.len, List.length_map]
 have g1 := bE.add w (.cells (jI jO) 136 none)
 have n1 : (h.add (.cells (jI jO) 136 none)).next = h.next + 1 := rfl
 have g2 := bE.add g1.wf (.cells (jI jO) 136 none)
 have r2 := g2.sub _ _ (show (h.add (.cells (jI jO) 136 none)).get h.next = some (.cells (jI jO) 136 none) by rw [dM, if_pos rfl])
 have r3 : ((h.add (.cells (jI jO) 136 none)).add (.cells (jI jO) 136 none)).get (h.next + 1) = some (.cells (jI jO) 136 none) := by rw [dM, if_pos n1.symm]
 obtain ⟨h', p1, p2, p3, p4, p5⟩ := QX (r2 := .pointer (some ⟨h.next, 0, none⟩)) w (b3 := h.next + 1) (by omega) hc hin hlen c.length 0 (999997 - 5 * c.length) _ jO 0 (g1.trans g2) r3 rfl (by decide) (by omega) (by omega)
 rw [show 5 * c.length + 2 + (999997 - 5 * c.length) = 999999 by omega] at p5
 rw [List.drop_zero] at p3 p4
 have q2 := p2 h.next _ (by omega) r2
 refine ⟨h'.upd h.next (.cells (jI (c.foldl zL jO)) 136 none), bE.upd w p1 (Nat.le_refl _) (p1.wf.2 _ _ q2) _, ?_⟩
 refine Eq.trans p5 ?_
 unfold YO
 exact aXJ (by rw [p1.ro]; exact w.1) q2 rfl p3 (by rw [Y4]; exact p4) (aIZ _)
end Go.Proofs.YtgjdokjoejhepaaGreatDoor.K.L
