/- Contracts of told functions: plans, figures. -/
import Derived.Test.YtdpicdnpiihaaaaLeS36
open Go Go.bK Go.bK.Y
set_option maxRecDepth 100000
set_option linter.unusedVariables false
namespace Go.Proofs.Ytdpicdnpiihaaaa.K.L
theorem oL.one {hb h : Hp} {v : Value} {ns : List Int} (a : oL hb h v ns) : oneCell v = true := by
 rcases a with ⟨rfl, _⟩ | ⟨b, rfl, _⟩ <;> rfl
theorem aDG {h : Hp} (w : Wf h) {lk : List Value} {np : Nat} (hnp : np ≤ 5) : ∃ h' c1 c2 vl, F68 [.agg (Array.mk lk), .int .i64 (nD np)] h = some (.func (.func 94) (List.toArray []) (List.toArray [.pointer (some ⟨c1, 0, none⟩), .pointer (some ⟨c2, 0, none⟩)]), h') ∧ aR h h' ∧ h'.get c1 = some (.cells [vl] 22 none) ∧ h.next ≤ c1 ∧ oL h h' vl (sG np) ∧ h'.get c2 = some (.cells lk 71 none) ∧ h.next ≤ c2 := by
 have start : F68 [.agg (Array.mk lk), .int .i64 (nD np)] h = aL5 (aI T68 999999) (.agg (Array.mk lk)) (nD np) h := rfl
 rw [start]
 unfold aL5
 rw [dN, aX]
 have g0 := aR.add w (.cells lk 71 none)
 have c0 : (h.add (.cells lk 71 none)).get h.next = some (.cells lk 71 none) := by rw [bM, if_pos rfl]
 have n0 : (h.add (.cells lk 71 none)).next = h.next + 1 := rfl
 generalize h.add (.cells lk 71 none) = h0 at g0 c0 n0 ⊢
 obtain ⟨h1, v1, e1, g1, i1⟩ := aHE (h := bY h0) (eF g0.wf) hnp
 obtain ⟨h2, e2, g2, i2⟩ := xR g0.wf e1 g1 i1
 rw [e2, aB]
 obtain ⟨h3, g3, n3, b3, e3⟩ := aFK g2.wf 22 (Value.slice none 0 0) (x := v1) i2.one
 rw [e3]
 refine ⟨h3, h2.next, h.next, v1, rfl, (g0.trans g2).trans g3, b3, by have := (g0.trans g2).next; omega, (i2.sub g3.sub).low (by omega), g3.sub _ _ (g2.sub _ _ c0), Nat.le_refl _⟩
theorem aPF (n : Nat) (x u : Value) (k i : Int) (h : Hp) : aI T66 (n + 1) 1 (AL.v x (AL.v u (AL.i k (AL.i i AL.n)))) h = aER (aI T66 n) x u k i h := rfl
theorem CO {hb : Hp} (w : Wf hb) {u : Value} {l : List (Nat × Nat)} (sl : bK.Rows hb 2 u (l.map gI)) (hl : l.length ≤ 10) : ∀ (m i n : Nat) (h : Hp) (v : Value), aR hb h → oL hb h v ((l.take i).map fun c => (c.1 : Int)) → i + m = l.length → m + 3 ≤ n →
  ∃ h' v', aI T66 n 1 (AL.v v (AL.v u (AL.i (l.length : Int) (AL.i (i : Int) AL.n)))) h = some (v', h') ∧ aR hb h' ∧ oL hb h' v' (l.map fun c => (c.1 : Int))
 | 0, i, n', h, v, g, nm, hi, hn => by
  obtain ⟨n, rfl⟩ : ∃ n, n' = n + 2 := ⟨n' - 2, by omega⟩
  rw [aPF]
  unfold aER
  rw [aH, aN, aC, if_neg (by simp; omega)]
  rw [List.take_of_length_le (by omega)] at nm
  exact ⟨h, v, rfl, g, nm⟩
 | m + 1, i, n', h, v, g, nm, hi, hn => by
  obtain ⟨n, rfl⟩ : ∃ n, n' = n + 1 := ⟨n' - 1, by omega⟩
  have hlt : i < l.length := by omega
  obtain ⟨p, hp, ap, _⟩ := (Rows.sub g.sub sl).at (i := i) (r := gI l[i]) (by rw [List.getElem?_map, List.getElem?_eq_getElem hlt]; rfl)
  obtain ⟨h1, p1, g1, a1, e1⟩ := lS (z := 2) g.wf 76 (c := [.int .i64 (Int.ofNat 0), .int .i64 (Int.ofNat 0)]) (l := gI l[i]) rfl rfl rfl (fun _ _ => (none : aJ))
  rw [aPF]
  unfold aER
  rw [aH, aN, aC, if_pos (by simp; omega), hp, ap.dL (z := 2) rfl, e1, a1.pF 0 (x := .int .i64 (l[i].1 : Int)) rfl, aG, MJ, aB]
  obtain ⟨v2, h2, e2, g2, nm2⟩ := qX w (g.trans g1) (nm.sub g1.sub) (by rw [List.length_map, List.length_take]; omega) (l[i].1 : Int)
  rw [e2, aB, show Int.add (i : Int) (Int.ofNat 1) = ((i + 1 : Nat) : Int) from rfl, wrap64_in _ (by omega) (by omega)]
  refine CO w sl hl m (i + 1) n h2 v2 g2 ?_ (by omega) (by omega)
  rw [List.take_succ_eq_append_getElem hlt, List.map_append]
  exact nm2
theorem XA {h : Hp} (w : Wf h) {u : Value} {l : List (Nat × Nat)} (sl : bK.Rows h 2 u (l.map gI)) (hl : l.length ≤ 10) : ∃ h' v', F66 [u] h = some (v', h') ∧ aR h h' ∧ oL h h' v' (l.map fun c => (c.1 : Int)) := by
 have start : F66 [u] h = aMK (aI T66 999999) u h := rfl
 rw [start]
 unfold aMK
 rw [sl.len, List.length_map]
 exact CO w sl hl l.length 0 999999 h (.slice none 0 0) (aR.refl w) (.inl ⟨rfl, by simp⟩) (by omega) (by omega)
end Go.Proofs.Ytdpicdnpiihaaaa.K.L
open Go Go.bK
set_option maxRecDepth 100000
set_option linter.unusedVariables false
namespace Go.Proofs.Ytdpicdnpiihaaaa.K.L
def vE : List Int → List Int → Bool
 | [], [] => false
 | [], _ :: _ => true
 | _ :: _, [] => false
 | x :: l, y :: m => if x ≠ y then decide (x < y) else vE l m
theorem aPG (h : Hp) (n : Nat) (a b : Value) (k i : Int) : G.aI (T42 h) (n + 1) 1 (aD.v a (aD.v b (aD.i k (aD.i i aD.n)))) = aE8 h (G.aI (T42 h) n) a b k i := rfl
theorem aX6 (h : Hp) (n : Nat) (a b : Value) : G.aI (T42 h) (n + 1) 2 (aD.v a (aD.v b aD.n)) = aN3 h (G.aI (T42 h) n) a b := rfl
theorem aPH : ∀ (l m : List Int), l = [] ∨ m = [] → vE l m = decide (l.length < m.length)
 | [], [], _ => rfl
 | [], _ :: _, _ => by simp [vE]
 | _ :: _, [], _ => by simp [vE]
 | _ :: _, _ :: _, h => by simp at h
theorem LY {h : Hp} {a b : Value} {l m : List Int} (ra : bK.Rows h 1 a (l.map bB)) (rb : bK.Rows h 1 b (m.map bB)) (hl : l.length ≤ 900) (hm : m.length ≤ 900) : ∀ (k i n : Nat), i + k = min l.length m.length → k + 3 ≤ n →
  G.aI (T42 h) n 1 (aD.v a (aD.v b (aD.i ((min l.length m.length : Nat) : Int) (aD.i (i : Int) aD.n)))) = some (.bool (vE (l.drop i) (m.drop i)))
 | 0, i, n', hi, hn => by
  obtain ⟨n, rfl⟩ : ∃ n, n' = n + 2 := ⟨n' - 2, by omega⟩
  rw [aPG]
  unfold aE8
  rw [aH, aN, aC, if_neg (by simp; omega), aX6]
  unfold aN3
  rw [ra.len, rb.len, List.length_map, List.length_map, aH, aN, aPH]
  ·simp only [List.length_drop]
   congr 2
   apply decide_eq_decide.2
   omega
  ·by_cases c : l.length ≤ m.length
   ·exact .inl (List.drop_of_length_le (by omega))
   ·exact .inr (List.drop_of_length_le (by omega))
 | k + 1, i, n', hi, hn => by
  obtain ⟨n, rfl⟩ : ∃ n, n' = n + 1 := ⟨n' - 1, by omega⟩
  have h1 : i < l.length := by omega
  have h2 : i < m.length := by omega
  obtain ⟨p, hp, ap, _⟩ := ra.at (i := i) (r := bB l[i]) (by rw [List.getElem?_map, List.getElem?_eq_getElem h1]; rfl)
  obtain ⟨q, hq, aq, _⟩ := rb.at (i := i) (r := bB m[i]) (by rw [List.getElem?_map, List.getElem?_eq_getElem h2]; rfl)
  have e1 : ∀ k : Value → Option Value, aM h p k = k (.int .i64 l[i]) := fun k => ap.gL (x := .int .i64 l[i]) rfl k
  have e2 : ∀ k : Value → Option Value, aM h q k = k (.int .i64 m[i]) := fun k => aq.gL (x := .int .i64 m[i]) rfl k
  rw [aPG]
  unfold aE8
  rw [aH, aN, aC, if_pos (by simp; omega), hp, e1, aG, hq, e2, aG, aP, aY, aC, List.drop_eq_getElem_cons h1, List.drop_eq_getElem_cons h2]
  unfold vE
  by_cases c : l[i] = m[i]
  ·rw [if_neg (by simp [c]), if_neg (by simp [c]), show Int.add (i : Int) (Int.ofNat 1) = ((i + 1 : Nat) : Int) from rfl, wrap64_in _ (by omega) (by omega)]
   exact LY ra rb hl hm k (i + 1) n (by omega) (by omega)
  ·rw [if_pos (by simpa using c), if_pos (by simpa using c), hp, e1, aG, hq, e2, aG, aH, aN]
theorem aHH {h : Hp} {a b : Value} {l m : List Int} (ra : bK.Rows h 1 a (l.map bB)) (rb : bK.Rows h 1 b (m.map bB)) (hl : l.length ≤ 900) (hm : m.length ≤ 900) : F42 [a, b] h = some (.bool (vE l m)) := by
 show plainO (aN4 h (G.aI (T42 h) 999999) a b) = _
 unfold aN4
 rw [ra.len, rb.len, List.length_map, List.length_map, aQ6, show min (l.length : Int) (m.length : Int) = ((min l.length m.length : Nat) : Int) by omega, show (Int.ofNat 0) = ((0 : Nat) : Int) from rfl, LY ra rb hl hm (min l.length m.length) 0 999999 (by omega) (by omega)]
 rfl
end Go.Proofs.Ytdpicdnpiihaaaa.K.L
