/- Contracts of told functions: plans, figures. -/
import Derived.Test.YtdpicdnpiihaaaaOrS36
open Go Go.bI Go.bI.Y
set_option maxRecDepth 100000
set_option linter.unusedVariables false
namespace Go.Proofs.Ytdpicdnpiihaaaa.K.L
theorem qZ.one {hb h : Hp} {v : Value} {ns : List Int} (a : qZ hb h v ns) : oneCell v = true := by
 rcases a with ⟨rfl, _⟩ | ⟨b, rfl, _⟩ <;> rfl
theorem aDF {h : Hp} (w : Wf h) {lk : List Value} {np : Nat} (hnp : np ≤ 5) : ∃ h' c1 c2 vl, F68 [.agg (Array.mk lk), .int .i64 (nJ np)] h = some (.func (.func 94) (List.toArray []) (List.toArray [.pointer (some ⟨c1, 0, none⟩), .pointer (some ⟨c2, 0, none⟩)]), h') ∧ aV h h' ∧ h'.get c1 = some (.cells [vl] 22 none) ∧ h.next ≤ c1 ∧ qZ h h' vl (sJ np) ∧ h'.get c2 = some (.cells lk 71 none) ∧ h.next ≤ c2 := by
 have start : F68 [.agg (Array.mk lk), .int .i64 (nJ np)] h = aL0 (aN T68 999999) (.agg (Array.mk lk)) (nJ np) h := rfl
 rw [start]
 unfold aL0
 rw [fF, bT]
 have g0 := aV.add w (.cells lk 71 none)
 have c0 : (h.add (.cells lk 71 none)).get h.next = some (.cells lk 71 none) := by rw [bD, if_pos rfl]
 have n0 : (h.add (.cells lk 71 none)).next = h.next + 1 := rfl
 generalize h.add (.cells lk 71 none) = h0 at g0 c0 n0 ⊢
 obtain ⟨h1, v1, e1, g1, i1⟩ := aHC (h := dF h0) (fM g0.wf) hnp
 obtain ⟨h2, e2, g2, i2⟩ := PX g0.wf e1 g1 i1
 rw [e2, aB]
 obtain ⟨h3, g3, n3, b3, e3⟩ := aFI g2.wf 22 (Value.slice none 0 0) (x := v1) i2.one
 rw [e3]
 refine ⟨h3, h2.next, h.next, v1, rfl, (g0.trans g2).trans g3, b3, by have := (g0.trans g2).next; omega, (i2.sub g3.sub).low (by omega), g3.sub _ _ (g2.sub _ _ c0), Nat.le_refl _⟩
theorem aOO (n : Nat) (x u : Value) (k i : Int) (h : Hp) : aN T66 (n + 1) 1 (AL.v x (AL.v u (AL.i k (AL.i i AL.n)))) h = aEQ (aN T66 n) x u k i h := rfl
theorem CG {hb : Hp} (w : Wf hb) {u : Value} {l : List (Nat × Nat)} (sl : bI.Rows hb 2 u (l.map iG)) (hl : l.length ≤ 10) : ∀ (m i n : Nat) (h : Hp) (v : Value), aV hb h → qZ hb h v ((l.take i).map fun c => (c.1 : Int)) → i + m = l.length → m + 3 ≤ n →
  ∃ h' v', aN T66 n 1 (AL.v v (AL.v u (AL.i (l.length : Int) (AL.i (i : Int) AL.n)))) h = some (v', h') ∧ aV hb h' ∧ qZ hb h' v' (l.map fun c => (c.1 : Int))
 | 0, i, n', h, v, g, nm, hi, hn => by
  obtain ⟨n, rfl⟩ : ∃ n, n' = n + 2 := ⟨n' - 2, by omega⟩
  rw [aOO]
  unfold aEQ
  rw [aQ, aW, aH, if_neg (by simp; omega)]
  rw [List.take_of_length_le (by omega)] at nm
  exact ⟨h, v, rfl, g, nm⟩
 | m + 1, i, n', h, v, g, nm, hi, hn => by
  obtain ⟨n, rfl⟩ : ∃ n, n' = n + 1 := ⟨n' - 1, by omega⟩
  have hlt : i < l.length := by omega
  obtain ⟨p, hp, ap, _⟩ := (Rows.sub g.sub sl).at (i := i) (r := iG l[i]) (by rw [List.getElem?_map, List.getElem?_eq_getElem hlt]; rfl)
  obtain ⟨h1, p1, g1, a1, e1⟩ := l9 (z := 2) g.wf 76 (c := [.int .i64 (Int.ofNat 0), .int .i64 (Int.ofNat 0)]) (l := iG l[i]) rfl rfl rfl (fun _ _ => (none : aF))
  rw [aOO]
  unfold aEQ
  rw [aQ, aW, aH, if_pos (by simp; omega), hp, ap.eX (z := 2) rfl, e1, a1.wP 0 (x := .int .i64 (l[i].1 : Int)) rfl, aI, WR, aB]
  obtain ⟨v2, h2, e2, g2, nm2⟩ := DW w (g.trans g1) (nm.sub g1.sub) (by rw [List.length_map, List.length_take]; omega) (l[i].1 : Int)
  rw [e2, aB, show Int.add (i : Int) (Int.ofNat 1) = ((i + 1 : Nat) : Int) from rfl, wrap64_in _ (by omega) (by omega)]
  refine CG w sl hl m (i + 1) n h2 v2 g2 ?_ (by omega) (by omega)
  rw [List.take_succ_eq_append_getElem hlt, List.map_append]
  exact nm2
theorem WY {h : Hp} (w : Wf h) {u : Value} {l : List (Nat × Nat)} (sl : bI.Rows h 2 u (l.map iG)) (hl : l.length ≤ 10) : ∃ h' v', F66 [u] h = some (v', h') ∧ aV h h' ∧ qZ h h' v' (l.map fun c => (c.1 : Int)) := by
 have start : F66 [u] h = aMF (aN T66 999999) u h := rfl
 rw [start]
 unfold aMF
 rw [sl.len, List.length_map]
 exact CG w sl hl l.length 0 999999 h (.slice none 0 0) (aV.refl w) (.inl ⟨rfl, by simp⟩) (by omega) (by omega)
end Go.Proofs.Ytdpicdnpiihaaaa.K.L
open Go Go.bI
set_option maxRecDepth 100000
set_option linter.unusedVariables false
namespace Go.Proofs.Ytdpicdnpiihaaaa.K.L
def QC : List Int → List Int → Bool
 | [], [] => false
 | [], _ :: _ => true
 | _ :: _, [] => false
 | x :: l, y :: m => if x ≠ y then decide (x < y) else QC l m
end Go.Proofs.Ytdpicdnpiihaaaa.K.L
