/- Contracts of told functions: who is seen in a truth, in all of them, in some (the reference). -/
import Derived.Test.YtgjdokjoejhepaaGreatDoorTrS17
open Go Go.bP
set_option maxRecDepth 100000
set_option linter.unusedVariables false
namespace Go.Proofs.YtgjdokjoejhepaaGreatDoor.K.L
def KQ (t : Int) (l : List Int) : Bool := l.any fun x => IX t.toNat x.toNat
theorem aUH (h : Hp) (t n : Int) (h0 : 0 ≤ t) (n0 : 0 ≤ n) (n1 : n ≤ 60) : F42 [.int .i64 t, .int .i64 n] h = some (.bool (IX t.toNat n.toNat)) := by
 have := aB8 h t.toNat n.toNat (by omega)
 rw [Int.toNat_of_nonneg h0, Int.toNat_of_nonneg n0] at this
 exact this
section
variable {h : Hp} {v : Value} {l : List Int}
theorem Q3 (t : Int) (h0 : 0 ≤ t) (hr : bP.Rows h 1 v (l.map dH)) (hlen : l.length ≤ 900000) (hl : ∀ x ∈ l, 0 ≤ x ∧ x ≤ 60) : ∀ m i n, i + m = l.length → m + 2 ≤ n →
  G.aP (T92 h) n 1 (aR.i t (aR.v v (aR.i (i : Int) aR.n))) = some (.bool (KQ t (l.drop i)))
 | 0, i, n + 2, him, hn => by
  show VA h (G.aP (T92 h) (n + 1)) t v (i : Int) = _
  unfold VA
  rw [hr.len, List.length_map, aN, bA, aI, if_neg (by simp; omega), List.drop_of_length_le (by omega)]
  rfl
 | m + 1, i, n + 1, him, hn => by
  have hi : i < l.length := by omega
  have hg : (l.map dH)[i]? = some (dH l[i]) := by rw [List.getElem?_map, List.getElem?_eq_getElem hi]; rfl
  obtain ⟨q, hq, haq, _⟩ := hr.at hg
  have hx := hl _ (List.getElem_mem hi)
  show VA h (G.aP (T92 h) n) t v (i : Int) = _
  unfold VA
  rw [hr.len, List.length_map, aN, bA, aI, if_pos (by simp; omega), hq, haq.lV (x := .int .i64 l[i]) rfl, aK, aUH h t l[i] h0 hx.1 hx.2, aM, aO, aI, List.drop_eq_getElem_cons hi]
  unfold KQ
  rw [List.any_cons]
  cases hb : IX t.toNat (l[i]).toNat with
  | true => rw [if_pos rfl, Bool.true_or]
  | false =>
   rw [if_neg (by simp), show Int.add (i : Int) (Int.ofNat 1) = ((i + 1 : Nat) : Int) from rfl, wrap64_in _ (by omega) (by omega), Q3 t h0 hr hlen hl m (i + 1) n (by omega) (by omega), Bool.false_or]
   rfl
theorem aB9 (r : List Value) (t : Int) (h0 : 0 ≤ t) (hr : bP.Rows h 1 v (l.map dH)) (hlen : l.length ≤ 900000) (hl : ∀ x ∈ l, 0 ≤ x ∧ x ≤ 60) : F92 [.agg (Array.mk r), .int .i64 t, v] h = some (.bool (KQ t l)) := by
 have step : ∀ n, G.aP (T92 h) (n + 1) 0 (aR.v (.agg (Array.mk r)) (aR.i t (aR.v v aR.n))) = aHU h (G.aP (T92 h) n) (.agg (Array.mk r)) t v := fun n => rfl
 show plainO (G.aP (T92 h) (999999 + 1) 0 (aR.v (.agg (Array.mk r)) (aR.i t (aR.v v aR.n)))) = _
 rw [step]
 unfold aHU
 have := Q3 t h0 hr hlen hl l.length 0 999999 (by omega) (by omega)
 rw [List.drop_zero] at this
 rw [mP, show (Int.ofNat 0) = ((0 : Nat) : Int) from rfl, this]
 rfl
variable {ts : List Int} {vf vt : Value} {c : Int}
def kH (ts l : List Int) : Bool := ts.all fun t => KQ t l
def nC (ts l : List Int) : Bool := ts.any fun t => KQ t l
theorem Q4 (st : bP.Rows h 1 vt (ts.map dH)) (hts : ts.length ≤ 900000) (h0 : ∀ t ∈ ts, 0 ≤ t) (hr : bP.Rows h 1 v (l.map dH)) (hlen : l.length ≤ 900000) (hl : ∀ x ∈ l, 0 ≤ x ∧ x ≤ 60) : ∀ m i n, i + m = ts.length → m + 2 ≤ n →
  G.aP (T53 h) n 1 (aR.v v (aR.i (i : Int) (aR.i c (aR.v vf (aR.v vt aR.n))))) = some (.bool (kH (ts.drop i) l))
 | 0, i, n + 2, him, hn => by
  show VB h (G.aP (T53 h) (n + 1)) v (i : Int) c vf vt = _
  unfold VB
  rw [st.len, List.length_map, aN, bA, aI, if_neg (by simp; omega), List.drop_of_length_le (by omega)]
  rfl
 | m + 1, i, n + 1, him, hn => by
  have hi : i < ts.length := by omega
  have hg : (ts.map dH)[i]? = some (dH ts[i]) := by rw [List.getElem?_map, List.getElem?_eq_getElem hi]; rfl
  obtain ⟨q, hq, haq, _⟩ := st.at hg
  show VB h (G.aP (T53 h) n) v (i : Int) c vf vt = _
  unfold VB
  rw [st.len, List.length_map, aN, bA, aI, if_pos (by simp; omega), hq, haq.lV (x := .int .i64 ts[i]) rfl, aK, aB9 [.int .i64 c, vf, vt] ts[i] (h0 _ (List.getElem_mem hi)) hr hlen hl, aM, aO, aX, aI, List.drop_eq_getElem_cons hi]
  unfold kH
  rw [List.all_cons]
  cases hb : KQ ts[i] l with
  | false => rw [if_pos (by rfl), Bool.false_and]
  | true =>
   rw [if_neg (by simp), show Int.add (i : Int) (Int.ofNat 1) = ((i + 1 : Nat) : Int) from rfl, wrap64_in _ (by omega) (by omega), Q4 st hts h0 hr hlen hl m (i + 1) n (by omega) (by omega), Bool.true_and]
   rfl
theorem aCA (st : bP.Rows h 1 vt (ts.map dH)) (hts : ts.length ≤ 900000) (h0 : ∀ t ∈ ts, 0 ≤ t) (hr : bP.Rows h 1 v (l.map dH)) (hlen : l.length ≤ 900000) (hl : ∀ x ∈ l, 0 ≤ x ∧ x ≤ 60) : VC [.agg (Array.mk [.int .i64 c, vf, vt]), v] h = some (.bool (kH ts l)) := by
 have step : ∀ n, G.aP (T53 h) (n + 1) 0 (aR.v (.agg (Array.mk [.int .i64 c, vf, vt])) (aR.v v aR.n)) = aHV h (G.aP (T53 h) n) (.agg (Array.mk [.int .i64 c, vf, vt])) v := fun n => rfl
 show plainO (G.aP (T53 h) (999999 + 1) 0 (aR.v (.agg (Array.mk [.int .i64 c, vf, vt])) (aR.v v aR.n))) = _
 rw [step]
 unfold aHV
 have := Q4 (c := c) (vf := vf) st hts h0 hr hlen hl ts.length 0 999999 (by omega) (by omega)
 rw [List.drop_zero] at this
 rw [mP]
 show plainO (bI .i64 (.int .i64 c) fun i2 => G.aP (T53 h) 999999 1 (aR.v v (aR.i ((0 : Nat) : Int) (aR.i i2 (aR.v vf (aR.v vt aR.n)))))) = _
 rw [aK, this]
 rfl
theorem MI (st : bP.Rows h 1 vt (ts.map dH)) (hts : ts.length ≤ 900000) (h0 : ∀ t ∈ ts, 0 ≤ t) (hr : bP.Rows h 1 v (l.map dH)) (hlen : l.length ≤ 900000) (hl : ∀ x ∈ l, 0 ≤ x ∧ x ≤ 60) : ∀ m i n, i + m = ts.length → m + 2 ≤ n →
  G.aP (T52 h) n 1 (aR.v v (aR.i (i : Int) (aR.i c (aR.v vf (aR.v vt aR.n))))) = some (.bool (nC (ts.drop i) l))
 | 0, i, n + 2, him, hn => by
  show VM h (G.aP (T52 h) (n + 1)) v (i : Int) c vf vt = _
  unfold VM
  rw [st.len, List.length_map, aN, bA, aI, if_neg (by simp; omega), List.drop_of_length_le (by omega)]
  rfl
 | m + 1, i, n + 1, him, hn => by
  have hi : i < ts.length := by omega
  have hg : (ts.map dH)[i]? = some (dH ts[i]) := by rw [List.getElem?_map, List.getElem?_eq_getElem hi]; rfl
  obtain ⟨q, hq, haq, _⟩ := st.at hg
  show VM h (G.aP (T52 h) n) v (i : Int) c vf vt = _
  unfold VM
  rw [st.len, List.length_map, aN, bA, aI, if_pos (by simp; omega), hq, haq.lV (x := .int .i64 ts[i]) rfl, aK, aB9 [.int .i64 c, vf, vt] ts[i] (h0 _ (List.getElem_mem hi)) hr hlen hl, aM, aO, aI, List.drop_eq_getElem_cons hi]
  unfold nC
  rw [List.any_cons]
  cases hb : KQ ts[i] l with
  | true => rw [if_pos rfl, Bool.true_or]
  | false =>
   rw [if_neg (by simp), show Int.add (i : Int) (Int.ofNat 1) = ((i + 1 : Nat) : Int) from rfl, wrap64_in _ (by omega) (by omega), MI st hts h0 hr hlen hl m (i + 1) n (by omega) (by omega), Bool.false_or]
   rfl
theorem aLB (st : bP.Rows h 1 vt (ts.map dH)) (hts : ts.length ≤ 900000) (h0 : ∀ t ∈ ts, 0 ≤ t) (hr : bP.Rows h 1 v (l.map dH)) (hlen : l.length ≤ 900000) (hl : ∀ x ∈ l, 0 ≤ x ∧ x ≤ 60) : F52 [.agg (Array.mk [.int .i64 c, vf, vt]), v] h = some (.bool (nC ts l)) := by
 have step : ∀ n, G.aP (T52 h) (n + 1) 0 (aR.v (.agg (Array.mk [.int .i64 c, vf, vt])) (aR.v v aR.n)) = aIF h (G.aP (T52 h) n) (.agg (Array.mk [.int .i64 c, vf, vt])) v := fun n => rfl
 show plainO (G.aP (T52 h) (999999 + 1) 0 (aR.v (.agg (Array.mk [.int .i64 c, vf, vt])) (aR.v v aR.n))) = _
 rw [step]
 unfold aIF
 have := MI (c := c) (vf := vf) st hts h0 hr hlen hl ts.length 0 999999 (by omega) (by omega)
 rw [List.drop_zero] at this
 rw [mP]
 show plainO (bI .i64 (.int .i64 c) fun i2 => G.aP (T52 h) 999999 1 (aR.v v (aR.i ((0 : Nat) : Int) (aR.i i2 (aR.v vf (aR.v vt aR.n)))))) = _
 rw [aK, this]
 rfl
end
end Go.Proofs.YtgjdokjoejhepaaGreatDoor.K.L
