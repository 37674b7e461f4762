/- Contracts of told functions: costs, Cost. -/
import Derived.Test.YtepepiajmdpiiaaPlS10
open Go Go.Eng
set_option maxRecDepth 100000
set_option linter.unusedVariables false
namespace Go.Proofs.Ytepepiajmdpiiaa.K.L
def mR (c : Nat × Nat) : List Value := [.int .i64 (c.1 : Int), .int .i64 (c.2 : Int)]
theorem WR (c : Nat × Nat) : Value.agg (Array.mk (mR c)) = oQ c.1 c.2 := rfl
def KA (s : Rm) (c : Nat × Nat) : List Int := iD 0 ((s.dA[c.1]?.map Lk.lk).getD []) ((s.cB[c.2]?.map Lk.lk).getD [])
theorem G8 {s : Rm} {c : Nat × Nat} {f q : Lk} (hf : s.dA[c.1]? = some f) (hq : s.cB[c.2]? = some q) : KA s c = iD 0 f.lk q.lk := by
 unfold KA; rw [hf, hq]; rfl
def j5 (cs : List Int) : List Int → Int
 | [] => 0
 | k :: l => cs.getD k.toNat 0 + j5 cs l
def xL (s : Rm) : List (Nat × Nat) → Int
 | [] => 0
 | c :: l => j5 s.costs (KA s c) + xL s l
theorem G9 {cs : List Int} (hb : ∀ n ∈ cs, 0 ≤ n ∧ n ≤ 100) : ∀ ks : List Int, 0 ≤ j5 cs ks ∧ j5 cs ks ≤ 100 * ks.length
 | [] => ⟨Int.le_refl 0, Int.le_refl 0⟩
 | k :: l => by
  obtain ⟨h1, h2⟩ := G9 hb l
  have : 0 ≤ cs.getD k.toNat 0 ∧ cs.getD k.toNat 0 ≤ 100 := by
   rw [List.getD_eq_getElem?_getD]
   cases e : cs[k.toNat]? with
   | none => simp
   | some x => simpa using hb x (List.mem_of_getElem? e)
  unfold j5
  simp only [List.length_cons]
  omega
theorem NG {s : Rm} (F : oU s) {c : Nat × Nat} (h1 : c.1 < s.dA.length) (h2 : c.2 < s.cB.length) : (KA s c).length ≤ 4 ∧ ∀ x ∈ KA s c, ∃ k : Nat, x = (k : Int) ∧ k < s.costs.length := by
 rw [G8 (List.getElem?_eq_getElem h1) (List.getElem?_eq_getElem h2)]
 have l2 := (F.ps _ (List.getElem_mem h2)).1
 have nc := F.nc
 have := NH (s.dA[c.1]).lk (s.cB[c.2]).lk 0
 refine ⟨by omega, fun x hx => ?_⟩
 obtain ⟨k, e, _, h⟩ := HV _ _ _ x hx
 exact ⟨k, e, by omega⟩
theorem aJI (h : Hp) (n : Nat) (a : Int) (v : Value) (k i : Int) (c : List Value) : G.aK (T54 h) (n + 1) 1 (aC.i a (aC.v v (aC.i k (aC.i i (aC.l c aC.n))))) = WS h (G.aK (T54 h) n) a v k i c := rfl
theorem aJJ (h : Hp) (n : Nat) (a : Int) (v : Value) (k i : Int) (u : Value) (m j : Int) (c : List Value) : G.aK (T54 h) (n + 1) 2 (aC.i a (aC.v v (aC.i k (aC.i i (aC.v u (aC.i m (aC.i j (aC.l c aC.n)))))))) = WT h (G.aK (T54 h) n) a v k i u m j c := rfl
theorem aST (h : Hp) (n : Nat) (a : Int) (v : Value) (k i : Int) (c : List Value) : G.aK (T54 h) (n + 1) 3 (aC.i a (aC.v v (aC.i k (aC.i i (aC.l c aC.n))))) = aCL h (G.aK (T54 h) n) a v k i c := rfl
theorem aSU (h : Hp) (n : Nat) (a : Int) : G.aK (T54 h) (n + 1) 4 (aC.i a aC.n) = some (.int .i64 a) := rfl
theorem NI {h : Hp} {vc : Value} {cs : List Int} (sc : jE h 1 vc (cs.map bF)) (hb : ∀ n ∈ cs, 0 ≤ n ∧ n ≤ 100) (t : List Value) {u : Value} {ks : List Int} (su : Eng.Rows h 1 u (ks.map bF)) (hk : ∀ x ∈ ks, ∃ k : Nat, x = (k : Int) ∧ k < cs.length) (hl : ks.length ≤ 4) (v : Value) (np i : Int) :
  ∀ (m j n : Nat) (acc : Int), j + m = ks.length → 0 ≤ acc → acc ≤ 100000 + 100 * j → G.aK (T54 h) (n + m + 1) 2 (aC.i acc (aC.v v (aC.i np (aC.i i (aC.v u (aC.i (ks.length : Int) (aC.i (j : Int) (aC.l (vc :: t) aC.n)))))))) = G.aK (T54 h) n 3 (aC.i (acc + j5 cs (ks.drop j)) (aC.v v (aC.i np (aC.i i (aC.l (vc :: t) aC.n)))))
 | 0, j, n, acc, hj, h0, h1 => by
  rw [Nat.add_zero, aJJ]
  unfold WT
  rw [aM, aU, aH, if_neg (by simp; omega), List.drop_of_length_le (by omega), show j5 cs [] = 0 from rfl, Int.add_zero]
 | m + 1, j, n, acc, hj, h0, h1 => by
  have hj' : j < ks.length := by omega
  obtain ⟨q, hq, aq, _⟩ := su.at (i := j) (r := bF ks[j]) (by rw [List.getElem?_map, List.getElem?_eq_getElem hj']; rfl)
  obtain ⟨k, ek, hkl⟩ := hk _ (List.getElem_mem hj')
  obtain ⟨p, hp, ap, _⟩ := sc.rows.at (i := k) (r := bF cs[k]) (by rw [List.getElem?_map, List.getElem?_eq_getElem hkl]; rfl)
  have cb := hb _ (List.getElem_mem hkl)
  rw [show n + (m + 1) + 1 = (n + m + 1) + 1 from rfl, aJJ]
  unfold WT
  rw [aM, aU, aH, if_pos (by simp; omega), hq, aq.gT (x := .int .i64 ks[j]) rfl, aJ, oO _ _ 0 vc rfl, ek, hp, ap.gT (x := .int .i64 cs[k]) rfl, aJ, show Int.add acc cs[k] = acc + cs[k] from rfl, wrap64_in _ (by omega) (by omega), show Int.add (j : Int) (Int.ofNat 1) = ((j + 1 : Nat) : Int) from rfl, wrap64_in _ (by omega) (by omega),
   NI sc hb t su hk hl v np i m (j + 1) n (acc + cs[k]) (by omega) (by omega) (by omega), List.drop_eq_getElem_cons hj']
  rw [show j5 cs (ks[j] :: ks.drop (j + 1)) = cs.getD (ks[j]).toNat 0 + j5 cs (ks.drop (j + 1)) from rfl, ek, Int.toNat_natCast, List.getD_eq_getElem?_getD, List.getElem?_eq_getElem hkl, Option.getD_some, Int.add_assoc]
theorem bBI (c : Nat × Nat) (k : List Value → Option Value) : (dJ (Nat.beq (OH (mR c)) 2) (TD 0 (mR c) [(Value.int .i64 (Int.ofNat 0)), (Value.int .i64 (Int.ofNat 0))] k) none) = k (mR c) := rfl
theorem aN4 {ρ : Type} (l : List Value) (f : List Value → Option ρ) : aNQ (.agg (Array.mk l)) f = f l := rfl
theorem aP1 (c : Nat × Nat) (k : List Value → Option Value) : (xF (mR c) 0 fun d5 => vD d5 2 k) = k (mR c) := rfl
def InP (s : Rm) (l : List (Nat × Nat)) : Prop := l.length ≤ 10 ∧ ∀ c ∈ l, c.1 < s.dA.length ∧ c.2 < s.cB.length
theorem JL {h : Hp} {s : Rm} (F : oU s) {vc vo vf vp : Value} (sc : jE h 1 vc (s.costs.map bF)) {mb : Nat} {hb : Hp} (M : QL hb h mb s every) {v : Value} {l : List (Nat × Nat)} (sl : Eng.Rows h 2 v (l.map mR)) (hl : InP s l) : ∀ (m k n : Nat) (acc : Int), k + m = l.length → 20 * m + 5 ≤ n → 0 ≤ acc → acc ≤ 1000 * k →
  G.aK (T54 h) n 1 (aC.i acc (aC.v v (aC.i (l.length : Int) (aC.i (k : Int) (aC.l [vc, vo, vf, vp, .map (some mb)] aC.n))))) = some (.int .i64 (acc + xL s (l.drop k)))
 | 0, k, n', acc, hk, hn, h0, h1 => by
  obtain ⟨n, rfl⟩ : ∃ n, n' = n + 2 := ⟨n' - 2, by omega⟩
  rw [aJI]
  unfold WS
  rw [aM, aU, aH, if_neg (by simp; omega), List.drop_of_length_le (by omega), aSU, show xL s [] = 0 from rfl, Int.add_zero]
 | m + 1, k, n', acc, hk, hn, h0, h1 => by
  obtain ⟨n, rfl⟩ : ∃ n, n' = n + 1 := ⟨n' - 1, by omega⟩
  have hk' : k < l.length := by omega
  have l10 := hl.1
  obtain ⟨q, hq, aq, hz⟩ := sl.at (i := k) (r := mR l[k]) (by rw [List.getElem?_map, List.getElem?_eq_getElem hk']; rfl)
  obtain ⟨i1, i2⟩ := hl.2 _ (List.getElem_mem hk')
  obtain ⟨u, hu, au⟩ := M.get (a := (l[k]).1) (b := (l[k]).2) trivial (List.getElem?_eq_getElem i1) (List.getElem?_eq_getElem i2)
  rw [← G8 (s := s) (c := l[k]) (List.getElem?_eq_getElem i1) (List.getElem?_eq_getElem i2)] at au
  obtain ⟨k1, k2⟩ := NG F i1 i2
  have cb := G9 F.cs (KA s l[k])
  have cb4 : 0 ≤ j5 s.costs (KA s l[k]) ∧ j5 s.costs (KA s l[k]) ≤ 400 := by omega
  rw [aJI]
  unfold WS
  rw [aM, aU, aH, if_pos (by simp; omega), hq, aq.dX hz, aN4, bBI, oO _ _ 4 (.map (some mb)) rfl, aP1, WR, hu, aO, au.rows.len, List.length_map]
  have := NI sc F.cs [vo, vf, vp, .map (some mb)] au.rows k2 k1 v (l.length : Int) (k : Int) (KA s l[k]).length 0 (n - (KA s l[k]).length - 1) acc (by omega) h0 (by omega)
  rw [show n - (KA s l[k]).length - 1 + (KA s l[k]).length + 1 = n by omega, List.drop_zero] at this
  rw [show (Int.ofNat 0) = ((0 : Nat) : Int) from rfl, this]
  obtain ⟨n2, hn2⟩ : ∃ n2, n - (KA s l[k]).length - 1 = n2 + 1 := ⟨n - (KA s l[k]).length - 2, by omega⟩
  rw [hn2, aST]
  unfold aCL
  rw [show Int.add (k : Int) (Int.ofNat 1) = ((k + 1 : Nat) : Int) from rfl, wrap64_in _ (by omega) (by omega), JL F sc M sl hl m (k + 1) n2 (acc + j5 s.costs (KA s l[k])) (by omega) (by omega) (by omega) (by omega), List.drop_eq_getElem_cons hk', show xL s (l[k] :: l.drop (k + 1)) = j5 s.costs (KA s l[k]) + xL s (l.drop (k + 1)) from rfl, Int.add_assoc]
theorem aAR {h : Hp} {s : Rm} (F : oU s) {lo : Nat} {lk : List Value} (V : QK lo h s lk) {v : Value} {l : List (Nat × Nat)} (sl : Eng.Rows h 2 v (l.map mR)) (hl : InP s l) : F54 [.agg (Array.mk lk), v] h = some (.int .i64 (xL s l)) := by
 obtain ⟨r, mb, hb, rfl, A, M, _⟩ := V
 obtain ⟨vc, vo, vf, vp, rfl, sc, _⟩ := A
 show plainO (aCM h (G.aK (T54 h) 999999) (.agg (Array.mk (fV vc vo vf vp ++ [.map (some mb)]))) v) = _
 unfold aCM
 have l10 := hl.1
 rw [dS, j6, sl.len, List.length_map, show (Int.ofNat 0) = (0 : Int) from rfl]
 have := JL F (vo := vo) (vf := vf) (vp := vp) sc M sl hl l.length 0 999999 0 (by omega) (by omega) (by omega) (by omega)
 rw [List.drop_zero, Int.zero_add] at this
 exact congrArg plainO this
theorem bBJ (h : Hp) (a b : Int) : bW env h 79 1 (List.toArray [(0, .agg (Array.mk [.int .i64 a, .int .i64 b]))]) = some (.slice (some ⟨h.next, 0, none⟩) 1 1, h.add (.cells [.int .i64 a, .int .i64 b] 76 none)) := by kernel_rfl
end Go.Proofs.Ytepepiajmdpiiaa.K.L
