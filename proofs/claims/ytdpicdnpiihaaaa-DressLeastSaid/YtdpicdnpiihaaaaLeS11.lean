/- Contracts of told functions: costs, Cost. -/
import Derived.Test.YtdpicdnpiihaaaaLeS10
open Go Go.bK
set_option maxRecDepth 100000
set_option linter.unusedVariables false
namespace Go.Proofs.Ytdpicdnpiihaaaa.K.L
def gI (c : Nat × Nat) : List Value := [.int .i64 (c.1 : Int), .int .i64 (c.2 : Int)]
theorem ZP (c : Nat × Nat) : Value.agg (Array.mk (gI c)) = qB c.1 c.2 := rfl
def MK (s : Rm) (c : Nat × Nat) : List Int := iH 0 ((s.bR[c.1]?.map Lk.lk).getD []) ((s.bE[c.2]?.map Lk.lk).getD [])
theorem J8 {s : Rm} {c : Nat × Nat} {f q : Lk} (hf : s.bR[c.1]? = some f) (hq : s.bE[c.2]? = some q) : MK s c = iH 0 f.lk q.lk := by
 unfold MK; rw [hf, hq]; rfl
def kK (cs : List Int) : List Int → Int
 | [] => 0
 | k :: l => cs.getD k.toNat 0 + kK cs l
def jY (s : Rm) : List (Nat × Nat) → Int
 | [] => 0
 | c :: l => kK s.costs (MK s c) + jY s l
theorem J9 {cs : List Int} (hb : ∀ n ∈ cs, 0 ≤ n ∧ n ≤ 100) : ∀ ks : List Int, 0 ≤ kK cs ks ∧ kK cs ks ≤ 100 * ks.length
 | [] => ⟨Int.le_refl 0, Int.le_refl 0⟩
 | k :: l => by
  obtain ⟨h1, h2⟩ := J9 hb l
  have : 0 ≤ cs.getD k.toNat 0 ∧ cs.getD k.toNat 0 ≤ 100 := by
   rw [List.getD_eq_getElem?_getD]
   cases e : cs[k.toNat]? with
   | none => simp
   | some x => simpa using hb x (List.mem_of_getElem? e)
  unfold kK
  simp only [List.length_cons]
  omega
theorem PR {s : Rm} (F : kY s) {c : Nat × Nat} (h1 : c.1 < s.bR.length) (h2 : c.2 < s.bE.length) : (MK s c).length ≤ 4 ∧ ∀ x ∈ MK s c, ∃ k : Nat, x = (k : Int) ∧ k < s.costs.length := by
 rw [J8 (List.getElem?_eq_getElem h1) (List.getElem?_eq_getElem h2)]
 have l2 := (F.ps _ (List.getElem_mem h2)).1
 have nc := F.nc
 have := PS (s.bR[c.1]).lk (s.bE[c.2]).lk 0
 refine ⟨by omega, fun x hx => ?_⟩
 obtain ⟨k, e, _, h⟩ := KA _ _ _ x hx
 exact ⟨k, e, by omega⟩
theorem aN7 (h : Hp) (n : Nat) (a : Int) (v : Value) (k i : Int) (c : List Value) : G.aI (T54 h) (n + 1) 1 (aD.i a (aD.v v (aD.i k (aD.i i (aD.l c aD.n))))) = aEI h (G.aI (T54 h) n) a v k i c := rfl
theorem aN8 (h : Hp) (n : Nat) (a : Int) (v : Value) (k i : Int) (u : Value) (m j : Int) (c : List Value) : G.aI (T54 h) (n + 1) 2 (aD.i a (aD.v v (aD.i k (aD.i i (aD.v u (aD.i m (aD.i j (aD.l c aD.n)))))))) = aEH h (G.aI (T54 h) n) a v k i u m j c := rfl
theorem aW0 (h : Hp) (n : Nat) (a : Int) (v : Value) (k i : Int) (c : List Value) : G.aI (T54 h) (n + 1) 3 (aD.i a (aD.v v (aD.i k (aD.i i (aD.l c aD.n))))) = aKZ h (G.aI (T54 h) n) a v k i c := rfl
theorem aW1 (h : Hp) (n : Nat) (a : Int) : G.aI (T54 h) (n + 1) 4 (aD.i a aD.n) = some (.int .i64 a) := rfl
theorem PT {h : Hp} {vc : Value} {cs : List Int} (sc : jC h 1 vc (cs.map bB)) (hb : ∀ n ∈ cs, 0 ≤ n ∧ n ≤ 100) (t : List Value) {u : Value} {ks : List Int} (su : bK.Rows h 1 u (ks.map bB)) (hk : ∀ x ∈ ks, ∃ k : Nat, x = (k : Int) ∧ k < cs.length) (hl : ks.length ≤ 4) (v : Value) (np i : Int) :
  ∀ (m j n : Nat) (acc : Int), j + m = ks.length → 0 ≤ acc → acc ≤ 100000 + 100 * j → G.aI (T54 h) (n + m + 1) 2 (aD.i acc (aD.v v (aD.i np (aD.i i (aD.v u (aD.i (ks.length : Int) (aD.i (j : Int) (aD.l (vc :: t) aD.n)))))))) = G.aI (T54 h) n 3 (aD.i (acc + kK cs (ks.drop j)) (aD.v v (aD.i np (aD.i i (aD.l (vc :: t) aD.n)))))
 | 0, j, n, acc, hj, h0, h1 => by
  rw [Nat.add_zero, aN8]
  unfold aEH
  rw [aH, aN, aC, if_neg (by simp; omega), List.drop_of_length_le (by omega), show kK cs [] = 0 from rfl, Int.add_zero]
 | m + 1, j, n, acc, hj, h0, h1 => by
  have hj' : j < ks.length := by omega
  obtain ⟨q, hq, aq, _⟩ := su.at (i := j) (r := bB ks[j]) (by rw [List.getElem?_map, List.getElem?_eq_getElem hj']; rfl)
  obtain ⟨k, ek, hkl⟩ := hk _ (List.getElem_mem hj')
  obtain ⟨p, hp, ap, _⟩ := sc.rows.at (i := k) (r := bB cs[k]) (by rw [List.getElem?_map, List.getElem?_eq_getElem hkl]; rfl)
  have cb := hb _ (List.getElem_mem hkl)
  rw [show n + (m + 1) + 1 = (n + m + 1) + 1 from rfl, aN8]
  unfold aEH
  rw [aH, aN, aC, if_pos (by simp; omega), hq, aq.gL (x := .int .i64 ks[j]) rfl, aG, oD _ _ 0 vc rfl, ek, hp, ap.gL (x := .int .i64 cs[k]) rfl, aG, show Int.add acc cs[k] = acc + cs[k] from rfl, wrap64_in _ (by omega) (by omega), show Int.add (j : Int) (Int.ofNat 1) = ((j + 1 : Nat) : Int) from rfl, wrap64_in _ (by omega) (by omega),
   PT sc hb t su hk hl v np i m (j + 1) n (acc + cs[k]) (by omega) (by omega) (by omega), List.drop_eq_getElem_cons hj']
  rw [show kK cs (ks[j] :: ks.drop (j + 1)) = cs.getD (ks[j]).toNat 0 + kK cs (ks.drop (j + 1)) from rfl, ek, Int.toNat_natCast, List.getD_eq_getElem?_getD, List.getElem?_eq_getElem hkl, Option.getD_some, Int.add_assoc]
theorem bGW (c : Nat × Nat) (k : List Value → Option Value) : (dA (Nat.beq (Q7 (gI c)) 2) (VM 0 (gI c) [(Value.int .i64 (Int.ofNat 0)), (Value.int .i64 (Int.ofNat 0))] k) none) = k (gI c) := rfl
theorem aSE {ρ : Type} (l : List Value) (f : List Value → Option ρ) : aQZ (.agg (Array.mk l)) f = f l := rfl
theorem aUH (c : Nat × Nat) (k : List Value → Option Value) : (zI (gI c) 0 fun d5 => xJ d5 2 k) = k (gI c) := rfl
def M5 (s : Rm) (l : List (Nat × Nat)) : Prop := l.length ≤ 10 ∧ ∀ c ∈ l, c.1 < s.bR.length ∧ c.2 < s.bE.length
theorem LF {h : Hp} {s : Rm} (F : kY s) {vc vo vf vp : Value} (sc : jC h 1 vc (s.costs.map bB)) {mb : Nat} {hb : Hp} (M : TZ hb h mb s every) {v : Value} {l : List (Nat × Nat)} (sl : bK.Rows h 2 v (l.map gI)) (hl : M5 s l) : ∀ (m k n : Nat) (acc : Int), k + m = l.length → 20 * m + 5 ≤ n → 0 ≤ acc → acc ≤ 1000 * k →
  G.aI (T54 h) n 1 (aD.i acc (aD.v v (aD.i (l.length : Int) (aD.i (k : Int) (aD.l [vc, vo, vf, vp, .map (some mb)] aD.n))))) = some (.int .i64 (acc + jY s (l.drop k)))
 | 0, k, n', acc, hk, hn, h0, h1 => by
  obtain ⟨n, rfl⟩ : ∃ n, n' = n + 2 := ⟨n' - 2, by omega⟩
  rw [aN7]
  unfold aEI
  rw [aH, aN, aC, if_neg (by simp; omega), List.drop_of_length_le (by omega), aW1, show jY s [] = 0 from rfl, Int.add_zero]
 | m + 1, k, n', acc, hk, hn, h0, h1 => by
  obtain ⟨n, rfl⟩ : ∃ n, n' = n + 1 := ⟨n' - 1, by omega⟩
  have hk' : k < l.length := by omega
  have l10 := hl.1
  obtain ⟨q, hq, aq, hz⟩ := sl.at (i := k) (r := gI l[k]) (by rw [List.getElem?_map, List.getElem?_eq_getElem hk']; rfl)
  obtain ⟨i1, i2⟩ := hl.2 _ (List.getElem_mem hk')
  obtain ⟨u, hu, au⟩ := M.get (a := (l[k]).1) (b := (l[k]).2) trivial (List.getElem?_eq_getElem i1) (List.getElem?_eq_getElem i2)
  rw [← J8 (s := s) (c := l[k]) (List.getElem?_eq_getElem i1) (List.getElem?_eq_getElem i2)] at au
  obtain ⟨k1, k2⟩ := PR F i1 i2
  have cb := J9 F.cs (MK s l[k])
  have cb4 : 0 ≤ kK s.costs (MK s l[k]) ∧ kK s.costs (MK s l[k]) ≤ 400 := by omega
  rw [aN7]
  unfold aEI
  rw [aH, aN, aC, if_pos (by simp; omega), hq, aq.dL hz, aSE, bGW, oD _ _ 4 (.map (some mb)) rfl, aUH, ZP, hu, aK, au.rows.len, List.length_map]
  have := PT sc F.cs [vo, vf, vp, .map (some mb)] au.rows k2 k1 v (l.length : Int) (k : Int) (MK s l[k]).length 0 (n - (MK s l[k]).length - 1) acc (by omega) h0 (by omega)
  rw [show n - (MK s l[k]).length - 1 + (MK s l[k]).length + 1 = n by omega, List.drop_zero] at this
  rw [show (Int.ofNat 0) = ((0 : Nat) : Int) from rfl, this]
  obtain ⟨n2, hn2⟩ : ∃ n2, n - (MK s l[k]).length - 1 = n2 + 1 := ⟨n - (MK s l[k]).length - 2, by omega⟩
  rw [hn2, aW0]
  unfold aKZ
  rw [show Int.add (k : Int) (Int.ofNat 1) = ((k + 1 : Nat) : Int) from rfl, wrap64_in _ (by omega) (by omega), LF F sc M sl hl m (k + 1) n2 (acc + kK s.costs (MK s l[k])) (by omega) (by omega) (by omega) (by omega), List.drop_eq_getElem_cons hk', show jY s (l[k] :: l.drop (k + 1)) = kK s.costs (MK s l[k]) + jY s (l.drop (k + 1)) from rfl, Int.add_assoc]
theorem zB {h : Hp} {s : Rm} (F : kY s) {lo : Nat} {lk : List Value} (V : IQ lo h s lk) {v : Value} {l : List (Nat × Nat)} (sl : bK.Rows h 2 v (l.map gI)) (hl : M5 s l) : F54 [.agg (Array.mk lk), v] h = some (.int .i64 (jY s l)) := by
 obtain ⟨r, mb, hb, rfl, A, M, _⟩ := V
 obtain ⟨vc, vo, vf, vp, rfl, sc, _⟩ := A
 show plainO (aK0 h (G.aI (T54 h) 999999) (.agg (Array.mk (fP vc vo vf vp ++ [.map (some mb)]))) v) = _
 unfold aK0
 have l10 := hl.1
 rw [dN, j5, sl.len, List.length_map, show (Int.ofNat 0) = (0 : Int) from rfl]
 have := LF F (vo := vo) (vf := vf) (vp := vp) sc M sl hl l.length 0 999999 0 (by omega) (by omega) (by omega) (by omega)
 rw [List.drop_zero, Int.zero_add] at this
 exact congrArg plainO this
theorem bGX (h : Hp) (a b : Int) : bF env h 79 1 (List.toArray [(0, .agg (Array.mk [.int .i64 a, .int .i64 b]))]) = some (.slice (some ⟨h.next, 0, none⟩) 1 1, h.add (.cells [.int .i64 a, .int .i64 b] 76 none)) := by kernel_rfl
end Go.Proofs.Ytdpicdnpiihaaaa.K.L
