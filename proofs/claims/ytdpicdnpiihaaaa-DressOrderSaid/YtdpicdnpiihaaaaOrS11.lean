/- Contracts of told functions: costs, Cost. -/
import Derived.Test.YtdpicdnpiihaaaaOrS10
open Go Go.bI
set_option maxRecDepth 100000
set_option linter.unusedVariables false
namespace Go.Proofs.Ytdpicdnpiihaaaa.K.L
def iG (c : Nat × Nat) : List Value := [.int .i64 (c.1 : Int), .int .i64 (c.2 : Int)]
theorem ZK (c : Nat × Nat) : Value.agg (Array.mk (iG c)) = qL c.1 c.2 := rfl
def IY (s : Rm) (c : Nat × Nat) : List Int := jZ 0 ((s.bP[c.1]?.map Lk.lk).getD []) ((s.dR[c.2]?.map Lk.lk).getD [])
theorem WS {s : Rm} {c : Nat × Nat} {f q : Lk} (hf : s.bP[c.1]? = some f) (hq : s.dR[c.2]? = some q) : IY s c = jZ 0 f.lk q.lk := by
 unfold IY; rw [hf, hq]; rfl
def kM (cs : List Int) : List Int → Int
 | [] => 0
 | k :: l => cs.getD k.toNat 0 + kM cs l
def iL (s : Rm) : List (Nat × Nat) → Int
 | [] => 0
 | c :: l => kM s.costs (IY s c) + iL s l
theorem DR {cs : List Int} (hb : ∀ n ∈ cs, 0 ≤ n ∧ n ≤ 100) : ∀ ks : List Int, 0 ≤ kM cs ks ∧ kM cs ks ≤ 100 * ks.length
 | [] => ⟨Int.le_refl 0, Int.le_refl 0⟩
 | k :: l => by
  obtain ⟨h1, h2⟩ := DR hb l
  have : 0 ≤ cs.getD k.toNat 0 ∧ cs.getD k.toNat 0 ≤ 100 := by
   rw [List.getD_eq_getElem?_getD]
   cases e : cs[k.toNat]? with
   | none => simp
   | some x => simpa using hb x (List.mem_of_getElem? e)
  unfold kM
  simp only [List.length_cons]
  omega
theorem aC2 {s : Rm} (F : nI s) {c : Nat × Nat} (h1 : c.1 < s.bP.length) (h2 : c.2 < s.dR.length) : (IY s c).length ≤ 4 ∧ ∀ x ∈ IY s c, ∃ k : Nat, x = (k : Int) ∧ k < s.costs.length := by
 rw [WS (List.getElem?_eq_getElem h1) (List.getElem?_eq_getElem h2)]
 have l2 := (F.ps _ (List.getElem_mem h2)).1
 have nc := F.nc
 have := PR (s.bP[c.1]).lk (s.dR[c.2]).lk 0
 refine ⟨by omega, fun x hx => ?_⟩
 obtain ⟨k, e, _, h⟩ := J6 _ _ _ x hx
 exact ⟨k, e, by omega⟩
theorem aNZ (h : Hp) (n : Nat) (a : Int) (v : Value) (k i : Int) (c : List Value) : G.aN (T54 h) (n + 1) 1 (aD.i a (aD.v v (aD.i k (aD.i i (aD.l c aD.n))))) = aEH h (G.aN (T54 h) n) a v k i c := rfl
theorem aN0 (h : Hp) (n : Nat) (a : Int) (v : Value) (k i : Int) (u : Value) (m j : Int) (c : List Value) : G.aN (T54 h) (n + 1) 2 (aD.i a (aD.v v (aD.i k (aD.i i (aD.v u (aD.i m (aD.i j (aD.l c aD.n)))))))) = aEG h (G.aN (T54 h) n) a v k i u m j c := rfl
theorem aWK (h : Hp) (n : Nat) (a : Int) (v : Value) (k i : Int) (c : List Value) : G.aN (T54 h) (n + 1) 3 (aD.i a (aD.v v (aD.i k (aD.i i (aD.l c aD.n))))) = aKV h (G.aN (T54 h) n) a v k i c := rfl
theorem aWL (h : Hp) (n : Nat) (a : Int) : G.aN (T54 h) (n + 1) 4 (aD.i a aD.n) = some (.int .i64 a) := rfl
theorem PS {h : Hp} {vc : Value} {cs : List Int} (sc : lV h 1 vc (cs.map cZ)) (hb : ∀ n ∈ cs, 0 ≤ n ∧ n ≤ 100) (t : List Value) {u : Value} {ks : List Int} (su : bI.Rows h 1 u (ks.map cZ)) (hk : ∀ x ∈ ks, ∃ k : Nat, x = (k : Int) ∧ k < cs.length) (hl : ks.length ≤ 4) (v : Value) (np i : Int) :
  ∀ (m j n : Nat) (acc : Int), j + m = ks.length → 0 ≤ acc → acc ≤ 100000 + 100 * j → G.aN (T54 h) (n + m + 1) 2 (aD.i acc (aD.v v (aD.i np (aD.i i (aD.v u (aD.i (ks.length : Int) (aD.i (j : Int) (aD.l (vc :: t) aD.n)))))))) = G.aN (T54 h) n 3 (aD.i (acc + kM cs (ks.drop j)) (aD.v v (aD.i np (aD.i i (aD.l (vc :: t) aD.n)))))
 | 0, j, n, acc, hj, h0, h1 => by
  rw [Nat.add_zero, aN0]
  unfold aEG
  rw [aQ, aW, aH, if_neg (by simp; omega), List.drop_of_length_le (by omega), show kM cs [] = 0 from rfl, Int.add_zero]
 | m + 1, j, n, acc, hj, h0, h1 => by
  have hj' : j < ks.length := by omega
  obtain ⟨q, hq, aq, _⟩ := su.at (i := j) (r := cZ ks[j]) (by rw [List.getElem?_map, List.getElem?_eq_getElem hj']; rfl)
  obtain ⟨k, ek, hkl⟩ := hk _ (List.getElem_mem hj')
  obtain ⟨p, hp, ap, _⟩ := sc.rows.at (i := k) (r := cZ cs[k]) (by rw [List.getElem?_map, List.getElem?_eq_getElem hkl]; rfl)
  have cb := hb _ (List.getElem_mem hkl)
  rw [show n + (m + 1) + 1 = (n + m + 1) + 1 from rfl, aN0]
  unfold aEG
  rw [aQ, aW, aH, if_pos (by simp; omega), hq, aq.j6 (x := .int .i64 ks[j]) rfl, aI, oP _ _ 0 vc rfl, ek, hp, ap.j6 (x := .int .i64 cs[k]) rfl, aI, show Int.add acc cs[k] = acc + cs[k] from rfl, wrap64_in _ (by omega) (by omega), show Int.add (j : Int) (Int.ofNat 1) = ((j + 1 : Nat) : Int) from rfl, wrap64_in _ (by omega) (by omega),
   PS sc hb t su hk hl v np i m (j + 1) n (acc + cs[k]) (by omega) (by omega) (by omega), List.drop_eq_getElem_cons hj']
  rw [show kM cs (ks[j] :: ks.drop (j + 1)) = cs.getD (ks[j]).toNat 0 + kM cs (ks.drop (j + 1)) from rfl, ek, Int.toNat_natCast, List.getD_eq_getElem?_getD, List.getElem?_eq_getElem hkl, Option.getD_some, Int.add_assoc]
theorem bH9 (c : Nat × Nat) (k : List Value → Option Value) : (bU (Nat.beq (Q6 (iG c)) 2) (VO 0 (iG c) [(Value.int .i64 (Int.ofNat 0)), (Value.int .i64 (Int.ofNat 0))] k) none) = k (iG c) := rfl
theorem aRU {ρ : Type} (l : List Value) (f : List Value → Option ρ) : aQE (.agg (Array.mk l)) f = f l := rfl
theorem aT0 (c : Nat × Nat) (k : List Value → Option Value) : (zJ (iG c) 0 fun d5 => xL d5 2 k) = k (iG c) := rfl
def QZ (s : Rm) (l : List (Nat × Nat)) : Prop := l.length ≤ 10 ∧ ∀ c ∈ l, c.1 < s.bP.length ∧ c.2 < s.dR.length
theorem LC {h : Hp} {s : Rm} (F : nI s) {vc vo vf vp : Value} (sc : lV h 1 vc (s.costs.map cZ)) {mb : Nat} {hb : Hp} (M : WT hb h mb s every) {v : Value} {l : List (Nat × Nat)} (sl : bI.Rows h 2 v (l.map iG)) (hl : QZ s l) : ∀ (m k n : Nat) (acc : Int), k + m = l.length → 20 * m + 5 ≤ n → 0 ≤ acc → acc ≤ 1000 * k →
  G.aN (T54 h) n 1 (aD.i acc (aD.v v (aD.i (l.length : Int) (aD.i (k : Int) (aD.l [vc, vo, vf, vp, .map (some mb)] aD.n))))) = some (.int .i64 (acc + iL s (l.drop k)))
 | 0, k, n', acc, hk, hn, h0, h1 => by
  obtain ⟨n, rfl⟩ : ∃ n, n' = n + 2 := ⟨n' - 2, by omega⟩
  rw [aNZ]
  unfold aEH
  rw [aQ, aW, aH, if_neg (by simp; omega), List.drop_of_length_le (by omega), aWL, show iL s [] = 0 from rfl, Int.add_zero]
 | m + 1, k, n', acc, hk, hn, h0, h1 => by
  obtain ⟨n, rfl⟩ : ∃ n, n' = n + 1 := ⟨n' - 1, by omega⟩
  have hk' : k < l.length := by omega
  have l10 := hl.1
  obtain ⟨q, hq, aq, hz⟩ := sl.at (i := k) (r := iG l[k]) (by rw [List.getElem?_map, List.getElem?_eq_getElem hk']; rfl)
  obtain ⟨i1, i2⟩ := hl.2 _ (List.getElem_mem hk')
  obtain ⟨u, hu, au⟩ := M.get (a := (l[k]).1) (b := (l[k]).2) trivial (List.getElem?_eq_getElem i1) (List.getElem?_eq_getElem i2)
  rw [← WS (s := s) (c := l[k]) (List.getElem?_eq_getElem i1) (List.getElem?_eq_getElem i2)] at au
  obtain ⟨k1, k2⟩ := aC2 F i1 i2
  have cb := DR F.cs (IY s l[k])
  have cb4 : 0 ≤ kM s.costs (IY s l[k]) ∧ kM s.costs (IY s l[k]) ≤ 400 := by omega
  rw [aNZ]
  unfold aEH
  rw [aQ, aW, aH, if_pos (by simp; omega), hq, aq.eX hz, aRU, bH9, oP _ _ 4 (.map (some mb)) rfl, aT0, ZK, hu, aM, au.rows.len, List.length_map]
  have := PS sc F.cs [vo, vf, vp, .map (some mb)] au.rows k2 k1 v (l.length : Int) (k : Int) (IY s l[k]).length 0 (n - (IY s l[k]).length - 1) acc (by omega) h0 (by omega)
  rw [show n - (IY s l[k]).length - 1 + (IY s l[k]).length + 1 = n by omega, List.drop_zero] at this
  rw [show (Int.ofNat 0) = ((0 : Nat) : Int) from rfl, this]
  obtain ⟨n2, hn2⟩ : ∃ n2, n - (IY s l[k]).length - 1 = n2 + 1 := ⟨n - (IY s l[k]).length - 2, by omega⟩
  rw [hn2, aWK]
  unfold aKV
  rw [show Int.add (k : Int) (Int.ofNat 1) = ((k + 1 : Nat) : Int) from rfl, wrap64_in _ (by omega) (by omega), LC F sc M sl hl m (k + 1) n2 (acc + kM s.costs (IY s l[k])) (by omega) (by omega) (by omega) (by omega), List.drop_eq_getElem_cons hk', show iL s (l[k] :: l.drop (k + 1)) = kM s.costs (IY s l[k]) + iL s (l.drop (k + 1)) from rfl, Int.add_assoc]
theorem zF {h : Hp} {s : Rm} (F : nI s) {lo : Nat} {lk : List Value} (V : GD lo h s lk) {v : Value} {l : List (Nat × Nat)} (sl : bI.Rows h 2 v (l.map iG)) (hl : QZ s l) : F54 [.agg (Array.mk lk), v] h = some (.int .i64 (iL s l)) := by
 obtain ⟨r, mb, hb, rfl, A, M, _⟩ := V
 obtain ⟨vc, vo, vf, vp, rfl, sc, _⟩ := A
 show plainO (aKW h (G.aN (T54 h) 999999) (.agg (Array.mk (dO vc vo vf vp ++ [.map (some mb)]))) v) = _
 unfold aKW
 have l10 := hl.1
 rw [fF, kI, sl.len, List.length_map, show (Int.ofNat 0) = (0 : Int) from rfl]
 have := LC F (vo := vo) (vf := vf) (vp := vp) sc M sl hl l.length 0 999999 0 (by omega) (by omega) (by omega) (by omega)
 rw [List.drop_zero, Int.zero_add] at this
 exact congrArg plainO this
end Go.Proofs.Ytdpicdnpiihaaaa.K.L
