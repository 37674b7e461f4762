/- Contracts of told functions: costs, Cost. -/
import Derived.Test.YtdpicdnpiihaaaaAsS10
open Go Go.bG
set_option maxRecDepth 100000
set_option linter.unusedVariables false
namespace Go.Proofs.Ytdpicdnpiihaaaa.K.L
def fG (c : Nat × Nat) : List Value := [.int .i64 (c.1 : Int), .int .i64 (c.2 : Int)]
theorem OP (c : Nat × Nat) : Value.agg (Array.mk (fG c)) = pQ c.1 c.2 := rfl
def zG (s : Rm) (c : Nat × Nat) : List Int := gF 0 ((s.bA[c.1]?.map Lk.lk).getD []) ((s.bN[c.2]?.map Lk.lk).getD [])
theorem BG {s : Rm} {c : Nat × Nat} {f q : Lk} (hf : s.bA[c.1]? = some f) (hq : s.bN[c.2]? = some q) : zG s c = gF 0 f.lk q.lk := by
 unfold zG; rw [hf, hq]; rfl
def kR (cs : List Int) : List Int → Int
 | [] => 0
 | k :: l => cs.getD k.toNat 0 + kR cs l
def j5 (s : Rm) : List (Nat × Nat) → Int
 | [] => 0
 | c :: l => kR s.costs (zG s c) + j5 s l
theorem CR {cs : List Int} (hb : ∀ n ∈ cs, 0 ≤ n ∧ n ≤ 100) : ∀ ks : List Int, 0 ≤ kR cs ks ∧ kR cs ks ≤ 100 * ks.length
 | [] => ⟨Int.le_refl 0, Int.le_refl 0⟩
 | k :: l => by
  obtain ⟨h1, h2⟩ := CR hb l
  have : 0 ≤ cs.getD k.toNat 0 ∧ cs.getD k.toNat 0 ≤ 100 := by
   rw [List.getD_eq_getElem?_getD]
   cases e : cs[k.toNat]? with
   | none => simp
   | some x => simpa using hb x (List.mem_of_getElem? e)
  unfold kR
  simp only [List.length_cons]
  omega
theorem aBS {s : Rm} (F : qE s) {c : Nat × Nat} (h1 : c.1 < s.bA.length) (h2 : c.2 < s.bN.length) : (zG s c).length ≤ 4 ∧ ∀ x ∈ zG s c, ∃ k : Nat, x = (k : Int) ∧ k < s.costs.length := by
 rw [BG (List.getElem?_eq_getElem h1) (List.getElem?_eq_getElem h2)]
 have l2 := (F.ps _ (List.getElem_mem h2)).1
 have nc := F.nc
 have := OQ (s.bA[c.1]).lk (s.bN[c.2]).lk 0
 refine ⟨by omega, fun x hx => ?_⟩
 obtain ⟨k, e, _, h⟩ := CS _ _ _ x hx
 exact ⟨k, e, by omega⟩
theorem aMC (h : Hp) (n : Nat) (a : Int) (v : Value) (k i : Int) (c : List Value) : G.aK (T54 h) (n + 1) 1 (aC.i a (aC.v v (aC.i k (aC.i i (aC.l c aC.n))))) = aC5 h (G.aK (T54 h) n) a v k i c := rfl
theorem aMD (h : Hp) (n : Nat) (a : Int) (v : Value) (k i : Int) (u : Value) (m j : Int) (c : List Value) : G.aK (T54 h) (n + 1) 2 (aC.i a (aC.v v (aC.i k (aC.i i (aC.v u (aC.i m (aC.i j (aC.l c aC.n)))))))) = aC4 h (G.aK (T54 h) n) a v k i u m j c := rfl
theorem aUQ (h : Hp) (n : Nat) (a : Int) (v : Value) (k i : Int) (c : List Value) : G.aK (T54 h) (n + 1) 3 (aC.i a (aC.v v (aC.i k (aC.i i (aC.l c aC.n))))) = aJF h (G.aK (T54 h) n) a v k i c := rfl
theorem aUR (h : Hp) (n : Nat) (a : Int) : G.aK (T54 h) (n + 1) 4 (aC.i a aC.n) = some (.int .i64 a) := rfl
theorem OT {h : Hp} {vc : Value} {cs : List Int} (sc : lF h 1 vc (cs.map dD)) (hb : ∀ n ∈ cs, 0 ≤ n ∧ n ≤ 100) (t : List Value) {u : Value} {ks : List Int} (su : bG.Rows h 1 u (ks.map dD)) (hk : ∀ x ∈ ks, ∃ k : Nat, x = (k : Int) ∧ k < cs.length) (hl : ks.length ≤ 4) (v : Value) (np i : Int) :
  ∀ (m j n : Nat) (acc : Int), j + m = ks.length → 0 ≤ acc → acc ≤ 100000 + 100 * j → G.aK (T54 h) (n + m + 1) 2 (aC.i acc (aC.v v (aC.i np (aC.i i (aC.v u (aC.i (ks.length : Int) (aC.i (j : Int) (aC.l (vc :: t) aC.n)))))))) = G.aK (T54 h) n 3 (aC.i (acc + kR cs (ks.drop j)) (aC.v v (aC.i np (aC.i i (aC.l (vc :: t) aC.n)))))
 | 0, j, n, acc, hj, h0, h1 => by
  rw [Nat.add_zero, aMD]
  unfold aC4
  rw [aM, aT, aG, if_neg (by simp; omega), List.drop_of_length_le (by omega), show kR cs [] = 0 from rfl, Int.add_zero]
 | m + 1, j, n, acc, hj, h0, h1 => by
  have hj' : j < ks.length := by omega
  obtain ⟨q, hq, aq, _⟩ := su.at (i := j) (r := dD ks[j]) (by rw [List.getElem?_map, List.getElem?_eq_getElem hj']; rfl)
  obtain ⟨k, ek, hkl⟩ := hk _ (List.getElem_mem hj')
  obtain ⟨p, hp, ap, _⟩ := sc.rows.at (i := k) (r := dD cs[k]) (by rw [List.getElem?_map, List.getElem?_eq_getElem hkl]; rfl)
  have cb := hb _ (List.getElem_mem hkl)
  rw [show n + (m + 1) + 1 = (n + m + 1) + 1 from rfl, aMD]
  unfold aC4
  rw [aM, aT, aG, if_pos (by simp; omega), hq, aq.jS (x := .int .i64 ks[j]) rfl, aH, nU _ _ 0 vc rfl, ek, hp, ap.jS (x := .int .i64 cs[k]) rfl, aH, show Int.add acc cs[k] = acc + cs[k] from rfl, wrap64_in _ (by omega) (by omega), show Int.add (j : Int) (Int.ofNat 1) = ((j + 1 : Nat) : Int) from rfl, wrap64_in _ (by omega) (by omega),
   OT sc hb t su hk hl v np i m (j + 1) n (acc + cs[k]) (by omega) (by omega) (by omega), List.drop_eq_getElem_cons hj']
  rw [show kR cs (ks[j] :: ks.drop (j + 1)) = cs.getD (ks[j]).toNat 0 + kR cs (ks.drop (j + 1)) from rfl, ek, Int.toNat_natCast, List.getD_eq_getElem?_getD, List.getElem?_eq_getElem hkl, Option.getD_some, Int.add_assoc]
theorem bFC (c : Nat × Nat) (k : List Value → Option Value) : (bY (Nat.beq (PP (fG c)) 2) (UF 0 (fG c) [(Value.int .i64 (Int.ofNat 0)), (Value.int .i64 (Int.ofNat 0))] k) none) = k (fG c) := rfl
theorem aP1 {ρ : Type} (l : List Value) (f : List Value → Option ρ) : aOM (.agg (Array.mk l)) f = f l := rfl
theorem aR8 (c : Nat × Nat) (k : List Value → Option Value) : (yQ (fG c) 0 fun d5 => wU d5 2 k) = k (fG c) := rfl
def VG (s : Rm) (l : List (Nat × Nat)) : Prop := l.length ≤ 10 ∧ ∀ c ∈ l, c.1 < s.bA.length ∧ c.2 < s.bN.length
theorem KG {h : Hp} {s : Rm} (F : qE s) {vc vo vf vp : Value} (sc : lF h 1 vc (s.costs.map dD)) {mb : Nat} {hb : Hp} (M : PX hb h mb s every) {v : Value} {l : List (Nat × Nat)} (sl : bG.Rows h 2 v (l.map fG)) (hl : VG s l) : ∀ (m k n : Nat) (acc : Int), k + m = l.length → 20 * m + 5 ≤ n → 0 ≤ acc → acc ≤ 1000 * k →
  G.aK (T54 h) n 1 (aC.i acc (aC.v v (aC.i (l.length : Int) (aC.i (k : Int) (aC.l [vc, vo, vf, vp, .map (some mb)] aC.n))))) = some (.int .i64 (acc + j5 s (l.drop k)))
 | 0, k, n', acc, hk, hn, h0, h1 => by
  obtain ⟨n, rfl⟩ : ∃ n, n' = n + 2 := ⟨n' - 2, by omega⟩
  rw [aMC]
  unfold aC5
  rw [aM, aT, aG, if_neg (by simp; omega), List.drop_of_length_le (by omega), aUR, show j5 s [] = 0 from rfl, Int.add_zero]
 | m + 1, k, n', acc, hk, hn, h0, h1 => by
  obtain ⟨n, rfl⟩ : ∃ n, n' = n + 1 := ⟨n' - 1, by omega⟩
  have hk' : k < l.length := by omega
  have l10 := hl.1
  obtain ⟨q, hq, aq, hz⟩ := sl.at (i := k) (r := fG l[k]) (by rw [List.getElem?_map, List.getElem?_eq_getElem hk']; rfl)
  obtain ⟨i1, i2⟩ := hl.2 _ (List.getElem_mem hk')
  obtain ⟨u, hu, au⟩ := M.get (a := (l[k]).1) (b := (l[k]).2) trivial (List.getElem?_eq_getElem i1) (List.getElem?_eq_getElem i2)
  rw [← BG (s := s) (c := l[k]) (List.getElem?_eq_getElem i1) (List.getElem?_eq_getElem i2)] at au
  obtain ⟨k1, k2⟩ := aBS F i1 i2
  have cb := CR F.cs (zG s l[k])
  have cb4 : 0 ≤ kR s.costs (zG s l[k]) ∧ kR s.costs (zG s l[k]) ≤ 400 := by omega
  rw [aMC]
  unfold aC5
  rw [aM, aT, aG, if_pos (by simp; omega), hq, aq.eU hz, aP1, bFC, nU _ _ 4 (.map (some mb)) rfl, aR8, OP, hu, aJ, au.rows.len, List.length_map]
  have := OT sc F.cs [vo, vf, vp, .map (some mb)] au.rows k2 k1 v (l.length : Int) (k : Int) (zG s l[k]).length 0 (n - (zG s l[k]).length - 1) acc (by omega) h0 (by omega)
  rw [show n - (zG s l[k]).length - 1 + (zG s l[k]).length + 1 = n by omega, List.drop_zero] at this
  rw [show (Int.ofNat 0) = ((0 : Nat) : Int) from rfl, this]
  obtain ⟨n2, hn2⟩ : ∃ n2, n - (zG s l[k]).length - 1 = n2 + 1 := ⟨n - (zG s l[k]).length - 2, by omega⟩
  rw [hn2, aUQ]
  unfold aJF
  rw [show Int.add (k : Int) (Int.ofNat 1) = ((k + 1 : Nat) : Int) from rfl, wrap64_in _ (by omega) (by omega), KG F sc M sl hl m (k + 1) n2 (acc + kR s.costs (zG s l[k])) (by omega) (by omega) (by omega) (by omega), List.drop_eq_getElem_cons hk', show j5 s (l[k] :: l.drop (k + 1)) = kR s.costs (zG s l[k]) + j5 s (l.drop (k + 1)) from rfl, Int.add_assoc]
theorem yM {h : Hp} {s : Rm} (F : qE s) {lo : Nat} {lk : List Value} (V : E9 lo h s lk) {v : Value} {l : List (Nat × Nat)} (sl : bG.Rows h 2 v (l.map fG)) (hl : VG s l) : F54 [.agg (Array.mk lk), v] h = some (.int .i64 (j5 s l)) := by
 obtain ⟨r, mb, hb, rfl, A, M, _⟩ := V
 obtain ⟨vc, vo, vf, vp, rfl, sc, _⟩ := A
 show plainO (aJG h (G.aK (T54 h) 999999) (.agg (Array.mk (eZ vc vo vf vp ++ [.map (some mb)]))) v) = _
 unfold aJG
 have l10 := hl.1
 rw [fA, jT, sl.len, List.length_map, show (Int.ofNat 0) = (0 : Int) from rfl]
 have := KG F (vo := vo) (vf := vf) (vp := vp) sc M sl hl l.length 0 999999 0 (by omega) (by omega) (by omega) (by omega)
 rw [List.drop_zero, Int.zero_add] at this
 exact congrArg plainO this
theorem bFD (h : Hp) (a b : Int) : bB env h 79 1 (List.toArray [(0, .agg (Array.mk [.int .i64 a, .int .i64 b]))]) = some (.slice (some ⟨h.next, 0, none⟩) 1 1, h.add (.cells [.int .i64 a, .int .i64 b] 76 none)) := by kernel_rfl
theorem aP2 (h : Hp) (c : Nat × Nat) : bG.Rows (h.add (.cells (fG c) 76 none)) 2 (.slice (some ⟨h.next, 0, none⟩) 1 1) ([c].map fG) := by
 refine lF.rows (.inr ⟨h.next, _, 76, none, rfl, vL _ _, .inr rfl, fun i r hi => ?_⟩)
 cases i with
 | zero =>
  simp at hi; subst hi
  exact ⟨rfl, by simp [fG], fun k x hx => by simpa using hx⟩
 | succ i => simp at hi
def BH (s : Rm) (x y : Int) : Int × List Int × Int := if JJ s y ≠ 0 then (0, [], JJ s y) else if !(pK 0 ((s.bA.length : Int) - 1) x) then (0, [], 4) else (kR s.costs (zG s (x.toNat, y.toNat)), zG s (x.toNat, y.toNat), 0)
theorem aP3 {s : Rm} {y : Int} (h : JJ s y = 0) : qE s ∧ 0 ≤ y ∧ y ≤ (s.bN.length : Int) - 1 ∧ (gI s).2.2 = 0 := by
 unfold JJ at h
 by_cases c : (gI s).2.2 = 0
 case neg => rw [if_pos c] at h; exact absurd h c
 rw [if_neg (by simpa using c)] at h
 cases x : pK 0 ((s.bN.length : Int) - 1) y with
 | false => rw [x] at h; simp at h
 | true => exact ⟨yL c, (kI.1 x).1, (kI.1 x).2, c⟩
theorem SF {h : Hp} (w : Wf h) {s : Rm} {r : List Value} (a : D7 h s r) (x y : Int) : ∃ h' vk, F18 [.agg (Array.mk r), .int .i64 x, .int .i64 y] h = some (.tuple (List.toArray [.int .i64 (BH s x y).1, vk, .int .i64 (BH s x y).2.2]), h') ∧ aS h h' ∧ lF h' 1 vk ((BH s x y).2.1.map dD) := by
 have start : F18 [.agg (Array.mk r), .int .i64 x, .int .i64 y] h = aJI (aK T18 999999) (.agg (Array.mk r)) x y h := rfl
 rw [start]
 unfold aJI
 have hr4 := a.len
 rw [fA, bK]
 have g0 : aS h (h.add (.cells r 25 none)) := aS.add w _
 have a0 : At (h.add (.cells r 25 none)) (.pointer (some ⟨h.next, 0, none⟩)) r := At.new
 generalize h.add (.cells r 25 none) = h0 at g0 a0 ⊢
 obtain ⟨h2', lk, e2, gg, hl5, h1c, hlk⟩ := aFO (h := dI h0) (gJ g0.wf) (a.sub g0.sub) y
 obtain ⟨h2, e3, g2, o2⟩ := qM g0.wf e2 gg
 rw [a0.eU (z := 4) hr4, e3, aB, bM (v := .agg (Array.mk lk)) rfl, bM (v := .int .i64 (JJ s y)) rfl, aH]
 obtain ⟨h4, p4, g4, a4, hk⟩ := kJ (ρ := Value × Hp) (z := 5) g2.wf 71 (c := zeroV) (l := lk) rfl hl5 h1c (fun _ _ => none)
 rw [show [(Value.slice none 0 0), (Value.slice none 0 0), (Value.slice none 0 0), (Value.slice none 0 0), (Value.map none)] = zeroV from rfl, hk, aQ, bT, aG]
 have g4h : aS h h4 := (g0.trans g2).trans g4
 unfold BH
 by_cases e0 : JJ s y = 0
 case neg =>
  rw [if_pos (by simpa using e0), if_pos e0]
  exact ⟨h4, _, rfl, g4h, .inl ⟨rfl, rfl⟩⟩
 obtain ⟨F, y0, y1, _⟩ := aP3 e0
 have nf := F.nf
 obtain ⟨V2, T2⟩ := hlk e0
 have V4 := (Z6 (o2 (V2.loud _)) V2).sub g4.sub
 obtain ⟨q4, hq4, aq4⟩ := a4.part 0 4 (by rw [hl5]; decide)
 rw [List.drop_zero, T2] at aq4
 obtain ⟨vc, vo, vf, vp, rfl, sc, so, sf, sp, af, ap⟩ := a
 rw [if_neg (by simpa using e0), if_neg (by simpa using e0), hq4, aq4.qL 2 (x := vf) rfl, sf.rows.len, List.length_map, VF, aB, OO _ (by omega), aJ, aB, aU, aQ, aG]
 have g5 := aS.add g4.wf (.cells [.int .i64 x] 3 none)
 have a5 := a4.sub g5.sub
 have V5 := V4.sub g5.sub
 generalize h4.add (.cells [.int .i64 x] 3 none) = h5 at g5 a5 V5 ⊢
 cases c : pK 0 ((s.bA.length : Int) - 1) x with
 | false =>
  rw [if_pos (by rfl), if_pos (by rfl)]
  exact ⟨h5, _, rfl, g4h.trans g5, .inl ⟨rfl, rfl⟩⟩
 | true =>
 obtain ⟨x0, x1⟩ := kI.1 c
 obtain ⟨i, rfl⟩ : ∃ i : Nat, x = (i : Int) := ⟨x.toNat, by omega⟩
 obtain ⟨j, rfl⟩ : ∃ j : Nat, y = (j : Int) := ⟨y.toNat, by omega⟩
 rw [if_neg (by simp), if_neg (by simp), aUS, aJ, Int.toNat_natCast, Int.toNat_natCast]
 obtain ⟨h6, p6, g6, a6, hk6⟩ := kJ (ρ := Value × Hp) (z := 2) g5.wf 76 (c := [(Value.int .i64 (Int.ofNat 0)), (Value.int .i64 (Int.ofNat 0))]) (l := fG (i, j)) rfl rfl rfl (fun _ _ => none)
 rw [show pQ i j = .agg (Array.mk (fG (i, j))) from rfl, hk6]
 have V6 := V5.sub g6.sub
 have b5 := a5.sub g6.sub
 have hi : i < s.bA.length := by omega
 have hj : j < s.bN.length := by omega
 have g6h := (g4h.trans g5).trans g6
 obtain ⟨r', mb, hb, hlr, A6, M, hlo⟩ := V6
 have V6 : E9 h0.next h6 s lk := ⟨r', mb, hb, hlr, A6, M, hlo⟩
 have b6 : At (Hp.mk h6.next h6.next h6.aD) p4 lk := b5
 have c6 : At (Hp.mk h6.next h6.next h6.aD) p6 (fG (i, j)) := a6
 have b7 : At (Hp.mk (h6.next + 1) (h6.next + 1) h6.aD) p4 lk := b5
 have c7 : At (Hp.mk (h6.next + 1) (h6.next + 1) h6.aD) p6 (fG (i, j)) := a6
 have gx := aS.add g6.wf (.cells (fG (i, j)) 76 none)
 have V7 : E9 h0.next (Hp.mk (h6.next + 1) (h6.next + 1) (aW [(h6.next, .cells (fG (i, j)) 76 none)] h6.aD)) s lk := V6.sub fun i o e => gx.sub i o e
 have S7 : bG.Rows (Hp.mk (h6.next + 1) (h6.next + 1) (aW [(h6.next, .cells (fG (i, j)) 76 none)] h6.aD)) 2 (.slice (some ⟨h6.next, 0, none⟩) 1 1) ([(i, j)].map fG) := (aP2 h6 (i, j)).sub fun i o e => e
 have C7 := yM F V7 S7 ⟨by simp, fun c hc => by rw [List.mem_singleton] at hc; subst hc; exact ⟨hi, hj⟩⟩
 obtain ⟨u, hu, au⟩ := PX.get (h := Hp.mk (h6.next + 1) (h6.next + 1) h6.aD) (M.sub fun i o e => e) (a := i) (b := j) trivial (List.getElem?_eq_getElem hi) (List.getElem?_eq_getElem hj)
 rw [← BG (s := s) (c := (i, j)) (List.getElem?_eq_getElem hi) (List.getElem?_eq_getElem hj)] at au
 have l4 : lk[4]? = some (.map (some mb)) := by rw [hlr, List.getElem?_append_right (by rw [A6.len]; omega), A6.len]; rfl
 rw [b6.eU hl5, c6.eU (z := 2) rfl, show fG (i, j) = [.int .i64 (i : Int), .int .i64 (j : Int)] from rfl, bFD (Hp.mk h6.next h6.next T.nil), aB, show ((Hp.mk h6.next h6.next T.nil)).next = h6.next from rfl, aME]
 rw [show [.int .i64 (i : Int), .int .i64 (j : Int)] = fG (i, j) from rfl, C7, aJ, aB, aH, b7.qL 4 l4, c7.eU (z := 2) rfl, OP, hu, aJ]
 refine ⟨h6.add (.cells (fG (i, j)) 76 none), u, ?_, g6h.trans gx, ?_⟩
 ·rw [show j5 s [(i, j)] = kR s.costs (zG s (i, j)) + 0 from rfl, Int.add_zero]
  rfl
 ·exact (au.sl).sub fun i o e => gx.sub i o e
end Go.Proofs.Ytdpicdnpiihaaaa.K.L
