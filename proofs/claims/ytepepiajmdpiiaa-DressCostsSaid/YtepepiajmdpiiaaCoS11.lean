/- Contracts of told functions: costs, Cost. -/
import Derived.Test.YtepepiajmdpiiaaCoS10
open Go Go.Eng
set_option maxRecDepth 100000
set_option linter.unusedVariables false
namespace Go.Proofs.Ytepepiajmdpiiaa.K.L
def crow (c : Nat × Nat) : List Value := [.int .i64 (c.1 : Int), .int .i64 (c.2 : Int)]
theorem crow_key (c : Nat × Nat) : Value.agg (Array.mk (crow c)) = mkey c.1 c.2 := rfl
def kAt (s : Rm) (c : Nat × Nat) : List Int := kindsF 0 ((s.figs[c.1]?.map Lk.lk).getD []) ((s.pers[c.2]?.map Lk.lk).getD [])
theorem kAt_eq {s : Rm} {c : Nat × Nat} {f q : Lk} (hf : s.figs[c.1]? = some f) (hq : s.pers[c.2]? = some q) : kAt s c = kindsF 0 f.lk q.lk := by
  unfold kAt; rw [hf, hq]; rfl
def costOf (cs : List Int) : List Int → Int
  | [] => 0
  | k :: l => cs.getD k.toNat 0 + costOf cs l
def planC (s : Rm) : List (Nat × Nat) → Int
  | [] => 0
  | c :: l => costOf s.costs (kAt s c) + planC s l
theorem costOf_bd {cs : List Int} (hb : ∀ n ∈ cs, 0 ≤ n ∧ n ≤ 100) : ∀ ks : List Int, 0 ≤ costOf cs ks ∧ costOf cs ks ≤ 100 * ks.length
  | [] => ⟨Int.le_refl 0, Int.le_refl 0⟩
  | k :: l => by
    obtain ⟨h1, h2⟩ := costOf_bd hb l
    have : 0 ≤ cs.getD k.toNat 0 ∧ cs.getD k.toNat 0 ≤ 100 := by
      rw [List.getD_eq_getElem?_getD]
      cases e : cs[k.toNat]? with
      | none => simp
      | some x => simpa using hb x (List.mem_of_getElem? e)
    unfold costOf
    simp only [List.length_cons]
    omega
theorem kAt_ok {s : Rm} (F : Fine s) {c : Nat × Nat} (h1 : c.1 < s.figs.length) (h2 : c.2 < s.pers.length) : (kAt s c).length ≤ 4 ∧ ∀ x ∈ kAt s c, ∃ k : Nat, x = (k : Int) ∧ k < s.costs.length := by
  rw [kAt_eq (List.getElem?_eq_getElem h1) (List.getElem?_eq_getElem h2)]
  have l2 := (F.ps _ (List.getElem_mem h2)).1
  have nc := F.nc
  have := kindsF_len (s.figs[c.1]).lk (s.pers[c.2]).lk 0
  refine ⟨by omega, fun x hx => ?_⟩
  obtain ⟨k, e, _, h⟩ := kindsF_lt _ _ _ x hx
  exact ⟨k, e, by omega⟩
theorem st54_1 (h : Hp) (n : Nat) (a : Int) (v : Value) (k i : Int) (c : List Value) : G.rec' (T54 h) (n + 1) 1 (PAL.i a (PAL.v v (PAL.i k (PAL.i i (PAL.l c PAL.n))))) = P54x1 h (G.rec' (T54 h) n) a v k i c := rfl
theorem st54_2 (h : Hp) (n : Nat) (a : Int) (v : Value) (k i : Int) (u : Value) (m j : Int) (c : List Value) : G.rec' (T54 h) (n + 1) 2 (PAL.i a (PAL.v v (PAL.i k (PAL.i i (PAL.v u (PAL.i m (PAL.i j (PAL.l c PAL.n)))))))) = P54x2 h (G.rec' (T54 h) n) a v k i u m j c := rfl
theorem st54_3 (h : Hp) (n : Nat) (a : Int) (v : Value) (k i : Int) (c : List Value) : G.rec' (T54 h) (n + 1) 3 (PAL.i a (PAL.v v (PAL.i k (PAL.i i (PAL.l c PAL.n))))) = P54x3 h (G.rec' (T54 h) n) a v k i c := rfl
theorem st54_4 (h : Hp) (n : Nat) (a : Int) : G.rec' (T54 h) (n + 1) 4 (PAL.i a PAL.n) = some (.int .i64 a) := rfl
theorem costs54_in {h : Hp} {vc : Value} {cs : List Int} (sc : SlA h 1 vc (cs.map inRow)) (hb : ∀ n ∈ cs, 0 ≤ n ∧ n ≤ 100) (t : List Value) {u : Value} {ks : List Int} (su : Eng.Rows h 1 u (ks.map inRow)) (hk : ∀ x ∈ ks, ∃ k : Nat, x = (k : Int) ∧ k < cs.length) (hl : ks.length ≤ 4) (v : Value) (np i : Int) :
    ∀ (m j n : Nat) (acc : Int), j + m = ks.length → 0 ≤ acc → acc ≤ 100000 + 100 * j → G.rec' (T54 h) (n + m + 1) 2 (PAL.i acc (PAL.v v (PAL.i np (PAL.i i (PAL.v u (PAL.i (ks.length : Int) (PAL.i (j : Int) (PAL.l (vc :: t) PAL.n)))))))) = G.rec' (T54 h) n 3 (PAL.i (acc + costOf cs (ks.drop j)) (PAL.v v (PAL.i np (PAL.i i (PAL.l (vc :: t) PAL.n)))))
  | 0, j, n, acc, hj, h0, h1 => by
    rw [Nat.add_zero, st54_2]
    unfold P54x2
    rw [boolZ_eq, ltZ_dec, ifB_if, if_neg (by simp; omega), List.drop_of_length_le (by omega), show costOf cs [] = 0 from rfl, Int.add_zero]
  | m + 1, j, n, acc, hj, h0, h1 => by
    have hj' : j < ks.length := by omega
    obtain ⟨q, hq, aq, _⟩ := su.at (i := j) (r := inRow ks[j]) (by rw [List.getElem?_map, List.getElem?_eq_getElem hj']; rfl)
    obtain ⟨k, ek, hkl⟩ := hk _ (List.getElem_mem hj')
    obtain ⟨p, hp, ap, _⟩ := sc.rows.at (i := k) (r := inRow cs[k]) (by rw [List.getElem?_map, List.getElem?_eq_getElem hkl]; rfl)
    have cb := hb _ (List.getElem_mem hkl)
    rw [show n + (m + 1) + 1 = (n + m + 1) + 1 from rfl, st54_2]
    unfold P54x2
    rw [boolZ_eq, ltZ_dec, ifB_if, if_pos (by simp; omega), hq, aq.load1 (x := .int .i64 ks[j]) rfl, intK_int, nthR_get _ _ 0 vc rfl, ek, hp, ap.load1 (x := .int .i64 cs[k]) rfl, intK_int, show Int.add acc cs[k] = acc + cs[k] from rfl, wrap64_in _ (by omega) (by omega), show Int.add (j : Int) (Int.ofNat 1) = ((j + 1 : Nat) : Int) from rfl, wrap64_in _ (by omega) (by omega),
      costs54_in sc hb t su hk hl v np i m (j + 1) n (acc + cs[k]) (by omega) (by omega) (by omega), List.drop_eq_getElem_cons hj']
    rw [show costOf cs (ks[j] :: ks.drop (j + 1)) = cs.getD (ks[j]).toNat 0 + costOf cs (ks.drop (j + 1)) from rfl, ek, Int.toNat_natCast, List.getD_eq_getElem?_getD, List.getElem?_eq_getElem hkl, Option.getD_some, Int.add_assoc]
theorem cSeg (c : Nat × Nat) (k : List Value → Option Value) : (ifB (Nat.beq (lenR (crow c)) 2) (segR 0 (crow c) [(Value.int .i64 (Int.ofNat 0)), (Value.int .i64 (Int.ofNat 0))] k) none) = k (crow c) := rfl
theorem aggK_at {ρ : Type} (l : List Value) (f : List Value → Option ρ) : aggK (.agg (Array.mk l)) f = f l := rfl
theorem cDrop (c : Nat × Nat) (k : List Value → Option Value) : (dropR (crow c) 0 fun d5 => takeR d5 2 k) = k (crow c) := rfl
def InP (s : Rm) (l : List (Nat × Nat)) : Prop := l.length ≤ 10 ∧ ∀ c ∈ l, c.1 < s.figs.length ∧ c.2 < s.pers.length
theorem costs54_out {h : Hp} {s : Rm} (F : Fine s) {vc vo vf vp : Value} (sc : SlA h 1 vc (s.costs.map inRow)) {mb : Nat} {hb : Hp} (M : MpA hb h mb s every) {v : Value} {l : List (Nat × Nat)} (sl : Eng.Rows h 2 v (l.map crow)) (hl : InP s l) : ∀ (m k n : Nat) (acc : Int), k + m = l.length → 20 * m + 5 ≤ n → 0 ≤ acc → acc ≤ 1000 * k →
    G.rec' (T54 h) n 1 (PAL.i acc (PAL.v v (PAL.i (l.length : Int) (PAL.i (k : Int) (PAL.l [vc, vo, vf, vp, .map (some mb)] PAL.n))))) = some (.int .i64 (acc + planC s (l.drop k)))
  | 0, k, n', acc, hk, hn, h0, h1 => by
    obtain ⟨n, rfl⟩ : ∃ n, n' = n + 2 := ⟨n' - 2, by omega⟩
    rw [st54_1]
    unfold P54x1
    rw [boolZ_eq, ltZ_dec, ifB_if, if_neg (by simp; omega), List.drop_of_length_le (by omega), st54_4, show planC s [] = 0 from rfl, Int.add_zero]
  | m + 1, k, n', acc, hk, hn, h0, h1 => by
    obtain ⟨n, rfl⟩ : ∃ n, n' = n + 1 := ⟨n' - 1, by omega⟩
    have hk' : k < l.length := by omega
    have l10 := hl.1
    obtain ⟨q, hq, aq, hz⟩ := sl.at (i := k) (r := crow l[k]) (by rw [List.getElem?_map, List.getElem?_eq_getElem hk']; rfl)
    obtain ⟨i1, i2⟩ := hl.2 _ (List.getElem_mem hk')
    obtain ⟨u, hu, au⟩ := M.get (a := (l[k]).1) (b := (l[k]).2) trivial (List.getElem?_eq_getElem i1) (List.getElem?_eq_getElem i2)
    rw [← kAt_eq (s := s) (c := l[k]) (List.getElem?_eq_getElem i1) (List.getElem?_eq_getElem i2)] at au
    obtain ⟨k1, k2⟩ := kAt_ok F i1 i2
    have cb := costOf_bd F.cs (kAt s l[k])
    have cb4 : 0 ≤ costOf s.costs (kAt s l[k]) ∧ costOf s.costs (kAt s l[k]) ≤ 400 := by omega
    rw [st54_1]
    unfold P54x1
    rw [boolZ_eq, ltZ_dec, ifB_if, if_pos (by simp; omega), hq, aq.loadN hz, aggK_at, cSeg, nthR_get _ _ 4 (.map (some mb)) rfl, cDrop, crow_key, hu, optK_some', au.rows.len, List.length_map]
    have := costs54_in sc F.cs [vo, vf, vp, .map (some mb)] au.rows k2 k1 v (l.length : Int) (k : Int) (kAt s l[k]).length 0 (n - (kAt s l[k]).length - 1) acc (by omega) h0 (by omega)
    rw [show n - (kAt s l[k]).length - 1 + (kAt s l[k]).length + 1 = n by omega, List.drop_zero] at this
    rw [show (Int.ofNat 0) = ((0 : Nat) : Int) from rfl, this]
    obtain ⟨n2, hn2⟩ : ∃ n2, n - (kAt s l[k]).length - 1 = n2 + 1 := ⟨n - (kAt s l[k]).length - 2, by omega⟩
    rw [hn2, st54_3]
    unfold P54x3
    rw [show Int.add (k : Int) (Int.ofNat 1) = ((k + 1 : Nat) : Int) from rfl, wrap64_in _ (by omega) (by omega), costs54_out F sc M sl hl m (k + 1) n2 (acc + costOf s.costs (kAt s l[k])) (by omega) (by omega) (by omega) (by omega), List.drop_eq_getElem_cons hk', show planC s (l[k] :: l.drop (k + 1)) = costOf s.costs (kAt s l[k]) + planC s (l.drop (k + 1)) from rfl, Int.add_assoc]
theorem costs54_at {h : Hp} {s : Rm} (F : Fine s) {lo : Nat} {lk : List Value} (V : VwA lo h s lk) {v : Value} {l : List (Nat × Nat)} (sl : Eng.Rows h 2 v (l.map crow)) (hl : InP s l) : F54 [.agg (Array.mk lk), v] h = some (.int .i64 (planC s l)) := by
  obtain ⟨r, mb, hb, rfl, A, M, _⟩ := V
  obtain ⟨vc, vo, vf, vp, rfl, sc, _⟩ := A
  show plainO (P54x0 h (G.rec' (T54 h) 999999) (.agg (Array.mk (rmRow vc vo vf vp ++ [.map (some mb)]))) v) = _
  unfold P54x0
  have l10 := hl.1
  rw [rowCells, forceL_eq, sl.len, List.length_map, show (Int.ofNat 0) = (0 : Int) from rfl]
  have := costs54_out F (vo := vo) (vf := vf) (vp := vp) sc M sl hl l.length 0 999999 0 (by omega) (by omega) (by omega) (by omega)
  rw [List.drop_zero, Int.zero_add] at this
  exact congrArg plainO this
theorem oneC (h : Hp) (a b : Int) : buildSliceV env h 79 1 (List.toArray [(0, .agg (Array.mk [.int .i64 a, .int .i64 b]))]) = some (.slice (some ⟨h.next, 0, none⟩) 1 1, h.add (.cells [.int .i64 a, .int .i64 b] 76 none)) := by kernel_rfl
theorem oneC_sl (h : Hp) (c : Nat × Nat) : Eng.Rows (h.add (.cells (crow c) 76 none)) 2 (.slice (some ⟨h.next, 0, none⟩) 1 1) ([c].map crow) := by
  refine SlA.rows (.inr ⟨h.next, _, 76, none, rfl, add_get_new _ _, .inr rfl, fun i r hi => ?_⟩)
  cases i with
  | zero =>
    simp at hi; subst hi
    exact ⟨rfl, by simp [crow], fun k x hx => by simpa using hx⟩
  | succ i => simp at hi
def costE (s : Rm) (x y : Int) : Int × List Int × Int := if perE s y ≠ 0 then (0, [], perE s y) else if !(inB 0 ((s.figs.length : Int) - 1) x) then (0, [], 4) else (costOf s.costs (kAt s (x.toNat, y.toNat)), kAt s (x.toNat, y.toNat), 0)
theorem perE_ok {s : Rm} {y : Int} (h : perE s y = 0) : Fine s ∧ 0 ≤ y ∧ y ≤ (s.pers.length : Int) - 1 ∧ (checkR s).2.2 = 0 := by
  unfold perE at h
  by_cases c : (checkR s).2.2 = 0
  case neg => rw [if_pos c] at h; exact absurd h c
  rw [if_neg (by simpa using c)] at h
  cases x : inB 0 ((s.pers.length : Int) - 1) y with
  | false => rw [x] at h; simp at h
  | true => exact ⟨fine_of c, (inB_iff.1 x).1, (inB_iff.1 x).2, c⟩
theorem cost18_at {h : Hp} (w : Wf h) {s : Rm} {r : List Value} (a : RmA h s r) (x y : Int) : ∃ h' vk, F18 [.agg (Array.mk r), .int .i64 x, .int .i64 y] h = some (.tuple (List.toArray [.int .i64 (costE s x y).1, vk, .int .i64 (costE s x y).2.2]), h') ∧ Grew h h' ∧ SlA h' 1 vk ((costE s x y).2.1.map inRow) := by
  have start : F18 [.agg (Array.mk r), .int .i64 x, .int .i64 y] h = P18x0 (rec' T18 999999) (.agg (Array.mk r)) x y h := rfl
  rw [start]
  unfold P18x0
  have hr4 := a.len
  rw [rowCells, allocK_add]
  have g0 : Grew h (h.add (.cells r 25 none)) := Grew.add w _
  have a0 : At (h.add (.cells r 25 none)) (.pointer (some ⟨h.next, 0, none⟩)) r := At.new
  generalize h.add (.cells r 25 none) = h0 at g0 a0 ⊢
  obtain ⟨h2', lk, e2, gg, hl5, h1c, hlk⟩ := open52_at (h := shutH h0) (wfShut g0.wf) (a.sub g0.sub) y
  obtain ⟨h2, e3, g2, o2⟩ := callQ_any g0.wf e2 gg
  rw [a0.loadN (z := 4) hr4, e3, pairK_some', extK_at (v := .agg (Array.mk lk)) rfl, extK_at (v := .int .i64 (perE s y)) rfl, intK_int]
  obtain ⟨h4, p4, g4, a4, hk⟩ := alloc_store (ρ := Value × Hp) (z := 5) g2.wf 71 (c := zeroV) (l := lk) rfl hl5 h1c (fun _ _ => none)
  rw [show [(Value.slice none 0 0), (Value.slice none 0 0), (Value.slice none 0 0), (Value.slice none 0 0), (Value.map none)] = zeroV from rfl, hk, boolN_eq, eqZ_dec, ifB_if]
  have g4h : Grew h h4 := (g0.trans g2).trans g4
  unfold costE
  by_cases e0 : perE s y = 0
  case neg =>
    rw [if_pos (by simpa using e0), if_pos e0]
    exact ⟨h4, _, rfl, g4h, .inl ⟨rfl, rfl⟩⟩
  obtain ⟨F, y0, y1, _⟩ := perE_ok e0
  have nf := F.nf
  obtain ⟨V2, T2⟩ := hlk e0
  have V4 := (extV (o2 (V2.loud _)) V2).sub g4.sub
  obtain ⟨q4, hq4, aq4⟩ := a4.part 0 4 (by rw [hl5]; decide)
  rw [List.drop_zero, T2] at aq4
  obtain ⟨vc, vo, vf, vp, rfl, sc, so, sf, sp, af, ap⟩ := a
  rw [if_neg (by simpa using e0), if_neg (by simpa using e0), hq4, aq4.fld 2 (x := vf) rfl, sf.rows.len, List.length_map, oneI, pairK_some', index53_at _ (by omega), optK_some', pairK_some', boolK_bool, boolN_eq, ifB_if]
  have g5 := Grew.add g4.wf (.cells [.int .i64 x] 3 none)
  have a5 := a4.sub g5.sub
  have V5 := V4.sub g5.sub
  generalize h4.add (.cells [.int .i64 x] 3 none) = h5 at g5 a5 V5 ⊢
  cases c : inB 0 ((s.figs.length : Int) - 1) x with
  | false =>
    rw [if_pos (by rfl), if_pos (by rfl)]
    exact ⟨h5, _, rfl, g4h.trans g5, .inl ⟨rfl, rfl⟩⟩
  | true =>
  obtain ⟨x0, x1⟩ := inB_iff.1 c
  obtain ⟨i, rfl⟩ : ∃ i : Nat, x = (i : Int) := ⟨x.toNat, by omega⟩
  obtain ⟨j, rfl⟩ : ∃ j : Nat, y = (j : Int) := ⟨y.toNat, by omega⟩
  rw [if_neg (by simp), if_neg (by simp), bkey, optK_some', Int.toNat_natCast, Int.toNat_natCast]
  obtain ⟨h6, p6, g6, a6, hk6⟩ := alloc_store (ρ := Value × Hp) (z := 2) g5.wf 76 (c := [(Value.int .i64 (Int.ofNat 0)), (Value.int .i64 (Int.ofNat 0))]) (l := crow (i, j)) rfl rfl rfl (fun _ _ => none)
  rw [show mkey i j = .agg (Array.mk (crow (i, j))) from rfl, hk6]
  have V6 := V5.sub g6.sub
  have b5 := a5.sub g6.sub
  have hi : i < s.figs.length := by omega
  have hj : j < s.pers.length := by omega
  have g6h := (g4h.trans g5).trans g6
  obtain ⟨r', mb, hb, hlr, A6, M, hlo⟩ := V6
  have V6 : VwA h0.next h6 s lk := ⟨r', mb, hb, hlr, A6, M, hlo⟩
  have b6 : At (Hp.mk h6.next h6.next h6.objs) p4 lk := b5
  have c6 : At (Hp.mk h6.next h6.next h6.objs) p6 (crow (i, j)) := a6
  have b7 : At (Hp.mk (h6.next + 1) (h6.next + 1) h6.objs) p4 lk := b5
  have c7 : At (Hp.mk (h6.next + 1) (h6.next + 1) h6.objs) p6 (crow (i, j)) := a6
  have gx := Grew.add g6.wf (.cells (crow (i, j)) 76 none)
  have V7 : VwA h0.next (Hp.mk (h6.next + 1) (h6.next + 1) (addAll [(h6.next, .cells (crow (i, j)) 76 none)] h6.objs)) s lk := V6.sub fun i o e => gx.sub i o e
  have S7 : Eng.Rows (Hp.mk (h6.next + 1) (h6.next + 1) (addAll [(h6.next, .cells (crow (i, j)) 76 none)] h6.objs)) 2 (.slice (some ⟨h6.next, 0, none⟩) 1 1) ([(i, j)].map crow) := (oneC_sl h6 (i, j)).sub fun i o e => e
  have C7 := costs54_at F V7 S7 ⟨by simp, fun c hc => by rw [List.mem_singleton] at hc; subst hc; exact ⟨hi, hj⟩⟩
  obtain ⟨u, hu, au⟩ := MpA.get (h := Hp.mk (h6.next + 1) (h6.next + 1) h6.objs) (M.sub fun i o e => e) (a := i) (b := j) trivial (List.getElem?_eq_getElem hi) (List.getElem?_eq_getElem hj)
  rw [← kAt_eq (s := s) (c := (i, j)) (List.getElem?_eq_getElem hi) (List.getElem?_eq_getElem hj)] at au
  have l4 : lk[4]? = some (.map (some mb)) := by rw [hlr, List.getElem?_append_right (by rw [A6.len]; omega), A6.len]; rfl
  rw [b6.loadN hl5, c6.loadN (z := 2) rfl, show crow (i, j) = [.int .i64 (i : Int), .int .i64 (j : Int)] from rfl, oneC (Hp.mk h6.next h6.next T.nil), pairK_some', show ((Hp.mk h6.next h6.next T.nil)).next = h6.next from rfl, leftK_sl]
  rw [show [.int .i64 (i : Int), .int .i64 (j : Int)] = crow (i, j) from rfl, C7, optK_some', pairK_some', intK_int, b7.fld 4 l4, c7.loadN (z := 2) rfl, crow_key, hu, optK_some']
  refine ⟨h6.add (.cells (crow (i, j)) 76 none), u, ?_, g6h.trans gx, ?_⟩
  · rw [show planC s [(i, j)] = costOf s.costs (kAt s (i, j)) + 0 from rfl, Int.add_zero]
    rfl
  · exact (au.sl).sub fun i o e => gx.sub i o e
end Go.Proofs.Ytepepiajmdpiiaa.K.L
