/- Contracts of told functions: two looks at once; the reference's Kinds, One, Cost. -/
import Derived.Test.YtepepiajmdpiiaaPlS13
open Go Go.Eng
set_option maxRecDepth 100000
set_option linter.unusedVariables false
namespace Go.Proofs.Ytepepiajmdpiiaa.K.L
theorem TZ (h : Hp) {b : Nat} {c l : List Value} {e : TypeId} {s : Option Nat} (hg : h.get b = some (.cells c e s)) (hc : c.length = 3) (hl : l.length = 3) (hx : l.all oneCell = true) (hro : h.ro ≤ b) : mV env h 59 (.pointer (some ⟨b, 0, none⟩)) (.agg (Array.mk l)) = some (h.upd b (.cells l e s)) := by
 unfold mV
 rw [show addrOf (.pointer (some ⟨b, 0, none⟩)) = some ⟨b, 0, none⟩ from rfl]
 simp only [Option.bind_some, aJU]
 show ok? (Nat.beq l.length 3) (putCells h ⟨b, 0, none⟩ l) = _
 rw [hl]
 show putCells h ⟨b, 0, none⟩ l = _
 unfold putCells
 simp only [ok?, hg]
 rw [show Nat.ble h.ro b = true from by rw [Nat.ble_eq]; exact hro]
 simp only
 rw [show Nat.ble (0 + l.length) c.length = true from by rw [Nat.ble_eq, hc, hl]; exact Nat.le_refl _, hx]
 rw [show c.drop (0 + l.length) = [] from List.drop_of_length_le (by rw [hc, hl]; exact Nat.le_refl _), List.append_nil]
 rfl
theorem aJV (n : Nat) (p q v : Value) (i : Int) (h : Hp) : aK T57 (n + 1) 1 (AL.v p (AL.v q (AL.v v (AL.i i AL.n)))) h = W9 (aK T57 n) p q v i h := rfl
theorem aS4 (n : Nat) (v : Value) (h : Hp) : aK T57 (n + 1) 2 (AL.v v AL.n) h = some (v, h) := rfl
theorem FB {hb : Hp} (w : Wf hb) {f q : Lk} {p1 p2 : Value} (a1 : At hb p1 f.row) (a2 : At hb p2 q.row) (l1 : E9 hb f) (l2 : E9 hb q) (hl : f.lk.length = q.lk.length) (hm : q.lk.length ≤ 50) : ∀ (m i n : Nat) (h : Hp) (v : Value) (ns : List Int), bA hb h → zI hb h v ns → ns.length ≤ i → i + m = q.lk.length → m + 3 ≤ n →
  ∃ h' v', aK T57 n 1 (AL.v p1 (AL.v p2 (AL.v v (AL.i (i : Int) AL.n)))) h = some (v', h') ∧ bA hb h' ∧ zI hb h' v' (ns ++ iD i (f.lk.drop i) (q.lk.drop i))
 | 0, i, n', h, v, ns, g, nm, hni, him, hn => by
  obtain ⟨n, rfl⟩ : ∃ n, n' = n + 2 := ⟨n' - 2, by omega⟩
  rw [aJV]
  unfold W9
  rw [(a1.sub g.sub).qB 1 (x := f.lv) rfl, l1.rows.len, List.length_map, aM, aU, aH, if_neg (by simp; omega), aS4, List.drop_of_length_le (show q.lk.length ≤ i by omega)]
  refine ⟨h, v, rfl, g, ?_⟩
  rw [show iD i (f.lk.drop i) [] = [] from by cases f.lk.drop i <;> rfl, List.append_nil]; exact nm
 | m + 1, i, n', h, v, ns, g, nm, hni, him, hn => by
  obtain ⟨n, rfl⟩ : ∃ n, n' = n + 1 := ⟨n' - 1, by omega⟩
  have hi : i < q.lk.length := by omega
  have hi2 : i < f.lk.length := by omega
  obtain ⟨y, hy, ay, _⟩ := (l2.sub g.sub).rows.at (i := i) (r := bF q.lk[i]) (by rw [List.getElem?_map, List.getElem?_eq_getElem hi]; rfl)
  obtain ⟨x, hx, ax, _⟩ := (l1.sub g.sub).rows.at (i := i) (r := bF f.lk[i]) (by rw [List.getElem?_map, List.getElem?_eq_getElem hi2]; rfl)
  have next : ∀ (h2 : Hp) (v2 : Value) (ns2 : List Int), bA hb h2 → zI hb h2 v2 ns2 → ns2.length ≤ i + 1 → ∃ h' v', (wrap64 (Int.add (i : Int) (Int.ofNat 1)) fun i12 => aK T57 n 1 (AL.v p1 (AL.v p2 (AL.v v2 (AL.i i12 AL.n)))) h2) = some (v', h') ∧ bA hb h' ∧ zI hb h' v' (ns2 ++ iD (i + 1) (f.lk.drop (i + 1)) (q.lk.drop (i + 1))) := by
   intro h2 v2 ns2 g2 nm2 hl2
   rw [show Int.add (i : Int) (Int.ofNat 1) = ((i + 1 : Nat) : Int) from rfl, wrap64_in _ (by omega) (by omega)]
   exact FB w a1 a2 l1 l2 hl hm m (i + 1) n h2 v2 ns2 g2 nm2 hl2 (by omega) (by omega)
  rw [aJV]
  unfold W9
  rw [(a1.sub g.sub).qB 1 (x := f.lv) rfl, l1.rows.len, List.length_map, aM, aU, aH, if_pos (by simp; omega), (a2.sub g.sub).qB 1 (x := q.lv) rfl, hy, ay.gT (x := .int .i64 q.lk[i]) rfl, aJ, aT, bR, aH, List.drop_eq_getElem_cons hi, List.drop_eq_getElem_cons hi2]
  unfold iD
  by_cases c1 : q.lk[i] = -1
  ·rw [if_neg (by rw [c1]; simp), if_neg (by simp [c1])]
   exact next h v ns g nm (by omega)
  rw [if_pos (by simpa using c1), (a2.sub g.sub).qB 1 (x := q.lv) rfl, hy, ay.gT (x := .int .i64 q.lk[i]) rfl, aJ, (a1.sub g.sub).qB 1 (x := f.lv) rfl, hx, ax.gT (x := .int .i64 f.lk[i]) rfl, aJ, aT, bR, aH]
  by_cases c2 : q.lk[i] = f.lk[i]
  ·rw [if_neg (by rw [c2]; simp), if_neg (by simp [c2])]
   exact next h v ns g nm (by omega)
  rw [if_pos (by simpa using c2), if_pos ⟨c1, c2⟩, WQ, aG]
  obtain ⟨v2, h2, hap, g2, nm2⟩ := AZ w g nm (by omega) (i : Int)
  rw [hap, aG]
  obtain ⟨h', v', e1, e2, e3⟩ := next h2 v2 (ns ++ [(i : Int)]) g2 nm2 (by simp; omega)
  refine ⟨h', v', e1, e2, ?_⟩
  rw [List.append_assoc] at e3
  exact e3
theorem NJ {h : Hp} (w : Wf h) {f q : Lk} (l1 : E9 h f) (l2 : E9 h q) (hl : f.lk.length = q.lk.length) (hm : q.lk.length ≤ 50) : ∃ h' v', F57 [.agg (Array.mk f.row), .agg (Array.mk q.row)] h = some (v', h') ∧ bA h h' ∧ zI h h' v' (iD 0 f.lk q.lk) := by
 have start : F57 [.agg (Array.mk f.row), .agg (Array.mk q.row)] h = aCZ (aK T57 999999) (.agg (Array.mk f.row)) (.agg (Array.mk q.row)) h := rfl
 rw [start]
 unfold aCZ
 rw [dS, dS, bJ, bJ]
 have g0 : bA h (h.add (.cells f.row 59 none)) := bA.add w _
 have a0 : At (h.add (.cells f.row 59 none)) (.pointer (some ⟨h.next, 0, none⟩)) f.row := At.new
 generalize h.add (.cells f.row 59 none) = h0 at g0 a0 ⊢
 have g1 : bA h (h0.add (.cells q.row 59 none)) := g0.trans (bA.add g0.wf _)
 have a1 : At (h0.add (.cells q.row 59 none)) (.pointer (some ⟨h.next, 0, none⟩)) f.row := FD g0.wf a0 _
 have b1 : At (h0.add (.cells q.row 59 none)) (.pointer (some ⟨h0.next, 0, none⟩)) q.row := At.new
 generalize h0.add (.cells q.row 59 none) = h1 at g1 a1 b1 ⊢
 obtain ⟨h', v', e1, e2, e3⟩ := FB g1.wf a1 b1 (l1.sub g1.sub) (l2.sub g1.sub) hl hm q.lk.length 0 999999 h1 (.slice none 0 0) [] (bA.refl g1.wf) (.inl ⟨rfl, rfl⟩) (by simp) (by omega) (by omega)
 rw [List.drop_zero, List.drop_zero, List.nil_append] at e3
 exact ⟨h', v', e1, g1.trans e2, e3.low g1.next⟩
theorem aJX (n : Nat) (p : Value) (a : Int) (v : Value) (i : Int) (h : Hp) : aK T56 (n + 1) 1 (AL.v p (AL.i a (AL.v v (AL.i i AL.n)))) h = XA (aK T56 n) p a v i h := rfl
theorem aS7 (n : Nat) (a : Int) (h : Hp) : aK T56 (n + 1) 2 (AL.i a AL.n) h = some (.int .i64 a, h) := rfl
theorem NK {h : Hp} {p vc vo vf vp : Value} (ar : At h p (fV vc vo vf vp)) {cs : List Int} (sc : jE h 1 vc (cs.map bF)) (hb : ∀ n ∈ cs, 0 ≤ n ∧ n ≤ 100) {u : Value} {ks : List Int} (su : Eng.Rows h 1 u (ks.map bF)) (hk : ∀ x ∈ ks, ∃ k : Nat, x = (k : Int) ∧ k < cs.length) (hl : ks.length ≤ 4) :
  ∀ (m j n : Nat) (acc : Int), j + m = ks.length → m + 2 ≤ n → 0 ≤ acc → acc ≤ 100 * j → aK T56 n 1 (AL.v p (AL.i acc (AL.v u (AL.i (j : Int) AL.n)))) h = some (.int .i64 (acc + j5 cs (ks.drop j)), h)
 | 0, j, n', acc, hj, hn, h0, h1 => by
  obtain ⟨n, rfl⟩ : ∃ n, n' = n + 2 := ⟨n' - 2, by omega⟩
  rw [aJX]
  unfold XA
  rw [su.len, List.length_map, aM, aU, aH, if_neg (by simp; omega), List.drop_of_length_le (by omega), aS7, show j5 cs [] = 0 from rfl, Int.add_zero]
 | m + 1, j, n', acc, hj, hn, h0, h1 => by
  obtain ⟨n, rfl⟩ : ∃ n, n' = n + 1 := ⟨n' - 1, by omega⟩
  have hj' : j < ks.length := by omega
  obtain ⟨q, hq, aq, _⟩ := su.at (i := j) (r := bF ks[j]) (by rw [List.getElem?_map, List.getElem?_eq_getElem hj']; rfl)
  obtain ⟨k, ek, hkl⟩ := hk _ (List.getElem_mem hj')
  obtain ⟨y, hy, ay, _⟩ := sc.rows.at (i := k) (r := bF cs[k]) (by rw [List.getElem?_map, List.getElem?_eq_getElem hkl]; rfl)
  have cb := hb _ (List.getElem_mem hkl)
  rw [aJX]
  unfold XA
  rw [su.len, List.length_map, aM, aU, aH, if_pos (by simp; omega), ar.qB 0 (x := vc) rfl, hq, aq.gT (x := .int .i64 ks[j]) rfl, aJ, ek, hy, ay.gT (x := .int .i64 cs[k]) rfl, aJ, show Int.add acc cs[k] = acc + cs[k] from rfl, wrap64_in _ (by omega) (by omega), show Int.add (j : Int) (Int.ofNat 1) = ((j + 1 : Nat) : Int) from rfl, wrap64_in _ (by omega) (by omega),
   NK ar sc hb su hk hl m (j + 1) n (acc + cs[k]) (by omega) (by omega) (by omega) (by omega), List.drop_eq_getElem_cons hj']
  rw [show j5 cs (ks[j] :: ks.drop (j + 1)) = cs.getD (ks[j]).toNat 0 + j5 cs (ks.drop (j + 1)) from rfl, ek, Int.toNat_natCast, List.getD_eq_getElem?_getD, List.getElem?_eq_getElem hkl, Option.getD_some, Int.add_assoc]
theorem aJY {h : Hp} (w : Wf h) {s : Rm} {r : List Value} (a : xN h s r) (F : oU s) {c : Nat × Nat} {f q : Lk} (hf : s.dA[c.1]? = some f) (hq : s.cB[c.2]? = some q) (l1 : E9 h f) (l2 : E9 h q) : ∃ h', F56 [.agg (Array.mk r), .agg (Array.mk f.row), .agg (Array.mk q.row)] h = some (.int .i64 (j5 s.costs (KA s c)), h') := by
 obtain ⟨vc, vo, vf, vp, rfl, sc, so, sf, sp, af, ap⟩ := a
 have start : F56 [.agg (Array.mk (fV vc vo vf vp)), .agg (Array.mk f.row), .agg (Array.mk q.row)] h = aC0 (aK T56 999999) (.agg (Array.mk (fV vc vo vf vp))) (.agg (Array.mk f.row)) (.agg (Array.mk q.row)) h := rfl
 rw [start]
 unfold aC0
 rw [dS, dS, dS, bJ, bJ, bJ]
 have g0 : bA h (h.add (.cells (fV vc vo vf vp) 25 none)) := bA.add w _
 have a0 : At (h.add (.cells (fV vc vo vf vp) 25 none)) (.pointer (some ⟨h.next, 0, none⟩)) (fV vc vo vf vp) := At.new
 generalize h.add (.cells (fV vc vo vf vp) 25 none) = h0 at g0 a0 ⊢
 have g1 : bA h (h0.add (.cells f.row 59 none)) := g0.trans (bA.add g0.wf _)
 have a1 := FD g0.wf a0 (.cells f.row 59 none)
 have b1 : At (h0.add (.cells f.row 59 none)) (.pointer (some ⟨h0.next, 0, none⟩)) f.row := At.new
 generalize h0.add (.cells f.row 59 none) = h1 at g1 a1 b1 ⊢
 have g2 : bA h (h1.add (.cells q.row 59 none)) := g1.trans (bA.add g1.wf _)
 have a2 := FD g1.wf a1 (.cells q.row 59 none)
 have b2 := FD g1.wf b1 (.cells q.row 59 none)
 have d2 : At (h1.add (.cells q.row 59 none)) (.pointer (some ⟨h1.next, 0, none⟩)) q.row := At.new
 generalize h1.add (.cells q.row 59 none) = h2 at g2 a2 b2 d2 ⊢
 have i1 := (List.getElem?_eq_some_iff.1 hf).1
 have i2 := (List.getElem?_eq_some_iff.1 hq).1
 have f1 := (F.fs f (List.mem_of_getElem? hf)).1
 have f2 := (F.ps q (List.mem_of_getElem? hq)).1
 have nc := F.nc
 obtain ⟨h3, v3, e3, g3, n3⟩ := NJ (h := fH h2) (fT g2.wf) (l1.sub g2.sub) (l2.sub g2.sub) (by omega) (by omega)
 obtain ⟨h4, e4, g4, n4⟩ := sF g2.wf e3 g3 n3
 rw [← G8 (s := s) (c := c) hf hq] at n4
 obtain ⟨k1, k2⟩ := NG F i1 i2
 rw [b2.dX (z := 3) rfl, d2.dX (z := 3) rfl, e4, aG]
 have := NK (a2.sub g4.sub) (sc.sub (g2.trans g4).sub) F.cs n4.rows k2 k1 (KA s c).length 0 999999 0 (by omega) (by omega) (by omega) (by omega)
 rw [List.drop_zero, Int.zero_add] at this
 exact ⟨h4, this⟩
end Go.Proofs.Ytepepiajmdpiiaa.K.L
