/- Contracts of told functions: two looks at once; the reference's Kinds, One, Cost. -/
import Derived.Test.YtdpicdnpiihaaaaLeS13
open Go Go.bK
set_option maxRecDepth 100000
set_option linter.unusedVariables false
namespace Go.Proofs.Ytdpicdnpiihaaaa.K.L
theorem WQ (h : Hp) {b : Nat} {c l : List Value} {e : TypeId} {s : Option Nat} (hg : h.get b = some (.cells c e s)) (hc : c.length = 3) (hl : l.length = 3) (hx : l.all oneCell = true) (hro : h.ro ≤ b) : nP env h 59 (.pointer (some ⟨b, 0, none⟩)) (.agg (Array.mk l)) = some (h.upd b (.cells l e s)) := by
 unfold nP
 rw [show addrOf (.pointer (some ⟨b, 0, none⟩)) = some ⟨b, 0, none⟩ from rfl]
 simp only [Option.bind_some, aOJ]
 show ok? (Nat.beq l.length 3) (putCells h ⟨b, 0, none⟩ l) = _
 rw [hl]
 show putCells h ⟨b, 0, none⟩ l = _
 unfold putCells
 simp only [ok?, hg]
 rw [show Nat.ble h.ro b = true from by rw [Nat.ble_eq]; exact hro]
 simp only
 rw [show Nat.ble (0 + l.length) c.length = true from by rw [Nat.ble_eq, hc, hl]; exact Nat.le_refl _, hx]
 rw [show c.drop (0 + l.length) = [] from List.drop_of_length_le (by rw [hc, hl]; exact Nat.le_refl _), List.append_nil]
 rfl
theorem aOK (n : Nat) (p q v : Value) (i : Int) (h : Hp) : aI T57 (n + 1) 1 (AL.v p (AL.v q (AL.v v (AL.i i AL.n)))) h = aE1 (aI T57 n) p q v i h := rfl
theorem aXA (n : Nat) (v : Value) (h : Hp) : aI T57 (n + 1) 2 (AL.v v AL.n) h = some (v, h) := rfl
theorem IV {hb : Hp} (w : Wf hb) {f q : Lk} {p1 p2 : Value} (a1 : At hb p1 f.row) (a2 : At hb p2 q.row) (l1 : IU hb f) (l2 : IU hb q) (hl : f.lk.length = q.lk.length) (hm : q.lk.length ≤ 50) : ∀ (m i n : Nat) (h : Hp) (v : Value) (ns : List Int), aR hb h → oL hb h v ns → ns.length ≤ i → i + m = q.lk.length → m + 3 ≤ n →
  ∃ h' v', aI T57 n 1 (AL.v p1 (AL.v p2 (AL.v v (AL.i (i : Int) AL.n)))) h = some (v', h') ∧ aR hb h' ∧ oL hb h' v' (ns ++ iH i (f.lk.drop i) (q.lk.drop i))
 | 0, i, n', h, v, ns, g, nm, hni, him, hn => by
  obtain ⟨n, rfl⟩ : ∃ n, n' = n + 2 := ⟨n' - 2, by omega⟩
  rw [aOK]
  unfold aE1
  rw [(a1.sub g.sub).pF 1 (x := f.lv) rfl, l1.rows.len, List.length_map, aH, aN, aC, if_neg (by simp; omega), aXA, List.drop_of_length_le (show q.lk.length ≤ i by omega)]
  refine ⟨h, v, rfl, g, ?_⟩
  rw [show iH i (f.lk.drop i) [] = [] from by cases f.lk.drop i <;> rfl, List.append_nil]; exact nm
 | m + 1, i, n', h, v, ns, g, nm, hni, him, hn => by
  obtain ⟨n, rfl⟩ : ∃ n, n' = n + 1 := ⟨n' - 1, by omega⟩
  have hi : i < q.lk.length := by omega
  have hi2 : i < f.lk.length := by omega
  obtain ⟨y, hy, ay, _⟩ := (l2.sub g.sub).rows.at (i := i) (r := bB q.lk[i]) (by rw [List.getElem?_map, List.getElem?_eq_getElem hi]; rfl)
  obtain ⟨x, hx, ax, _⟩ := (l1.sub g.sub).rows.at (i := i) (r := bB f.lk[i]) (by rw [List.getElem?_map, List.getElem?_eq_getElem hi2]; rfl)
  have next : ∀ (h2 : Hp) (v2 : Value) (ns2 : List Int), aR hb h2 → oL hb h2 v2 ns2 → ns2.length ≤ i + 1 → ∃ h' v', (wrap64 (Int.add (i : Int) (Int.ofNat 1)) fun i12 => aI T57 n 1 (AL.v p1 (AL.v p2 (AL.v v2 (AL.i i12 AL.n)))) h2) = some (v', h') ∧ aR hb h' ∧ oL hb h' v' (ns2 ++ iH (i + 1) (f.lk.drop (i + 1)) (q.lk.drop (i + 1))) := by
   intro h2 v2 ns2 g2 nm2 hl2
   rw [show Int.add (i : Int) (Int.ofNat 1) = ((i + 1 : Nat) : Int) from rfl, wrap64_in _ (by omega) (by omega)]
   exact IV w a1 a2 l1 l2 hl hm m (i + 1) n h2 v2 ns2 g2 nm2 hl2 (by omega) (by omega)
  rw [aOK]
  unfold aE1
  rw [(a1.sub g.sub).pF 1 (x := f.lv) rfl, l1.rows.len, List.length_map, aH, aN, aC, if_pos (by simp; omega), (a2.sub g.sub).pF 1 (x := q.lv) rfl, hy, ay.gL (x := .int .i64 q.lk[i]) rfl, aG, aP, aY, aC, List.drop_eq_getElem_cons hi, List.drop_eq_getElem_cons hi2]
  unfold iH
  by_cases c1 : q.lk[i] = -1
  ·rw [if_neg (by rw [c1]; simp), if_neg (by simp [c1])]
   exact next h v ns g nm (by omega)
  rw [if_pos (by simpa using c1), (a2.sub g.sub).pF 1 (x := q.lv) rfl, hy, ay.gL (x := .int .i64 q.lk[i]) rfl, aG, (a1.sub g.sub).pF 1 (x := f.lv) rfl, hx, ax.gL (x := .int .i64 f.lk[i]) rfl, aG, aP, aY, aC]
  by_cases c2 : q.lk[i] = f.lk[i]
  ·rw [if_neg (by rw [c2]; simp), if_neg (by simp [c2])]
   exact next h v ns g nm (by omega)
  rw [if_pos (by simpa using c2), if_pos ⟨c1, c2⟩, MJ, aB]
  obtain ⟨v2, h2, hap, g2, nm2⟩ := qX w g nm (by omega) (i : Int)
  rw [hap, aB]
  obtain ⟨h', v', e1, e2, e3⟩ := next h2 v2 (ns ++ [(i : Int)]) g2 nm2 (by simp; omega)
  refine ⟨h', v', e1, e2, ?_⟩
  rw [List.append_assoc] at e3
  exact e3
theorem PV {h : Hp} (w : Wf h) {f q : Lk} (l1 : IU h f) (l2 : IU h q) (hl : f.lk.length = q.lk.length) (hm : q.lk.length ≤ 50) : ∃ h' v', F57 [.agg (Array.mk f.row), .agg (Array.mk q.row)] h = some (v', h') ∧ aR h h' ∧ oL h h' v' (iH 0 f.lk q.lk) := by
 have start : F57 [.agg (Array.mk f.row), .agg (Array.mk q.row)] h = aNJ (aI T57 999999) (.agg (Array.mk f.row)) (.agg (Array.mk q.row)) h := rfl
 rw [start]
 unfold aNJ
 rw [dN, dN, aX, aX]
 have g0 : aR h (h.add (.cells f.row 59 none)) := aR.add w _
 have a0 : At (h.add (.cells f.row 59 none)) (.pointer (some ⟨h.next, 0, none⟩)) f.row := At.new
 generalize h.add (.cells f.row 59 none) = h0 at g0 a0 ⊢
 have g1 : aR h (h0.add (.cells q.row 59 none)) := g0.trans (aR.add g0.wf _)
 have a1 : At (h0.add (.cells q.row 59 none)) (.pointer (some ⟨h.next, 0, none⟩)) f.row := LH g0.wf a0 _
 have b1 : At (h0.add (.cells q.row 59 none)) (.pointer (some ⟨h0.next, 0, none⟩)) q.row := At.new
 generalize h0.add (.cells q.row 59 none) = h1 at g1 a1 b1 ⊢
 obtain ⟨h', v', e1, e2, e3⟩ := IV g1.wf a1 b1 (l1.sub g1.sub) (l2.sub g1.sub) hl hm q.lk.length 0 999999 h1 (.slice none 0 0) [] (aR.refl g1.wf) (.inl ⟨rfl, rfl⟩) (by simp) (by omega) (by omega)
 rw [List.drop_zero, List.drop_zero, List.nil_append] at e3
 exact ⟨h', v', e1, g1.trans e2, e3.low g1.next⟩
theorem aOM (n : Nat) (p : Value) (a : Int) (v : Value) (i : Int) (h : Hp) : aI T56 (n + 1) 1 (AL.v p (AL.i a (AL.v v (AL.i i AL.n)))) h = aE6 (aI T56 n) p a v i h := rfl
theorem aXB (n : Nat) (a : Int) (h : Hp) : aI T56 (n + 1) 2 (AL.i a AL.n) h = some (.int .i64 a, h) := rfl
theorem PW {h : Hp} {p vc vo vf vp : Value} (ar : At h p (fP vc vo vf vp)) {cs : List Int} (sc : jC h 1 vc (cs.map bB)) (hb : ∀ n ∈ cs, 0 ≤ n ∧ n ≤ 100) {u : Value} {ks : List Int} (su : bK.Rows h 1 u (ks.map bB)) (hk : ∀ x ∈ ks, ∃ k : Nat, x = (k : Int) ∧ k < cs.length) (hl : ks.length ≤ 4) :
  ∀ (m j n : Nat) (acc : Int), j + m = ks.length → m + 2 ≤ n → 0 ≤ acc → acc ≤ 100 * j → aI T56 n 1 (AL.v p (AL.i acc (AL.v u (AL.i (j : Int) AL.n)))) h = some (.int .i64 (acc + kK cs (ks.drop j)), h)
 | 0, j, n', acc, hj, hn, h0, h1 => by
  obtain ⟨n, rfl⟩ : ∃ n, n' = n + 2 := ⟨n' - 2, by omega⟩
  rw [aOM]
  unfold aE6
  rw [su.len, List.length_map, aH, aN, aC, if_neg (by simp; omega), List.drop_of_length_le (by omega), aXB, show kK cs [] = 0 from rfl, Int.add_zero]
 | m + 1, j, n', acc, hj, hn, h0, h1 => by
  obtain ⟨n, rfl⟩ : ∃ n, n' = n + 1 := ⟨n' - 1, by omega⟩
  have hj' : j < ks.length := by omega
  obtain ⟨q, hq, aq, _⟩ := su.at (i := j) (r := bB ks[j]) (by rw [List.getElem?_map, List.getElem?_eq_getElem hj']; rfl)
  obtain ⟨k, ek, hkl⟩ := hk _ (List.getElem_mem hj')
  obtain ⟨y, hy, ay, _⟩ := sc.rows.at (i := k) (r := bB cs[k]) (by rw [List.getElem?_map, List.getElem?_eq_getElem hkl]; rfl)
  have cb := hb _ (List.getElem_mem hkl)
  rw [aOM]
  unfold aE6
  rw [su.len, List.length_map, aH, aN, aC, if_pos (by simp; omega), ar.pF 0 (x := vc) rfl, hq, aq.gL (x := .int .i64 ks[j]) rfl, aG, ek, hy, ay.gL (x := .int .i64 cs[k]) rfl, aG, show Int.add acc cs[k] = acc + cs[k] from rfl, wrap64_in _ (by omega) (by omega), show Int.add (j : Int) (Int.ofNat 1) = ((j + 1 : Nat) : Int) from rfl, wrap64_in _ (by omega) (by omega),
   PW ar sc hb su hk hl m (j + 1) n (acc + cs[k]) (by omega) (by omega) (by omega) (by omega), List.drop_eq_getElem_cons hj']
  rw [show kK cs (ks[j] :: ks.drop (j + 1)) = cs.getD (ks[j]).toNat 0 + kK cs (ks.drop (j + 1)) from rfl, ek, Int.toNat_natCast, List.getD_eq_getElem?_getD, List.getElem?_eq_getElem hkl, Option.getD_some, Int.add_assoc]
theorem aON {h : Hp} (w : Wf h) {s : Rm} {r : List Value} (a : zC h s r) (F : kY s) {c : Nat × Nat} {f q : Lk} (hf : s.bR[c.1]? = some f) (hq : s.bE[c.2]? = some q) (l1 : IU h f) (l2 : IU h q) : ∃ h', F56 [.agg (Array.mk r), .agg (Array.mk f.row), .agg (Array.mk q.row)] h = some (.int .i64 (kK s.costs (MK s c)), h') := by
 obtain ⟨vc, vo, vf, vp, rfl, sc, so, sf, sp, af, ap⟩ := a
 have start : F56 [.agg (Array.mk (fP vc vo vf vp)), .agg (Array.mk f.row), .agg (Array.mk q.row)] h = aN0 (aI T56 999999) (.agg (Array.mk (fP vc vo vf vp))) (.agg (Array.mk f.row)) (.agg (Array.mk q.row)) h := rfl
 rw [start]
 unfold aN0
 rw [dN, dN, dN, aX, aX, aX]
 have g0 : aR h (h.add (.cells (fP vc vo vf vp) 25 none)) := aR.add w _
 have a0 : At (h.add (.cells (fP vc vo vf vp) 25 none)) (.pointer (some ⟨h.next, 0, none⟩)) (fP vc vo vf vp) := At.new
 generalize h.add (.cells (fP vc vo vf vp) 25 none) = h0 at g0 a0 ⊢
 have g1 : aR h (h0.add (.cells f.row 59 none)) := g0.trans (aR.add g0.wf _)
 have a1 := LH g0.wf a0 (.cells f.row 59 none)
 have b1 : At (h0.add (.cells f.row 59 none)) (.pointer (some ⟨h0.next, 0, none⟩)) f.row := At.new
 generalize h0.add (.cells f.row 59 none) = h1 at g1 a1 b1 ⊢
 have g2 : aR h (h1.add (.cells q.row 59 none)) := g1.trans (aR.add g1.wf _)
 have a2 := LH g1.wf a1 (.cells q.row 59 none)
 have b2 := LH g1.wf b1 (.cells q.row 59 none)
 have d2 : At (h1.add (.cells q.row 59 none)) (.pointer (some ⟨h1.next, 0, none⟩)) q.row := At.new
 generalize h1.add (.cells q.row 59 none) = h2 at g2 a2 b2 d2 ⊢
 have i1 := (List.getElem?_eq_some_iff.1 hf).1
 have i2 := (List.getElem?_eq_some_iff.1 hq).1
 have f1 := (F.fs f (List.mem_of_getElem? hf)).1
 have f2 := (F.ps q (List.mem_of_getElem? hq)).1
 have nc := F.nc
 obtain ⟨h3, v3, e3, g3, n3⟩ := PV (h := bY h2) (eF g2.wf) (l1.sub g2.sub) (l2.sub g2.sub) (by omega) (by omega)
 obtain ⟨h4, e4, g4, n4⟩ := xR g2.wf e3 g3 n3
 rw [← J8 (s := s) (c := c) hf hq] at n4
 obtain ⟨k1, k2⟩ := PR F i1 i2
 rw [b2.dL (z := 3) rfl, d2.dL (z := 3) rfl, e4, aB]
 have := PW (a2.sub g4.sub) (sc.sub (g2.trans g4).sub) F.cs n4.rows k2 k1 (MK s c).length 0 999999 0 (by omega) (by omega) (by omega) (by omega)
 rw [List.drop_zero, Int.zero_add] at this
 exact ⟨h4, this⟩
end Go.Proofs.Ytdpicdnpiihaaaa.K.L
