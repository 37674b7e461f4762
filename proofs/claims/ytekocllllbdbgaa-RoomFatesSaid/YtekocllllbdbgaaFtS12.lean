/- Contracts of told functions: the reference's Warmth. -/
import Derived.Test.YtekocllllbdbgaaFtS11
open Go Go.Eng
set_option maxRecDepth 100000
set_option linter.unusedVariables false
namespace Go.Proofs.Ytekocllllbdbgaa.K.L
theorem warm63_end (h : Hp) (n : Nat) (z1 z2 a b : Int) : G.rec' (T63 h) (n + 1) 2 (PAL.i z1 (PAL.i z2 (PAL.i a (PAL.i b PAL.n)))) = some (spV (a, b)) := by
  show P63x2 h (G.rec' (T63 h) n) z1 z2 a b = _
  unfold P63x2
  rw [aggK_at, lenR2, ifB_if, if_pos rfl, segR2, dropR_eq, takeR_eq _ _ _ (by simp)]
  rfl
theorem warm63_loop {h : Hp} {we : Sp} {st : Nat} {vh vp vf vb : Value} {ps : List Pl} (sp : SlA h 4 vp (ps.map Pl.row)) {k : Nat} (hk : k < ps.length) (sv : SlA h 2 (ps[k]).vw ((ps[k]).ws.map Sp.row)) (ok : SpsOk (ps[k]).ws) (hst : (ps[k]).ws.length = st) (hl3 : st ≤ 3) {lit : Nat} (hlit : lit < 8) (z1 z2 : Int) : ∀ m i n (a b : Int), i + m = st → m + 2 ≤ n → -200 - 100 * i ≤ a → a ≤ 200 + 100 * i → -200 - 100 * i ≤ b → b ≤ 200 + 100 * i →
    G.rec' (T63 h) n 1 (PAL.i (k : Int) (PAL.i (lit : Int) (PAL.i (i : Int) (PAL.l (hoRow we (st : Int) vh vp vf vb) (PAL.i z1 (PAL.i z2 (PAL.i a (PAL.i b PAL.n)))))))) = some (spV (warmF lit i ((ps[k]).ws.drop i) (a, b)))
  | 0, i, n + 2, a, b, him, hn, _, _, _, _ => by
    have st' : G.rec' (T63 h) (n + 2) 1 (PAL.i (k : Int) (PAL.i (lit : Int) (PAL.i (i : Int) (PAL.l (hoRow we (st : Int) vh vp vf vb) (PAL.i z1 (PAL.i z2 (PAL.i a (PAL.i b PAL.n)))))))) = P63x1 h (G.rec' (T63 h) (n + 1)) (k : Int) (lit : Int) (i : Int) (hoRow we (st : Int) vh vp vf vb) z1 z2 a b := rfl
    rw [st']
    unfold P63x1
    rw [nthR_get _ _ 2 (.int .i64 (st : Int)) rfl, intK_int, boolZ_eq, ltZ_dec, ifB_if, if_neg (by simp; omega), warm63_end, List.drop_of_length_le (by omega)]
    rfl
  | m + 1, i, n + 1, a, b, him, hn, a1, a2, b1, b2 => by
    have hi : i < (ps[k]).ws.length := by omega
    have hg : ((ps[k]).ws.map Sp.row)[i]? = some ((ps[k]).ws[i]).row := by rw [List.getElem?_map, List.getElem?_eq_getElem hi]; rfl
    obtain ⟨q, hq, haq, hl⟩ := sv.rows.at hg
    have hp : (ps.map Pl.row)[k]? = some (ps[k]).row := by rw [List.getElem?_map, List.getElem?_eq_getElem hk]; rfl
    obtain ⟨q2, hq2, haq2, hl2⟩ := sp.rows.at hp
    obtain ⟨o1, o2, o3, o4, o5⟩ := ok _ (List.getElem_mem hi)
    have st' : G.rec' (T63 h) (n + 1) 1 (PAL.i (k : Int) (PAL.i (lit : Int) (PAL.i (i : Int) (PAL.l (hoRow we (st : Int) vh vp vf vb) (PAL.i z1 (PAL.i z2 (PAL.i a (PAL.i b PAL.n)))))))) = P63x1 h (G.rec' (T63 h) n) (k : Int) (lit : Int) (i : Int) (hoRow we (st : Int) vh vp vf vb) z1 z2 a b := rfl
    rw [st']
    unfold P63x1
    rw [nthR_get _ _ 2 (.int .i64 (st : Int)) rfl, intK_int, boolZ_eq, ltZ_dec, ifB_if, if_pos (by simp; omega), bit40_at h lit i hlit (by omega), optK_some', boolK_bool, ifB_if, List.drop_eq_getElem_cons hi]
    unfold warmF
    cases hb : bitB lit i with
    | true =>
      rw [if_pos rfl, if_pos rfl, nthR_get _ _ 4 vp rfl, hq2, haq2.fld 2 (x := (ps[k]).vw) rfl, hq, haq.loadN hl, show ((ps[k]).ws[i]).row = [.int .i64 (ps[k]).ws[i].lo, .int .i64 (ps[k]).ws[i].hi] from rfl, aggK_at, lenR2, ifB_if, if_pos rfl, segR2, nthR_get _ _ 0 (.int .i64 (ps[k]).ws[i].lo) rfl, intK_int, show Int.add a (ps[k]).ws[i].lo = a + (ps[k]).ws[i].lo from rfl, wrap64_in _ (by omega) (by omega), nthR_get _ _ 1 (.int .i64 (ps[k]).ws[i].hi) rfl, intK_int, show Int.add b (ps[k]).ws[i].hi = b + (ps[k]).ws[i].hi from rfl, wrap64_in _ (by omega) (by omega), build23, optK_some']
      unfold spV
      rw [aggK_at, lenR2, ifB_if, if_pos rfl, segR2, show Int.add (i : Int) (Int.ofNat 1) = ((i + 1 : Nat) : Int) from rfl, wrap64_in _ (by omega) (by omega), uncons_at, intK_int, uncons_at, intK_int, nil_at]
      exact warm63_loop sp hk sv ok hst hl3 hlit z1 z2 m (i + 1) n _ _ (by omega) (by omega) (by omega) (by omega) (by omega) (by omega)
    | false =>
      rw [if_neg (by simp), if_neg (by simp), show Int.add (i : Int) (Int.ofNat 1) = ((i + 1 : Nat) : Int) from rfl, wrap64_in _ (by omega) (by omega)]
      exact warm63_loop sp hk sv ok hst hl3 hlit z1 z2 m (i + 1) n _ _ (by omega) (by omega) (by omega) (by omega) (by omega) (by omega)
theorem warm63_at {h : Hp} {s : Ho} {r : List Value} (a : HoA h s r) (ok : HoOk s) {lit : Nat} (hlit : lit < 8) {k : Nat} (hk : k < s.pls.length) :
    F63 [.agg (Array.mk r), .int .i64 (k : Int), .int .i64 (lit : Int)] h = some (spV (warmF lit 0 (s.pls[k]).ws (s.we.lo, s.we.hi))) := by
  obtain ⟨vh, vp, vf, vb, rfl, sh, sp, sw, sf, sb⟩ := a
  obtain ⟨o1, o2, _⟩ := ok.pl k hk
  obtain ⟨t0, t3⟩ := ok.stoves
  obtain ⟨v1, v2, v3⟩ := ok.we
  have e := warm63_loop (we := s.we) (vh := vh) (vf := vf) (vb := vb) sp hk (sw _ (List.getElem_mem hk)) o2 rfl (by omega) (lit := lit) hlit (Int.ofNat 0) (Int.ofNat 0) (s.pls[k]).ws.length 0 999999 s.we.lo s.we.hi (by omega) (by omega) (by omega) (by omega) (by omega) (by omega)
  rw [List.drop_zero, o1] at e
  show plainO (P63x0 h (G.rec' (T63 h) 999999) (.agg (Array.mk (hoRow s.we s.stoves vh vp vf vb))) (k : Int) (lit : Int)) = _
  unfold P63x0
  rw [rowCells, forceL_eq, dropR_eq, takeR_eq _ _ _ (by show 2 ≤ 7; decide), aggK_at, show List.take 2 (List.drop 0 (hoRow s.we s.stoves vh vp vf vb)) = [.int .i64 s.we.lo, .int .i64 s.we.hi] from rfl, lenR2, ifB_if, if_pos rfl, segR2, uncons_at, intK_int, uncons_at, intK_int, nil_at]
  rw [show G.rec' (T63 h) 999999 1 (PAL.i (k : Int) (PAL.i (lit : Int) (PAL.i (Int.ofNat 0) (PAL.l (hoRow s.we s.stoves vh vp vf vb) (PAL.i (Int.ofNat 0) (PAL.i (Int.ofNat 0) (PAL.i s.we.lo (PAL.i s.we.hi PAL.n)))))))) = _ from e]
  rfl
def askE (s : Ho) (fig place lit : Int) : Int :=
  if (checkH s).2.2 ≠ 0 then (checkH s).2.2
  else if !(inB 0 (max 0 ((s.figs.length : Int) - 1)) fig) then 4
  else if !(inB 0 ((s.pls.length : Int) - 1) place) then 4
  else if !(inB 0 (2 ^ s.stoves.toNat - 1) lit) then 7 else 0
theorem asked62_at {h : Hp} (w : Wf h) {s : Ho} {r : List Value} (a : HoA h s r) (fig place lit : Int) : ∃ h', F62 [.agg (Array.mk r), .int .i64 fig, .int .i64 place, .int .i64 lit] h = some (.int .i64 (askE s fig place lit), h') := by
  have start : F62 [.agg (Array.mk r), .int .i64 fig, .int .i64 place, .int .i64 lit] h = P62x0 (rec' T62 999999) (.agg (Array.mk r)) fig place lit h := rfl
  rw [start]
  clear start
  unfold P62x0
  have hr7 := a.len
  rw [rowCells, allocK_add]
  have g1 := Grew.add w (.cells r 28 none)
  have a1 : At (h.add (.cells r 28 none)) (.pointer (some ⟨h.next, 0, none⟩)) r := At.new
  generalize h.add (.cells r 28 none) = h1 at g1 a1 ⊢
  generalize Value.pointer (some ⟨h.next, 0, none⟩) = p at a1 ⊢
  have s1 := a.sub g1.sub
  obtain ⟨h2, e2⟩ := check14_at (h := shutH h1) (wfShut g1.wf) s1
  rw [a1.loadN (z := 7) hr7, callQ_plain1 e2 rfl, pairK_some']
  unfold trip
  rw [extK_at (v := .int .i64 (checkH s).1) rfl, intK_int, extK_at (v := .int .i64 (checkH s).2.1) rfl, intK_int, extK_at (v := .int .i64 (checkH s).2.2) rfl, intK_int, boolZ_eq, eqZ_dec, ifB_if]
  have st : ∀ e : Int, rec' T62 999999 1 (AL.i lit (AL.v p (AL.i e AL.n))) h1 = P62x1 (rec' T62 999998) lit p e h1 := fun e => rfl
  have bad : ∀ e : Int, e ≠ 0 → ∃ h', rec' T62 999999 1 (AL.i lit (AL.v p (AL.i e AL.n))) h1 = some (.int .i64 e, h') := by
    intro e he
    rw [st]
    unfold P62x1
    rw [boolZ_eq, eqZ_dec, ifB_if, if_neg (by simpa using he)]
    exact ⟨_, rfl⟩
  unfold askE
  by_cases e0 : (checkH s).2.2 = 0
  case neg => rw [if_neg (by simpa using e0), if_pos e0]; exact bad _ e0
  have ok := check_ok e0
  have l1 := ok.pls
  have l2 := ok.figs
  obtain ⟨st0, st3⟩ := ok.stoves
  obtain ⟨vh, vp, vf, vb, hrow, sh, sp, sw, sf, sb⟩ := s1
  rw [if_pos (by simpa using e0), if_neg (by simpa using e0), a1.fld 5 (x := vf) (by rw [hrow]; rfl), sf.rows.len, List.length_map, show Int.sub (s.figs.length : Int) (Int.ofNat 1) = (s.figs.length : Int) - 1 from rfl, wrap64_in _ (by omega) (by omega), maxZ_eq, show (Int.ofNat 0) = (0 : Int) from rfl, in54_at, optK_some', pairK_some', boolK_bool, boolN_eq, ifB_if]
  cases c1 : inB 0 (max 0 ((s.figs.length : Int) - 1)) fig with
  | false => rw [if_pos (by rfl), if_pos (by rfl)]; exact bad 4 (by decide)
  | true =>
  rw [if_neg (by simp), if_neg (by simp), a1.fld 4 (x := vp) (by rw [hrow]; rfl), sp.rows.len, List.length_map, show Int.sub (s.pls.length : Int) (Int.ofNat 1) = (s.pls.length : Int) - 1 from rfl, wrap64_in _ (by omega) (by omega), in54_at, optK_some', pairK_some', boolK_bool, boolN_eq, ifB_if]
  cases c2 : inB 0 ((s.pls.length : Int) - 1) place with
  | false => rw [if_pos (by rfl), if_pos (by rfl)]; exact bad 4 (by decide)
  | true =>
  obtain ⟨n, hn⟩ : ∃ n : Nat, s.stoves = (n : Int) := ⟨s.stoves.toNat, by omega⟩
  obtain ⟨p1, p2⟩ := pow_le n (by omega)
  rw [if_neg (by simp), if_neg (by simp), e0, st]
  unfold P62x1
  rw [boolZ_eq, eqZ_dec, ifB_if, if_pos (by simp), a1.fld 2 (x := .int .i64 (n : Int)) (by rw [hrow, hn]; rfl), intK_int, sets_at h1 n (by omega), optK_some', pairK_some', intK_int, show Int.sub (2 ^ n : Int) (Int.ofNat 1) = 2 ^ n - 1 from rfl, wrap64_in _ (by omega) (by omega), show (Int.ofNat 0) = (0 : Int) from rfl, in54_at, optK_some', pairK_some', boolK_bool, boolN_eq, ifB_if, show s.stoves.toNat = n by omega]
  cases inB 0 (2 ^ n - 1) lit with
  | false => rw [if_pos (by rfl), if_pos (by rfl)]; exact ⟨_, rfl⟩
  | true => rw [if_neg (by simp), if_neg (by simp)]; exact ⟨_, rfl⟩
theorem warmth_ask (s : Ho) (place lit : Int) : askE s 0 place lit = (warmthS s place lit).2 := by
  unfold askE warmthS
  by_cases e0 : (checkH s).2.2 = 0
  case neg => rw [if_pos e0, if_pos e0]
  have l2 : inB 0 (max 0 ((s.figs.length : Int) - 1)) 0 = true := inB_iff.2 (by omega)
  have hh : ¬((checkH s).2.2 ≠ 0) := by simpa using e0
  rw [if_neg hh, if_neg hh, l2, if_neg (by simp)]
  cases c2 : inB 0 ((s.pls.length : Int) - 1) place with
  | false => rw [if_pos (by rfl), if_pos (by rfl)]
  | true =>
  have hp := inB_iff.1 c2
  have ht : ¬((!true) = true) := by simp
  have hf : (!false) = true := rfl
  rw [if_neg ht, if_neg ht]
  cases c3 : inB 0 (2 ^ s.stoves.toNat - 1) lit with
  | false => rw [if_pos hf, if_pos hf]
  | true => rw [if_neg ht, if_neg ht, List.getElem?_eq_getElem (by omega : place.toNat < s.pls.length)]
theorem warmth16_at {h : Hp} (w : Wf h) {s : Ho} {r : List Value} (a : HoA h s r) (place lit : Int) : ∃ h', F16 [.agg (Array.mk r), .int .i64 place, .int .i64 lit] h = some (spE (warmthS s place lit), h') := by
  have start : F16 [.agg (Array.mk r), .int .i64 place, .int .i64 lit] h = P16x0 (rec' T16 999999) (.agg (Array.mk r)) place lit h := rfl
  rw [start]
  unfold P16x0
  clear start
  have hr7 := a.len
  rw [rowCells, allocK_add, allocK_add]
  have gA := Grew.add w (.cells r 28 none)
  have aA : At (h.add (.cells r 28 none)) (.pointer (some ⟨h.next, 0, none⟩)) r := At.new
  have nA : (h.add (.cells r 28 none)).next = h.next + 1 := rfl
  generalize h.add (.cells r 28 none) = hA at gA aA nA ⊢
  have g1 : Grew h (hA.add (.cells [(Value.int .i64 (Int.ofNat 0)), (Value.int .i64 (Int.ofNat 0))] 23 none)) := gA.trans (Grew.add gA.wf _)
  have a1 := atAdd gA.wf aA (.cells [(Value.int .i64 (Int.ofNat 0)), (Value.int .i64 (Int.ofNat 0))] 23 none)
  have c1 : (hA.add (.cells [(Value.int .i64 (Int.ofNat 0)), (Value.int .i64 (Int.ofNat 0))] 23 none)).get hA.next = some (.cells [(Value.int .i64 (Int.ofNat 0)), (Value.int .i64 (Int.ofNat 0))] 23 none) := by rw [get_add, if_pos rfl]
  generalize hA.add (.cells [(Value.int .i64 (Int.ofNat 0)), (Value.int .i64 (Int.ofNat 0))] 23 none) = h1 at g1 a1 c1 ⊢
  have hle : h.next ≤ hA.next := by omega
  generalize hA.next = b1 at c1 hle ⊢
  clear aA nA gA
  have s1 := a.sub g1.sub
  have fin : ∀ (x : Int × Int) (e : Int), ∃ h', (storeNK 2 h1 (.pointer (some ⟨b1, 0, none⟩)) (spV x) fun h11 => loadNK 2 h11 (.pointer (some ⟨b1, 0, none⟩)) fun v12 => some (Value.tuple (List.toArray [v12, (Value.int .i64 e)]), h11)) = some (spE (x, e), h') := by
    intro x e
    obtain ⟨h11, g11, a11, k11, _⟩ := put_whole (z := 2) (l := [.int .i64 x.1, .int .i64 x.2]) w g1 hle c1 rfl rfl rfl
    refine ⟨h11, ?_⟩
    show (storeNK 2 h1 (.pointer (some ⟨b1, 0, none⟩)) (.agg (Array.mk [.int .i64 x.1, .int .i64 x.2])) fun h11 => _) = _
    rw [k11, a11.loadN (z := 2) rfl]
    rfl
  obtain ⟨h3, e3⟩ := asked62_at (h := shutH h1) (wfShut g1.wf) s1 0 place lit
  rw [a1.loadN (z := 7) hr7, show (Int.ofNat 0) = (0 : Int) from rfl, callQ_plain1 e3 rfl, pairK_some', intK_int, boolN_eq, eqZ_dec, ifB_if, warmth_ask]
  by_cases e0 : (warmthS s place lit).2 = 0
  case neg =>
    rw [if_pos (by simpa using e0), build23_0, optK_some']
    obtain ⟨h', e⟩ := fin (0, 0) (warmthS s place lit).2
    refine ⟨h', e.trans ?_⟩
    have : (warmthS s place lit).1 = (0, 0) := by
      unfold warmthS at e0 ⊢
      by_cases e1 : (checkH s).2.2 ≠ 0
      · rw [if_pos e1]
      rw [if_neg e1] at e0 ⊢
      split
      · rfl
      · rename_i c2
        rw [if_neg c2] at e0
        split
        · rfl
        · rename_i c3
          rw [if_neg c3] at e0
          split
          · rfl
          · rename_i g hg; rw [hg] at e0; exact absurd rfl e0
    rw [show spE (warmthS s place lit) = spE ((0, 0), (warmthS s place lit).2) from by rw [← this]]
  rw [if_neg (by simpa using e0), a1.loadN (z := 7) hr7]
  unfold warmthS at e0 ⊢
  by_cases e1 : (checkH s).2.2 = 0
  case neg => rw [if_pos e1] at e0; exact absurd e0 e1
  have ok := check_ok e1
  rw [if_neg (by simpa using e1)] at e0 ⊢
  cases c2 : inB 0 ((s.pls.length : Int) - 1) place with
  | false => rw [c2, if_pos (by rfl)] at e0; exact absurd e0 (by decide)
  | true =>
  rw [c2, if_neg (by simp)] at e0
  rw [if_neg (by simp)]
  cases c3 : inB 0 (2 ^ s.stoves.toNat - 1) lit with
  | false => rw [c3, if_pos (by rfl)] at e0; exact absurd e0 (by decide)
  | true =>
  have hl := inB_iff.1 c3
  have hp := inB_iff.1 c2
  have p3 := pow3 s.stoves.toNat (by have := ok.stoves; omega)
  obtain ⟨l, rfl⟩ : ∃ l : Nat, lit = (l : Int) := ⟨lit.toNat, by omega⟩
  obtain ⟨k, rfl⟩ : ∃ k : Nat, place = (k : Int) := ⟨place.toNat, by omega⟩
  have hk : k < s.pls.length := by omega
  rw [if_neg (by simp), warm63_at s1 ok (lit := l) (by omega) hk, optK_some', pairK_some', Int.toNat_natCast, Int.toNat_natCast, List.getElem?_eq_getElem hk]
  exact fin _ _
end Go.Proofs.Ytekocllllbdbgaa.K.L
