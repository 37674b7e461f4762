/- Contracts of told functions: the reference's Warmth. -/
import Derived.Test.YtekocllllbdbgaaFtN11
open Go Go.Eng
set_option maxRecDepth 100000
set_option linter.unusedVariables false
namespace Go.Proofs.Ytekocllllbdbgaa.K.L
theorem warm63_end (h : Hp) (n : Nat) (z1 z2 a b : Int) : G.rec' (T63 h) (n + 1) 2 (PAL.i z1 (PAL.i z2 (PAL.i a (PAL.i b PAL.n)))) = some (spV (a, b)) := by
  show P63x2 h (G.rec' (T63 h) n) z1 z2 a b = _
  unfold P63x2
  rw [aggK_at, lenR2, ifB_if, if_pos rfl, segR2, dropR_eq, takeR_eq _ _ _ (by simp)]
  rfl
theorem warm63_loop {h : Hp} {we : Sp} {st : Nat} {vh vp vf vb : Value} {ps : List Pl} (sp : SlA h 4 vp (ps.map Pl.row)) {k : Nat} (hk : k < ps.length) (sv : SlA h 2 (ps[k]).vw ((ps[k]).ws.map Sp.row)) (ok : SpsOk (ps[k]).ws) (hst : (ps[k]).ws.length = st) (hl3 : st ≤ 3) {lit : Nat} (hlit : lit < 8) (z1 z2 : Int) : ∀ m i n (a b : Int), i + m = st → m + 2 ≤ n → -200 - 100 * i ≤ a → a ≤ 200 + 100 * i → -200 - 100 * i ≤ b → b ≤ 200 + 100 * i →
    G.rec' (T63 h) n 1 (PAL.i (k : Int) (PAL.i (lit : Int) (PAL.i (i : Int) (PAL.l (hoRow we (st : Int) vh vp vf vb) (PAL.i z1 (PAL.i z2 (PAL.i a (PAL.i b PAL.n)))))))) = some (spV (warmF lit i ((ps[k]).ws.drop i) (a, b)))
  | 0, i, n + 2, a, b, him, hn, _, _, _, _ => by
    have st' : G.rec' (T63 h) (n + 2) 1 (PAL.i (k : Int) (PAL.i (lit : Int) (PAL.i (i : Int) (PAL.l (hoRow we (st : Int) vh vp vf vb) (PAL.i z1 (PAL.i z2 (PAL.i a (PAL.i b PAL.n)))))))) = P63x1 h (G.rec' (T63 h) (n + 1)) (k : Int) (lit : Int) (i : Int) (hoRow we (st : Int) vh vp vf vb) z1 z2 a b := rfl
    rw [st']
    unfold P63x1
    rw [nthR_get _ _ 2 (.int .i64 (st : Int)) rfl, intK_int, boolZ_eq, ltZ_dec, ifB_if, if_neg (by simp; omega), warm63_end, List.drop_of_length_le (by omega)]
    rfl
  | m + 1, i, n + 1, a, b, him, hn, a1, a2, b1, b2 => by
    have hi : i < (ps[k]).ws.length := by omega
    have hg : ((ps[k]).ws.map Sp.row)[i]? = some ((ps[k]).ws[i]).row := by rw [List.getElem?_map, List.getElem?_eq_getElem hi]; rfl
    obtain ⟨q, hq, haq, hl⟩ := sv.rows.at hg
    have hp : (ps.map Pl.row)[k]? = some (ps[k]).row := by rw [List.getElem?_map, List.getElem?_eq_getElem hk]; rfl
    obtain ⟨q2, hq2, haq2, hl2⟩ := sp.rows.at hp
    obtain ⟨o1, o2, o3, o4, o5⟩ := ok _ (List.getElem_mem hi)
    have st' : G.rec' (T63 h) (n + 1) 1 (PAL.i (k : Int) (PAL.i (lit : Int) (PAL.i (i : Int) (PAL.l (hoRow we (st : Int) vh vp vf vb) (PAL.i z1 (PAL.i z2 (PAL.i a (PAL.i b PAL.n)))))))) = P63x1 h (G.rec' (T63 h) n) (k : Int) (lit : Int) (i : Int) (hoRow we (st : Int) vh vp vf vb) z1 z2 a b := rfl
    rw [st']
    unfold P63x1
    rw [nthR_get _ _ 2 (.int .i64 (st : Int)) rfl, intK_int, boolZ_eq, ltZ_dec, ifB_if, if_pos (by simp; omega), bit40_at h lit i hlit (by omega), optK_some', boolK_bool, ifB_if, List.drop_eq_getElem_cons hi]
    unfold warmF
    cases hb : bitB lit i with
    | true =>
      rw [if_pos rfl, if_pos rfl, nthR_get _ _ 4 vp rfl, hq2, haq2.fld 2 (x := (ps[k]).vw) rfl, hq, haq.loadN hl, show ((ps[k]).ws[i]).row = [.int .i64 (ps[k]).ws[i].lo, .int .i64 (ps[k]).ws[i].hi] from rfl, aggK_at, lenR2, ifB_if, if_pos rfl, segR2, nthR_get _ _ 0 (.int .i64 (ps[k]).ws[i].lo) rfl, intK_int, show Int.add a (ps[k]).ws[i].lo = a + (ps[k]).ws[i].lo from rfl, wrap64_in _ (by omega) (by omega), nthR_get _ _ 1 (.int .i64 (ps[k]).ws[i].hi) rfl, intK_int, show Int.add b (ps[k]).ws[i].hi = b + (ps[k]).ws[i].hi from rfl, wrap64_in _ (by omega) (by omega), build23, optK_some']
      unfold spV
      rw [aggK_at, lenR2, ifB_if, if_pos rfl, segR2, show Int.add (i : Int) (Int.ofNat 1) = ((i + 1 : Nat) : Int) from rfl, wrap64_in _ (by omega) (by omega), uncons_at, intK_int, uncons_at, intK_int, nil_at]
      exact warm63_loop sp hk sv ok hst hl3 hlit z1 z2 m (i + 1) n _ _ (by omega) (by omega) (by omega) (by omega) (by omega) (by omega)
    | false =>
      rw [if_neg (by simp), if_neg (by simp), show Int.add (i : Int) (Int.ofNat 1) = ((i + 1 : Nat) : Int) from rfl, wrap64_in _ (by omega) (by omega)]
      exact warm63_loop sp hk sv ok hst hl3 hlit z1 z2 m (i + 1) n _ _ (by omega) (by omega) (by omega) (by omega) (by omega) (by omega)
theorem warm63_at {h : Hp} {s : Ho} {r : List Value} (a : HoA h s r) (ok : HoOk s) {lit : Nat} (hlit : lit < 8) {k : Nat} (hk : k < s.pls.length) :
    F63 [.agg (Array.mk r), .int .i64 (k : Int), .int .i64 (lit : Int)] h = some (spV (warmF lit 0 (s.pls[k]).ws (s.we.lo, s.we.hi))) := by
  obtain ⟨vh, vp, vf, vb, rfl, sh, sp, sw, sf, sb⟩ := a
  obtain ⟨o1, o2, _⟩ := ok.pl k hk
  obtain ⟨t0, t3⟩ := ok.stoves
  obtain ⟨v1, v2, v3⟩ := ok.we
  have e := warm63_loop (we := s.we) (vh := vh) (vf := vf) (vb := vb) sp hk (sw _ (List.getElem_mem hk)) o2 rfl (by omega) (lit := lit) hlit (Int.ofNat 0) (Int.ofNat 0) (s.pls[k]).ws.length 0 999999 s.we.lo s.we.hi (by omega) (by omega) (by omega) (by omega) (by omega) (by omega)
  rw [List.drop_zero, o1] at e
  show plainO (P63x0 h (G.rec' (T63 h) 999999) (.agg (Array.mk (hoRow s.we s.stoves vh vp vf vb))) (k : Int) (lit : Int)) = _
  unfold P63x0
  rw [rowCells, forceL_eq, dropR_eq, takeR_eq _ _ _ (by show 2 ≤ 7; decide), aggK_at, show List.take 2 (List.drop 0 (hoRow s.we s.stoves vh vp vf vb)) = [.int .i64 s.we.lo, .int .i64 s.we.hi] from rfl, lenR2, ifB_if, if_pos rfl, segR2, uncons_at, intK_int, uncons_at, intK_int, nil_at]
  rw [show G.rec' (T63 h) 999999 1 (PAL.i (k : Int) (PAL.i (lit : Int) (PAL.i (Int.ofNat 0) (PAL.l (hoRow s.we s.stoves vh vp vf vb) (PAL.i (Int.ofNat 0) (PAL.i (Int.ofNat 0) (PAL.i s.we.lo (PAL.i s.we.hi PAL.n)))))))) = _ from e]
  rfl
end Go.Proofs.Ytekocllllbdbgaa.K.L
