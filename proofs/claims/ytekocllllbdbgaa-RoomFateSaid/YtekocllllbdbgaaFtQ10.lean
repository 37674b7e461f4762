/- Contracts of told functions: stoves, warmth. -/
import Derived.Test.YtekocllllbdbgaaFtQ9
open Go Go.Eng
set_option maxRecDepth 100000
set_option linter.unusedVariables false
namespace Go.Proofs.Ytekocllllbdbgaa.K.L
theorem lit60_at {h : Hp} (w : Wf h) {we : Sp} {stoves : Nat} {vh vp vf vb : Value} (hs3 : stoves ≤ 3) (lit : Int) : ∃ h', F60 [.agg (Array.mk (hoRow we stoves vh vp vf vb)), .int .i64 lit] h = some (.int .i64 (if inB 0 (2 ^ stoves - 1) lit then 0 else 7), h') := by
  have start : F60 [.agg (Array.mk (hoRow we stoves vh vp vf vb)), .int .i64 lit] h = P60x0 (rec' T60 999999) (.agg (Array.mk (hoRow we stoves vh vp vf vb))) lit h := rfl
  rw [start]
  unfold P60x0
  rw [rowCells, allocK_add]
  have w1 := w.add (.cells (hoRow we stoves vh vp vf vb) 97 none)
  have a1 : At (h.add (.cells (hoRow we stoves vh vp vf vb) 97 none)) (.pointer (some ⟨h.next, 0, none⟩)) (hoRow we stoves vh vp vf vb) := At.new
  generalize h.add (.cells (hoRow we stoves vh vp vf vb) 97 none) = h1 at w1 a1 ⊢
  obtain ⟨p1, p2⟩ := pow_le stoves (by omega)
  obtain ⟨q, hq, aq⟩ := a1.part 0 7 (by show 7 ≤ 7; decide)
  rw [hq, aq.fld 2 (x := .int .i64 (stoves : Int)) rfl, intK_int, pow_at _ stoves (by omega), one24, pairK_some', index59_at h1 (by omega), optK_some', pairK_some', boolK_bool, boolN_eq, ifB_if]
  cases inB 0 (2 ^ stoves - 1) lit with
  | false => rw [if_pos (by rfl), if_neg (by simp)]; exact ⟨_, rfl⟩
  | true => rw [if_neg (by simp), if_pos rfl]; exact ⟨_, rfl⟩
def bitB (a b : Nat) : Bool := Nat.testBit a b
theorem has100_at (h : Hp) : ∀ a b : Nat, a < 8 → b < 3 → F100 [.int .i64 (a : Int), .int .i64 (b : Int)] h = some (.bool (bitB a b))
  | 0, 0, _, _ => by kernel_rfl
  | 0, 1, _, _ => by kernel_rfl
  | 0, 2, _, _ => by kernel_rfl
  | 1, 0, _, _ => by kernel_rfl
  | 1, 1, _, _ => by kernel_rfl
  | 1, 2, _, _ => by kernel_rfl
  | 2, 0, _, _ => by kernel_rfl
  | 2, 1, _, _ => by kernel_rfl
  | 2, 2, _, _ => by kernel_rfl
  | 3, 0, _, _ => by kernel_rfl
  | 3, 1, _, _ => by kernel_rfl
  | 3, 2, _, _ => by kernel_rfl
  | 4, 0, _, _ => by kernel_rfl
  | 4, 1, _, _ => by kernel_rfl
  | 4, 2, _, _ => by kernel_rfl
  | 5, 0, _, _ => by kernel_rfl
  | 5, 1, _, _ => by kernel_rfl
  | 5, 2, _, _ => by kernel_rfl
  | 6, 0, _, _ => by kernel_rfl
  | 6, 1, _, _ => by kernel_rfl
  | 6, 2, _, _ => by kernel_rfl
  | 7, 0, _, _ => by kernel_rfl
  | 7, 1, _, _ => by kernel_rfl
  | 7, 2, _, _ => by kernel_rfl
  | a + 8, _, h, _ => absurd h (by omega)
  | _, b + 3, _, h => absurd h (by omega)
theorem bit40_at (h : Hp) : ∀ a b : Nat, a < 8 → b < 3 → F40 [.int .i64 (a : Int), .int .i64 (b : Int)] h = some (.bool (bitB a b))
  | 0, 0, _, _ => by kernel_rfl
  | 0, 1, _, _ => by kernel_rfl
  | 0, 2, _, _ => by kernel_rfl
  | 1, 0, _, _ => by kernel_rfl
  | 1, 1, _, _ => by kernel_rfl
  | 1, 2, _, _ => by kernel_rfl
  | 2, 0, _, _ => by kernel_rfl
  | 2, 1, _, _ => by kernel_rfl
  | 2, 2, _, _ => by kernel_rfl
  | 3, 0, _, _ => by kernel_rfl
  | 3, 1, _, _ => by kernel_rfl
  | 3, 2, _, _ => by kernel_rfl
  | 4, 0, _, _ => by kernel_rfl
  | 4, 1, _, _ => by kernel_rfl
  | 4, 2, _, _ => by kernel_rfl
  | 5, 0, _, _ => by kernel_rfl
  | 5, 1, _, _ => by kernel_rfl
  | 5, 2, _, _ => by kernel_rfl
  | 6, 0, _, _ => by kernel_rfl
  | 6, 1, _, _ => by kernel_rfl
  | 6, 2, _, _ => by kernel_rfl
  | 7, 0, _, _ => by kernel_rfl
  | 7, 1, _, _ => by kernel_rfl
  | 7, 2, _, _ => by kernel_rfl
  | a + 8, _, h, _ => absurd h (by omega)
  | _, b + 3, _, h => absurd h (by omega)
def warmF (lit : Nat) : Nat → List Sp → Int × Int → Int × Int
  | _, [], x => x
  | i, g :: l, x => warmF lit (i + 1) l (if bitB lit i then (x.1 + g.lo, x.2 + g.hi) else x)
def SpsOk (ws : List Sp) : Prop := ∀ g ∈ ws, 0 ≤ g.lo ∧ g.lo ≤ 60 ∧ 0 ≤ g.hi ∧ g.hi ≤ 60 ∧ g.lo ≤ g.hi
def spV (x : Int × Int) : Value := .agg (Array.mk [.int .i64 x.1, .int .i64 x.2])
theorem segR2 {ρ : Type} (a b c d : Int) (k : List Value → Option ρ) : segR 0 [.int .i64 a, .int .i64 b] [.int .i64 c, .int .i64 d] k = k [.int .i64 a, .int .i64 b] := by
  rw [segR_eq _ _ _ _ (by simp) (by rfl)]; rfl
theorem aggK_at {ρ : Type} (l : List Value) (f : List Value → Option ρ) : aggK (.agg (Array.mk l)) f = f l := rfl
theorem lenR2 (a b : Value) : Nat.beq (lenR [a, b]) 2 = true := rfl
theorem warm61_end (h : Hp) (n : Nat) (z1 z2 a b : Int) : G.rec' (T61 h) (n + 1) 2 (PAL.i z1 (PAL.i z2 (PAL.i a (PAL.i b PAL.n)))) = some (spV (a, b)) := by
  show P61x2 h (G.rec' (T61 h) n) z1 z2 a b = _
  unfold P61x2
  rw [aggK_at, lenR2, ifB_if, if_pos rfl, segR2, dropR_eq, takeR_eq _ _ _ (by simp)]
  rfl
theorem warm61_loop {h : Hp} {vw : Value} {ws : List Sp} (hr : Eng.Rows h 2 vw (ws.map Sp.row)) (ok : SpsOk ws) (hl3 : ws.length ≤ 3) {lit : Nat} (hlit : lit < 8) {c : List Value} (hc : c[7]? = some (.int .i64 (lit : Int))) (z1 z2 : Int) : ∀ m i n (a b : Int), i + m = ws.length → m + 2 ≤ n → -200 - 100 * i ≤ a → a ≤ 200 + 100 * i → -200 - 100 * i ≤ b → b ≤ 200 + 100 * i →
    G.rec' (T61 h) n 1 (PAL.v vw (PAL.i (ws.length : Int) (PAL.i (i : Int) (PAL.l c (PAL.i z1 (PAL.i z2 (PAL.i a (PAL.i b PAL.n)))))))) = some (spV (warmF lit i (ws.drop i) (a, b)))
  | 0, i, n + 2, a, b, him, hn, _, _, _, _ => by
    have st : G.rec' (T61 h) (n + 2) 1 (PAL.v vw (PAL.i (ws.length : Int) (PAL.i (i : Int) (PAL.l c (PAL.i z1 (PAL.i z2 (PAL.i a (PAL.i b PAL.n)))))))) = P61x1 h (G.rec' (T61 h) (n + 1)) vw (ws.length : Int) (i : Int) c z1 z2 a b := rfl
    rw [st]
    unfold P61x1
    rw [boolZ_eq, ltZ_dec, ifB_if, if_neg (by simp; omega), warm61_end, List.drop_of_length_le (by omega)]
    rfl
  | m + 1, i, n + 1, a, b, him, hn, a1, a2, b1, b2 => by
    have hi : i < ws.length := by omega
    have hg : (ws.map Sp.row)[i]? = some (ws[i]).row := by rw [List.getElem?_map, List.getElem?_eq_getElem hi]; rfl
    obtain ⟨q, hq, haq, hl⟩ := hr.at hg
    obtain ⟨o1, o2, o3, o4, o5⟩ := ok _ (List.getElem_mem hi)
    have st : G.rec' (T61 h) (n + 1) 1 (PAL.v vw (PAL.i (ws.length : Int) (PAL.i (i : Int) (PAL.l c (PAL.i z1 (PAL.i z2 (PAL.i a (PAL.i b PAL.n)))))))) = P61x1 h (G.rec' (T61 h) n) vw (ws.length : Int) (i : Int) c z1 z2 a b := rfl
    rw [st]
    unfold P61x1
    rw [boolZ_eq, ltZ_dec, ifB_if, if_pos (by simp; omega), hq, haq.loadN hl, show (ws[i]).row = [.int .i64 ws[i].lo, .int .i64 ws[i].hi] from rfl, aggK_at, lenR2, ifB_if, if_pos rfl, segR2, nthR_get _ _ 7 _ hc, intK_int, has100_at h lit i hlit (by omega), optK_some', boolK_bool, ifB_if, List.drop_eq_getElem_cons hi]
    unfold warmF
    cases hb : bitB lit i with
    | true =>
      rw [if_pos rfl, if_pos rfl, nthR_get _ _ 0 (.int .i64 ws[i].lo) rfl, intK_int, show Int.add a ws[i].lo = a + ws[i].lo from rfl, wrap64_in _ (by omega) (by omega), nthR_get _ _ 1 (.int .i64 ws[i].hi) rfl, intK_int, show Int.add b ws[i].hi = b + ws[i].hi from rfl, wrap64_in _ (by omega) (by omega), show Int.add (i : Int) (Int.ofNat 1) = ((i + 1 : Nat) : Int) from rfl, wrap64_in _ (by omega) (by omega)]
      exact warm61_loop hr ok hl3 hlit hc z1 z2 m (i + 1) n _ _ (by omega) (by omega) (by omega) (by omega) (by omega) (by omega)
    | false =>
      rw [if_neg (by simp), if_neg (by simp), show Int.add (i : Int) (Int.ofNat 1) = ((i + 1 : Nat) : Int) from rfl, wrap64_in _ (by omega) (by omega)]
      exact warm61_loop hr ok hl3 hlit hc z1 z2 m (i + 1) n _ _ (by omega) (by omega) (by omega) (by omega) (by omega) (by omega)
theorem warm61_at {h : Hp} {s : Ho} {r : List Value} (a : HoA h s r) (hw : -100 ≤ s.we.lo ∧ s.we.lo ≤ 100 ∧ -100 ≤ s.we.hi ∧ s.we.hi ≤ 100) {lit : Nat} (hlit : lit < 8) {k : Nat} (hk : k < s.pls.length) (ok : SpsOk (s.pls[k]).ws) (hl3 : (s.pls[k]).ws.length ≤ 3) :
    F61 [.agg (Array.mk (r ++ [.int .i64 (lit : Int)])), .int .i64 (k : Int)] h = some (spV (warmF lit 0 (s.pls[k]).ws (s.we.lo, s.we.hi))) := by
  obtain ⟨vh, vp, vf, vb, rfl, sh, sp, sw, sf, sb⟩ := a
  have hg : (s.pls.map Pl.row)[k]? = some (s.pls[k]).row := by rw [List.getElem?_map, List.getElem?_eq_getElem hk]; rfl
  obtain ⟨q, hq, haq, hl⟩ := sp.rows.at hg
  have sv := sw _ (List.getElem_mem hk)
  have e := warm61_loop (lit := lit) sv.rows ok hl3 hlit (c := hoRow s.we s.stoves vh vp vf vb ++ [.int .i64 (lit : Int)]) rfl ((0 : Nat) : Int) ((0 : Nat) : Int) (s.pls[k]).ws.length 0 999999 s.we.lo s.we.hi (by omega) (by omega) (by omega) (by omega) (by omega) (by omega)
  rw [List.drop_zero] at e
  show plainO (P61x0 h (G.rec' (T61 h) 999999) (.agg (Array.mk (hoRow s.we s.stoves vh vp vf vb ++ [.int .i64 (lit : Int)]))) (k : Int)) = _
  unfold P61x0
  rw [rowCells, forceL_eq, dropR_eq, takeR_eq _ _ _ (by show 2 ≤ 8; decide), aggK_at, show List.take 2 (List.drop 0 (hoRow s.we s.stoves vh vp vf vb ++ [.int .i64 (lit : Int)])) = [.int .i64 s.we.lo, .int .i64 s.we.hi] from rfl, lenR2, ifB_if, if_pos rfl, segR2, nthR_get _ _ 4 vp rfl, hq, haq.fld 2 (x := (s.pls[k]).vw) rfl, sv.rows.len, List.length_map, uncons_at, intK_int, uncons_at, intK_int, nil_at, show (Int.ofNat 0) = ((0 : Nat) : Int) from rfl, e]
  rfl
end Go.Proofs.Ytekocllllbdbgaa.K.L
