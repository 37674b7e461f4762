/- The law: what surely arrives, for any show and numbers. -/
import Derived.Test.YtpjflnjlmjnmjaaGreatDoorFsS9
open Go Go.Eng
set_option maxRecDepth 100000
set_option linter.unusedVariables false
namespace Go.Proofs.YtpjflnjlmjnmjaaGreatDoor.K.L
theorem nat_mod (a b : Nat) : ((a : Int) % (b : Int)) = ((a % b : Nat) : Int) := (Int.natCast_emod a b).symm
theorem wrap_nat {ρ : Type} (n : Nat) (f : Int → Option ρ) (h : n ≤ 1000000) : wrap64 (n : Int) f = f n := wrap64_in f (by omega) (by omega)
theorem sub_nat (A B : Nat) (h : B ≤ A - 1) (h1 : 1 ≤ A) : (A : Int) - 1 - (B : Int) = ((A - 1 - B : Nat) : Int) := by omega
theorem st14_6 (n : Nat) (p q : Value) (x f z : Int) (h : Hp) : rec' T14 (n + 1) 6 (AL.v p (AL.v q (AL.i x (AL.i f (AL.i z AL.n))))) h = P14x6 (rec' T14 n) p q x f z h := rfl
theorem st14_2 (n : Nat) (p q : Value) (x f : Int) (a b c : Bool) (h : Hp) : rec' T14 (n + 1) 2 (AL.v p (AL.v q (AL.i x (AL.i f (AL.b a (AL.b b (AL.b c AL.n))))))) h = P14x2 (rec' T14 n) p q x f a b c h := rfl
theorem st14_5 (n : Nat) (p q : Value) (x f : Int) (a b : Bool) (h : Hp) : rec' T14 (n + 1) 5 (AL.v p (AL.v q (AL.i x (AL.i f (AL.b a (AL.b b AL.n)))))) h = P14x5 (rec' T14 n) p q x f a b h := rfl
theorem st14_4 (n : Nat) (p q : Value) (x : Int) (a b c : Bool) (h : Hp) : rec' T14 (n + 1) 4 (AL.v p (AL.v q (AL.i x (AL.b a (AL.b b (AL.b c AL.n)))))) h = P14x4 (rec' T14 n) p q x a b c h := rfl
section
variable {h : Hp} {s : Sh} {p vf vt : Value} {b1 : Nat} {y0 y1 : Nat}
theorem law_x4 (w : Wf h) (a : At h p (shRow s.lines vf vt)) (sf : SlA h 4 vf (s.figs.map Fg.row)) (st : SlA h 1 vt (s.ts.map inRow)) (hb : h.get b1 = some (.cells [.int .u8 (y0 : Int), .int .u8 (y1 : Int)] 73 none)) (e0 : (checkS s).2.2 = 0) (hf0 : 0 < s.figs.length) (x : Nat) (hx : inB 0 (2 ^ s.figs.length - 1) (x : Int) = true) (b : Bool) (k : Nat) (hy1 : y1 ≤ 255) :
    ∃ h', P14x4 (rec' T14 k) p (.pointer (some ⟨b1, 0, none⟩)) (x : Int) (sureB s.ts x) b b h = some (.bool true, h') := by
  have F := check_ok e0
  have F6 := F.six
  have F0 := F.some
  obtain ⟨q2, hq2, aq2⟩ := a.part 2 1 (by show 2 + 1 ≤ 3; decide)
  replace aq2 : At h q2 [vt] := aq2
  unfold P14x4
  rw [neqB, optK_some', boolK_bool, ifB_if, if_neg (by simp), hq2, aq2.load1 (x := vt) rfl, st.rows.len, List.length_map, boolZ_eq, eqZ_dec, ifB_if]
  by_cases c1 : s.ts.length = 1
  · rw [if_pos (by simp [c1]), awake_at, pairK_some', boolK_bool]; exact ⟨_, rfl⟩
  have kb : y1 % s.ts.length < s.ts.length := Nat.mod_lt _ F0
  obtain ⟨lb1, lb2⟩ := less_bit s.ts.length (by omega) _ kb
  have i1 : ∀ (ρ : Type) (kk : Value → Option ρ), idxAK 2 1 (.pointer (some ⟨b1, 0, none⟩)) (Int.ofNat 1) kk = kk (.pointer (some ⟨b1, 1, none⟩)) := fun ρ kk => rfl
  have hbS : (shutH h).get b1 = some (.cells [.int .u8 (y0 : Int), .int .u8 (y1 : Int)] 73 none) := hb
  have atS := atShut a
  have aqS := atShut aq2
  obtain ⟨p1, p2⟩ := pow_le _ F6
  have eL : Int.sub (2 ^ s.ts.length - 1) (2 ^ (y1 % s.ts.length)) = ((2 ^ s.ts.length - 1 - 2 ^ (y1 % s.ts.length) : Nat) : Int) := by
    show (2 : Int) ^ s.ts.length - 1 - 2 ^ (y1 % s.ts.length) = _
    rw [pow_nat, pow_nat]; exact sub_nat _ _ lb1 (Nat.pow_pos (by decide))
  have hlt : s.ts.length ≠ 0 := by omega
  rw [if_neg (by simp; omega), atS.loadN (z := 3) rfl, leftK_same, hq2, leftK_same]
  simp only [addAll_nil]
  rw [aqS.load1 (x := vt) rfl, leftK_same, st.rows.len, List.length_map, sets_at _ _ F6, optK_some', pairK_some', intK_int, show Int.sub ((2 : Int) ^ s.ts.length) (Int.ofNat 1) = 2 ^ s.ts.length - 1 from rfl, wrap64_in _ (by omega) (by omega), i1, leftK_same]
  simp only [addAll_nil]
  rw [load1K_ptr hbS (v := .int .u8 (y1 : Int)) rfl, intK_int, wrap64_in _ (by omega) (by omega), hq2, leftK_same]
  simp only [addAll_nil]
  rw [aqS.load1 (x := vt) rfl, leftK_same, st.rows.len, List.length_map, rem_at (by omega) (by omega), slowI_some', nat_mod, sets_at _ _ (by omega), optK_some', pairK_some', intK_int, eL, wrap_nat _ _ (Nat.le_trans (Nat.sub_le _ _) (Nat.le_trans (Nat.sub_le _ _) (Nat.le_trans lb2 (by decide))))]
  simp only [addAll_nil]
  generalize hL : 2 ^ s.ts.length - 1 - 2 ^ (y1 % s.ts.length) = L
  obtain ⟨h5, v5, e5, g5, n5⟩ := left51_at (h := shutH h) (wfShut w) L sf st F6
  obtain ⟨HH, W, gH, oH, hW, hk⟩ := kept w e5 (plainS (sf.sub g5.sub) (by simpa using hf0)) g5
  have nH : InA h HH v5 (leftF L 0 s.ts) := by
    rcases n5 with c | ⟨b2, e, hle, hg⟩
    · exact .inl c
    · exact .inr ⟨b2, e, hle, oH _ _ hle hg⟩
  rw [hk, allocK_add, show [(Value.int .i64 (Int.ofNat 0)), (Value.slice none 0 0), (Value.slice none 0 0)] = zeroS from rfl, leftK_new, hW, show Hp.mk (HH.next + 1) (Hp.ro h) (addAll [(HH.next, AObj.cells zeroS 25 none)] (Hp.objs HH)) = HH.add (.cells zeroS 25 none) from by rw [← gH.ro]; rfl]
  obtain ⟨bf, nf, cf, evf⟩ := sf.sl
  obtain ⟨bv, nv, cv, evv⟩ := nH.sl.sl
  obtain ⟨h6, g6, a6, k6, _⟩ := put_whole (z := 3) (l := shRow s.lines vf v5) gH.wf (Grew.add gH.wf (.cells zeroS 25 none)) (b := HH.next) (Nat.le_refl _) (by rw [get_add, if_pos rfl]) rfl rfl (by rw [evf, evv]; rfl)
  have shl : ShA h6 ⟨s.lines, s.figs, leftF L 0 s.ts⟩ (shRow s.lines vf v5) := ⟨vf, v5, rfl, sf.sub (gH.trans g6).sub, nH.sl.sub g6.sub⟩
  have pos : 0 < (leftF L 0 s.ts).length := by
    rw [← hL]
    rcases some_bit s.ts.length (by omega) (by omega) _ kb with c | c
    · exact leftF_pos _ _ 0 0 (by omega) (by simpa using c)
    · exact leftF_pos _ _ 0 1 (by omega) (by simpa using c)
  have hsub := leftF_sub L s.ts 0
  have hs : sureS ⟨s.lines, s.figs, leftF L 0 s.ts⟩ (x : Int) = (sureB (leftF L 0 s.ts) x, 0) := sure_in (check_less e0 hsub pos) hx
  obtain ⟨h7, e7⟩ := surely18_at (h := shutH h6) (wfShut g6.wf) shl (x : Int)
  rw [hs] at e7
  rw [k6, a6.loadN (z := 3) rfl, callQ_plain1 e7 rfl, pairK_some']
  unfold pairB
  rw [extK_at (v := .bool (sureB (leftF L 0 s.ts) x)) rfl, boolK_bool, extK_at (v := .int .i64 0) rfl, intK_int, boolZ_eq, eqZ_dec, ifB_if, if_pos (by rfl), boolN_eq, ifB_if]
  cases hi : sureB s.ts (x : Int) with
  | false => rw [if_pos (by rfl), awake_at, pairK_some', boolK_bool]; exact ⟨_, rfl⟩
  | true => rw [if_neg (by simp), ifB_if, if_pos (sure_sub hsub hi), awake_at, pairK_some', boolK_bool]; exact ⟨_, rfl⟩
theorem law_x6 (w : Wf h) (a : At h p (shRow s.lines vf vt)) (sf : SlA h 4 vf (s.figs.map Fg.row)) (st : SlA h 1 vt (s.ts.map inRow)) (hb : h.get b1 = some (.cells [.int .u8 (y0 : Int), .int .u8 (y1 : Int)] 73 none)) (e0 : (checkS s).2.2 = 0) (x f z : Nat) (hf : f < s.figs.length) (hx : x < 2 ^ s.figs.length) (hz : (bitB x f = true ∧ z = x) ∨ (bitB x f = false ∧ z = x + 2 ^ f)) (hy1 : y1 ≤ 255) (k : Nat) (hk : 100 ≤ k) :
    ∃ h', rec' T14 k 6 (AL.v p (AL.v (.pointer (some ⟨b1, 0, none⟩)) (AL.i (x : Int) (AL.i (f : Int) (AL.i (z : Int) AL.n))))) h = some (.bool true, h') := by
  have F := check_ok e0
  have F6 := F.six
  have Ff := F.figs
  obtain ⟨p1, p2⟩ := pow_le _ Ff
  have sh : ShA h s (shRow s.lines vf vt) := ⟨vf, vt, rfl, sf, st⟩
  have p64 : 2 ^ s.figs.length ≤ 64 := by rw [pow_nat] at p2; omega
  have inx : ∀ n : Nat, n < 2 ^ s.figs.length → inB 0 (2 ^ s.figs.length - 1) (n : Int) = true := fun n hn => inB_iff.2 ⟨by omega, by rw [pow_nat]; omega⟩
  have hzl : z < 2 ^ s.figs.length := by
    rcases hz with ⟨_, rfl⟩ | ⟨c, rfl⟩
    · exact hx
    · exact add_bit _ (by omega) f hf x hx c
  have h2f : 2 ^ f < 2 ^ s.figs.length := Nat.pow_lt_pow_right (by decide) hf
  have more : sureB s.ts (x : Int) = true → sureB s.ts (z : Int) = true := by
    rcases hz with ⟨_, rfl⟩ | ⟨c, rfl⟩
    · exact id
    · exact sure_more (by omega) (by omega) c
  obtain ⟨k1, hk1⟩ : ∃ k1, k = s.ts.length + 1 + (k1 + 1) + 3 := ⟨k - s.ts.length - 5, by omega⟩
  rw [hk1]
  generalize hM : s.ts.length + 1 + (k1 + 1) = M
  obtain ⟨h1, q1⟩ := surely18_at (h := shutH h) (wfShut w) sh (x : Int)
  obtain ⟨h2, q2⟩ := surely18_at (h := shutH h) (wfShut w) sh (z : Int)
  obtain ⟨h3, q3⟩ := surely18_at (h := shutH (shutH h)) (wfShut (wfShut w)) sh ((2 ^ f : Nat) : Int)
  rw [sure_in e0 (inx _ hx)] at q1
  rw [sure_in e0 (inx _ hzl)] at q2
  rw [sure_in e0 (inx _ h2f)] at q3
  rw [st14_6]
  unfold P14x6
  rw [a.loadN (z := 3) rfl, callQ_plain1 q1 rfl, pairK_some']
  unfold pairB
  rw [extK_at (v := .bool (sureB s.ts x)) rfl, boolK_bool, extK_at (v := .int .i64 0) rfl, intK_int, a.loadN (z := 3) rfl, callQ_plain1 q2 rfl, pairK_some']
  unfold pairB
  rw [extK_at (v := .bool (sureB s.ts z)) rfl, boolK_bool, extK_at (v := .int .i64 0) rfl, intK_int, a.loadN (z := 3) rfl, sets_at _ _ (by omega), optK_some', pairK_some',
    show (ifB (plainK (Value.int .i64 (2 ^ f : Int))) (some (Value.int .i64 (2 ^ f : Int), h)) none : Option (Value × Hp)) = some (Value.int .i64 (2 ^ f : Int), h) from rfl, pairK_some', intK_int, pow_nat f, callQ_plain1 (h := shutH h) q3 rfl, pairK_some',
    show (ifB (plainK (pairB (sureB s.ts ((2 ^ f : Nat) : Int), 0))) (some (pairB (sureB s.ts ((2 ^ f : Nat) : Int), 0), h)) none : Option (Value × Hp)) = some (pairB (sureB s.ts ((2 ^ f : Nat) : Int), 0), h) from rfl, pairK_some']
  unfold pairB
  rw [extK_at (v := .bool (sureB s.ts ((2 ^ f : Nat) : Int))) rfl, boolK_bool, extK_at (v := .int .i64 0) rfl, intK_int, sure_one F.small (by omega), boolN_eq, eqZ_dec, ifB_if, if_neg (by simp), boolN_eq, ifB_if, if_neg (by simp), boolN_eq, ifB_if, if_neg (by simp), ifB_if]
  have fin : ∃ h', rec' T14 (M + 2) 2 (AL.v p (AL.v (.pointer (some ⟨b1, 0, none⟩)) (AL.i (x : Int) (AL.i (f : Int) (AL.b (sureB s.ts x) (AL.b (s.ts.all (fun t => bitB t.toNat f)) (AL.b false AL.n))))))) h = some (.bool true, h') := by
    rw [st14_2]
    unfold P14x2
    rw [ifB_if, if_neg (by simp), st14_5]
    unfold P14x5
    have L := law_all (q := .pointer (some ⟨b1, 0, none⟩)) a st F.small F6 (x : Int) f (by omega) (sureB s.ts x) (s.ts.all (fun t => bitB t.toNat f)) (k1 + 1) s.ts.length 0 true (by omega)
    rw [List.drop_zero, Bool.true_and] at L
    rw [hM] at L
    rw [show (Int.ofNat 0) = ((0 : Nat) : Int) from rfl, L]
    rw [st14_4]
    exact law_x4 w a sf st hb e0 (by omega) x (inx _ hx) _ k1 hy1
  cases hi : sureB s.ts (x : Int) with
  | false => rw [hi] at fin; rw [if_neg (by simp)]; exact fin
  | true => rw [hi] at fin; rw [if_pos rfl, boolN_eq, more hi]; exact fin
end
theorem law14_at {h : Hp} (w : Wf h) {s : Sh} {r : List Value} (a : ShA h s r) (b y0 y1 : Nat) (hb : b ≤ 255) (hy0 : y0 ≤ 255) (hy1 : y1 ≤ 255) : ∃ h', F14 [.agg (Array.mk r), .int .u8 (b : Int), .agg (Array.mk [.int .u8 (y0 : Int), .int .u8 (y1 : Int)])] h = some (.bool true, h') := by
  have start : F14 [.agg (Array.mk r), .int .u8 (b : Int), .agg (Array.mk [.int .u8 (y0 : Int), .int .u8 (y1 : Int)])] h = P14x0 (rec' T14 999999) (.agg (Array.mk r)) (b : Int) (.agg (Array.mk [.int .u8 (y0 : Int), .int .u8 (y1 : Int)])) h := rfl
  rw [start]
  unfold P14x0
  rw [rowCells, rowCells, allocK_add, allocK_add]
  have g0 : Grew h (h.add (.cells r 25 none)) := Grew.add w _
  have a0 : At (h.add (.cells r 25 none)) (.pointer (some ⟨h.next, 0, none⟩)) r := At.new
  generalize h.add (.cells r 25 none) = h0 at g0 a0 ⊢
  have g1 : Grew h (h0.add (.cells [.int .u8 (y0 : Int), .int .u8 (y1 : Int)] 73 none)) := g0.trans (Grew.add g0.wf _)
  have a1 : At (h0.add (.cells [.int .u8 (y0 : Int), .int .u8 (y1 : Int)] 73 none)) (.pointer (some ⟨h.next, 0, none⟩)) r := atAdd g0.wf a0 _
  have c1 : (h0.add (.cells [.int .u8 (y0 : Int), .int .u8 (y1 : Int)] 73 none)).get h0.next = some (.cells [.int .u8 (y0 : Int), .int .u8 (y1 : Int)] 73 none) := by rw [get_add, if_pos rfl]
  generalize h0.add (.cells [.int .u8 (y0 : Int), .int .u8 (y1 : Int)] 73 none) = h1 at g1 a1 c1 ⊢
  have sh := a.sub g1.sub
  obtain ⟨vf, vt, rfl, sf, st⟩ := id sh
  have w1 := g1.wf
  obtain ⟨h2, e2⟩ := valid41_at (h := shutH h1) (wfShut w1) sh
  rw [a1.loadN (z := 3) rfl, callQ_plain1 e2 rfl, pairK_some', boolK_bool, boolN_eq, ifB_if]
  generalize Value.pointer (some ⟨h.next, 0, none⟩) = p at a1 ⊢
  have st1 : ∀ (c : Bool), rec' T14 999999 1 (AL.i (b : Int) (AL.v p (AL.v (.pointer (some ⟨h0.next, 0, none⟩)) (AL.b c AL.n)))) h1 = P14x1 (rec' T14 999998) (b : Int) p (.pointer (some ⟨h0.next, 0, none⟩)) c h1 := fun c => rfl
  by_cases e0 : (checkS s).2.2 = 0
  case neg =>
    have hs : sureS s 0 = (false, (checkS s).2.2) := by unfold sureS; rw [if_pos e0]
    rw [if_pos (by simp [e0]), st1]
    exact law_x1 w1 a1 sh _ _ (by rw [hs]) (by rw [hs])
  have F := check_ok e0
  rw [if_neg (by simp [e0]), a1.fld 1 (x := vf) rfl, sf.rows.len, List.length_map, boolZ_eq, eqZ_dec, st1]
  by_cases c0 : s.figs.length = 0
  · have hs : sureS s 0 = (sureB s.ts 0, 0) := sure_in e0 (by rw [c0]; rfl)
    rw [show decide ((s.figs.length : Int) = Int.ofNat 0) = true from by simp [c0]]
    exact law_x1 w1 a1 sh _ _ (by rw [hs]; exact sure_zero F.some) (by rw [hs, e0])
  rw [show decide ((s.figs.length : Int) = Int.ofNat 0) = false from by simp; intro e; exact c0 (by rw [e]; rfl)]
  have Ff := F.figs
  obtain ⟨p1, p2⟩ := pow_le _ Ff
  have i0 : ∀ (ρ : Type) (kk : Value → Option ρ), idxAK 2 1 (.pointer (some ⟨h0.next, 0, none⟩)) (Int.ofNat 0) kk = kk (.pointer (some ⟨h0.next, 0, none⟩)) := fun ρ kk => rfl
  have st7 : rec' T14 999998 7 (AL.i (b : Int) (AL.v p (AL.v (.pointer (some ⟨h0.next, 0, none⟩)) AL.n))) h1 = P14x7 (rec' T14 999997) (b : Int) p (.pointer (some ⟨h0.next, 0, none⟩)) h1 := rfl
  have hx : b % 2 ^ s.figs.length < 2 ^ s.figs.length := Nat.mod_lt _ (Nat.pow_pos (by decide))
  have hf : y0 % s.figs.length < s.figs.length := Nat.mod_lt _ (by omega)
  have h2f : 2 ^ (y0 % s.figs.length) ≤ 64 := by
    have := Nat.pow_le_pow_right (show 0 < 2 by decide) (show y0 % s.figs.length ≤ 6 by omega)
    exact this
  have p64 : 2 ^ s.figs.length ≤ 64 := by rw [pow_nat] at p2; omega
  unfold P14x1
  rw [ifB_if, if_neg (by simp), st7]
  unfold P14x7
  rw [wrap64_in _ (by omega) (by omega), a1.fld 1 (x := vf) rfl, sf.rows.len, List.length_map, sets_at _ _ Ff, optK_some', pairK_some', intK_int, rem_at (by omega) (by omega), slowI_some', pow_nat s.figs.length, nat_mod, i0, load1K_ptr c1 (v := .int .u8 (y0 : Int)) rfl, intK_int, wrap64_in _ (by omega) (by omega), a1.fld 1 (x := vf) rfl, sf.rows.len, List.length_map, rem_at (by omega) (by omega), slowI_some', nat_mod, bit42_at _ _ _ (by omega), optK_some', pairK_some', boolK_bool, boolN_eq, ifB_if]
  cases hbit : bitB (b % 2 ^ s.figs.length) (y0 % s.figs.length) with
  | true =>
    rw [if_neg (by simp)]
    exact law_x6 w1 a1 sf st c1 e0 _ _ _ hf hx (.inl ⟨hbit, rfl⟩) hy1 999997 (by omega)
  | false =>
    rw [if_pos (by rfl), sets_at _ _ (by omega), optK_some', pairK_some', intK_int, show Int.add ((b % 2 ^ s.figs.length : Nat) : Int) (2 ^ (y0 % s.figs.length)) = ((b % 2 ^ s.figs.length + 2 ^ (y0 % s.figs.length) : Nat) : Int) from by rw [pow_nat]; rfl, wrap_nat _ _ (Nat.le_trans (Nat.add_le_add (Nat.le_trans (Nat.le_of_lt hx) p64) h2f) (by decide))]
    exact law_x6 w1 a1 sf st c1 e0 _ _ _ hf hx (.inr ⟨hbit, rfl⟩) hy1 999997 (by omega)
end Go.Proofs.YtpjflnjlmjnmjaaGreatDoor.K.L
