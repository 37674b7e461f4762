/- Contracts of told functions: what becomes of a figure, in the code. -/
import Derived.Test.YtekocllllbdbgaaFtQ11
open Go Go.Eng
set_option maxRecDepth 100000
set_option linter.unusedVariables false
namespace Go.Proofs.Ytekocllllbdbgaa.K.L
theorem leftK_same (v : Value) (n : Nat) (o : T AObj) (k : List (Nat × AObj) → Nat → CRes) : leftK v n (Hp.mk n n o) k = k [] n := by
  unfold leftK
  rw [ifB_if]
  by_cases hp : plainK v = true
  · rw [if_pos hp]
  · rw [if_neg hp, show Nat.ble n (Hp.mk n n o).next = true from by rw [Nat.ble_eq]; exact Nat.le_refl _, ifB_if, if_pos rfl, show Nat.sub (Hp.mk n n o).next n = 0 from Nat.sub_self n]
    rfl
theorem leftK_new (n : Nat) (o : T AObj) (x : AObj) (k : List (Nat × AObj) → Nat → CRes) : leftK (.pointer (some ⟨n, 0, none⟩)) n ((Hp.mk n n o).add x) k = k [(n, x)] (n + 1) := by
  unfold leftK
  rw [show plainK (.pointer (some ⟨n, 0, none⟩)) = false from rfl, ifB_if, if_neg (by simp), show ((Hp.mk n n o).add x).next = n + 1 from rfl, show Nat.ble n (n + 1) = true from by rw [Nat.ble_eq]; omega, ifB_if, if_pos rfl, show Nat.sub (n + 1) n = 1 from by show n + 1 - n = 1; omega]
  have hg : ((Hp.mk n n o).add x).get n = some x := by rw [get_add, if_pos rfl]
  show k (match ((Hp.mk n n o).add x).get n with | some o' => (n, o') :: [] | none => []) (n + 1) = _
  rw [hg]
theorem storeV_two (h : Hp) {b : Nat} {c : List Value} {e : TypeId} {s : Option Nat} (hg : h.get b = some (.cells c e s)) (hc : c.length = 2) (hro : h.ro ≤ b) (x : Int × Int) : storeV env h 23 (.pointer (some ⟨b, 0, none⟩)) (spV x) = some (h.upd b (.cells [.int .i64 x.1, .int .i64 x.2] e s)) := by
  unfold storeV spV
  rw [show addrOf (.pointer (some ⟨b, 0, none⟩)) = some ⟨b, 0, none⟩ from rfl]
  simp only [Option.bind_some, size23]
  show ok? true (putCells h ⟨b, 0, none⟩ [.int .i64 x.1, .int .i64 x.2]) = _
  unfold putCells
  simp only [ok?, hg]
  rw [show Nat.ble h.ro b = true from by rw [Nat.ble_eq]; exact hro]
  simp only
  rw [show Nat.ble (0 + [Value.int .i64 x.1, Value.int .i64 x.2].length) c.length = true from by rw [Nat.ble_eq, hc]; exact Nat.le_refl _]
  rw [show c.drop (0 + [Value.int .i64 x.1, Value.int .i64 x.2].length) = [] from List.drop_of_length_le (by rw [hc]; exact Nat.le_refl _)]
  rfl
theorem eql23 (xo yo : Operand) (a b c d : Int) : binV env .eql 23 xo yo (spV (a, b)) (spV (c, d)) = some (.bool (decide (a = c) && decide (b = d))) := by
  have e : binV env .eql 23 xo yo (spV (a, b)) (spV (c, d)) = some (.bool (intEq a c && (intEq b d && true))) := by kernel_rfl
  rw [e, intEq_eq, intEq_eq, Bool.and_true]; rfl
def fateS (x : Int × Int) (g : Fi) : Int :=
  if max x.1 g.cr = x.1 ∧ min x.2 g.sl = x.2 then 1 else if min x.2 g.sl < max x.1 g.cr then 2 else 0
noncomputable def zero56 : List Value := [(Value.string (ByteArray.mk #[])), (Value.int .i64 (Int.ofNat 0)), (Value.int .i64 (Int.ofNat 0)), (Value.int .i64 (Int.ofNat 0)), (Value.int .i64 (Int.ofNat 0)), (Value.int .i64 (Int.ofNat 0))]
theorem fate64_at {h : Hp} (w : Wf h) {s : Ho} {r : List Value} (a : HoA h s r) (ok : HoOk s) {lit : Nat} (hlit : lit < 8) {k f : Nat} (hk : k < s.pls.length) (hf : f < s.figs.length) :
    ∃ h', F64 [.agg (Array.mk (r ++ [.int .i64 (lit : Int)])), .int .i64 (f : Int), .int .i64 (k : Int)] h = some (.int .i64 (fateS (warmF lit 0 (s.pls[k]).ws (s.we.lo, s.we.hi)) (s.figs[f])), h') := by
  have start : F64 [.agg (Array.mk (r ++ [.int .i64 (lit : Int)])), .int .i64 (f : Int), .int .i64 (k : Int)] h = P64x0 (rec' T64 999999) (.agg (Array.mk (r ++ [.int .i64 (lit : Int)]))) (f : Int) (k : Int) h := rfl
  rw [start]
  clear start
  unfold P64x0
  have hr7 := a.len
  rw [rowCells, allocK_add]
  have g0 := Grew.add w (.cells (r ++ [.int .i64 (lit : Int)]) 103 none)
  have a0 : At (h.add (.cells (r ++ [.int .i64 (lit : Int)]) 103 none)) (.pointer (some ⟨h.next, 0, none⟩)) (r ++ [.int .i64 (lit : Int)]) := At.new
  generalize h.add (.cells (r ++ [.int .i64 (lit : Int)]) 103 none) = h0 at g0 a0 ⊢
  generalize Value.pointer (some ⟨h.next, 0, none⟩) = p at a0 ⊢
  have s0 := a.sub g0.sub
  obtain ⟨o1, o2, _⟩ := ok.pl k hk
  obtain ⟨t0, t3⟩ := ok.stoves
  have w61 := warm61_at (h := Hp.mk h0.next h0.next h0.objs) s0 (by have := ok.we; omega) (lit := lit) hlit hk o2 (by omega)
  generalize warmF lit 0 (s.pls[k]).ws (s.we.lo, s.we.hi) = x at w61 ⊢
  obtain ⟨vh, vp, vf, vb, hrow, sh, sp, sw, sf, sb⟩ := s0
  have ll : (r ++ [Value.int .i64 (lit : Int)]).length = 8 := by rw [List.length_append, hr7]; rfl
  have at0 : ∀ n m : Nat, At (Hp.mk n m h0.objs) p (r ++ [.int .i64 (lit : Int)]) := fun n m => a0
  have hg : (s.figs.map Fi.row)[f]? = some (s.figs[f]).row := by rw [List.getElem?_map, List.getElem?_eq_getElem hf]; rfl
  obtain ⟨q, hq, haq, hl⟩ := sf.rows.at hg
  have haq0 : ∀ n m : Nat, At (Hp.mk n m h0.objs) q (s.figs[f]).row := fun n m => haq
  rw [(at0 _ _).loadN (z := 8) ll, leftK_same]
  show ∃ h', (pairK (optK (F61 [_, _] (Hp.mk h0.next h0.next h0.objs)) fun v => some (v, Hp.mk h0.next h0.next h0.objs)) fun v3 h3 => _) = _
  rw [w61, optK_some', pairK_some', leftK_same]
  obtain ⟨q1, hq1, aq1⟩ := a0.part 0 8 (by omega)
  obtain ⟨q2, hq2, aq2⟩ := aq1.part 0 8 (by simp; omega)
  rw [hq1, leftK_same, hq2, leftK_same]
  have f5 : ∀ (n m : Nat) (ρ : Type) (k : Value → Option ρ), (ptrAddK 5 q2 fun v9 => load1K (Hp.mk n m h0.objs) v9 k) = k vf := fun n m ρ k => At.fld (h := Hp.mk n m h0.objs) (r := ((r ++ [Value.int .i64 (lit : Int)]).drop 0 |>.take 8).drop 0 |>.take 8) aq2 5 (x := vf) (by
    rw [hrow]; rfl) k
  obtain ⟨q3, hq3, aq3⟩ := aq2.part 5 1 (by simp; omega)
  rw [hq3, leftK_same]
  have l3 : ∀ (n m : Nat) (k : Value → CRes), load1K (Hp.mk n m h0.objs) q3 k = k vf := by
    intro n m k
    have := f5 n m _ k
    rw [hq3] at this
    exact this
  show ∃ h', (load1K (Hp.mk h0.next h0.next h0.objs) q3 fun v11 => _) = _
  rw [l3]
  show ∃ h', (leftK vf h0.next (Hp.mk h0.next h0.next h0.objs) fun w12 n12 => _) = _
  rw [leftK_same, hq, leftK_same]
  show ∃ h', (loadNK 6 (Hp.mk h0.next h0.next h0.objs) q fun v15 => _) = _
  rw [(haq0 _ _).loadN (z := 6) hl]
  show ∃ h', (leftK (.agg (Array.mk (s.figs[f]).row)) h0.next (Hp.mk h0.next h0.next h0.objs) fun w16 n16 => _) = _
  rw [leftK_same, allocK_add, show (Hp.mk h0.next h0.next T.nil).next = h0.next from rfl, leftK_new, allocK_add, show (Hp.mk (h0.next + 1) (h0.next + 1) T.nil).next = h0.next + 1 from rfl, leftK_new]
  have hsub : Sub h0 (((h0.add (.cells [(Value.int .i64 (Int.ofNat 0)), (Value.int .i64 (Int.ofNat 0))] 23 none)).add (.cells zero56 56 none)).upd h0.next (.cells [.int .i64 x.1, .int .i64 x.2] 23 none)) := by
    intro i o e
    have := g0.wf.2 i o e
    rw [get_upd, if_neg (by omega), get_add, if_neg (by rw [add_next]; omega), get_add, if_neg (by omega)]
    exact e
  have sq : ∀ k : List (Nat × AObj) → CRes, storeQ env 23 (.pointer (some ⟨h0.next, 0, none⟩)) (spV x) (h0.next + 1 + 1) h0.next (addAll [(h0.next + 1, .cells zero56 56 none)] (addAll [(h0.next, .cells [(Value.int .i64 (Int.ofNat 0)), (Value.int .i64 (Int.ofNat 0))] 23 none)] (addAll [] (addAll [] h0.objs)))) (fun b => (hasBlk [] b || (hasBlk [] b || (hasBlk [] b || (hasBlk [(h0.next, .cells [(Value.int .i64 (Int.ofNat 0)), (Value.int .i64 (Int.ofNat 0))] 23 none)] b || (hasBlk [(h0.next + 1, .cells zero56 56 none)] b || false)))))) k = k [(h0.next, .cells [.int .i64 x.1, .int .i64 x.2] 23 none)] := by
    intro k
    rw [show addAll [] (addAll [] h0.objs) = h0.objs from rfl]
    unfold storeQ
    rw [show addrOf (.pointer (some ⟨h0.next, 0, none⟩)) = some ⟨h0.next, 0, none⟩ from rfl]
    have hh : hasBlk [(h0.next, AObj.cells [(Value.int .i64 (Int.ofNat 0)), (Value.int .i64 (Int.ofNat 0))] 23 none)] h0.next = true := by unfold hasBlk; simp
    simp only [hh, Bool.true_or, Bool.or_true]
    rw [ifB_if, if_pos rfl]
    have hget : Hp.get ⟨h0.next + 1 + 1, h0.next, addAll [(h0.next + 1, AObj.cells zero56 56 none)] (addAll [(h0.next, AObj.cells [(Value.int .i64 (Int.ofNat 0)), (Value.int .i64 (Int.ofNat 0))] 23 none)] h0.objs)⟩ h0.next = some (.cells [(Value.int .i64 (Int.ofNat 0)), (Value.int .i64 (Int.ofNat 0))] 23 none) := by
      show ((h0.add (.cells [(Value.int .i64 (Int.ofNat 0)), (Value.int .i64 (Int.ofNat 0))] 23 none)).add (.cells zero56 56 none)).get h0.next = _
      rw [get_add, if_neg (by rw [add_next]; omega), get_add, if_pos rfl]
    rw [storeV_two _ hget rfl (Nat.le_refl _), optK_some']
    rw [show Nat.beq (Hp.upd ⟨h0.next + 1 + 1, h0.next, addAll [(h0.next + 1, AObj.cells zero56 56 none)] (addAll [(h0.next, AObj.cells [(Value.int .i64 (Int.ofNat 0)), (Value.int .i64 (Int.ofNat 0))] 23 none)] h0.objs)⟩ h0.next (.cells [.int .i64 x.1, .int .i64 x.2] 23 none)).next (h0.next + 1 + 1) = true from Nat.beq_refl _, ifB_if, if_pos rfl, get_upd, if_pos rfl, optK_some']
  rw [show [(Value.string (ByteArray.mk #[])), (Value.int .i64 (Int.ofNat 0)), (Value.int .i64 (Int.ofNat 0)), (Value.int .i64 (Int.ofNat 0)), (Value.int .i64 (Int.ofNat 0)), (Value.int .i64 (Int.ofNat 0))] = zero56 from rfl, sq]
  show ∃ h', (storeNK 6 (((h0.add (.cells [(Value.int .i64 (Int.ofNat 0)), (Value.int .i64 (Int.ofNat 0))] 23 none)).add (.cells zero56 56 none)).upd h0.next (.cells [.int .i64 x.1, .int .i64 x.2] 23 none)) (.pointer (some ⟨h0.next + 1, 0, none⟩)) (.agg (Array.mk (s.figs[f]).row)) fun h22 => _) = _
  have gN : Grew h (((h0.add (.cells [(Value.int .i64 (Int.ofNat 0)), (Value.int .i64 (Int.ofNat 0))] 23 none)).add (.cells zero56 56 none)).upd h0.next (.cells [.int .i64 x.1, .int .i64 x.2] 23 none)) :=
    Grew.upd w ((g0.trans (Grew.add g0.wf _)).trans (Grew.add (g0.wf.add _) _)) g0.next (by rw [add_next, add_next]; omega) _
  have cx : (((h0.add (.cells [(Value.int .i64 (Int.ofNat 0)), (Value.int .i64 (Int.ofNat 0))] 23 none)).add (.cells zero56 56 none)).upd h0.next (.cells [.int .i64 x.1, .int .i64 x.2] 23 none)).get h0.next = some (.cells [.int .i64 x.1, .int .i64 x.2] 23 none) := by rw [get_upd, if_pos rfl]
  have cz : (((h0.add (.cells [(Value.int .i64 (Int.ofNat 0)), (Value.int .i64 (Int.ofNat 0))] 23 none)).add (.cells zero56 56 none)).upd h0.next (.cells [.int .i64 x.1, .int .i64 x.2] 23 none)).get (h0.next + 1) = some (.cells zero56 56 none) := by
    rw [get_upd, if_neg (by omega), get_add, if_pos (by rw [add_next])]
  generalize ((h0.add (.cells [(Value.int .i64 (Int.ofNat 0)), (Value.int .i64 (Int.ofNat 0))] 23 none)).add (.cells zero56 56 none)).upd h0.next (.cells [.int .i64 x.1, .int .i64 x.2] 23 none) = hN at gN cx cz ⊢
  obtain ⟨h22, g22, a22, k22, o22⟩ := put_whole (z := 6) (l := (s.figs[f]).row) w gN (b := h0.next + 1) (by have := g0.next; omega) cz rfl rfl rfl
  have ax : At h22 (.pointer (some ⟨h0.next, 0, none⟩)) [.int .i64 x.1, .int .i64 x.2] := ⟨h0.next, 0, _, 23, none, rfl, o22 _ _ (by omega) cx, by simp, fun k y hy => by simpa using hy⟩
  rw [k22, ax.fld 0 (x := .int .i64 x.1) rfl, intK_int, a22.fld 3 (x := .int .i64 (s.figs[f]).cr) rfl, intK_int, maxZ_eq, ax.fld 1 (x := .int .i64 x.2) rfl, intK_int, a22.fld 4 (x := .int .i64 (s.figs[f]).sl) rfl, intK_int, minZ_eq, build23, optK_some']
  obtain ⟨h39, p38, g39, a39, k39⟩ := alloc_store (ρ := Value × Hp) (z := 2) g22.wf 23 (c := [(Value.int .i64 (Int.ofNat 0)), (Value.int .i64 (Int.ofNat 0))]) (l := [.int .i64 (max x.1 (s.figs[f]).cr), .int .i64 (min x.2 (s.figs[f]).sl)]) rfl rfl rfl (fun _ _ => none)
  show ∃ h', (allocK h22 23 [(Value.int .i64 (Int.ofNat 0)), (Value.int .i64 (Int.ofNat 0))] fun a38 h38 => storeNK 2 h38 a38 (.agg (Array.mk [.int .i64 (max x.1 (s.figs[f]).cr), .int .i64 (min x.2 (s.figs[f]).sl)])) fun h39 => _) = _
  have ax3 := ax.sub g39.sub
  rw [k39, a39.loadN (z := 2) rfl, ax3.loadN (z := 2) rfl]
  show ∃ h', (optK (binV env .eql 23 (Operand.tmp 32) (Operand.tmp 33) (spV (max x.1 (s.figs[f]).cr, min x.2 (s.figs[f]).sl)) (spV (x.1, x.2))) fun v42 => _) = _
  rw [eql23, optK_some', boolK_bool, ifB_if]
  unfold fateS
  by_cases c1 : max x.1 (s.figs[f]).cr = x.1 ∧ min x.2 (s.figs[f]).sl = x.2
  · rw [if_pos (by simpa using c1), if_pos c1]; exact ⟨_, rfl⟩
  rw [if_neg (by simpa using c1), if_neg c1, a39.fld 0 (x := .int .i64 (max x.1 (s.figs[f]).cr)) rfl, intK_int, a39.fld 1 (x := .int .i64 (min x.2 (s.figs[f]).sl)) rfl, intK_int, boolZ_eq, ltZ_dec, ifB_if]
  by_cases c2 : min x.2 (s.figs[f]).sl < max x.1 (s.figs[f]).cr
  · rw [if_pos (by simpa using c2), if_pos c2]; exact ⟨_, rfl⟩
  · rw [if_neg (by simpa using c2), if_neg c2]; exact ⟨_, rfl⟩
end Go.Proofs.Ytekocllllbdbgaa.K.L
