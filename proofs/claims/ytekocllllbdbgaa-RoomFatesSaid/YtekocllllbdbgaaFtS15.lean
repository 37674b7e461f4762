/- The law RoomFates, told, answers true. -/
import Derived.Test.YtekocllllbdbgaaFtS14
open Go Go.Eng
set_option maxRecDepth 100000
set_option linter.unusedVariables false
namespace Go.Proofs.Ytekocllllbdbgaa.K.L
theorem pair_at {h : Hp} {p : Value} {x y : Int} (a : At h p [.int .i64 x, .int .i64 y]) (ρ : Type) (k : Value → Option ρ) : (idxAK 2 1 p (Int.ofNat 0) fun v => load1K h v k) = k (.int .i64 x) ∧ (idxAK 2 1 p (Int.ofNat 1) fun v => load1K h v k) = k (.int .i64 y) := by
  obtain ⟨b, o, c, t, s, rfl, h1, h2, h3⟩ := a
  constructor
  · show forceN (Nat.add o (Nat.mul 0 1)) (fun o => load1K h (.pointer (some ⟨b, o, none⟩)) k) = _
    rw [forceN_eq]
    exact load1K_ptr h1 (by simpa using h3 0 _ rfl) k
  · show forceN (Nat.add o (Nat.mul 1 1)) (fun o => load1K h (.pointer (some ⟨b, o, none⟩)) k) = _
    rw [forceN_eq]
    exact load1K_ptr h1 (by simpa using h3 1 _ rfl) k
theorem neq23 (xo yo : Operand) (x : Int × Int) : binV env .neq 23 xo yo (spV x) (spV x) = some (.bool false) := by
  obtain ⟨a, b⟩ := x
  have e : binV env .neq 23 xo yo (spV (a, b)) (spV (a, b)) = some (.bool (!(intEq a a && (intEq b b && true)))) := by kernel_rfl
  rw [e, intEq_eq, intEq_eq]
  simp
theorem fm19 (h : Hp) : FM19 [] h = some (.bool true) := rfl
theorem fates3_at {h : Hp} (w : Wf h) {s : Ho} {r : List Value} (a : HoA h s r) (x y lit : Int) : ∃ h', F3 [.agg (Array.mk r), .agg (Array.mk [.int .i64 x, .int .i64 y]), .int .i64 lit] h = some (.bool true, h') := by
  have start : F3 [.agg (Array.mk r), .agg (Array.mk [.int .i64 x, .int .i64 y]), .int .i64 lit] h = P3x0 (rec' T3 999999) (.agg (Array.mk r)) (.agg (Array.mk [.int .i64 x, .int .i64 y])) lit h := rfl
  rw [start]
  clear start
  unfold P3x0
  have hr7 := a.len
  rw [rowCells, rowCells, allocK_add, allocK_add]
  have g0 : Grew h (h.add (.cells r 28 none)) := Grew.add w _
  have a0 : At (h.add (.cells r 28 none)) (.pointer (some ⟨h.next, 0, none⟩)) r := At.new
  generalize h.add (.cells r 28 none) = h0 at g0 a0 ⊢
  generalize Value.pointer (some ⟨h.next, 0, none⟩) = p at a0 ⊢
  have g1 : Grew h (h0.add (.cells [.int .i64 x, .int .i64 y] 29 none)) := g0.trans (Grew.add g0.wf _)
  have a1 := atAdd g0.wf a0 (.cells [.int .i64 x, .int .i64 y] 29 none)
  have b1 : At (h0.add (.cells [.int .i64 x, .int .i64 y] 29 none)) (.pointer (some ⟨h0.next, 0, none⟩)) [.int .i64 x, .int .i64 y] := At.new
  generalize h0.add (.cells [.int .i64 x, .int .i64 y] 29 none) = h1 at g1 a1 b1 ⊢
  generalize Value.pointer (some ⟨h0.next, 0, none⟩) = q at b1 ⊢
  have s1 := a.sub g1.sub
  obtain ⟨h2, e2⟩ := check13_at (h := shutH h1) (wfShut g1.wf) s1
  obtain ⟨h3, e3⟩ := check14_at (h := shutH h1) (wfShut g1.wf) s1
  have same : ∀ z : Int, ¬((!decide (z = z)) = true) := fun z => by simp
  rw [a1.loadN (z := 7) hr7, callQ_plain1 e2 rfl, pairK_some']
  have x0 : ∀ (ρ : Type) (k : Value → Option ρ), extK (trip (checkH s)) 0 k = k (.int .i64 (checkH s).1) := fun ρ k => extK_at (v := .int .i64 (checkH s).1) rfl k
  have x1 : ∀ (ρ : Type) (k : Value → Option ρ), extK (trip (checkH s)) 1 k = k (.int .i64 (checkH s).2.1) := fun ρ k => extK_at (v := .int .i64 (checkH s).2.1) rfl k
  have x2 : ∀ (ρ : Type) (k : Value → Option ρ), extK (trip (checkH s)) 2 k = k (.int .i64 (checkH s).2.2) := fun ρ k => extK_at (v := .int .i64 (checkH s).2.2) rfl k
  rw [x0, intK_int, x1, intK_int, x2, intK_int, a1.loadN (z := 7) hr7, callQ_plain1 e3 rfl, pairK_some', x0, intK_int, x1, intK_int, x2, intK_int, boolN_eq, eqZ_dec, ifB_if, if_neg (same _), boolN_eq, eqZ_dec, ifB_if, if_neg (same _), boolN_eq, eqZ_dec, ifB_if, if_neg (same _)]
  have st2 : rec' T3 999999 2 (AL.i lit (AL.v p (AL.v q AL.n))) h1 = P3x2 (rec' T3 999998) lit p q h1 := rfl
  rw [st2]
  unfold P3x2
  obtain ⟨h4, e4⟩ := warmth15_at (h := shutH h1) (wfShut g1.wf) s1 y lit
  rw [a1.loadN (z := 7) hr7, (pair_at b1 _ _).2, intK_int, callQ_plain1 e4 rfl, pairK_some']
  have y0 : ∀ (ρ : Type) (k : Value → Option ρ), extK (spE (warmthS s y lit)) 0 k = k (spV (warmthS s y lit).1) := fun ρ k => extK_at (v := spV (warmthS s y lit).1) rfl k
  have y1 : ∀ (ρ : Type) (k : Value → Option ρ), extK (spE (warmthS s y lit)) 1 k = k (.int .i64 (warmthS s y lit).2) := fun ρ k => extK_at (v := .int .i64 (warmthS s y lit).2) rfl k
  rw [y0, y1, intK_int]
  obtain ⟨h9, p9, g9, a9, k9⟩ := alloc_store (ρ := Value × Hp) (z := 2) g1.wf 23 (c := [(Value.int .i64 (Int.ofNat 0)), (Value.int .i64 (Int.ofNat 0))]) (l := [.int .i64 (warmthS s y lit).1.1, .int .i64 (warmthS s y lit).1.2]) rfl rfl rfl (fun _ _ => none)
  show ∃ h', (allocK h1 23 [(Value.int .i64 (Int.ofNat 0)), (Value.int .i64 (Int.ofNat 0))] fun a8 h8 => storeNK 2 h8 a8 (.agg (Array.mk [.int .i64 (warmthS s y lit).1.1, .int .i64 (warmthS s y lit).1.2])) fun h9 => _) = _
  have a19 := a1.sub g9.sub
  have b19 := b1.sub g9.sub
  have s9 := s1.sub g9.sub
  have g19 := g1.trans g9
  obtain ⟨h5, e5⟩ := warmth16_at (h := shutH h9) (wfShut g9.wf) s9 y lit
  rw [k9, a19.loadN (z := 7) hr7, (pair_at b19 _ _).2, intK_int, callQ_plain1 e5 rfl, pairK_some', y0, y1, intK_int]
  obtain ⟨h19, p19, gA, aA, kA⟩ := alloc_store (ρ := Value × Hp) (z := 2) g9.wf 23 (c := [(Value.int .i64 (Int.ofNat 0)), (Value.int .i64 (Int.ofNat 0))]) (l := [.int .i64 (warmthS s y lit).1.1, .int .i64 (warmthS s y lit).1.2]) rfl rfl rfl (fun _ _ => none)
  show ∃ h', (allocK h9 23 [(Value.int .i64 (Int.ofNat 0)), (Value.int .i64 (Int.ofNat 0))] fun a8 h8 => storeNK 2 h8 a8 (.agg (Array.mk [.int .i64 (warmthS s y lit).1.1, .int .i64 (warmthS s y lit).1.2])) fun h9 => _) = _
  have a9' := a9.sub gA.sub
  have aB := a19.sub gA.sub
  have bB := b19.sub gA.sub
  have sB := s9.sub gA.sub
  have gB := g19.trans gA
  rw [kA, a9'.loadN (z := 2) rfl, aA.loadN (z := 2) rfl]
  show ∃ h', (optK (binV env .neq 23 (Operand.tmp 56) (Operand.tmp 57) (spV (warmthS s y lit).1) (spV (warmthS s y lit).1)) fun v22 => _) = _
  rw [neq23, optK_some', boolK_bool, ifB_if, if_neg (by simp), boolN_eq, eqZ_dec, ifB_if, if_neg (same _)]
  have st1 : rec' T3 999998 1 (AL.i lit (AL.v p (AL.v q AL.n))) h19 = P3x1 (rec' T3 999997) lit p q h19 := rfl
  rw [st1]
  unfold P3x1
  obtain ⟨h6, e6⟩ := fate17_at (h := shutH h19) (wfShut gB.wf) sB x y lit
  obtain ⟨h7, e7⟩ := fate18_at (h := shutH h19) (wfShut gB.wf) sB x y lit
  have z0 : ∀ (ρ : Type) (k : Value → Option ρ), extK (pairV (fateAll s x y lit)) 0 k = k (.int .i64 (fateAll s x y lit).1) := fun ρ k => extK_at (v := .int .i64 (fateAll s x y lit).1) rfl k
  have z1 : ∀ (ρ : Type) (k : Value → Option ρ), extK (pairV (fateAll s x y lit)) 1 k = k (.int .i64 (fateAll s x y lit).2) := fun ρ k => extK_at (v := .int .i64 (fateAll s x y lit).2) rfl k
  rw [aB.loadN (z := 7) hr7, (pair_at bB _ _).1, intK_int, (pair_at bB _ _).2, intK_int, callQ_plain1 e6 rfl, pairK_some', z0, intK_int, z1, intK_int, aB.loadN (z := 7) hr7, (pair_at bB _ _).1, intK_int, (pair_at bB _ _).2, intK_int, callQ_plain1 e7 rfl, pairK_some', z0, intK_int, z1, intK_int, boolZ_eq, eqZ_dec, ifB_if, if_pos (by simp), boolZ_eq, eqZ_dec, ifB_if, if_pos (by simp), fm19, optK_some', pairK_some', boolK_bool]
  exact ⟨_, rfl⟩
end Go.Proofs.Ytekocllllbdbgaa.K.L
