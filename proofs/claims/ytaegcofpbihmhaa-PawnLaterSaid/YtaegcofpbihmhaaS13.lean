/- Contracts of told functions: Redeem. -/
import Derived.Test.YtaegcofpbihmhaaS12
open Go Go.Eng
set_option maxRecDepth 100000
set_option linter.unusedVariables false
namespace Go.Proofs.Ytaegcofpbihmhaa.K.L
theorem firstE_zero {α : Type} {f : List α → α → Int} {all : List α} : ∀ (l : List α) (i : Nat), l = all.drop i → (firstE f all i l).2 = 0 → ∀ j (hj : j < all.length), i ≤ j → f (all.take j) all[j] = 0
  | [], i, hl, h, j, hj, hij => by
    have : (all.drop i).length = 0 := by rw [← hl]; rfl
    rw [List.length_drop] at this
    omega
  | g :: l, i, hl, h, j, hj, hij => by
    have hi : i < all.length := by
      have : (all.drop i).length = l.length + 1 := by rw [← hl]; rfl
      rw [List.length_drop] at this
      omega
    rw [List.drop_eq_getElem_cons hi] at hl
    injection hl with h1 h2
    unfold firstE at h
    by_cases e : f (all.take i) g = 0
    · rw [if_pos e] at h
      by_cases hji : j = i
      · subst hji; rw [← h1]; exact e
      · exact firstE_zero l (i + 1) h2 h j hj (by omega)
    · rw [if_neg e] at h
      exact absurd h e
theorem check_stated {s : Sh} (h : (checkS s).2.2 = 0) : s.gs.length ≤ 5 ∧ ∀ j (hj : j < s.gs.length), statedB s.gs[j] = true := by
  unfold checkS at h
  by_cases c1 : 5 < s.gs.length
  · rw [if_pos c1] at h; simp at h
  rw [if_neg c1] at h
  refine ⟨by omega, fun j hj => ?_⟩
  by_cases c2 : (firstE gownE s.gs 0 s.gs).2 ≠ 0
  · rw [if_pos c2] at h; exact absurd h c2
  have := firstE_zero s.gs 0 rfl (by simpa using c2) j hj (by omega)
  unfold gownE at this
  split at this
  · omega
  split at this
  · omega
  split at this
  · omega
  split at this
  · omega
  rename_i hs
  simpa using hs
theorem stated_range {g : Gw} (hp : g.pawn = true) (h : statedB g = true) : 0 ≤ g.loan ∧ g.loan ≤ 5000 ∧ 0 ≤ g.rate ∧ g.rate ≤ 500 ∧ 0 ≤ g.ago ∧ g.ago ≤ 364 := by
  unfold statedB at h
  rw [hp, if_pos rfl] at h
  unfold inB at h
  simp at h
  omega
def redeemS (s : Sh) (g day : Int) : Int × Int :=
  if (checkS s).2.2 ≠ 0 then (0, (checkS s).2.2)
  else if !(inB 0 ((s.gs.length : Int) - 1) g) then (0, 4)
  else match s.gs[g.toNat]? with
    | none => (0, 4)
    | some x => if !x.pawn then (0, 2) else if !(inB 0 364 day) then (0, 7) else if x.last < day then (0, 9) else (costS x day, 0)
def dup (x : Int × Int) : Value := .tuple (List.toArray [.int .i64 x.1, .int .i64 x.2])
theorem index41_at (h : Hp) {n g : Int} (hn : 0 ≤ n ∧ n ≤ 1000000) : F41 [.int .i64 n, .slice (some ⟨h.next, 0, none⟩) 1 1] (h.add (.cells [.int .i64 g] 3 none)) = some (.bool (inB 0 (n - 1) g)) := by
  have step : F41 [.int .i64 n, .slice (some ⟨h.next, 0, none⟩) 1 1] (h.add (.cells [.int .i64 g] 3 none)) = plainO (P41x0 (h.add (.cells [.int .i64 g] 3 none)) (G.rec' (T41 (h.add (.cells [.int .i64 g] 3 none))) 999999) n (.slice (some ⟨h.next, 0, none⟩) 1 1)) := rfl
  rw [step]
  unfold P41x0
  try unfold ki
  rw [show Int.sub n (Int.ofNat 1) = n - 1 from rfl, wrap64_in _ (by omega) (by omega), show (Int.ofNat 0) = (0 : Int) from rfl, within1, optK_some', boolK_bool]
  rfl
theorem redeem10_at {h : Hp} (w : Wf h) {s : Sh} {r : List Value} (a : ShA h s r) (g day : Int) : ∃ h', F10 [.agg (Array.mk r), .int .i64 g, .int .i64 day] h = some (dup (redeemS s g day), h') := by
  have start : F10 [.agg (Array.mk r), .int .i64 g, .int .i64 day] h = P10x0 (rec' T10 999999) (.agg (Array.mk r)) g day h := rfl
  rw [start]
  unfold P10x0
  try unfold ki
  have hr4 := a.len
  rw [rowCells, allocK_add]
  have g0 : Grew h (h.add (.cells r 26 none)) := Grew.add w _
  have a0 : At (h.add (.cells r 26 none)) (.pointer (some ⟨h.next, 0, none⟩)) r := At.new
  generalize h.add (.cells r 26 none) = h0 at g0 a0 ⊢
  have s0 := a.sub g0.sub
  obtain ⟨hx, lk, ex, gx, lx, ox, kx⟩ := open40_at (h := shutH h0) (wfShut g0.wf) s0
  obtain ⟨h1, e1, g1⟩ := callQ_any g0.wf ex gx
  rw [a0.loadN (z := 4) hr4, e1, pairK_some', extK_at (v := .agg (Array.mk lk)) rfl, extK_at (v := .int .i64 (checkS s).2.2) rfl, intK_int]
  have g01 := g0.trans g1
  obtain ⟨h2, p, g2, a2, k2⟩ := alloc_store (ρ := Value × Hp) (z := 16) g01.wf 85 (c := zero85) (l := lk) rfl lx ox (fun _ _ => none)
  rw [show [(Value.slice none 0 0), (Value.slice none 0 0), (Value.int .i64 (Int.ofNat 0)), (Value.slice none 0 0), (Value.bool false), (Value.int .i64 (Int.ofNat 0)), Value.nilFunc, Value.nilFunc, (Value.bool false), (Value.int .i64 (Int.ofNat 0)), Value.nilFunc, Value.nilFunc, (Value.bool false), (Value.int .i64 (Int.ofNat 0)), Value.nilFunc, Value.nilFunc] = zero85 from rfl, k2, boolN_eq, eqZ_dec, ifB_if]
  unfold redeemS
  by_cases e0 : (checkS s).2.2 ≠ 0
  · rw [if_pos (by simpa using e0), if_pos e0]; exact ⟨_, rfl⟩
  have e0' : (checkS s).2.2 = 0 := by simpa using e0
  rw [if_neg (by simpa using e0), if_neg e0]
  have hlk := kx e0'
  subst hlk
  obtain ⟨hlen, hst⟩ := check_stated e0'
  have g02 := g01.trans g2
  have sA := a.sub g02.sub
  obtain ⟨vg, vf, vi, rfl, sg, sf, si⟩ := sA
  obtain ⟨bp, op, cp, tp, sp, rfl, hcp, hop, hkp⟩ := a2
  have fld0 : ∀ {h : Hp}, At h (.pointer (some ⟨bp, op, none⟩)) ([vg, vf, .int .i64 s.purse, vi] ++ waysV) → ∀ (ρ : Type) (k : Value → Option ρ), (ptrAddK 0 (.pointer (some ⟨bp, op, none⟩)) fun v9 => ptrAddK 0 v9 fun v10 => load1K h v10 k) = k vg := by
    intro h a ρ k
    obtain ⟨b', o', c', t', s', e1', e2', e3', e4'⟩ := a
    injection e1' with e1'
    injection e1' with e1'
    injection e1' with q1 q2 q3
    subst q1 q2
    rw [ptrAddK_ptr, ptrAddK_ptr, load1K_ptr e2' (by simpa using e4' 0 vg rfl)]
  have aP : At h2 (.pointer (some ⟨bp, op, none⟩)) ([vg, vf, .int .i64 s.purse, vi] ++ waysV) := ⟨bp, op, cp, tp, sp, rfl, hcp, hop, hkp⟩
  rw [fld0 aP, sg.rows.len, List.length_map, one34, pairK_some', index41_at h2 (by omega), optK_some', pairK_some', boolK_bool, boolN_eq, ifB_if]
  have w3 := g02.wf.add (.cells [.int .i64 g] 3 none)
  have sub3 := (Grew.add g02.wf (.cells [.int .i64 g] 3 none)).sub
  have aP3 := aP.sub sub3
  have sg3 := sg.sub sub3
  generalize h2.add (.cells [.int .i64 g] 3 none) = h3 at w3 aP3 sg3 ⊢
  cases hin : inB 0 ((s.gs.length : Int) - 1) g with
  | false => rw [if_pos (by rfl), if_pos (by rfl)]; exact ⟨_, rfl⟩
  | true =>
  rw [if_neg (by simp), if_neg (by simp)]
  have hg : 0 ≤ g ∧ g ≤ (s.gs.length : Int) - 1 := by unfold inB at hin; simp at hin; omega
  obtain ⟨i, rfl⟩ : ∃ i : Nat, g = (i : Int) := ⟨g.toNat, by omega⟩
  have hi : i < s.gs.length := by omega
  have hgi : (s.gs.map Gw.row)[i]? = some (s.gs[i]).row := by rw [List.getElem?_map, List.getElem?_eq_getElem hi]; rfl
  rw [Int.toNat_natCast, List.getElem?_eq_getElem hi]
  simp only
  obtain ⟨q, hq, haq, hl⟩ := sg3.rows.at hgi
  rw [fld0 aP3, hq, haq.fld 2 (x := .bool (s.gs[i]).pawn) rfl, boolK_bool, boolN_eq, ifB_if]
  cases hp : (s.gs[i]).pawn with
  | false => rw [if_pos (by rfl), if_pos (by rfl)]; exact ⟨_, rfl⟩
  | true =>
  rw [if_neg (by simp), if_neg (by simp), one34, pairK_some', show (Int.ofNat 0) = (0 : Int) from rfl, show (Int.ofNat 364) = (364 : Int) from rfl, within1, optK_some', pairK_some', boolK_bool, boolN_eq, ifB_if]
  have sub4 := (Grew.add w3 (.cells [.int .i64 day] 3 none)).sub
  have aP4 := aP3.sub sub4
  have sg4 := sg3.sub sub4
  generalize h3.add (.cells [.int .i64 day] 3 none) = h4 at aP4 sg4 ⊢
  cases hd : inB 0 364 day with
  | false => rw [if_pos (by rfl), if_pos (by rfl)]; exact ⟨_, rfl⟩
  | true =>
  obtain ⟨q4, hq4, haq4, hl4⟩ := sg4.rows.at hgi
  rw [if_neg (by simp), if_neg (by simp), fld0 aP4, hq4, haq4.fld 7 (x := .int .i64 (s.gs[i]).last) rfl, intK_int, boolZ_eq, ltZ_dec, ifB_if]
  by_cases hla : (s.gs[i]).last < day
  · rw [if_pos (by simpa using hla), if_pos hla]; exact ⟨_, rfl⟩
  rw [if_neg (by simpa using hla), if_neg hla, fld0 aP4, hq4, haq4.loadN (z := 8) hl4, cost42_at h4 (s.gs[i]) (stated_range hp (hst i hi)) (by unfold inB at hd; simp at hd; omega), optK_some', pairK_some', intK_int]
  exact ⟨_, rfl⟩
end Go.Proofs.Ytaegcofpbihmhaa.K.L
