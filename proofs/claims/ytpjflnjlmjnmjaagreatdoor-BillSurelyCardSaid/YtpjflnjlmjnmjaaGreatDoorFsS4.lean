/- Contracts of told functions: figures, truths. -/
import Derived.Test.YtpjflnjlmjnmjaaGreatDoorFsSN
import Derived.Test.YtpjflnjlmjnmjaaGreatDoorFsS3
open Go Go.Eng
set_option maxRecDepth 100000
set_option linter.unusedVariables false
namespace Go.Proofs.YtpjflnjlmjnmjaaGreatDoor.K.L
def figNum (g : Fg) : Bool := inB 0 9 g.room && inB 1 6 g.hi
def lowE (prev : List Fg) (g : Fg) : Int := match prev.getLast? with | some x => if g.room < x.room then 2 else 0 | none => 0
def figE (prev : List Fg) (g : Fg) : Int :=
  if !(nameB g.nm.data.toList) then 6 else if prev.any (fun x => sameNm x.nm g.nm) then 5 else if !(nameB g.as_.data.toList) then 6 else if !(figNum g) then 7 else lowE prev g
theorem last_get {α : Type} (l : List α) (h : 0 < l.length) : l.getLast? = some (l[l.length - 1]'(by omega)) := by
  rw [List.getLast?_eq_getElem?, List.getElem?_eq_getElem]
theorem fig56_at {h : Hp} (w : Wf h) {v : Value} {prev : List Fg} (hr : Eng.Rows h 4 v (prev.map Fg.row)) (hlen : prev.length ≤ 900000) (g : Fg) : ∃ h', F56 [v, .agg (Array.mk g.row)] h = some (.int .i64 (figE prev g), h') := by
  have start : F56 [v, .agg (Array.mk g.row)] h = P56x0 (rec' T56 999999) v (.agg (Array.mk g.row)) h := rfl
  rw [start]
  unfold P56x0
  rw [rowCells, allocK_add]
  have w1 : Wf (h.add (.cells g.row 76 none)) := w.add _
  have a1 : At (h.add (.cells g.row 76 none)) (.pointer (some ⟨h.next, 0, none⟩)) g.row := At.new
  have r1 := hr.sub (Grew.add w (.cells g.row 76 none)).sub
  generalize h.add (.cells g.row 76 none) = h1 at w1 a1 r1 ⊢
  generalize Value.pointer (some ⟨h.next, 0, none⟩) = p at a1 ⊢
  rw [a1.fld 0 (x := .string g.nm) rfl, callQ_plain (fun h => name_at g.nm (shutH h)) rfl, pairK_some', boolK_bool, boolN_eq, ifB_if]
  unfold figE
  cases hn : nameB g.nm.data.toList with
  | false => rw [if_pos (by rfl), if_pos (by rfl)]; exact ⟨_, rfl⟩
  | true =>
  rw [if_neg (by simp), if_neg (by simp), show (Value.func (.func 96) (List.toArray []) (List.toArray [p])) = .func (.func 96) #[] #[p] from rfl, callQ_plain1 (contains95_at (h := shutH h1) r1 a1 hlen) rfl, pairK_some', boolK_bool, ifB_if]
  cases hc : prev.any (fun x => sameNm x.nm g.nm) with
  | true => rw [if_pos (by rfl), if_pos (by rfl)]; exact ⟨_, rfl⟩
  | false =>
  rw [if_neg (by simp), if_neg (by simp), a1.fld 1 (x := .string g.as_) rfl, callQ_plain (fun h => name_at g.as_ (shutH h)) rfl, pairK_some', boolK_bool, boolN_eq, ifB_if]
  cases hm : nameB g.as_.data.toList with
  | false => rw [if_pos (by rfl), if_pos (by rfl)]; exact ⟨_, rfl⟩
  | true =>
  rw [if_neg (by simp), if_neg (by simp)]
  have stepS : ∀ (b : Bool) (h : Hp), rec' T56 999999 1 (AL.v v (AL.v p (AL.b b AL.n))) h = P56x1 (rec' T56 999998) v p b h := fun b h => rfl
  have lastS : ∀ (h : Hp), rec' T56 999998 2 AL.n h = some ((Value.int .i64 (Int.ofNat 0)), h) := fun h => rfl
  have bad : ∀ h : Hp, ∃ h', rec' T56 999999 1 (AL.v v (AL.v p (AL.b true AL.n))) h = some (.int .i64 7, h') := by
    intro h
    rw [stepS]
    unfold P56x1
    rw [ifB_if, if_pos rfl]
    exact ⟨_, rfl⟩
  have w2 := w1.add (.cells [.int .i64 g.room] 3 none)
  have a2 := atAdd w1 a1 (.cells [.int .i64 g.room] 3 none)
  have r2 := r1.sub (Grew.add w1 (.cells [.int .i64 g.room] 3 none)).sub
  unfold figNum
  rw [a1.fld 2 (x := .int .i64 g.room) rfl, intK_int, oneI, pairK_some', show (Int.ofNat 0) = (0 : Int) from rfl, show (Int.ofNat 9) = (9 : Int) from rfl, within1, optK_some', pairK_some', boolK_bool, boolN_eq, ifB_if]
  generalize h1.add (.cells [.int .i64 g.room] 3 none) = h2 at w2 a2 r2 ⊢
  cases x1 : inB 0 9 g.room with
  | false => rw [if_pos (by rfl)]; exact bad _
  | true =>
  have w3 := w2.add (.cells [.int .i64 g.hi] 3 none)
  have a3 := atAdd w2 a2 (.cells [.int .i64 g.hi] 3 none)
  have r3 := r2.sub (Grew.add w2 (.cells [.int .i64 g.hi] 3 none)).sub
  rw [if_neg (by simp), a2.fld 3 (x := .int .i64 g.hi) rfl, intK_int, oneI, pairK_some', show (Int.ofNat 1) = (1 : Int) from rfl, show (Int.ofNat 6) = (6 : Int) from rfl, within1, optK_some', pairK_some', boolK_bool, boolN_eq]
  generalize h2.add (.cells [.int .i64 g.hi] 3 none) = h3 at w3 a3 r3 ⊢
  cases x2 : inB 1 6 g.hi with
  | false => exact bad _
  | true =>
  rw [if_neg (by simp), stepS]
  unfold P56x1
  rw [ifB_if, if_neg (by simp), r3.len, List.length_map, boolZ_eq, ltZ_dec, ifB_if, lastS]
  by_cases hp : 0 < prev.length
  · have hi : prev.length - 1 < prev.length := by omega
    have hg : (prev.map Fg.row)[prev.length - 1]? = some (prev[prev.length - 1]).row := by rw [List.getElem?_map, List.getElem?_eq_getElem hi]; rfl
    obtain ⟨q, hq, haq, hl⟩ := r3.at hg
    rw [if_pos (by simp; omega), a3.fld 2 (x := .int .i64 g.room) rfl, intK_int, r3.len, List.length_map, show Int.sub (prev.length : Int) (Int.ofNat 1) = ((prev.length - 1 : Nat) : Int) from by show (prev.length : Int) - 1 = _; omega, wrap64_in _ (by omega) (by omega), hq, haq.fld 2 (x := .int .i64 (prev[prev.length - 1]).room) rfl, intK_int, boolZ_eq, ltZ_dec, ifB_if]
    unfold lowE
    rw [last_get prev hp]
    dsimp only
    by_cases hd : g.room < (prev[prev.length - 1]).room
    · rw [if_pos (by simpa using hd), if_pos hd]; exact ⟨_, rfl⟩
    · rw [if_neg (by simpa using hd), if_neg hd]; exact ⟨_, rfl⟩
  · have : prev = [] := List.length_eq_zero_iff.1 (by omega)
    subst this
    rw [if_neg (by simp)]
    exact ⟨_, rfl⟩
theorem pow_at {ρ : Type} (f : Int → Option ρ) : ∀ n : Nat, n ≤ 6 → slowI .i64 (shlI (binW env .shl 3 (Value.int .i64 (Int.ofNat 1)) (Value.int .i64 (n : Int))) (Value.int .i64 (Int.ofNat 1)) (Value.int .i64 (n : Int))) f = f (2 ^ n : Int)
  | 0, _ => by kernel_rfl
  | 1, _ => by kernel_rfl
  | 2, _ => by kernel_rfl
  | 3, _ => by kernel_rfl
  | 4, _ => by kernel_rfl
  | 5, _ => by kernel_rfl
  | 6, _ => by kernel_rfl
  | n + 7, h => absurd h (by omega)
theorem pow_le : ∀ n : Nat, n ≤ 6 → (1 : Int) ≤ 2 ^ n ∧ (2 : Int) ^ n ≤ 64
  | 0, _ => by decide
  | 1, _ => by decide
  | 2, _ => by decide
  | 3, _ => by decide
  | 4, _ => by decide
  | 5, _ => by decide
  | 6, _ => by decide
  | n + 7, h => absurd h (by omega)
theorem sets_at (h : Hp) : ∀ n : Nat, n ≤ 6 → F50 [.int .i64 (n : Int)] h = some (.int .i64 (2 ^ n : Int))
  | 0, _ => by kernel_rfl
  | 1, _ => by kernel_rfl
  | 2, _ => by kernel_rfl
  | 3, _ => by kernel_rfl
  | 4, _ => by kernel_rfl
  | 5, _ => by kernel_rfl
  | 6, _ => by kernel_rfl
  | n + 7, h => absurd h (by omega)
theorem index64_at (h : Hp) {n g : Int} (hn : 0 ≤ n ∧ n ≤ 1000000) : F64 [.int .i64 n, .slice (some ⟨h.next, 0, none⟩) 1 1] (h.add (.cells [.int .i64 g] 3 none)) = some (.bool (inB 0 (n - 1) g)) := by
  have step : F64 [.int .i64 n, .slice (some ⟨h.next, 0, none⟩) 1 1] (h.add (.cells [.int .i64 g] 3 none)) = plainO (P64x0 (h.add (.cells [.int .i64 g] 3 none)) (G.rec' (T64 (h.add (.cells [.int .i64 g] 3 none))) 999999) n (.slice (some ⟨h.next, 0, none⟩) 1 1)) := rfl
  rw [step]
  unfold P64x0
  rw [show Int.sub n (Int.ofNat 1) = n - 1 from rfl, wrap64_in _ (by omega) (by omega), show (Int.ofNat 0) = (0 : Int) from rfl, within1, optK_some', boolK_bool]
  rfl
theorem index143_loop {h : Hp} {v : Value} {gs : List Int} (x : Int) (hr : Eng.Rows h 1 v (gs.map inRow)) (hlen : gs.length ≤ 900000) : ∀ m i n, i + m = gs.length → m + 2 ≤ n →
    G.rec' (T143 h) n 1 (PAL.v v (PAL.i x (PAL.i (gs.length : Int) (PAL.i (i : Int) PAL.n)))) = some (.int .i64 (idxFrom (fun g => decide (x = g)) i (gs.drop i)))
  | 0, i, n + 2, him, hn => by
    show P143x1 h (G.rec' (T143 h) (n + 1)) v x (gs.length : Int) (i : Int) = _
    unfold P143x1
    rw [boolZ_eq, ltZ_dec, ifB_if, if_neg (by simp; omega), List.drop_of_length_le (by omega)]
    rfl
  | m + 1, i, n + 1, him, hn => by
    have hi : i < gs.length := by omega
    have hg : (gs.map inRow)[i]? = some (inRow gs[i]) := by rw [List.getElem?_map, List.getElem?_eq_getElem hi]; rfl
    obtain ⟨q, hq, haq, hl⟩ := hr.at hg
    show P143x1 h (G.rec' (T143 h) n) v x (gs.length : Int) (i : Int) = _
    unfold P143x1
    rw [boolZ_eq, ltZ_dec, ifB_if, if_pos (by simp; omega), hq, haq.load1 (x := .int .i64 gs[i]) rfl, intK_int, boolZ_eq, eqZ_dec, ifB_if, List.drop_eq_getElem_cons hi]
    unfold idxFrom
    by_cases e : x = gs[i]
    · rw [if_pos (by simpa using e), if_pos (by simpa using e)]
    · rw [if_neg (by simpa using e), if_neg (by simpa using e), show Int.add (i : Int) (Int.ofNat 1) = ((i + 1 : Nat) : Int) from rfl, wrap64_in _ (by omega) (by omega)]
      exact index143_loop x hr hlen m (i + 1) n (by omega) (by omega)
theorem contains98_at {h : Hp} {v : Value} {gs : List Int} (x : Int) (hr : Eng.Rows h 1 v (gs.map inRow)) (hlen : gs.length ≤ 900000) : F98 [v, .int .i64 x] h = some (.bool (gs.any fun g => decide (x = g))) := by
  have e : F143 [v, .int .i64 x] h = some (.int .i64 (idxFrom (fun g => decide (x = g)) 0 gs)) := by
    show plainO (P143x0 h (G.rec' (T143 h) 999999) v x) = _
    unfold P143x0
    have := index143_loop x hr hlen gs.length 0 999999 (by omega) (by omega)
    rw [List.drop_zero] at this
    rw [hr.len, List.length_map, show (Int.ofNat 0) = ((0 : Nat) : Int) from rfl, this]
    rfl
  show plainO (P98x0 h (G.rec' (T98 h) 999999) v x) = _
  unfold P98x0
  rw [e, optK_some', intK_int, boolN_eq, ltZ_dec, show (Int.ofNat 0) = (0 : Int) from rfl, idxFrom_neg, Bool.not_not]
  rfl
def truthE (m : Nat) (prev : List Int) (t : Int) : Int := if !(inB 0 (2 ^ m - 1) t) then 4 else if prev.any (fun g => decide (t = g)) then 5 else 0
theorem truth59_at {h : Hp} (w : Wf h) {v : Value} {prev : List Int} (hr : Eng.Rows h 1 v (prev.map inRow)) (hlen : prev.length ≤ 900000) (m : Nat) (hm : m ≤ 6) (t : Int) : ∃ h', F59 [.int .i64 (m : Int), v, .int .i64 t] h = some (.int .i64 (truthE m prev t), h') := by
  have start : F59 [.int .i64 (m : Int), v, .int .i64 t] h = P59x0 (rec' T59 999999) (m : Int) v t h := rfl
  obtain ⟨p1, p2⟩ := pow_le m hm
  have r1 := hr.sub (Grew.add w (.cells [.int .i64 t] 3 none)).sub
  rw [start]
  unfold P59x0 truthE
  rw [pow_at _ m hm, oneI, pairK_some', index64_at h (by omega), optK_some', pairK_some', boolK_bool, boolN_eq, ifB_if]
  cases inB 0 (2 ^ m - 1) t with
  | false => rw [if_pos (by rfl), if_pos (by rfl)]; exact ⟨_, rfl⟩
  | true =>
  rw [if_neg (by simp), if_neg (by simp), contains98_at t r1 hlen, optK_some', pairK_some', boolK_bool, ifB_if]
  cases prev.any (fun g => decide (t = g)) with
  | true => exact ⟨_, rfl⟩
  | false => exact ⟨_, rfl⟩
theorem truth58_at {h : Hp} (w : Wf h) {p lines vf vt : Value} {figs : List Fg} (a : At h p [lines, vf, vt]) (hf : SlA h 4 vf (figs.map Fg.row)) (hm : figs.length ≤ 6) {v : Value} {prev : List Int} (hr : Eng.Rows h 1 v (prev.map inRow)) (hlen : prev.length ≤ 900000) (t : Int) : ∃ h', F58 [v, .int .i64 t, p] h = some (.int .i64 (truthE figs.length prev t), h') := by
  have start : F58 [v, .int .i64 t, p] h = P58x0 (rec' T58 999999) v t p h := rfl
  obtain ⟨h2, e⟩ := truth59_at (h := shutH h) (wfShut w) hr hlen figs.length hm t
  rw [start]
  unfold P58x0
  rw [a.fld 1 (x := vf) rfl, hf.rows.len, List.length_map, callQ_plain1 e rfl, pairK_some', intK_int]
  exact ⟨_, rfl⟩
end Go.Proofs.YtpjflnjlmjnmjaaGreatDoor.K.L
