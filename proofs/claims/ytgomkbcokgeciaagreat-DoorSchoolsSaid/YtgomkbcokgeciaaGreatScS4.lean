/- Contracts of told functions: rooms, schools, counts. -/
import Derived.Test.YtgomkbcokgeciaaGreatScSN
import Derived.Test.YtgomkbcokgeciaaGreatScS3
open Go Go.bR
set_option maxRecDepth 100000
set_option linter.unusedVariables false
namespace Go.Proofs.YtgomkbcokgeciaaGreat.K.L
def VG (prev : List Rm) (g : Rm) : Int :=
 if !(rU g.nm.data.toList) then 6 else if prev.any (fun x => jS x.nm g.nm) then 5 else if !(qI 0 20 g.more) then 7 else if !(qI 0 60 g.full) then 7 else 0
def K3 (prev : List Sc) (g : Sc) : Int :=
 if !(rU g.nm.data.toList) then 6 else if prev.any (fun x => jS x.nm g.nm) then 5 else if !(qI 1 60 g.kids) then 7 else 0
theorem aN0 {h : Hp} (w : Wf h) {v : Value} {prev : List Rm} (hr : bR.Rows h 3 v (prev.map Rm.row)) (hlen : prev.length ≤ 900000) (g : Rm) : ∃ h', F55 [v, .agg (Array.mk g.row)] h = some (.int .i64 (VG prev g), h') := by
 have start : F55 [v, .agg (Array.mk g.row)] h = aJC (aQ T55 999999) v (.agg (Array.mk g.row)) h := rfl
 rw [start]
 unfold aJC
 rw [iC, dS]
 have w1 : Wf (h.add (.cells g.row 87 none)) := w.add _
 have a1 : At (h.add (.cells g.row 87 none)) (.pointer (some ⟨h.next, 0, none⟩)) g.row := At.new
 have r1 := hr.sub (dW.add w (.cells g.row 87 none)).sub
 generalize h.add (.cells g.row 87 none) = h1 at w1 a1 r1 ⊢
 generalize Value.pointer (some ⟨h.next, 0, none⟩) = p at a1 ⊢
 rw [a1.sF 0 (x := .string g.nm) rfl, MN (fun h => aI9 g.nm (eT h)) rfl, aC, aV, aO, aI]
 unfold VG
 cases hn : rU g.nm.data.toList with
 | false => rw [if_pos (by rfl), if_pos (by rfl)]; exact ⟨_, rfl⟩
 | true =>
 rw [if_neg (by simp), if_neg (by simp), show (Value.func (.func 103) (List.toArray []) (List.toArray [p])) = .func (.func 103) #[] #[p] from rfl, bF (Q6 (h := eT h1) r1 a1 hlen) rfl, aC, aV, aI]
 cases hc : prev.any (fun x => jS x.nm g.nm) with
 | true => rw [if_pos (by rfl), if_pos (by rfl)]; exact ⟨_, rfl⟩
 | false =>
 rw [if_neg (by simp), if_neg (by simp), a1.sF 1 (x := .int .i64 g.more) rfl, aJ, TE, aC, show (Int.ofNat 0) = (0 : Int) from rfl, show (Int.ofNat 20) = (20 : Int) from rfl, sI, aM, aC, aV, aO, aI]
 have w2 := w1.add (.cells [.int .i64 g.more] 3 none)
 have a2 := ET w1 a1 (.cells [.int .i64 g.more] 3 none)
 generalize h1.add (.cells [.int .i64 g.more] 3 none) = h2 at w2 a2 ⊢
 cases x1 : qI 0 20 g.more with
 | false => rw [if_pos (by rfl), if_pos (by rfl), aI, if_pos (by rfl)]; exact ⟨_, rfl⟩
 | true =>
 rw [if_neg (by simp), if_neg (by simp), a2.sF 2 (x := .int .i64 g.full) rfl, aJ, TE, aC, show (Int.ofNat 60) = (60 : Int) from rfl, sI, aM, aC, aV, aO, aI]
 cases x2 : qI 0 60 g.full with
 | false => rw [if_pos (by rfl), if_pos (by rfl)]; exact ⟨_, rfl⟩
 | true => rw [if_neg (by simp), if_neg (by simp)]; exact ⟨_, rfl⟩
theorem YO {h : Hp} (w : Wf h) {v : Value} {prev : List Sc} (hr : bR.Rows h 2 v (prev.map Sc.row)) (hlen : prev.length ≤ 900000) (g : Sc) : ∃ h', aYJ [v, .agg (Array.mk g.row)] h = some (.int .i64 (K3 prev g), h') := by
 have start : aYJ [v, .agg (Array.mk g.row)] h = YP (aQ aQ0 999999) v (.agg (Array.mk g.row)) h := rfl
 rw [start]
 unfold YP
 rw [iC, dS]
 have w1 : Wf (h.add (.cells g.row 151 none)) := w.add _
 have a1 : At (h.add (.cells g.row 151 none)) (.pointer (some ⟨h.next, 0, none⟩)) g.row := At.new
 have r1 := hr.sub (dW.add w (.cells g.row 151 none)).sub
 generalize h.add (.cells g.row 151 none) = h1 at w1 a1 r1 ⊢
 generalize Value.pointer (some ⟨h.next, 0, none⟩) = p at a1 ⊢
 rw [a1.sF 0 (x := .string g.nm) rfl, MN (fun h => aI9 g.nm (eT h)) rfl, aC, aV, aO, aI]
 unfold K3
 cases hn : rU g.nm.data.toList with
 | false => rw [if_pos (by rfl), if_pos (by rfl)]; exact ⟨_, rfl⟩
 | true =>
 rw [if_neg (by simp), if_neg (by simp), show (Value.func (.func 135) (List.toArray []) (List.toArray [p])) = .func (.func 135) #[] #[p] from rfl, bF (Q7 (h := eT h1) r1 a1 hlen) rfl, aC, aV, aI]
 cases hc : prev.any (fun x => jS x.nm g.nm) with
 | true => rw [if_pos (by rfl), if_pos (by rfl)]; exact ⟨_, rfl⟩
 | false =>
 rw [if_neg (by simp), if_neg (by simp), a1.sF 1 (x := .int .i64 g.kids) rfl, aJ, TE, aC, show (Int.ofNat 1) = (1 : Int) from rfl, show (Int.ofNat 60) = (60 : Int) from rfl, sI, aM, aC, aV, aO, aI]
 cases x1 : qI 1 60 g.kids with
 | false => rw [if_pos (by rfl), if_pos (by rfl)]; exact ⟨_, rfl⟩
 | true => rw [if_neg (by simp), if_neg (by simp)]; exact ⟨_, rfl⟩
def lZ : List Sc → Int
 | [] => 0
 | g :: l => g.kids + lZ l
theorem YQ : ∀ {l : List Sc}, (∀ g ∈ l, 0 ≤ g.kids ∧ g.kids ≤ 60) → 0 ≤ lZ l ∧ lZ l ≤ 60 * l.length
 | [], _ => ⟨by decide, by decide⟩
 | g :: l, h => by
  obtain ⟨h1, h2⟩ := YQ (l := l) fun x hx => h x (.tail _ hx)
  have := h g (.head _)
  unfold lZ
  simp only [List.length_cons]
  omega
theorem aJD {ρ : Type} (l : List Value) (f : List Value → Option ρ) : aGM (.agg (Array.mk l)) f = f l := rfl
theorem a1E (g : Sc) (k : List Value → Option Value) : (dL (Nat.beq (J7 g.row) 2) (M7 0 g.row [(Value.string (ByteArray.mk #[])), (Value.int .i64 (Int.ofNat 0))] k) none) = k g.row := rfl
theorem E8 {h : Hp} {v : Value} {ss : List Sc} (hr : bR.Rows h 2 v (ss.map Sc.row)) (hb : ∀ g ∈ ss, 0 ≤ g.kids ∧ g.kids ≤ 60) (hlen : ss.length ≤ 900) : ∀ (m i n : Nat) (acc : Int), i + m = ss.length → m + 2 ≤ n → 0 ≤ acc → acc ≤ 60 * i →
  G.aQ (T68 h) n 1 (aH.i acc (aH.v v (aH.i (ss.length : Int) (aH.i (i : Int) aH.n)))) = some (.int .i64 (acc + lZ (ss.drop i)))
 | 0, i, n', acc, him, hn, h0, h1 => by
  obtain ⟨n, rfl⟩ : ∃ n, n' = n + 2 := ⟨n' - 2, by omega⟩
  show VI h (G.aQ (T68 h) (n + 1)) acc v (ss.length : Int) (i : Int) = _
  unfold VI
  rw [aS, aZ, aI, if_neg (by simp; omega), List.drop_of_length_le (by omega)]
  show some (Value.int .i64 acc) = _
  rw [show lZ [] = 0 from rfl, Int.add_zero]
 | m + 1, i, n', acc, him, hn, h0, h1 => by
  obtain ⟨n, rfl⟩ : ∃ n, n' = n + 1 := ⟨n' - 1, by omega⟩
  have hi : i < ss.length := by omega
  have hg : (ss.map Sc.row)[i]? = some (ss[i]).row := by rw [List.getElem?_map, List.getElem?_eq_getElem hi]; rfl
  obtain ⟨q, hq, haq, hl⟩ := hr.at hg
  obtain ⟨b1, b2⟩ := hb _ (List.getElem_mem hi)
  show VI h (G.aQ (T68 h) n) acc v (ss.length : Int) (i : Int) = _
  unfold VI
  rw [aS, aZ, aI, if_pos (by simp; omega), hq, haq.gG hl]
  rw [aJD, a1E, mU _ _ 1 (.int .i64 (ss[i]).kids) rfl, aJ, show Int.add acc (ss[i]).kids = acc + (ss[i]).kids from rfl, wrap64_in _ (by omega) (by omega), show Int.add (i : Int) (Int.ofNat 1) = ((i + 1 : Nat) : Int) from rfl, wrap64_in _ (by omega) (by omega),
   E8 hr hb hlen m (i + 1) n (acc + (ss[i]).kids) (by omega) (by omega) (by omega) (by omega), List.drop_eq_getElem_cons hi]
  rw [show lZ (ss[i] :: ss.drop (i + 1)) = (ss[i]).kids + lZ (ss.drop (i + 1)) from rfl, Int.add_assoc]
theorem MO {h : Hp} {v : Value} {ss : List Sc} (hr : bR.Rows h 2 v (ss.map Sc.row)) (hb : ∀ g ∈ ss, 0 ≤ g.kids ∧ g.kids ≤ 60) (hlen : ss.length ≤ 900) : F68 [v] h = some (.int .i64 (lZ ss)) := by
 show plainO (aJE h (G.aQ (T68 h) 999999) v) = _
 unfold aJE
 have := E8 hr hb hlen ss.length 0 999999 0 (by omega) (by omega) (by omega) (by omega)
 rw [List.drop_zero, Int.zero_add] at this
 rw [hr.len, List.length_map, show (Int.ofNat 0) = ((0 : Nat) : Int) from rfl, show ((0 : Nat) : Int) = (0 : Int) from rfl, show (aH.i (0 : Int) aH.n) = aH.i ((0 : Nat) : Int) aH.n from rfl, this]
 rfl
def VJ (c : Ct) : Bool := qI 0 60 c.seen && qI 0 5 c.miss
theorem BS {v : Value} {cs : List Ct} (hlen : cs.length ≤ 900000) : ∀ (m i n : Nat) (h : Hp), Wf h → uP h 2 v (cs.map Ct.row) → i + m = cs.length → m + 2 ≤ n →
  ∃ h', aQ aDB n 1 (AL.v v (AL.i (cs.length : Int) (AL.i (i : Int) AL.n))) h = some (.bool ((cs.drop i).all VJ), h')
 | 0, i, n', h, w, hr, him, hn => by
  obtain ⟨n, rfl⟩ : ∃ n, n' = n + 2 := ⟨n' - 2, by omega⟩
  show ∃ h', K4 (aQ aDB (n + 1)) v (cs.length : Int) (i : Int) h = _
  unfold K4
  rw [aS, aZ, aI, if_neg (by simp; omega), List.drop_of_length_le (by omega)]
  exact ⟨h, rfl⟩
 | m + 1, i, n', h, w, hr, him, hn => by
  obtain ⟨n, rfl⟩ : ∃ n, n' = n + 1 := ⟨n' - 1, by omega⟩
  have hi : i < cs.length := by omega
  have hg : (cs.map Ct.row)[i]? = some (cs[i]).row := by rw [List.getElem?_map, List.getElem?_eq_getElem hi]; rfl
  obtain ⟨q, hq, haq, hl⟩ := hr.rows.at hg
  show ∃ h', K4 (aQ aDB n) v (cs.length : Int) (i : Int) h = _
  unfold K4
  rw [aS, aZ, aI, if_pos (by simp; omega), hq, haq.gG hl]
  obtain ⟨h1, p, g1, a1, hk⟩ := vT (ρ := Value × Hp) (z := 2) w 64 (c := [(Value.int .i64 (Int.ofNat 0)), (Value.int .i64 (Int.ofNat 0))]) (l := (cs[i]).row) rfl rfl rfl (fun _ _ => none)
  rw [hk, a1.sF 0 (x := .int .i64 (cs[i]).seen) rfl, aJ, TE, aC, show (Int.ofNat 0) = (0 : Int) from rfl, show (Int.ofNat 60) = (60 : Int) from rfl, sI, aM, aC, aV, aO, aI, List.drop_eq_getElem_cons hi, List.all_cons]
  have g2 : dW h (h1.add (.cells [.int .i64 (cs[i]).seen] 3 none)) := g1.trans (dW.add g1.wf _)
  have a2 := ET g1.wf a1 (.cells [.int .i64 (cs[i]).seen] 3 none)
  generalize h1.add (.cells [.int .i64 (cs[i]).seen] 3 none) = h2 at g2 a2 ⊢
  unfold VJ
  cases x1 : qI 0 60 (cs[i]).seen with
  | false => rw [if_pos (by rfl)]; exact ⟨_, rfl⟩
  | true =>
  rw [if_neg (by simp), a2.sF 1 (x := .int .i64 (cs[i]).miss) rfl, aJ, TE, aC, show (Int.ofNat 5) = (5 : Int) from rfl, sI, aM, aC, aV, aO, aI]
  have g3 : dW h (h2.add (.cells [.int .i64 (cs[i]).miss] 3 none)) := g2.trans (dW.add g2.wf _)
  generalize h2.add (.cells [.int .i64 (cs[i]).miss] 3 none) = h3 at g3 ⊢
  cases x2 : qI 0 5 (cs[i]).miss with
  | false => rw [if_pos (by rfl)]; exact ⟨_, rfl⟩
  | true =>
  rw [if_neg (by simp), show Int.add (i : Int) (Int.ofNat 1) = ((i + 1 : Nat) : Int) from rfl, wrap64_in _ (by omega) (by omega)]
  exact BS hlen m (i + 1) n h3 g3.wf (hr.sub g3.sub) (by omega) (by omega)
theorem IY {v : Value} {cs : List Ct} (hlen : cs.length ≤ 900000) {h : Hp} (w : Wf h) (hr : uP h 2 v (cs.map Ct.row)) : ∃ h', aN1 [v] h = some (.bool (cs.all VJ), h') := by
 have start : aN1 [v] h = YR (aQ aDB 999999) v h := rfl
 rw [start]
 unfold YR
 rw [hr.rows.len, List.length_map]
 have := BS (v := v) hlen cs.length 0 999999 h w hr (by omega) (by omega)
 rw [List.drop_zero] at this
 exact this
end Go.Proofs.YtgomkbcokgeciaaGreat.K.L
