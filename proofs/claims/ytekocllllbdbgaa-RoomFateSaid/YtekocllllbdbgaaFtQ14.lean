/- Contracts of told functions: Fate, in the code and in the reference. -/
import Derived.Test.YtekocllllbdbgaaFtQ13
open Go Go.Eng
set_option maxRecDepth 100000
set_option linter.unusedVariables false
namespace Go.Proofs.Ytekocllllbdbgaa.K.L
theorem warmF_bd {lit : Nat} : ∀ (l : List Sp) (i : Nat) (x : Int × Int), SpsOk l → x.1 ≤ x.2 → x.1 ≤ (warmF lit i l x).1 ∧ (warmF lit i l x).1 ≤ (warmF lit i l x).2 ∧ (warmF lit i l x).2 ≤ x.2 + 60 * l.length
  | [], i, x, ok, h => ⟨Int.le_refl _, h, by show x.2 ≤ x.2 + 60 * ((0 : Nat) : Int); omega⟩
  | g :: l, i, x, ok, h => by
    obtain ⟨o1, o2, o3, o4, o5⟩ := ok g (.head _)
    unfold warmF
    have lc : ((g :: l).length : Int) = (l.length : Int) + 1 := rfl
    rw [lc]
    cases hb : bitB lit i with
    | true =>
      obtain ⟨a, b, c⟩ := warmF_bd (lit := lit) l (i + 1) (x.1 + g.lo, x.2 + g.hi) (fun y hy => ok y (.tail _ hy)) (by simp only; omega)
      simp only [if_true] at a b c ⊢
      omega
    | false =>
      obtain ⟨a, b, c⟩ := warmF_bd (lit := lit) l (i + 1) x (fun y hy => ok y (.tail _ hy)) h
      simp only [Bool.false_eq_true, if_false]
      omega
def fateAll (s : Ho) (fig place lit : Int) : Int × Int :=
  if (checkH s).2.2 ≠ 0 then (0, (checkH s).2.2)
  else if !(inB 0 ((s.figs.length : Int) - 1) fig) then (0, 4)
  else if !(inB 0 ((s.pls.length : Int) - 1) place) then (0, 4)
  else if !(inB 0 (2 ^ s.stoves.toNat - 1) lit) then (0, 7)
  else match s.figs[fig.toNat]?, s.pls[place.toNat]? with
    | some g, some p => (fateS (warmF lit.toNat 0 p.ws (s.we.lo, s.we.hi)) g, 0)
    | _, _ => (0, 4)
theorem fate17_at {h : Hp} (w : Wf h) {s : Ho} {r : List Value} (a : HoA h s r) (fig place lit : Int) : ∃ h', F17 [.agg (Array.mk r), .int .i64 fig, .int .i64 place, .int .i64 lit] h = some (pairV (fateAll s fig place lit), h') := by
  have start : F17 [.agg (Array.mk r), .int .i64 fig, .int .i64 place, .int .i64 lit] h = P17x0 (rec' T17 999999) (.agg (Array.mk r)) fig place lit h := rfl
  rw [start]
  unfold P17x0
  clear start
  have hr7 := a.len
  rw [rowCells, allocK_add]
  have g1 := Grew.add w (.cells r 28 none)
  have a1 : At (h.add (.cells r 28 none)) (.pointer (some ⟨h.next, 0, none⟩)) r := At.new
  generalize h.add (.cells r 28 none) = h1 at g1 a1 ⊢
  have s1 := a.sub g1.sub
  obtain ⟨hx, lk, ex, gx, lx, ox, kx⟩ := open58_at (h := shutH h1) (wfShut g1.wf) s1
  obtain ⟨h3, e3, g3⟩ := callQ_any g1.wf ex gx
  rw [a1.loadN (z := 7) hr7, e3, pairK_some', extK_at (v := .agg (Array.mk lk)) rfl, extK_at (v := .int .i64 (checkH s).2.2) rfl, intK_int]
  have g13 := g1.trans g3
  obtain ⟨h8, p, g8, a8, k8⟩ := alloc_store (ρ := Value × Hp) (z := 7) g13.wf 97 (c := zero97) (l := lk) rfl lx ox (fun _ _ => none)
  have g18 := g13.trans g8
  rw [show [(Value.int .i64 (Int.ofNat 0)), (Value.int .i64 (Int.ofNat 0)), (Value.int .i64 (Int.ofNat 0)), (Value.slice none 0 0), (Value.slice none 0 0), (Value.slice none 0 0), (Value.slice none 0 0)] = zero97 from rfl, k8, boolN_eq, eqZ_dec, ifB_if]
  unfold fateAll
  by_cases e0 : (checkH s).2.2 = 0
  case neg => rw [if_pos (by simpa using e0), if_pos e0]; exact ⟨_, rfl⟩
  have hlk := kx e0
  subst hlk
  have ok := check_ok e0
  have lp := ok.pls
  have lf := ok.figs
  have s8 := a.sub g18.sub
  obtain ⟨vh, vp, vf, vb, hrow, sh, sp, sw, sf, sb⟩ := a
  have sp8 := sp.sub g18.sub
  have sf8 := sf.sub g18.sub
  have ht : ¬((!true) = true) := by simp
  have hf : (!false) = true := rfl
  obtain ⟨q, hq, aq⟩ := a8.part 0 7 (by omega)
  rw [if_neg (by simpa using e0), if_neg (by simpa using e0), hq, aq.fld 5 (x := vf) (by rw [hrow]; rfl), sf8.rows.len, List.length_map, one24, pairK_some', index59_at h8 (by omega), optK_some', pairK_some', boolK_bool, boolN_eq, ifB_if]
  have gp := Grew.add g18.wf (.cells [.int .i64 fig] 3 none)
  have a18 := a8.sub gp.sub
  have s18 := s8.sub gp.sub
  have aq18 := aq.sub gp.sub
  have sp18 := sp8.sub gp.sub
  generalize h8.add (.cells [.int .i64 fig] 3 none) = h18 at gp a18 s18 aq18 sp18 ⊢
  cases c1 : inB 0 ((s.figs.length : Int) - 1) fig with
  | false => rw [if_pos hf, if_pos hf]; exact ⟨_, rfl⟩
  | true =>
  rw [if_neg ht, if_neg ht, hq, aq18.fld 4 (x := vp) (by rw [hrow]; rfl), sp18.rows.len, List.length_map, one24, pairK_some', index59_at h18 (by omega), optK_some', pairK_some', boolK_bool, boolN_eq, ifB_if]
  have gq := Grew.add gp.wf (.cells [.int .i64 place] 3 none)
  have a19 := a18.sub gq.sub
  have s19 := s18.sub gq.sub
  generalize h18.add (.cells [.int .i64 place] 3 none) = h19 at gq a19 s19 ⊢
  cases c2 : inB 0 ((s.pls.length : Int) - 1) place with
  | false => rw [if_pos hf, if_pos hf]; exact ⟨_, rfl⟩
  | true =>
  rw [if_neg ht, if_neg ht]
  have st : rec' T17 999999 1 (AL.i fig (AL.i place (AL.i lit (AL.v p AL.n)))) h19 = P17x1 (rec' T17 999998) fig place lit p h19 := rfl
  rw [st]
  unfold P17x1
  obtain ⟨st0, st3⟩ := ok.stoves
  obtain ⟨n, hn⟩ : ∃ n : Nat, s.stoves = (n : Int) := ⟨s.stoves.toNat, by omega⟩
  have hn3 : n ≤ 3 := by omega
  obtain ⟨h60, e60⟩ := lit60_at (h := shutH h19) (wfShut gq.wf) (we := s.we) (vh := vh) (vp := vp) (vf := vf) (vb := vb) hn3 lit
  rw [← hn, ← hrow] at e60
  rw [a19.loadN (z := 7) hr7, callQ_plain1 e60 rfl, pairK_some', intK_int, boolN_eq, eqZ_dec, ifB_if]
  have p2 := pow3 n hn3
  rw [show s.stoves.toNat = n by omega]
  cases c3 : inB 0 (2 ^ n - 1) lit with
  | false =>
    rw [show (if (false = true) then (0 : Int) else 7) = 7 from rfl, if_pos (by rfl), if_pos hf]
    exact ⟨_, rfl⟩
  | true =>
  have hl := inB_iff.1 c3
  have hp := inB_iff.1 c2
  have hfi := inB_iff.1 c1
  obtain ⟨l, rfl⟩ : ∃ l : Nat, lit = (l : Int) := ⟨lit.toNat, by omega⟩
  obtain ⟨k, rfl⟩ : ∃ k : Nat, place = (k : Int) := ⟨place.toNat, by omega⟩
  obtain ⟨f, rfl⟩ : ∃ f : Nat, fig = (f : Int) := ⟨fig.toNat, by omega⟩
  have hk : k < s.pls.length := by omega
  have hf2 : f < s.figs.length := by omega
  obtain ⟨h64, e64⟩ := fate64_at (h := shutH h19) (wfShut gq.wf) s19 ok (lit := l) (by omega) hk hf2
  rw [show (if (true = true) then (0 : Int) else 7) = 0 from rfl, if_neg (by simp), if_neg ht, a19.loadN (z := 7) hr7, s19.heat, optK_some', callQ_plain1 e64 rfl, pairK_some', intK_int, Int.toNat_natCast, Int.toNat_natCast, Int.toNat_natCast, List.getElem?_eq_getElem hk, List.getElem?_eq_getElem hf2]
  exact ⟨_, rfl⟩
end Go.Proofs.Ytekocllllbdbgaa.K.L
