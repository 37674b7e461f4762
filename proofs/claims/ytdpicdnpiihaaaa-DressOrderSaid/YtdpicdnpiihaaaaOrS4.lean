/- Contracts of told functions: numbers, looks, Check. -/
import Derived.Test.YtdpicdnpiihaaaaOrSN
open Go Go.bI
set_option maxRecDepth 100000
set_option linter.unusedVariables false
namespace Go.Proofs.Ytdpicdnpiihaaaa.K.L
theorem tC {lo hi n : Int} : rY lo hi n = true ↔ lo ≤ n ∧ n ≤ hi := by
 unfold rY; simp
def MF (most n : Int) : Int := if rY 0 most n then 0 else 7
def l8 (many most : Int) (l : List Int) : Int × Int := if l.length = 0 then (0, 3) else iP many (fun _ n => MF most n) l
theorem aOP {h : Hp} {p : Value} {most : Int} (a : At h p [.int .i64 most]) (v : Value) (n : Int) : ∃ h', F81 [v, .int .i64 n, p] h = some (.int .i64 (MF most n), h') := by
 have start : F81 [v, .int .i64 n, p] h = aJ4 (aN T81 999999) v n p h := rfl
 rw [start]
 unfold aJ4 MF
 rw [a.j6 (x := .int .i64 most) rfl, aI, WR, aB, show (Int.ofNat 0) = (0 : Int) from rfl, WW, aM, aB, aZ, aR, aH]
 cases c : rY 0 most n with
 | false => rw [if_pos (by rfl), if_neg (by simp)]; exact ⟨_, rfl⟩
 | true => rw [if_neg (by simp), if_pos rfl]; exact ⟨_, rfl⟩
theorem UH {h : Hp} (w : Wf h) {v : Value} {l : List Int} (sl : lV h 1 v (l.map cZ)) {many : Int} (most : Int) (hm : many ≤ 900000) : ∃ h', F48 [v, .int .i64 many, .int .i64 most] h = some (lZ (l8 many most l), h') := by
 have start : F48 [v, .int .i64 many, .int .i64 most] h = aJ6 (aN T48 999999) v many most h := rfl
 rw [start]
 unfold aJ6 l8
 rw [bT]
 have w1 := w.add (.cells [.int .i64 most] 3 none)
 have a1 : At (h.add (.cells [.int .i64 most] 3 none)) (.pointer (some ⟨h.next, 0, none⟩)) [.int .i64 most] := At.new
 have r1 := sl.sub (aV.add w (.cells [.int .i64 most] 3 none)).sub
 generalize h.add (.cells [.int .i64 most] 3 none) = h1 at w1 a1 r1 ⊢
 generalize Value.pointer (some ⟨h.next, 0, none⟩) = p at a1 ⊢
 rw [r1.rows.len, List.length_map, aQ, cK, aH]
 by_cases c : l.length = 0
 ·rw [if_pos (by simp [c]), if_pos c]; exact ⟨_, rfl⟩
 rw [if_neg (by simpa using c), if_neg c]
 obtain ⟨h2, e2⟩ := aHA (v := v) (fv := .func (.func 81) #[] #[p]) (gs := l) hm (fun _ n => MF most n) (h := dF h1) (fun v' i hi hl r => by
  obtain ⟨h9, e9⟩ := aOP (h := dF h1) (p := p) (most := most) a1 v' l[i]
  exact bO e9 rfl) (fM w1) r1
 rw [show (Value.func (.func 81) (List.toArray []) (List.toArray [p])) = .func (.func 81) #[] #[p] from rfl, bO e2 rfl, aB]
 unfold lZ
 rw [bG (v := .int .i64 (iP many (fun _ n => MF most n) l).1) rfl, aI, bG (v := .int .i64 (iP many (fun _ n => MF most n) l).2) rfl, aI]
 exact ⟨_, rfl⟩
def LD (h : Hp) (g : Lk) : Prop := lV h 1 g.lv (g.lk.map cZ)
theorem LD.sub {h h' : Hp} (hs : Sub h h') {g : Lk} (a : LD h g) : LD h' g := lV.sub hs a
theorem lV.sl {h : Hp} {z : Nat} {v : Value} {rs : List (List Value)} (a : lV h z v rs) : ∃ b n c, v = .slice b n c := by
 rcases a with ⟨h1, _⟩ | ⟨b, c, t, k, h1, _⟩
 ·exact ⟨none, 0, 0, h1⟩
 ·exact ⟨_, _, _, h1⟩
theorem LD.one {h : Hp} {g : Lk} (a : LD h g) : g.row.all oneCell = true := by
 obtain ⟨_, _, _, e⟩ := lV.sl a
 unfold Lk.row; rw [e]; rfl
theorem tail_at {h : Hp} {v : Value} {l : List Int} (sl : lV h 1 v (l.map cZ)) (hl : 0 < l.length) : ∃ b o c cs t s, jG env h 22 v (some (.int .i64 (Int.ofNat 1))) none none = some (.slice (some ⟨b, o, none⟩) l.tail.length c) ∧ h.get b = some (.cells cs t s) ∧ ∀ (j : Nat) (x : Int), l.tail[j]? = some x → cs[o + j]? = some (.int .i64 x) := by
 rcases sl with ⟨h1, h2⟩ | ⟨b, c, t, k, h1, h2, hk, h3⟩
 ·simp at h2; rw [h2] at hl; simp at hl
 ·rw [List.length_map] at h1
  subst h1
  have hb : mG (some (.int .i64 (Int.ofNat 1))) none l.length l.length = some (1, l.length) := by
   unfold mG
   simp only [xC, Option.bind_some]
   rw [show Nat.ble 1 l.length = true from by rw [Nat.ble_eq]; omega]
   rfl
  have hr : kG h b = some k := by unfold kG; rw [h2]
  have res : jG env h 22 (.slice (some ⟨b, 0, none⟩) l.length l.length) (some (.int .i64 (Int.ofNat 1))) none none = some (.slice (some (cond (Nat.beq l.length 1) ⟨b, 0, none⟩ (Addr.add ⟨b, 0, none⟩ (1 * 1)))) (l.length - 1) (l.length - 1)) := by
   unfold jG
   simp only [PW, Option.bind_some, LH]
   rw [hr]
   rcases hk with rfl | rfl
   ·simp only [Option.bind_some, hb, ok?]
   ·simp only [Option.bind_some, hb]
  by_cases c1 : l.length = 1
  ·refine ⟨b, 0, l.length - 1, c, t, k, ?_, h2, fun j x hx => ?_⟩
   ·rw [res, c1, List.length_tail, c1]; rfl
   ·have : l.tail.length = 0 := by rw [List.length_tail, c1]
    rw [List.eq_nil_of_length_eq_zero this] at hx; simp at hx
  ·refine ⟨b, 1, l.length - 1, c, t, k, ?_, h2, fun j x hx => ?_⟩
   ·rw [res, show Nat.beq l.length 1 = false from by cases hq : Nat.beq l.length 1 with | false => rfl | true => exact absurd (Nat.eq_of_beq_eq_true hq) c1, List.length_tail]; rfl
   ·rw [List.getElem?_tail] at hx
    have := h3 (j + 1) (cZ x) (by rw [List.getElem?_map, hx]; rfl)
    have := this.2.2 0 (.int .i64 x) rfl
    rw [Nat.mul_one, Nat.add_zero] at this
    rw [Nat.add_comm 1 j]; exact this
structure Rm where
 costs : List Int
 bW : List Int
 bP : List Lk
 dR : List Lk
def dO (vc vo vf vp : Value) : List Value := [vc, vo, vf, vp]
def FU (h : Hp) (s : Rm) (r : List Value) : Prop := ∃ vc vo vf vp, r = dO vc vo vf vp ∧ lV h 1 vc (s.costs.map cZ) ∧ lV h 1 vo (s.bW.map cZ) ∧ lV h 3 vf (s.bP.map Lk.row) ∧ lV h 3 vp (s.dR.map Lk.row) ∧ (∀ g ∈ s.bP, LD h g) ∧ ∀ g ∈ s.dR, LD h g
theorem FU.sub {h h' : Hp} (hs : Sub h h') {s : Rm} {r : List Value} (a : FU h s r) : FU h' s r := by
 obtain ⟨vc, vo, vf, vp, h1, h2, h3, h4, h5, h6, h7⟩ := a
 exact ⟨vc, vo, vf, vp, h1, h2.sub hs, h3.sub hs, h4.sub hs, h5.sub hs, fun g hg => (h6 g hg).sub hs, fun g hg => (h7 g hg).sub hs⟩
theorem FU.len {h : Hp} {s : Rm} {r : List Value} (a : FU h s r) : r.length = 4 := by
 obtain ⟨_, _, _, _, rfl, _⟩ := a; rfl
theorem FU.one {h : Hp} {s : Rm} {r : List Value} (a : FU h s r) : r.all oneCell = true := by
 obtain ⟨vc, vo, vf, vp, rfl, h1, h2, h3, h4, _⟩ := a
 obtain ⟨_, _, _, rfl⟩ := h1.sl
 obtain ⟨_, _, _, rfl⟩ := h2.sl
 obtain ⟨_, _, _, rfl⟩ := h3.sl
 obtain ⟨_, _, _, rfl⟩ := h4.sl
 rfl
def gM (g : Lk) : Int := g.lk.headD 0
def iE (costs aR2 : Nat) (least : Int) (prev : List Lk) (g : Lk) : Int :=
 if !(wD g.nm.data.toList) then 6 else if prev.any (fun x => kN x.nm g.nm) then 5 else if (g.lk.length : Int) ≠ (costs : Int) then 3 else if !(rY least ((aR2 : Int) - 1) (gM g)) then 4
 else if !(g.lk.tail.all (rY least 5)) then 7 else if !(rY 0 50 g.lJ) then 7 else 0
theorem M3 {g : Lk} {k : Nat} (h : g.lk.length = k + 1) : g.lk[0]? = some (gM g) := by
 unfold gM
 cases e : g.lk with
 | nil => rw [e] at h; simp at h
 | cons a l => rfl
theorem aHF {h : Hp} (w : Wf h) {v pr pl vc vo vf vp : Value} {prev : List Lk} {nc no : Nat} {least : Int} (hr : bI.Rows h 3 v (prev.map Lk.row)) (hlen : prev.length ≤ 900000) (ar : At h pr (dO vc vo vf vp)) (al : At h pl [.int .i64 least])
  {rc ro : List (List Value)} (sc : lV h 1 vc rc) (so : lV h 1 vo ro) (ec : rc.length = nc) (eo : ro.length = no) (hc : 0 < nc ∧ nc ≤ 100) (ho : no ≤ 100) (g : Lk) (a : LD h g) : ∃ h', F84 [v, .agg (Array.mk g.row), pr, pl] h = some (.int .i64 (iE nc no least prev g), h') := by
 have start : F84 [v, .agg (Array.mk g.row), pr, pl] h = aKH (aN T84 999999) v (.agg (Array.mk g.row)) pr pl h := rfl
 rw [start]
 unfold aKH
 rw [fF, bT]
 have w1 : Wf (h.add (.cells g.row 59 none)) := w.add _
 have a1 : At (h.add (.cells g.row 59 none)) (.pointer (some ⟨h.next, 0, none⟩)) g.row := At.new
 have gr := (aV.add w (.cells g.row 59 none)).sub
 have r1 := hr.sub gr
 have ar1 := ar.sub gr
 have al1 := al.sub gr
 have sc1 := sc.sub gr
 have so1 := so.sub gr
 have g1 := a.sub gr
 generalize h.add (.cells g.row 59 none) = h1 at w1 a1 r1 ar1 al1 sc1 so1 g1 ⊢
 generalize Value.pointer (some ⟨h.next, 0, none⟩) = p at a1 ⊢
 rw [a1.wP 0 (x := .string g.nm) rfl, ZN (fun h => aRT g.nm (dF h)) rfl, aB, aZ, aR, aH]
 unfold iE
 cases hn : wD g.nm.data.toList with
 | false => rw [if_pos (by rfl), if_pos (by rfl)]; exact ⟨_, rfl⟩
 | true =>
 rw [if_neg (by simp), if_neg (by simp), show (Value.func (.func 87) (List.toArray []) (List.toArray [p])) = .func (.func 87) #[] #[p] from rfl, bO (RH (h := dF h1) r1 a1 hlen) rfl, aB, aZ, aH]
 cases hc1 : prev.any (fun x => kN x.nm g.nm) with
 | true => rw [if_pos (by rfl), if_pos (by rfl)]; exact ⟨_, rfl⟩
 | false =>
 rw [if_neg (by simp), if_neg (by simp), a1.wP 1 (x := g.lv) rfl, g1.rows.len, List.length_map, ar1.wP 0 (x := vc) rfl, sc1.rows.len, ec, aR, cK, aH]
 by_cases c3 : (g.lk.length : Int) = (nc : Int)
 case neg => rw [if_pos (by simpa using c3), if_pos c3]; exact ⟨_, rfl⟩
 obtain ⟨k, ek⟩ : ∃ k, g.lk.length = k + 1 := ⟨g.lk.length - 1, by omega⟩
 have hh := M3 ek
 obtain ⟨q, hq, aq, _⟩ := g1.rows.at (i := 0) (r := cZ (gM g)) (by rw [List.getElem?_map, hh]; rfl)
 rw [if_neg (by simpa using c3), if_neg (by simpa using c3), al1.j6 (x := .int .i64 least) rfl, aI, ar1.wP 1 (x := vo) rfl, so1.rows.len, eo, show Int.sub (no : Int) (Int.ofNat 1) = (no : Int) - 1 from rfl, wrap64_in _ (by omega) (by omega), a1.wP 1 (x := g.lv) rfl,
  show (Int.ofNat 0) = ((0 : Nat) : Int) from rfl, hq, aq.j6 (x := .int .i64 (gM g)) rfl, aI, WR, aB, WW, aM, aB, aZ, aR, aH]
 have w2 := w1.add (.cells [.int .i64 (gM g)] 3 none)
 have gr2 := (aV.add w1 (.cells [.int .i64 (gM g)] 3 none)).sub
 have a2 := a1.sub gr2
 have al2 := al1.sub gr2
 have g2 := g1.sub gr2
 generalize h1.add (.cells [.int .i64 (gM g)] 3 none) = h2 at w2 a2 al2 g2 ⊢
 cases c4 : rY least ((no : Int) - 1) (gM g) with
 | false => rw [if_pos (by rfl), if_pos (by rfl)]; exact ⟨_, rfl⟩
 | true =>
 obtain ⟨b, o, c, cs, t, s, e1, e2, e3⟩ := tail_at g2 (by omega)
 rw [if_neg (by simp), if_neg (by simp), al2.j6 (x := .int .i64 least) rfl, aI, a2.wP 1 (x := g.lv) rfl, e1, aM, show (Int.ofNat 5) = (5 : Int) from rfl, J5 h2 least 5 b o c cs t s e2 g.lk.tail e3 (by rw [List.length_tail]; omega), aM, aB, aZ, aR, aH]
 cases c5 : g.lk.tail.all (rY least 5) with
 | false => rw [if_pos (by rfl), if_pos (by rfl), aH, if_pos (by rfl)]; exact ⟨_, rfl⟩
 | true =>
 rw [if_neg (by simp), if_neg (by simp), a2.wP 2 (x := .int .i64 g.lJ) rfl, aI, WR, aB, show (((0 : Nat) : Int)) = (0 : Int) from rfl, show (Int.ofNat 50) = (50 : Int) from rfl, WW, aM, aB, aZ, aR, aH]
 cases c6 : rY 0 50 g.lJ with
 | false => rw [if_pos (by rfl), if_pos (by rfl)]; exact ⟨_, rfl⟩
 | true => rw [if_neg (by simp), if_neg (by simp)]; exact ⟨_, rfl⟩
end Go.Proofs.Ytdpicdnpiihaaaa.K.L
