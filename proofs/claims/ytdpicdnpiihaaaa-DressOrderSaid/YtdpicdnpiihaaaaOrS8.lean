/- Contracts of told functions: what a room without an error is; open. -/
import Derived.Test.YtdpicdnpiihaaaaOrS7
open Go Go.bI
set_option maxRecDepth 100000
set_option linter.unusedVariables false
namespace Go.Proofs.Ytdpicdnpiihaaaa.K.L
theorem look_ok {nc no : Nat} {least : Int} {prev : List Lk} {g : Lk} (h : iE nc no least prev g = 0) : g.lk.length = nc ∧ (least ≤ gM g ∧ gM g ≤ (no : Int) - 1) ∧ (∀ x ∈ g.lk.tail, least ≤ x ∧ x ≤ 5) ∧ 0 ≤ g.lJ ∧ g.lJ ≤ 50 := by
 unfold iE at h
 cases x0 : wD g.nm.data.toList with
 | false => rw [x0] at h; simp at h
 | true =>
 cases x1 : prev.any (fun x => kN x.nm g.nm) with
 | true => rw [x0, x1] at h; simp at h
 | false =>
 rw [x0, x1] at h
 simp only [Bool.not_true, Bool.false_eq_true, if_false] at h
 by_cases c3 : (g.lk.length : Int) = (nc : Int)
 case neg => rw [if_pos c3] at h; exact absurd h (by decide)
 rw [if_neg (by simpa using c3)] at h
 cases x2 : rY least ((no : Int) - 1) (gM g) with
 | false => rw [x2] at h; simp at h
 | true =>
 cases x3 : g.lk.tail.all (rY least 5) with
 | false => rw [x2, x3] at h; simp at h
 | true =>
 cases x4 : rY 0 50 g.lJ with
 | false => rw [x2, x3, x4] at h; simp at h
 | true => exact ⟨by omega, tC.1 x2, fun x hx => tC.1 (List.all_eq_true.1 x3 x hx), tC.1 x4⟩
structure nI (s : Rm) : Prop where
 nc : 0 < s.costs.length ∧ s.costs.length ≤ 4
 cs : ∀ n ∈ s.costs, 0 ≤ n ∧ n ≤ 100
 no : 0 < s.bW.length ∧ s.bW.length ≤ 4
 os : ∀ n ∈ s.bW, 0 ≤ n ∧ n ≤ 50
 nf : s.bP.length ≤ 6
 np : s.dR.length ≤ 5
 fs : ∀ g ∈ s.bP, g.lk.length = s.costs.length ∧ (0 ≤ gM g ∧ gM g ≤ (s.bW.length : Int) - 1) ∧ (∀ x ∈ g.lk.tail, 0 ≤ x ∧ x ≤ 5) ∧ 0 ≤ g.lJ ∧ g.lJ ≤ 50
 ps : ∀ g ∈ s.dR, g.lk.length = s.costs.length ∧ (-1 ≤ gM g ∧ gM g ≤ (s.bW.length : Int) - 1) ∧ (∀ x ∈ g.lk.tail, -1 ≤ x ∧ x ≤ 5) ∧ 0 ≤ g.lJ ∧ g.lJ ≤ 50
theorem rF {s : Rm} (h : (fC s).2.2 = 0) : nI s := by
 unfold fC at h
 by_cases c1 : (l8 4 100 s.costs).2 = 0
 case neg => rw [if_pos c1] at h; exact absurd h c1
 rw [if_neg (by simpa using c1)] at h
 by_cases c2 : (l8 4 50 s.bW).2 = 0
 case neg => rw [if_pos c2] at h; exact absurd h c2
 rw [if_neg (by simpa using c2)] at h
 by_cases c3 : (iP 6 (iE s.costs.length s.bW.length 0) s.bP).2 = 0
 case neg => rw [if_pos c3] at h; exact absurd h c3
 rw [if_neg (by simpa using c3)] at h
 by_cases c4 : (iP 5 (iE s.costs.length s.bW.length (-1)) s.dR).2 = 0
 case neg => rw [if_pos c4] at h; exact absurd h c4
 obtain ⟨a1, a2, a3⟩ := DT c1
 obtain ⟨b1, b2, b3⟩ := DT c2
 have l3 := xW c3
 have l4 := xW c4
 refine ⟨⟨a1, by omega⟩, a3, ⟨b1, by omega⟩, b3, by omega, by omega, fun g hg => ?_, fun g hg => ?_⟩
 ·obtain ⟨j, hj, rfl⟩ := List.getElem_of_mem hg
  exact look_ok (DY c3 j hj)
 ·obtain ⟨j, hj, rfl⟩ := List.getElem_of_mem hg
  exact look_ok (DY c4 j hj)
theorem qZ.sub {hb h h' : Hp} (hs : Sub h h') {v : Value} {ns : List Int} (a : qZ hb h v ns) : qZ hb h' v ns := by
 rcases a with a | ⟨b, h1, h2, h3⟩
 ·exact .inl a
 ·exact .inr ⟨b, h1, h2, hs _ _ h3⟩
theorem qZ.low {hb hb' h : Hp} (hl : hb'.next ≤ hb.next) {v : Value} {ns : List Int} (a : qZ hb h v ns) : qZ hb' h v ns := by
 rcases a with a | ⟨b, h1, h2, h3⟩
 ·exact .inl a
 ·exact .inr ⟨b, h1, by omega, h3⟩
theorem qZ.mp {hb h : Hp} {mb : Nat} {es : List (Value × Value)} (hm : h.get mb = some (.map es)) {o : bY} {v : Value} {ns : List Int} (a : qZ hb h v ns) : qZ hb (h.upd mb o) v ns := by
 rcases a with a | ⟨b, h1, h2, h3⟩
 ·exact .inl a
 ·exact .inr ⟨b, h1, h2, by rw [bL, if_neg (by intro e; subst e; rw [hm] at h3; cases h3)]; exact h3⟩
theorem At.mp {h : Hp} {mb : Nat} {es : List (Value × Value)} (hm : h.get mb = some (.map es)) {o : bY} {p : Value} {r : List Value} (a : At h p r) : At (h.upd mb o) p r := by
 obtain ⟨b, k, c, t, s, h1, h2, h3, h4⟩ := a
 exact ⟨b, k, c, t, s, h1, by rw [bL, if_neg (by intro e; subst e; rw [hm] at h2; cases h2)]; exact h2, h3, h4⟩
def WT (hb h : Hp) (mb : Nat) (s : Rm) (P : Nat → Nat → Prop) : Prop := ∃ es, h.get mb = some (.map es) ∧ (∀ e ∈ es, ∃ a b v, e = (qL a b, v) ∧ P a b ∧ ∃ f q, s.bP[a]? = some f ∧ s.dR[b]? = some q ∧ qZ hb h v (jZ 0 f.lk q.lk)) ∧
 ∀ a b, P a b → a < s.bP.length → b < s.dR.length → ∃ v, (qL a b, v) ∈ es
theorem WT.sub {hb h h' : Hp} (hs : Sub h h') {mb : Nat} {s : Rm} {P : Nat → Nat → Prop} (m : WT hb h mb s P) : WT hb h' mb s P := by
 obtain ⟨es, h1, h2, h3⟩ := m
 exact ⟨es, hs _ _ h1, fun e he => by
  obtain ⟨a, b, v, x1, x2, f, q, x3, x4, x5⟩ := h2 e he
  exact ⟨a, b, v, x1, x2, f, q, x3, x4, x5.sub hs⟩, h3⟩
theorem WT.imp {hb h : Hp} {mb : Nat} {s : Rm} {P P' : Nat → Nat → Prop} (hp : ∀ a b, a < s.bP.length → b < s.dR.length → (P a b ↔ P' a b)) (m : WT hb h mb s P) : WT hb h mb s P' := by
 obtain ⟨es, h1, h2, h3⟩ := m
 exact ⟨es, h1, fun e he => by
  obtain ⟨a, b, v, x1, x2, f, q, x3, x4, x5⟩ := h2 e he
  exact ⟨a, b, v, x1, (hp a b (List.getElem?_eq_some_iff.1 x3).1 (List.getElem?_eq_some_iff.1 x4).1).1 x2, f, q, x3, x4, x5⟩, fun a b x ha hb => h3 a b ((hp a b ha hb).2 x) ha hb⟩
theorem WT.get {hb h : Hp} {mb : Nat} {s : Rm} {P : Nat → Nat → Prop} (m : WT hb h mb s P) {a b : Nat} {f q : Lk} (hp : P a b) (hf : s.bP[a]? = some f) (hq : s.dR[b]? = some q) : ∃ v, kU env h 69 (.map (some mb)) (qL a b) false = some v ∧ qZ hb h v (jZ 0 f.lk q.lk) := by
 obtain ⟨es, h1, h2, h3⟩ := m
 obtain ⟨v, e1, e2⟩ := aR7 h1 (fun e he => by
  obtain ⟨a, b, v, x1, _⟩ := h2 e he
  exact ⟨a, b, v, x1⟩) (h3 a b hp (List.getElem?_eq_some_iff.1 hf).1 (List.getElem?_eq_some_iff.1 hq).1)
 obtain ⟨a', b', v', x1, _, f', q', x3, x4, x5⟩ := h2 _ e2
 have i1 := congrArg Prod.fst x1
 have i2 := congrArg Prod.snd x1
 simp [qL] at i1 i2
 obtain ⟨i3, i4⟩ := i1
 have i3 : a = a' := by omega
 have i4 : b = b' := by omega
 subst i2 i3 i4
 rw [hf] at x3; cases x3
 rw [hq] at x4; cases x4
 exact ⟨v, e1, x5⟩
theorem PX {F : List Value → Hp → aF} {args : List Value} {h h' : Hp} {v : Value} {ns : List Int} (w : Wf h) (e : F args (dF h) = some (v, h')) (g : aV (dF h) h') (s : qZ (dF h) h' v ns) : ∃ h2, bQ F args h = some (v, h2) ∧ aV h h2 ∧ qZ h h2 v ns := by
 obtain ⟨h2, e2, g2, o2⟩ := xU w e g
 refine ⟨h2, e2, g2, ?_⟩
 rcases s with s | ⟨b, h1, h3, h4⟩
 ·exact .inl s
 ·have := o2 (by rw [h1]; rfl)
  exact .inr ⟨b, h1, h3, by show h2.aC.get b = _; rw [this]; exact h4⟩
def upto (i j : Nat) : Nat → Nat → Prop := fun a b => a < i ∨ (a = i ∧ b < j)
noncomputable def mQ : List Value := [(Value.string (ByteArray.mk #[])), (Value.slice none 0 0), (Value.int .i64 (Int.ofNat 0))]
theorem aOT (n : Nat) (p r m f : Value) (k i : Int) (h : Hp) : aN T63 (n + 1) 1 (AL.v p (AL.v r (AL.v m (AL.v f (AL.i k (AL.i i AL.n)))))) h = aEF (aN T63 n) p r m f k i h := rfl
theorem aOU (n : Nat) (p r m : Value) (i : Int) (g f : Value) (k i2 : Int) (q : Value) (l j : Int) (h : Hp) : aN T63 (n + 1) 2 (AL.v p (AL.v r (AL.v m (AL.i i (AL.v g (AL.v f (AL.i k (AL.i i2 (AL.v q (AL.i l (AL.i j AL.n))))))))))) h = aEE (aN T63 n) p r m i g f k i2 q l j h := rfl
theorem aW8 (n : Nat) (p r m f : Value) (k i : Int) (h : Hp) : aN T63 (n + 1) 3 (AL.v p (AL.v r (AL.v m (AL.v f (AL.i k (AL.i i AL.n)))))) h = aKS (aN T63 n) p r m f k i h := rfl
theorem aW9 (n : Nat) (p r m : Value) (h : Hp) : aN T63 (n + 1) 4 (AL.v p (AL.v r (AL.v m AL.n))) h = aKR (aN T63 n) p r m h := rfl
theorem UL {hb : Hp} (w : Wf hb) {s : Rm} (F : nI s) {p r vf vp : Value} (sp : lV hb 3 vp (s.dR.map Lk.row)) (af : ∀ g ∈ s.bP, LD hb g) (ap : ∀ g ∈ s.dR, LD hb g) {mb : Nat} (hmb : hb.next ≤ mb) {i : Nat} (hi : i < s.bP.length) {pf : Value} (nf : Int) :
  ∀ (m j n : Nat) (h : Hp), aV hb h → At h pf (s.bP[i]).row → WT hb h mb s (upto i j) → j + m = s.dR.length → m + 3 ≤ n →
  ∃ n' h', aN T63 n 2 (AL.v p (AL.v r (AL.v (.map (some mb)) (AL.i (i : Int) (AL.v pf (AL.v vf (AL.i nf (AL.i (i : Int) (AL.v vp (AL.i (s.dR.length : Int) (AL.i (j : Int) AL.n))))))))))) h = aN T63 n' 3 (AL.v p (AL.v r (AL.v (.map (some mb)) (AL.v vf (AL.i nf (AL.i (i : Int) AL.n)))))) h' ∧ n ≤ n' + m + 1 ∧ aV hb h' ∧ WT hb h' mb s (upto i s.dR.length)
 | 0, j, n', h, g, a, mp, hj, hn => by
  obtain ⟨n, rfl⟩ : ∃ n, n' = n + 1 := ⟨n' - 1, by omega⟩
  rw [aOU]
  unfold aEE
  rw [aQ, aW, aH, if_neg (by simp; omega)]
  exact ⟨n, h, rfl, by omega, g, by rw [show s.dR.length = j by omega]; exact mp⟩
 | m + 1, j, n', h, g, a, mp, hj, hn => by
  obtain ⟨n, rfl⟩ : ∃ n, n' = n + 1 := ⟨n' - 1, by omega⟩
  have hj' : j < s.dR.length := by omega
  have np := F.np
  have hq : (s.dR.map Lk.row)[j]? = some (s.dR[j]).row := by rw [List.getElem?_map, List.getElem?_eq_getElem hj']; rfl
  obtain ⟨q, eq, aq, hl⟩ := (sp.sub g.sub).rows.at hq
  have lq := ap _ (List.getElem_mem hj')
  have lf := af _ (List.getElem_mem hi)
  rw [aOU]
  unfold aEE
  rw [aQ, aW, aH, if_pos (by simp; omega), eq, aq.eX hl]
  obtain ⟨h4, q4, g4, a4, hk⟩ := l9 (ρ := Value × Hp) (z := 3) g.wf 59 (c := mQ) (l := (s.dR[j]).row) rfl rfl lq.one (fun _ _ => none)
  rw [show [(Value.string (ByteArray.mk #[])), (Value.slice none 0 0), (Value.int .i64 (Int.ofNat 0))] = mQ from rfl, hk, a6R, aM, (a.sub g4.sub).wP 1 (x := (s.bP[i]).lv) rfl, a4.wP 1 (x := (s.dR[j]).lv) rfl]
  have gb := g.trans g4
  have fl := (F.fs _ (List.getElem_mem hi)).1
  have pl := (F.ps _ (List.getElem_mem hj')).1
  obtain ⟨h5, v5, e5, g5, i5⟩ := W9 (h := dF h4) (fM g4.wf) (lf.sub gb.sub) (lq.sub gb.sub) (by omega) (by have := F.nc; omega)
  obtain ⟨h6, e6, g6, i6⟩ := PX g4.wf e5 g5 i5
  rw [e6, aB]
  have gb6 := gb.trans g6
  obtain ⟨es, m1, m2, m3⟩ := mp.sub (g4.trans g6).sub
  have hlt := gb6.wf.2 _ _ m1
  rw [aR6 m1 (by rw [gb6.ro]; have := w.1; omega) (fun e he => by
   obtain ⟨c, d, v, x1, x2, _⟩ := m2 e he
   refine ⟨c, d, v, x1, fun x => ?_⟩
   rcases x2 with x2 | x2 <;> omega), aM, show Int.add (j : Int) (Int.ofNat 1) = ((j + 1 : Nat) : Int) from rfl, wrap64_in _ (by omega) (by omega)]
  obtain ⟨n2, h2, r1, r2, r3, r4⟩ := UL w F sp af ap hmb hi nf m (j + 1) n (h6.upd mb (.map (es ++ [(qL i j, v5)]))) (aV.upd w gb6 hmb hlt _) (At.mp m1 (a.sub (g4.trans g6).sub))
   ⟨es ++ [(qL i j, v5)], by rw [bL, if_pos rfl], fun e he => by
    rcases List.mem_append.1 he with he | he
    ·obtain ⟨c, d, v, x1, x2, f, q, x3, x4, x5⟩ := m2 e he
     exact ⟨c, d, v, x1, x2.elim .inl (fun x2 => .inr ⟨x2.1, by omega⟩), f, q, x3, x4, x5.mp m1⟩
    ·rw [List.mem_singleton] at he
     subst he
     exact ⟨i, j, v5, rfl, .inr ⟨rfl, by omega⟩, _, _, List.getElem?_eq_getElem hi, List.getElem?_eq_getElem hj', (i6.low (by exact gb.next)).mp m1⟩,
   fun c d x hc hd => by
    by_cases y : c = i ∧ d = j
    ·obtain ⟨rfl, rfl⟩ := y
     exact ⟨v5, by simp⟩
    ·obtain ⟨v, hv⟩ := m3 c d (x.elim .inl (fun x => .inr ⟨x.1, by omega⟩)) hc hd
     exact ⟨v, List.mem_append_left _ hv⟩⟩ (by omega) (by omega)
  exact ⟨n2, h2, r1, by omega, r3, r4⟩
end Go.Proofs.Ytdpicdnpiihaaaa.K.L
