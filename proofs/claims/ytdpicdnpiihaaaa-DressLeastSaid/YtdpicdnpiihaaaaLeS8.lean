/- Contracts of told functions: what a room without an error is; open. -/
import Derived.Test.YtdpicdnpiihaaaaLeS7
open Go Go.bK
set_option maxRecDepth 100000
set_option linter.unusedVariables false
namespace Go.Proofs.Ytdpicdnpiihaaaa.K.L
theorem look_ok {nc no : Nat} {least : Int} {prev : List Lk} {g : Lk} (h : jZ nc no least prev g = 0) : g.lk.length = nc ∧ (least ≤ eU g ∧ eU g ≤ (no : Int) - 1) ∧ (∀ x ∈ g.lk.tail, least ≤ x ∧ x ≤ 5) ∧ 0 ≤ g.iW ∧ g.iW ≤ 50 := by
 unfold jZ at h
 cases x0 : xQ g.nm.data.toList with
 | false => rw [x0] at h; simp at h
 | true =>
 cases x1 : prev.any (fun x => nC x.nm g.nm) with
 | true => rw [x0, x1] at h; simp at h
 | false =>
 rw [x0, x1] at h
 simp only [Bool.not_true, Bool.false_eq_true, if_false] at h
 by_cases c3 : (g.lk.length : Int) = (nc : Int)
 case neg => rw [if_pos c3] at h; exact absurd h (by decide)
 rw [if_neg (by simpa using c3)] at h
 cases x2 : qC least ((no : Int) - 1) (eU g) with
 | false => rw [x2] at h; simp at h
 | true =>
 cases x3 : g.lk.tail.all (qC least 5) with
 | false => rw [x2, x3] at h; simp at h
 | true =>
 cases x4 : qC 0 50 g.iW with
 | false => rw [x2, x3, x4] at h; simp at h
 | true => exact ⟨by omega, oK.1 x2, fun x hx => oK.1 (List.all_eq_true.1 x3 x hx), oK.1 x4⟩
structure kY (s : Rm) : Prop where
 nc : 0 < s.costs.length ∧ s.costs.length ≤ 4
 cs : ∀ n ∈ s.costs, 0 ≤ n ∧ n ≤ 100
 no : 0 < s.bV.length ∧ s.bV.length ≤ 4
 os : ∀ n ∈ s.bV, 0 ≤ n ∧ n ≤ 50
 nf : s.bR.length ≤ 6
 np : s.bE.length ≤ 5
 fs : ∀ g ∈ s.bR, g.lk.length = s.costs.length ∧ (0 ≤ eU g ∧ eU g ≤ (s.bV.length : Int) - 1) ∧ (∀ x ∈ g.lk.tail, 0 ≤ x ∧ x ≤ 5) ∧ 0 ≤ g.iW ∧ g.iW ≤ 50
 ps : ∀ g ∈ s.bE, g.lk.length = s.costs.length ∧ (-1 ≤ eU g ∧ eU g ≤ (s.bV.length : Int) - 1) ∧ (∀ x ∈ g.lk.tail, -1 ≤ x ∧ x ≤ 5) ∧ 0 ≤ g.iW ∧ g.iW ≤ 50
theorem wD {s : Rm} (h : (gD s).2.2 = 0) : kY s := by
 unfold gD at h
 by_cases c1 : (mQ 4 100 s.costs).2 = 0
 case neg => rw [if_pos c1] at h; exact absurd h c1
 rw [if_neg (by simpa using c1)] at h
 by_cases c2 : (mQ 4 50 s.bV).2 = 0
 case neg => rw [if_pos c2] at h; exact absurd h c2
 rw [if_neg (by simpa using c2)] at h
 by_cases c3 : (jO 6 (jZ s.costs.length s.bV.length 0) s.bR).2 = 0
 case neg => rw [if_pos c3] at h; exact absurd h c3
 rw [if_neg (by simpa using c3)] at h
 by_cases c4 : (jO 5 (jZ s.costs.length s.bV.length (-1)) s.bE).2 = 0
 case neg => rw [if_pos c4] at h; exact absurd h c4
 obtain ⟨a1, a2, a3⟩ := DY c1
 obtain ⟨b1, b2, b3⟩ := DY c2
 have l3 := D6 c3
 have l4 := D6 c4
 refine ⟨⟨a1, by omega⟩, a3, ⟨b1, by omega⟩, b3, by omega, by omega, fun g hg => ?_, fun g hg => ?_⟩
 ·obtain ⟨j, hj, rfl⟩ := List.getElem_of_mem hg
  exact look_ok (KG c3 j hj)
 ·obtain ⟨j, hj, rfl⟩ := List.getElem_of_mem hg
  exact look_ok (KG c4 j hj)
theorem oL.sub {hb h h' : Hp} (hs : Sub h h') {v : Value} {ns : List Int} (a : oL hb h v ns) : oL hb h' v ns := by
 rcases a with a | ⟨b, h1, h2, h3⟩
 ·exact .inl a
 ·exact .inr ⟨b, h1, h2, hs _ _ h3⟩
theorem oL.low {hb hb' h : Hp} (hl : hb'.next ≤ hb.next) {v : Value} {ns : List Int} (a : oL hb h v ns) : oL hb' h v ns := by
 rcases a with a | ⟨b, h1, h2, h3⟩
 ·exact .inl a
 ·exact .inr ⟨b, h1, by omega, h3⟩
theorem oL.mp {hb h : Hp} {mb : Nat} {es : List (Value × Value)} (hm : h.get mb = some (.map es)) {o : cK} {v : Value} {ns : List Int} (a : oL hb h v ns) : oL hb (h.upd mb o) v ns := by
 rcases a with a | ⟨b, h1, h2, h3⟩
 ·exact .inl a
 ·exact .inr ⟨b, h1, h2, by rw [dH, if_neg (by intro e; subst e; rw [hm] at h3; cases h3)]; exact h3⟩
theorem At.mp {h : Hp} {mb : Nat} {es : List (Value × Value)} (hm : h.get mb = some (.map es)) {o : cK} {p : Value} {r : List Value} (a : At h p r) : At (h.upd mb o) p r := by
 obtain ⟨b, k, c, t, s, h1, h2, h3, h4⟩ := a
 exact ⟨b, k, c, t, s, h1, by rw [dH, if_neg (by intro e; subst e; rw [hm] at h2; cases h2)]; exact h2, h3, h4⟩
def TZ (hb h : Hp) (mb : Nat) (s : Rm) (P : Nat → Nat → Prop) : Prop := ∃ es, h.get mb = some (.map es) ∧ (∀ e ∈ es, ∃ a b v, e = (qB a b, v) ∧ P a b ∧ ∃ f q, s.bR[a]? = some f ∧ s.bE[b]? = some q ∧ oL hb h v (iH 0 f.lk q.lk)) ∧
 ∀ a b, P a b → a < s.bR.length → b < s.bE.length → ∃ v, (qB a b, v) ∈ es
theorem TZ.sub {hb h h' : Hp} (hs : Sub h h') {mb : Nat} {s : Rm} {P : Nat → Nat → Prop} (m : TZ hb h mb s P) : TZ hb h' mb s P := by
 obtain ⟨es, h1, h2, h3⟩ := m
 exact ⟨es, hs _ _ h1, fun e he => by
  obtain ⟨a, b, v, x1, x2, f, q, x3, x4, x5⟩ := h2 e he
  exact ⟨a, b, v, x1, x2, f, q, x3, x4, x5.sub hs⟩, h3⟩
theorem TZ.imp {hb h : Hp} {mb : Nat} {s : Rm} {P P' : Nat → Nat → Prop} (hp : ∀ a b, a < s.bR.length → b < s.bE.length → (P a b ↔ P' a b)) (m : TZ hb h mb s P) : TZ hb h mb s P' := by
 obtain ⟨es, h1, h2, h3⟩ := m
 exact ⟨es, h1, fun e he => by
  obtain ⟨a, b, v, x1, x2, f, q, x3, x4, x5⟩ := h2 e he
  exact ⟨a, b, v, x1, (hp a b (List.getElem?_eq_some_iff.1 x3).1 (List.getElem?_eq_some_iff.1 x4).1).1 x2, f, q, x3, x4, x5⟩, fun a b x ha hb => h3 a b ((hp a b ha hb).2 x) ha hb⟩
theorem TZ.get {hb h : Hp} {mb : Nat} {s : Rm} {P : Nat → Nat → Prop} (m : TZ hb h mb s P) {a b : Nat} {f q : Lk} (hp : P a b) (hf : s.bR[a]? = some f) (hq : s.bE[b]? = some q) : ∃ v, kM env h 69 (.map (some mb)) (qB a b) false = some v ∧ oL hb h v (iH 0 f.lk q.lk) := by
 obtain ⟨es, h1, h2, h3⟩ := m
 obtain ⟨v, e1, e2⟩ := aSV h1 (fun e he => by
  obtain ⟨a, b, v, x1, _⟩ := h2 e he
  exact ⟨a, b, v, x1⟩) (h3 a b hp (List.getElem?_eq_some_iff.1 hf).1 (List.getElem?_eq_some_iff.1 hq).1)
 obtain ⟨a', b', v', x1, _, f', q', x3, x4, x5⟩ := h2 _ e2
 have i1 := congrArg Prod.fst x1
 have i2 := congrArg Prod.snd x1
 simp [qB] at i1 i2
 obtain ⟨i3, i4⟩ := i1
 have i3 : a = a' := by omega
 have i4 : b = b' := by omega
 subst i2 i3 i4
 rw [hf] at x3; cases x3
 rw [hq] at x4; cases x4
 exact ⟨v, e1, x5⟩
theorem xR {F : List Value → Hp → aJ} {args : List Value} {h h' : Hp} {v : Value} {ns : List Int} (w : Wf h) (e : F args (bY h) = some (v, h')) (g : aR (bY h) h') (s : oL (bY h) h' v ns) : ∃ h2, dJ F args h = some (v, h2) ∧ aR h h2 ∧ oL h h2 v ns := by
 obtain ⟨h2, e2, g2, o2⟩ := qY w e g
 refine ⟨h2, e2, g2, ?_⟩
 rcases s with s | ⟨b, h1, h3, h4⟩
 ·exact .inl s
 ·have := o2 (by rw [h1]; rfl)
  exact .inr ⟨b, h1, h3, by show h2.aF.get b = _; rw [this]; exact h4⟩
def upto (i j : Nat) : Nat → Nat → Prop := fun a b => a < i ∨ (a = i ∧ b < j)
noncomputable def lQ : List Value := [(Value.string (ByteArray.mk #[])), (Value.slice none 0 0), (Value.int .i64 (Int.ofNat 0))]
theorem aPQ (n : Nat) (p r m f : Value) (k i : Int) (h : Hp) : aI T63 (n + 1) 1 (AL.v p (AL.v r (AL.v m (AL.v f (AL.i k (AL.i i AL.n)))))) h = aEG (aI T63 n) p r m f k i h := rfl
theorem aPR (n : Nat) (p r m : Value) (i : Int) (g f : Value) (k i2 : Int) (q : Value) (l j : Int) (h : Hp) : aI T63 (n + 1) 2 (AL.v p (AL.v r (AL.v m (AL.i i (AL.v g (AL.v f (AL.i k (AL.i i2 (AL.v q (AL.i l (AL.i j AL.n))))))))))) h = aEF (aI T63 n) p r m i g f k i2 q l j h := rfl
theorem aX9 (n : Nat) (p r m f : Value) (k i : Int) (h : Hp) : aI T63 (n + 1) 3 (AL.v p (AL.v r (AL.v m (AL.v f (AL.i k (AL.i i AL.n)))))) h = aKU (aI T63 n) p r m f k i h := rfl
theorem aYA (n : Nat) (p r m : Value) (h : Hp) : aI T63 (n + 1) 4 (AL.v p (AL.v r (AL.v m AL.n))) h = aKT (aI T63 n) p r m h := rfl
theorem UT {hb : Hp} (w : Wf hb) {s : Rm} (F : kY s) {p r vf vp : Value} (sp : jC hb 3 vp (s.bE.map Lk.row)) (af : ∀ g ∈ s.bR, IU hb g) (ap : ∀ g ∈ s.bE, IU hb g) {mb : Nat} (hmb : hb.next ≤ mb) {i : Nat} (hi : i < s.bR.length) {pf : Value} (nf : Int) :
  ∀ (m j n : Nat) (h : Hp), aR hb h → At h pf (s.bR[i]).row → TZ hb h mb s (upto i j) → j + m = s.bE.length → m + 3 ≤ n →
  ∃ n' h', aI T63 n 2 (AL.v p (AL.v r (AL.v (.map (some mb)) (AL.i (i : Int) (AL.v pf (AL.v vf (AL.i nf (AL.i (i : Int) (AL.v vp (AL.i (s.bE.length : Int) (AL.i (j : Int) AL.n))))))))))) h = aI T63 n' 3 (AL.v p (AL.v r (AL.v (.map (some mb)) (AL.v vf (AL.i nf (AL.i (i : Int) AL.n)))))) h' ∧ n ≤ n' + m + 1 ∧ aR hb h' ∧ TZ hb h' mb s (upto i s.bE.length)
 | 0, j, n', h, g, a, mp, hj, hn => by
  obtain ⟨n, rfl⟩ : ∃ n, n' = n + 1 := ⟨n' - 1, by omega⟩
  rw [aPR]
  unfold aEF
  rw [aH, aN, aC, if_neg (by simp; omega)]
  exact ⟨n, h, rfl, by omega, g, by rw [show s.bE.length = j by omega]; exact mp⟩
 | m + 1, j, n', h, g, a, mp, hj, hn => by
  obtain ⟨n, rfl⟩ : ∃ n, n' = n + 1 := ⟨n' - 1, by omega⟩
  have hj' : j < s.bE.length := by omega
  have np := F.np
  have hq : (s.bE.map Lk.row)[j]? = some (s.bE[j]).row := by rw [List.getElem?_map, List.getElem?_eq_getElem hj']; rfl
  obtain ⟨q, eq, aq, hl⟩ := (sp.sub g.sub).rows.at hq
  have lq := ap _ (List.getElem_mem hj')
  have lf := af _ (List.getElem_mem hi)
  rw [aPR]
  unfold aEF
  rw [aH, aN, aC, if_pos (by simp; omega), eq, aq.dL hl]
  obtain ⟨h4, q4, g4, a4, hk⟩ := lS (ρ := Value × Hp) (z := 3) g.wf 59 (c := lQ) (l := (s.bE[j]).row) rfl rfl lq.one (fun _ _ => none)
  rw [show [(Value.string (ByteArray.mk #[])), (Value.slice none 0 0), (Value.int .i64 (Int.ofNat 0))] = lQ from rfl, hk, aXG, aK, (a.sub g4.sub).pF 1 (x := (s.bR[i]).lv) rfl, a4.pF 1 (x := (s.bE[j]).lv) rfl]
  have gb := g.trans g4
  have fl := (F.fs _ (List.getElem_mem hi)).1
  have pl := (F.ps _ (List.getElem_mem hj')).1
  obtain ⟨h5, v5, e5, g5, i5⟩ := XD (h := bY h4) (eF g4.wf) (lf.sub gb.sub) (lq.sub gb.sub) (by omega) (by have := F.nc; omega)
  obtain ⟨h6, e6, g6, i6⟩ := xR g4.wf e5 g5 i5
  rw [e6, aB]
  have gb6 := gb.trans g6
  obtain ⟨es, m1, m2, m3⟩ := mp.sub (g4.trans g6).sub
  have hlt := gb6.wf.2 _ _ m1
  rw [aSU m1 (by rw [gb6.ro]; have := w.1; omega) (fun e he => by
   obtain ⟨c, d, v, x1, x2, _⟩ := m2 e he
   refine ⟨c, d, v, x1, fun x => ?_⟩
   rcases x2 with x2 | x2 <;> omega), aK, show Int.add (j : Int) (Int.ofNat 1) = ((j + 1 : Nat) : Int) from rfl, wrap64_in _ (by omega) (by omega)]
  obtain ⟨n2, h2, r1, r2, r3, r4⟩ := UT w F sp af ap hmb hi nf m (j + 1) n (h6.upd mb (.map (es ++ [(qB i j, v5)]))) (aR.upd w gb6 hmb hlt _) (At.mp m1 (a.sub (g4.trans g6).sub))
   ⟨es ++ [(qB i j, v5)], by rw [dH, if_pos rfl], fun e he => by
    rcases List.mem_append.1 he with he | he
    ·obtain ⟨c, d, v, x1, x2, f, q, x3, x4, x5⟩ := m2 e he
     exact ⟨c, d, v, x1, x2.elim .inl (fun x2 => .inr ⟨x2.1, by omega⟩), f, q, x3, x4, x5.mp m1⟩
    ·rw [List.mem_singleton] at he
     subst he
     exact ⟨i, j, v5, rfl, .inr ⟨rfl, by omega⟩, _, _, List.getElem?_eq_getElem hi, List.getElem?_eq_getElem hj', (i6.low (by exact gb.next)).mp m1⟩,
   fun c d x hc hd => by
    by_cases y : c = i ∧ d = j
    ·obtain ⟨rfl, rfl⟩ := y
     exact ⟨v5, by simp⟩
    ·obtain ⟨v, hv⟩ := m3 c d (x.elim .inl (fun x => .inr ⟨x.1, by omega⟩)) hc hd
     exact ⟨v, List.mem_append_left _ hv⟩⟩ (by omega) (by omega)
  exact ⟨n2, h2, r1, by omega, r3, r4⟩
end Go.Proofs.Ytdpicdnpiihaaaa.K.L
