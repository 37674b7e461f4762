/- Contracts of told functions: what a room without an error is; open. -/
import Derived.Test.YtdpicdnpiihaaaaBoS7
open Go Go.bK
set_option maxRecDepth 100000
set_option linter.unusedVariables false
namespace Go.Proofs.Ytdpicdnpiihaaaa.K.L
theorem look_ok {nc no : Nat} {least : Int} {prev : List Lk} {g : Lk} (h : jY nc no least prev g = 0) : g.lk.length = nc ∧ (least ≤ gG g ∧ gG g ≤ (no : Int) - 1) ∧ (∀ x ∈ g.lk.tail, least ≤ x ∧ x ≤ 5) ∧ 0 ≤ g.kZ ∧ g.kZ ≤ 50 := by
 unfold jY at h
 cases x0 : xO g.nm.data.toList with
 | false => rw [x0] at h; simp at h
 | true =>
 cases x1 : prev.any (fun x => nJ x.nm g.nm) with
 | true => rw [x0, x1] at h; simp at h
 | false =>
 rw [x0, x1] at h
 simp only [Bool.not_true, Bool.false_eq_true, if_false] at h
 by_cases c3 : (g.lk.length : Int) = (nc : Int)
 case neg => rw [if_pos c3] at h; exact absurd h (by decide)
 rw [if_neg (by simpa using c3)] at h
 cases x2 : rZ least ((no : Int) - 1) (gG g) with
 | false => rw [x2] at h; simp at h
 | true =>
 cases x3 : g.lk.tail.all (rZ least 5) with
 | false => rw [x2, x3] at h; simp at h
 | true =>
 cases x4 : rZ 0 50 g.kZ with
 | false => rw [x2, x3, x4] at h; simp at h
 | true => exact ⟨by omega, sW.1 x2, fun x hx => sW.1 (List.all_eq_true.1 x3 x hx), sW.1 x4⟩
structure lJ (s : Rm) : Prop where
 nc : 0 < s.costs.length ∧ s.costs.length ≤ 4
 cs : ∀ n ∈ s.costs, 0 ≤ n ∧ n ≤ 100
 no : 0 < s.bF.length ∧ s.bF.length ≤ 4
 os : ∀ n ∈ s.bF, 0 ≤ n ∧ n ≤ 50
 nf : s.dZ.length ≤ 6
 np : s.dF.length ≤ 5
 fs : ∀ g ∈ s.dZ, g.lk.length = s.costs.length ∧ (0 ≤ gG g ∧ gG g ≤ (s.bF.length : Int) - 1) ∧ (∀ x ∈ g.lk.tail, 0 ≤ x ∧ x ≤ 5) ∧ 0 ≤ g.kZ ∧ g.kZ ≤ 50
 ps : ∀ g ∈ s.dF, g.lk.length = s.costs.length ∧ (-1 ≤ gG g ∧ gG g ≤ (s.bF.length : Int) - 1) ∧ (∀ x ∈ g.lk.tail, -1 ≤ x ∧ x ≤ 5) ∧ 0 ≤ g.kZ ∧ g.kZ ≤ 50
theorem rG {s : Rm} (h : (gK s).2.2 = 0) : lJ s := by
 unfold gK at h
 by_cases c1 : (mY 4 100 s.costs).2 = 0
 case neg => rw [if_pos c1] at h; exact absurd h c1
 rw [if_neg (by simpa using c1)] at h
 by_cases c2 : (mY 4 50 s.bF).2 = 0
 case neg => rw [if_pos c2] at h; exact absurd h c2
 rw [if_neg (by simpa using c2)] at h
 by_cases c3 : (jO 6 (jY s.costs.length s.bF.length 0) s.dZ).2 = 0
 case neg => rw [if_pos c3] at h; exact absurd h c3
 rw [if_neg (by simpa using c3)] at h
 by_cases c4 : (jO 5 (jY s.costs.length s.bF.length (-1)) s.dF).2 = 0
 case neg => rw [if_pos c4] at h; exact absurd h c4
 obtain ⟨a1, a2, a3⟩ := DJ c1
 obtain ⟨b1, b2, b3⟩ := DJ c2
 have l3 := DT c3
 have l4 := DT c4
 refine ⟨⟨a1, by omega⟩, a3, ⟨b1, by omega⟩, b3, by omega, by omega, fun g hg => ?_, fun g hg => ?_⟩
 ·obtain ⟨j, hj, rfl⟩ := List.getElem_of_mem hg
  exact look_ok (J5 c3 j hj)
 ·obtain ⟨j, hj, rfl⟩ := List.getElem_of_mem hg
  exact look_ok (J5 c4 j hj)
theorem qO.sub {hb h h' : Hp} (hs : Sub h h') {v : Value} {ns : List Int} (a : qO hb h v ns) : qO hb h' v ns := by
 rcases a with a | ⟨b, h1, h2, h3⟩
 ·exact .inl a
 ·exact .inr ⟨b, h1, h2, hs _ _ h3⟩
theorem qO.low {hb hb' h : Hp} (hl : hb'.next ≤ hb.next) {v : Value} {ns : List Int} (a : qO hb h v ns) : qO hb' h v ns := by
 rcases a with a | ⟨b, h1, h2, h3⟩
 ·exact .inl a
 ·exact .inr ⟨b, h1, by omega, h3⟩
theorem qO.mp {hb h : Hp} {mb : Nat} {es : List (Value × Value)} (hm : h.get mb = some (.map es)) {o : dG} {v : Value} {ns : List Int} (a : qO hb h v ns) : qO hb (h.upd mb o) v ns := by
 rcases a with a | ⟨b, h1, h2, h3⟩
 ·exact .inl a
 ·exact .inr ⟨b, h1, h2, by rw [bU, if_neg (by intro e; subst e; rw [hm] at h3; cases h3)]; exact h3⟩
theorem At.mp {h : Hp} {mb : Nat} {es : List (Value × Value)} (hm : h.get mb = some (.map es)) {o : dG} {p : Value} {r : List Value} (a : At h p r) : At (h.upd mb o) p r := by
 obtain ⟨b, k, c, t, s, h1, h2, h3, h4⟩ := a
 exact ⟨b, k, c, t, s, h1, by rw [bU, if_neg (by intro e; subst e; rw [hm] at h2; cases h2)]; exact h2, h3, h4⟩
def WA (hb h : Hp) (mb : Nat) (s : Rm) (P : Nat → Nat → Prop) : Prop := ∃ es, h.get mb = some (.map es) ∧ (∀ e ∈ es, ∃ a b v, e = (qM a b, v) ∧ P a b ∧ ∃ f q, s.dZ[a]? = some f ∧ s.dF[b]? = some q ∧ qO hb h v (jS 0 f.lk q.lk)) ∧
 ∀ a b, P a b → a < s.dZ.length → b < s.dF.length → ∃ v, (qM a b, v) ∈ es
theorem WA.sub {hb h h' : Hp} (hs : Sub h h') {mb : Nat} {s : Rm} {P : Nat → Nat → Prop} (m : WA hb h mb s P) : WA hb h' mb s P := by
 obtain ⟨es, h1, h2, h3⟩ := m
 exact ⟨es, hs _ _ h1, fun e he => by
  obtain ⟨a, b, v, x1, x2, f, q, x3, x4, x5⟩ := h2 e he
  exact ⟨a, b, v, x1, x2, f, q, x3, x4, x5.sub hs⟩, h3⟩
theorem WA.imp {hb h : Hp} {mb : Nat} {s : Rm} {P P' : Nat → Nat → Prop} (hp : ∀ a b, a < s.dZ.length → b < s.dF.length → (P a b ↔ P' a b)) (m : WA hb h mb s P) : WA hb h mb s P' := by
 obtain ⟨es, h1, h2, h3⟩ := m
 exact ⟨es, h1, fun e he => by
  obtain ⟨a, b, v, x1, x2, f, q, x3, x4, x5⟩ := h2 e he
  exact ⟨a, b, v, x1, (hp a b (List.getElem?_eq_some_iff.1 x3).1 (List.getElem?_eq_some_iff.1 x4).1).1 x2, f, q, x3, x4, x5⟩, fun a b x ha hb => h3 a b ((hp a b ha hb).2 x) ha hb⟩
theorem WA.get {hb h : Hp} {mb : Nat} {s : Rm} {P : Nat → Nat → Prop} (m : WA hb h mb s P) {a b : Nat} {f q : Lk} (hp : P a b) (hf : s.dZ[a]? = some f) (hq : s.dF[b]? = some q) : ∃ v, kK env h 69 (.map (some mb)) (qM a b) false = some v ∧ qO hb h v (jS 0 f.lk q.lk) := by
 obtain ⟨es, h1, h2, h3⟩ := m
 obtain ⟨v, e1, e2⟩ := aQ2 h1 (fun e he => by
  obtain ⟨a, b, v, x1, _⟩ := h2 e he
  exact ⟨a, b, v, x1⟩) (h3 a b hp (List.getElem?_eq_some_iff.1 hf).1 (List.getElem?_eq_some_iff.1 hq).1)
 obtain ⟨a', b', v', x1, _, f', q', x3, x4, x5⟩ := h2 _ e2
 have i1 := congrArg Prod.fst x1
 have i2 := congrArg Prod.snd x1
 simp [qM] at i1 i2
 obtain ⟨i3, i4⟩ := i1
 have i3 : a = a' := by omega
 have i4 : b = b' := by omega
 subst i2 i3 i4
 rw [hf] at x3; cases x3
 rw [hq] at x4; cases x4
 exact ⟨v, e1, x5⟩
theorem PL {F : List Value → Hp → aF} {args : List Value} {h h' : Hp} {v : Value} {ns : List Int} (w : Wf h) (e : F args (bZ h) = some (v, h')) (g : aV (bZ h) h') (s : qO (bZ h) h' v ns) : ∃ h2, bV F args h = some (v, h2) ∧ aV h h2 ∧ qO h h2 v ns := by
 obtain ⟨h2, e2, g2, o2⟩ := xR w e g
 refine ⟨h2, e2, g2, ?_⟩
 rcases s with s | ⟨b, h1, h3, h4⟩
 ·exact .inl s
 ·have := o2 (by rw [h1]; rfl)
  exact .inr ⟨b, h1, h3, by show h2.aC.get b = _; rw [this]; exact h4⟩
def upto (i j : Nat) : Nat → Nat → Prop := fun a b => a < i ∨ (a = i ∧ b < j)
noncomputable def mH : List Value := [(Value.string (ByteArray.mk #[])), (Value.slice none 0 0), (Value.int .i64 (Int.ofNat 0))]
theorem aNR (n : Nat) (p r m f : Value) (k i : Int) (h : Hp) : aK ZY (n + 1) 1 (AL.v p (AL.v r (AL.v m (AL.v f (AL.i k (AL.i i AL.n)))))) h = aDR (aK ZY n) p r m f k i h := rfl
theorem aNS (n : Nat) (p r m : Value) (i : Int) (g f : Value) (k i2 : Int) (q : Value) (l j : Int) (h : Hp) : aK ZY (n + 1) 2 (AL.v p (AL.v r (AL.v m (AL.i i (AL.v g (AL.v f (AL.i k (AL.i i2 (AL.v q (AL.i l (AL.i j AL.n))))))))))) h = aDQ (aK ZY n) p r m i g f k i2 q l j h := rfl
theorem aV1 (n : Nat) (p r m f : Value) (k i : Int) (h : Hp) : aK ZY (n + 1) 3 (AL.v p (AL.v r (AL.v m (AL.v f (AL.i k (AL.i i AL.n)))))) h = aJP (aK ZY n) p r m f k i h := rfl
theorem aV2 (n : Nat) (p r m : Value) (h : Hp) : aK ZY (n + 1) 4 (AL.v p (AL.v r (AL.v m AL.n))) h = aJO (aK ZY n) p r m h := rfl
theorem TT {hb : Hp} (w : Wf hb) {s : Rm} (F : lJ s) {p r vf vp : Value} (sp : kR hb 3 vp (s.dF.map Lk.row)) (af : ∀ g ∈ s.dZ, PI hb g) (ap : ∀ g ∈ s.dF, PI hb g) {mb : Nat} (hmb : hb.next ≤ mb) {i : Nat} (hi : i < s.dZ.length) {pf : Value} (nf : Int) :
  ∀ (m j n : Nat) (h : Hp), aV hb h → At h pf (s.dZ[i]).row → WA hb h mb s (upto i j) → j + m = s.dF.length → m + 3 ≤ n →
  ∃ n' h', aK ZY n 2 (AL.v p (AL.v r (AL.v (.map (some mb)) (AL.i (i : Int) (AL.v pf (AL.v vf (AL.i nf (AL.i (i : Int) (AL.v vp (AL.i (s.dF.length : Int) (AL.i (j : Int) AL.n))))))))))) h = aK ZY n' 3 (AL.v p (AL.v r (AL.v (.map (some mb)) (AL.v vf (AL.i nf (AL.i (i : Int) AL.n)))))) h' ∧ n ≤ n' + m + 1 ∧ aV hb h' ∧ WA hb h' mb s (upto i s.dF.length)
 | 0, j, n', h, g, a, mp, hj, hn => by
  obtain ⟨n, rfl⟩ : ∃ n, n' = n + 1 := ⟨n' - 1, by omega⟩
  rw [aNS]
  unfold aDQ
  rw [aM, aU, aG, if_neg (by simp; omega)]
  exact ⟨n, h, rfl, by omega, g, by rw [show s.dF.length = j by omega]; exact mp⟩
 | m + 1, j, n', h, g, a, mp, hj, hn => by
  obtain ⟨n, rfl⟩ : ∃ n, n' = n + 1 := ⟨n' - 1, by omega⟩
  have hj' : j < s.dF.length := by omega
  have np := F.np
  have hq : (s.dF.map Lk.row)[j]? = some (s.dF[j]).row := by rw [List.getElem?_map, List.getElem?_eq_getElem hj']; rfl
  obtain ⟨q, eq, aq, hl⟩ := (sp.sub g.sub).rows.at hq
  have lq := ap _ (List.getElem_mem hj')
  have lf := af _ (List.getElem_mem hi)
  rw [aNS]
  unfold aDQ
  rw [aM, aU, aG, if_pos (by simp; omega), eq, aq.eU hl]
  obtain ⟨h4, q4, g4, a4, hk⟩ := lT (ρ := Value × Hp) (z := 3) g.wf 59 (c := mH) (l := (s.dF[j]).row) rfl rfl lq.one (fun _ _ => none)
  rw [show [(Value.string (ByteArray.mk #[])), (Value.slice none 0 0), (Value.int .i64 (Int.ofNat 0))] = mH from rfl, hk, a4P, aJ, (a.sub g4.sub).vV 1 (x := (s.dZ[i]).lv) rfl, a4.vV 1 (x := (s.dF[j]).lv) rfl]
  have gb := g.trans g4
  have fl := (F.fs _ (List.getElem_mem hi)).1
  have pl := (F.ps _ (List.getElem_mem hj')).1
  obtain ⟨h5, v5, e5, g5, i5⟩ := WL (h := bZ h4) (fB g4.wf) (lf.sub gb.sub) (lq.sub gb.sub) (by omega) (by have := F.nc; omega)
  obtain ⟨h6, e6, g6, i6⟩ := PL g4.wf e5 g5 i5
  rw [e6, aB]
  have gb6 := gb.trans g6
  obtain ⟨es, m1, m2, m3⟩ := mp.sub (g4.trans g6).sub
  have hlt := gb6.wf.2 _ _ m1
  rw [aQ1 m1 (by rw [gb6.ro]; have := w.1; omega) (fun e he => by
   obtain ⟨c, d, v, x1, x2, _⟩ := m2 e he
   refine ⟨c, d, v, x1, fun x => ?_⟩
   rcases x2 with x2 | x2 <;> omega), aJ, show Int.add (j : Int) (Int.ofNat 1) = ((j + 1 : Nat) : Int) from rfl, wrap64_in _ (by omega) (by omega)]
  obtain ⟨n2, h2, r1, r2, r3, r4⟩ := TT w F sp af ap hmb hi nf m (j + 1) n (h6.upd mb (.map (es ++ [(qM i j, v5)]))) (aV.upd w gb6 hmb hlt _) (At.mp m1 (a.sub (g4.trans g6).sub))
   ⟨es ++ [(qM i j, v5)], by rw [bU, if_pos rfl], fun e he => by
    rcases List.mem_append.1 he with he | he
    ·obtain ⟨c, d, v, x1, x2, f, q, x3, x4, x5⟩ := m2 e he
     exact ⟨c, d, v, x1, x2.elim .inl (fun x2 => .inr ⟨x2.1, by omega⟩), f, q, x3, x4, x5.mp m1⟩
    ·rw [List.mem_singleton] at he
     subst he
     exact ⟨i, j, v5, rfl, .inr ⟨rfl, by omega⟩, _, _, List.getElem?_eq_getElem hi, List.getElem?_eq_getElem hj', (i6.low (by exact gb.next)).mp m1⟩,
   fun c d x hc hd => by
    by_cases y : c = i ∧ d = j
    ·obtain ⟨rfl, rfl⟩ := y
     exact ⟨v5, by simp⟩
    ·obtain ⟨v, hv⟩ := m3 c d (x.elim .inl (fun x => .inr ⟨x.1, by omega⟩)) hc hd
     exact ⟨v, List.mem_append_left _ hv⟩⟩ (by omega) (by omega)
  exact ⟨n2, h2, r1, by omega, r3, r4⟩
end Go.Proofs.Ytdpicdnpiihaaaa.K.L
