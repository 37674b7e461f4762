/- Contracts of told functions: open, openPerson. -/
import Derived.Test.YtdpicdnpiihaaaaOrS8
open Go Go.bI
set_option maxRecDepth 100000
set_option linter.unusedVariables false
namespace Go.Proofs.Ytdpicdnpiihaaaa.K.L
def every : Nat → Nat → Prop := fun _ _ => True
noncomputable def zeroV : List Value := [(Value.slice none 0 0), (Value.slice none 0 0), (Value.slice none 0 0), (Value.slice none 0 0), (Value.map none)]
theorem aXA : jX env 71 (List.toArray []) = some (.agg (Array.mk zeroV)) := by kernel_rfl
theorem aXB (a b c d : Option Addr) (n1 c1 n2 c2 n3 c3 n4 c4 : Nat) (m : Nat) : jX env 71 (List.toArray [(0, .agg (Array.mk [.slice a n1 c1, .slice b n2 c2, .slice c n3 c3, .slice d n4 c4])), (1, .map (some m))]) = some (.agg (Array.mk [.slice a n1 c1, .slice b n2 c2, .slice c n3 c3, .slice d n4 c4, .map (some m)])) := by kernel_rfl
theorem FU.build {h : Hp} {s : Rm} {r : List Value} (a : FU h s r) (m : Nat) : jX env 71 (List.toArray [(0, .agg (Array.mk r)), (1, .map (some m))]) = some (.agg (Array.mk (r ++ [.map (some m)]))) := by
 obtain ⟨vc, vo, vf, vp, rfl, h1, h2, h3, h4, _⟩ := a
 obtain ⟨_, _, _, rfl⟩ := h1.sl
 obtain ⟨_, _, _, rfl⟩ := h2.sl
 obtain ⟨_, _, _, rfl⟩ := h3.sl
 obtain ⟨_, _, _, rfl⟩ := h4.sl
 exact aXB ..
theorem WT.but {hb h h' : Hp} {mb b : Nat} (hk : ∀ i o, i ≠ b → h.get i = some o → h'.get i = some o) (h1 : mb ≠ b) (h2 : b < hb.next) {s : Rm} {P : Nat → Nat → Prop} (m : WT hb h mb s P) : WT hb h' mb s P := by
 obtain ⟨es, m1, m2, m3⟩ := m
 refine ⟨es, hk _ _ h1 m1, fun e he => ?_, m3⟩
 obtain ⟨a, b', v, x1, x2, f, q, x3, x4, x5⟩ := m2 e he
 refine ⟨a, b', v, x1, x2, f, q, x3, x4, ?_⟩
 rcases x5 with x5 | ⟨c, y1, y2, y3⟩
 ·exact .inl x5
 ·exact .inr ⟨c, y1, y2, hk _ _ (by omega) y3⟩
theorem QM {h0 hb : Hp} (w0 : Wf h0) (g0 : aV h0 hb) {s : Rm} (F : nI s) {vc vo vf vp p : Value} (A : FU hb s (dO vc vo vf vp)) (sf : lV hb 3 vf (s.bP.map Lk.row)) (sp : lV hb 3 vp (s.dR.map Lk.row)) (ap : At hb p (dO vc vo vf vp)) (af : ∀ g ∈ s.bP, LD hb g) (aq : ∀ g ∈ s.dR, LD hb g)
  {b1 : Nat} (hb1 : h0.next ≤ b1) (c1 : hb.get b1 = some (.cells zeroV 71 none)) {mb : Nat} (hmb : hb.next ≤ mb) : ∀ (m i n : Nat) (h : Hp), aV hb h → WT hb h mb s (upto i 0) → i + m = s.bP.length → 10 * m + 5 ≤ n →
  ∃ h', aN T63 n 1 (AL.v p (AL.v (.pointer (some ⟨b1, 0, none⟩)) (AL.v (.map (some mb)) (AL.v vf (AL.i (s.bP.length : Int) (AL.i (i : Int) AL.n)))))) h = some (.tuple (List.toArray [.agg (Array.mk (dO vc vo vf vp ++ [.map (some mb)])), .int .i64 0]), h') ∧ aV h0 h' ∧ WT hb h' mb s every
 | 0, i, n', h, g, mp, hi, hn => by
  obtain ⟨n, rfl⟩ : ∃ n, n' = n + 2 := ⟨n' - 2, by omega⟩
  rw [aOT]
  unfold aEF
  rw [aQ, aW, aH, if_neg (by simp; omega), aW9]
  unfold aKR
  rw [(ap.sub g.sub).eX (z := 4) rfl, (A.sub g.sub).build, aM]
  have hb1' := g0.wf.2 _ _ c1
  obtain ⟨h3, g3, a3, k3, o3⟩ := DU (z := 5) (l := dO vc vo vf vp ++ [.map (some mb)]) w0 (g0.trans g) hb1 (g.sub _ _ c1) rfl rfl (by rw [List.all_append, A.one]; rfl)
  rw [k3, a3.eX (z := 5) rfl]
  exact ⟨h3, rfl, g3, (mp.but o3 (by omega) hb1').imp (fun a b ha hb => ⟨fun _ => trivial, fun _ => .inl (by omega)⟩)⟩
 | m + 1, i, n', h, g, mp, hi, hn => by
  obtain ⟨n, rfl⟩ : ∃ n, n' = n + 1 := ⟨n' - 1, by omega⟩
  have hi' : i < s.bP.length := by omega
  have np := F.np
  have nf := F.nf
  have hq : (s.bP.map Lk.row)[i]? = some (s.bP[i]).row := by rw [List.getElem?_map, List.getElem?_eq_getElem hi']; rfl
  obtain ⟨q, eq, aq', hl⟩ := (sf.sub g.sub).rows.at hq
  rw [aOT]
  unfold aEF
  rw [aQ, aW, aH, if_pos (by simp; omega), eq, aq'.eX hl]
  obtain ⟨h4, q4, g4, a4, hk⟩ := l9 (ρ := Value × Hp) (z := 3) g.wf 59 (c := mQ) (l := (s.bP[i]).row) rfl rfl (af _ (List.getElem_mem hi')).one (fun _ _ => none)
  rw [show [(Value.string (ByteArray.mk #[])), (Value.slice none 0 0), (Value.int .i64 (Int.ofNat 0))] = mQ from rfl, hk]
  have g5 := g.trans g4
  rw [(ap.sub g5.sub).wP 3 (x := vp) rfl, sp.rows.len, List.length_map, show (Int.ofNat 0) = ((0 : Nat) : Int) from rfl]
  obtain ⟨n2, h5, r1, r2, r3, r4⟩ := UL g0.wf F (p := p) (r := .pointer (some ⟨b1, 0, none⟩)) (vf := vf) sp af aq hmb hi' (pf := q4) (s.bP.length : Int) s.dR.length 0 n h4 g5 a4 (mp.sub g4.sub) (by omega) (by omega)
  obtain ⟨n3, rfl⟩ : ∃ n3, n2 = n3 + 1 := ⟨n2 - 1, by omega⟩
  rw [r1, aW8]
  unfold aKS
  rw [show Int.add (i : Int) (Int.ofNat 1) = ((i + 1 : Nat) : Int) from rfl, wrap64_in _ (by omega) (by omega)]
  exact QM w0 g0 F A sf sp ap af aq hb1 c1 hmb m (i + 1) n3 h5 r3 (r4.imp (fun a b ha hb => ⟨fun x => .inl (x.elim (fun y => by omega) (fun y => by omega)), fun x => x.elim (fun y => (Nat.lt_or_eq_of_le (by omega : a ≤ i)).elim .inl (fun e => .inr ⟨e, hb⟩)) (fun y => by omega)⟩)) (by omega) (by omega)
def GD (lo : Nat) (h : Hp) (s : Rm) (l : List Value) : Prop := ∃ r mb hb, l = r ++ [.map (some mb)] ∧ FU h s r ∧ WT hb h mb s every ∧ lo ≤ hb.next
theorem GD.sub {lo : Nat} {h h' : Hp} (hs : Sub h h') {s : Rm} {l : List Value} (a : GD lo h s l) : GD lo h' s l := by
 obtain ⟨r, mb, hb, h1, h2, h3, h4⟩ := a
 exact ⟨r, mb, hb, h1, h2.sub hs, h3.sub hs, h4⟩
theorem GD.len {lo : Nat} {h : Hp} {s : Rm} {l : List Value} (a : GD lo h s l) : l.length = 5 := by
 obtain ⟨r, mb, hb, rfl, h2, h3⟩ := a
 rw [List.length_append, h2.len]; rfl
theorem GD.one {lo : Nat} {h : Hp} {s : Rm} {l : List Value} (a : GD lo h s l) : l.all oneCell = true := by
 obtain ⟨r, mb, hb, rfl, h2, h3⟩ := a
 rw [List.all_append, h2.one]; rfl
theorem UJ {h : Hp} (w : Wf h) {s : Rm} {r : List Value} (a : FU h s r) : ∃ h' lk, F63 [.agg (Array.mk r)] h = some (.tuple (List.toArray [.agg (Array.mk lk), .int .i64 (fC s).2.2]), h') ∧ aV h h' ∧ lk.length = 5 ∧ lk.all oneCell = true ∧ ((fC s).2.2 = 0 → GD h.next h' s lk ∧ lk.take 4 = r) := by
 have start : F63 [.agg (Array.mk r)] h = aKT (aN T63 999999) (.agg (Array.mk r)) h := rfl
 rw [start]
 unfold aKT
 have hr4 := a.len
 rw [fF, bT, bT]
 have g0 : aV h (h.add (.cells r 25 none)) := aV.add w _
 have a0 : At (h.add (.cells r 25 none)) (.pointer (some ⟨h.next, 0, none⟩)) r := At.new
 generalize h.add (.cells r 25 none) = h0 at g0 a0 ⊢
 have g1 : aV h (h0.add (.cells zeroV 71 none)) := g0.trans (aV.add g0.wf _)
 have a1 : At (h0.add (.cells zeroV 71 none)) (.pointer (some ⟨h.next, 0, none⟩)) r := aE8 g0.wf a0 _
 have c1 : (h0.add (.cells zeroV 71 none)).get h0.next = some (.cells zeroV 71 none) := by rw [bD, if_pos rfl]
 rw [show [(Value.slice none 0 0), (Value.slice none 0 0), (Value.slice none 0 0), (Value.slice none 0 0), (Value.map none)] = zeroV from rfl]
 generalize h0.add (.cells zeroV 71 none) = h1 at g1 a1 c1 ⊢
 have s1 := a.sub g1.sub
 obtain ⟨h2, e2⟩ := aDG (h := dF h1) (fM g1.wf) s1
 rw [a1.eX (z := 4) hr4, bO e2 rfl, aB]
 unfold aRV
 rw [bG (v := .int .i64 (fC s).1) rfl, aI, bG (v := .int .i64 (fC s).2.1) rfl, aI, bG (v := .int .i64 (fC s).2.2) rfl, aI, aR, cK, aH]
 by_cases e0 : (fC s).2.2 = 0
 ·have F := rF e0
  obtain ⟨vc, vo, vf, vp, rfl, sc, so, sf, sp, af, ap⟩ := s1
  have A : FU h1 s (dO vc vo vf vp) := ⟨vc, vo, vf, vp, rfl, sc, so, sf, sp, af, ap⟩
  have hm : (h1.add (.map [])).get h1.next = some (.map []) := by rw [bD, if_pos rfl]
  have gm := aV.add g1.wf (.map [])
  have nf := F.nf
  rw [if_neg (by rw [e0]; simp), (a1.sub gm.sub).wP 2 (x := vf) rfl, sf.rows.len, List.length_map, show (Int.ofNat 0) = ((0 : Nat) : Int) from rfl]
  obtain ⟨h3, e3, g3, m3⟩ := QM (h0 := h) w g1 F A sf sp a1 af ap (b1 := h0.next) (by have := g0.next; omega) c1 (mb := h1.next) (Nat.le_refl _) s.bP.length 0 999999 (h1.add (.map [])) gm ⟨[], hm, fun e he => (by cases he), fun a b x ha hb => (by rcases x with x | x <;> omega)⟩ (by omega) (by omega)
  rw [e0, e3]
  exact ⟨h3, _, rfl, g3, rfl, by rw [List.all_append, A.one]; rfl, fun _ => ⟨⟨_, _, _, rfl, a.sub g3.sub, m3, g1.next⟩, rfl⟩⟩
 ·rw [if_pos (by simpa using e0), aXA, aM]
  obtain ⟨h3, g3, a3, k3, _⟩ := DU (z := 5) (l := zeroV) w g1 (b := h0.next) (by have := g0.next; omega) c1 rfl rfl rfl
  rw [k3, a3.eX (z := 5) rfl]
  exact ⟨h3, zeroV, rfl, g3, rfl, rfl, fun e => absurd e e0⟩
end Go.Proofs.Ytdpicdnpiihaaaa.K.L
