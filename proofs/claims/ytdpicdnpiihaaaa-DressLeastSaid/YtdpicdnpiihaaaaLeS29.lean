/- Contracts of told functions: any plan of a room, its loops. -/
import Derived.Test.YtdpicdnpiihaaaaLeS28
open Go Go.bK
set_option maxRecDepth 100000
set_option linter.unusedVariables false
namespace Go.Proofs.Ytdpicdnpiihaaaa.K.L
def qJ (n : Nat) : List Int := (List.range n).map fun k : Nat => (k : Int)
theorem GA (n : Nat) : (qJ n).length = n := by unfold qJ; rw [List.length_map, List.length_range]
theorem Z4 (n : Nat) : qJ (n + 1) = qJ n ++ [(n : Int)] := by unfold qJ; rw [List.range_succ, List.map_append]; rfl
theorem WX (n : Nat) : (qJ n).Nodup := by
 unfold qJ List.Nodup
 rw [List.pairwise_map]
 exact List.nodup_range.imp fun h e => h (by omega)
theorem aDA {n : Nat} {x : Int} (h : x ∈ qJ n) : 0 ≤ x ∧ x ≤ (n : Int) - 1 := by
 unfold qJ at h
 obtain ⟨k, hk, rfl⟩ := List.mem_map.1 h
 have := List.mem_range.1 hk
 omega
theorem oL.rw {hb h : Hp} {v : Value} {ns : List Int} (a : oL hb h v ns) : RwA hb h 1 3 v ns.length (ns.map (Value.int .i64)) := by
 rcases a with ⟨h1, rfl⟩ | a
 ·exact .inl ⟨h1, rfl, rfl⟩
 ·exact .inr a
theorem RwA.in {hb h : Hp} {v : Value} {ns : List Int} (a : RwA hb h 1 3 v ns.length (ns.map (Value.int .i64))) : oL hb h v ns := by
 rcases a with ⟨h1, h2, h3⟩ | a
 ·exact .inl ⟨h1, List.eq_nil_of_length_eq_zero h2⟩
 ·exact .inr a
theorem aDB {hb h : Hp} (w : Wf hb) (g : aR hb h) {v : Value} {ns : List Int} (a : oL hb h v ns) (hlen : ns.length ≤ 100) (s : Int) :
  ∃ v' h', dW env (h.add (.cells [.int .i64 s] 3 none)) #[22, 22] (List.toArray [v, .slice (some ⟨h.next, 0, none⟩) 1 1]) = some (v', h') ∧ aR hb h' ∧ oL hb h' v' (ns ++ [s]) ∧ (∀ i o, aXE v i → h.get i = some o → h'.get i = some o) ∧ ∃ m, v' = .slice (some ⟨h.next + 1, 0, none⟩) m m := by
 obtain ⟨v', h', e, g', a', k, m⟩ := PX CF zO (by omega) FZ (by omega) QI w g a.rw hlen (by simp) (x := [.int .i64 s]) rfl rfl
 refine ⟨v', h', e, g', RwA.in ?_, k, m⟩
 rw [List.length_append, List.map_append]; exact a'
theorem aO7 (n : Nat) (v p x y : Value) (i : Int) (h : Hp) : aI ZN (n + 1) 1 (AL.v v (AL.v p (AL.v x (AL.v y (AL.i i AL.n))))) h = aE0 (aI ZN n) v p x y i h := rfl
theorem aO8 (n : Nat) (v p x y : Value) (i : Int) (h : Hp) : aI ZN (n + 1) 2 (AL.v v (AL.v p (AL.v x (AL.v y (AL.i i AL.n))))) h = aEZ (aI ZN n) v p x y i h := rfl
theorem aXW (n : Nat) (v p x y : Value) (i : Int) (h : Hp) : aI ZN (n + 1) 3 (AL.v v (AL.v p (AL.v x (AL.v y (AL.i i AL.n))))) h = aNG (aI ZN n) v p x y i h := rfl
theorem aXX (n : Nat) (y : Value) (h : Hp) : aI ZN (n + 1) 4 (AL.v y AL.n) h = some (y, h) := rfl
theorem aXY (n : Nat) (v p x y : Value) (h : Hp) : aI ZN (n + 1) 5 (AL.v v (AL.v p (AL.v x (AL.v y AL.n)))) h = aI ZN n 2 (AL.v v (AL.v p (AL.v x (AL.v y (AL.i (Int.ofNat 0) AL.n))))) h := rfl
def LeA (hb h : Hp) (v vO : Value) (L : List Int) : Prop := (∃ b, v = .slice b L.length L.length) ∧ (L ≠ [] → ∃ b, v = .slice (some ⟨b, 0, none⟩) L.length L.length ∧ hb.next ≤ b ∧ h.get b = some (.cells (L.map (Value.int .i64)) 3 (some 1)) ∧ aXE vO b)
theorem UI {hb : Hp} (w : Wf hb) {s : Rm} (F : kY s) {p v vc vo vf vp : Value} (sp : jC hb 3 vp (s.bE.map Lk.row)) (ar : At hb p (fP vc vo vf vp)) {xs : List Nat} (sl : jC hb 1 v (xs.map EW)) (hx : ∀ x ∈ xs, x ≤ 255) :
  ∀ (m i n : Nat) (h : Hp) (r5 r6 : Value) (O L : List Int), aR hb h → oL hb h r6 O → LeA hb h r5 r6 L → (O ++ L).Perm (qJ s.bR.length) → O.length = i → i + m = min s.bE.length s.bR.length → 2 * m + 3 ≤ n →
  ∃ h' v' P Q, aI ZN n 2 (AL.v v (AL.v p (AL.v r5 (AL.v r6 (AL.i (i : Int) AL.n))))) h = some (v', h') ∧ aR hb h' ∧ oL hb h' v' P ∧ P.length = min s.bE.length s.bR.length ∧ (P ++ Q).Perm (qJ s.bR.length)
 | 0, i, n', h, r5, r6, O, L, g, iO, le, pm, hO, hi, hn => by
  obtain ⟨n, rfl⟩ : ∃ n, n' = n + 2 := ⟨n' - 2, by omega⟩
  have np := F.np
  have pl := pm.length_eq
  rw [List.length_append, GA] at pl
  have fin : aI ZN (n + 1) 4 (AL.v r6 AL.n) h = some (r6, h) := aXX n r6 h
  refine ⟨h, r6, O, L, ?_, g, iO, by omega, pm⟩
  rw [aO8]
  unfold aEZ
  rw [(ar.sub g.sub).pF 3 (x := vp) rfl, sp.rows.len, List.length_map, aH, aN, aC]
  by_cases c : i < s.bE.length
  ·obtain ⟨b, hb'⟩ := le.1
   have l0 : L.length = 0 := by omega
   rw [if_pos (by simp; omega), hb', rW, aH, aN, aC, if_neg (by rw [l0]; decide)]
   exact fin
  ·rw [if_neg (by simp; omega)]
   exact fin
 | m + 1, i, n', h, r5, r6, O, L, g, iO, le, pm, hO, hi, hn => by
  obtain ⟨n, rfl⟩ : ∃ n, n' = n + 2 := ⟨n' - 2, by omega⟩
  have np := F.np
  have nf := F.nf
  have pl := pm.length_eq
  rw [List.length_append, GA] at pl
  have hL0 : 0 < L.length := by omega
  have hLn : L ≠ [] := by intro e; rw [e] at hL0; simp at hL0
  obtain ⟨bL, e5, hbL, cL, off⟩ := le.2 hLn
  subst e5
  obtain ⟨t, et, bQX⟩ := aHB (h := h) (sl.sub g.sub).rows hx i
  have hk : t % L.length < L.length := Nat.mod_lt _ hL0
  rw [aO8]
  unfold aEZ
  rw [(ar.sub g.sub).pF 3 (x := vp) rfl, sp.rows.len, List.length_map, aH, aN, aC, if_pos (by simp; omega), rW, aH, aN, aC, if_pos (by simp; omega), aXW]
  unfold aNG
  rw [et, aK, aB, aG, rW, aO5 (by omega) (by omega), CL, show ((t : Int) % (L.length : Int)) = ((t % L.length : Nat) : Int) from (Int.natCast_emod _ _).symm]
  generalize t % L.length = k at hk
  have cLk : (L.map (Value.int .i64))[0 + k * 1]? = some (.int .i64 L[k]) := by rw [Nat.zero_add, Nat.mul_one, List.getElem?_map, List.getElem?_eq_getElem hk]; rfl
  obtain ⟨v8, h8, e8, g8, i8, k8, m8, em8⟩ := aDB w g iO (by omega) L[k]
  have cL8 := k8 bL _ off cL
  obtain ⟨v16, h16, K16, g16, f16, n16⟩ := aXV g8.wf hk (by omega) cL8
  rw [BO 1 bL 0 L.length L.length k hk, fK cL cLk, aG, MJ, aB, e8, aB, K16, show Int.add (i : Int) (Int.ofNat 1) = ((i + 1 : Nat) : Int) from rfl, wrap64_in _ (by omega) (by omega)]
  have L1 : (L.take k ++ L.drop (k + 1)).length = L.length - 1 := by rw [List.length_append, List.length_take, List.length_drop]; omega
  have lt8 : h.next + 1 < h8.next := by
   rcases i8 with ⟨z, _⟩ | ⟨b, z1, _, z3⟩
   ·rw [em8] at z; cases z
   ·rw [em8] at z1
    have e : b = h.next + 1 := by injection z1 with a _ _; injection a with a; injection a with a _ _; exact a.symm
    have := g8.wf.2 _ _ z3
    omega
  refine UI w F sp ar sl hx m (i + 1) n h16 v16 v8 (O ++ [L[k]]) (L.take k ++ L.drop (k + 1)) (g8.trans g16) (i8.sub g16.sub) ⟨by rw [L1]; exact f16, fun hne => ?_⟩ ?_ (by simp; omega) (by omega) (by omega)
  ·have h1 : 1 < L.length := by
    by_cases c : 1 < L.length
    ·exact c
    ·exact absurd (List.eq_nil_of_length_eq_zero (by omega : (L.take k ++ L.drop (k + 1)).length = 0)) hne
   obtain ⟨b, z1, z2, z3⟩ := ZZ (n16 h1) hne
   refine ⟨b, z1, by have := g8.next; omega, z3, fun b' o n c e => ?_⟩
   rw [em8] at e
   injection e with a _ _; injection a with a; injection a with a _ _
   omega
  ·refine List.Perm.trans ?_ pm
   rw [List.append_assoc]
   refine List.Perm.append_left O ?_
   have : L = L.take k ++ L[k] :: L.drop (k + 1) := by rw [← List.drop_eq_getElem_cons hk, List.take_append_drop]
   conv => rhs; rw [this]
   show (L[k] :: (L.take k ++ L.drop (k + 1))).Perm _
   exact List.perm_middle.symm
theorem UJ {hb : Hp} (w : Wf hb) {s : Rm} (F : kY s) {p v vc vo vf vp : Value} (sf : jC hb 3 vf (s.bR.map Lk.row)) (sp : jC hb 3 vp (s.bE.map Lk.row)) (ar : At hb p (fP vc vo vf vp)) {xs : List Nat} (sl : jC hb 1 v (xs.map EW)) (hx : ∀ x ∈ xs, x ≤ 255) :
  ∀ (m i n : Nat) (h : Hp) (r5 : Value), aR hb h → oL hb h r5 (qJ i) → i + m = s.bR.length → m + 30 ≤ n →
  ∃ h' v' P Q, aI ZN n 1 (AL.v v (AL.v p (AL.v r5 (AL.v (.slice none 0 0) (AL.i (i : Int) AL.n))))) h = some (v', h') ∧ aR hb h' ∧ oL hb h' v' P ∧ P.length = min s.bE.length s.bR.length ∧ (P ++ Q).Perm (qJ s.bR.length)
 | 0, i, n', h, r5, g, iL, hi, hn => by
  obtain ⟨n, rfl⟩ : ∃ n, n' = n + 2 := ⟨n' - 2, by omega⟩
  have np := F.np
  rw [aO7]
  unfold aE0
  rw [(ar.sub g.sub).pF 2 (x := vf) rfl, sf.rows.len, List.length_map, aH, aN, aC, if_neg (by simp; omega), aXY, show (Int.ofNat 0) = ((0 : Nat) : Int) from rfl]
  have hi' : i = s.bR.length := by omega
  subst hi'
  refine UI w F sp ar sl hx (min s.bE.length s.bR.length) 0 n h r5 (.slice none 0 0) [] (qJ s.bR.length) g (.inl ⟨rfl, rfl⟩) ⟨?_, fun hne => ?_⟩ (by rw [List.nil_append]) rfl (by omega) (by omega)
  ·rcases iL with ⟨z1, z2⟩ | ⟨b, z1, _⟩
   ·exact ⟨none, by rw [z1, z2]; rfl⟩
   ·exact ⟨_, z1⟩
  ·obtain ⟨b, z1, z2, z3⟩ := ZZ iL hne
   exact ⟨b, z1, z2, z3, fun b' o n c e => by cases e⟩
 | m + 1, i, n', h, r5, g, iL, hi, hn => by
  obtain ⟨n, rfl⟩ : ∃ n, n' = n + 1 := ⟨n' - 1, by omega⟩
  have nf := F.nf
  obtain ⟨v8, h8, e8, g8, i8⟩ := qX w g iL (by rw [GA]; omega) (i : Int)
  rw [aO7]
  unfold aE0
  rw [(ar.sub g.sub).pF 2 (x := vf) rfl, sf.rows.len, List.length_map, aH, aN, aC, if_pos (by simp; omega), MJ, aB, e8, aB, show Int.add (i : Int) (Int.ofNat 1) = ((i + 1 : Nat) : Int) from rfl, wrap64_in _ (by omega) (by omega)]
  exact UJ w F sf sp ar sl hx m (i + 1) n h8 v8 g8 (by rw [Z4]; exact i8) (by omega) (by omega)
theorem aO9 {h : Hp} (w : Wf h) {s : Rm} (F : kY s) {r : List Value} (a : zC h s r) {v : Value} {xs : List Nat} (sl : jC h 1 v (xs.map EW)) (hx : ∀ x ∈ xs, x ≤ 255) : ∃ h' v' P, F38 [.agg (Array.mk r), v] h = some (v', h') ∧ aR h h' ∧ oL h h' v' P ∧ P.length = min s.bE.length s.bR.length ∧ P.Nodup ∧ ∀ x ∈ P, 0 ≤ x ∧ x ≤ (s.bR.length : Int) - 1 := by
 have start : F38 [.agg (Array.mk r), v] h = aNH (aI ZN 999999) (.agg (Array.mk r)) v h := rfl
 rw [start]
 unfold aNH
 rw [dN, aX]
 have g1 : aR h (h.add (.cells r 25 none)) := aR.add w _
 have a1 : At (h.add (.cells r 25 none)) (.pointer (some ⟨h.next, 0, none⟩)) r := At.new
 replace a := a.sub g1.sub
 replace sl := sl.sub g1.sub
 have nf := F.nf
 clear start
 generalize h.add (.cells r 25 none) = h1 at g1 a1 a sl ⊢
 generalize Value.pointer (some ⟨h.next, 0, none⟩) = p at a1 ⊢
 obtain ⟨vc, vo, vf, vp, rfl, sc, so, sf, sp, af, aq⟩ := a
 obtain ⟨h', v', P, Q, e, g, i, l, pm⟩ := UJ g1.wf F sf sp a1 sl hx s.bR.length 0 999999 h1 (.slice none 0 0) (aR.refl g1.wf) (.inl ⟨rfl, rfl⟩) (by omega) (by omega)
 have nd : (P ++ Q).Nodup := pm.nodup_iff.2 (WX _)
 exact ⟨h', v', P, e, g1.trans g, i.low g1.next, l, (List.nodup_append.1 nd).1, fun x hx => aDA (pm.mem_iff.1 (List.mem_append_left _ hx))⟩
theorem Z5 {pl : List Int} (hn : pl.Nodup) : ∀ (m i : Nat), i + m = pl.length → FW pl i (pl.drop i) = false
 | 0, i, hi => by rw [List.drop_of_length_le (by omega)]; rfl
 | m + 1, i, hi => by
  have hi' : i < pl.length := by omega
  rw [List.drop_eq_getElem_cons hi']
  unfold FW
  rw [Z5 hn m (i + 1) (by omega), Bool.or_false]
  cases c : (pl.take i).contains pl[i] with
  | false => rfl
  | true =>
   have hm : pl[i] ∈ pl.take i := by simpa using c
   obtain ⟨j, hj, e⟩ := List.getElem_of_mem hm
   rw [List.length_take] at hj
   rw [List.getElem_take] at e
   exact absurd e (List.pairwise_iff_getElem.1 hn j i (by omega) hi' (by omega))
end Go.Proofs.Ytdpicdnpiihaaaa.K.L
