/- Rows of figures, cut off and laid anew. -/
import Derived.Test.YtdpicdnpiihaaaaAsQ48
open Go Go.bG
set_option maxRecDepth 100000
set_option linter.unusedVariables false
namespace Go.Proofs.Ytdpicdnpiihaaaa.K.L
theorem aD7 : (env.ty.get 59).map (fun ti => ti.info.bytes) = some 48 := by kernel_rfl
theorem aNH : (mJ env 59).map (fun x => Nat.beq x.cells.size 3) = some true := by kernel_rfl
theorem a3W {h : Hp} {b n k : Nat} {c : List Value} {t : TypeId} {s : Option Nat} (hg : h.get b = some (.cells c t s)) (hs : s = some 3 ∨ s = none) (hk : k ≤ n) (hn : 0 < n) :
  ∃ cap, gY env h 23 (.slice (some ⟨b, 0, none⟩) n n) none (some (.int .i64 (k : Int))) none = some (.slice (some ⟨b, 0, none⟩) k cap) := by
 have hb : kE none (some (.int .i64 (k : Int))) n n = some (0, k) := by
  unfold kE
  rw [show ((k : Nat) : Int) = Int.ofNat k from rfl]
  simp only [uU, Option.bind_some]
  rw [show Nat.ble k n = true from by rw [Nat.ble_eq]; omega]
  rfl
 have hr : mF h b = some s := by unfold mF; rw [hg]
 have h0 : Nat.beq n 0 = false := by cases n with | zero => omega | succ n => rfl
 rcases hs with rfl | rfl
 ·refine ⟨k, ?_⟩
  unfold gY
  simp only [aDV, Option.bind_some, OU]
  rw [hr]
  simp only [Option.bind_some, Nat.beq_refl, hb, ok?]
  rw [h0]
  rfl
 ·refine ⟨n, ?_⟩
  unfold gY
  simp only [aDV, Option.bind_some, OU]
  rw [hr]
  simp only [Option.bind_some, hb]
  rw [h0]
  rfl
theorem aF6 {h : Hp} {b n : Nat} {c : List Value} {t : TypeId} {s : Option Nat} (hg : h.get b = some (.cells c t s)) (hn : n ≤ c.length) : fO h ⟨b, 0, none⟩ n = some (c.take n) := by
 unfold fO
 simp only [hg]
 rw [List.drop_zero, List.length_take, Nat.min_eq_left hn, Nat.beq_refl]
 rfl
theorem bF1 (h : Hp) : bB env h 23 0 (List.toArray []) = some (.slice (some ⟨h.next, 0, none⟩) 0 0, h.add (.cells [] 59 none)) := by kernel_rfl
theorem a3X {h : Hp} {b0 : Nat} (h0 : h.get b0 = some (.cells [] 59 none)) {b k cap : Nat} {M : List Value} (hk : 0 < k ∧ k ≤ 100) (hs : fO h ⟨b, 0, none⟩ (k * 3) = some M) :
  fH env h #[23, 23] (List.toArray [.slice (some ⟨b0, 0, none⟩) 0 0, .slice (some ⟨b, 0, none⟩) k cap]) = some (.slice (some ⟨h.next, 0, none⟩) k k, h.add (.cells M 59 (some 3))) := by
 obtain ⟨ti, hti⟩ : ∃ ti, env.ty.get 59 = some ti := by
  cases e : env.ty.get 59 with
  | none => have := aD7; rw [e] at this; cases this
  | some ti => exact ⟨ti, rfl⟩
 have hb3 : ti.info.bytes = 48 := by have := aD7; rw [hti] at this; simpa using this
 obtain ⟨z, hz'⟩ : ∃ z, mJ env 59 = some z := by
  cases e : mJ env 59 with
  | none => have := aNH; rw [e] at this; cases this
  | some z => exact ⟨z, rfl⟩
 have hzs : Nat.beq z.cells.size 3 = true := by have := aNH; rw [hz'] at this; simpa using this
 have hsrc : rT h k 3 (.slice (some ⟨b, 0, none⟩) k cap) = some M := hs
 have hre : mF h b0 = some none := by unfold mF; rw [h0]
 have hold : fO h ⟨b0, 0, none⟩ (0 * 3) = some [] := oV h0 rfl
 unfold fH
 rw [show (#[23, 23] : Array TypeId)[0]? = some 23 from rfl, show (#[23, 23] : Array TypeId)[1]? = some 23 from rfl, show (List.toArray [Value.slice (some ⟨b0, 0, none⟩) 0 0, .slice (some ⟨b, 0, none⟩) k cap])[0]? = some (.slice (some ⟨b0, 0, none⟩) 0 0) from rfl, show (List.toArray [Value.slice (some ⟨b0, 0, none⟩) 0 0, .slice (some ⟨b, 0, none⟩) k cap])[1]? = some (.slice (some ⟨b, 0, none⟩) k cap) from rfl]
 simp only [Option.bind_some, aDV, OU, hti, hz', CZ, hb3]
 rw [show (Nat.blt 0 3 && Nat.blt 0 48 && Nat.ble 48 65536 && Nat.beq z.cells.size 3) = true from by rw [hzs]; rfl]
 simp only [ok?, hre, Option.bind_some]
 rw [show Nat.ble ((0 + k) * 48) 1099511627776 = true from by rw [Nat.ble_eq]; omega, show Nat.ble (0 + k) 0 = false from by cases e2 : Nat.ble (0 + k) 0 with | false => rfl | true => rw [Nat.ble_eq] at e2; omega]
 simp only [hold, hsrc, Option.bind_some, Nat.zero_add]
 rfl
theorem aVM {h : Hp} {v : Value} {rs : List (List Value)} (sl : lF h 3 v rs) (hn : 0 < rs.length) (hr : rs.length ≤ 100) {k : Nat} (hk : 0 < k ∧ k ≤ rs.length) :
  ∃ b c t s, v = .slice (some ⟨b, 0, none⟩) rs.length rs.length ∧ h.get b = some (.cells c t s) ∧ (s = some 3 ∨ s = none) ∧ k * 3 ≤ c.length ∧
   ∀ (H : Hp) (b' : Nat), H.get b' = some (.cells (c.take (k * 3)) 59 (some 3)) → lF H 3 (.slice (some ⟨b', 0, none⟩) k k) (rs.take k) := by
 rcases sl with ⟨_, h2⟩ | ⟨b, c, t, s, h1, h2, hs, h3⟩
 ·rw [h2] at hn; simp at hn
 ·have hlast := h3 (k - 1) rs[k - 1] (List.getElem?_eq_getElem (by omega))
  have hc : k * 3 ≤ c.length := by have := hlast.2.1; omega
  have hlen : (rs.take k).length = k := by rw [List.length_take]; omega
  refine ⟨b, c, t, s, h1, h2, hs, hc, fun H b' hb => .inr ⟨b', _, 59, some 3, by rw [hlen], hb, .inl rfl, fun i r hi => ?_⟩⟩
  rw [List.getElem?_take] at hi
  split at hi
  ·rename_i hik
   obtain ⟨g1, g2, g3⟩ := h3 i r hi
   refine ⟨g1, by rw [List.length_take]; omega, fun j x hx => ?_⟩
   have hj : j < 3 := by have := (List.getElem?_eq_some_iff.1 hx).1; omega
   rw [List.getElem?_take, if_pos (by omega)]
   exact g3 j x hx
  ·cases hi
end Go.Proofs.Ytdpicdnpiihaaaa.K.L
open Go Go.bG
set_option maxRecDepth 100000
set_option linter.unusedVariables false
namespace Go.Proofs.Ytdpicdnpiihaaaa.K.L
theorem aNI (n : Nat) (p v : Value) (x y c e i : Int) (b : Bool) (h : Hp) : aK LU (n + 1) 2 (AL.v p (AL.i x (AL.i y (AL.i c (AL.v v (AL.i e (AL.b b (AL.i i AL.n)))))))) h = aDO (aK LU n) p x y c v e b i h := rfl
theorem aVN (n : Nat) (p v : Value) (x y c e i : Int) (b o : Bool) (h : Hp) : aK LU (n + 1) 3 (AL.v p (AL.i x (AL.i y (AL.i c (AL.v v (AL.i e (AL.b b (AL.i i (AL.b o AL.n))))))))) h = aL5 (aK LU n) p x y c v e b i o h := rfl
theorem aVO (n : Nat) (p v : Value) (x y c e i : Int) (b : Bool) (h : Hp) : aK LU (n + 1) 4 (AL.v p (AL.i x (AL.i y (AL.i c (AL.v v (AL.i e (AL.b b (AL.i i AL.n)))))))) h = aL4 (aK LU n) p x y c v e b i h := rfl
theorem aVP (n : Nat) (v : Value) (c e : Int) (b : Bool) (h : Hp) : aK LU (n + 1) 5 (AL.i c (AL.v v (AL.i e (AL.b b AL.n)))) h = aL3 (aK LU n) c v e b h := rfl
theorem bF2 (a b : Bool) : pR env .eql 4 (Operand.tmp 140) (Operand.tmp 143) (.bool a) (.bool b) = some (.bool (a == b)) := by cases a <;> cases b <;> kernel_rfl
def ownB (pl fl : List Int) (i : Nat) : Bool := decide (pl.getD i 0 = -1) || decide (pl.getD i 0 = fl.getD i 0)
theorem aD8 {h : Hp} (w : Wf h) {s : Rm} (F : qE s) {p vc vo vf vp : Value} (A : D7 h s (eZ vc vo vf vp)) (ar : At h p (eZ vc vo vf vp)) (sc : lF h 1 vc (s.costs.map dD)) (sf : lF h 3 vf (s.bA.map Lk.row)) (sp : lF h 3 vp (s.bN.map Lk.row))
  {x y : Nat} (hx : x < s.bA.length) (hy : y < s.bN.length) {vk : Value} (sk : lF h 1 vk ((zG s (x, y)).map dD)) : ∀ (m i n : Nat) (al : Bool), i + m = s.costs.length → 4 * m + 3 ≤ n → (al = true → ∀ j, j < i → ownB (s.bN[y]).lk (s.bA[x]).lk j = true) →
  ∃ h', aK LU n 2 (AL.v p (AL.i (x : Int) (AL.i (y : Int) (AL.i (kR s.costs (zG s (x, y))) (AL.v vk (AL.i 0 (AL.b al (AL.i (i : Int) AL.n)))))))) h = some (.bool true, h')
 | 0, i, n', al, hi, hn, hal => by
  obtain ⟨n, rfl⟩ : ∃ n, n' = n + 2 := ⟨n' - 2, by omega⟩
  have e1 := F.fs _ (List.getElem_mem hx)
  have e2 := F.ps _ (List.getElem_mem hy)
  have cp := (CR F.cs (zG s (x, y))).1
  rw [aNI]
  unfold aDO
  rw [ar.qL 0 (x := vc) rfl, sc.rows.len, List.length_map, aM, aT, aG, if_neg (by simp; omega), aVP]
  unfold aL3
  rw [aM, bT, aG, if_pos (by decide), aQ, aT, aG, if_pos (by simp; omega), aQ, aG]
  cases al with
  | false =>
   rw [if_pos (by decide), G9, aB, aU]
   exact ⟨_, rfl⟩
  | true =>
   have kz : zG s (x, y) = [] := by
    rw [BG (s := s) (c := (x, y)) (List.getElem?_eq_getElem hx) (List.getElem?_eq_getElem hy)]
    refine PG _ _ 0 fun j h1 h2 => ⟨_, _, List.getElem?_eq_getElem h1, List.getElem?_eq_getElem h2, ?_⟩
    have := hal rfl j (by omega)
    unfold ownB at this
    rw [List.getD_eq_getElem?_getD, List.getD_eq_getElem?_getD, List.getElem?_eq_getElem h1, List.getElem?_eq_getElem h2] at this
    simp at this
    intro q
    rcases this with t | t
    ·exact q.1 t
    ·exact q.2 t
   rw [kz] at sk ⊢
   rw [if_neg (by decide), aM, bT, aG, if_pos (by rfl), sk.rows.len, aM, bT, aG, if_pos (by rfl), G9, aB, aU]
   exact ⟨_, rfl⟩
 | m + 1, i, n', al, hi, hn, hal => by
  obtain ⟨n, rfl⟩ : ∃ n, n' = n + 3 := ⟨n' - 3, by omega⟩
  have nc := F.nc
  have nf := F.nf
  have np := F.np
  have A0 := A
  obtain ⟨_, _, _, _, _, _, _, _, _, aff, apf⟩ := A0
  have lf : lF h 1 (s.bA[x]).lv ((s.bA[x]).lk.map dD) := aff _ (List.getElem_mem hx)
  have lq : lF h 1 (s.bN[y]).lv ((s.bN[y]).lk.map dD) := apf _ (List.getElem_mem hy)
  have e1 := F.fs _ (List.getElem_mem hx)
  have e2 := F.ps _ (List.getElem_mem hy)
  have i1 : i < (s.bA[x]).lk.length := by omega
  have i2 : i < (s.bN[y]).lk.length := by omega
  obtain ⟨qf, ef, af, _⟩ := sf.rows.at (i := x) (r := (s.bA[x]).row) (by rw [List.getElem?_map, List.getElem?_eq_getElem hx]; rfl)
  obtain ⟨qp, ep, ap, _⟩ := sp.rows.at (i := y) (r := (s.bN[y]).row) (by rw [List.getElem?_map, List.getElem?_eq_getElem hy]; rfl)
  obtain ⟨zf, ezf, azf, _⟩ := lf.rows.at (i := i) (r := dD (s.bA[x]).lk[i]) (by rw [List.getElem?_map, List.getElem?_eq_getElem i1]; rfl)
  obtain ⟨zp, ezp, azp, _⟩ := lq.rows.at (i := i) (r := dD (s.bN[y]).lk[i]) (by rw [List.getElem?_map, List.getElem?_eq_getElem i2]; rfl)
  have kh : (zG s (x, y)).contains (i : Int) = decide ((s.bN[y]).lk[i] ≠ -1 ∧ (s.bN[y]).lk[i] ≠ (s.bA[x]).lk[i]) := by
   rw [BG (s := s) (c := (x, y)) (List.getElem?_eq_getElem hx) (List.getElem?_eq_getElem hy)]
   have := TB (s.bA[x]).lk (s.bN[y]).lk 0 i _ _ (List.getElem?_eq_getElem i1) (List.getElem?_eq_getElem i2)
   rwa [Nat.zero_add] at this
  have kl : (zG s (x, y)).length ≤ 900 := by have := (aBS F (c := (x, y)) hx hy).1; omega
  have ow : ownB (s.bN[y]).lk (s.bA[x]).lk i = (decide ((s.bN[y]).lk[i] = -1) || decide ((s.bN[y]).lk[i] = (s.bA[x]).lk[i])) := by
   unfold ownB
   rw [List.getD_eq_getElem?_getD, List.getD_eq_getElem?_getD, List.getElem?_eq_getElem i1, List.getElem?_eq_getElem i2]
   rfl
  have next : ∀ (o al2 : Bool), o = ownB (s.bN[y]).lk (s.bA[x]).lk i → al2 = (al && o) → ∃ h', aK LU (n + 2) 3 (AL.v p (AL.i (x : Int) (AL.i (y : Int) (AL.i (kR s.costs (zG s (x, y))) (AL.v vk (AL.i 0 (AL.b al2 (AL.i (i : Int) (AL.b o AL.n))))))))) h = some (.bool true, h') := by
   intro o al2 ho bF3
   have hne : (o == (zG s (x, y)).contains (i : Int)) = false := by
    rw [kh, ho, ow]
    by_cases c1 : (s.bN[y]).lk[i] = -1
    ·simp [c1]
    ·by_cases c2 : (s.bN[y]).lk[i] = (s.bA[x]).lk[i]
     ·simp [c2]
     ·simp [c1, c2]
   rw [aVN]
   unfold aL5
   rw [aMX sk.rows _ kl, aJ, aB, aU, bF2, aJ, aU, hne, aG, if_neg (by decide), aVO]
   unfold aL4
   rw [show Int.add (i : Int) (Int.ofNat 1) = ((i + 1 : Nat) : Int) from rfl, wrap64_in _ (by omega) (by omega)]
   refine aD8 w F A ar sc sf sp hx hy sk m (i + 1) n al2 (by omega) (by omega) fun h2 j hj => ?_
   rw [bF3] at h2
   by_cases hji : j = i
   ·subst hji
    rw [← ho]
    cases o with
    | true => rfl
    | false => simp at h2
   ·exact hal (by cases al with | true => rfl | false => simp at h2) j (by omega)
  rw [aNI]
  unfold aDO
  rw [ar.qL 0 (x := vc) rfl, sc.rows.len, List.length_map, aM, aT, aG, if_pos (by simp; omega), ar.qL 3 (x := vp) rfl, ep, ap.qL 1 (x := (s.bN[y]).lv) rfl, ezp, azp.jS (x := .int .i64 (s.bN[y]).lk[i]) rfl, aH, aM, bT, aG]
  by_cases c1 : (s.bN[y]).lk[i] = -1
  ·rw [if_pos (by rw [c1]; decide), aG]
   have ho : true = ownB (s.bN[y]).lk (s.bA[x]).lk i := by rw [ow, c1]; rfl
   cases al with
   | true => rw [if_pos rfl]; exact next true true ho rfl
   | false => rw [if_neg (by decide)]; exact next true false ho rfl
  ·rw [if_neg (by simpa using c1), ar.qL 3 (x := vp) rfl, ep, ap.qL 1 (x := (s.bN[y]).lv) rfl, ezp, azp.jS (x := .int .i64 (s.bN[y]).lk[i]) rfl, aH, ar.qL 2 (x := vf) rfl, ef, af.qL 1 (x := (s.bA[x]).lv) rfl, ezf, azf.jS (x := .int .i64 (s.bA[x]).lk[i]) rfl, aH, aM, bT, aG]
   have ho : decide ((s.bN[y]).lk[i] = (s.bA[x]).lk[i]) = ownB (s.bN[y]).lk (s.bA[x]).lk i := by rw [ow, decide_eq_false c1, Bool.false_or]
   cases al with
   | true => rw [if_pos rfl]; exact next _ _ ho (by simp)
   | false => rw [if_neg (by decide)]; exact next _ false ho rfl
end Go.Proofs.Ytdpicdnpiihaaaa.K.L
