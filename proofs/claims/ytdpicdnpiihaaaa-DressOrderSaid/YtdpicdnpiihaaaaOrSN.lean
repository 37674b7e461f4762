/- Contracts of told functions: the references' names; a list of names that grows. -/
import Derived.Test.YtdpicdnpiihaaaaOrS3
open Go Go.bI
set_option maxRecDepth 100000
set_option linter.unusedVariables false
namespace Go.Proofs.Ytdpicdnpiihaaaa.K.L
theorem aAA (h : Hp) (n lo hi : Int) : aG4 [.int .i64 n, .int .i64 lo, .int .i64 hi] h = some (.bool (rY lo hi n)) := by
 show plainO (aCX h (G.aN (aMN h) 999999) n lo hi) = _
 unfold aCX rY
 rw [aR, aW, aH, aR, aW]
 by_cases h1 : n < lo
 ·rw [if_neg (by simpa using h1)]; simp [h1]; rfl
 ·rw [if_pos (by simpa using h1)]; simp [h1]; rfl
theorem IM (h : Hp) (n lo hi : Int) : F55 [.int .i64 n, .int .i64 lo, .int .i64 hi] h = some (.bool (rY lo hi n)) := by
 show plainO (aMJ h (G.aN (T55 h) 999999) n lo hi) = _
 unfold aMJ rY
 rw [aR, aW, aH, aR, aW]
 by_cases h1 : n < lo
 ·rw [if_neg (by simpa using h1)]; simp [h1]; rfl
 ·rw [if_pos (by simpa using h1)]; simp [h1]; rfl
theorem aHJ (c : UInt8) : rY (Int.ofNat 97) (Int.ofNat 122) (c.toNat : Int) = oD c := by
 unfold rY oD
 rw [Bool.eq_iff_iff]
 simp
 omega
theorem aOV (c : UInt8) : rY (Int.ofNat 48) (Int.ofNat 57) (c.toNat : Int) = wR c := by
 unfold rY wR
 rw [Bool.eq_iff_iff]
 simp
 omega
theorem aXC (c : UInt8) : decide ((c.toNat : Int) = Int.ofNat 46) = (c == 46) := by
 rw [Bool.eq_iff_iff, decide_eq_true_iff, beq_iff_eq]
 constructor
 ·intro e
  have e' : c.toNat = 46 := by simp at e; omega
  exact UInt8.toNat_inj.1 (by rw [e']; rfl)
 ·intro e; rw [e]; rfl
theorem u8_in (c : UInt8) : -9223372036854775808 ≤ (c.toNat : Int) ∧ (c.toNat : Int) ≤ 9223372036854775807 := by
 have : c.toNat < 256 := c.toNat_lt
 omega
theorem IV (s : ByteArray) (h : Hp) (n i : Nat) (hi : i < s.size) (hs : s.size ≤ 16) {c : UInt8} (hb : s[i]? = some c) :
  G.aN (zU h) (n + 3) 1 (aD.v (.string s) (aD.i (i : Int) aD.n)) = if oD c || (decide (i ≠ 0) && (wR c || c == 46)) then G.aN (zU h) n 1 (aD.v (.string s) (aD.i ((i + 1 : Nat) : Int) aD.n)) else some (.bool false) := by
 obtain ⟨u1, u2⟩ := u8_in c
 have a7C : ∀ (j : Int), G.aN (zU h) (n + 1) 3 (aD.v (.string s) (aD.i j aD.n)) = aCY h (G.aN (zU h) n) (.string s) j := fun j => rfl
 have step2 : ∀ (j : Int) (a b : Bool), G.aN (zU h) (n + 2) 2 (aD.v (.string s) (aD.i j (aD.b a (aD.b b aD.n)))) = WQ h (G.aN (zU h) (n + 1)) (.string s) j a b := fun j a b => rfl
 have two : ∀ (a b : Bool), WQ h (G.aN (zU h) (n + 1)) (.string s) (i : Int) a b = if a || (decide (i ≠ 0) && b) then G.aN (zU h) n 1 (aD.v (.string s) (aD.i ((i + 1 : Nat) : Int) aD.n)) else some (.bool false) := by
  intro a b
  have three : G.aN (zU h) (n + 1) 3 (aD.v (.string s) (aD.i (i : Int) aD.n)) = G.aN (zU h) n 1 (aD.v (.string s) (aD.i ((i + 1 : Nat) : Int) aD.n)) := by
   rw [a7C]
   unfold aCY
   rw [show Int.add (i : Int) (Int.ofNat 1) = ((i + 1 : Nat) : Int) from rfl, wrap64_in _ (by omega) (by omega)]
  unfold WQ
  rw [aR, aH, three]
  cases a with
  | true => simp
  | false =>
   rw [if_pos (by rfl), aQ, cK, aH]
   by_cases h0 : i = 0
   ·rw [if_pos (by simp [h0]), if_neg (by simp [h0])]
   ·rw [if_neg (by simp; omega), aR, aH]
    cases b with
    | true => rw [if_neg (by simp), if_pos (by simp [h0])]
    | false => rw [if_pos (by rfl), if_neg (by simp)]
 show PO h (G.aN (zU h) (n + 2)) (.string s) (i : Int) = _
 unfold PO
 rw [nZ, aQ, aW, aH, if_pos (by simp; omega), wQ dL aWI hb, aM, aI, wrap64_in _ u1 u2, aAA, aM, aZ, aM, aI, wrap64_in _ u1 u2, aAA, aM, aZ, aH, aHJ, aOV]
 cases hd : wR c with
 | true => rw [if_pos (by rfl), step2, two]; simp
 | false => rw [if_neg (by simp), aM, aI, aQ, cK, aXC, step2, two]; simp
theorem IW (s : ByteArray) (h : Hp) (hs : s.size ≤ 16) : ∀ m i n, i + m = s.size → 3 * m + 2 ≤ n → 0 < i → G.aN (zU h) n 1 (aD.v (.string s) (aD.i (i : Int) aD.n)) = some (.bool ((s.data.toList.drop i).all zO))
 | 0, i, n + 2, him, hn, h0 => by
  show PO h (G.aN (zU h) (n + 1)) (.string s) (i : Int) = _
  unfold PO
  rw [nZ, aQ, aW, aH, if_neg (by simp; omega), List.drop_of_length_le (by simp; omega)]
  rfl
 | m + 1, i, n + 3, him, hn, h0 => by
  have hi2 : i < s.data.toList.length := by simp; omega
  have hb : s[i]? = some (s.data.toList[i]) := by
   rw [show s[i]? = s.data[i]? from rfl, Array.getElem?_eq_getElem (by simpa using hi2)]; simp
  rw [IV s h n i (by omega) hs hb, IW s h hs m (i + 1) n (by omega) (by omega) (by omega), List.drop_eq_getElem_cons hi2, List.all_cons]
  have hr : (oD (s.data.toList[i]) || (decide (i ≠ 0) && (wR (s.data.toList[i]) || s.data.toList[i] == 46))) = zO (s.data.toList[i]) := by
   unfold zO
   rw [show decide (i ≠ 0) = true from by simp; omega, Bool.true_and, Bool.or_assoc]
  rw [hr]
  cases zO (s.data.toList[i]) <;> simp
theorem aDH (s : ByteArray) (h : Hp) : aMP [.string s] h = some (.bool (wD s.data.toList)) := by
 show plainO (aCZ h (G.aN (zU h) 999999) (.string s)) = _
 unfold aCZ
 rw [nZ, aQ, cK, aH]
 cases hl : s.data.toList with
 | nil =>
  have h0 : s.size = 0 := by rw [show s.size = s.data.toList.length by simp]; rw [hl]; rfl
  rw [if_pos (by simp [h0])]; rfl
 | cons c r =>
  have hsz : s.size = r.length + 1 := by rw [show s.size = s.data.toList.length by simp]; rw [hl]; rfl
  rw [if_neg (by simp [hsz]; omega), nZ, aQ, aW, aH]
  by_cases h16 : r.length < 16
  ·have hb : s[0]? = some c := by
    rw [show s[0]? = s.data[0]? from rfl, ← Array.getElem?_toList, hl]; rfl
   rw [if_neg (by simp [hsz]; omega), show (Int.ofNat 0) = ((0 : Nat) : Int) from rfl, show (999999 : Nat) = 999996 + 3 from rfl, IV s h 999996 0 (by omega) (by omega) hb, IW s h (by omega) r.length 1 999996 (by omega) (by omega) (by omega), hl]
   rw [show wD (c :: r) = (decide (r.length < 16) && oD c && (c :: r).all zO) from rfl, decide_eq_true h16, List.all_cons]
   cases hc : oD c with
   | true => simp [zO, hc]; rfl
   | false => simp; rfl
  ·rw [if_pos (by simp [hsz]; omega)]
   simp [wD, h16]; rfl
theorem EX {h : Hp} {v : Value} {ns : List ByteArray} (s : ByteArray) (hr : bI.Rows h 1 v (ns.map fun x => [Value.string x])) (hlen : ns.length ≤ 900000) : ∀ m i n, i + m = ns.length → m + 2 ≤ n →
  G.aN (RB h) n 1 (aD.v v (aD.v (.string s) (aD.i (i : Int) aD.n))) = some (.int .i64 (idxFrom (fun x => kN x s) i (ns.drop i)))
 | 0, i, n + 2, him, hn => by
  show PP h (G.aN (RB h) (n + 1)) v (.string s) (i : Int) = _
  unfold PP
  rw [hr.len, List.length_map, aQ, aW, aH, if_neg (by simp; omega), List.drop_of_length_le (by omega)]
  rfl
 | m + 1, i, n + 1, him, hn => by
  have hi : i < ns.length := by omega
  have hg : (ns.map fun x => [Value.string x])[i]? = some [Value.string ns[i]] := by rw [List.getElem?_map, List.getElem?_eq_getElem hi]; rfl
  obtain ⟨q, hq, haq, hl⟩ := hr.at hg
  show PP h (G.aN (RB h) n) v (.string s) (i : Int) = _
  unfold PP
  rw [hr.len, List.length_map, aQ, aW, aH, if_pos (by simp; omega), hq, haq.j6 (x := .string ns[i]) rfl, OX, aM, aZ, aH, List.drop_eq_getElem_cons hi]
  unfold idxFrom
  rw [show (ns[i].toList == s.toList) = kN ns[i] s from rfl]
  cases hs : kN ns[i] s with
  | true => rfl
  | false =>
   simp only [Bool.false_eq_true, if_false]
   rw [show Int.add (i : Int) (Int.ofNat 1) = ((i + 1 : Nat) : Int) from rfl, wrap64_in _ (by omega) (by omega)]
   exact EX s hr hlen m (i + 1) n (by omega) (by omega)
theorem aAB {h : Hp} {v : Value} {ns : List ByteArray} (s : ByteArray) (hr : bI.Rows h 1 v (ns.map fun x => [Value.string x])) (hlen : ns.length ≤ 900000) : aMR [v, .string s] h = some (.int .i64 (idxFrom (fun x => kN x s) 0 ns)) := by
 have step : ∀ n, G.aN (RB h) (n + 1) 0 (aD.v v (aD.v (.string s) aD.n)) = aC0 h (G.aN (RB h) n) v (.string s) := fun n => rfl
 show plainO (G.aN (RB h) (999999 + 1) 0 (aD.v v (aD.v (.string s) aD.n))) = _
 rw [step]
 unfold aC0
 have := EX s hr hlen ns.length 0 999999 (by omega) (by omega)
 rw [List.drop_zero] at this
 rw [show (Int.ofNat 0) = ((0 : Nat) : Int) from rfl, this]
 rfl
def aG5 (s : ByteArray) (ns : List ByteArray) : Int := if !(wD s.data.toList) then 6 else if ns.any (fun x => kN x s) then 5 else 0
theorem aN9 {h : Hp} {v : Value} {ns : List ByteArray} (s : ByteArray) (hr : bI.Rows h 1 v (ns.map fun x => [Value.string x])) (hlen : ns.length ≤ 900000) : F88 [.string s, v] h = some (.int .i64 (aG5 s ns)) := by
 show plainO (aMT h (G.aN (T88 h) 999999) (.string s) v) = _
 unfold aMT aG5
 rw [aDH, aM, aZ, aR, aH]
 cases hn : wD s.data.toList with
 | false => rw [if_pos (by rfl), if_pos (by rfl)]; rfl
 | true =>
 rw [if_neg (by simp), if_neg (by simp), aAB s hr hlen, aM, aI, aR, aW, show (Int.ofNat 0) = (0 : Int) from rfl, BZ, Bool.not_not, aH]
 cases ns.any (fun x => kN x s) <;> rfl
theorem bIA (h : Hp) (s : ByteArray) : aU env h 120 1 (List.toArray [(0, (Value.string s))]) = some (.slice (some ⟨h.next, 0, none⟩) 1 1, h.add (.cells [.string s] 9 none)) := by kernel_rfl
theorem bI5 : gL env 120 = some (.slice 9) := by kernel_rfl
theorem a7D : gT env 9 = some 1 := by kernel_rfl
theorem aUB : (jR env 9).map (fun z => Nat.beq z.cells.size 1) = some true := by kernel_rfl
theorem aOW : (env.ty.get 9).map (fun ti => ti.info.bytes) = some 16 := by kernel_rfl
def NmA (hb h : Hp) (v : Value) (ns : List ByteArray) : Prop := (v = .slice none 0 0 ∧ ns = []) ∨ ∃ b, v = .slice (some ⟨b, 0, none⟩) ns.length ns.length ∧ hb.next ≤ b ∧ h.get b = some (.cells (ns.map Value.string) 9 (some 1))
theorem NmA.rows {hb h : Hp} {v : Value} {ns : List ByteArray} (a : NmA hb h v ns) : bI.Rows h 1 v (ns.map fun x => [Value.string x]) := by
 rcases a with ⟨rfl, rfl⟩ | ⟨b, rfl, _, h2⟩
 ·exact .inl ⟨0, rfl, rfl⟩
 ·refine .inr ⟨b, 0, ns.length, _, 9, some 1, by rw [List.length_map], fun _ => h2, fun i r hi => ?_⟩
  rw [List.getElem?_map] at hi
  cases hx : ns[i]? with
  | none => rw [hx] at hi; cases hi
  | some x =>
   rw [hx] at hi
   cases hi
   have := (List.getElem?_eq_some_iff.1 hx).1
   refine ⟨rfl, by simp; omega, fun k y hy => ?_⟩
   cases k with
   | zero =>
    simp at hy; subst hy
    rw [Nat.zero_add, Nat.mul_one, Nat.add_zero, List.getElem?_map, hx]; rfl
   | succ k => simp at hy
theorem aV.del {hb h : Hp} (w : Wf hb) (g : aV hb h) {b : Nat} (hle : hb.next ≤ b) : aV hb (h.del b) := by
 have get : ∀ i, (h.del b).get i = if i = b then none else h.get i := by
  intro i; unfold Hp.del Hp.get; simp only [T.get_put]
 refine ⟨⟨g.wf.1, fun i o e => ?_⟩, fun i o e => ?_, g.next, g.ro⟩
 ·rw [get] at e
  split at e
  ·cases e
  ·exact g.wf.2 i o e
 ·have := w.2 i o e
  rw [get, if_neg (by omega)]; exact g.sub i o e
theorem iH {h : Hp} {b n : Nat} {c : List Value} {t : TypeId} {s : Option Nat} (hg : h.get b = some (.cells c t s)) (hn : c.length = n) : eY h ⟨b, 0, none⟩ n = some c := by
 unfold eY
 simp only [hg, List.drop_zero]
 rw [List.take_of_length_le (by omega), hn, Nat.beq_refl]
 rfl
theorem aG6 {hb h : Hp} (w : Wf hb) (g : aV hb h) {v : Value} {ns : List ByteArray} (a : NmA hb h v ns) (hlen : ns.length ≤ 100) (s : ByteArray) :
  ∃ v' h', cB env (h.add (.cells [.string s] 9 none)) #[120, 120] (List.toArray [v, .slice (some ⟨h.next, 0, none⟩) 1 1]) = some (v', h') ∧ aV hb h' ∧ NmA hb h' v' (ns ++ [s]) := by
 have g1 : aV hb (h.add (.cells [.string s] 9 none)) := g.trans (aV.add g.wf _)
 have hx : (h.add (.cells [.string s] 9 none)).get h.next = some (.cells [.string s] 9 none) := by rw [bD, if_pos rfl]
 obtain ⟨ti, hti⟩ : ∃ ti, env.ty.get 9 = some ti := by
  cases e : env.ty.get 9 with
  | none => have := aOW; rw [e] at this; cases this
  | some ti => exact ⟨ti, rfl⟩
 have hb9 : ti.info.bytes = 16 := by have := aOW; rw [hti] at this; simpa using this
 obtain ⟨z, hz⟩ : ∃ z, jR env 9 = some z := by
  cases e : jR env 9 with
  | none => have := aUB; rw [e] at this; cases this
  | some z => exact ⟨z, rfl⟩
 have hzs : Nat.beq z.cells.size 1 = true := by have := aUB; rw [hz] at this; simpa using this
 have hsrc : qH (h.add (.cells [.string s] 9 none)) 1 1 (.slice (some ⟨h.next, 0, none⟩) 1 1) = some [.string s] := by
  show eY _ ⟨h.next, 0, none⟩ (1 * 1) = _
  exact iH hx rfl
 unfold cB
 rw [show (#[120, 120] : Array TypeId)[0]? = some 120 from rfl, show (#[120, 120] : Array TypeId)[1]? = some 120 from rfl, show (List.toArray [v, .slice (some ⟨h.next, 0, none⟩) 1 1])[0]? = some v from rfl, show (List.toArray [v, .slice (some ⟨h.next, 0, none⟩) 1 1])[1]? = some (.slice (some ⟨h.next, 0, none⟩) 1 1) from rfl]
 simp only [Option.bind_some, bI5, a7D, hti, hz, wH, hb9]
 rw [show (Nat.blt 0 1 && Nat.blt 0 16 && Nat.ble 16 65536 && Nat.beq z.cells.size 1) = true from by rw [hzs]; rfl]
 simp only [ok?]
 rcases a with ⟨rfl, rfl⟩ | ⟨b, rfl, hle, hg⟩
 ·refine ⟨.slice (some ⟨h.next + 1, 0, none⟩) 1 1, (h.add (.cells [.string s] 9 none)).add (.cells [.string s] 9 (some 1)), ?_, g1.trans (aV.add g1.wf _), .inr ⟨h.next + 1, rfl, by have := g.next; omega, by rw [bD, if_pos (show h.next + 1 = (h.add (.cells [.string s] 9 none)).next from rfl)]; rfl⟩⟩
  simp only [hsrc, Option.bind_some]
  rfl
 ·have hlt : b < h.next := g.wf.2 b _ hg
  have hg1 : (h.add (.cells [.string s] 9 none)).get b = some (.cells (ns.map Value.string) 9 (some 1)) := by rw [bD, if_neg (by omega)]; exact hg
  have hre : kG (h.add (.cells [.string s] 9 none)) b = some (some 1) := by unfold kG; rw [hg1]
  have hold : eY (h.add (.cells [.string s] 9 none)) ⟨b, 0, none⟩ (ns.length * 1) = some (ns.map Value.string) := iH hg1 (by simp)
  have hro : Nat.ble (h.add (.cells [.string s] 9 none)).ro b = true := by
   rw [Nat.ble_eq, FN, g.ro]
   have := w.1
   omega
  have gd := aV.del w g1 hle
  refine ⟨.slice (some ⟨h.next + 1, 0, none⟩) (ns.length + 1) (ns.length + 1), ((h.add (.cells [.string s] 9 none)).del b).add (.cells (ns.map Value.string ++ [.string s]) 9 (some 1)), ?_, gd.trans (aV.add gd.wf _), .inr ⟨h.next + 1, by simp, by have := g.next; omega, ?_⟩⟩
  ·simp only [hre, Option.bind_some, hg1, hold, hsrc, hro, Nat.beq_refl]
   rw [show Nat.ble ((ns.length + 1) * 16) 1099511627776 = true from by rw [Nat.ble_eq]; omega]
   rfl
  ·rw [bD, if_pos (show h.next + 1 = ((h.add (.cells [.string s] 9 none)).del b).next from rfl)]; simp
theorem aWQ {α : Type} (f : α → ByteArray) (l : List α) (s : ByteArray) : (l.map f).any (fun x => kN x s) = l.any (fun x => kN (f x) s) := by
 rw [List.any_map]; rfl
theorem RD {α β : Type} (f : α → β) (l : List α) (i : Nat) (hi : i < l.length) : (l.take i).map f ++ [f l[i]] = (l.take (i + 1)).map f := by
 rw [List.take_succ_eq_append_getElem hi, List.map_append]; rfl
end Go.Proofs.Ytdpicdnpiihaaaa.K.L
