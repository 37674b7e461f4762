/- Figures in the opposite order, and costs doubled: what Best and Buy answer. -/
import Derived.Test.YtdpicdnpiihaaaaOrV49
open Go Go.bI
set_option maxRecDepth 100000
set_option linter.unusedVariables false
namespace Go.Proofs.Ytdpicdnpiihaaaa.K.L
def tw (s : Rm) : Rm := { s with costs := s.costs.map fun x => 2 * x }
theorem aAH : ∀ (cs : List Int) (i : Nat), (cs.map fun x => 2 * x).getD i 0 = 2 * cs.getD i 0
 | [], i => by simp
 | c :: cs, 0 => by simp
 | c :: cs, i + 1 => by
  rw [List.map_cons, List.getD_cons_succ, List.getD_cons_succ]
  exact aAH cs i
theorem QT (cs : List Int) : ∀ ks : List Int, kM (cs.map fun x => 2 * x) ks = 2 * kM cs ks
 | [] => rfl
 | k :: ks => by
  show (cs.map fun x => 2 * x).getD k.toNat 0 + kM (cs.map fun x => 2 * x) ks = 2 * (cs.getD k.toNat 0 + kM cs ks)
  rw [aAH, QT cs ks]; omega
theorem DZ (s : Rm) : ∀ l : List (Nat × Nat), iL (tw s) l = 2 * iL s l
 | [] => rfl
 | c :: l => by
  show kM (s.costs.map fun x => 2 * x) (IY s c) + iL (tw s) l = 2 * (kM s.costs (IY s c) + iL s l)
  rw [QT, DZ s l]; omega
theorem KC (s : Rm) : ∀ (l : List (Nat × Nat)) (W : List Int), gK (tw s) W l = gK s W l
 | [], _ => rfl
 | c :: l, W => KC s l (stepW s W c)
theorem aAI (s : Rm) (l : List (Nat × Nat)) : kD (tw s) l = kD s l := by
 unfold kD
 rw [KC]; rfl
theorem aO0 (s : Rm) (o : Option (List Nat)) (f : List Nat) : sO (tw s) o f = sO s o f := by
 unfold sO
 cases o with
 | none => rfl
 | some b =>
  have : (MG (tw s) (gQ 0 f) (gQ 0 b) < 0) ↔ (MG s (gQ 0 f) (gQ 0 b) < 0) := by
   rw [M5, M5]
   unfold kLt
   rw [aAI, aAI, DZ, DZ]
   omega
  by_cases c : MG s (gQ 0 f) (gQ 0 b) < 0
  ·simp only [if_pos c, if_pos (this.2 c)]
  ·simp only [if_neg c, if_neg fun q => c (this.1 q)]
theorem aHL (s : Rm) : leastOf (tw s) (kP s) = leastOf s (kP s) := by
 unfold leastOf
 rw [show sO (tw s) = sO s from funext fun o => funext fun f => aO0 s o f]
theorem aO1 {s : Rm} (e0 : (fC s).2.2 = 0) (e1 : (fC (tw s)).2.2 = 0) : jN (tw s) = ((jN s).1, 2 * (jN s).2.1, (jN s).2.2) := by
 have hB : jW (tw s) = jW s := by
  unfold jW
  rw [show kP (tw s) = kP s from rfl, aHL]
  cases leastOf s (kP s) with
  | none => rfl
  | some b =>
   show (if CE (gK (tw s) (W0 s) (gQ 0 b)) then some b else none) = _
   rw [KC]
 unfold jN
 rw [if_neg (by simpa using e1), if_neg (by simpa using e0), hB]
 cases jW s with
 | none => rfl
 | some b =>
  show (wE b, iL (tw s) (gQ 0 b), (0 : Int)) = (wE b, 2 * iL s (gQ 0 b), 0)
  rw [DZ]
def bk (s : Rm) : Rm := { s with bP := s.bP.reverse }
def xX (n : Nat) (g : List Nat) : List Nat := g.map fun f => n - 1 - f
theorem aXD (s : Rm) : (bk s).bP.length = s.bP.length := List.length_reverse
theorem aO2 (s : Rm) : kP (bk s) = kP s := by unfold kP; rw [aXD]; rfl
theorem flip_flip {n : Nat} : ∀ {g : List Nat}, (∀ x ∈ g, x < n) → xX n (xX n g) = g
 | [], _ => rfl
 | x :: g, h => by
  show (n - 1 - (n - 1 - x)) :: xX n (xX n g) = x :: g
  have := h x (.head _)
  rw [flip_flip fun y hy => h y (.tail _ hy), show n - 1 - (n - 1 - x) = x by omega]
theorem QU {s : Rm} {g : List Nat} (hg : g ∈ kP s) : xX s.bP.length g ∈ kP s := by
 obtain ⟨t, e, h1, h2, h3⟩ := (zG _ _ _ _).1 hg
 obtain rfl : g = t := e
 refine (zG _ _ _ _).2 ⟨xX s.bP.length g, rfl, by unfold xX; rw [List.length_map]; exact h1, fun x hx => ?_, ?_⟩
 ·obtain ⟨y, hy, rfl⟩ := List.mem_map.1 hx
  have := (h2 y hy).1
  exact ⟨by omega, by simp⟩
 ·refine List.pairwise_map.2 (h3.imp_of_mem fun {a b} ha hb hab e => hab ?_)
  have := (h2 a ha).1; have := (h2 b hb).1
  omega
theorem aDJ {s : Rm} {f : Nat} (h : f < s.bP.length) : (bk s).bP[s.bP.length - 1 - f]? = s.bP[f]? := by
 show s.bP.reverse[s.bP.length - 1 - f]? = _
 rw [List.getElem?_reverse (by omega), show s.bP.length - 1 - (s.bP.length - 1 - f) = f by omega]
theorem aO3 {s : Rm} {f i : Nat} (h : f < s.bP.length) : IY (bk s) (s.bP.length - 1 - f, i) = IY s (f, i) := by
 unfold IY
 rw [aDJ h]; rfl
theorem aR9 {s : Rm} {f i : Nat} (h : f < s.bP.length) (W : List Int) : stepW (bk s) W (s.bP.length - 1 - f, i) = stepW s W (f, i) := by
 have e1 : hch (bk s) (s.bP.length - 1 - f, i) = hch s (f, i) := by unfold hch; rw [aO3 h]
 have e2 : qY (bk s) (s.bP.length - 1 - f, i) = qY s (f, i) := by unfold qY; rw [aDJ h]
 have e3 : tF (bk s) (s.bP.length - 1 - f, i) = tF s (f, i) := by unfold tF; rw [aDJ h]
 have e4 : BX (bk s) (s.bP.length - 1 - f, i) = BX s (f, i) := rfl
 have e5 : J7 (bk s) (s.bP.length - 1 - f, i) = J7 s (f, i) := rfl
 unfold stepW
 rw [e1, e2, e3, e4, e5]
theorem M6 {s : Rm} : ∀ (g : List Nat) (i : Nat), (∀ x ∈ g, x < s.bP.length) → iL (bk s) (gQ i (xX s.bP.length g)) = iL s (gQ i g) ∧ ∀ W, gK (bk s) W (gQ i (xX s.bP.length g)) = gK s W (gQ i g)
 | [], _, _ => ⟨rfl, fun _ => rfl⟩
 | f :: g, i, h => by
  have hf := h f (.head _)
  obtain ⟨a, b⟩ := M6 g (i + 1) fun y hy => h y (.tail _ hy)
  refine ⟨?_, fun W => ?_⟩
  ·show kM s.costs (IY (bk s) (s.bP.length - 1 - f, i)) + iL (bk s) (gQ (i + 1) (xX s.bP.length g)) = kM s.costs (IY s (f, i)) + iL s (gQ (i + 1) g)
   rw [aO3 hf, a]
  ·show gK (bk s) (stepW (bk s) W (s.bP.length - 1 - f, i)) (gQ (i + 1) (xX s.bP.length g)) = gK s (stepW s W (f, i)) (gQ (i + 1) g)
   rw [aR9 hf, b]
theorem aFM {s : Rm} {g : List Nat} (h : ∀ x ∈ g, x < s.bP.length) : kD (bk s) (gQ 0 (xX s.bP.length g)) = kD s (gQ 0 g) := by
 unfold kD
 rw [(M6 g 0 h).2]; rfl
theorem aAJ {s : Rm} (F : nI s) : (leastOf s (kP s) = none ∧ leastOf (bk s) (kP (bk s)) = none) ∨ ∃ b b', leastOf s (kP s) = some b ∧ leastOf (bk s) (kP (bk s)) = some b' ∧ kD (bk s) (gQ 0 b') = kD s (gQ 0 b) ∧ iL (bk s) (gQ 0 b') = iL s (gQ 0 b) := by
 have so : (kP s).Pairwise RL := QF _ _ _
 rcases QH s so with ⟨e, n⟩ | ⟨b, e, hb, hall⟩
 ·refine .inl ⟨n, ?_⟩
  rw [aO2, e]; rfl
 ·rcases QH (bk s) so with ⟨e2, _⟩ | ⟨b', e', hb', a7G⟩
  ·rw [e2] at hb; cases hb
  ·refine .inr ⟨b, b', e, by rw [aO2]; exact e', ?_⟩
   have xb := (oZ F hb).2.2
   have xb' := (oZ F hb').2.2
   have k1 := (a7G _ (QU hb)).1
   have k2 := (hall _ (QU hb')).1
   have f1 := aFM xb
   have f2 := (M6 b 0 xb).1
   have xf : ∀ x ∈ xX s.bP.length b', x < s.bP.length := (oZ F (QU hb')).2.2
   have f3 := aFM xf
   have f4 := (M6 _ 0 xf).1
   rw [flip_flip xb'] at f3 f4
   unfold kLt at k1 k2
   omega
theorem aSA {s : Rm} (e0 : (fC s).2.2 = 0) (e1 : (fC (bk s)).2.2 = 0) : (jN (bk s)).2 = (jN s).2 := by
 have F := rF e0
 have F' := rF e1
 unfold jN
 rw [if_neg (by simpa using e1), if_neg (by simpa using e0)]
 rcases aAJ F with ⟨n1, n2⟩ | ⟨b, b', h1, h2, h3, h4⟩
 ·have o1 : jW s = none := by unfold jW; rw [n1]
  have o2 : jW (bk s) = none := by unfold jW; rw [n2]
  rw [o1, o2]
 ·have m1 : b ∈ kP s := mD s (P := fun g => g ∈ kP s) (fun g hg => hg) _ h1
  have m2 : b' ∈ kP (bk s) := mD (bk s) (P := fun g => g ∈ kP (bk s)) (fun g hg => hg) _ h2
  have a1 := DX F (oZ F m1).1
  have a2 := DX F' (oZ F' m2).1
  by_cases c : kD s (gQ 0 b) = 0
  ·have o1 : jW s = some b := by unfold jW; rw [h1]; exact if_pos (a1.2 c)
   have o2 : jW (bk s) = some b' := by unfold jW; rw [h2]; exact if_pos (a2.2 (h3.trans c))
   rw [o1, o2]
   show (iL (bk s) (gQ 0 b'), (0 : Int)) = (iL s (gQ 0 b), 0)
   rw [h4]
  ·have o1 : jW s = none := by unfold jW; rw [h1]; exact if_neg fun q => c (a1.1 q)
   have o2 : jW (bk s) = none := by unfold jW; rw [h2]; exact if_neg fun q => c (h3.symm.trans (a2.1 q))
   rw [o1, o2]
theorem aXE {s : Rm} (e0 : (fC s).2.2 = 0) (e1 : (fC (bk s)).2.2 = 0) : (sD (bk s)).2 = (sD s).2 ∧ (sD (bk s)).1.length = (sD s).1.length ∧ lK (sD (bk s)).1 = lK (sD s).1 ∧ (∀ x ∈ (sD s).1, 0 ≤ x ∧ x ≤ 2000) ∧ (∀ x ∈ (sD (bk s)).1, 0 ≤ x ∧ x ≤ 2000) ∧ (sD s).1.length ≤ 4 := by
 have F := rF e0
 have F' := rF e1
 rcases aAJ F with ⟨n1, n2⟩ | ⟨b, b', h1, h2, h3, h4⟩
 ·have o1 : sD s = ([], 0, 9) := by unfold sD; rw [if_neg (by simpa using e0), n1]
  have o2 : sD (bk s) = ([], 0, 9) := by unfold sD; rw [if_neg (by simpa using e1), n2]
  rw [o1, o2]
  exact ⟨rfl, rfl, rfl, (fun x hx => by cases hx), (fun x hx => by cases hx), by decide⟩
 ·have m1 : b ∈ kP s := mD s (P := fun g => g ∈ kP s) (fun g hg => hg) _ h1
  have m2 : b' ∈ kP (bk s) := mD (bk s) (P := fun g => g ∈ kP (bk s)) (fun g hg => hg) _ h2
  obtain ⟨p1, p2, p3, _⟩ := aFK F (oZ F m1).1
  obtain ⟨q1, q2, q3, _⟩ := aFK F' (oZ F' m2).1
  rw [(aAG e0 h1).1, (aAG e1 h2).1]
  have no := F.no
  refine ⟨?_, ?_, ?_, p2, q2, by show (FV s (gQ 0 b)).length ≤ 4; omega⟩
  ·show (iL (bk s) (gQ 0 b'), (0 : Int)) = (iL s (gQ 0 b), 0)
   rw [h4]
  ·show (FV (bk s) (gQ 0 b')).length = (FV s (gQ 0 b)).length
   rw [p1, q1]; rfl
  ·show lK (FV (bk s) (gQ 0 b')) = lK (FV s (gQ 0 b))
   rw [p3, q3, h3]
end Go.Proofs.Ytdpicdnpiihaaaa.K.L
open Go Go.bI
set_option maxRecDepth 100000
set_option linter.unusedVariables false
namespace Go.Proofs.Ytdpicdnpiihaaaa.K.L
theorem FW {nc no : Nat} {least : Int} {prev : List Lk} {g : Lk} : iE nc no least prev g = 0 ↔ (prev.any (fun x => kN x.nm g.nm) = false ∧ iE nc no least [] g = 0) := by
 unfold iE
 cases x0 : wD g.nm.data.toList with
 | false => simp
 | true =>
  cases x1 : prev.any (fun x => kN x.nm g.nm) with
  | true => simp
  | false => simp
theorem aHM (a b : ByteArray) : kN a b = kN b a := by
 unfold kN
 rw [Bool.eq_iff_iff, beq_iff_eq, beq_iff_eq]
 exact eq_comm
theorem aAK {nc no : Nat} {least most : Int} {gs : List Lk} (hl : (gs.length : Int) ≤ most) : (iP most (iE nc no least) gs).2 = 0 ↔ (gs.Pairwise (fun a b => kN a.nm b.nm = false) ∧ ∀ g ∈ gs, iE nc no least [] g = 0) := by
 constructor
 ·intro h
  have all := DY h
  refine ⟨List.pairwise_iff_getElem.2 fun i j hi hj hij => ?_, fun g hg => ?_⟩
  ·have := (FW.1 (all j hj)).1
   rw [List.any_eq_false] at this
   have := this gs[i] (by
    rw [List.mem_take_iff_getElem]
    exact ⟨i, by omega, rfl⟩)
   simpa using this
  ·obtain ⟨j, hj, rfl⟩ := List.getElem_of_mem hg
   exact (FW.1 (all j hj)).2
 ·rintro ⟨hp, hs⟩
  unfold iP
  rw [if_neg (by omega)]
  have : kT (iE nc no least) gs 0 gs = (0, 0) := by
   have key : ∀ (l : List Lk) (i : Nat), gs.drop i = l → kT (iE nc no least) gs i l = (0, 0) := by
    intro l
    induction l with
    | nil => intro i _; rfl
    | cons g l ih =>
     intro i hd
     have hi : i < gs.length := by
      by_cases c : i < gs.length
      ·exact c
      ·rw [List.drop_of_length_le (by omega)] at hd; cases hd
     rw [List.drop_eq_getElem_cons hi] at hd
     injection hd with e1 e2
     unfold kT
     rw [if_pos, ih (i + 1) e2]
     rw [← e1]
     refine FW.2 ⟨?_, hs _ (List.getElem_mem hi)⟩
     rw [List.any_eq_false]
     intro x hx
     rw [List.mem_take_iff_getElem] at hx
     obtain ⟨j, hj, rfl⟩ := hx
     have := List.pairwise_iff_getElem.1 hp j i (by omega) hi (by omega)
     simpa using this
   exact key gs 0 (List.drop_zero ..)
  rw [this]
theorem a7H {s : Rm} (h : (fC s).2.2 = 0) : (fC (bk s)).2.2 = 0 := by
 unfold fC at h ⊢
 by_cases c1 : (l8 4 100 s.costs).2 = 0
 case neg => rw [if_pos c1] at h; exact absurd h c1
 by_cases c2 : (l8 4 50 s.bW).2 = 0
 case neg => rw [if_neg (by simpa using c1), if_pos c2] at h; exact absurd h c2
 by_cases c3 : (iP 6 (iE s.costs.length s.bW.length 0) s.bP).2 = 0
 case neg => rw [if_neg (by simpa using c1), if_neg (by simpa using c2), if_pos c3] at h; exact absurd h c3
 by_cases c4 : (iP 5 (iE s.costs.length s.bW.length (-1)) s.dR).2 = 0
 case neg => rw [if_neg (by simpa using c1), if_neg (by simpa using c2), if_neg (by simpa using c3), if_pos c4] at h; exact absurd h c4
 have l3 := xW c3
 have c5 : (iP 6 (iE s.costs.length s.bW.length 0) s.bP.reverse).2 = 0 := by
  obtain ⟨p, q⟩ := (aAK l3).1 c3
  refine (aAK (by rw [List.length_reverse]; exact l3)).2 ⟨?_, fun g hg => q g (List.mem_reverse.1 hg)⟩
  rw [List.pairwise_reverse]
  exact p.imp fun hab => by rw [aHM]; exact hab
 rw [show (bk s).costs = s.costs from rfl, show (bk s).bW = s.bW from rfl, show (bk s).bP = s.bP.reverse from rfl, show (bk s).dR = s.dR from rfl]
 rw [if_neg (by simpa using c1), if_neg (by simpa using c2), if_neg (by simpa using c5), if_neg (by simpa using c4)]
end Go.Proofs.Ytdpicdnpiihaaaa.K.L
