/- Contracts of told functions: any plan of a room. -/
import Derived.Test.YtdpicdnpiihaaaaLeS27
open Go Go.bK
set_option maxRecDepth 100000
set_option linter.unusedVariables false
namespace Go.Proofs.Ytdpicdnpiihaaaa.K.L
theorem QJ {h : Hp} {b k m : Nat} {L : List Int} {t : TypeId} {s : Option Nat} (hg : h.get b = some (.cells (L.map (Value.int .i64)) t s)) (hm : k + m ≤ L.length) : eO h ⟨b, k, none⟩ m = some (((L.drop k).take m).map (Value.int .i64)) := by
 unfold eO
 simp only [hg]
 rw [← List.map_drop, ← List.map_take, List.length_map, List.length_take, List.length_drop, Nat.min_eq_left (by omega), Nat.beq_refl]
 rfl
theorem aXV {h8 : Hp} (w : Wf h8) {bL k : Nat} {L : List Int} (hk : k < L.length) (hL : L.length ≤ 10) (hg : h8.get bL = some (.cells (L.map (Value.int .i64)) 3 (some 1))) :
  ∃ v16 h16, (∀ K : Value → Hp → aJ, (aQ (bF env (Hp.mk h8.next h8.next T.nil) 22 0 (List.toArray [])) fun v9 h9 => jA v9 h8.next h9 fun w10 n10 => bT (fM env (Hp.mk n10 n10 h8.aF) 22 (.slice (some ⟨bL, 0, none⟩) L.length L.length) none (some (.int .i64 (k : Int))) none) fun v11 => aQ (dW env (Hp.mk n10 n10 (aV w10 h8.aF)) #[22, 22] (List.toArray [v9, v11])) fun v12 h12 => jA v12 n10 h12 fun w13 n13 => wrap64 (Int.add (k : Int) (Int.ofNat 1)) fun i14 => bT (fM env (Hp.mk n13 n13 h8.aF) 22 (.slice (some ⟨bL, 0, none⟩) L.length L.length) (some (.int .i64 i14)) none none) fun v15 => aQ (dW env (Hp.mk n13 h8.ro (aV w13 (aV w10 h8.aF))) #[22, 22] (List.toArray [v12, v15])) fun v16 h16 => K v16 h16) = K v16 h16) ∧
   aR h8 h16 ∧ (∃ b, v16 = .slice b (L.length - 1) (L.length - 1)) ∧ (1 < L.length → oL h8 h16 v16 (L.take k ++ L.drop (k + 1))) := by
 have g1 := aR.add w (.cells [] 3 none)
 have c1 : (h8.add (.cells [] 3 none)).get h8.next = some (.cells [] 3 none) := by rw [bM, if_pos rfl]
 have lt := w.2 _ _ hg
 have hg1 := g1.sub _ _ hg
 have ro1 : (h8.add (.cells [] 3 none)).ro ≤ h8.next := w.1
 obtain ⟨o, e15, eo⟩ := Z0 (h := h8) hg hk
 have pre : ∀ n : Nat, fM env (Hp.mk n n h8.aF) 22 (.slice (some ⟨bL, 0, none⟩) L.length L.length) none (some (.int .i64 (k : Int))) none = some (.slice (some ⟨bL, 0, none⟩) k k) := fun n => aSK (h := Hp.mk n n h8.aF) hg (by omega) (by omega)
 have post : ∀ n : Nat, fM env (Hp.mk n n h8.aF) 22 (.slice (some ⟨bL, 0, none⟩) L.length L.length) (some (.int .i64 ((k + 1 : Nat) : Int))) none none = some (.slice (some ⟨bL, o, none⟩) (L.length - (k + 1)) (L.length - (k + 1))) := fun n => by
  obtain ⟨o2, e2, eo2⟩ := Z0 (h := Hp.mk n n h8.aF) hg hk
  by_cases c : k + 1 < L.length
  ·rw [e2, eo c, eo2 c]
  ·have hz : L.length - (k + 1) = 0 := by omega
   have hn : L.length = k + 1 := by omega
   have e3 : fM env (Hp.mk n n h8.aF) 22 (.slice (some ⟨bL, 0, none⟩) L.length L.length) (some (.int .i64 ((k + 1 : Nat) : Int))) none none = fM env h8 22 (.slice (some ⟨bL, 0, none⟩) L.length L.length) (some (.int .i64 ((k + 1 : Nat) : Int))) none none := rfl
   rw [e3, e15]
 have A11 : dW env (Hp.mk (h8.next + 1) (h8.next + 1) (aV [(h8.next, .cells [] 3 none)] h8.aF)) #[22, 22] (List.toArray [.slice (some ⟨h8.next, 0, none⟩) 0 0, .slice (some ⟨bL, 0, none⟩) k k]) = some (if k = 0 then (.slice (some ⟨h8.next, 0, none⟩) 0 0, Hp.mk (h8.next + 1) (h8.next + 1) (aV [(h8.next, .cells [] 3 none)] h8.aF)) else (.slice (some ⟨h8.next + 1, 0, none⟩) k k, (Hp.mk (h8.next + 1) (h8.next + 1) (aV [(h8.next, .cells [] 3 none)] h8.aF)).add (.cells ((L.take k).map (Value.int .i64)) 3 (some 1)))) := by
  refine aFF (h := Hp.mk (h8.next + 1) (h8.next + 1) (aV [(h8.next, .cells [] 3 none)] h8.aF)) (b0 := h8.next) c1 (by rw [List.length_take]; omega) (by omega) (fun _ => ?_) (fun _ => ⟨_, _, _, hg1⟩)
  have := QJ (h := Hp.mk (h8.next + 1) (h8.next + 1) (aV [(h8.next, .cells [] 3 none)] h8.aF)) (b := bL) (k := 0) (m := k) (L := L) hg1 (by omega)
  rw [List.drop_zero] at this
  exact this
 have L1 : (L.take k ++ L.drop (k + 1)).length = L.length - 1 := by rw [List.length_append, List.length_take, List.length_drop]; omega
 have part : ∀ h : Hp, h.get bL = some (.cells (L.map (Value.int .i64)) 3 (some 1)) → L.length - (k + 1) ≠ 0 → eO h ⟨bL, o, none⟩ (L.length - (k + 1)) = some ((L.drop (k + 1)).map (Value.int .i64)) := fun h hh hz => by
  rw [eo (by omega)]
  have := QJ (k := k + 1) (m := L.length - (k + 1)) hh (by omega)
  rw [List.take_of_length_le (by rw [List.length_drop]; omega)] at this
  exact this
 have ld : (L.drop (k + 1)).length = L.length - (k + 1) := List.length_drop ..
 by_cases k0 : k = 0
 ·subst k0
  rw [if_pos rfl] at A11
  have A16 := aFF (h := h8.add (.cells [] 3 none)) (b0 := h8.next) c1 (b := bL) (o := o) (c := L.length - (0 + 1)) ld (by omega) (fun hz => part _ hg1 hz) (fun _ => ⟨_, _, _, hg1⟩)
  refine ⟨if L.length - (0 + 1) = 0 then .slice (some ⟨h8.next, 0, none⟩) 0 0 else .slice (some ⟨(h8.add (.cells [] 3 none)).next, 0, none⟩) (L.length - (0 + 1)) (L.length - (0 + 1)), if L.length - (0 + 1) = 0 then h8.add (.cells [] 3 none) else (h8.add (.cells [] 3 none)).add (.cells ((L.drop (0 + 1)).map (Value.int .i64)) 3 (some 1)), fun K => ?_, ?_, ?_, ?_⟩
  ·rw [noI, aB, show (Hp.mk h8.next h8.next T.nil).next = h8.next from rfl, QK, pre, aK, A11, aB, lY, show Int.add ((0 : Nat) : Int) (Int.ofNat 1) = ((0 + 1 : Nat) : Int) from rfl, wrap64_in _ (by omega) (by omega), post, aK]
   show (aQ (dW env (h8.add (.cells [] 3 none)) #[22, 22] (List.toArray [.slice (some ⟨h8.next, 0, none⟩) 0 0, .slice (some ⟨bL, o, none⟩) (L.length - (0 + 1)) (L.length - (0 + 1))])) fun v16 h16 => K v16 h16) = _
   rw [A16]
   by_cases c : L.length - (0 + 1) = 0
   ·rw [if_pos c, if_pos c, if_pos c]; rfl
   ·rw [if_neg c, if_neg c, if_neg c]; rfl
  ·by_cases c : L.length - (0 + 1) = 0
   ·rw [if_pos c]; exact g1
   ·rw [if_neg c]; exact g1.trans (aR.add g1.wf _)
  ·by_cases c : L.length - (0 + 1) = 0
   ·rw [if_pos c]; exact ⟨_, by rw [show L.length - 1 = 0 from c]⟩
   ·rw [if_neg c]; exact ⟨_, rfl⟩
  ·intro h1
   rw [if_neg (by omega), if_neg (by omega)]
   refine .inr ⟨(h8.add (.cells [] 3 none)).next, by rw [L1], by rw [nA]; omega, by rw [bM, if_pos rfl]; simp⟩
 ·rw [if_neg k0] at A11
  have g2 := g1.trans (aR.add g1.wf (.cells ((L.take k).map (Value.int .i64)) 3 (some 1)))
  have c2 : ((h8.add (.cells [] 3 none)).add (.cells ((L.take k).map (Value.int .i64)) 3 (some 1))).get (h8.next + 1) = some (.cells ((L.take k).map (Value.int .i64)) 3 (some 1)) := by rw [bM, if_pos (show h8.next + 1 = (h8.add (.cells [] 3 none)).next from rfl)]
  have lk : (L.take k).length = k := by rw [List.length_take]; omega
  have ro2 : ((h8.add (.cells [] 3 none)).add (.cells ((L.take k).map (Value.int .i64)) 3 (some 1))).ro ≤ h8.next + 1 := by rw [yY, yY]; have := w.1; omega
  have A16 := aO6 (h := (h8.add (.cells [] 3 none)).add (.cells ((L.take k).map (Value.int .i64)) 3 (some 1))) (b1 := h8.next + 1) c2 ro2 (by omega) (b := bL) (o := o) (c := L.length - (k + 1)) ld (by omega) (fun hz => part _ (g2.sub _ _ hg) hz)
  rw [lk] at A16
  have gd := aR.del w g2 (b := h8.next + 1) (by omega)
  refine ⟨if L.length - (k + 1) = 0 then .slice (some ⟨h8.next + 1, 0, none⟩) k k else .slice (some ⟨h8.next + 1 + 1, 0, none⟩) (k + (L.length - (k + 1))) (k + (L.length - (k + 1))), if L.length - (k + 1) = 0 then (h8.add (.cells [] 3 none)).add (.cells ((L.take k).map (Value.int .i64)) 3 (some 1)) else (((h8.add (.cells [] 3 none)).add (.cells ((L.take k).map (Value.int .i64)) 3 (some 1))).del (h8.next + 1)).add (.cells ((L.take k ++ L.drop (k + 1)).map (Value.int .i64)) 3 (some 1)), fun K => ?_, ?_, ?_, ?_⟩
  ·rw [noI, aB, show (Hp.mk h8.next h8.next T.nil).next = h8.next from rfl, QK, pre, aK, A11, aB, QK, show Int.add (k : Int) (Int.ofNat 1) = ((k + 1 : Nat) : Int) from rfl, wrap64_in _ (by omega) (by omega), post, aK]
   show (aQ (dW env ((h8.add (.cells [] 3 none)).add (.cells ((L.take k).map (Value.int .i64)) 3 (some 1))) #[22, 22] (List.toArray [.slice (some ⟨h8.next + 1, 0, none⟩) k k, .slice (some ⟨bL, o, none⟩) (L.length - (k + 1)) (L.length - (k + 1))])) fun v16 h16 => K v16 h16) = _
   rw [A16]
   by_cases c : L.length - (k + 1) = 0
   ·rw [if_pos c, if_pos c, if_pos c]; rfl
   ·rw [if_neg c, if_neg c, if_neg c]; rfl
  ·by_cases c : L.length - (k + 1) = 0
   ·rw [if_pos c]; exact g2
   ·rw [if_neg c]; exact gd.trans (aR.add gd.wf _)
  ·by_cases c : L.length - (k + 1) = 0
   ·rw [if_pos c]; exact ⟨_, by rw [show L.length - 1 = k by omega]⟩
   ·rw [if_neg c]; exact ⟨_, by rw [show L.length - 1 = k + (L.length - (k + 1)) by omega]⟩
  ·intro h1
   by_cases c : L.length - (k + 1) = 0
   ·rw [if_pos c, if_pos c]
    have hd : L.drop (k + 1) = [] := List.drop_of_length_le (by omega)
    rw [hd, List.append_nil]
    exact .inr ⟨h8.next + 1, by rw [lk], by omega, c2⟩
   ·rw [if_neg c, if_neg c]
    exact .inr ⟨h8.next + 1 + 1, by rw [L1, show L.length - 1 = k + (L.length - (k + 1)) by omega], by omega, by rw [bM, if_pos (show h8.next + 1 + 1 = (((h8.add (.cells [] 3 none)).add (.cells ((L.take k).map (Value.int .i64)) 3 (some 1))).del (h8.next + 1)).next from rfl)]⟩
end Go.Proofs.Ytdpicdnpiihaaaa.K.L
