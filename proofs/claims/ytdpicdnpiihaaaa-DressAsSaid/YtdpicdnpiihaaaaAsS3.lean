/- Contracts of told functions: the first thing with an error, lists. -/
import Derived.Test.YtdpicdnpiihaaaaAsS2
open Go Go.bG
set_option maxRecDepth 100000
set_option linter.unusedVariables false
namespace Go.Proofs.Ytdpicdnpiihaaaa.K.L
def lK (x : Int × Int) : Value := .tuple (List.toArray [.int .i64 x.1, .int .i64 x.2])
def iM {α : Type} (most : Int) (fE : List α → α → Int) (gs : List α) : Int × Int := if most < (gs.length : Int) then (0, 3) else kS fE gs 0 gs
theorem EB {v fv : Value} {gs : List Int} (hlen : gs.length ≤ 900000) (fE : List Int → Int → Int)
  {h : Hp} (hf : ∀ (v' : Value) (i : Nat) (hi : i < gs.length), bG.Rows h 1 v' ((gs.take i).map dD) → qG aA5 fv [v', .int .i64 gs[i]] h = some (.int .i64 (fE (gs.take i) gs[i]), h)) (w : Wf h) (hr : lF h 1 v (gs.map dD)) : ∀ m i n, i + m = gs.length → m + 2 ≤ n →
  aK X5 n 1 (AL.v v (AL.v fv (AL.v v (AL.i (gs.length : Int) (AL.i (i : Int) AL.n))))) h = some (lK (kS fE gs i (gs.drop i)), h)
 | 0, i, n + 2, him, hn => by
  show OB (aK X5 (n + 1)) v fv v (gs.length : Int) (i : Int) h = _
  unfold OB
  rw [aM, aT, aG, if_neg (by simp; omega), List.drop_of_length_le (by omega)]
  rfl
 | m + 1, i, n + 1, him, hn => by
  have hi : i < gs.length := by omega
  have hg : (gs.map dD)[i]? = some (dD gs[i]) := by rw [List.getElem?_map, List.getElem?_eq_getElem hi]; rfl
  obtain ⟨q, hq, haq, hl⟩ := hr.rows.at hg
  show OB (aK X5 n) v fv v (gs.length : Int) (i : Int) h = _
  unfold OB
  rw [aM, aT, aG, if_pos (by simp; omega), hq, haq.jS (x := .int .i64 gs[i]) rfl, aH]
  obtain ⟨v', hv', hp⟩ := hr.pre aDW YM (i := i) (by simpa using hi)
  rw [← List.map_take] at hp
  rw [hv', aJ, hf v' i hi hp, aB, aH, aQ, bT, aG, List.drop_eq_getElem_cons hi]
  unfold kS
  by_cases e0 : fE (gs.take i) (gs[i]) = 0
  ·rw [if_neg (by rw [e0]; simp), if_pos e0, show Int.add (i : Int) (Int.ofNat 1) = ((i + 1 : Nat) : Int) from rfl, wrap64_in _ (by omega) (by omega)]
   exact EB hlen fE hf w hr m (i + 1) n (by omega) (by omega)
  ·rw [if_pos (by simpa using e0), if_neg e0]
   rfl
theorem YP {v fv : Value} {gs : List Int} (hlen : gs.length ≤ 900000) (fE : List Int → Int → Int)
  {h : Hp} (hf : ∀ (v' : Value) (i : Nat) (hi : i < gs.length), bG.Rows h 1 v' ((gs.take i).map dD) → qG aA5 fv [v', .int .i64 gs[i]] h = some (.int .i64 (fE (gs.take i) gs[i]), h)) (w : Wf h) (hr : lF h 1 v (gs.map dD)) :
  aO7 [v, fv] h = some (lK (kS fE gs 0 gs), h) := by
 show aA6 (aK X5 999999) v fv h = _
 unfold aA6
 rw [hr.rows.len, List.length_map]
 have := EB hlen fE hf w hr gs.length 0 999999 (by omega) (by omega)
 rw [List.drop_zero] at this
 exact this
theorem aFT {v fv : Value} {gs : List Int} {most : Int} (hm : most ≤ 900000) (fE : List Int → Int → Int)
  {h : Hp} (hf : ∀ (v' : Value) (i : Nat) (hi : i < gs.length), (gs.length : Int) ≤ most → bG.Rows h 1 v' ((gs.take i).map dD) → qG aA5 fv [v', .int .i64 gs[i]] (dI h) = some (.int .i64 (fE (gs.take i) gs[i]), dI h)) (w : Wf h) (hr : lF h 1 v (gs.map dD)) :
  ∃ h', F80 [v, .int .i64 most, fv] h = some (lK (iM most fE gs), h') := by
 have start : F80 [v, .int .i64 most, fv] h = aIM (aK T80 999999) v most fv h := rfl
 rw [start]
 unfold aIM iM
 rw [hr.rows.len, List.length_map, aM, aT, aG]
 by_cases c : most < (gs.length : Int)
 ·rw [if_pos (by simpa using c), if_pos c]; exact ⟨_, rfl⟩
 rw [if_neg (by simpa using c), if_neg c]
 have e := YP (by omega) fE (h := dI h) (fun v' i hi r => hf v' i hi (by omega) r) (gJ w) hr
 rw [bR e rfl, aB]
 unfold lK
 rw [bM (v := .int .i64 (kS fE gs 0 gs).1) rfl, aH, bM (v := .int .i64 (kS fE gs 0 gs).2) rfl, aH]
 exact ⟨_, rfl⟩
theorem EC {α : Type} {row : α → List Value} (hz : ∀ g, (row g).length = 3) {v fv : Value} {gs : List α} (ho : ∀ g ∈ gs, (row g).all oneCell = true) (hlen : gs.length ≤ 900000) (Q : Hp → Prop) (hQ : ∀ h h', aS h h' → Q h → Q h') (fE : List α → α → Int)
  (hf : ∀ (h : Hp) (v' : Value) (i : Nat) (hi : i < gs.length), Wf h → Q h → bG.Rows h 3 v' ((gs.take i).map row) → qG OD fv [v', .agg (Array.mk (row gs[i]))] h = some (.int .i64 (fE (gs.take i) gs[i]), h)) : ∀ m i n (h : Hp), Wf h → Q h → lF h 3 v (gs.map row) → i + m = gs.length → m + 2 ≤ n →
  ∃ h', aK X8 n 1 (AL.v v (AL.v fv (AL.v v (AL.i (gs.length : Int) (AL.i (i : Int) AL.n))))) h = some (lK (kS fE gs i (gs.drop i)), h')
 | 0, i, n + 2, h, w, q, hr, him, hn => by
  show ∃ h', OE (aK X8 (n + 1)) v fv v (gs.length : Int) (i : Int) h = _
  unfold OE
  rw [aM, aT, aG, if_neg (by simp; omega), List.drop_of_length_le (by omega)]
  exact ⟨h, rfl⟩
 | m + 1, i, n + 1, h, w, q, hr, him, hn => by
  have hi : i < gs.length := by omega
  have hg : (gs.map row)[i]? = some (row gs[i]) := by rw [List.getElem?_map, List.getElem?_eq_getElem hi]; rfl
  obtain ⟨q', hq, haq, hl⟩ := hr.rows.at hg
  show ∃ h', OE (aK X8 n) v fv v (gs.length : Int) (i : Int) h = _
  unfold OE
  rw [aM, aT, aG, if_pos (by simp; omega), hq, haq.eU hl]
  obtain ⟨h1, p, g1, a1, hk⟩ := kJ (ρ := Value × Hp) (z := 3) w 59 (c := [(Value.string (ByteArray.mk #[])), (Value.slice none 0 0), (Value.int .i64 (Int.ofNat 0))]) (l := row gs[i]) rfl (hz _) (ho _ (List.getElem_mem hi)) (fun _ _ => none)
  rw [hk]
  have r1 := hr.sub g1.sub
  obtain ⟨v', hv', hp⟩ := r1.pre aDV OU (i := i) (by simpa using hi)
  rw [hv', aJ, a1.eU (z := 3) (hz _)]
  rw [← List.map_take] at hp
  rw [hf h1 v' i hi g1.wf (hQ _ _ g1 q) hp, aB, aH, aQ, bT, aG, List.drop_eq_getElem_cons hi]
  unfold kS
  by_cases e0 : fE (gs.take i) (gs[i]) = 0
  ·rw [if_neg (by rw [e0]; simp), if_pos e0, show Int.add (i : Int) (Int.ofNat 1) = ((i + 1 : Nat) : Int) from rfl, wrap64_in _ (by omega) (by omega)]
   exact EC hz ho hlen Q hQ fE hf m (i + 1) n h1 g1.wf (hQ _ _ g1 q) r1 (by omega) (by omega)
  ·rw [if_pos (by simpa using e0), if_neg e0]
   exact ⟨h1, rfl⟩
theorem YQ {α : Type} {row : α → List Value} (hz : ∀ g, (row g).length = 3) {v fv : Value} {gs : List α} (ho : ∀ g ∈ gs, (row g).all oneCell = true) (hlen : gs.length ≤ 900000) (Q : Hp → Prop) (hQ : ∀ h h', aS h h' → Q h → Q h') (fE : List α → α → Int)
  (hf : ∀ (h : Hp) (v' : Value) (i : Nat) (hi : i < gs.length), Wf h → Q h → bG.Rows h 3 v' ((gs.take i).map row) → qG OD fv [v', .agg (Array.mk (row gs[i]))] h = some (.int .i64 (fE (gs.take i) gs[i]), h)) {h : Hp} (w : Wf h) (q : Q h) (hr : lF h 3 v (gs.map row)) :
  ∃ h', aPA [v, fv] h = some (lK (kS fE gs 0 gs), h') := by
 show ∃ h', aBA (aK X8 999999) v fv h = _
 unfold aBA
 rw [hr.rows.len, List.length_map]
 have := EC hz ho hlen Q hQ fE hf gs.length 0 999999 h w q hr (by omega) (by omega)
 rw [List.drop_zero] at this
 exact this
theorem aFU {α : Type} {row : α → List Value} (hz : ∀ g, (row g).length = 3) {v fv : Value} {gs : List α} {most : Int} (ho : ∀ g ∈ gs, (row g).all oneCell = true) (hm : most ≤ 900000) (Q : Hp → Prop) (hQ : ∀ h h', aS h h' → Q h → Q h') (hQs : ∀ h, Q h → Q (dI h)) (fE : List α → α → Int)
  (hf : ∀ (h : Hp) (v' : Value) (i : Nat) (hi : i < gs.length), gs.length ≤ 900000 → Wf h → Q h → bG.Rows h 3 v' ((gs.take i).map row) → qG OD fv [v', .agg (Array.mk (row gs[i]))] h = some (.int .i64 (fE (gs.take i) gs[i]), h)) {h : Hp} (w : Wf h) (q : Q h) (hr : lF h 3 v (gs.map row)) :
  ∃ h', F83 [v, .int .i64 most, fv] h = some (lK (iM most fE gs), h') := by
 have start : F83 [v, .int .i64 most, fv] h = aI0 (aK T83 999999) v most fv h := rfl
 rw [start]
 unfold aI0 iM
 rw [hr.rows.len, List.length_map, aM, aT, aG]
 by_cases c : most < (gs.length : Int)
 ·rw [if_pos (by simpa using c), if_pos c]; exact ⟨_, rfl⟩
 rw [if_neg (by simpa using c), if_neg c]
 obtain ⟨h2, e⟩ := YQ hz ho (by omega) Q hQ fE (fun h v' i hi w q hr => hf h v' i hi (by omega) w q hr) (h := dI h) (gJ w) (hQs _ q) hr
 rw [bR e rfl, aB]
 unfold lK
 rw [bM (v := .int .i64 (kS fE gs 0 gs).1) rfl, aH, bM (v := .int .i64 (kS fE gs 0 gs).2) rfl, aH]
 exact ⟨_, rfl⟩
end Go.Proofs.Ytdpicdnpiihaaaa.K.L
