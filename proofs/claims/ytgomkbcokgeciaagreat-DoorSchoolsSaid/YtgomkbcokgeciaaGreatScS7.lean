/- Contracts of told functions: Together; the reference's rooms and schools. -/
import Derived.Test.YtgomkbcokgeciaaGreatScS6
open Go Go.bR
set_option maxRecDepth 100000
set_option linter.unusedVariables false
namespace Go.Proofs.YtgomkbcokgeciaaGreat.K.L
def aN4 (s : Bk) (d : Int) : List Sc := match s.days[d.toNat]? with | some g => g.ss | none => []
def aYL (s : Bk) (d : Int) : Int × Int × Int := if wG s d ≠ 0 then (0, 0, wG s d) else (kC s.bH (aN4 s d), EC s.bH (lZ (aN4 s d)), 0)
theorem TG {h : Hp} (w : Wf h) {s : Bk} {r : List Value} (a : YC h s r) (d : Int) : ∃ h', F17 [.agg (Array.mk r), .int .i64 d] h = some (aG2 (aYL s d), h') := by
 have start : F17 [.agg (Array.mk r), .int .i64 d] h = aJQ (aQ T17 999999) (.agg (Array.mk r)) d h := rfl
 rw [start]
 unfold aJQ
 have hr3 := a.len
 rw [iC, dS]
 have g0 : dW h (h.add (.cells r 25 none)) := dW.add w _
 have a0 : At (h.add (.cells r 25 none)) (.pointer (some ⟨h.next, 0, none⟩)) r := At.new
 generalize h.add (.cells r 25 none) = h0 at g0 a0 ⊢
 obtain ⟨h2', lk, e2, gg, hl8, h1c, hlk⟩ := YW (h := eT h0) (jG g0.wf) (a.sub g0.sub) d
 obtain ⟨h2, e3, g2⟩ := K5 g0.wf e2 gg
 rw [a0.gG (z := 3) hr3, e3, aC, dQ (v := .agg (Array.mk lk)) rfl, dQ (v := .int .i64 (wG s d)) rfl, aJ, dS]
 have g3 : dW h (h2.add (.cells rV 102 none)) := (g0.trans g2).trans (dW.add g2.wf _)
 have c3 : (h2.add (.cells rV 102 none)).get h2.next = some (.cells rV 102 none) := by rw [gT, if_pos rfl]
 rw [show [(Value.int .i64 (Int.ofNat 0)), (Value.slice none 0 0), (Value.slice none 0 0), (Value.slice none 0 0), (Value.int .i64 (Int.ofNat 0)), (Value.int .i64 (Int.ofNat 0)), (Value.slice none 0 0), (Value.int .i64 (Int.ofNat 0))] = rV from rfl]
 obtain ⟨h4, g4, a4, k4, _⟩ := o7 (z := 8) (l := lk) w g3 (b := h2.next) (by have := (g0.trans g2).next; omega) c3 rfl hl8 h1c
 rw [k4, aO, dX, aI]
 unfold aYL
 by_cases e0 : wG s d = 0
 case neg =>
  rw [if_pos (by simpa using e0), if_pos e0]
  exact ⟨_, rfl⟩
 obtain ⟨k, hk, rfl, rfl⟩ := hlk e0
 have c0 : (gH s).2.2 = 0 := by
  unfold wG at e0
  by_cases c : (gH s).2.2 = 0
  ·exact c
  ·rw [if_pos c] at e0; exact e0
 have P := IZ c0
 obtain ⟨l4, D⟩ := YV c0
 obtain ⟨l3, hk1, hs⟩ := aQ5 (D k hk)
 have hss : aN4 s (k : Int) = (s.days[k]).ss := by
  unfold aN4
  rw [show ((k : Int)).toNat = k from by simp, List.getElem?_eq_getElem hk]
 obtain ⟨vr, vd, rfl, sr, sd, ds⟩ := a.sub g4.sub
 have DA := ds _ (List.getElem_mem hk)
 have hb : ∀ g ∈ (s.days[k]).ss, 0 ≤ g.kids ∧ g.kids ≤ 60 := fun g hg => by have := hk1 g hg; omega
 have hs0 := (YQ hb).1
 rw [if_neg (by simpa using e0), if_neg (by simpa using e0), a4.gG (z := 8) rfl, hss]
 have e67 : F67 [.agg (Array.mk (iL s.bH vr vd ++ (s.days[k]).row))] (Hp.mk (Hp.next h4) (Hp.next h4) (Hp.aK h4)) = some (.int .i64 (kC s.bH (s.days[k]).ss)) :=
  YU (h := eT h4) (by omega) vr vd [.int .i64 (s.days[k]).seen, .int .i64 (s.days[k]).miss, (s.days[k]).cv, .int .i64 (s.days[k]).taken] DA.1.rows hb (by omega)
 have e68 : F68 [(s.days[k]).sv] (Hp.mk (Hp.next h4) (Hp.next h4) (Hp.aK h4)) = some (.int .i64 (lZ (s.days[k]).ss)) := MO (h := eT h4) DA.1.rows hb (by omega)
 obtain ⟨q0, hq0, aq0⟩ := a4.part 0 3 (by show 0 + 3 ≤ 8; decide)
 replace aq0 : At h4 q0 (iL s.bH vr vd) := aq0
 obtain ⟨q3, hq3, aq3⟩ := a4.part 3 5 (by show 3 + 5 ≤ 8; decide)
 replace aq3 : At h4 q3 (s.days[k]).row := aq3
 rw [e67, aM, aC, show (dL (nK (Value.int .i64 (kC s.bH (s.days[k]).ss))) (some (Value.int .i64 (kC s.bH (s.days[k]).ss), h4)) none : Option (Value × Hp)) = some (Value.int .i64 (kC s.bH (s.days[k]).ss), h4) from rfl, aC, aJ,
  hq0, aq0.gG (z := 3) rfl, hq3, aq3.sF 0 (x := (s.days[k]).sv) rfl, e68, aM, aC, show (dL (nK (Value.int .i64 (lZ (s.days[k]).ss))) (some (Value.int .i64 (lZ (s.days[k]).ss), h4)) none : Option (Value × Hp)) = some (Value.int .i64 (lZ (s.days[k]).ss), h4) from rfl, aC, aJ,
  show iL s.bH vr vd = .int .i64 s.bH :: vr :: vd :: [] from rfl, BU _ (by omega) (by omega), aM, aC, aJ]
 exact ⟨_, rfl⟩
theorem a6V (prev : List Rm) (g : Rm) : VG prev g = if RB g.nm (prev.map Rm.nm) = 0 then (if !(qI 0 20 g.more) then 7 else if !(qI 0 60 g.full) then 7 else 0) else RB g.nm (prev.map Rm.nm) := by
 unfold VG RB
 rw [aQ6]
 cases rU g.nm.data.toList with
 | false => simp
 | true =>
 cases prev.any (fun x => jS x.nm g.nm) with
 | true => simp
 | false => simp
theorem aQ7 (prev : List Sc) (g : Sc) : K3 prev g = if RB g.nm (prev.map Sc.nm) = 0 then (if !(qI 1 60 g.kids) then 7 else 0) else RB g.nm (prev.map Sc.nm) := by
 unfold K3 RB
 rw [aQ6]
 cases rU g.nm.data.toList with
 | false => simp
 | true =>
 cases prev.any (fun x => jS x.nm g.nm) with
 | true => simp
 | false => simp
theorem aQ8 (n : Nat) (v x : Value) (i : Int) (h : Hp) : aQ T60 (n + 1) 1 (AL.v v (AL.v x (AL.i i AL.n))) h = aDE (aQ T60 n) v x i h := rfl
theorem a6W (n : Nat) (v x : Value) (i e : Int) (h : Hp) : aQ T60 (n + 1) 2 (AL.v v (AL.v x (AL.i i (AL.i e AL.n)))) h = aJS (aQ T60 n) v x i e h := rfl
theorem a6X (n : Nat) (v x : Value) (i : Int) (h : Hp) : aQ T60 (n + 1) 3 (AL.v v (AL.v x (AL.i i AL.n))) h = aJT (aQ T60 n) v x i h := rfl
theorem I1 {hb : Hp} (w : Wf hb) {v : Value} {rs : List Rm} (sg : uP hb 3 v (rs.map Rm.row)) (hlen : rs.length ≤ 3) : ∀ (m i n : Nat) (h : Hp) (x : Value), dW hb h → NmA hb h x ((rs.take i).map Rm.nm) → i + m = rs.length → 3 * m + 2 ≤ n →
  ∃ h', aQ T60 n 1 (AL.v v (AL.v x (AL.i (i : Int) AL.n))) h = some (lH (gJ VG rs i (rs.drop i)), h')
 | 0, i, n', h, x, g, nm, him, hn => by
  obtain ⟨n, rfl⟩ : ∃ n, n' = n + 2 := ⟨n' - 2, by omega⟩
  rw [aQ8]
  unfold aDE
  rw [(sg.sub g.sub).rows.len, List.length_map, aS, aZ, aI, if_neg (by simp; omega), List.drop_of_length_le (by omega)]
  exact ⟨h, rfl⟩
 | m + 1, i, n', h, x, g, nm, him, hn => by
  obtain ⟨n, rfl⟩ : ∃ n, n' = n + 3 := ⟨n' - 3, by omega⟩
  have hi : i < rs.length := by omega
  have hg : (rs.map Rm.row)[i]? = some (rs[i]).row := by rw [List.getElem?_map, List.getElem?_eq_getElem hi]; rfl
  have s1 := (sg.sub g.sub).rows
  obtain ⟨q, hq, haq, hl⟩ := s1.at hg
  obtain ⟨x', h', hap, g', nm'⟩ := VN w g nm (by rw [List.length_map, List.length_take]; omega) (rs[i]).nm
  rw [E9] at nm'
  obtain ⟨hf, IH⟩ := I1 w sg hlen m (i + 1) n h' x' g' nm' (by omega) (by omega)
  obtain ⟨q2, hq2, aQ9, hl2⟩ := (sg.sub g'.sub).rows.at hg
  have two : ∀ e : Int, ∃ h2, aQ T60 (n + 2) 2 (AL.v v (AL.v x' (AL.i (i : Int) (AL.i e AL.n)))) h' = some (lH (if e = 0 then gJ VG rs (i + 1) (rs.drop (i + 1)) else ((i : Int), e)), h2) := by
   intro e
   rw [a6W]
   unfold aJS
   rw [aO, dX, aI]
   by_cases he : e = 0
   ·rw [if_neg (by rw [he]; simp), if_pos he, a6X]
    unfold aJT
    rw [show Int.add (i : Int) (Int.ofNat 1) = ((i + 1 : Nat) : Int) from rfl, wrap64_in _ (by omega) (by omega)]
    exact ⟨hf, IH⟩
   ·rw [if_pos (by simpa using he), if_neg he]; exact ⟨_, rfl⟩
  rw [aQ8]
  unfold aDE
  rw [s1.len, List.length_map, aS, aZ, aI, if_pos (by simp; omega), hq, haq.sF 0 (x := .string (rs[i]).nm) rfl, VO (rs[i]).nm nm.rows (by rw [List.length_map, List.length_take]; omega), aM, aC, aJ, hq, haq.sF 0 (x := .string (rs[i]).nm) rfl, bE3, aC, hap, aC,
   aS, dX, aI, List.drop_eq_getElem_cons hi]
  have fin : ∀ e : Int, e = VG (rs.take i) rs[i] → ∃ h2, aQ T60 (n + 2) 2 (AL.v v (AL.v x' (AL.i (i : Int) (AL.i e AL.n)))) h' = some (lH (gJ VG rs i (rs[i] :: rs.drop (i + 1))), h2) := by
   intro e he
   obtain ⟨h2, k2⟩ := two e
   refine ⟨h2, ?_⟩
   rw [k2]
   show _ = some (lH (if VG (rs.take i) rs[i] = 0 then _ else _), h2)
   rw [← he]
  have E := a6V (rs.take i) rs[i]
  by_cases c : RB (rs[i]).nm ((rs.take i).map Rm.nm) = 0
  case neg =>
   rw [if_neg (by simpa using c)]
   rw [if_neg c] at E
   exact fin _ E.symm
  rw [if_pos c] at E
  rw [if_pos (by rw [c]; simp), hq2, aQ9.sF 1 (x := .int .i64 (rs[i]).more) rfl, aJ, show (Int.ofNat 0) = (0 : Int) from rfl, show (Int.ofNat 20) = (20 : Int) from rfl, zA, aM, aC, aV, aO, aI]
  cases x1 : qI 0 20 (rs[i]).more with
  | false =>
   rw [x1] at E
   rw [if_pos (by rfl)]
   exact fin 7 E.symm
  | true =>
  rw [x1, if_neg (by simp)] at E
  rw [if_neg (by simp), hq2, aQ9.sF 2 (x := .int .i64 (rs[i]).full) rfl, aJ, show (Int.ofNat 60) = (60 : Int) from rfl, zA, aM, aC, aV, aO, aI]
  cases x2 : qI 0 60 (rs[i]).full with
  | false =>
   rw [x2] at E
   rw [if_pos (by rfl)]
   exact fin 7 E.symm
  | true =>
   rw [x2, if_neg (by simp)] at E
   rw [if_neg (by simp)]
   exact fin _ (by rw [c, E])
theorem aG7 {h : Hp} (w : Wf h) {v : Value} {rs : List Rm} (sg : uP h 3 v (rs.map Rm.row)) : ∃ h', F60 [v] h = some (lH (gY 3 VG rs), h') := by
 have start : F60 [v] h = aJU (aQ T60 999999) v h := rfl
 rw [start]
 unfold aJU gY
 rw [sg.rows.len, List.length_map, aS, aZ, aI, show (Int.ofNat 3) = (3 : Int) from rfl]
 by_cases c : (3 : Int) < (rs.length : Int)
 ·rw [if_pos (by simpa using c), if_pos c]; exact ⟨_, rfl⟩
 rw [if_neg (by simpa using c), if_neg c]
 have := I1 w sg (by omega) rs.length 0 999999 h (.slice none 0 0) (dW.refl w) (.inl ⟨rfl, by simp⟩) (by omega) (by omega)
 rw [List.drop_zero] at this
 exact this
def aN5 (ss : List Sc) (i : Nat) (acc : Int) : Int := if (gJ K3 ss i (ss.drop i)).2 ≠ 0 then (gJ K3 ss i (ss.drop i)).2 else if 60 < acc + lZ (ss.drop i) then 9 else 0
theorem aJV (n : Nat) (v x : Value) (a i : Int) (h : Hp) : aQ GI (n + 1) 1 (AL.v v (AL.v x (AL.i a (AL.i i AL.n)))) h = RD (aQ GI n) v x a i h := rfl
theorem aYM (n : Nat) (v x : Value) (a i e : Int) (h : Hp) : aQ GI (n + 1) 2 (AL.v v (AL.v x (AL.i a (AL.i i (AL.i e AL.n))))) h = YX (aQ GI n) v x a i e h := rfl
theorem aYN (n : Nat) (v x : Value) (a i : Int) (h : Hp) : aQ GI (n + 1) 3 (AL.v v (AL.v x (AL.i a (AL.i i AL.n)))) h = YY (aQ GI n) v x a i h := rfl
theorem aYO (n : Nat) (a : Int) (h : Hp) : aQ GI (n + 1) 4 (AL.i a AL.n) h = YZ (aQ GI n) a h := rfl
theorem zO {hb : Hp} (w : Wf hb) {v : Value} {ss : List Sc} (sg : uP hb 2 v (ss.map Sc.row)) (hlen : ss.length ≤ 3) : ∀ (m i n : Nat) (h : Hp) (x : Value) (acc : Int), dW hb h → NmA hb h x ((ss.take i).map Sc.nm) → i + m = ss.length → 3 * m + 2 ≤ n → 0 ≤ acc → acc ≤ 60 * i →
  ∃ h', aQ GI n 1 (AL.v v (AL.v x (AL.i acc (AL.i (i : Int) AL.n)))) h = some (.int .i64 (aN5 ss i acc), h')
 | 0, i, n', h, x, acc, g, nm, him, hn, h0, h1 => by
  obtain ⟨n, rfl⟩ : ∃ n, n' = n + 2 := ⟨n' - 2, by omega⟩
  rw [aJV]
  unfold RD aN5
  rw [(sg.sub g.sub).rows.len, List.length_map, aS, aZ, aI, if_neg (by simp; omega), List.drop_of_length_le (by omega), aYO]
  unfold YZ
  rw [aS, aZ, aI, show (Int.ofNat 60) = (60 : Int) from rfl, show (gJ K3 ss i []).2 = 0 from rfl, if_neg (by simp : ¬ ((0 : Int) ≠ 0)), show lZ [] = 0 from rfl, Int.add_zero]
  by_cases c : 60 < acc
  ·rw [if_pos (by simpa using c), if_pos c]; exact ⟨_, rfl⟩
  ·rw [if_neg (by simpa using c), if_neg c]; exact ⟨_, rfl⟩
 | m + 1, i, n', h, x, acc, g, nm, him, hn, h0, h1 => by
  obtain ⟨n, rfl⟩ : ∃ n, n' = n + 3 := ⟨n' - 3, by omega⟩
  have hi : i < ss.length := by omega
  have hg : (ss.map Sc.row)[i]? = some (ss[i]).row := by rw [List.getElem?_map, List.getElem?_eq_getElem hi]; rfl
  have s1 := (sg.sub g.sub).rows
  obtain ⟨q, hq, haq, hl⟩ := s1.at hg
  obtain ⟨x', h', hap, g', nm'⟩ := VN w g nm (by rw [List.length_map, List.length_take]; omega) (ss[i]).nm
  rw [E9] at nm'
  obtain ⟨q2, hq2, aQ9, hl2⟩ := (sg.sub g'.sub).rows.at hg
  have two : ∀ e : Int, e = K3 (ss.take i) ss[i] → ∃ h2, aQ GI (n + 2) 2 (AL.v v (AL.v x' (AL.i acc (AL.i (i : Int) (AL.i e AL.n))))) h' = some (.int .i64 (aN5 ss i acc), h2) := by
   intro e he
   rw [aYM]
   unfold YX aN5
   rw [aO, dX, aI, List.drop_eq_getElem_cons hi]
   by_cases c : e = 0
   ·have hk : 1 ≤ (ss[i]).kids ∧ (ss[i]).kids ≤ 60 := by
     have E := he.symm.trans c
     rw [aQ7] at E
     by_cases z : RB (ss[i]).nm ((ss.take i).map Sc.nm) = 0
     ·rw [if_pos z] at E
      cases y : qI 1 60 (ss[i]).kids with
      | false => rw [y] at E; simp at E
      | true => exact sJ.1 y
     ·rw [if_neg z] at E; exact absurd E z
    obtain ⟨hf, IH⟩ := zO w sg hlen m (i + 1) n h' x' (acc + (ss[i]).kids) g' nm' (by omega) (by omega) (by omega) (by omega)
    have ef : gJ K3 ss i (ss[i] :: ss.drop (i + 1)) = gJ K3 ss (i + 1) (ss.drop (i + 1)) := by
     show (if K3 (ss.take i) ss[i] = 0 then _ else _) = _
     rw [← he, if_pos c]
    rw [if_neg (by rw [c]; simp), hq2, aQ9.sF 1 (x := .int .i64 (ss[i]).kids) rfl, aJ, show Int.add acc (ss[i]).kids = acc + (ss[i]).kids from rfl, wrap64_in _ (by omega) (by omega), aYN]
    unfold YY
    rw [show Int.add (i : Int) (Int.ofNat 1) = ((i + 1 : Nat) : Int) from rfl, wrap64_in _ (by omega) (by omega), IH, ef]
    unfold aN5
    rw [show lZ (ss[i] :: ss.drop (i + 1)) = (ss[i]).kids + lZ (ss.drop (i + 1)) from rfl, Int.add_assoc]
    exact ⟨_, rfl⟩
   ·have ef : gJ K3 ss i (ss[i] :: ss.drop (i + 1)) = ((i : Int), e) := by
     show (if K3 (ss.take i) ss[i] = 0 then _ else ((i : Int), K3 (ss.take i) ss[i])) = _
     rw [← he, if_neg c]
    rw [if_pos (by simpa using c), ef, if_pos c]
    exact ⟨_, rfl⟩
  rw [aJV]
  unfold RD
  rw [s1.len, List.length_map, aS, aZ, aI, if_pos (by simp; omega), hq, haq.sF 0 (x := .string (ss[i]).nm) rfl, VO (ss[i]).nm nm.rows (by rw [List.length_map, List.length_take]; omega), aM, aC, aJ, hq, haq.sF 0 (x := .string (ss[i]).nm) rfl, bE3, aC, hap, aC,
   aS, dX, aI]
  have E := aQ7 (ss.take i) ss[i]
  by_cases c : RB (ss[i]).nm ((ss.take i).map Sc.nm) = 0
  case neg =>
   rw [if_neg (by simpa using c)]
   rw [if_neg c] at E
   exact two _ E.symm
  rw [if_pos c] at E
  rw [if_pos (by rw [c]; simp), hq2, aQ9.sF 1 (x := .int .i64 (ss[i]).kids) rfl, aJ, show (Int.ofNat 1) = (1 : Int) from rfl, show (Int.ofNat 60) = (60 : Int) from rfl, zA, aM, aC, aV, aO, aI]
  cases x1 : qI 1 60 (ss[i]).kids with
  | false =>
   rw [x1] at E
   rw [if_pos (by rfl)]
   exact two 7 E.symm
  | true =>
   rw [x1, if_neg (by simp)] at E
   rw [if_neg (by simp)]
   exact two _ (by rw [c, E])
def rO (ss : List Sc) : Int := if (gY 3 K3 ss).2 ≠ 0 then (gY 3 K3 ss).2 else if 60 < lZ ss then 9 else 0
theorem TH {h : Hp} (w : Wf h) {v : Value} {ss : List Sc} (sg : uP h 2 v (ss.map Sc.row)) : ∃ h', aRA [v] h = some (.int .i64 (rO ss), h') := by
 have start : aRA [v] h = Y0 (aQ GI 999999) v h := rfl
 rw [start]
 unfold Y0 rO gY
 rw [sg.rows.len, List.length_map, aS, aZ, aI, show (Int.ofNat 3) = (3 : Int) from rfl]
 by_cases c : (3 : Int) < (ss.length : Int)
 ·rw [if_pos (by simpa using c), if_pos c]; exact ⟨_, rfl⟩
 rw [if_neg (by simpa using c), if_neg c]
 have := zO w sg (by omega) ss.length 0 999999 h (.slice none 0 0) 0 (dW.refl w) (.inl ⟨rfl, by simp⟩) (by omega) (by omega) (by omega) (by omega)
 unfold aN5 at this
 rw [List.drop_zero, Int.zero_add] at this
 exact this
end Go.Proofs.YtgomkbcokgeciaaGreat.K.L
