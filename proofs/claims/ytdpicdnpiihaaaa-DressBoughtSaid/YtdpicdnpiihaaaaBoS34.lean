/- Contracts of told functions: choose, the figures taken before. -/
import Derived.Test.YtdpicdnpiihaaaaBoS32
import Derived.Test.YtdpicdnpiihaaaaBoEngD
open Go Go.bK Go.bK.Y
set_option maxRecDepth 100000
set_option linter.unusedVariables false
namespace Go.Proofs.Ytdpicdnpiihaaaa.K.L
def fK : Nat → List Nat → List (Nat × Nat)
 | _, [] => []
 | i, f :: l => (f, i) :: fK (i + 1) l
theorem rF : ∀ (l : List Nat) (i : Nat), (fK i l).length = l.length
 | [], _ => rfl
 | f :: l, i => by unfold fK; rw [List.length_cons, List.length_cons, rF l]
theorem WI : ∀ (l : List Nat) (i j : Nat) (f : Nat), l[j]? = some f → (fK i l)[j]? = some (f, i + j)
 | [], _, _, _, h => by simp at h
 | g :: l, i, 0, f, h => by simp at h; subst h; rfl
 | g :: l, i, j + 1, f, h => by
  unfold fK
  rw [List.getElem?_cons_succ, WI l (i + 1) j f (by simpa using h)]
  congr 2; omega
theorem PP : ∀ (l : List Nat) (i f : Nat), fK i (l ++ [f]) = fK i l ++ [(f, i + l.length)]
 | [], i, f => rfl
 | g :: l, i, f => by
  rw [List.cons_append]
  unfold fK
  rw [PP l, List.cons_append, List.length_cons, show i + 1 + l.length = i + (l.length + 1) by omega]
def ZG (nf : Nat) : Nat → List Nat → List (List Nat)
 | 0, fs => [fs]
 | m + 1, fs => (List.range nf).flatMap fun f => if fs.contains f then [] else ZG nf m (fs ++ [f])
theorem aVS (R : YF → List Value → Hp → aF) (Y : YF) (n : Nat) (a : Int) (r1 r2 r3 r4 r5 : Value) (z : Z) (h : Hp) : kW (MN R Y) (n + 1) 0 (AL.i a (AL.v r1 (AL.v r2 (AL.v r3 (AL.v r4 (AL.v r5 AL.n)))))) z h = Y1 R Y (kW (MN R Y) n) a r1 r2 r3 r4 r5 z h := rfl
theorem aNH (R : YF → List Value → Hp → aF) (Y : YF) (n : Nat) (a k i : Int) (r1 r3 r5 : Value) (z : Z) (h : Hp) : kW (MN R Y) (n + 1) 1 (AL.i a (AL.v r1 (AL.v r3 (AL.v r5 (AL.i k (AL.i i AL.n)))))) z h = aDY R Y (kW (MN R Y) n) a r1 r3 r5 k i z h := rfl
theorem aNI (R : YF → List Value → Hp → aF) (Y : YF) (n : Nat) (a f k i l j : Int) (r1 r3 r5 u : Value) (z : Z) (h : Hp) : kW (MN R Y) (n + 1) 2 (AL.i a (AL.v r1 (AL.v r3 (AL.v r5 (AL.i f (AL.i k (AL.i i (AL.v u (AL.i l (AL.i j AL.n)))))))))) z h = aDX R Y (kW (MN R Y) n) a r1 r3 r5 f k i u l j z h := rfl
theorem aVT (R : YF → List Value → Hp → aF) (Y : YF) (n : Nat) (a f k i : Int) (r1 r3 r5 : Value) (z : Z) (h : Hp) : kW (MN R Y) (n + 1) 3 (AL.i a (AL.v r1 (AL.v r3 (AL.v r5 (AL.i f (AL.i k (AL.i i AL.n))))))) z h = aK1 R Y (kW (MN R Y) n) a r1 r3 r5 f k i z h := rfl
theorem aVU (R : YF → List Value → Hp → aF) (Y : YF) (n : Nat) (a k i : Int) (r1 r3 r5 : Value) (z : Z) (h : Hp) : kW (MN R Y) (n + 1) 4 (AL.i a (AL.v r1 (AL.v r3 (AL.v r5 (AL.i k (AL.i i AL.n)))))) z h = aK0 R Y (kW (MN R Y) n) a r1 r3 r5 k i z h := rfl
theorem aVV (R : YF → List Value → Hp → aF) (Y : YF) (n : Nat) (z : Z) (h : Hp) : kW (MN R Y) (n + 1) 5 AL.n z h = aKZ R Y (kW (MN R Y) n) z h := rfl
def wO (h : Hp) (bp np : Nat) (fs : List Nat) : Prop := ∃ q : List (Nat × Nat), q.length = np ∧ q.take fs.length = fK 0 fs ∧ h.get bp = some (.cells (q.flatMap iB) 76 none)
theorem wO.sub {h h' : Hp} (hs : Sub h h') {bp np : Nat} {fs : List Nat} (a : wO h bp np fs) : wO h' bp np fs := by
 obtain ⟨q, h1, h2, h3⟩ := a
 exact ⟨q, h1, h2, hs _ _ h3⟩
theorem wO.at {h : Hp} {bp np : Nat} {fs : List Nat} (a : wO h bp np fs) (hf : fs.length ≤ np) {j : Nat} (hj : j < fs.length) : At h (.pointer (some ⟨bp, 0 + j * 2, none⟩)) (iB (fs[j], j)) := by
 obtain ⟨q, h1, h2, h3⟩ := a
 have hx : q[j]? = some (fs[j], j) := by
  have := WI fs 0 j fs[j] (List.getElem?_eq_getElem hj)
  rw [← h2, List.getElem?_take, if_pos hj, Nat.zero_add] at this
  exact this
 refine ⟨bp, 0 + j * 2, _, 76, none, rfl, h3, by rw [xP]; show 0 + j * 2 + 2 ≤ _; omega, fun k x hk => ?_⟩
 rw [Nat.zero_add]
 exact flat_get q j _ hx k x hk
theorem ZH (R : YF → List Value → Hp → aF) (Y : YF) {bp np : Nat} {fs : List Nat} (hf : fs.length ≤ np) (hnp : np ≤ 5) (r1 r3 r5 : Value) (f k i : Nat) : ∀ (m j n : Nat) (h : Hp) (z : Z), Wf h → wO h bp np fs → j + m = fs.length → m + 1 ≤ n →
  ∃ h' n' z', aV h h' ∧ n ≤ n' + m + 1 ∧ z'.ds = z.ds ∧
   kW (MN R Y) n 2 (AL.i (fs.length : Int) (AL.v r1 (AL.v r3 (AL.v r5 (AL.i (f : Int) (AL.i (k : Int) (AL.i (i : Int) (AL.v (.slice (some ⟨bp, 0, none⟩) fs.length np) (AL.i (fs.length : Int) (AL.i (j : Int) AL.n)))))))))) z h =
   (if (fs.drop j).contains f then kW (MN R Y) n' 4 (AL.i (fs.length : Int) (AL.v r1 (AL.v r3 (AL.v r5 (AL.i (k : Int) (AL.i (i : Int) AL.n)))))) z' h'
    else kW (MN R Y) n' 3 (AL.i (fs.length : Int) (AL.v r1 (AL.v r3 (AL.v r5 (AL.i (f : Int) (AL.i (k : Int) (AL.i (i : Int) AL.n))))))) z' h')
 | 0, j, n', h, z, w, pa, hj, hn => by
  obtain ⟨n, rfl⟩ : ∃ n, n' = n + 1 := ⟨n' - 1, by omega⟩
  rw [aNI]
  unfold aDX
  rw [aM, aU, aG, if_neg (by simp; omega), List.drop_of_length_le (by omega)]
  refine ⟨h, n, z.lose, aV.refl w, by omega, rfl, ?_⟩
  rw [if_neg (by simp)]
 | m + 1, j, n', h, z, w, pa, hj, hn => by
  obtain ⟨n, rfl⟩ : ∃ n, n' = n + 1 := ⟨n' - 1, by omega⟩
  have hlt : j < fs.length := by omega
  rw [aNI]
  unfold aDX
  have ap := pa.at hf hlt
  obtain ⟨h1, p1, g1, a1, e1⟩ := lT (z := 2) w 76 (c := [.int .i64 (Int.ofNat 0), .int .i64 (Int.ofNat 0)]) (l := iB (fs[j], j)) rfl rfl rfl (fun _ _ => (none : aF))
  rw [aM, aU, aG, if_pos (by simp; omega), HY 2 bp 0 fs.length np j hlt, ap.eU (z := 2) rfl, e1, a1.vV 0 (x := .int .i64 (fs[j] : Int)) rfl, aH, aM, bI, aG, List.drop_eq_getElem_cons hlt]
  by_cases c : fs[j] = f
  ·rw [if_pos (by simp [c])]
   refine ⟨h1, n, z.lose, g1, by omega, rfl, ?_⟩
   rw [if_pos (by simp [c])]
  ·rw [if_neg (by simp; omega), show Int.add (j : Int) (Int.ofNat 1) = ((j + 1 : Nat) : Int) from rfl, wrap64_in _ (by omega) (by omega)]
   obtain ⟨h', n2, z', g2, hn2, hz, e2⟩ := ZH R Y hf hnp r1 r3 r5 f k i m (j + 1) n h1 z.lose g1.wf (pa.sub g1.sub) (by omega) (by omega)
   refine ⟨h', n2, z', g1.trans g2, by omega, hz, ?_⟩
   rw [e2]
   have : (fs[j] :: fs.drop (j + 1)).contains f = (fs.drop (j + 1)).contains f := by
    rw [List.contains_cons]
    have : (f == fs[j]) = false := by simp; omega
    rw [this, Bool.false_or]
   rw [this]
end Go.Proofs.Ytdpicdnpiihaaaa.K.L
open Go Go.bK Go.bK.Y
set_option maxRecDepth 100000
set_option linter.unusedVariables false
namespace Go.Proofs.Ytdpicdnpiihaaaa.K.L
structure Chs (Y : YF) (np nf bp n lim : Nat) (r1 r2 r3 r4 r5 : Value) (I : List (List Nat) → Hp → Prop) (Stop : Hp → Prop) : Prop where
 wf : ∀ d h, I d h → Wf h
 ro : ∀ d h, I d h → h.ro ≤ bp
 dF : ∀ d h, I d h → ∃ vl, (∀ (ρ : Type) (k : Value → Option ρ), aI h r1 k = k vl) ∧ (∀ (ρ : Type) (k : Int → Option ρ), bW vl k = k (np : Int)) ∧ ∀ i : Nat, i < np → ∃ p, (∀ (ρ : Type) (k : Value → Option ρ), dS 1 vl (i : Int) k = k p) ∧ At h p (cZ (i : Int))
 yv : ∀ d h, I d h → ∀ (ρ : Type) (k : Value → Option ρ), aI h r2 k = k (.func (.yield n) #[] #[])
 pv : ∀ d h, I d h → ∀ (ρ : Type) (k : Value → Option ρ), aI h r3 k = k (.slice (some ⟨bp, 0, none⟩) np np)
 dZ : ∀ d h, I d h → ∃ vf, (∀ (ρ : Type) (k : Value → Option ρ), aR 0 r4 (fun v => aR 2 v fun v => aI h v k) = k vf) ∧ ∀ (ρ : Type) (k : Int → Option ρ), bW vf k = k (nf : Int)
 me : ∀ d h, I d h → ∀ (ρ : Type) (k : Value → Option ρ), aI h r5 k = k (.func (.func 95) #[] #[r1, r2, r3, r4, r5])
 grew : ∀ d h H, I d h → aV h H → I d H
 put : ∀ (d : List (List Nat)) (h : Hp) (q : List (Nat × Nat)), I d h → q.length = np → 0 < np → (∃ c, h.get bp = some (.cells c 76 none)) → I d (h.upd bp (.cells (q.flatMap iB) 76 none))
 yld : ∀ d h b fs, I d h → fs.length = np → (∀ x ∈ fs, x < nf) → wO h bp np fs → QW h b (fK 0 fs) → lim ≤ b → ∃ r h', Y n [LD b (fK 0 fs)] h = some (.bool r, h') ∧ (r = true → I (d ++ [fs]) h' ∧ wO h' bp np fs) ∧ (r = false → Stop h')
 low : ∀ d h, I d h → lim ≤ h.next
theorem call95 (R : YF → List Value → Hp → aF) (Y : YF) (a r1 r2 r3 r4 r5 : Value) (h : Hp) : EG BQ (fyC 95 R aB6) Y (.func (.func 95) #[] #[r1, r2, r3, r4, r5]) [a] h = R Y [a, r1, r2, r3, r4, r5] h := rfl
theorem aGK (G : (YF → List Value → Hp → aF) → YF → List Value → Hp → aF) (N : Nat) : H7 G (N + 1) = G (H7 G N) := rfl
theorem aEO (N : Nat) (Y : YF) (a : Int) (r1 r2 r3 r4 r5 : Value) (h : Hp) : H7 JV (N + 1) Y [.int .i64 a, r1, r2, r3, r4, r5] h = Y1 (H7 JV N) Y (kW (MN (H7 JV N) Y) 999999) a r1 r2 r3 r4 r5 ⟨some (jE [.int .i64 a, r1, r2, r3, r4, r5] 0 bK.T.nil), []⟩ h := by
 rw [aGK]
 generalize H7 JV N = R
 unfold JV
 show kW (MN R Y) 1000000 0 (AL.i a (AL.v r1 (AL.v r2 (AL.v r3 (AL.v r4 (AL.v r5 AL.n)))))) _ h = _
 exact aVS R Y 999999 a r1 r2 r3 r4 r5 _ h
theorem bGW {h : Hp} {b n k : Nat} {c : List Value} (hg : h.get b = some (.cells c 76 none)) (hk : k ≤ n) (hn : 0 < n) : jA env h 79 (.slice (some ⟨b, 0, none⟩) n n) none (some (.int .i64 (k : Int))) none = some (.slice (some ⟨b, 0, none⟩) k n) := by
 have hb : lW none (some (.int .i64 (k : Int))) n n = some (0, k) := by
  unfold lW
  rw [show ((k : Nat) : Int) = Int.ofNat k from rfl]
  simp only [wY, Option.bind_some]
  rw [show Nat.ble k n = true from by rw [Nat.ble_eq]; omega]
  rfl
 have hr : oC h b = some none := by unfold oC; rw [hg]
 unfold jA
 simp only [aM8, Option.bind_some, aCK]
 rw [hr]
 simp only [Option.bind_some, hb, ok?]
 rw [show Nat.beq n 0 = false from by cases n with | zero => omega | succ n => rfl]
 rfl
theorem ZI : ∀ (q : List (Nat × Nat)) (i : Nat) (c : Nat × Nat), i < q.length → (q.flatMap iB).take (i * 2) ++ iB c ++ (q.flatMap iB).drop (i * 2 + 2) = (q.set i c).flatMap iB
 | [], i, c, h => by simp at h
 | d :: q, 0, c, h => by simp [iB]
 | d :: q, i + 1, c, h => by
  have ih := ZI q i c (by simpa using h)
  rw [List.set_cons_succ, List.flatMap_cons, List.flatMap_cons, ← ih, show (i + 1) * 2 = (i * 2) + 1 + 1 by omega]
  simp [iB]
theorem wO.back {h : Hp} {bp np : Nat} {fs : List Nat} {f : Nat} (a : wO h bp np (fs ++ [f])) : wO h bp np fs := by
 obtain ⟨q, h1, h2, h3⟩ := a
 refine ⟨q, h1, ?_, h3⟩
 rw [List.length_append, PP] at h2
 have := congrArg (List.take fs.length) h2
 rw [List.take_take, Nat.min_eq_left (by simp), List.take_append_of_le_length (by rw [rF]; exact Nat.le_refl _), List.take_of_length_le (l := fK 0 fs) (by rw [rF]; exact Nat.le_refl _)] at this
 exact this
theorem wO.more {h : Hp} {bp np : Nat} {fs : List Nat} (a : wO h bp np fs) (hf : fs.length < np) (f : Nat) : ∃ q : List (Nat × Nat), q.length = np ∧ h.get bp = some (.cells (q.flatMap iB) 76 none) ∧ wO (h.upd bp (.cells ((q.set fs.length (f, fs.length)).flatMap iB) 76 none)) bp np (fs ++ [f]) := by
 obtain ⟨q, h1, h2, h3⟩ := a
 refine ⟨q, h1, h3, q.set fs.length (f, fs.length), by rw [List.length_set]; exact h1, ?_, by rw [bU, if_pos rfl]⟩
 rw [List.length_append, PP, Nat.zero_add, ← h2]
 apply List.ext_getElem?
 intro i
 rw [List.getElem?_take, List.getElem?_set]
 by_cases c : i < fs.length
 ·rw [if_pos (by simp; omega), if_neg (by omega), List.getElem?_append_left (by rw [List.length_take]; omega), List.getElem?_take, if_pos c]
 ·by_cases c2 : i = fs.length
  ·subst c2
   rw [if_pos (by simp), if_pos rfl, if_pos (by omega), List.getElem?_append_right (by rw [List.length_take]; omega), List.length_take, show fs.length - min fs.length q.length = 0 by omega]
   rfl
  ·rw [if_neg (by simp; omega), List.getElem?_eq_none (by rw [List.length_append, List.length_take]; simp; omega)]
end Go.Proofs.Ytdpicdnpiihaaaa.K.L
