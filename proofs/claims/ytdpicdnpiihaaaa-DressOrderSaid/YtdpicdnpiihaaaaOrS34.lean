/- Contracts of told functions: choose, the figures taken before. -/
import Derived.Test.YtdpicdnpiihaaaaOrS32
import Derived.Test.YtdpicdnpiihaaaaOrEngD
open Go Go.bI Go.bI.Y
set_option maxRecDepth 100000
set_option linter.unusedVariables false
namespace Go.Proofs.Ytdpicdnpiihaaaa.K.L
def gQ : Nat → List Nat → List (Nat × Nat)
 | _, [] => []
 | i, f :: l => (f, i) :: gQ (i + 1) l
theorem qM : ∀ (l : List Nat) (i : Nat), (gQ i l).length = l.length
 | [], _ => rfl
 | f :: l, i => by unfold gQ; rw [List.length_cons, List.length_cons, qM l]
theorem WX : ∀ (l : List Nat) (i j : Nat) (f : Nat), l[j]? = some f → (gQ i l)[j]? = some (f, i + j)
 | [], _, _, _, h => by simp at h
 | g :: l, i, 0, f, h => by simp at h; subst h; rfl
 | g :: l, i, j + 1, f, h => by
  unfold gQ
  rw [List.getElem?_cons_succ, WX l (i + 1) j f (by simpa using h)]
  congr 2; omega
theorem QB : ∀ (l : List Nat) (i f : Nat), gQ i (l ++ [f]) = gQ i l ++ [(f, i + l.length)]
 | [], i, f => rfl
 | g :: l, i, f => by
  rw [List.cons_append]
  unfold gQ
  rw [QB l, List.cons_append, List.length_cons, show i + 1 + l.length = i + (l.length + 1) by omega]
def onL (nf : Nat) : Nat → List Nat → List (List Nat)
 | 0, fs => [fs]
 | m + 1, fs => (List.range nf).flatMap fun f => if fs.contains f then [] else onL nf m (fs ++ [f])
theorem aW0 (R : YF → List Value → Hp → aF) (Y : YF) (n : Nat) (a : Int) (r1 r2 r3 r4 r5 : Value) (z : Z) (h : Hp) : lH (MX R Y) (n + 1) 0 (AL.i a (AL.v r1 (AL.v r2 (AL.v r3 (AL.v r4 (AL.v r5 AL.n)))))) z h = ZI R Y (lH (MX R Y) n) a r1 r2 r3 r4 r5 z h := rfl
theorem aOL (R : YF → List Value → Hp → aF) (Y : YF) (n : Nat) (a k i : Int) (r1 r3 r5 : Value) (z : Z) (h : Hp) : lH (MX R Y) (n + 1) 1 (AL.i a (AL.v r1 (AL.v r3 (AL.v r5 (AL.i k (AL.i i AL.n)))))) z h = aEN R Y (lH (MX R Y) n) a r1 r3 r5 k i z h := rfl
theorem aOM (R : YF → List Value → Hp → aF) (Y : YF) (n : Nat) (a f k i l j : Int) (r1 r3 r5 u : Value) (z : Z) (h : Hp) : lH (MX R Y) (n + 1) 2 (AL.i a (AL.v r1 (AL.v r3 (AL.v r5 (AL.i f (AL.i k (AL.i i (AL.v u (AL.i l (AL.i j AL.n)))))))))) z h = aEM R Y (lH (MX R Y) n) a r1 r3 r5 f k i u l j z h := rfl
theorem aW1 (R : YF → List Value → Hp → aF) (Y : YF) (n : Nat) (a f k i : Int) (r1 r3 r5 : Value) (z : Z) (h : Hp) : lH (MX R Y) (n + 1) 3 (AL.i a (AL.v r1 (AL.v r3 (AL.v r5 (AL.i f (AL.i k (AL.i i AL.n))))))) z h = aL4 R Y (lH (MX R Y) n) a r1 r3 r5 f k i z h := rfl
theorem aW2 (R : YF → List Value → Hp → aF) (Y : YF) (n : Nat) (a k i : Int) (r1 r3 r5 : Value) (z : Z) (h : Hp) : lH (MX R Y) (n + 1) 4 (AL.i a (AL.v r1 (AL.v r3 (AL.v r5 (AL.i k (AL.i i AL.n)))))) z h = aL3 R Y (lH (MX R Y) n) a r1 r3 r5 k i z h := rfl
theorem aW3 (R : YF → List Value → Hp → aF) (Y : YF) (n : Nat) (z : Z) (h : Hp) : lH (MX R Y) (n + 1) 5 AL.n z h = aL2 R Y (lH (MX R Y) n) z h := rfl
def wT (h : Hp) (bp np : Nat) (fs : List Nat) : Prop := ∃ q : List (Nat × Nat), q.length = np ∧ q.take fs.length = gQ 0 fs ∧ h.get bp = some (.cells (q.flatMap iG) 76 none)
theorem wT.sub {h h' : Hp} (hs : Sub h h') {bp np : Nat} {fs : List Nat} (a : wT h bp np fs) : wT h' bp np fs := by
 obtain ⟨q, h1, h2, h3⟩ := a
 exact ⟨q, h1, h2, hs _ _ h3⟩
theorem wT.at {h : Hp} {bp np : Nat} {fs : List Nat} (a : wT h bp np fs) (hf : fs.length ≤ np) {j : Nat} (hj : j < fs.length) : At h (.pointer (some ⟨bp, 0 + j * 2, none⟩)) (iG (fs[j], j)) := by
 obtain ⟨q, h1, h2, h3⟩ := a
 have hx : q[j]? = some (fs[j], j) := by
  have := WX fs 0 j fs[j] (List.getElem?_eq_getElem hj)
  rw [← h2, List.getElem?_take, if_pos hj, Nat.zero_add] at this
  exact this
 refine ⟨bp, 0 + j * 2, _, 76, none, rfl, h3, by rw [xS]; show 0 + j * 2 + 2 ≤ _; omega, fun k x hk => ?_⟩
 rw [Nat.zero_add]
 exact flat_get q j _ hx k x hk
theorem ZZ (R : YF → List Value → Hp → aF) (Y : YF) {bp np : Nat} {fs : List Nat} (hf : fs.length ≤ np) (hnp : np ≤ 5) (r1 r3 r5 : Value) (f k i : Nat) : ∀ (m j n : Nat) (h : Hp) (z : Z), Wf h → wT h bp np fs → j + m = fs.length → m + 1 ≤ n →
  ∃ h' n' z', aV h h' ∧ n ≤ n' + m + 1 ∧ z'.ds = z.ds ∧
   lH (MX R Y) n 2 (AL.i (fs.length : Int) (AL.v r1 (AL.v r3 (AL.v r5 (AL.i (f : Int) (AL.i (k : Int) (AL.i (i : Int) (AL.v (.slice (some ⟨bp, 0, none⟩) fs.length np) (AL.i (fs.length : Int) (AL.i (j : Int) AL.n)))))))))) z h =
   (if (fs.drop j).contains f then lH (MX R Y) n' 4 (AL.i (fs.length : Int) (AL.v r1 (AL.v r3 (AL.v r5 (AL.i (k : Int) (AL.i (i : Int) AL.n)))))) z' h'
    else lH (MX R Y) n' 3 (AL.i (fs.length : Int) (AL.v r1 (AL.v r3 (AL.v r5 (AL.i (f : Int) (AL.i (k : Int) (AL.i (i : Int) AL.n))))))) z' h')
 | 0, j, n', h, z, w, pa, hj, hn => by
  obtain ⟨n, rfl⟩ : ∃ n, n' = n + 1 := ⟨n' - 1, by omega⟩
  rw [aOM]
  unfold aEM
  rw [aQ, aW, aH, if_neg (by simp; omega), List.drop_of_length_le (by omega)]
  refine ⟨h, n, z.lose, aV.refl w, by omega, rfl, ?_⟩
  rw [if_neg (by simp)]
 | m + 1, j, n', h, z, w, pa, hj, hn => by
  obtain ⟨n, rfl⟩ : ∃ n, n' = n + 1 := ⟨n' - 1, by omega⟩
  have hlt : j < fs.length := by omega
  rw [aOM]
  unfold aEM
  have ap := pa.at hf hlt
  obtain ⟨h1, p1, g1, a1, e1⟩ := l9 (z := 2) w 76 (c := [.int .i64 (Int.ofNat 0), .int .i64 (Int.ofNat 0)]) (l := iG (fs[j], j)) rfl rfl rfl (fun _ _ => (none : aF))
  rw [aQ, aW, aH, if_pos (by simp; omega), IC 2 bp 0 fs.length np j hlt, ap.eX (z := 2) rfl, e1, a1.wP 0 (x := .int .i64 (fs[j] : Int)) rfl, aI, aQ, cK, aH, List.drop_eq_getElem_cons hlt]
  by_cases c : fs[j] = f
  ·rw [if_pos (by simp [c])]
   refine ⟨h1, n, z.lose, g1, by omega, rfl, ?_⟩
   rw [if_pos (by simp [c])]
  ·rw [if_neg (by simp; omega), show Int.add (j : Int) (Int.ofNat 1) = ((j + 1 : Nat) : Int) from rfl, wrap64_in _ (by omega) (by omega)]
   obtain ⟨h', n2, z', g2, hn2, hz, e2⟩ := ZZ R Y hf hnp r1 r3 r5 f k i m (j + 1) n h1 z.lose g1.wf (pa.sub g1.sub) (by omega) (by omega)
   refine ⟨h', n2, z', g1.trans g2, by omega, hz, ?_⟩
   rw [e2]
   have : (fs[j] :: fs.drop (j + 1)).contains f = (fs.drop (j + 1)).contains f := by
    rw [List.contains_cons]
    have : (f == fs[j]) = false := by simp; omega
    rw [this, Bool.false_or]
   rw [this]
end Go.Proofs.Ytdpicdnpiihaaaa.K.L
open Go Go.bI Go.bI.Y
set_option maxRecDepth 100000
set_option linter.unusedVariables false
namespace Go.Proofs.Ytdpicdnpiihaaaa.K.L
structure Chs (Y : YF) (np nf bp n lim : Nat) (r1 r2 r3 r4 r5 : Value) (I : List (List Nat) → Hp → Prop) (Stop : Hp → Prop) : Prop where
 wf : ∀ d h, I d h → Wf h
 ro : ∀ d h, I d h → h.ro ≤ bp
 dR : ∀ d h, I d h → ∃ vl, (∀ (ρ : Type) (k : Value → Option ρ), aJ h r1 k = k vl) ∧ (∀ (ρ : Type) (k : Int → Option ρ), bS vl k = k (np : Int)) ∧ ∀ i : Nat, i < np → ∃ p, (∀ (ρ : Type) (k : Value → Option ρ), dN 1 vl (i : Int) k = k p) ∧ At h p (cZ (i : Int))
 yv : ∀ d h, I d h → ∀ (ρ : Type) (k : Value → Option ρ), aJ h r2 k = k (.func (.yield n) #[] #[])
 pv : ∀ d h, I d h → ∀ (ρ : Type) (k : Value → Option ρ), aJ h r3 k = k (.slice (some ⟨bp, 0, none⟩) np np)
 bP : ∀ d h, I d h → ∃ vf, (∀ (ρ : Type) (k : Value → Option ρ), aO 0 r4 (fun v => aO 2 v fun v => aJ h v k) = k vf) ∧ ∀ (ρ : Type) (k : Int → Option ρ), bS vf k = k (nf : Int)
 me : ∀ d h, I d h → ∀ (ρ : Type) (k : Value → Option ρ), aJ h r5 k = k (.func (.func 95) #[] #[r1, r2, r3, r4, r5])
 grew : ∀ d h H, I d h → aV h H → I d H
 put : ∀ (d : List (List Nat)) (h : Hp) (q : List (Nat × Nat)), I d h → q.length = np → 0 < np → (∃ c, h.get bp = some (.cells c 76 none)) → I d (h.upd bp (.cells (q.flatMap iG) 76 none))
 yld : ∀ d h b fs, I d h → fs.length = np → (∀ x ∈ fs, x < nf) → wT h bp np fs → RJ h b (gQ 0 fs) → lim ≤ b → ∃ r h', Y n [LQ b (gQ 0 fs)] h = some (.bool r, h') ∧ (r = true → I (d ++ [fs]) h' ∧ wT h' bp np fs) ∧ (r = false → Stop h')
 low : ∀ d h, I d h → lim ≤ h.next
theorem call95 (R : YF → List Value → Hp → aF) (Y : YF) (a r1 r2 r3 r4 r5 : Value) (h : Hp) : EN BU (fyC 95 R aCT) Y (.func (.func 95) #[] #[r1, r2, r3, r4, r5]) [a] h = R Y [a, r1, r2, r3, r4, r5] h := rfl
theorem aHE (G : (YF → List Value → Hp → aF) → YF → List Value → Hp → aF) (N : Nat) : IG G (N + 1) = G (IG G N) := rfl
theorem aFH (N : Nat) (Y : YF) (a : Int) (r1 r2 r3 r4 r5 : Value) (h : Hp) : IG J2 (N + 1) Y [.int .i64 a, r1, r2, r3, r4, r5] h = ZI (IG J2 N) Y (lH (MX (IG J2 N) Y) 999999) a r1 r2 r3 r4 r5 ⟨some (jK [.int .i64 a, r1, r2, r3, r4, r5] 0 bI.T.nil), []⟩ h := by
 rw [aHE]
 generalize IG J2 N = R
 unfold J2
 show lH (MX R Y) 1000000 0 (AL.i a (AL.v r1 (AL.v r2 (AL.v r3 (AL.v r4 (AL.v r5 AL.n)))))) _ h = _
 exact aW0 R Y 999999 a r1 r2 r3 r4 r5 _ h
theorem bIS {h : Hp} {b n k : Nat} {c : List Value} (hg : h.get b = some (.cells c 76 none)) (hk : k ≤ n) (hn : 0 < n) : jG env h 79 (.slice (some ⟨b, 0, none⟩) n n) none (some (.int .i64 (k : Int))) none = some (.slice (some ⟨b, 0, none⟩) k n) := by
 have hb : mG none (some (.int .i64 (k : Int))) n n = some (0, k) := by
  unfold mG
  rw [show ((k : Nat) : Int) = Int.ofNat k from rfl]
  simp only [xC, Option.bind_some]
  rw [show Nat.ble k n = true from by rw [Nat.ble_eq]; omega]
  rfl
 have hr : kG h b = some none := by unfold kG; rw [hg]
 unfold jG
 simp only [aOD, Option.bind_some, aC9]
 rw [hr]
 simp only [Option.bind_some, hb, ok?]
 rw [show Nat.beq n 0 = false from by cases n with | zero => omega | succ n => rfl]
 rfl
theorem Z0 : ∀ (q : List (Nat × Nat)) (i : Nat) (c : Nat × Nat), i < q.length → (q.flatMap iG).take (i * 2) ++ iG c ++ (q.flatMap iG).drop (i * 2 + 2) = (q.set i c).flatMap iG
 | [], i, c, h => by simp at h
 | d :: q, 0, c, h => by simp [iG]
 | d :: q, i + 1, c, h => by
  have ih := Z0 q i c (by simpa using h)
  rw [List.set_cons_succ, List.flatMap_cons, List.flatMap_cons, ← ih, show (i + 1) * 2 = (i * 2) + 1 + 1 by omega]
  simp [iG]
theorem wT.back {h : Hp} {bp np : Nat} {fs : List Nat} {f : Nat} (a : wT h bp np (fs ++ [f])) : wT h bp np fs := by
 obtain ⟨q, h1, h2, h3⟩ := a
 refine ⟨q, h1, ?_, h3⟩
 rw [List.length_append, QB] at h2
 have := congrArg (List.take fs.length) h2
 rw [List.take_take, Nat.min_eq_left (by simp), List.take_append_of_le_length (by rw [qM]; exact Nat.le_refl _), List.take_of_length_le (l := gQ 0 fs) (by rw [qM]; exact Nat.le_refl _)] at this
 exact this
theorem wT.more {h : Hp} {bp np : Nat} {fs : List Nat} (a : wT h bp np fs) (hf : fs.length < np) (f : Nat) : ∃ q : List (Nat × Nat), q.length = np ∧ h.get bp = some (.cells (q.flatMap iG) 76 none) ∧ wT (h.upd bp (.cells ((q.set fs.length (f, fs.length)).flatMap iG) 76 none)) bp np (fs ++ [f]) := by
 obtain ⟨q, h1, h2, h3⟩ := a
 refine ⟨q, h1, h3, q.set fs.length (f, fs.length), by rw [List.length_set]; exact h1, ?_, by rw [bL, if_pos rfl]⟩
 rw [List.length_append, QB, Nat.zero_add, ← h2]
 apply List.ext_getElem?
 intro i
 rw [List.getElem?_take, List.getElem?_set]
 by_cases c : i < fs.length
 ·rw [if_pos (by simp; omega), if_neg (by omega), List.getElem?_append_left (by rw [List.length_take]; omega), List.getElem?_take, if_pos c]
 ·by_cases c2 : i = fs.length
  ·subst c2
   rw [if_pos (by simp), if_pos rfl, if_pos (by omega), List.getElem?_append_right (by rw [List.length_take]; omega), List.length_take, show fs.length - min fs.length q.length = 0 by omega]
   rfl
  ·rw [if_neg (by simp; omega), List.getElem?_eq_none (by rw [List.length_append, List.length_take]; simp; omega)]
end Go.Proofs.Ytdpicdnpiihaaaa.K.L
