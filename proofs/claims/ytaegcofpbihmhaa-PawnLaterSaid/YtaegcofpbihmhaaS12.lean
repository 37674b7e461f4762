/- Contracts of told functions: a show opened; Redeem. -/
import Derived.Test.YtaegcofpbihmhaaS11
open Go Go.Eng
set_option maxRecDepth 100000
set_option linter.unusedVariables false
namespace Go.Proofs.Ytaegcofpbihmhaa.K.L
theorem put_whole {z : Nat} {hb h : Hp} (w : Wf hb) (g : Grew hb h) {b : Nat} (hle : hb.next ≤ b) {c l : List Value} {e : TypeId} {s : Option Nat} (hg : h.get b = some (.cells c e s)) (hc : c.length = z) (hl : l.length = z) (hx : l.all oneCell = true) :
    ∃ h', Grew hb h' ∧ At h' (.pointer (some ⟨b, 0, none⟩)) l ∧ (∀ (ρ : Type) (k : Hp → Option ρ), storeNK z h (.pointer (some ⟨b, 0, none⟩)) (.agg (Array.mk l)) k = k h') ∧ (∀ i o, i ≠ b → h.get i = some o → h'.get i = some o) := by
  have hlt := g.wf.2 b _ hg
  refine ⟨h.upd b (.cells l e s), Grew.upd w g hle hlt _, ⟨b, 0, l, e, s, rfl, by rw [get_upd, if_pos rfl], by simp, fun k x hx => by simpa using hx⟩, fun ρ k => ?_, fun i o hi ho => by rw [get_upd, if_neg hi]; exact ho⟩
  rw [storeNK_ptr (n := z) (c := c) hg (by rw [g.ro]; have := w.1; omega) hl hx (by omega), List.drop_of_length_le (by omega)]
  simp
theorem callQ_any {F : List Value → Hp → CRes} {args : List Value} {h h' : Hp} {v : Value} (w : Wf h) (e : F args (shutH h) = some (v, h')) (g : Grew (shutH h) h') : ∃ h2, callQ F args h = some (v, h2) ∧ Grew h h2 := by
  unfold callQ
  rw [e, pairK_some', ifB_if]
  by_cases hp : plainK v = true
  · exact ⟨h, by rw [if_pos hp], Grew.refl w⟩
  · refine ⟨⟨h'.next, h.ro, h'.objs⟩, by rw [if_neg hp], ⟨⟨?_, g.wf.2⟩, g.sub, g.next, rfl⟩⟩
    have := g.next
    have := w.1
    show h.ro ≤ h'.next
    have : h.next ≤ h'.next := g.next
    omega
theorem ShA.len {h : Hp} {s : Sh} {r : List Value} (a : ShA h s r) : r.length = 4 := by
  obtain ⟨_, _, _, rfl, _⟩ := a; rfl
theorem ShA.one {h : Hp} {s : Sh} {r : List Value} (a : ShA h s r) : r.all oneCell = true := by
  obtain ⟨vg, vf, vi, rfl, h1, h2, h3⟩ := a
  obtain ⟨_, _, _, rfl⟩ := h1.sl
  obtain ⟨_, _, _, rfl⟩ := h2.sl
  obtain ⟨_, _, _, rfl⟩ := h3.sl
  rfl
theorem waysOne : waysV.all oneCell = true := by kernel_rfl
theorem zeroOne : zero85.all oneCell = true := by kernel_rfl
theorem open40_at {h : Hp} (w : Wf h) {s : Sh} {r : List Value} (a : ShA h s r) : ∃ h' lk, F40 [.agg (Array.mk r)] h = some (.tuple (List.toArray [.agg (Array.mk lk), .int .i64 (checkS s).2.2]), h') ∧ Grew h h' ∧ lk.length = 16 ∧ lk.all oneCell = true ∧ ((checkS s).2.2 = 0 → lk = r ++ waysV) := by
  have start : F40 [.agg (Array.mk r)] h = P40x0 (rec' T40 999999) (.agg (Array.mk r)) h := rfl
  rw [start]
  unfold P40x0
  try unfold ki
  have hr4 := a.len
  rw [rowCells, allocK_add, allocK_add]
  have g0 : Grew h (h.add (.cells r 26 none)) := Grew.add w _
  have a0 : At (h.add (.cells r 26 none)) (.pointer (some ⟨h.next, 0, none⟩)) r := At.new
  have b0 : (h.add (.cells r 26 none)).get h.next = some (.cells r 26 none) := by rw [get_add, if_pos rfl]
  have n0 : (h.add (.cells r 26 none)).next = h.next + 1 := rfl
  generalize h.add (.cells r 26 none) = h0 at g0 a0 b0 n0 ⊢
  have g1 : Grew h (h0.add (.cells zero85 85 none)) := g0.trans (Grew.add g0.wf _)
  have a1 : At (h0.add (.cells zero85 85 none)) (.pointer (some ⟨h.next, 0, none⟩)) r := atAdd g0.wf a0 _
  have c1 : (h0.add (.cells zero85 85 none)).get h0.next = some (.cells zero85 85 none) := by rw [get_add, if_pos rfl]
  rw [show [(Value.slice none 0 0), (Value.slice none 0 0), (Value.int .i64 (Int.ofNat 0)), (Value.slice none 0 0), (Value.bool false), (Value.int .i64 (Int.ofNat 0)), Value.nilFunc, Value.nilFunc, (Value.bool false), (Value.int .i64 (Int.ofNat 0)), Value.nilFunc, Value.nilFunc, (Value.bool false), (Value.int .i64 (Int.ofNat 0)), Value.nilFunc, Value.nilFunc] = zero85 from rfl]
  generalize h0.add (.cells zero85 85 none) = h1 at g1 a1 c1 ⊢
  have s1 := a.sub g1.sub
  obtain ⟨h2, e2⟩ := check8_at (h := shutH h1) (wfShut g1.wf) s1
  rw [a1.loadN (z := 4) hr4, callQ_plain1 e2 rfl, pairK_some']
  unfold trip
  rw [extK_at (v := .int .i64 (checkS s).1) rfl, intK_int, extK_at (v := .int .i64 (checkS s).2.1) rfl, intK_int, extK_at (v := .int .i64 (checkS s).2.2) rfl, intK_int, boolN_eq, eqZ_dec, ifB_if]
  by_cases e0 : (checkS s).2.2 = 0
  · rw [if_neg (by rw [e0]; simp), a1.loadN (z := 4) hr4, ways73, optK_some', pairK_some', waysPlain]
    have hb2 : ∃ v, buildV env 85 (List.toArray [(0, .agg (Array.mk r)), (1, .agg (Array.mk waysV))]) = some v ∧ v = .agg (Array.mk (r ++ waysV)) := by
      obtain ⟨vg, vf, vi, rfl, k1, k2, k3⟩ := a
      obtain ⟨b1, m1, d1, rfl⟩ := k1.sl
      obtain ⟨b2, m2, d2, rfl⟩ := k2.sl
      obtain ⟨b3, m3, d3, rfl⟩ := k3.sl
      exact ⟨_, build2 _ _ _ _ _ _ _ _ _ _, rfl⟩
    obtain ⟨v, hv, rfl⟩ := hb2
    have lo : (r ++ waysV).all oneCell = true := by rw [List.all_append, a.one, waysOne]; rfl
    have ll : (r ++ waysV).length = 16 := by rw [List.length_append, hr4]; rfl
    obtain ⟨h3, g3, a3, k3, _⟩ := put_whole (z := 16) (l := r ++ waysV) w g1 (b := h0.next) (by have := g0.next; omega) c1 rfl ll lo
    show ∃ h' lk, (optK (buildV env 85 (List.toArray [(0, .agg (Array.mk r)), (1, .agg (Array.mk waysV))])) fun v16 => _) = _ ∧ _
    rw [hv, optK_some', k3, a3.loadN (z := 16) ll, e0]
    exact ⟨h3, _, rfl, g3, ll, lo, fun _ => rfl⟩
  · rw [if_pos (by simpa using e0), build0, optK_some']
    obtain ⟨h3, g3, a3, k3, _⟩ := put_whole (z := 16) (l := zero85) w g1 (b := h0.next) (by have := g0.next; omega) c1 rfl rfl zeroOne
    rw [k3, a3.loadN (z := 16) rfl]
    exact ⟨h3, zero85, rfl, g3, rfl, zeroOne, fun e => absurd e e0⟩
end Go.Proofs.Ytaegcofpbihmhaa.K.L
