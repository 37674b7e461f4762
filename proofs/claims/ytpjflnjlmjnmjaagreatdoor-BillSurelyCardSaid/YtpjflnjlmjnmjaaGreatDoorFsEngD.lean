/-
  An evaluator of the code, proved sound.
-/
import Derived.Test.YtpjflnjlmjnmjaaGreatDoorFsEngC
set_option linter.unusedVariables false
/-
  Words of told texts at blocks that are known in part: rows of cells, new blocks, stores, strings compared.
-/
namespace Go.Eng
section
variable {ρ : Type}
theorem nthR_get {α β : Type} (f : α → Option β) : ∀ (l : List α) (n : Nat) (v : α), l[n]? = some v → nthR l n f = f v
  | [], n, v, h => by simp at h
  | a :: l, 0, v, h => by simp at h; subst h; rfl
  | a :: l, n + 1, v, h => nthR_get f l n v (by simpa using h)
theorem ptrAddK_ptr (n b o : Nat) (k : Value → Option ρ) : ptrAddK n (.pointer (some ⟨b, o, none⟩)) k = k (.pointer (some ⟨b, o + n, none⟩)) := by
  show forceN (Nat.add o n) (fun o => k (.pointer (some ⟨b, o, none⟩))) = _
  rw [forceN_eq]; rfl
theorem extK_at {l : List Value} {i : Nat} {v : Value} (h : l[i]? = some v) (k : Value → Option ρ) : extK (.tuple (Array.mk l)) i k = k v := nthR_get k l i v h
theorem takeR_eq {α : Type} : ∀ (n : Nat) (l : List α) (k : List α → Option ρ), n ≤ l.length → takeR l n k = k (l.take n)
  | 0, l, k, _ => rfl
  | n + 1, [], k, h => by simp at h
  | n + 1, a :: l, k, h => by
    show takeR l n (fun r => k (a :: r)) = _
    rw [takeR_eq n l _ (by simpa using h)]; rfl
theorem rowK_at {h : Hp} {b : Nat} {c : List Value} {t : TypeId} {s : Option Nat} (hg : h.get b = some (.cells c t s)) (f : List Value → TypeId → Option Nat → Option ρ) : rowK h b f = f c t s := by
  unfold rowK
  rw [T.getR_eq, show h.objs.get b = some (.cells c t s) from hg]; rfl
theorem load1K_ptr {h : Hp} {b o : Nat} {c : List Value} {t : TypeId} {s : Option Nat} {v : Value} (hg : h.get b = some (.cells c t s)) (hv : c[o]? = some v) (k : Value → Option ρ) : load1K h (.pointer (some ⟨b, o, none⟩)) k = k v := by
  show rowK h b (fun c _ _ => nthR c o k) = _
  rw [rowK_at hg, nthR_get k c o v hv]
theorem loadNK_ptr {h : Hp} {b o n : Nat} {c : List Value} {t : TypeId} {s : Option Nat} (hg : h.get b = some (.cells c t s)) (hn : o + n ≤ c.length) (k : Value → Option ρ) :
    loadNK n h (.pointer (some ⟨b, o, none⟩)) k = k (.agg (Array.mk ((c.drop o).take n))) := by
  show rowK h b (fun c _ _ => dropR c o fun c => takeR c n fun l => k (.agg (Array.mk l))) = _
  rw [rowK_at hg, dropR_eq, takeR_eq _ _ _ (by simp; omega)]
theorem setNth_set {α : Type} : ∀ (l : List α) (n : Nat) (x : α), n < l.length → setNth l n x = some (l.set n x)
  | [], n, x, h => by simp at h
  | a :: l, 0, x, h => rfl
  | a :: l, n + 1, x, h => by
    simp only [setNth, setNth_set l n x (by simpa using h)]
    rfl
theorem store1K_ptr {h : Hp} {b o : Nat} {c : List Value} {t : TypeId} {s : Option Nat} {x : Value} (hg : h.get b = some (.cells c t s)) (hro : h.ro ≤ b) (hx : oneCell x = true) (ho : o < c.length) (k : Hp → Option ρ) :
    store1K h (.pointer (some ⟨b, o, none⟩)) x k = k (h.upd b (.cells (c.set o x) t s)) := by
  show ifB (Nat.ble h.ro b) (ifB (oneK x) (rowK h b fun c e s => setNthR c o x fun c => h.objs.putR b (some (.cells c e s)) fun objs => k ⟨h.next, h.ro, objs⟩) none) none = _
  rw [show Nat.ble h.ro b = true from by rw [Nat.ble_eq]; exact hro, oneK_eq, hx]
  show rowK h b _ = _
  rw [rowK_at hg, setNthR_eq, setNth_set _ _ _ ho]
  show h.objs.putR b _ _ = _
  rw [T.putR_eq]; rfl
theorem overR_eq : ∀ (xs c : List Value) (k : List Value → Option ρ), xs.length ≤ c.length → xs.all oneCell = true → overR xs c k = k (xs ++ c.drop xs.length)
  | [], c, k, _, _ => by show forceL c k = _; rw [forceL_eq]; simp
  | x :: xs, [], k, h, _ => by simp at h
  | x :: xs, a :: c, k, h, h2 => by
    simp only [List.all_cons, Bool.and_eq_true] at h2
    show ifB (oneK x) (overR xs c fun r => k (x :: r)) none = _
    rw [oneK_eq, h2.1]
    show overR xs c (fun r => k (x :: r)) = _
    rw [overR_eq xs c _ (by simpa using h) h2.2]; rfl
theorem segR_eq (xs : List Value) : ∀ (o : Nat) (c : List Value) (k : List Value → Option ρ), o + xs.length ≤ c.length → xs.all oneCell = true → segR o xs c k = k (c.take o ++ xs ++ c.drop (o + xs.length))
  | 0, c, k, h, h2 => by
    show overR xs c k = _
    rw [overR_eq xs c k (by omega) h2]; simp
  | o + 1, [], k, h, _ => by simp at h
  | o + 1, a :: c, k, h, h2 => by
    show segR o xs c (fun r => k (a :: r)) = _
    rw [segR_eq xs o c _ (by simp at h; omega) h2, show o + 1 + xs.length = (o + xs.length) + 1 by omega]; simp
theorem storeNK_ptr {n : Nat} {h : Hp} {b o : Nat} {c l : List Value} {t : TypeId} {s : Option Nat} (hg : h.get b = some (.cells c t s)) (hro : h.ro ≤ b) (hl : l.length = n) (hx : l.all oneCell = true) (ho : o + n ≤ c.length) (k : Hp → Option ρ) :
    storeNK n h (.pointer (some ⟨b, o, none⟩)) (.agg (Array.mk l)) k = k (h.upd b (.cells (c.take o ++ l ++ c.drop (o + l.length)) t s)) := by
  show ifB (Nat.ble h.ro b) (ifB (Nat.beq (lenR l) n) (rowK h b fun c e s => segR o l c fun c => h.objs.putR b (some (.cells c e s)) fun objs => k ⟨h.next, h.ro, objs⟩) none) none = _
  rw [show Nat.ble h.ro b = true from by rw [Nat.ble_eq]; exact hro, lenR_eq, hl, show Nat.beq n n = true from Nat.beq_refl n]
  show rowK h b _ = _
  rw [rowK_at hg, segR_eq _ _ _ _ (by omega) hx]
  show h.objs.putR b _ _ = _
  rw [T.putR_eq]
  subst hl; rfl
theorem allocK_add {α : Type} (h : Hp) (e : TypeId) (c : List Value) (k : Value → Hp → α) : allocK h e c k = k (.pointer (some ⟨h.next, 0, none⟩)) (h.add (.cells c e none)) := allocK_eq h e c k
theorem get_add (h : Hp) (o : AObj) (i : Nat) : (h.add o).get i = if i = h.next then some o else h.get i := by
  unfold Hp.get Hp.add
  simp only [T.get_put]
theorem get_upd (h : Hp) (o : AObj) (b i : Nat) : (h.upd b o).get i = if i = b then some o else h.get i := by
  unfold Hp.get Hp.upd
  simp only [T.get_put]
theorem add_next (h : Hp) (o : AObj) : (h.add o).next = h.next + 1 := rfl
theorem add_ro (h : Hp) (o : AObj) : (h.add o).ro = h.ro := rfl
end
def Wf (h : Hp) : Prop := h.ro ≤ h.next ∧ ∀ i o, h.get i = some o → i < h.next
structure Grew (h h' : Hp) : Prop where
  wf : Wf h'
  sub : Sub h h'
  next : h.next ≤ h'.next
  ro : h'.ro = h.ro
theorem Grew.refl {h : Hp} (w : Wf h) : Grew h h := ⟨w, fun _ _ e => e, Nat.le_refl _, rfl⟩
theorem Grew.trans {a b c : Hp} (x : Grew a b) (y : Grew b c) : Grew a c := ⟨y.wf, fun i o e => y.sub i o (x.sub i o e), Nat.le_trans x.next y.next, y.ro.trans x.ro⟩
theorem Wf.add {h : Hp} (w : Wf h) (o : AObj) : Wf (h.add o) := by
  refine ⟨Nat.le_trans w.1 (Nat.le_succ _), fun i p e => ?_⟩
  rw [get_add] at e
  show i < h.next + 1
  split at e
  · omega
  · have := w.2 i p e; omega
theorem Grew.add {h : Hp} (w : Wf h) (o : AObj) : Grew h (h.add o) := ⟨w.add o, fun i p e => by
  rw [get_add, if_neg (by have := w.2 i p e; omega)]; exact e, Nat.le_succ _, rfl⟩
theorem Wf.upd {h : Hp} (w : Wf h) {b : Nat} (hb : b < h.next) (o : AObj) : Wf (h.upd b o) := by
  refine ⟨w.1, fun i p e => ?_⟩
  rw [get_upd] at e
  show i < h.next
  split at e
  · omega
  · exact w.2 i p e
theorem Grew.upd {h h' : Hp} (w : Wf h) (g : Grew h h') {b : Nat} (hb : h.next ≤ b) (hb2 : b < h'.next) (o : AObj) : Grew h (h'.upd b o) :=
  ⟨g.wf.upd hb2 o, fun i p e => by
    have := w.2 i p e
    rw [get_upd, if_neg (by omega)]; exact g.sub i p e, g.next, g.ro⟩
def At (h : Hp) (p : Value) (r : List Value) : Prop := ∃ b o c t s, p = .pointer (some ⟨b, o, none⟩) ∧ h.get b = some (.cells c t s) ∧ o + r.length ≤ c.length ∧ ∀ (k : Nat) (x : Value), r[k]? = some x → c[o + k]? = some x
def Rows (h : Hp) (z : Nat) (v : Value) (rs : List (List Value)) : Prop :=
  (∃ c, v = .slice none rs.length c ∧ rs = []) ∨ ∃ b o cap c t s, v = .slice (some ⟨b, o, none⟩) rs.length cap ∧ (rs ≠ [] → h.get b = some (.cells c t s)) ∧
    ∀ i r, rs[i]? = some r → r.length = z ∧ o + i * z + z ≤ c.length ∧ ∀ (k : Nat) (x : Value), r[k]? = some x → c[o + i * z + k]? = some x
section
variable {ρ : Type}
theorem At.sub {h h' : Hp} (hs : Sub h h') {p : Value} {r : List Value} (a : At h p r) : At h' p r := by
  obtain ⟨b, o, c, t, s, h1, h2, h3⟩ := a
  exact ⟨b, o, c, t, s, h1, hs _ _ h2, h3⟩
theorem Rows.sub {h h' : Hp} (hs : Sub h h') {z : Nat} {v : Value} {rs : List (List Value)} (a : Rows h z v rs) : Rows h' z v rs := by
  rcases a with a | ⟨b, o, cap, c, t, s, h1, h2, h3⟩
  · exact .inl a
  · exact .inr ⟨b, o, cap, c, t, s, h1, fun e => hs _ _ (h2 e), h3⟩
theorem Rows.len {h : Hp} {z : Nat} {v : Value} {rs : List (List Value)} (a : Rows h z v rs) (k : Int → Option ρ) : lenSK v k = k (rs.length : Int) := by
  rcases a with ⟨c, rfl, _⟩ | ⟨b, o, cap, c, t, s, rfl, _⟩ <;> rfl
theorem Rows.at {h : Hp} {z : Nat} {v : Value} {rs : List (List Value)} (a : Rows h z v rs) {i : Nat} {r : List Value} (hi : rs[i]? = some r) : ∃ p, (∀ (ρ : Type) (k : Value → Option ρ), idxSK z v (i : Int) k = k p) ∧ At h p r ∧ r.length = z := by
  have hlt := (List.getElem?_eq_some_iff.1 hi).1
  rcases a with ⟨c, rfl, rfl⟩ | ⟨b, o, cap, c, t, s, rfl, h2, h3⟩
  · simp at hi
  · obtain ⟨g1, g2, g3⟩ := h3 i r hi
    refine ⟨_, fun ρ k => idxSK_at z b o rs.length cap i hlt k, ⟨b, o + i * z, c, t, s, rfl, h2 (by rintro rfl; simp at hi), by omega, g3⟩, g1⟩
theorem At.load1 {h : Hp} {p : Value} {r : List Value} (a : At h p r) {x : Value} (hx : r[0]? = some x) (k : Value → Option ρ) : load1K h p k = k x := by
  obtain ⟨b, o, c, t, s, rfl, h2, h3, h4⟩ := a
  exact load1K_ptr h2 (by simpa using h4 0 x hx) k
theorem At.fld {h : Hp} {p : Value} {r : List Value} (a : At h p r) (n : Nat) {x : Value} (hx : r[n]? = some x) (k : Value → Option ρ) : ptrAddK n p (fun q => load1K h q k) = k x := by
  obtain ⟨b, o, c, t, s, rfl, h2, h3, h4⟩ := a
  rw [ptrAddK_ptr, load1K_ptr h2 (h4 n x hx) k]
theorem At.loadN {h : Hp} {p : Value} {r : List Value} (a : At h p r) {z : Nat} (hz : r.length = z) (k : Value → Option ρ) : loadNK z h p k = k (.agg (Array.mk r)) := by
  obtain ⟨b, o, c, t, s, rfl, h2, h3, h4⟩ := a
  rw [loadNK_ptr h2 (by omega) k]
  congr 3
  apply List.ext_getElem?
  intro j
  rw [List.getElem?_take, List.getElem?_drop]
  by_cases hj : j < z
  · rw [if_pos hj]
    have := h4 j r[j] (List.getElem?_eq_getElem (by omega))
    rw [this, List.getElem?_eq_getElem (by omega)]
  · rw [if_neg hj, eq_comm, List.getElem?_eq_none_iff]; omega
theorem At.part {h : Hp} {p : Value} {r : List Value} (a : At h p r) (n m : Nat) (hm : n + m ≤ r.length) : ∃ q, (∀ (ρ : Type) (k : Value → Option ρ), ptrAddK n p k = k q) ∧ At h q ((r.drop n).take m) := by
  obtain ⟨b, o, c, t, s, rfl, h2, h3, h4⟩ := a
  refine ⟨_, fun ρ k => ptrAddK_ptr n b o k, b, o + n, c, t, s, rfl, h2, by simp; omega, fun k x hx => ?_⟩
  rw [List.getElem?_take] at hx
  split at hx
  · rw [List.getElem?_drop] at hx
    rw [show o + n + k = o + (n + k) by omega]; exact h4 _ _ hx
  · cases hx
theorem At.new {h : Hp} {c : List Value} {e : TypeId} {s : Option Nat} : At (h.add (.cells c e s)) (.pointer (some ⟨h.next, 0, none⟩)) c :=
  ⟨h.next, 0, c, e, s, rfl, by rw [get_add, if_pos rfl], by omega, fun k x hx => by simpa using hx⟩
end
end Go.Eng
namespace Go.Eng
section
variable {E : Env}
theorem eql_string (t : TypeId) (xo yo : Operand) (a b : ByteArray) : binV E .eql t xo yo (.string a) (.string b) = some (.bool (a.toList == b.toList)) := by
  show binV0 E .eql t xo yo (.string a) (.string b) = _
  unfold binV0
  rfl
end
end Go.Eng
/-
  What arguments show, type by type.
-/
namespace Go.Eng
def partsT (P : Program) (t : TypeId) : Option (List (Nat × TypeId)) := match P.underlying t with | some (.struct fs) => some (partsOf fs) | _ => none
def elemT (P : Program) (t : TypeId) : Option TypeId := match P.underlying t with | some (.slice e) => some e | _ => none
def kindT (P : Program) (t : TypeId) : Option IntKind := match P.underlying t with | some (.int k) => some k | _ => none
def strT (P : Program) (t : TypeId) : Bool := match P.underlying t with | some .string => true | _ => false
def boolT (P : Program) (t : TypeId) : Bool := match P.underlying t with | some .bool => true | _ => false
def arrT (P : Program) (t : TypeId) : Option (Nat × TypeId) := match P.underlying t with | some (.array m e) => some (m, e) | _ => none
section
variable {P : Program} {h : Hp} {n : Nat} {t : TypeId} {cs : List Value}
theorem Arg.parts {l : List (Nat × TypeId)} (a : Arg P h (n + 1) t cs) (e : partsT P t = some l) : cs.length = P.cellsOf t ∧ ∀ x ∈ l, Arg P h n x.2 ((cs.drop x.1).take (P.cellsOf x.2)) := by
  unfold partsT at e
  split at e
  · rename_i fs hu
    cases e
    unfold Arg at a
    rw [hu] at a
    exact a
  · cases e
theorem Arg.elem {e : TypeId} (a : Arg P h (n + 1) t cs) (he : elemT P t = some e) : cs = [.slice none 0 0] ∨ ∃ b m c te, cs = [.slice (some ⟨b, 0, none⟩) m m] ∧ m ≤ maxLen ∧ h.get b = some (.cells c te (some (P.cellsOf e))) ∧ c.length = m * P.cellsOf e ∧
        ∀ i, i < m → Arg P h n e ((c.drop (i * P.cellsOf e)).take (P.cellsOf e)) := by
  unfold elemT at he
  split at he
  · rename_i e' hu
    cases he
    unfold Arg at a
    rw [hu] at a
    exact a
  · cases he
theorem Arg.int {k : IntKind} (a : Arg P h (n + 1) t cs) (e : kindT P t = some k) : ∃ i, cs = [.int k i] ∧ (Lit.int k i).wf = true := by
  unfold kindT at e
  split at e
  · rename_i k' hu
    cases e
    unfold Arg at a
    rw [hu] at a
    exact a
  · cases e
theorem Arg.str (a : Arg P h (n + 1) t cs) (e : strT P t = true) : ∃ s : ByteArray, cs = [.string s] ∧ s.size ≤ maxLen := by
  unfold strT at e
  split at e
  · rename_i hu
    unfold Arg at a
    rw [hu] at a
    exact a
  · cases e
theorem Arg.bool (a : Arg P h (n + 1) t cs) (e : boolT P t = true) : ∃ b, cs = [.bool b] := by
  unfold boolT at e
  split at e
  · rename_i hu
    unfold Arg at a
    rw [hu] at a
    exact a
  · cases e
theorem Arg.arr {m : Nat} {e : TypeId} (a : Arg P h (n + 1) t cs) (he : arrT P t = some (m, e)) : cs.length = P.cellsOf t ∧ ∀ i, i < m → Arg P h n e ((cs.drop (i * P.cellsOf e)).take (P.cellsOf e)) := by
  unfold arrT at he
  split at he
  · rename_i m' e' hu
    cases he
    unfold Arg at a
    rw [hu] at a
    exact a
  · cases he
def SlA (h : Hp) (z : Nat) (v : Value) (rs : List (List Value)) : Prop := (v = .slice none 0 0 ∧ rs = []) ∨ ∃ b c t, v = .slice (some ⟨b, 0, none⟩) rs.length rs.length ∧ h.get b = some (.cells c t (some z)) ∧
  ∀ i r, rs[i]? = some r → r.length = z ∧ i * z + z ≤ c.length ∧ ∀ (k : Nat) (x : Value), r[k]? = some x → c[i * z + k]? = some x
theorem Arg.sl {e : TypeId} {z : Nat} (a : Arg P h (n + 1) t cs) (he : elemT P t = some e) (hz : P.cellsOf e = z) : ∃ v rs, cs = [v] ∧ SlA h z v rs ∧ ∀ r ∈ rs, Arg P h n e r := by
  subst hz
  rcases a.elem he with rfl | ⟨b, m, c, te, rfl, _, hg, hl, ha⟩
  · exact ⟨_, [], rfl, .inl ⟨rfl, rfl⟩, fun r hr => by cases hr⟩
  · refine ⟨_, (List.range m).map fun i => (c.drop (i * P.cellsOf e)).take (P.cellsOf e), rfl, .inr ⟨b, c, te, by simp, hg, ?_⟩, ?_⟩
    · intro i r hr
      rw [List.getElem?_map] at hr
      cases hi : (List.range m)[i]? with
      | none => rw [hi] at hr; cases hr
      | some j =>
        rw [hi] at hr
        cases hr
        obtain ⟨hlt', hj⟩ := List.getElem?_eq_some_iff.1 hi
        have hlt : i < m := by simpa using hlt'
        have hj : j = i := by simpa using hj.symm
        subst hj
        have hle : j * P.cellsOf e + P.cellsOf e ≤ c.length := by
          rw [hl, ← Nat.succ_mul]
          exact Nat.mul_le_mul_right _ hlt
        refine ⟨by simp; omega, hle, fun k x hx => ?_⟩
        rw [List.getElem?_take] at hx
        split at hx
        · rw [List.getElem?_drop] at hx; exact hx
        · cases hx
    · intro r hr
      obtain ⟨i, hi, rfl⟩ := List.mem_map.1 hr
      exact ha i (List.mem_range.1 hi)
theorem rows_of {α : Type} (row : α → List Value) : ∀ (rs : List (List Value)), (∀ r ∈ rs, ∃ g, r = row g) → ∃ gs : List α, rs = gs.map row
  | [], _ => ⟨[], rfl⟩
  | r :: rs, h => by
    obtain ⟨g, rfl⟩ := h r (.head _)
    obtain ⟨gs, rfl⟩ := rows_of row rs (fun r hr => h r (.tail _ hr))
    exact ⟨g :: gs, rfl⟩
end
section
variable {H : Type} {enc : TypeId × Value → H} {P : Program} {W : World}
theorem law_calls2 {C : Cfg} (hC : C.Ok) {f : FuncId} {n b0 : Nat} {ts : List TypeId} {args : Array Value} {ds : List (DataW H)} {ps : List MemPlace}
    (hrun : ∀ (h : Hp) (avs : List Value), Wf h → h.ro = h.next → ArgAll C.P.P h n ts avs → ∃ h', Runs C (.call f avs.toArray h) (.ret (.bool true) h'))
    (hw : W.ShapedOpen C.P.P) (hok : ∀ (j : Nat) t v, ts[j]? = some t → args.toList[j]? = some v → Value.okWide C.P.P W .any b0 t v)
    (hr : DataW.TrodAll enc C.P.P W 0 (fun _ => true) true ts args.toList ds ps) (ha : ts.all (argTy C.P.P n) = true) :
    Calls C.P.P f args W fun e W' => e = .returned (.bool true) ∧ Go.RowKit.Below W.heap.size W W' := by
  obtain ⟨ρ, h, hp, _, _, avs, hl, haa⟩ := open_args (base_block hw) hok hr ha (HPre.nil W)
  have hH := hp.hrel
  obtain ⟨h', N, hrun⟩ := hrun (shut h) avs ⟨Nat.le_refl _, fun i o hi => hH.lt hi⟩ rfl (ArgAll.sub (h := h) (h' := shut h) (fun _ _ e => e) haa)
  obtain ⟨_, g2⟩ := (eval_sound hC N).call f avs.toArray (shut h) _ hrun
  refine callsIn_wide.1 ((g2 h.next ρ W args 0 hH hl).mono ?_)
  rintro e W' ⟨v', ρ', rfl, hst, hv⟩
  cases hv
  refine ⟨rfl, hst.os, hst.tape, hst.output, hst.size, fun k hk => ?_⟩
  rw [Array.getElem?_eq_getElem hk]
  refine hst.keep k _ (Array.getElem?_eq_getElem hk) ?_
  rintro ⟨i, o, im, hi, hro, hρ, _⟩
  have := (hH.dom i im hρ).1
  have h3 : (shut h).ro = (shut h).next := rfl
  omega
end
section
variable {P : Program} {h : Hp} {n : Nat} {t : TypeId} {v : Value}
theorem ArgV.agg (a : ArgV P h n t v) (e : (partsT P t).isSome = true ∨ (arrT P t).isSome = true) : ∃ cs : List Value, v = .agg cs.toArray ∧ Arg P h n t cs := by
  unfold ArgV at a
  unfold partsT arrT at e
  split at a
  · exact a
  · exact a
  · rename_i h1 h2
    exfalso
    rcases e with e | e
    · split at e
      · exact h1 _ ‹_›
      · cases e
    · split at e
      · exact h2 _ _ ‹_›
      · cases e
theorem ArgV.flat (a : ArgV P h n t v) (e : partsT P t = none ∧ arrT P t = none) : Arg P h n t [v] := by
  unfold ArgV at a
  unfold partsT arrT at e
  split at a
  · rename_i hu; rw [hu] at e; simp at e
  · rename_i hu; rw [hu] at e; simp at e
  · exact a
end
end Go.Eng
/-
  Code compared with code.
-/
namespace Go.Eng
theorem a2 {p q : Bool} (h : (p && q) = true) : p = true ∧ q = true := by rwa [Bool.and_eq_true] at h
theorem nb {a b : Nat} (h : Nat.beq a b = true) : a = b := Nat.eq_of_beq_eq_true h
theorem arrE {α : Type} {f : α → α → Bool} (hf : ∀ x y, f x y = true → x = y) {a b : Array α} (h : listEq f a.toList b.toList = true) : a = b := by
  have := listEq_eq hf h
  obtain ⟨a⟩ := a; obtain ⟨b⟩ := b
  simp only at this; rw [this]
def constEq (a b : Value) : Bool := match a with
  | .pointer none => (match b with | .pointer none => true | _ => false)
  | .map none => (match b with | .map none => true | _ => false)
  | .nilFunc => (match b with | .nilFunc => true | _ => false)
  | .nilIface => (match b with | .nilIface => true | _ => false)
  | a => veq a b
theorem constEq_eq (a b : Value) (e : constEq a b = true) : a = b := by
  unfold constEq at e
  split at e
  · split at e
    · rfl
    · cases e
  · split at e
    · rfl
    · cases e
  · split at e
    · rfl
    · cases e
  · split at e
    · rfl
    · cases e
  · exact veq_eq _ _ e
def opndEq (a b : Operand) : Bool := match a with
  | .tmp x => (match b with | .tmp y => Nat.beq x y | _ => false)
  | .const x => (match b with | .const y => constEq x y | _ => false)
  | .global x => (match b with | .global y => Nat.beq x y | _ => false)
  | .func x => (match b with | .func y => Nat.beq x y | _ => false)
theorem opndEq_eq (a b : Operand) (e : opndEq a b = true) : a = b := by
  unfold opndEq at e
  split at e <;> split at e <;> first | (cases e; done) | skip
  · rw [nb e]
  · rw [constEq_eq _ _ e]
  · rw [nb e]
  · rw [nb e]
def optEq {α : Type} (f : α → α → Bool) (a b : Option α) : Bool := match a with
  | none => (match b with | none => true | _ => false)
  | some x => (match b with | some y => f x y | _ => false)
theorem optEq_eq {α : Type} {f : α → α → Bool} (hf : ∀ x y, f x y = true → x = y) (a b : Option α) (e : optEq f a b = true) : a = b := by
  unfold optEq at e
  split at e <;> split at e <;> first | (cases e; done) | rfl | rw [hf _ _ e]
abbrev boolEq (a b : Bool) : Bool := match a with | true => b | false => !b
theorem boolEq_eq (a b : Bool) (e : boolEq a b = true) : a = b := by cases a <;> cases b <;> first | rfl | cases e
def callEq (a b : Call) : Bool :=
  (match a.callee with
    | .value x => (match b.callee with | .value y => opndEq x y | _ => false)
    | .builtin x => (match b.callee with | .builtin y => decide (x = y) | _ => false)
    | _ => false) && (listEq opndEq a.args.toList b.args.toList && listEq Nat.beq a.argTypes.toList b.argTypes.toList)
theorem callEq_eq (a b : Call) (e : callEq a b = true) : a = b := by
  obtain ⟨c, x, t⟩ := a
  obtain ⟨d, y, u⟩ := b
  unfold callEq at e
  obtain ⟨e1, e2⟩ := a2 e
  obtain ⟨e2, e3⟩ := a2 e2
  simp only at e1 e2 e3
  obtain rfl := arrE opndEq_eq e2
  obtain rfl := arrE (fun _ _ => nb) e3
  split at e1
  · split at e1
    · rw [opndEq_eq _ _ e1]
    · cases e1
  · split at e1
    · rw [of_decide_eq_true e1]
    · cases e1
  · cases e1
def partEq (a b : Nat × Operand) : Bool := Nat.beq a.1 b.1 && opndEq a.2 b.2
theorem partEq_eq (a b : Nat × Operand) (e : partEq a b = true) : a = b := by
  obtain ⟨e1, e2⟩ := a2 e
  exact Prod.ext (nb e1) (opndEq_eq _ _ e2)
def fnEq (a b : Fn) : Bool := match a with
  | .func x => (match b with | .func y => Nat.beq x y | _ => false)
  | _ => false
theorem fnEq_eq (a b : Fn) (e : fnEq a b = true) : a = b := by
  unfold fnEq at e
  split at e
  · split at e
    · rw [nb e]
    · cases e
  · cases e
def opEq (a b : Op) : Bool := match a with
  | .move x => (match b with | .move y => opndEq x y | _ => false)
  | .assign x => (match b with | .assign y => opndEq x y | _ => false)
  | .pick x1 x2 x3 => (match b with | .pick y1 y2 y3 => opndEq x1 y1 && (opndEq x2 y2 && opndEq x3 y3) | _ => false)
  | .alloc t => (match b with | .alloc u => Nat.beq t u | _ => false)
  | .box t x => (match b with | .box u y => Nat.beq t u && opndEq x y | _ => false)
  | .build t x => (match b with | .build u y => Nat.beq t u && listEq partEq x.toList y.toList | _ => false)
  | .buildSlice t n x => (match b with | .buildSlice u m y => Nat.beq t u && (Nat.beq n m && listEq partEq x.toList y.toList) | _ => false)
  | .load t x => (match b with | .load u y => Nat.beq t u && opndEq x y | _ => false)
  | .store t x1 x2 => (match b with | .store u y1 y2 => Nat.beq t u && (opndEq x1 y1 && opndEq x2 y2) | _ => false)
  | .ready n => (match b with | .ready m => Nat.beq n m | _ => false)
  | .waits n => (match b with | .waits m => Nat.beq n m | _ => false)
  | .nilCheck x => (match b with | .nilCheck y => opndEq x y | _ => false)
  | .binOp o t x1 x2 t2 => (match b with | .binOp p u y1 y2 u2 => decide (o = p) && (Nat.beq t u && (opndEq x1 y1 && (opndEq x2 y2 && Nat.beq t2 u2))) | _ => false)
  | .unOp o t x => (match b with | .unOp p u y => decide (o = p) && (Nat.beq t u && opndEq x y) | _ => false)
  | .convert s t x => (match b with | .convert r u y => Nat.beq s r && (Nat.beq t u && opndEq x y) | _ => false)
  | .makeInterface t x => (match b with | .makeInterface u y => Nat.beq t u && opndEq x y | _ => false)
  | .makeFunc f x1 x2 => (match b with | .makeFunc g y1 y2 => fnEq f g && (listEq opndEq x1.toList y1.toList && listEq opndEq x2.toList y2.toList) | _ => false)
  | .makeMap t x => (match b with | .makeMap u y => Nat.beq t u && optEq opndEq x y | _ => false)
  | .makeSlice t x1 x2 => (match b with | .makeSlice u y1 y2 => Nat.beq t u && (opndEq x1 y1 && opndEq x2 y2) | _ => false)
  | .slice t x l h m => (match b with | .slice u y l2 h2 m2 => Nat.beq t u && (opndEq x y && (optEq opndEq l l2 && (optEq opndEq h h2 && optEq opndEq m m2))) | _ => false)
  | .fieldAddr t x n => (match b with | .fieldAddr u y m => Nat.beq t u && (opndEq x y && Nat.beq n m) | _ => false)
  | .field t x n => (match b with | .field u y m => Nat.beq t u && (opndEq x y && Nat.beq n m) | _ => false)
  | .indexAddr t x1 x2 => (match b with | .indexAddr u y1 y2 => Nat.beq t u && (opndEq x1 y1 && opndEq x2 y2) | _ => false)
  | .index t x1 x2 => (match b with | .index u y1 y2 => Nat.beq t u && (opndEq x1 y1 && opndEq x2 y2) | _ => false)
  | .lookup t x1 x2 c => (match b with | .lookup u y1 y2 d => Nat.beq t u && (opndEq x1 y1 && (opndEq x2 y2 && boolEq c d)) | _ => false)
  | .mapUpdate t x1 x2 x3 => (match b with | .mapUpdate u y1 y2 y3 => Nat.beq t u && (opndEq x1 y1 && (opndEq x2 y2 && opndEq x3 y3)) | _ => false)
  | .range t x => (match b with | .range u y => Nat.beq t u && opndEq x y | _ => false)
  | .next x c => (match b with | .next y d => opndEq x y && boolEq c d | _ => false)
  | .extract x n => (match b with | .extract y m => opndEq x y && Nat.beq n m | _ => false)
  | .entry x => (match b with | .entry y => opndEq x y | _ => false)
  | .panic x => (match b with | .panic y => opndEq x y | _ => false)
  | .call c => (match b with | .call d => callEq c d | _ => false)
  | _ => false
theorem opEq_eq (a b : Op) (e : opEq a b = true) : a = b := by
  unfold opEq at e
  split at e <;> first | (cases e; done) | split at e <;> first | (cases e; done) | skip
  · rw [opndEq_eq _ _ e]
  · rw [opndEq_eq _ _ e]
  · obtain ⟨h1, h2⟩ := a2 e; obtain ⟨h2, h3⟩ := a2 h2; rw [opndEq_eq _ _ h1, opndEq_eq _ _ h2, opndEq_eq _ _ h3]
  · rw [nb e]
  · obtain ⟨h1, h2⟩ := a2 e; rw [nb h1, opndEq_eq _ _ h2]
  · obtain ⟨h1, h2⟩ := a2 e; rw [nb h1, arrE partEq_eq h2]
  · obtain ⟨h1, h2⟩ := a2 e; obtain ⟨h2, h3⟩ := a2 h2; rw [nb h1, nb h2, arrE partEq_eq h3]
  · obtain ⟨h1, h2⟩ := a2 e; rw [nb h1, opndEq_eq _ _ h2]
  · obtain ⟨h1, h2⟩ := a2 e; obtain ⟨h2, h3⟩ := a2 h2; rw [nb h1, opndEq_eq _ _ h2, opndEq_eq _ _ h3]
  · rw [nb e]
  · rw [nb e]
  · rw [opndEq_eq _ _ e]
  · obtain ⟨h1, h2⟩ := a2 e; obtain ⟨h2, h3⟩ := a2 h2; obtain ⟨h3, h4⟩ := a2 h3; obtain ⟨h4, h5⟩ := a2 h4
    rw [of_decide_eq_true h1, nb h2, opndEq_eq _ _ h3, opndEq_eq _ _ h4, nb h5]
  · obtain ⟨h1, h2⟩ := a2 e; obtain ⟨h2, h3⟩ := a2 h2; rw [of_decide_eq_true h1, nb h2, opndEq_eq _ _ h3]
  · obtain ⟨h1, h2⟩ := a2 e; obtain ⟨h2, h3⟩ := a2 h2; rw [nb h1, nb h2, opndEq_eq _ _ h3]
  · obtain ⟨h1, h2⟩ := a2 e; rw [nb h1, opndEq_eq _ _ h2]
  · obtain ⟨h1, h2⟩ := a2 e; obtain ⟨h2, h3⟩ := a2 h2; rw [fnEq_eq _ _ h1, arrE opndEq_eq h2, arrE opndEq_eq h3]
  · obtain ⟨h1, h2⟩ := a2 e; rw [nb h1, optEq_eq opndEq_eq _ _ h2]
  · obtain ⟨h1, h2⟩ := a2 e; obtain ⟨h2, h3⟩ := a2 h2; rw [nb h1, opndEq_eq _ _ h2, opndEq_eq _ _ h3]
  · obtain ⟨h1, h2⟩ := a2 e; obtain ⟨h2, h3⟩ := a2 h2; obtain ⟨h3, h4⟩ := a2 h3; obtain ⟨h4, h5⟩ := a2 h4
    rw [nb h1, opndEq_eq _ _ h2, optEq_eq opndEq_eq _ _ h3, optEq_eq opndEq_eq _ _ h4, optEq_eq opndEq_eq _ _ h5]
  · obtain ⟨h1, h2⟩ := a2 e; obtain ⟨h2, h3⟩ := a2 h2; rw [nb h1, opndEq_eq _ _ h2, nb h3]
  · obtain ⟨h1, h2⟩ := a2 e; obtain ⟨h2, h3⟩ := a2 h2; rw [nb h1, opndEq_eq _ _ h2, nb h3]
  · obtain ⟨h1, h2⟩ := a2 e; obtain ⟨h2, h3⟩ := a2 h2; rw [nb h1, opndEq_eq _ _ h2, opndEq_eq _ _ h3]
  · obtain ⟨h1, h2⟩ := a2 e; obtain ⟨h2, h3⟩ := a2 h2; rw [nb h1, opndEq_eq _ _ h2, opndEq_eq _ _ h3]
  · obtain ⟨h1, h2⟩ := a2 e; obtain ⟨h2, h3⟩ := a2 h2; obtain ⟨h3, h4⟩ := a2 h3; rw [nb h1, opndEq_eq _ _ h2, opndEq_eq _ _ h3, boolEq_eq _ _ h4]
  · obtain ⟨h1, h2⟩ := a2 e; obtain ⟨h2, h3⟩ := a2 h2; obtain ⟨h3, h4⟩ := a2 h3; rw [nb h1, opndEq_eq _ _ h2, opndEq_eq _ _ h3, opndEq_eq _ _ h4]
  · obtain ⟨h1, h2⟩ := a2 e; rw [nb h1, opndEq_eq _ _ h2]
  · obtain ⟨h1, h2⟩ := a2 e; rw [opndEq_eq _ _ h1, boolEq_eq _ _ h2]
  · obtain ⟨h1, h2⟩ := a2 e; rw [opndEq_eq _ _ h1, nb h2]
  · rw [opndEq_eq _ _ e]
  · rw [opndEq_eq _ _ e]
  · rw [callEq_eq _ _ e]
def edgeEq (a b : Edge) : Bool := Nat.beq a.on b.on && decide (a.ground = b.ground)
theorem edgeEq_eq (a b : Edge) (e : edgeEq a b = true) : a = b := by
  obtain ⟨h1, h2⟩ := a2 e
  cases a; cases b
  simp only at h1 h2
  rw [nb h1, of_decide_eq_true h2]
def guardEq (a b : Nat × Bool) : Bool := Nat.beq a.1 b.1 && boolEq a.2 b.2
theorem guardEq_eq (a b : Nat × Bool) (e : guardEq a b = true) : a = b := by
  obtain ⟨h1, h2⟩ := a2 e
  exact Prod.ext (nb h1) (boolEq_eq _ _ h2)
def operEq (a b : Oper) : Bool := optEq Nat.beq a.dst b.dst && (opEq a.op b.op && (Nat.beq a.type b.type && (decide (a.pos = b.pos) && (listEq edgeEq a.after.toList b.after.toList && optEq guardEq a.guard b.guard))))
theorem operEq_eq (a b : Oper) (e : operEq a b = true) : a = b := by
  unfold operEq at e
  obtain ⟨h1, e⟩ := a2 e
  obtain ⟨h2, e⟩ := a2 e
  obtain ⟨h3, e⟩ := a2 e
  obtain ⟨h4, e⟩ := a2 e
  obtain ⟨h5, h6⟩ := a2 e
  cases a; cases b
  simp only at h1 h2 h3 h4 h5 h6
  rw [optEq_eq (fun _ _ => nb) _ _ h1, opEq_eq _ _ h2, nb h3, of_decide_eq_true h4, arrE edgeEq_eq h5, optEq_eq guardEq_eq _ _ h6]
def codeEq : Code → Code → Bool
  | .skip, d => (match d with | .skip => true | _ => false)
  | .region i x w, d => (match d with | .region j y v => Nat.beq i j && (listEq operEq x.toList y.toList && boolEq w v) | _ => false)
  | .seq a b, d => (match d with | .seq a' b' => codeEq a a' && codeEq b b' | _ => false)
  | .cond c a b, d => (match d with | .cond c' a' b' => opndEq c c' && (codeEq a a' && codeEq b b') | _ => false)
  | .block i a, d => (match d with | .block j a' => Nat.beq i j && codeEq a a' | _ => false)
  | .loop a, d => (match d with | .loop a' => codeEq a a' | _ => false)
  | .rangeFunc f ps a b, d => (match d with | .rangeFunc f' ps' a' b' => opndEq f f' && (listEq Nat.beq ps.toList ps'.toList && (codeEq a a' && codeEq b b')) | _ => false)
  | .exit i, d => (match d with | .exit j => Nat.beq i j | _ => false)
  | .scope a, d => (match d with | .scope a' => codeEq a a' | _ => false)
  | .ret, d => (match d with | .ret => true | _ => false)
  | _, _ => false
theorem codeEq_eq : ∀ (a b : Code), codeEq a b = true → a = b := by
  intro a
  induction a <;> intro d e <;> unfold codeEq at e <;> first | (cases e; done) | skip
  all_goals (split at e <;> first | (cases e; done) | skip)
  all_goals first | rfl | skip
  · obtain ⟨h1, h2⟩ := a2 e; obtain ⟨h2, h3⟩ := a2 h2; rw [nb h1, arrE operEq_eq h2, boolEq_eq _ _ h3]
  · rename_i iha ihb _ _ _; obtain ⟨h1, h2⟩ := a2 e; rw [iha _ h1, ihb _ h2]
  · rename_i iha ihb _ _ _ _; obtain ⟨h1, h2⟩ := a2 e; obtain ⟨h2, h3⟩ := a2 h2; rw [opndEq_eq _ _ h1, iha _ h2, ihb _ h3]
  · rename_i ih _ _ _; obtain ⟨h1, h2⟩ := a2 e; rw [nb h1, ih _ h2]
  · rename_i ih _ _; rw [ih _ e]
  · rename_i iha ihb _ _ _ _ _; obtain ⟨h1, h2⟩ := a2 e; obtain ⟨h2, h3⟩ := a2 h2; obtain ⟨h3, h4⟩ := a2 h3; rw [opndEq_eq _ _ h1, arrE (fun _ _ => nb) h2, iha _ h3, ihb _ h4]
  · rw [nb e]
  · rename_i ih _ _; rw [ih _ e]
end Go.Eng
/-
  States that are the same but for the numbers of blocks that a turn of a loop has laid; what else was laid is forgotten.
-/
namespace Go.Eng
def idxP : List Nat → Nat → Nat → Option Nat
  | [], _, _ => none
  | a :: l, i, n => match Nat.beq a i with | true => some n | false => idxP l i (n + 1)
def sgP (N : Nat) (olds : List Nat) (i : Nat) : Option Nat := match Nat.blt i N with | true => some i | false => idxP olds i N
def renP (ρ : Ren) (N : Nat) (olds : List Nat) : Ren := fun j => if j < N then ρ j else (olds[j - N]?).bind ρ
theorem idxP_some : ∀ (l : List Nat) (i n k : Nat), idxP l i n = some k → n ≤ k ∧ l[k - n]? = some i
  | [], _, _, _, h => by cases h
  | a :: l, i, n, k, h => by
    unfold idxP at h
    split at h
    · rename_i e
      cases h
      exact ⟨Nat.le_refl _, by rw [Nat.sub_self, nb e]; rfl⟩
    · obtain ⟨h1, h2⟩ := idxP_some l i (n + 1) k h
      refine ⟨by omega, ?_⟩
      rw [show k - n = (k - (n + 1)) + 1 by omega]
      simpa using h2
theorem sg_ren {ρ : Ren} {N : Nat} {olds : List Nat} {i j : Nat} (h : sgP N olds i = some j) : renP ρ N olds j = ρ i := by
  unfold sgP at h
  unfold renP
  split at h
  · rename_i e
    cases h
    rw [Nat.blt_eq] at e
    rw [if_pos e]
  · obtain ⟨h1, h2⟩ := idxP_some _ _ _ _ h
    rw [if_neg (by omega), h2]; rfl
def simB (N : Nat) (olds : List Nat) (i j : Nat) : Bool := match sgP N olds i with | some k => Nat.beq k j | none => false
theorem simB_eq {N : Nat} {olds : List Nat} {i j : Nat} (h : simB N olds i j = true) : sgP N olds i = some j := by
  unfold simB at h
  split at h
  · rename_i k e; rw [e, nb h]
  · cases h
def nospot (a : Addr) : Bool := match a.spot with | none => true | some _ => false
theorem nospot_eq {a : Addr} (h : nospot a = true) : a.spot = none := by
  unfold nospot at h
  split at h
  · assumption
  · cases h
def simA (N : Nat) (olds : List Nat) (a b : Addr) : Bool := simB N olds a.block b.block && (Nat.beq a.off b.off && (nospot a && nospot b))
def simF (N : Nat) (olds : List Nat) (f g : Fn) : Bool := match f with
  | .func x => (match g with | .func y => Nat.beq x y | _ => false)
  | .yield x => (match g with | .yield y => simB N olds x y | _ => false)
  | _ => false
def simV (N : Nat) (olds : List Nat) : Nat → Value → Value → Bool
  | 0, _, _ => false
  | n + 1, u, v => match u with
    | .pointer (some a) => (match v with | .pointer (some b) => simA N olds a b | _ => false)
    | .pointer none => (match v with | .pointer none => true | _ => false)
    | .slice (some a) m c => (match v with | .slice (some b) m' c' => simA N olds a b && (Nat.beq m m' && Nat.beq c c') | _ => false)
    | .map (some r) => (match v with | .map (some r') => simB N olds r r' | _ => false)
    | .map none => (match v with | .map none => true | _ => false)
    | .nilFunc => (match v with | .nilFunc => true | _ => false)
    | .nilIface => (match v with | .nilIface => true | _ => false)
    | .func f a b => (match v with | .func g c d => simF N olds f g && (listEq (simV N olds n) a.toList c.toList && listEq (simV N olds n) b.toList d.toList) | _ => false)
    | .agg a => (match v with | .agg b => listEq (simV N olds n) a.toList b.toList | _ => false)
    | .tuple a => (match v with | .tuple b => listEq (simV N olds n) a.toList b.toList | _ => false)
    | .iface t x => (match v with | .iface u y => Nat.beq t u && simV N olds n x y | _ => false)
    | u => plain u && vflat u v
section
variable {ρ : Ren} {N : Nat} {olds : List Nat}
theorem simA_rel {a b a' : Addr} (h : simA N olds a b = true) (hr : ARel ρ a a') : ARel (renP ρ N olds) b a' := by
  unfold simA at h
  obtain ⟨h1, h⟩ := a2 h
  obtain ⟨h2, h⟩ := a2 h
  obtain ⟨h3, h4⟩ := a2 h
  obtain ⟨g1, g2, im, g3, g4, g5⟩ := hr
  exact ⟨nospot_eq h4, g2, im, by rw [sg_ren (simB_eq h1)]; exact g3, g4, by rw [← nb h2]; exact g5⟩
theorem ifB_if' (a b : Bool) : ifB a b false = (a && b) := by cases a <;> rfl
theorem listEq_get {α : Type} {f : α → α → Bool} : ∀ {l m : List α}, listEq f l m = true → l.length = m.length ∧ ∀ (i : Nat) (x y : α), l[i]? = some x → m[i]? = some y → f x y = true
  | [], [], _ => ⟨rfl, fun i x y h => by simp at h⟩
  | a :: l, b :: m, h => by
    unfold listEq at h
    rw [ifB_if'] at h
    obtain ⟨h1, h2⟩ := a2 h
    obtain ⟨g1, g2⟩ := listEq_get h2
    refine ⟨by simp [g1], fun i x y hx hy => ?_⟩
    cases i with
    | zero => simp at hx hy; subst hx hy; exact h1
    | succ i => exact g2 i x y (by simpa using hx) (by simpa using hy)
  | [], _ :: _, h => by cases h
  | _ :: _, [], h => by cases h
theorem simV_rel : ∀ (n : Nat) {u v w : Value}, simV N olds n u v = true → VRel ρ u w → VRel (renP ρ N olds) v w
  | 0, _, _, _, h, _ => by cases h
  | n + 1, u, v, w, h, hr => by
    have lst : ∀ {l m k : List Value}, listEq (simV N olds n) l m = true → LRel ρ l k → LRel (renP ρ N olds) m k := by
      intro l m k h hl
      obtain ⟨g1, g2⟩ := listEq_get h
      refine ⟨by rw [← g1]; exact hl.1, fun i x x' hx hx' => ?_⟩
      have hi : i < l.length := by rw [g1]; exact (List.getElem?_eq_some_iff.1 hx).1
      exact simV_rel n (g2 i _ _ (List.getElem?_eq_getElem hi) hx) (hl.2 i _ x' (List.getElem?_eq_getElem hi) hx')
    unfold simV at h
    split at h
    · split at h
      · cases hr with | ptr _ a' ha => exact .ptr _ _ (simA_rel h ha)
      · cases h
    · split at h
      · cases hr; exact .nilPtr
      · cases h
    · split at h
      · obtain ⟨h1, h⟩ := a2 h
        obtain ⟨h2, h3⟩ := a2 h
        have h2 := nb h2
        have h3 := nb h3
        subst h2 h3
        unfold simA at h1
        obtain ⟨k1, h1⟩ := a2 h1
        obtain ⟨k2, h1⟩ := a2 h1
        obtain ⟨k3, k4⟩ := a2 h1
        cases hr with
        | slice _ _ _ a' c' hs =>
          obtain ⟨g1, g2, im, g3, g4, g5⟩ := hs
          exact .slice _ _ _ _ _ ⟨nospot_eq k4, g2, im, by rw [sg_ren (simB_eq k1)]; exact g3, g4, by rw [← nb k2]; exact g5⟩
        | ghost _ a' im z g1 g2 g3 => exact .ghost _ _ im z (nospot_eq k4) (by rw [sg_ren (simB_eq k1)]; exact g2) g3
      · cases h
    · split at h
      · cases hr with | map _ im hm => exact .map _ im (by rw [sg_ren (simB_eq h)]; exact hm)
      · cases h
    · split at h
      · cases hr; exact .nilMap
      · cases h
    · split at h
      · cases hr; exact .nilFunc
      · cases h
    · split at h
      · cases hr; exact .nilIface
      · cases h
    · split at h
      · obtain ⟨h1, h⟩ := a2 h
        obtain ⟨h2, h3⟩ := a2 h
        obtain ⟨f', a', b', rfl, hf, ha, hb⟩ := hr.func_inv
        refine .func' ?_ (lst h2 ha) (lst h3 hb)
        unfold simF at h1
        split at h1
        · split at h1
          · rw [nb h1] at hf
            cases hf with | same _ hh => exact .same _ hh
          · cases h1
        · split at h1
          · cases hf with
            | same _ hh => exact absurd rfl (hh _)
            | yield _ im hh => exact .yield _ im (by rw [sg_ren (simB_eq h1)]; exact hh)
          · cases h1
        · cases h1
      · cases h
    · split at h
      · cases hr with
        | agg _ a' hs hv =>
          have := lst h (k := a'.toList) ⟨by simpa using hs, fun i x x' h1 h2 => hv i x x' (by simpa using h1) (by simpa using h2)⟩
          exact .agg _ _ (by simpa using this.1) (fun i x x' h1 h2 => this.2 i x x' (by simpa using h1) (by simpa using h2))
      · cases h
    · split at h
      · cases hr with
        | tuple _ a' hs hv =>
          have := lst h (k := a'.toList) ⟨by simpa using hs, fun i x x' h1 h2 => hv i x x' (by simpa using h1) (by simpa using h2)⟩
          exact .tuple _ _ (by simpa using this.1) (fun i x x' h1 h2 => this.2 i x x' (by simpa using h1) (by simpa using h2))
      · cases h
    · split at h
      · obtain ⟨h1, h2⟩ := a2 h
        rw [← nb h1]
        cases hr with | iface _ _ v' hv => exact .iface _ _ _ (simV_rel n h2 hv)
      · cases h
    · obtain ⟨h1, h2⟩ := a2 h
      have := vflat_eq _ _ h2
      subst this
      have := plain_rel hr h1
      subst this
      exact plain_self _ h1
noncomputable def simReg (N : Nat) (olds : List Nat) (a b : T Value) (t : Nat) : Bool := match b.get t with
  | some v => (match a.get t with | some u => simV N olds 6 u v | none => false)
  | none => (match a.get t with | some _ => false | none => true)
noncomputable def simTm (N : Nat) (olds : List Nat) (nt : Nat) (a b : T Value) : Bool := (List.range nt).all fun t => simReg N olds a b t
theorem undef_rel {ρ ρ' : Ren} {v : Value} (h : VRel ρ undef v) : VRel ρ' undef v := by
  cases h with
  | tuple _ a' hs _ => exact .tuple _ _ hs (fun i x x' h1 _ => by simp at h1)
theorem simTm_rel {nt : Nat} {a b : T Value} {tmps : Array Value} (h : simTm N olds nt a b = true) (hb : ∀ t v, b.get t = some v → t < nt) (ht : TmRel ρ nt a tmps) : TmRel (renP ρ N olds) nt b tmps := by
  refine ⟨ht.1, fun t => ?_⟩
  by_cases hn : t < nt
  · have h1 := List.all_eq_true.1 h t (List.mem_range.2 hn)
    have h2 := ht.2 t
    unfold simReg at h1
    split at h1
    · rename_i v hv
      split at h1
      · rename_i u hu
        rw [hv, Option.getD_some]
        rw [hu, Option.getD_some] at h2
        exact simV_rel _ h1 h2
      · cases h1
    · rename_i hv
      split at h1
      · cases h1
      · rename_i hu
        rw [hv, Option.getD_none]
        rw [hu, Option.getD_none] at h2
        exact undef_rel h2
  · have hv : b.get t = none := by
      cases hh : b.get t with
      | none => rfl
      | some v => exact absurd (hb t v hh) hn
    rw [hv, Option.getD_none, Array.getD_eq_getD_getElem?, Array.getElem?_eq_none (by rw [ht.1]; omega)]
    exact .tuple _ _ rfl (fun i x x' h1 _ => by simp at h1)
def stEq (a b : LoopState) : Bool := match a with
  | .ready => (match b with | .ready => true | _ => false)
  | .busy => (match b with | .busy => true | _ => false)
  | .done => (match b with | .done => true | _ => false)
  | .exhausted => (match b with | .exhausted => true | _ => false)
theorem stEq_eq {a b : LoopState} (h : stEq a b = true) : a = b := by cases a <;> cases b <;> first | rfl | cases h
def nonePend (p : Option Code) : Bool := match p with | none => true | some _ => false
theorem nonePend_eq {p : Option Code} (h : nonePend p = true) : p = none := by cases p with | none => rfl | some _ => cases h
def A.keysLow (nt : Nat) : A Value → Bool
  | .nil => true
  | .cons k _ r => Nat.blt k nt && A.keysLow nt r
def T.keysLow (nt : Nat) : T Value → Bool
  | .leaf es => A.keysLow nt es
  | .node _ l r => T.keysLow nt l && T.keysLow nt r
theorem A.keysLow_get {nt : Nat} : ∀ {es : A Value}, A.keysLow nt es = true → ∀ {k : Nat} {v : Value}, es.get k = some v → k < nt
  | .nil, _, k, v, h => by rw [A.get_nil] at h; cases h
  | .cons m x r, hl, k, v, h => by
    obtain ⟨h1, h2⟩ := a2 hl
    rw [A.get_cons] at h
    cases hb : Nat.beq m k with
    | true => rw [← nb hb]; rw [Nat.blt_eq] at h1; exact h1
    | false => rw [hb] at h; exact A.keysLow_get h2 h
theorem T.keysLow_get {nt : Nat} : ∀ {t : T Value}, T.keysLow nt t = true → ∀ {k : Nat} {v : Value}, t.get k = some v → k < nt
  | .leaf es, hl, k, v, h => A.keysLow_get hl h
  | .node m l r, hl, k, v, h => by
    obtain ⟨h1, h2⟩ := a2 hl
    rw [T.get_node] at h
    cases hb : Nat.ble m k with
    | true => rw [hb] at h; exact T.keysLow_get h2 h
    | false => rw [hb] at h; exact T.keysLow_get h1 h
def entEq (N : Nat) (olds : List Nat) (x y : Value × Value) : Bool := veq x.1 y.1 && simV N olds 6 x.2 y.2
noncomputable def simO (N : Nat) (olds : List Nat) (a b : AObj) : Bool := match a with
  | .cells c e es => (match b with | .cells d e' es' => listEq (simV N olds 6) c d && (Nat.beq e e' && optNatEq es es') | _ => false)
  | .map es => (match b with | .map es' => listEq (entEq N olds) es es' | _ => false)
  | .defs x => (match b with | .defs y => boolEq x y | _ => false)
  | .miter (some r) n seen => (match b with | .miter (some r') n' seen' => simB N olds r r' && (Nat.beq n n' && listEq Nat.beq seen seen') | _ => false)
  | .loop st p tm nt ps asg body d => (match b with
    | .loop st' p' tm' nt' ps' asg' body' d' => stEq st st' && (nonePend p && (nonePend p' && (Nat.beq nt nt' && (simTm N olds nt tm tm' && (T.keysLow nt tm' && (listEq Nat.beq ps.toList ps'.toList && (codeEq asg asg' && (codeEq body body' && simB N olds d d'))))))))
    | _ => false)
  | _ => false
theorem simO_rel {im : Img} {wr wr' : Prop} (hw : wr' → wr) {a b : AObj} {O : Obj} (h : simO N olds a b = true) (hr : ORel ρ im wr a O) : ORel (renP ρ N olds) im wr' b O := by
  unfold simO at h
  split at h
  · split at h
    · obtain ⟨h1, h⟩ := a2 h
      obtain ⟨h2, h3⟩ := a2 h
      have h2 := nb h2
      have h3 := optNatEq_eq h3
      subst h2 h3
      obtain ⟨g1, g2⟩ := listEq_get h1
      cases hr with
      | cells _ _ _ C fr hes hsz hknown hfit hcell hfr =>
        refine .cells _ _ _ C fr hes hsz (fun e => by rw [← g1]; exact hknown e) (by rw [← g1]; exact hfit) ?_ (fun e => hfr (hw e))
        intro k v hv
        have hk : k < _ := (List.getElem?_eq_some_iff.1 hv).1
        rw [← g1] at hk
        obtain ⟨v', r1, r2⟩ := hcell k _ (List.getElem?_eq_getElem hk)
        exact ⟨v', r1, simV_rel _ (g2 k _ _ (List.getElem?_eq_getElem hk) hv) r2⟩
    · cases h
  · split at h
    · obtain ⟨g1, g2⟩ := listEq_get h
      cases hr with
      | map _ ES clock hsz hent hborn =>
        refine .map _ ES clock (by rw [← g1]; exact hsz) ?_ (by rw [← g1]; exact hborn)
        intro k x hx
        have hk : k < _ := (List.getElem?_eq_some_iff.1 hx).1
        rw [← g1] at hk
        obtain ⟨e, r1, r2, r3, r4⟩ := hent k _ (List.getElem?_eq_getElem hk)
        have := g2 k _ _ (List.getElem?_eq_getElem hk) hx
        unfold entEq at this
        obtain ⟨t1, t2⟩ := a2 this
        have t1 := veq_eq _ _ t1
        exact ⟨e, r1, by rw [← t1]; exact r2, by rw [← t1]; exact r3, simV_rel _ t2 r4⟩
    · cases h
  · split at h
    · rw [← boolEq_eq _ _ h]
      cases hr with
      | defsT => exact .defsT
      | defsF => exact .defsF
    · cases h
  · split at h
    · obtain ⟨h1, h⟩ := a2 h
      obtain ⟨h2, h3⟩ := a2 h
      have h2 := nb h2
      have h3 := listEq_eq (fun _ _ => nb) h3
      subst h2 h3
      cases hr with
      | miter _ _ _ mm hsh hm => exact .miter _ _ _ mm hsh (by rw [sg_ren (simB_eq h1)]; exact hm)
    · cases h
  · split at h
    · obtain ⟨h1, h⟩ := a2 h
      obtain ⟨h2, h⟩ := a2 h
      obtain ⟨h3, h⟩ := a2 h
      obtain ⟨h4, h⟩ := a2 h
      obtain ⟨h5, h⟩ := a2 h
      obtain ⟨h6, h⟩ := a2 h
      obtain ⟨h7, h⟩ := a2 h
      obtain ⟨h8, h⟩ := a2 h
      obtain ⟨h9, h10⟩ := a2 h
      cases hr with
      | loop _ _ _ _ _ _ _ _ l dm k1 k2 k3 k4 k5 k6 k7 k8 =>
        have h4 := nb h4
        subst h4
        refine .loop _ _ _ _ _ _ _ _ l dm (by rw [← stEq_eq h1]; exact k1) (by rw [nonePend_eq h3]; rw [nonePend_eq h2] at k2; exact k2) (simTm_rel h5 (fun t v hv => T.keysLow_get h6 hv) k3)
          (by rw [← arrE (fun _ _ => nb) h7]; exact k4) (by rw [← codeEq_eq _ _ h8]; exact k5) (by rw [← codeEq_eq _ _ h9]; exact k6) (by rw [sg_ren (simB_eq h10)]; exact k7) k8
    · cases h
  · cases h
end
end Go.Eng
/-
  A range over a map whose turns may come in any order: by a table of the states that turns lead to.
-/
namespace Go.Eng
noncomputable section
structure LTabS where
  tm : List (Nat × Option Value)
  high : List (Nat × Option AObj)
  g : Nat
structure LTab where
  ib : Nat
  r : Nat
  low : List Nat
  states : List LTabS
  next : List (List (Nat × List Nat))
  acc : List Nat
  fold : List (List Nat)
section
variable (C : Cfg) (self : Self) (rd : Option Nat) (nt : Nat) (ops : Array Oper) (b2 : Code)
def noneB {α : Type} (x : Option α) : Bool := match x with | none => true | some _ => false
end
theorem HRel.sub {base : Nat} {ρ : Ren} {hM hK : Hp} {w : World} (H : HRel base ρ hM w) (hs : ∀ i o, hK.get i = some o → hM.get i = some o) (hn : hM.next = hK.next) (hr : hM.ro = hK.ro) : HRel base ρ hK w :=
  ⟨fun i o hi => H.obj i o (hs i o hi), fun i j im jm o p hi hj => H.inj i j im jm o p (hs i o hi) (hs j p hj), fun i im h => by rw [← hn]; exact H.dom i im h, by rw [← hr]; exact H.baseRo, by rw [← hr, ← hn]; exact H.roNext⟩
theorem noneB_eq {α : Type} {x : Option α} (h : noneB x = true) : x = none := by cases x with | none => rfl | some _ => cases h
section
variable {C : Cfg} (hC : C.Ok) {self : Self} (hs : Sound C self)
include hC hs in
end
def QF (base : Nat) (ρ : Ren) (nt ib : Nat) (X : AObj) (s : S) (w : World) (e : Ex) (s' : S) : Exit → Act → World → Prop := fun ex a' w' =>
  s'.h.get ib = none ∧ s.h.next ≤ s'.h.next ∧ s'.h.ro = s.h.ro ∧ ∃ ρ', ExRel ρ' e ex ∧ Step base ρ (s.h.upd ib X) w ρ' (s'.h.upd ib X) w' ∧ TmRel ρ' nt s'.tm a'.tmps ∧ DfRel ρ' s'.df a'.defers
theorem QF.after {base : Nat} {ρ ρ1 : Ren} {nt ib : Nat} {X : AObj} {s s1 s' : S} {w w1 : World} {e : Ex} (H : HRel base ρ (s.h.upd ib X) w) (st : Step base ρ (s.h.upd ib X) w ρ1 (s1.h.upd ib X) w1) (hn : s.h.next ≤ s1.h.next) (hr : s1.h.ro = s.h.ro) {ex : Exit} {a : Act} {w' : World}
    (h : QF base ρ1 nt ib X s1 w1 e s' ex a w') : QF base ρ nt ib X s w e s' ex a w' := by
  obtain ⟨g1, g2, g3, ρ2, k1, k2, k3, k4⟩ := h
  exact ⟨g1, Nat.le_trans hn g2, g3.trans hr, ρ2, k1, st.trans H k2, k3, k4⟩
section
variable {C : Cfg} (hC : C.Ok) {self : Self} (hs : Sound C self)
include hs in
include hC hs in
include hC hs in
end
section
variable {C : Cfg} (hC : C.Ok) {self : Self} (hs : Sound C self)
include hC hs in
include hC hs in
end
end
end Go.Eng
/-
  A region that draws its order, with one store: all orders lead to one state, by the sets of what was done.
-/
namespace Go.Eng
def vEq : Nat → Value → Value → Bool
  | 0, _, _ => false
  | n + 1, u, v => match u with
    | .pointer (some a) => (match v with | .pointer (some b) => Nat.beq a.block b.block && (Nat.beq a.off b.off && (nospot a && nospot b)) | _ => false)
    | .pointer none => (match v with | .pointer none => true | _ => false)
    | .map (some r) => (match v with | .map (some r') => Nat.beq r r' | _ => false)
    | .map none => (match v with | .map none => true | _ => false)
    | .nilFunc => (match v with | .nilFunc => true | _ => false)
    | .nilIface => (match v with | .nilIface => true | _ => false)
    | .func f a b => (match v with | .func g c d => (match f with | .func x => (match g with | .func y => Nat.beq x y | _ => false) | .yield x => (match g with | .yield y => Nat.beq x y | _ => false) | _ => false) && (listEq (vEq n) a.toList c.toList && listEq (vEq n) b.toList d.toList) | _ => false)
    | .agg a => (match v with | .agg b => listEq (vEq n) a.toList b.toList | _ => false)
    | .tuple a => (match v with | .tuple b => listEq (vEq n) a.toList b.toList | _ => false)
    | .iface t x => (match v with | .iface u y => Nat.beq t u && vEq n x y | _ => false)
    | u => vflat u v
theorem addr_same {a b : Addr} (h1 : a.block = b.block) (h2 : a.off = b.off) (h3 : a.spot = none) (h4 : b.spot = none) : a = b := by
  cases a; cases b; simp_all
theorem vEq_eq : ∀ (n : Nat) (u v : Value), vEq n u v = true → u = v
  | 0, _, _, h => by cases h
  | n + 1, u, v, h => by
    have ih := vEq_eq n
    unfold vEq at h
    split at h
    · split at h
      · obtain ⟨h1, h⟩ := a2 h
        obtain ⟨h2, h⟩ := a2 h
        obtain ⟨h3, h4⟩ := a2 h
        rw [addr_same (nb h1) (nb h2) (nospot_eq h3) (nospot_eq h4)]
      · cases h
    · split at h
      · rfl
      · cases h
    · split at h
      · rw [nb h]
      · cases h
    · split at h
      · rfl
      · cases h
    · split at h
      · rfl
      · cases h
    · split at h
      · rfl
      · cases h
    · split at h
      · obtain ⟨h1, h⟩ := a2 h
        obtain ⟨h2, h3⟩ := a2 h
        rw [arrE ih h2, arrE ih h3]
        split at h1
        · split at h1
          · rw [nb h1]
          · cases h1
        · split at h1
          · rw [nb h1]
          · cases h1
        · cases h1
      · cases h
    · split at h
      · rw [arrE ih h]
      · cases h
    · split at h
      · rw [arrE ih h]
      · cases h
    · split at h
      · obtain ⟨h1, h2⟩ := a2 h
        rw [nb h1, ih _ _ h2]
      · cases h
    · exact vflat_eq _ _ h
noncomputable section
def sameTm (nt : Nat) (a b : T Value) : Bool := (List.range nt).all fun t => match a.get t with
  | some u => (match b.get t with | some v => vEq 6 u v | none => false)
  | none => noneB (b.get t)
theorem sameTm_rel {ρ : Ren} {nt : Nat} {a b : T Value} {tmps : Array Value} (h : sameTm nt a b = true) (hb : T.keysLow nt b = true) (ht : TmRel ρ nt a tmps) : TmRel ρ nt b tmps := by
  refine ⟨ht.1, fun t => ?_⟩
  have h2 := ht.2 t
  by_cases hn : t < nt
  · have h1 := List.all_eq_true.1 h t (List.mem_range.2 hn)
    split at h1
    · rename_i u hu
      split at h1
      · rename_i v hv
        rw [hv, ← vEq_eq _ _ _ h1, ← hu]; exact h2
      · cases h1
    · rename_i hu
      rw [noneB_eq h1, ← hu]; exact h2
  · have hv : b.get t = none := by
      cases hh : b.get t with
      | none => rfl
      | some v => exact absurd (T.keysLow_get hb hh) hn
    rw [hv, Option.getD_none, Array.getD_eq_getD_getElem?, Array.getElem?_eq_none (by rw [ht.1]; omega)]
    exact .tuple _ _ rfl (fun i x x' h1 _ => by simp at h1)
def stillOp : Op → Bool
  | .move _ | .assign _ | .pick .. | .load .. | .nilCheck _ | .binOp .. | .fieldAddr .. | .field .. | .indexAddr .. | .index .. | .extract .. | .build .. => true
  | _ => false
theorem calm_heap {E : Env} {ev : Ev} {o : Oper} {h h' : Hp} {v : Value} (hc : stillOp o.op = true) (e : opV E ev o h = some (.val v h')) : h' = h := by
  have pure : ∀ {x : Option Value}, pureOp h x = some (.val v h') → h' = h := by
    intro x hx
    unfold pureOp at hx
    obtain ⟨u, _, hx⟩ := bind_some' hx
    cases hx; rfl
  unfold stillOp at hc
  unfold opV at e
  split at hc
  all_goals first | (cases hc; done) | skip
  all_goals (rename_i hop; rw [hop] at e; simp only at e)
  · exact pure e
  · exact pure e
  · unfold opPick op3 at e
    obtain ⟨a, _, e⟩ := bind_some' e
    obtain ⟨b, _, e⟩ := bind_some' e
    obtain ⟨c, _, e⟩ := bind_some' e
    dsimp only at e
    split at e
    · cases e; rfl
    · cases e; rfl
    · cases e
  · unfold opLoad op1 at e
    obtain ⟨a, _, e⟩ := bind_some' e
    exact pure e
  · unfold opNilCheck op1 at e
    obtain ⟨a, _, e⟩ := bind_some' e
    exact pure e
  · unfold opBin op2 at e
    obtain ⟨a, _, e⟩ := bind_some' e
    obtain ⟨b, _, e⟩ := bind_some' e
    exact pure e
  · unfold opFieldAddr op1 at e
    obtain ⟨a, _, e⟩ := bind_some' e
    exact pure e
  · unfold opField op1 at e
    obtain ⟨a, _, e⟩ := bind_some' e
    exact pure e
  · unfold opIndexAddr op2 at e
    obtain ⟨a, _, e⟩ := bind_some' e
    obtain ⟨b, _, e⟩ := bind_some' e
    exact pure e
  · unfold opIndex op2 at e
    obtain ⟨a, _, e⟩ := bind_some' e
    obtain ⟨b, _, e⟩ := bind_some' e
    exact pure e
  · unfold opExtract op1 at e
    obtain ⟨a, _, e⟩ := bind_some' e
    try dsimp only at e
    split at e
    · exact pure e
    · cases e
  · unfold opBuild at e
    obtain ⟨a, _, e⟩ := bind_some' e
    exact pure e
structure St1 where
  k : Nat
  t : TypeId
  x : Operand
  y : Operand
  vx : Value
  vy : Value
  h1 : Hp
section
variable (C : Cfg) (nt : Nat) (ops : Array Oper) (h0 : Hp) (st : Option St1)
def readyM (mask i : Nat) : Bool := match ops[i]? with
  | some o => !(Nat.testBit mask i) && o.after.toList.all fun e => !(Region.binds .any e) || Nat.testBit mask e.on
  | none => false
def findM (m : Nat) : List (Nat × T Value) → Option (T Value)
  | [] => none
  | (n, t) :: l => match Nat.beq n m with | true => some t | false => findM m l
end
theorem findM_mem {m : Nat} {t : T Value} : ∀ {l : List (Nat × T Value)}, findM m l = some t → (m, t) ∈ l
  | [], h => by cases h
  | (n, u) :: l, h => by
    unfold findM at h
    split at h
    · rename_i hb
      cases h; rw [nb hb]; exact .head _
    · exact .tail _ (findM_mem h)
theorem left_set {ops : Array Oper} {listed listed' : Array Bool} {i : Nat} (hset : ∀ j, lst listed' j = (lst listed j || j == i)) (hi : lst listed i = false) (hlt : i < ops.size) : left ops listed' + 1 = left ops listed := by
  unfold left
  have h1 : (List.range ops.size).filter (fun x => !lst listed' x) = ((List.range ops.size).filter (fun x => !lst listed x)).erase i := by
    rw [List.Nodup.erase_eq_filter (List.nodup_range.sublist List.filter_sublist), List.filter_filter]
    refine List.filter_congr (fun x _ => ?_)
    rw [hset, Bool.not_or, Bool.and_comm]; rfl
  rw [h1, List.length_erase_of_mem (List.mem_filter.2 ⟨List.mem_range.2 hlt, by rw [hi]; rfl⟩)]
  have := List.length_pos_of_mem (List.mem_filter (p := fun x => !lst listed x).2 ⟨List.mem_range.2 hlt, by simp [hi]⟩)
  omega
section
variable {C : Cfg} (hC : C.Ok) {self : Self} (hs : Sound C self)
include hC hs in
include hC hs in
end
end
end Go.Eng
/-
  A region that draws its order, with some operations that change the heap, one behind the other in all orders: by the sets of what was done.
-/
namespace Go.Eng
noncomputable section
structure Big1 where
  k : Nat
  tm : T Value
  v : Value
  h1 : Hp
def bigV (C : Cfg) (self : Self) (o : Oper) (tm : T Value) (h : Hp) : Option (Value × Hp) := (opV C.P (evTm tm) o h).bind fun r => match r with
  | .val v h' => some (v, h')
  | .call fn args => (callV C self fn args h).bind fun r => match r with | .ret v h' => some (v, h') | _ => none
  | _ => none
theorem bigV_op1 {C : Cfg} {self : Self} {rd : Option Nat} {nt : Nat} {ops : Array Oper} {o : Oper} {tm tm' : T Value} {h h' : Hp} {v : Value} (df : List Deferred) (hw : wantedV ops tm o = true) (e : bigV C self o tm h = some (v, h')) (hp : putTm nt tm o.dst v = some tm') :
    op1V C self rd nt ops o { tm, df, h } = some (.code .normal { tm := tm', df, h := h' }) := by
  unfold bigV at e
  obtain ⟨r, hr, e⟩ := bind_some' e
  unfold op1V
  rw [show wantedV ops ({ tm, df, h } : S).tm o = true from hw]
  simp only [hr, Option.bind_some]
  split at e
  · cases e
    simp only [hp, Option.bind_some]
  · obtain ⟨r2, hr2, e⟩ := bind_some' e
    simp only [hr2, Option.bind_some]
    split at e
    · cases e
      simp only [hp, Option.bind_some]
    · cases e
  · cases e
theorem bigV_congr {C : Cfg} {self : Self} {o : Oper} {tm tm2 : T Value} {h : Hp} (H : ∀ x ∈ o.op.operands, evTm tm x = evTm tm2 x) : bigV C self o tm h = bigV C self o tm2 h := by
  unfold bigV
  rw [opV_congr H]
def hpB : Hp → List Big1 → Nat → Hp
  | h0, [], _ => h0
  | h0, b :: l, mask => match Nat.testBit mask b.k with | true => hpB b.h1 l mask | false => h0
def nextB : List Big1 → Nat → Nat → Option Big1
  | [], _, _ => none
  | b :: l, mask, i => match Nat.testBit mask b.k with
    | true => nextB l mask i
    | false => match Nat.beq b.k i && l.all (fun c => !(Nat.testBit mask c.k) && !(Nat.beq c.k i)) with
      | true => some b
      | false => none
def isBigK (l : List Big1) (i : Nat) : Bool := l.any fun b => Nat.beq b.k i
def BigsOk (C : Cfg) (self : Self) (ops : Array Oper) : Hp → List Big1 → Prop
  | _, [] => True
  | h0, b :: l => (∃ o, ops[b.k]? = some o ∧ bigV C self o b.tm h0 = some (b.v, b.h1)) ∧ BigsOk C self ops b.h1 l
theorem bit_or (mask i j : Nat) : Nat.testBit (mask ||| 2 ^ i) j = (Nat.testBit mask j || decide (i = j)) := by
  rw [Nat.testBit_or, Nat.testBit_two_pow]
theorem hpB_later {mask i : Nat} : ∀ (l : List Big1) (h : Hp), l.all (fun c => !(Nat.testBit mask c.k) && !(Nat.beq c.k i)) = true → hpB h l (mask ||| 2 ^ i) = h
  | [], h, _ => rfl
  | b :: l, h, ha => by
    have h1 := List.all_eq_true.1 ha b (.head _)
    simp only [Bool.and_eq_true, Bool.not_eq_true'] at h1
    have hb : Nat.testBit (mask ||| 2 ^ i) b.k = false := by
      rw [bit_or, h1.1, Bool.false_or, decide_eq_false_iff_not]
      intro e
      rw [e, Nat.beq_refl] at h1
      exact absurd h1.2 (by simp)
    unfold hpB
    rw [hb]
theorem hpB_other {mask i : Nat} : ∀ (l : List Big1) (h : Hp), isBigK l i = false → hpB h l (mask ||| 2 ^ i) = hpB h l mask
  | [], h, _ => rfl
  | b :: l, h, ha => by
    unfold isBigK at ha
    rw [List.any_cons, Bool.or_eq_false_iff] at ha
    have hb : Nat.testBit (mask ||| 2 ^ i) b.k = Nat.testBit mask b.k := by
      rw [bit_or, decide_eq_false_iff_not.2, Bool.or_false]
      intro e
      rw [e, Nat.beq_refl] at ha
      cases ha.1
    unfold hpB
    rw [hb]
    split
    · exact hpB_other l _ ha.2
    · rfl
theorem next_ok {C : Cfg} {self : Self} {ops : Array Oper} {mask i : Nat} {b : Big1} : ∀ {l : List Big1} {h : Hp}, BigsOk C self ops h l → nextB l mask i = some b →
    ∃ o, ops[i]? = some o ∧ bigV C self o b.tm (hpB h l mask) = some (b.v, b.h1) ∧ hpB h l (mask ||| 2 ^ i) = b.h1
  | [], _, _, e => by cases e
  | c :: l, h, hb, e => by
    unfold nextB at e
    split at e
    · rename_i ht
      obtain ⟨o, h1, h2, h3⟩ := next_ok hb.2 e
      refine ⟨o, h1, ?_, ?_⟩
      · unfold hpB; rw [ht]; exact h2
      · unfold hpB
        rw [show Nat.testBit (mask ||| 2 ^ i) c.k = true by rw [bit_or, ht, Bool.true_or]]
        exact h3
    · rename_i ht
      split at e
      · rename_i hc
        cases e
        obtain ⟨hk, hl⟩ := a2 hc
        have hk := nb hk
        subst hk
        obtain ⟨o, h1, h2⟩ := hb.1
        refine ⟨o, h1, ?_, ?_⟩
        · unfold hpB; rw [ht]; exact h2
        · unfold hpB
          rw [show Nat.testBit (mask ||| 2 ^ b.k) b.k = true by rw [bit_or]; simp]
          exact hpB_later l _ hl
      · cases e
def evEq (a b : Option Value) : Bool := match a, b with
  | some u, some v => vEq 6 u v
  | _, _ => false
theorem evEq_eq {a b : Option Value} (h : evEq a b = true) : a = b := by
  unfold evEq at h
  split at h
  · rw [vEq_eq _ _ _ h]
  · cases h
section
variable (C : Cfg) (self : Self) (rd : Option Nat) (nt : Nat) (ops : Array Oper) (h0 : Hp) (bs : List Big1)
def opC2 (mask : Nat) (tm : T Value) (i : Nat) : Option (T Value) := (ops[i]?).bind fun o =>
  match isBigK bs i with
  | true => (nextB bs mask i).bind fun b => ok? (wantedV ops tm o && o.op.operands.toList.all (fun x => evEq (evTm tm x) (evTm b.tm x))) (putTm nt tm o.dst b.v)
  | false => match wantedV ops tm o with
    | false => putTm nt tm o.dst undef
    | true => ok? (stillOp o.op) <| (opV C.P (evTm tm) o (hpB h0 bs mask)).bind fun r => match r with
      | .val v _ => putTm nt tm o.dst v
      | _ => none
def nextLev21 (mask : Nat) (tm : T Value) : List Nat → List (Nat × T Value) → List (Nat × T Value)
  | [], out => out
  | i :: is, out => match readyM ops mask i with
    | false => nextLev21 mask tm is out
    | true => match findM (mask ||| 2 ^ i) out with
      | some _ => nextLev21 mask tm is out
      | none => match opC2 C nt ops h0 bs mask tm i with
        | some tm' => nextLev21 mask tm is ((mask ||| 2 ^ i, tm') :: out)
        | none => nextLev21 mask tm is out
def nextLev2 : List (Nat × T Value) → List (Nat × T Value) → List (Nat × T Value)
  | [], out => out
  | (m, t) :: l, out => nextLev2 l (nextLev21 C nt ops h0 bs m t (List.range ops.size) out)
def levOk2 (lev out : List (Nat × T Value)) : Bool := lev.all fun x => (List.range ops.size).all fun i => match readyM ops x.1 i with
  | false => true
  | true => match opC2 C nt ops h0 bs x.1 x.2 i, findM (x.1 ||| 2 ^ i) out with
    | some tm', some t => sameTm nt tm' t && T.keysLow nt t
    | _, _ => false
def confGo2 : Nat → List (Nat × T Value) → Option (Nat × T Value)
  | 0, lev => match lev with | [x] => some x | _ => none
  | n + 1, lev => let out := nextLev2 C nt ops h0 bs lev []
    ok? (levOk2 C nt ops h0 bs lev out) (confGo2 n out)
def bigsV : List Oper → Nat → S → Option (List Big1)
  | [], _, _ => some []
  | o :: l, i, s => match wantedV ops s.tm o && !(stillOp o.op) with
    | true => (bigV C self o s.tm s.h).bind fun x => (putTm nt s.tm o.dst x.1).bind fun tm => (bigsV l (i + 1) { s with tm, h := x.2 }).bind fun r => some (⟨i, s.tm, x.1, x.2⟩ :: r)
    | false => (op1V C self rd nt ops o s).bind fun r => match r with
      | .code .normal s1 => bigsV l (i + 1) { s with tm := s1.tm }
      | _ => none
def confV2 (s : S) : Option R :=
  (bigsV C self rd nt ops ops.toList 0 s).bind fun bs => (confGo2 C nt ops s.h bs ops.size [(0, s.tm)]).bind fun x => some (.code .normal { s with tm := x.2, h := hpB s.h bs x.1 })
end
theorem bigsV_ok {C : Cfg} {self : Self} {rd : Option Nat} {nt : Nat} {ops : Array Oper} : ∀ (l : List Oper) (i : Nat) (s : S) (bs : List Big1), (∀ j o, l[j]? = some o → ops[i + j]? = some o) → bigsV C self rd nt ops l i s = some bs → BigsOk C self ops s.h bs
  | [], i, s, bs, _, e => by cases e; trivial
  | o :: l, i, s, bs, hl, e => by
    unfold bigsV at e
    have hl' : ∀ j o, l[j]? = some o → ops[i + 1 + j]? = some o := fun j o' h => by
      have := hl (j + 1) o' (by simpa using h)
      rwa [show i + (j + 1) = i + 1 + j by omega] at this
    split at e
    · obtain ⟨x, hx, e⟩ := bind_some' e
      obtain ⟨tm, _, e⟩ := bind_some' e
      obtain ⟨r, hr, e⟩ := bind_some' e
      cases e
      exact ⟨⟨o, hl 0 o rfl, hx⟩, bigsV_ok l (i + 1) _ r hl' hr⟩
    · obtain ⟨r, _, e⟩ := bind_some' e
      split at e
      · have := bigsV_ok l (i + 1) _ bs hl' e
        exact this
      · cases e
theorem levOk2_get {C : Cfg} {nt : Nat} {ops : Array Oper} {h0 : Hp} {bs : List Big1} {lev out : List (Nat × T Value)} (h : levOk2 C nt ops h0 bs lev out = true) {m : Nat} {t : T Value} (hm : (m, t) ∈ lev) {i : Nat} (hi : i < ops.size) (hr : readyM ops m i = true) :
    ∃ tm' t', opC2 C nt ops h0 bs m t i = some tm' ∧ (m ||| 2 ^ i, t') ∈ out ∧ sameTm nt tm' t' = true ∧ T.keysLow nt t' = true := by
  have := List.all_eq_true.1 (List.all_eq_true.1 h _ hm) i (List.mem_range.2 hi)
  rw [hr] at this
  simp only at this
  split at this
  · rename_i tm' t' h1 h2
    obtain ⟨g1, g2⟩ := a2 this
    exact ⟨tm', t', h1, findM_mem h2, g1, g2⟩
  · cases this
section
variable {C : Cfg} (hC : C.Ok) {self : Self} (hs : Sound C self)
theorem opC2_op1 {rd : Option Nat} {nt : Nat} {ops : Array Oper} {h0 : Hp} {bs : List Big1} (hst : BigsOk C self ops h0 bs) {mask : Nat} {tm tm' : T Value} {i : Nat} {o : Oper} (ho : ops[i]? = some o) (e : opC2 C nt ops h0 bs mask tm i = some tm') (df : List Deferred) :
    op1V C self rd nt ops o { tm, df, h := hpB h0 bs mask } = some (.code .normal { tm := tm', df, h := hpB h0 bs (mask ||| 2 ^ i) }) := by
  unfold opC2 at e
  rw [ho] at e
  simp only [Option.bind_some] at e
  split at e
  · obtain ⟨b, hb, e⟩ := bind_some' e
    obtain ⟨e1, e⟩ := ok?_some e
    obtain ⟨c1, c2⟩ := a2 e1
    obtain ⟨o', h1, h2, h3⟩ := next_ok hst hb
    rw [ho] at h1
    cases h1
    rw [h3]
    refine bigV_op1 df c1 ?_ e
    rw [bigV_congr (tm2 := b.tm) (fun x hx => evEq_eq (List.all_eq_true.1 c2 x (by simpa using hx)))]
    exact h2
  · rename_i hx
    rw [hpB_other _ _ hx]
    split at e
    · rename_i hw
      unfold op1V
      rw [show wantedV ops ({ tm, df, h := hpB h0 bs mask } : S).tm o = false from hw]
      simp only [e, Option.bind_some]
    · rename_i hw
      obtain ⟨c1, e⟩ := ok?_some e
      obtain ⟨r, hr, e⟩ := bind_some' e
      split at e
      · rename_i v h'
        have := calm_heap c1 hr
        subst this
        unfold op1V
        rw [show wantedV ops ({ tm, df, h := hpB h0 bs mask } : S).tm o = true from hw]
        simp only [hr, Option.bind_some, e]
      · cases e
include hC hs in
theorem conf2_any {rd rr : Option Nat} {nt m : Nat} {ops : Array Oper} {h0 : Hp} {bs : List Big1} {s : S} {fin : Nat × T Value} (hedge : edgesB ops = true) (hst : BigsOk C self ops h0 bs) {base : Nat} {ρ0 : Ren} {w0 : World} (H0 : HRel base ρ0 s.h w0) (hr : RdRel ρ0 rd rr) :
    ∀ (fuel : Nat) (lev : List (Nat × T Value)) (listed : Array Bool) (mask : Nat) (tm : T Value) (ρ : Ren) (a : Act) (w : World), confGo2 C nt ops h0 bs fuel lev = some fin → (mask, tm) ∈ lev → listed.size = ops.size → (∀ i, i < ops.size → lst listed i = Nat.testBit mask i) → left ops listed = fuel →
      Step base ρ0 s.h w0 ρ (hpB h0 bs mask) w → TmRel ρ nt tm a.tmps → DfRel ρ s.df a.defers →
      wpAnyIn (fenceOf rr) m C.P.P .any ops (QCode base ρ0 nt s w0 .normal { s with tm := fin.2, h := hpB h0 bs fin.1 }) fuel listed a w := by
  intro fuel
  induction fuel with
  | zero =>
    intro lev listed mask tm ρ a w hgo hm hsz hl hf stp ht hd
    have hL : ∀ i, i < ops.size → lst listed i = true := by
      intro i hi
      cases hh : lst listed i with
      | true => rfl
      | false =>
        have : i ∈ (List.range ops.size).filter fun i => !lst listed i := List.mem_filter.2 ⟨by simpa using hi, by rw [hh]; rfl⟩
        have := List.length_pos_of_mem this
        unfold left at hf
        omega
    have hready : Region.ready .any ops listed = [] := by
      rw [List.eq_nil_iff_forall_not_mem]
      intro i hi
      obtain ⟨o, ho, h1, _⟩ := (ready_iff hsz).1 hi
      rw [hL i (Array.getElem?_eq_some_iff.1 ho).1] at h1; cases h1
    unfold confGo2 at hgo
    split at hgo
    · cases hgo
      simp only [List.mem_singleton] at hm
      subst hm
      exact ⟨hready, ρ, trivial, stp, ht, hd⟩
    · cases hgo
  | succ fuel ih =>
    intro lev listed mask tm ρ a w hgo hm hsz hl hf stp ht hd
    unfold confGo2 at hgo
    obtain ⟨hlev, hgo⟩ := ok?_some hgo
    refine ⟨fun hready => ?_, fun i hi => ?_⟩
    · exfalso
      have hL := ready_nil hedge hsz hready
      have : left ops listed = 0 := by
        unfold left
        rw [List.length_eq_zero_iff, List.filter_eq_nil_iff]
        intro x hx h
        rw [hL x (by simpa using hx)] at h; cases h
      omega
    · obtain ⟨o, ho, hLi, hre⟩ := (ready_iff hsz).1 hi
      have hio : i < ops.size := (Array.getElem?_eq_some_iff.1 ho).1
      have hmi : Nat.testBit mask i = false := by rw [← hl i hio]; exact hLi
      have hrd : readyM ops mask i = true := by
        unfold readyM
        rw [ho]
        simp only [hmi, Bool.not_false, Bool.true_and, List.all_eq_true, Bool.or_eq_true, Bool.not_eq_true']
        intro e he
        cases hb : Region.binds .any e with
        | false => exact .inl rfl
        | true =>
          have := hre e (by simpa using he) hb
          refine .inr ?_
          have hlt : e.on < ops.size := by
            apply Classical.byContradiction
            intro hge
            have : lst listed e.on = false := by
              unfold lst
              rw [Array.getD_eq_getD_getElem?, Array.getElem?_eq_none (by omega)]; rfl
            have h9 := hre e (by simpa using he) hb
            rw [this] at h9; cases h9
          rw [← hl _ hlt]; exact this
      obtain ⟨tm', t', h1, h2, h3, h4⟩ := levOk2_get hlev hm hio hrd
      have hset : ∀ j, lst (listed.setIfInBounds i true) j = (lst listed j || j == i) := fun j => lst_set (by omega)
      have hop := opC2_op1 (self := self) (rd := rd) hst ho h1 s.df
      refine op1_sound hC hs ho hop stp.rel ht hd (hr.mono stp.ext) ?_ (fun v v' ρ' a' w' hv => by cases hv)
      intro _ ρ' a' w' hst' ht' hd'
      refine ih _ _ (mask ||| 2 ^ i) t' ρ' a' w' hgo h2 (by rw [Array.size_setIfInBounds]; exact hsz) ?_ ?_ (stp.trans H0 hst') (sameTm_rel h3 h4 ht') hd'
      · intro j hj
        rw [hset, Nat.testBit_or, hl j hj]
        by_cases e : j = i
        · subst e; rw [Nat.testBit_two_pow_self]; simp
        · rw [Nat.testBit_two_pow_of_ne (Ne.symm e)]; simp [e]
      · have := left_set (ops := ops) hset hLi hio
        omega
include hC hs in
theorem confV2_sound {rd : Option Nat} {nt id : Nat} {ops : Array Oper} {s : S} {r : R} (he : (ok? (edgesB ops) (confV2 C self rd nt ops s)) = some r) : ∃ s', r = .code .normal s' ∧ ∀ base ρ w a rr m, HRel base ρ s.h w → TmRel ρ nt s.tm a.tmps → DfRel ρ s.df a.defers → RdRel ρ rd rr →
    (Code.region id ops true).wpIn (fenceOf rr) m C.P.P (QCode base ρ nt s w .normal s') a w := by
  obtain ⟨hedge, he⟩ := ok?_some he
  unfold confV2 at he
  obtain ⟨bs, hst, he⟩ := bind_some' he
  obtain ⟨fin, hgo, he⟩ := bind_some' he
  cases he
  refine ⟨_, rfl, fun base ρ w a rr m H ht hd hr => wpIn_mono (wpIn_region_any (Q := QCode base ρ nt s { w with drawn := w.drawn + 1 } .normal { s with tm := fin.2, h := hpB s.h bs fin.1 }) hC.mixed ?_) (fun ex a w h => h.after H (Step.draw H _))⟩
  have H0 : HRel base ρ s.h { w with drawn := w.drawn + 1 } := H.heap_eq rfl
  have hl0 : ∀ i, lst (Array.replicate ops.size false) i = false := by
    intro i
    unfold lst
    rw [Array.getD_eq_getD_getElem?, Array.getElem?_replicate]
    split <;> rfl
  have hok : BigsOk C self ops s.h bs := bigsV_ok ops.toList 0 s bs (fun j o h => by rw [Nat.zero_add]; simpa using h) hst
  have hm0 : ∀ l, hpB s.h l 0 = s.h := by
    intro l
    cases l with
    | nil => rfl
    | cons b l => unfold hpB; rw [Nat.zero_testBit]
  refine conf2_any hC hs hedge hok H0 hr ops.size _ (Array.replicate ops.size false) 0 s.tm ρ a _ hgo (.head _) (by simp) (fun i _ => by rw [hl0, Nat.zero_testBit]) ?_ (by rw [hm0]; exact Step.refl H0) ht hd
  unfold left
  rw [show (List.range ops.size).filter (fun i => !lst (Array.replicate ops.size false) i) = List.range ops.size from List.filter_eq_self.2 (fun i _ => by rw [hl0]; rfl)]
  simp
end
end
end Go.Eng
/-
  The evaluator that goes through all orders, with tables for loops over maps and the rule for drawn regions; its answers kept.
-/
namespace Go.Eng
noncomputable section
abbrev Lp := Code → Option Nat → Nat → S → Option (List R)
def LpOk (P : Program) (lp : Lp) : Prop := ∀ c rd nt s rs, lp c rd nt s = some rs → ∀ base ρ w a rr m, HRel base ρ s.h w → TmRel ρ nt s.tm a.tmps → DfRel ρ s.df a.defers → RdRel ρ rd rr →
  c.wpIn (fenceOf rr) m P (QCodeN base ρ nt s w rs) a w
def stepL (C : Cfg) (self : Self) (nd : FuncId → Bool) (lp : Lp) (sn : SelfN) : SelfN
  | .code c rd nt s => match lp c rd nt s with
    | some rs => some rs
    | none => codeN C self nd sn c rd nt s
  | j => stepN C self nd sn j
def runL (C : Cfg) (self : Self) (nd : FuncId → Bool) (lp : Lp) : Nat → SelfN := fun n => Nat.rec (fun _ => none) (fun _ sn => stepL C self nd lp sn) n
theorem runL_sound {C : Cfg} (hC : C.Ok) {self : Self} (hs : Sound C self) (nd : FuncId → Bool) {lp : Lp} (hl : LpOk C.P.P lp) : ∀ n, SoundN C (runL C self nd lp n)
  | 0 => ⟨(fun _ _ _ _ _ e => (by cases e)), (fun _ _ _ _ e => (by cases e))⟩
  | n + 1 =>
    have ih := runL_sound hC hs nd hl n
    ⟨(fun c rd nt s rs e => by
      have e' : stepL C self nd lp (runL C self nd lp n) (.code c rd nt s) = some rs := e
      simp only [stepL] at e'
      cases h : lp c rd nt s with
      | some rs' => rw [h] at e'; cases e'; exact hl c rd nt s _ h
      | none => rw [h] at e'; exact codeN_sound hC hs ih c rd nt s rs e'),
    (fun _ _ _ _ e => callN_sound (nd := nd) hC hs ih e)⟩
def objEq (a b : AObj) : Bool := match a with
  | .cells c t s => (match b with | .cells d u r => listEq (vEq 6) c d && (Nat.beq t u && optNatEq s r) | _ => false)
  | .map es => (match b with | .map es' => listEq (fun x y => vEq 6 x.1 y.1 && vEq 6 x.2 y.2) es es' | _ => false)
  | .defs x => (match b with | .defs y => boolEq x y | _ => false)
  | _ => false
theorem objEq_eq (a b : AObj) (e : objEq a b = true) : a = b := by
  unfold objEq at e
  split at e
  · split at e
    · obtain ⟨e1, e⟩ := a2 e
      obtain ⟨e2, e3⟩ := a2 e
      rw [listEq_eq (vEq_eq 6) e1, nb e2, optNatEq_eq e3]
    · cases e
  · split at e
    · rw [listEq_eq (fun x y h => Prod.ext (vEq_eq 6 _ _ (a2 h).1) (vEq_eq 6 _ _ (a2 h).2)) e]
    · cases e
  · split at e
    · rw [boolEq_eq _ _ e]
    · cases e
  · cases e
def hasAllV (hs : List (Nat × AObj)) (h : Hp) : Bool := List.rec true (fun x _ ih => match h.get x.1 with | some o => ifB (objEq x.2 o) ih false | none => false) hs
theorem hasAllV_eq {h : Hp} : ∀ {hs : List (Nat × AObj)}, hasAllV hs h = true → ∀ i o, (i, o) ∈ hs → h.get i = some o
  | [], _, i, o, hm => by cases hm
  | (j, u) :: hs, e, i, o, hm => by
    have e' : (match h.get j with | some o => ifB (objEq u o) (hasAllV hs h) false | none => false) = true := e
    split at e'
    · rename_i p hp
      rw [ifB_if'] at e'
      obtain ⟨e1, e2⟩ := a2 e'
      rcases List.mem_cons.1 hm with h | h
      · cases h; rw [hp, objEq_eq _ _ e1]
      · exact hasAllV_eq e2 i o h
    · cases e'
def CallOk (P : Program) (f : FuncId) (args0 : List Value) (N : Nat) (hs : List (Nat × AObj)) (Q : Value → Hp → Prop) : Prop := Enters P f ∧ ∀ base ρ w args' m, HRel base ρ (hpAt N hs) w → LRel ρ args0 args'.toList →
  CallsIn Fence.wide m P f args' w (fun en w' => ∃ v h, Q v h ∧ QCall base ρ (hpAt N hs) w (.ret v h) en w')
def isRet (v : Value) (N' : Nat) (news : List (Nat × AObj)) (r : R) : Bool := match r with
  | .ret u h => vEq 6 u v && (Nat.ble h.next N' && hasAllV news h)
  | _ => false
def QRet (v : Value) (N' : Nat) (news : List (Nat × AObj)) (u : Value) (h : Hp) : Prop := u = v ∧ h.next ≤ N' ∧ ∀ i o, (i, o) ∈ news → h.get i = some o
theorem isRet_ok {v : Value} {N' : Nat} {news : List (Nat × AObj)} {r : R} (e : isRet v N' news r = true) : ∃ h, r = .ret v h ∧ QRet v N' news v h := by
  unfold isRet at e
  split at e
  · rename_i u h
    obtain ⟨e1, e⟩ := a2 e
    obtain ⟨e2, e3⟩ := a2 e
    have := vEq_eq 6 _ _ e1
    subst this
    exact ⟨h, rfl, rfl, Nat.le_of_ble_eq_true e2, hasAllV_eq e3⟩
  · cases e
def retR (x : Option R) (v : Value) (N' : Nat) (news : List (Nat × AObj)) : Bool := match x with | some r => isRet v N' news r | none => false
def retL (x : Option (List R)) (v : Value) (N' : Nat) (news : List (Nat × AObj)) : Bool := match x with | some rs => rs.all (isRet v N' news) | none => false
theorem callOk_run {C : Cfg} {self : Self} (hs' : Sound C self) {f : FuncId} {N N' : Nat} {args0 : List Value} {hs news : List (Nat × AObj)} {v : Value} (e : retR (self (.call f args0.toArray (hpAt N hs))) v N' news = true) : CallOk C.P.P f args0 N hs (QRet v N' news) := by
  unfold retR at e
  split at e
  · rename_i r hr
    obtain ⟨h, rfl, hq⟩ := isRet_ok e
    obtain ⟨g1, g2⟩ := hs'.call f args0.toArray _ _ hr
    exact ⟨g1, fun base ρ w args' m H hl => (g2 base ρ w args' m H (by simpa using hl)).mono fun en w' q => ⟨v, h, hq, q⟩⟩
  · cases e
theorem callOk_runL {C : Cfg} {sn : SelfN} (hn : SoundN C sn) {f : FuncId} {N N' : Nat} {args0 : List Value} {hs news : List (Nat × AObj)} {v : Value} (e : retL (sn (.call f args0.toArray (hpAt N hs))) v N' news = true) : CallOk C.P.P f args0 N hs (QRet v N' news) := by
  unfold retL at e
  split at e
  · rename_i rs hr
    obtain ⟨g1, g2⟩ := hn.call f args0.toArray _ _ hr
    refine ⟨g1, fun base ρ w args' m H hl => (g2 base ρ w args' m H (by simpa using hl)).mono ?_⟩
    rintro en w' ⟨r, hm, q⟩
    obtain ⟨h, rfl, hq⟩ := isRet_ok (List.all_eq_true.1 e r hm)
    exact ⟨v, h, hq, q⟩
  · cases e
def orcL (f : FuncId) (args0 : List Value) (hs : List (Nat × AObj)) (N : Nat) (v : Value) (news : List (Nat × AObj)) (N' : Nat) (orc : FuncId → Array Value → Hp → Option (Value × Hp)) : FuncId → Array Value → Hp → Option (Value × Hp) :=
  fun g args h => cond (Nat.beq f g) (ifB (listEq (vEq 6) args0 args.toList) (ifB (Nat.beq h.next N) (ifB (hasAllV hs h) (some (v, ⟨N', h.ro, addAll news h.objs⟩)) none) none) none) none |> fun r => match r with | some x => some x | none => orc g args h
theorem orcL_ok {C : Cfg} (hC : C.Ok) {f : FuncId} {N N' : Nat} {args0 : List Value} {hs news : List (Nat × AObj)} {v : Value} (hlow : hs.all (fun x => Nat.blt x.1 N) = true) (hnew : news.all (fun x => Nat.ble N x.1) = true) (hNN : Nat.ble N N' = true)
    (e : CallOk C.P.P f args0 N hs (QRet v N' news)) : Cfg.Ok { C with orc := orcL f args0 hs N v news N' C.orc } := by
  refine ⟨hC.env, hC.fn, ?_, hC.mixed⟩
  intro g args h u h' eo
  simp only [orcL] at eo
  split at eo
  case h_2 => exact hC.orc g args h u h' eo
  rename_i x hx
  cases eo
  cases hb : Nat.beq f g with
  | false => rw [hb] at hx; cases hx
  | true =>
  rw [hb] at hx
  obtain rfl := Nat.eq_of_beq_eq_true hb
  simp only [cond_true] at hx
  obtain ⟨k1, hx1⟩ := ifB_some hx
  obtain ⟨k2, hx2⟩ := ifB_some hx1
  obtain ⟨k3, hx3⟩ := ifB_some hx2
  cases hx3
  have hargs := listEq_eq (vEq_eq 6) k1
  have hN := Nat.eq_of_beq_eq_true k2
  obtain ⟨g1, g2⟩ := e
  refine ⟨g1, fun base ρ w args' m H hl => ?_⟩
  have low : ∀ i o, (i, o) ∈ hs → i < N := by
    intro i o hm
    have := (List.all_eq_true.1 hlow) _ hm
    rw [Nat.blt_eq] at this; exact this
  have HR : HRel N ρ (hpAt N hs) w := by
    refine ⟨?_, ?_, ?_, Nat.le_refl _, Nat.le_refl _⟩
    · intro i o hi
      have hm := hpAt_mem hi
      obtain ⟨im, O, r1, r2, r3⟩ := H.obj i _ (hasAllV_eq k3 i _ hm)
      have hi' := low i o hm
      exact ⟨im, O, r1, r2, r3.mono (Ext.refl ρ) (fun hb => by omega)⟩
    · intro i j im jm o p hi _ _ _ _ hb
      have := low i o (hpAt_mem hi)
      omega
    · intro i im hi
      have := H.dom i im hi
      exact ⟨by show i < N; omega, this.2⟩
  have hl' : LRel ρ args0 args'.toList := by
    rw [← hargs] at hl; simpa using hl
  refine (g2 N ρ w args' m HR hl').mono ?_
  rintro en w' ⟨v1, hf, ⟨rfl, hnx, hall⟩, v', ρ', rfl, st, hvr⟩
  have noWr : ∀ b, ¬ Wr ρ (hpAt N hs) b := by
    rintro b ⟨i, o, im, hi, hro, _⟩
    have := low i o (hpAt_mem hi)
    have hro' : N ≤ i := hro
    omega
  have hNN : N ≤ N' := Nat.le_of_ble_eq_true hNN
  have roN : h.ro ≤ N := by have := H.roNext; omega
  have getCase : ∀ i o, (addAll news h.objs).get i = some o → (N ≤ i ∧ hf.get i = some o) ∨ (i < N ∧ h.get i = some o) := by
    intro i o hi
    by_cases hiN : i < N
    · rw [addAll_low news h.objs i hnew hiN] at hi
      exact .inr ⟨hiN, hi⟩
    · rcases addAll_mem news h.objs i o hi with hm | hm
      · exact .inl ⟨by omega, hall i o hm⟩
      · have := H.lt (i := i) (o := o) hm
        omega
  have oldρ : ∀ i im, N ≤ i → ρ i = some im → False := by
    intro i im hi hr
    have := (H.dom i im hr).1
    omega
  have rel : HRel base ρ' ⟨N', h.ro, addAll news h.objs⟩ w' := by
    refine ⟨?_, ?_, ?_, H.baseRo, by show h.ro ≤ N'; omega⟩
    · intro i o hi
      rcases getCase i o hi with ⟨h1, h2⟩ | ⟨h1, h2⟩
      · obtain ⟨im, O, r1, r2, r3⟩ := st.rel.obj i o h2
        exact ⟨im, O, r1, r2, r3.mono (Ext.refl ρ') (fun _ => h1)⟩
      · obtain ⟨im, O, r1, r2, r3⟩ := H.obj i o h2
        exact ⟨im, O, st.ext _ _ r1, st.keep _ _ r2 (noWr _), r3.mono st.ext (fun hb => hb)⟩
    · intro i j im jm o p hi hj ri rj hij hb
      rcases getCase i o hi with ⟨a1, a2⟩ | ⟨a1, a2⟩
      · rcases getCase j p hj with ⟨b1, b2⟩ | ⟨b1, b2⟩
        · exact st.rel.inj i j im jm o p a2 b2 ri rj hij a1
        · have hjm : jm.blk < w.heap.size := by
            obtain ⟨im2, O, r1, r2, r3⟩ := H.obj j p b2
            have := st.ext _ _ r1
            rw [rj] at this; cases this
            exact (H.dom _ _ r1).2
          rcases st.news i im ri with h1 | ⟨_, h1 | h1⟩
          · exact (oldρ i im a1 h1).elim
          · omega
          · exact (noWr _ h1).elim
      · rcases getCase j p hj with ⟨b1, b2⟩ | ⟨b1, b2⟩
        · have him : im.blk < w.heap.size := by
            obtain ⟨im2, O, r1, r2, r3⟩ := H.obj i o a2
            have := st.ext _ _ r1
            rw [ri] at this; cases this
            exact (H.dom _ _ r1).2
          rcases st.news j jm rj with h1 | ⟨_, h1 | h1⟩
          · exact (oldρ j jm b1 h1).elim
          · omega
          · exact (noWr _ h1).elim
        · obtain ⟨im2, O, r1, r2, r3⟩ := H.obj i o a2
          obtain ⟨jm2, O2, s1, s2, s3⟩ := H.obj j p b2
          have t1 := st.ext _ _ r1
          rw [ri] at t1; cases t1
          have t2 := st.ext _ _ s1
          rw [rj] at t2; cases t2
          exact H.inj i j im jm o p a2 b2 r1 s1 hij hb
    · intro i im hi
      have := st.rel.dom i im hi
      exact ⟨by show i < N'; omega, this.2⟩
  refine ⟨v', ρ', rfl, ?_, hvr⟩
  refine ⟨st.ext, rel, fun b o hb _ => st.keep b o hb (noWr _), ?_, ?_, st.size, rfl, by show h.next ≤ N'; omega, st.os, st.tape, st.output⟩
  · intro i im hi
    rcases st.news i im hi with h1 | ⟨h1, h2 | h2⟩
    · exact .inl h1
    · have h1' : N ≤ i := h1
      exact .inr ⟨by omega, .inl h2⟩
    · exact (noWr _ h2).elim
  · intro i o hi hg
    rcases getCase i o hg with ⟨h1, h2⟩ | ⟨h1, h2⟩
    · omega
    · exact ⟨o, h2⟩
def memoL (args0 : List Value) (hs : List (Nat × AObj)) (v : Value) : List Value → Hp → Option Value := fun args h =>
  ifB (listEq (vEq 6) args0 args) (ifB (hasAllV hs h) (some v) none) none
def lowV (N : Nat) (v : Value) : Bool := simV N [] 6 v v
def lowO (N : Nat) (x : Nat × AObj) : Bool := Nat.blt x.1 N && simO N [] x.2 x.2
theorem memoL_sound {P : Program} {f : FuncId} {N N' : Nat} {args0 : List Value} {hs news : List (Nat × AObj)} {v : Value} (hp : plain v = true) (ha : args0.all (lowV N) = true) (ho : hs.all (lowO N) = true)
    (e : CallOk P f args0 N hs (QRet v N' news)) : PSound P f (memoL args0 hs v) := by
  obtain ⟨g1, g2⟩ := e
  intro args h u hu
  unfold memoL at hu
  obtain ⟨k1, hu⟩ := ifB_some hu
  obtain ⟨k2, hu⟩ := ifB_some hu
  cases hu
  have hargs := listEq_eq (vEq_eq 6) k1
  subst hargs
  refine ⟨hp, g1, fun base ρ h2 w args' m H hsub hl => ?_⟩
  have low : ∀ i o, (i, o) ∈ hs → i < N ∧ simO N [] o o = true := by
    intro i o hm
    have := List.all_eq_true.1 ho _ hm
    obtain ⟨q1, q2⟩ := a2 this
    rw [Nat.blt_eq] at q1
    exact ⟨q1, q2⟩
  have HR : HRel N (renP ρ N []) (hpAt N hs) w := by
    refine ⟨?_, ?_, ?_, Nat.le_refl _, Nat.le_refl _⟩
    · intro i o hi
      have hm := hpAt_mem hi
      obtain ⟨hin, hc⟩ := low i o hm
      obtain ⟨im, O, r1, r2, r3⟩ := H.obj i _ (hsub i _ (hasAllV_eq k2 i _ hm))
      refine ⟨im, O, ?_, r2, simO_rel (fun hb => by omega) hc r3⟩
      unfold renP
      rw [if_pos hin]; exact r1
    · intro i j im jm o p hi _ _ _ _ hb
      have := (low i o (hpAt_mem hi)).1
      omega
    · intro i im hi
      unfold renP at hi
      split at hi
      · exact ⟨‹_›, (H.dom i im hi).2⟩
      · simp at hi
  have hl' : LRel (renP ρ N []) args0 args'.toList := ⟨hl.1, fun i x x' hx hx' => simV_rel 6 (List.all_eq_true.1 ha x (List.mem_of_getElem? hx)) (hl.2 i x x' hx hx')⟩
  refine (g2 N _ w args' m HR hl').mono ?_
  rintro en w' ⟨v1, h1, ⟨rfl, _, _⟩, v', ρ', rfl, hst, hvr⟩
  obtain rfl := plain_rel hvr hp
  refine ⟨rfl, fun b o hb => hst.keep b o hb ?_, hst.size, hst.os, hst.tape, hst.output⟩
  rintro ⟨i, o, im, hi, hro, _⟩
  have := (low i o (hpAt_mem hi)).1
  have hro' : N ≤ i := hro
  omega
end
end Go.Eng
/-
  As EngMemoL, drawn regions by EngConf2's rule.
-/
namespace Go.Eng
noncomputable section
def lpC2 (C : Cfg) (self : Self) : Lp := fun c rd nt s => match c with
  | .region _ ops true => match self (.code c rd nt s) with
    | some r => some [r]
    | none => (ok? (edgesB ops) (confV2 C self rd nt ops s)).bind fun r => some [r]
  | _ => none
theorem lpC2_ok {C : Cfg} (hC : C.Ok) {self : Self} (hs : Sound C self) : LpOk C.P.P (lpC2 C self) := by
  intro c rd nt s rs e base ρ w a rr m H ht hd hr
  unfold lpC2 at e
  split at e
  · rename_i id ops
    split at e
    · rename_i r h
      cases e
      obtain ⟨ex, s', rfl, k⟩ := hs.code _ _ _ _ _ h
      exact wpIn_mono (k base ρ w a rr m H ht hd hr) (fun ex a w h => ⟨_, _, .head _, h⟩)
    · obtain ⟨r, h, e⟩ := bind_some' e
      cases e
      obtain ⟨s', rfl, k⟩ := confV2_sound (id := id) hC hs h
      exact wpIn_mono (k base ρ w a rr m H ht hd hr) (fun ex a w h => ⟨_, _, .head _, h⟩)
  · cases e
end
end Go.Eng
/-
  Several kept answers of one function: the older ones are asked where the newer one has none.
-/
namespace Go.Eng
noncomputable def orcM (f : FuncId) (F : List Value → Hp → Option Value) (orc : FuncId → Array Value → Hp → Option (Value × Hp)) : FuncId → Array Value → Hp → Option (Value × Hp) :=
  fun g args h => cond (Nat.beq f g) (Option.rec (motive := fun _ => Option (Value × Hp)) (orc g args h) (fun v => some (v, h)) (F args.toList h)) (orc g args h)
theorem orcM_ok {C : Cfg} (hC : C.Ok) {f : FuncId} {F : List Value → Hp → Option Value} (hF : PSound C.P.P f F) : Cfg.Ok { C with orc := orcM f F C.orc } := by
  have hP := orcP_ok hC hF
  refine ⟨hC.env, hC.fn, ?_, hC.mixed⟩
  intro g args h v h' e
  simp only [orcM] at e
  cases hb : Nat.beq f g with
  | false => rw [hb] at e; exact hC.orc g args h v h' e
  | true =>
    rw [hb] at e
    simp only [cond_true] at e
    cases hf : F args.toList h with
    | none => rw [hf] at e; exact hC.orc g args h v h' e
    | some u =>
      rw [hf] at e
      refine hP.orc g args h v h' ?_
      show orcP f F C.orc g args h = some (v, h')
      unfold orcP
      rw [hb]
      simp only [cond_true, hf]
      exact e
end Go.Eng
/-
  A loop over a map by its table, the table's rows shown true piece by piece.
-/
namespace Go.Eng
noncomputable section
structure TCtx where
  id : Nat
  ops : Array Oper
  b2 : Code
  o0 : Oper
  it : Operand
  n : Nat
  low : List (Nat × AObj)
  sts : List S
section
variable (C : Cfg) (self : Self) (rd : Option Nat) (nt : Nat) (tab : LTab) (c : Code) (s : S)
end
end
end Go.Eng
