/-
  A region that draws its order, walked once, in the order of its text: each operation either yields one value in every world of a kind (it may be taken first), or is the only one that may come up (it may do anything). For long chains of '&&' whose conjuncts call functions that make memory. No statement of the document is here.
-/
import Derived.Deep.RegionHeld3
import Derived.KernelRfl
namespace Go.Proofs.YthdcjcdgddejbaaDoor
open Go
set_option linter.unusedVariables false

section
variable {P : Program} {ops : Array Oper} {S : World → Prop} {Q : Exit → Act → World → Prop} {md : Region.Mode}

/-- The walk: 'true' marks the lone ones. -/
def Mixed (P : Program) (ops : Array Oper) (S : World → Prop) (Q : Exit → Act → World → Prop) : List Oper → List Bool → Act → World → Prop
  | [], _, a, w => Q .normal a w
  | o :: rest, true :: fs, a, w =>
    (Region.wanted o (yielded ops a.tmps) = true → o.wp P a w (fun a' w' => S w' ∧ Mixed P ops S Q rest fs a' w') Q) ∧ (Region.wanted o (yielded ops a.tmps) = false → Mixed P ops S Q rest fs (a.put o.dst undef) w)
  | o :: rest, false :: fs, a, w => ∃ v, YieldsIf P ops S o v a ∧ Mixed P ops S Q rest fs (a.put o.dst v) w
  | o :: rest, [], a, w => ∃ v, YieldsIf P ops S o v a ∧ Mixed P ops S Q rest [] (a.put o.dst v) w

/-- What counts of an operation: its slot, the slots at which it looks, what it waits for. -/
structure MixRow where
  dst : Option Nat
  looks : List Nat
  on : List Nat
def mixRow (md : Region.Mode) (ops : Array Oper) (o : Oper) : MixRow := ⟨o.dst, o.looksAt ops, (o.after.toList.filter (Region.binds md)).map (·.on)⟩
def MixRow.far (x y : MixRow) : Bool :=
  (match x.dst with | some d => !y.looks.contains d && y.dst != some d | none => true) && (match y.dst with | some d => !x.looks.contains d | none => true)
/-- The marks fit the region, told by its rows. -/
def mixesB : List MixRow → List Bool → Nat → Bool
  | [], _, _ => true
  | r :: rest, fs, k => r.on.all (fun e => decide (e < k)) && (if fs.headD false then rest.all (fun q => q.on.any (fun e => decide (k ≤ e))) else rest.all (fun q => q.on.contains k || r.far q)) && mixesB rest fs.tail (k + 1)

theorem far_apart (x y : Oper) : (mixRow md ops x).far (mixRow md ops y) = x.apart ops y := rfl
theorem row_waits {o : Oper} {i : Nat} : i ∈ (mixRow md ops o).on ↔ ∃ e ∈ o.after, Region.binds md e = true ∧ e.on = i := by
  simp [mixRow, and_assoc]

/-- The first k have come up, no other. -/
structure Up (listed : Array Bool) (n k : Nat) : Prop where
  size : listed.size = n
  has : ∀ j d, j < n → listed.getD j d = decide (j < k)
theorem Up.next {listed : Array Bool} {n k : Nat} (h : Up listed n k) (hk : k < n) : Up (listed.setIfInBounds k true) n (k + 1) := by
  refine ⟨by simp [h.size], fun j d hj => ?_⟩
  by_cases e : k = j
  · subst e
    simp [h.size, hk]
  · rw [getD_set_ne d e, h.has j d hj]
    simp; omega
theorem Up.start (n : Nat) : Up (Array.replicate n false) n 0 := ⟨by simp, fun j d hj => by simp [hj]⟩

theorem mixed_any (hs : Region.noSelect ops = true) (hQ : ∀ d v c a w, Q (.panic c) (Act.put a d v) w → Q (.panic c) a w) :
    ∀ (l : List Oper) (fs : List Bool) (k : Nat) (listed : Array Bool) (a : Act) (w : World), (∀ j, l[j]? = ops[k + j]?) → k + l.length = ops.size → Up listed ops.size k → mixesB (l.map (mixRow md ops)) fs k = true → S w →
      Mixed P ops S Q l fs a w → wpAnyH P md ops Q S l.length listed a w := by
  intro l
  induction l with
  | nil =>
    intro fs k listed a w _ hn hu _ _ h
    refine wpAnyH_done ?_ (by simpa [Mixed] using h) _
    refine List.eq_nil_iff_forall_not_mem.2 fun i hi => ?_
    obtain ⟨h1, oi, h2, _⟩ := mem_ready.1 hi
    have hi2 : i < ops.size := (Array.getElem?_eq_some_iff.1 h2).1
    rw [hu.has i true hi2] at h1
    simp at h1 hn
    omega
  | cons o rest ih =>
    intro fs k listed a w hl hn hu hm hS h
    have h0 : ops[k]? = some o := by simpa using (hl 0).symm
    have hk : k < ops.size := (Array.getElem?_eq_some_iff.1 h0).1
    have hl' : ∀ j, rest[j]? = ops[k + 1 + j]? := fun j => by
      have := hl (j + 1)
      rw [show k + 1 + j = k + (j + 1) by omega]
      simpa using this
    have hn' : k + 1 + rest.length = ops.size := by simp at hn; omega
    have hu' := hu.next hk
    simp only [List.map_cons, mixesB, Bool.and_eq_true] at hm
    obtain ⟨⟨hon, hmid⟩, hm'⟩ := hm
    have hin : k ∈ Region.ready md ops listed := by
      refine mem_ready.2 ⟨by rw [hu.has k true hk]; simp, o, h0, fun e he hb => ?_⟩
      have := List.all_eq_true.1 hon e.on (row_waits.2 ⟨e, he, hb, rfl⟩)
      simp at this
      rw [hu.has e.on false (by omega)]
      simpa using this
    have later : ∀ (j : Nat) (oj : Oper), ops[j]? = some oj → listed.getD j true = false → j ≠ k → oj ∈ rest := by
      intro j oj hj hun hjk
      have hj2 : j < ops.size := (Array.getElem?_eq_some_iff.1 hj).1
      rw [hu.has j true hj2] at hun
      simp at hun
      have := hl' (j - (k + 1))
      rw [show k + 1 + (j - (k + 1)) = j by omega, hj] at this
      exact List.mem_of_getElem? this
    have quiet : ∀ fs' : List Bool, fs'.headD false = false → mixesB (rest.map (mixRow md ops)) fs'.tail (k + 1) = true → ((rest.map (mixRow md ops)).all fun q => q.on.contains k || (mixRow md ops o).far q) = true →
        (∃ v, YieldsIf P ops S o v a ∧ Mixed P ops S Q rest fs'.tail (a.put o.dst v) w) → wpAnyH P md ops Q S (rest.length + 1) listed a w := by
      intro fs' _ hb hrf ⟨v, hy, hx⟩
      refine wpAnyH_first h0 (Region.noSelect_spec hs) (fun c a w => hQ _ _ c a w) rest.length listed a w (fun j oj hj hjk hun hno => ?_) hin hy hS (ih _ _ _ _ _ hl' hn' hu' hb hS hx)
      have hmem := later j oj hj hun hjk
      have hq := List.all_eq_true.1 hrf _ (List.mem_map_of_mem hmem)
      simp only [Bool.or_eq_true] at hq
      rcases hq with hq | hq
      · have : k ∈ (mixRow md ops oj).on := by simpa using hq
        obtain ⟨e, he, hbe, heq⟩ := row_waits.1 this
        exact absurd heq (hno e he hbe)
      · rw [← far_apart (md := md)]; exact hq
    match fs with
    | [] =>
      simp only [Mixed] at h
      exact quiet [] rfl hm' (by simpa using hmid) h
    | false :: fs =>
      simp only [Mixed] at h
      exact quiet (false :: fs) rfl hm' (by simpa using hmid) h
    | true :: fs =>
      have hmid' : ((rest.map (mixRow md ops)).all fun q => q.on.any fun e => decide (k ≤ e)) = true := by simpa using hmid
      refine ⟨fun h0' => (by rw [h0'] at hin; cases hin), fun i hi => ?_⟩
      obtain ⟨h1, oi, h2, h3⟩ := mem_ready.1 hi
      obtain rfl : i = k := by
        refine Classical.byContradiction fun hne => ?_
        have hmem := later i oi h2 h1 hne
        have hq := List.all_eq_true.1 hmid' _ (List.mem_map_of_mem hmem)
        obtain ⟨x, hx, hkx⟩ := List.any_eq_true.1 hq
        obtain ⟨e, he, hbe, rfl⟩ := row_waits.1 hx
        have := h3 e he hbe
        by_cases hsz : e.on < ops.size
        · rw [hu.has e.on false hsz] at this
          simp at this hkx
          omega
        · have hge : listed.size ≤ e.on := by rw [hu.size]; omega
          simp [Array.getElem?_eq_none hge] at this
      unfold wpOp
      simp only [h0]
      simp only [Mixed] at h
      obtain ⟨h4, h5⟩ := h
      by_cases hw : Region.wanted o (yielded ops a.tmps) = true
      · rw [if_pos hw]
        exact .inl (Oper.wp_mono (fun a' w' h' => ⟨h'.1, ih _ _ _ _ _ hl' hn' hu' hm' h'.1 h'.2⟩) (h4 hw))
      · rw [if_neg hw]
        exact ⟨hS, ih _ _ _ _ _ hl' hn' hu' hm' hS (h5 (by simpa using hw))⟩

/-- **The region, by its marks.** -/
theorem region_mixed {id : Nat} {l : List Oper} {a : Act} {w : World} (fs : List Bool) (rows : List MixRow) (hm : P.follows .mixedOrders = true) (hs : Region.noSelect l.toArray = true) (hr : l.map (mixRow .any l.toArray) = rows) (hB : mixesB rows fs 0 = true) (hS : S w.drew)
    (h : Mixed P l.toArray S (NoPanic Q) l fs a w.drew) : (Code.region id l.toArray true).wp P Q a w := by
  subst hr
  refine wp_region_noPanic (wp_region_held (S := S) hm ?_)
  have := mixed_any (P := P) (S := S) (Q := NoPanic Q) (md := .any) hs (fun d v c a w h => h) l fs 0 (Array.replicate l.length false) a w.drew (by simp) (by simp) (by simpa using Up.start l.length) hB hS h
  simpa using this

/-! ### Its steps -/
theorem mix_yields {o : Oper} {rest : List Oper} {fs : List Bool} {a : Act} {w : World} (v : Value) (hw : Region.wanted o (yielded ops a.tmps) = true) (hv : ∀ w, S w → (execOp a.eval o).run P w = .ok (.value v) w)
    (h : Mixed P ops S Q rest fs (a.put o.dst v) w) : Mixed P ops S Q (o :: rest) (false :: fs) a w := ⟨v, .inl ⟨hw, hv⟩, h⟩
theorem mix_call {o : Oper} {rest : List Oper} {fs : List Bool} {a : Act} {w : World} {f : FuncId} {args : Array Value} {v : Value} {R : World → Prop} (hw : Region.wanted o (yielded ops a.tmps) = true) (he : (execOp a.eval o).run P w = .ok (.enter f args) w)
    (hc : Calls P f args w fun e w' => e = .returned v ∧ R w') (hR : ∀ w', R w' → S w') (h : ∀ w', R w' → Mixed P ops S Q rest fs (a.put o.dst v) w') : Mixed P ops S Q (o :: rest) (true :: fs) a w := by
  simp only [Mixed]
  refine ⟨fun _ => ?_, fun h0 => absurd (hw.symm.trans h0) (by decide)⟩
  unfold Oper.wp
  rw [he]
  exact hc.mono fun e w' ⟨h1, h2⟩ => by subst h1; exact ⟨hR _ h2, h _ h2⟩
theorem mix_does {o : Oper} {rest : List Oper} {fs : List Bool} {a : Act} {w w' : World} {v : Value} (hw : Region.wanted o (yielded ops a.tmps) = true) (he : (execOp a.eval o).run P w = .ok (.value v) w')
    (hS : S w') (h : Mixed P ops S Q rest fs (a.put o.dst v) w') : Mixed P ops S Q (o :: rest) (true :: fs) a w := by
  simp only [Mixed]
  refine ⟨fun _ => ?_, fun h0 => absurd (hw.symm.trans h0) (by decide)⟩
  unfold Oper.wp
  rw [he]
  exact ⟨hS, h⟩
theorem mix_done {fs : List Bool} {a : Act} {w : World} (h : Q .normal a w) : Mixed P ops S (NoPanic Q) [] fs a w := by
  simp only [Mixed]
  exact h

/-! ### Single operations that look at memory, or make it -/
theorem op_load {ρ : Operand → Value} {o : Oper} {w : World} {ty : TypeId} {x : Operand} {p : Addr} {v : Value} (ho : o.op = .load ty x) (hx : ρ x = .pointer (some p)) (hu : (isAgg ty).run P w = .ok false w)
    (hc : w.cell? p = some v) : (execOp ρ o).run P w = .ok (.value v) w := by
  unfold execOp
  rw [ho]
  simp [hx, hu, hc, go_sem]
theorem op_make {ρ : Operand → Value} {o : Oper} {w w' : World} {ty : TypeId} {x y : Operand} {n m v : Value} (ho : o.op = .makeSlice ty x y) (hx : ρ x = n) (hy : ρ y = m) (h : (Instr.makeSlice ty n m).run P w = .ok v w') : (execOp ρ o).run P w = .ok (.value v) w' := by
  unfold execOp
  rw [ho]
  simp [hx, hy, h, go_sem]
theorem op_convert {ρ : Operand → Value} {o : Oper} {w w' : World} {t u : TypeId} {x : Operand} {n v : Value} (ho : o.op = .convert t u x) (hx : ρ x = n) (h : (convert t u n).run P w = .ok v w') : (execOp ρ o).run P w = .ok (.value v) w' := by
  unfold execOp
  rw [ho]
  simp [hx, h]
end
end Go.Proofs.YthdcjcdgddejbaaDoor
