/-
  A region that draws its order and may end by turning what it has read: a kind of worlds (R) is asked only while the last operation (z) is to come. No statement of the document is here.
-/
import Derived.Test.YtbimdlcgjpeheaaHeldSteps
import Derived.Laws.Rows
namespace Go.Proofs.Ytbimdlcgjpeheaa
open Go
set_option linter.unusedVariables false

section
variable {P : Program} {ops : Array Oper} {R : World → Prop} {Q : Exit → Act → World → Prop} {md : Region.Mode}
variable {z : Nat}
/-- The last one has come up, or the world is of the kind. -/
def Fine (z : Nat) (R : World → Prop) (l : Array Bool) (w : World) : Prop := l.getD z true = true ∨ R w
def Walk (P : Program) (md : Region.Mode) (ops : Array Oper) (Q : Exit → Act → World → Prop) (z : Nat) (R : World → Prop) : Nat → Array Bool → Act → World → Prop
  | n, l, a, w => (Region.ready md ops l = [] → Q .normal a w) ∧ (match n with
    | 0 => Region.ready md ops l = []
    | n + 1 => ∀ i ∈ Region.ready md ops l, wpOp P ops Q i (fun a' w' => Fine z R (l.setIfInBounds i true) w' ∧ Walk P md ops Q z R n (l.setIfInBounds i true) a' w') a w)
theorem Walk.any : ∀ {n : Nat} {l : Array Bool} {a : Act} {w : World}, Walk P md ops Q z R n l a w → wpAny P md ops Q n l a w
  | 0, _, _, _, h => by rw [Walk] at h; exact ⟨h.2, h.1 h.2⟩
  | n + 1, _, _, _, h => by rw [Walk] at h; exact ⟨h.1, fun i hi => wpOp_mono (fun _ _ k => k.2.any) (h.2 i hi)⟩
/-- An operation that reads what the kind tells may come first: whatever else comes up ahead of it finds it still to come, and so the kind. -/
theorem Walk.first {i : Nat} {o : Oper} {v : Value} (hi : ops[i]? = some o) (hsel : ∀ (j : Nat) (o : Oper) cs b, ops[j]? = some o → o.op ≠ .select cs b) (hQ : ∀ c a w, Q (.panic c) (a.put o.dst v) w → Q (.panic c) a w)
    (hz : ∃ u, ops[z]? = some u ∧ ∃ e ∈ u.after, Region.binds md e = true ∧ e.on = i) (hzi : z ≠ i) (n : Nat) :
    ∀ (l : Array Bool) (a : Act) (w : World), (∀ j u, ops[j]? = some u → j ≠ i → l.getD j true = false → (∀ e ∈ u.after, Region.binds md e = true → e.on ≠ i) → o.apart ops u = true) →
      i ∈ Region.ready md ops l → l.getD z true = false → YieldsIf P ops R o v a → R w → Walk P md ops Q z R n (l.setIfInBounds i true) (a.put o.dst v) w → Walk P md ops Q z R (n + 1) l a w := by
  have hin : i < ops.size := (Array.getElem?_eq_some_iff.1 hi).1
  have self : ∀ (n : Nat) (l : Array Bool) (a : Act) (w : World), YieldsIf P ops R o v a → R w → Walk P md ops Q z R n (l.setIfInBounds i true) (a.put o.dst v) w →
      wpOp P ops Q i (fun a' w' => Fine z R (l.setIfInBounds i true) w' ∧ Walk P md ops Q z R n (l.setIfInBounds i true) a' w') a w := fun n l a w hy hR H => hy.wpOp hi hR ⟨.inr hR, H⟩
  induction n with
  | zero =>
    intro l a w _ hr _ hy hR H
    rw [Walk]
    refine ⟨fun h0 => absurd hr (by rw [h0]; exact List.not_mem_nil), fun j hj => ?_⟩
    by_cases e : j = i
    · rw [e]; exact self 0 l a w hy hR H
    · have h0 := H
      rw [Walk] at h0
      have := ready_mono hj e
      rw [h0.2] at this
      exact absurd this List.not_mem_nil
  | succ n ih =>
    intro l a w far hr hlz hy hR H
    rw [Walk]
    refine ⟨fun h0 => absurd hr (by rw [h0]; exact List.not_mem_nil), fun j hj => ?_⟩
    by_cases e : j = i
    · rw [e]; exact self (n + 1) l a w hy hR H
    · obtain ⟨hjl, u, hu, hall⟩ := mem_ready.1 hj
      have hil : l.getD i true = false := (mem_ready.1 hr).1
      have hwait : ∀ e ∈ u.after, Region.binds md e = true → e.on ≠ i := fun x hx hb q => by
        have k := hall x hx hb
        rw [q] at k
        by_cases hs : i < l.size
        · simp [hs] at hil k; rw [hil] at k; cases k
        · simp [Array.getElem?_eq_none (Nat.le_of_not_lt hs)] at hil
      have hstep := H
      rw [Walk] at hstep
      refine wpOp_mono (fun a' w' k => ?_) (wpOp_putIf hu (far j u hu e hjl hwait) (fun cs b => hsel i o cs b hi) (fun cs b => hsel j u cs b hu) hQ hy (hstep.2 j (ready_mono hj e)))
      obtain ⟨hy', hf, hw'⟩ := k
      have hun : (l.setIfInBounds j true).getD i true = false := by rw [getD_set_ne true e]; exact hil
      have hjz : j ≠ z := fun q => by
        obtain ⟨u', hu', x, hx, hb, hon⟩ := hz
        rw [q] at hu
        rw [hu] at hu'
        injection hu' with hu'
        subst hu'
        exact hwait x hx hb hon
      have hlz' : (l.setIfInBounds j true).getD z true = false := by rw [getD_set_ne true hjz]; exact hlz
      have hR' : R w' := by
        rcases hf with hf | hf
        · rw [getD_set_ne true hjz, getD_set_ne true (Ne.symm hzi), hlz] at hf; cases hf
        · exact hf
      refine ⟨.inr hR', ih (l.setIfInBounds j true) a' w' (fun k u' hk hki hkl hno => far k u' hk hki ?_ hno) (ready_mono hr (Ne.symm e)) hlz' hy' hR' (by rw [Array.setIfInBounds_comm _ _ e]; exact hw')⟩
      by_cases q : j = k
      · rw [← q]; exact hjl
      · rwa [getD_set_ne true q] at hkl
variable {fuel : Nat} {listed : Array Bool} {a : Act} {w : World}
theorem walk_start {id : Nat} {s : List Oper} {n : Nat} (z : Nat) (R : World → Prop) (hm : P.follows .mixedOrders = true) (hn : n = s.length) (h : Walk P .any s.toArray (NoPanic Q) z R n (Array.replicate n false) a w.drew) : (Code.region id s.toArray true).wp P Q a w := by
  subst hn
  refine wp_region_noPanic (wp_region_any hm ?_)
  have := h.any
  simpa using this
def waitsB (md : Region.Mode) (ops : Array Oper) (z i : Nat) : Bool := match ops[z]? with
  | some u => z != i && u.after.any (fun e => Region.binds md e && e.on == i)
  | none => false
theorem waits_spec {i : Nat} (h : waitsB md ops z i = true) : (∃ u, ops[z]? = some u ∧ ∃ e ∈ u.after, Region.binds md e = true ∧ e.on = i) ∧ z ≠ i := by
  unfold waitsB at h
  split at h
  · rename_i u hu
    simp only [Bool.and_eq_true, bne_iff_ne, ne_eq, Array.any_eq_true'] at h
    obtain ⟨h1, e, he, h2⟩ := h
    simp only [beq_iff_eq] at h2
    exact ⟨⟨u, hu, e, he, h2.1, h2.2⟩, h1⟩
  · cases h
theorem walk_free (i : Nat) {o : Oper} (v : Value) (hi : ops[i]? = some o) (hs : Region.noSelect ops = true) (hf : Region.free md ops listed i = true) (hr : (Region.ready md ops listed).contains i = true) (hwz : waitsB md ops z i = true) (hlz : listed.getD z true = false)
    (hw : Region.wanted o (yielded ops a.tmps) = true) (hR : R w) (hv : ∀ w, R w → (execOp a.eval o).run P w = .ok (.value v) w) (h : Walk P md ops (NoPanic Q) z R fuel (listed.setIfInBounds i true) (a.put o.dst v) w) : Walk P md ops (NoPanic Q) z R (fuel + 1) listed a w :=
  Walk.first hi (Region.noSelect_spec hs) (fun c a w h => h) (waits_spec hwz).1 (waits_spec hwz).2 fuel listed a w (Region.free_spec hi hf) (by simpa using hr) hlz (.inl ⟨hw, hv⟩) hR h
/-- What an operation does that comes up now. -/
structure Doing (P : Program) (md : Region.Mode) (ops : Array Oper) (Q : Exit → Act → World → Prop) (z : Nat) (R : World → Prop) (fuel : Nat) (listed : Array Bool) (i : Nat) (a : Act) (w : World) : Prop where
  ok : wpOp P ops Q i (fun a' w' => Fine z R (listed.setIfInBounds i true) w' ∧ Walk P md ops Q z R fuel (listed.setIfInBounds i true) a' w') a w
theorem walk_one (i : Nat) (hr : Region.ready md ops listed = [i]) (h : Doing P md ops Q z R fuel listed i a w) : Walk P md ops Q z R (fuel + 1) listed a w := by
  rw [Walk]
  refine ⟨fun h0 => absurd (hr.symm.trans h0) (by simp), fun k hk => ?_⟩
  rw [hr, List.mem_singleton] at hk
  subst hk
  exact h.ok
theorem walk_two (i j : Nat) (hr : Region.ready md ops listed = [i, j]) (h : Doing P md ops Q z R fuel listed i a w) (h' : Doing P md ops Q z R fuel listed j a w) : Walk P md ops Q z R (fuel + 1) listed a w := by
  rw [Walk]
  refine ⟨fun h0 => absurd (hr.symm.trans h0) (by simp), fun k hk => ?_⟩
  rw [hr] at hk
  simp only [List.mem_cons, List.not_mem_nil, or_false] at hk
  rcases hk with rfl | rfl
  · exact h.ok
  · exact h'.ok
theorem doing_of {i : Nat} {o : Oper} (hi : ops[i]? = some o) (hw : Region.wanted o (yielded ops a.tmps) = true) (h : o.wp P a w (fun a' w' => Fine z R (listed.setIfInBounds i true) w' ∧ Walk P md ops Q z R fuel (listed.setIfInBounds i true) a' w') Q) : Doing P md ops Q z R fuel listed i a w := by
  refine ⟨?_⟩
  unfold wpOp
  rw [hi]
  simp only [hw, if_true]
  exact .inl h
theorem do_call (i : Nat) {o : Oper} {f : FuncId} {args : Array Value} {v : Value} {K : World → Prop} (hi : ops[i]? = some o) (hw : Region.wanted o (yielded ops a.tmps) = true)
    (he : (execOp a.eval o).run P w = .ok (.enter f args) w) (hc : Calls P f args w fun e w' => e = .returned v ∧ K w') (hR : ∀ w', K w' → R w') (h : ∀ w', K w' → Walk P md ops Q z R fuel (listed.setIfInBounds i true) (a.put o.dst v) w') : Doing P md ops Q z R fuel listed i a w := by
  refine doing_of hi hw ?_
  unfold Oper.wp
  rw [he]
  exact hc.mono fun e w' ⟨h1, h2⟩ => by subst h1; exact ⟨.inr (hR _ h2), h _ h2⟩
theorem do_lone (i : Nat) {o : Oper} {v : Value} {w' : World} (hi : ops[i]? = some o) (hw : Region.wanted o (yielded ops a.tmps) = true) (he : (execOp a.eval o).run P w = .ok (.value v) w') (hR : R w')
    (h : Walk P md ops Q z R fuel (listed.setIfInBounds i true) (a.put o.dst v) w') : Doing P md ops Q z R fuel listed i a w := by
  refine doing_of hi hw ?_
  unfold Oper.wp
  rw [he]
  exact ⟨.inr hR, h⟩
/-- The last one, a store: what the kind asks need not hold behind it. -/
theorem do_last (i : Nat) {o : Oper} {w' : World} (hi : ops[i]? = some o) (hw : Region.wanted o (yielded ops a.tmps) = true) (he : (execOp a.eval o).run P w = .ok .skip w') (hl : (listed.setIfInBounds i true).getD z true = true)
    (h : Walk P md ops Q z R fuel (listed.setIfInBounds i true) (a.put o.dst undef) w') : Doing P md ops Q z R fuel listed i a w := by
  refine doing_of hi hw ?_
  unfold Oper.wp
  rw [he]
  exact ⟨.inl hl, h⟩
theorem walk_end (hr : Region.ready md ops listed = []) (h : Q .normal a w) : Walk P md ops (NoPanic Q) z R 0 listed a w := by
  rw [Walk]
  exact ⟨fun _ => NoPanic.normal h, hr⟩
/-- A whole row is laid anew: the operation alone. -/
theorem ex_store_row {o : Oper} (ty : TypeId) (x y : Operand) (ho : o.op = .store ty x y) (g : Nat) (cs : Array Value) (hx : a.eval x = .pointer (some ⟨g, 0, none⟩)) (hy : a.eval y = .agg cs) (t : TypeId) (old : Array Value) (hg : w.heap[g]? = some (.cells old t (0, 0))) (hi : (P.info? ty).map (·.size) = some cs.size)
    (hz : old.size = cs.size) (h1 : cs.all (·.oneCell') = true) : (execOp a.eval o).run P w = .ok .skip (w.setRow g cs) := by
  unfold execOp
  simp only [ho, hx, hy, Instr.storeAt, Instr.sureAddr, Sem.run_bind, Sem.run_pure, Result.andThen_ok, run_storeVar_row w g t ty old cs hg hi hz h1]
/-- One cell is laid anew. -/
theorem ex_store_cell {o : Oper} (ty : TypeId) (x y : Operand) (ho : o.op = .store ty x y) (p : Addr) (v : Value) (hx : a.eval x = .pointer (some p)) (hy : a.eval y = v) (hs : (storeVar ty p v).run P w = .ok () (w.setCell p v)) : (execOp a.eval o).run P w = .ok .skip (w.setCell p v) := by
  unfold execOp
  simp only [ho, hx, hy, Instr.storeAt, Instr.sureAddr, Sem.run_bind, Sem.run_pure, Result.andThen_ok, hs]
end
end Go.Proofs.Ytbimdlcgjpeheaa
