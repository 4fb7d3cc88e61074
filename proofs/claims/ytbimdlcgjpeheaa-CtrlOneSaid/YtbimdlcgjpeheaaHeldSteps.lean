/-
  A region that draws its order, walked in an order of one's own: what yields in every world of a kind may be taken first; what is alone may do anything. No statement of the document is here.
-/
import Derived.OrdersHeld
import Derived.Deep.RegionHeld3
import Derived.KernelRfl
import Derived.Laws.Entries
namespace Go.Proofs.Ytbimdlcgjpeheaa
open Go
set_option linter.unusedVariables false

section
variable {P : Program} {ops : Array Oper} {S : World → Prop} {Q : Exit → Act → World → Prop} {md : Region.Mode} {fuel : Nat} {listed : Array Bool} {a : Act} {w : World}
theorem held_start {id : Nat} {s : List Oper} {n : Nat} (S : World → Prop) (hm : P.follows .mixedOrders = true) (hn : n = s.length) (h : wpAnyH P .any s.toArray (NoPanic Q) S n (Array.replicate n false) a w.drew) : (Code.region id s.toArray true).wp P Q a w := by
  subst hn
  refine wp_region_noPanic (wp_region_held (S := S) hm ?_)
  simpa using h
/-- Taken first. -/
theorem held_free (i : Nat) {o : Oper} (v : Value) (hi : ops[i]? = some o) (hs : Region.noSelect ops = true) (hf : Region.free md ops listed i = true) (hr : (Region.ready md ops listed).contains i = true) (hw : Region.wanted o (yielded ops a.tmps) = true) (hS : S w)
    (hv : ∀ w, S w → (execOp a.eval o).run P w = .ok (.value v) w) (h : wpAnyH P md ops (NoPanic Q) S fuel (listed.setIfInBounds i true) (a.put o.dst v) w) : wpAnyH P md ops (NoPanic Q) S (fuel + 1) listed a w :=
  wpAnyH_take hi hs hf hr (fun c a w h => h) (.inl ⟨hw, hv⟩) hS h
theorem held_op {i : Nat} {o : Oper} (hi : ops[i]? = some o) (hr : Region.ready md ops listed = [i]) (hw : Region.wanted o (yielded ops a.tmps) = true) (h : o.wp P a w (fun a' w' => S w' ∧ wpAnyH P md ops Q S fuel (listed.setIfInBounds i true) a' w') Q) : wpAnyH P md ops Q S (fuel + 1) listed a w := by
  refine ⟨fun h0 => (by rw [hr] at h0; cases h0), fun k hk => ?_⟩
  rw [hr, List.mem_singleton] at hk
  subst hk
  unfold wpOp
  rw [hi]
  simp only [hw, if_true]
  exact .inl h
/-- A call, alone. -/
theorem held_call (i : Nat) {o : Oper} {f : FuncId} {args : Array Value} {v : Value} {R : World → Prop} (hi : ops[i]? = some o) (hr : Region.ready md ops listed = [i]) (hw : Region.wanted o (yielded ops a.tmps) = true)
    (he : (execOp a.eval o).run P w = .ok (.enter f args) w) (hc : Calls P f args w fun e w' => e = .returned v ∧ R w') (hR : ∀ w', R w' → S w') (h : ∀ w', R w' → wpAnyH P md ops Q S fuel (listed.setIfInBounds i true) (a.put o.dst v) w') : wpAnyH P md ops Q S (fuel + 1) listed a w := by
  refine held_op hi hr hw ?_
  unfold Oper.wp
  rw [he]
  exact hc.mono fun e w' ⟨h1, h2⟩ => by subst h1; exact ⟨hR _ h2, h _ h2⟩
/-- Whatever yields, alone. -/
theorem held_lone (i : Nat) {o : Oper} {v : Value} {w' : World} (hi : ops[i]? = some o) (hr : Region.ready md ops listed = [i]) (hw : Region.wanted o (yielded ops a.tmps) = true) (he : (execOp a.eval o).run P w = .ok (.value v) w') (hS : S w')
    (h : wpAnyH P md ops Q S fuel (listed.setIfInBounds i true) (a.put o.dst v) w') : wpAnyH P md ops Q S (fuel + 1) listed a w := by
  refine held_op hi hr hw ?_
  unfold Oper.wp
  rw [he]
  exact ⟨hS, h⟩
theorem held_end (hr : Region.ready md ops listed = []) (h : Q .normal a w) : wpAnyH P md ops (NoPanic Q) S fuel listed a w := wpAnyH_done hr (NoPanic.normal h) _

/-! ### Single operations -/
theorem ex_index {ρ : Operand → Value} {o : Oper} {t : TypeId} {x y : Operand} {n i v : Value} (ho : o.op = .indexAddr t x y) (hx : ρ x = n) (hy : ρ y = i) (h : (Instr.indexAt t n i).run P w = .ok v w) : (execOp ρ o).run P w = .ok (.value v) w := by
  unfold execOp
  rw [ho]
  simp [hx, hy, h]
theorem ex_load {ρ : Operand → Value} {o : Oper} (ty : TypeId) (x : Operand) (ho : o.op = .load ty x) (p : Addr) {v : Value} (hx : ρ x = .pointer (some p)) (hu : (isAgg ty).run P w = .ok false w) (hc : w.cell? p = some v) : (execOp ρ o).run P w = .ok (.value v) w := by
  unfold execOp
  rw [ho]
  simp [hx, hu, hc, go_sem]
theorem ex_append {ρ : Operand → Value} {o : Oper} {w' : World} {s x : Operand} {t : TypeId} {v u r : Value} (ho : o.op = .call { callee := .builtin .append, args := #[s, x], argTypes := #[t, t] }) (hs : ρ s = v) (hx : ρ x = u) (h : (Builtin.append_ #[t, t] o.type #[v, u]).run P w = .ok r w') :
    (execOp ρ o).run P w = .ok (.value r) w' := by
  unfold execOp
  simp only [ho, resolve, invoke, builtin, Sem.run_bind, Sem.run_pure, Result.andThen_ok, List.map_toArray, List.map_cons, List.map_nil, hs, hx, h]
end
end Go.Proofs.Ytbimdlcgjpeheaa
