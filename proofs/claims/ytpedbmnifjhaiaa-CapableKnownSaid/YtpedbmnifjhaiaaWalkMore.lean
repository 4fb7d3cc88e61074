/-
  More words for a region that draws its order: a whole row loaded, a new variable, three operations of which any may come up first, a store amid, the end. No statement of the document is here.
-/
import Derived.Test.YtpedbmnifjhaiaaWalkOps
import Derived.Test.YtpedbmnifjhaiaaCapWalks
import Derived.Laws.Tables
namespace Go.Proofs.Ytpedbmnifjhaiaa
open Go Go.RowKit
set_option linter.unusedVariables false

theorem exec_row_ {P : Program} {o : Oper} {ρ : Operand → Value} {w : World} (ty : TypeId) (x : Operand) (ho : o.op = .load ty x) (g : Nat) (hx : ρ x = .pointer (some ⟨g, 0, none⟩)) (t : TypeId) (cs : Array Value) (fr : Nat × Nat) (d : TypeDesc) (hg : w.heap[g]? = some (.cells cs t fr))
    (hu : P.underlying ty = some d) (hd : (match d with | .struct _ | .array _ _ => true | _ => false) = true) (hi : (P.info? ty).map (·.size) = some cs.size) : (execOp ρ o).run P w = .ok (.value (.agg cs)) w := by
  unfold execOp
  simp only [ho, hx, Instr.loadAt, Instr.sureAddr, Sem.run_bind, Sem.run_pure, Result.andThen_ok, run_loadVar_row w g t ty cs fr d hg hu hd hi]
theorem do_skip {P : Program} {ops : Array Oper} {R : World → Prop} {Q : Exit → Act → World → Prop} {md : Region.Mode} {z fuel : Nat} {listed : Array Bool} {a : Act} {w : World} (i : Nat) {o : Oper} {w' : World} (hi : ops[i]? = some o) (hw : Region.wanted o (yielded ops a.tmps) = true)
    (he : (execOp a.eval o).run P w = .ok .skip w') (hR : R w') (h : Walk P md ops Q z R fuel (listed.setIfInBounds i true) (a.put o.dst undef) w') : Doing P md ops Q z R fuel listed i a w := by
  refine doing_of hi hw ?_
  unfold Oper.wp
  rw [he]
  exact ⟨.inr hR, h⟩
theorem walk_end_at {P : Program} {ops : Array Oper} {R : World → Prop} {Q : Exit → Act → World → Prop} {md : Region.Mode} {z : Nat} {listed : Array Bool} {a : Act} {w : World} (A : Act) (hr : Region.ready md ops listed = []) (hA : a = A) (h : Q .normal A w) : Walk P md ops (NoPanic Q) z R 0 listed a w := by subst hA; exact walk_end hr h
theorem held_end_at {P : Program} {ops : Array Oper} {S : World → Prop} {Q : Exit → Act → World → Prop} {md : Region.Mode} {listed : Array Bool} {a : Act} {w : World} (A : Act) (hr : Region.ready md ops listed = []) (hA : a = A) (h : Q .normal A w) : wpAnyH P md ops (NoPanic Q) S 0 listed a w := by subst hA; exact held_end hr h
theorem ex_alloc {ρ : Operand → Value} {o : Oper} {w : World} (t : TypeId) (cs : Array Value) (ho : o.op = .alloc t) (hz : ∀ w, (zeroValue t).run Try.prog w = .ok (.agg cs) w) :
    (execOp ρ o).run Try.prog w = .ok (.value (.pointer (some ⟨w.heap.size, 0, none⟩))) (w.alloc (.cells cs t)) := by
  unfold execOp
  rw [ho]
  simp [Instr.alloc, hz, newVar, newRow, Value.cells]
theorem walk_three {P : Program} {ops : Array Oper} {R : World → Prop} {Q : Exit → Act → World → Prop} {md : Region.Mode} {z fuel : Nat} {listed : Array Bool} {a : Act} {w : World} (i j k : Nat) (hr : Region.ready md ops listed = [i, j, k])
    (hi : Doing P md ops Q z R fuel listed i a w) (hj : Doing P md ops Q z R fuel listed j a w) (hk : Doing P md ops Q z R fuel listed k a w) : Walk P md ops Q z R (fuel + 1) listed a w := by
  rw [Walk]
  refine ⟨fun h0 => absurd (hr.symm.trans h0) (by simp), fun m hm => ?_⟩
  rw [hr] at hm
  simp only [List.mem_cons, List.not_mem_nil, or_false] at hm
  rcases hm with rfl | rfl | rfl
  · exact hi.ok
  · exact hj.ok
  · exact hk.ok
theorem cap_zero (w : World) : (zeroValue 25).run Try.prog w = .ok (.agg (capv Cap.zero)) w := by kernel_rfl
end Go.Proofs.Ytpedbmnifjhaiaa
