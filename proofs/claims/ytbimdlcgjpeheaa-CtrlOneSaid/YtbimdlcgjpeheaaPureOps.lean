/-
  A region that draws its order and stores amid: an operation that yields alike in every world may be taken first, also where stores are still to come, or were. No statement of the document is here.
-/
import Derived.Test.YtbimdlcgjpeheaaWalkOps
namespace Go.Proofs.Ytbimdlcgjpeheaa
open Go
set_option linter.unusedVariables false

section
variable {P : Program} {ops : Array Oper} {R : World → Prop} {Q : Exit → Act → World → Prop} {md : Region.Mode} {z : Nat}
theorem Fine.set_ {l : Array Bool} {w : World} (h : Fine z R l w) (i : Nat) (hz : z ≠ i) : Fine z R (l.setIfInBounds i true) w := by
  rcases h with h | h
  · exact .inl (by rw [getD_set_ne true (Ne.symm hz)]; exact h)
  · exact .inr h
theorem Fine.unset {l : Array Bool} {w : World} {i : Nat} (h : Fine z R (l.setIfInBounds i true) w) (hz : z ≠ i) : Fine z R l w := by
  rcases h with h | h
  · exact .inl (by rw [getD_set_ne true (Ne.symm hz)] at h; exact h)
  · exact .inr h
theorem Walk.whatever {i : Nat} {o : Oper} {v : Value} (hi : ops[i]? = some o) (hsel : ∀ (j : Nat) (o : Oper) cs b, ops[j]? = some o → o.op ≠ .select cs b) (hQ : ∀ c a w, Q (.panic c) (a.put o.dst v) w → Q (.panic c) a w) (hzi : z ≠ i) (n : Nat) :
    ∀ (l : Array Bool) (a : Act) (w : World), (∀ j u, ops[j]? = some u → j ≠ i → l.getD j true = false → (∀ e ∈ u.after, Region.binds md e = true → e.on ≠ i) → o.apart ops u = true) →
      i ∈ Region.ready md ops l → YieldsIf P ops (fun _ => True) o v a → Fine z R l w → Walk P md ops Q z R n (l.setIfInBounds i true) (a.put o.dst v) w → Walk P md ops Q z R (n + 1) l a w := by
  have self : ∀ (n : Nat) (l : Array Bool) (a : Act) (w : World), YieldsIf P ops (fun _ => True) o v a → Fine z R l w → Walk P md ops Q z R n (l.setIfInBounds i true) (a.put o.dst v) w →
      wpOp P ops Q i (fun a' w' => Fine z R (l.setIfInBounds i true) w' ∧ Walk P md ops Q z R n (l.setIfInBounds i true) a' w') a w := fun n l a w hy hF H => hy.wpOp hi trivial ⟨hF.set_ i hzi, H⟩
  induction n with
  | zero =>
    intro l a w _ hr hy hF H
    rw [Walk]
    refine ⟨fun h0 => absurd hr (by rw [h0]; exact List.not_mem_nil), fun j hj => ?_⟩
    by_cases e : j = i
    · rw [e]; exact self 0 l a w hy hF H
    · have h0 := H
      rw [Walk] at h0
      have := ready_mono hj e
      rw [h0.2] at this
      exact absurd this List.not_mem_nil
  | succ n ih =>
    intro l a w far hr hy hF H
    rw [Walk]
    refine ⟨fun h0 => absurd hr (by rw [h0]; exact List.not_mem_nil), fun j hj => ?_⟩
    by_cases e : j = i
    · rw [e]; exact self (n + 1) l a w hy hF H
    · obtain ⟨hjl, u, hu, hall⟩ := mem_ready.1 hj
      have hil : l.getD i true = false := (mem_ready.1 hr).1
      have hwait : ∀ e ∈ u.after, Region.binds md e = true → e.on ≠ i := fun x hx hb q => by
        have k := hall x hx hb
        rw [q] at k
        by_cases hs : i < l.size
        · simp [hs] at hil k; rw [hil] at k; cases k
        · simp [Array.getElem?_eq_none (Nat.le_of_not_lt hs)] at hil
      have hstep := H
      rw [Walk] at hstep
      refine wpOp_mono (fun a' w' k => ?_) (wpOp_putIf hu (far j u hu e hjl hwait) (fun cs b => hsel i o cs b hi) (fun cs b => hsel j u cs b hu) hQ hy (hstep.2 j (ready_mono hj e)))
      obtain ⟨hy', hf, hw'⟩ := k
      rw [Array.setIfInBounds_comm _ _ (Ne.symm e)] at hf
      have hf' : Fine z R (l.setIfInBounds j true) w' := hf.unset hzi
      refine ⟨hf', ih (l.setIfInBounds j true) a' w' (fun k u' hk hki hkl hno => far k u' hk hki ?_ hno) (ready_mono hr (Ne.symm e)) hy' hf' (by rw [Array.setIfInBounds_comm _ _ e]; exact hw')⟩
      by_cases q : j = k
      · rw [← q]; exact hjl
      · rwa [getD_set_ne true q] at hkl
variable {fuel : Nat} {listed : Array Bool} {a : Act} {w : World}
/-- Taken first: it yields alike in every world. -/
theorem walk_pure (i : Nat) {o : Oper} (v : Value) (hi : ops[i]? = some o) (hs : Region.noSelect ops = true) (hf : Region.free md ops listed i = true) (hr : (Region.ready md ops listed).contains i = true) (hz : z ≠ i) (hw : Region.wanted o (yielded ops a.tmps) = true) (hF : Fine z R listed w)
    (hv : ∀ w, (execOp a.eval o).run P w = .ok (.value v) w) (h : Walk P md ops (NoPanic Q) z R fuel (listed.setIfInBounds i true) (a.put o.dst v) w) : Walk P md ops (NoPanic Q) z R (fuel + 1) listed a w :=
  Walk.whatever hi (Region.noSelect_spec hs) (fun c a w h => h) hz fuel listed a w (Region.free_spec hi hf) (by simpa using hr) (.inl ⟨hw, fun w _ => hv w⟩) hF h
end
end Go.Proofs.Ytbimdlcgjpeheaa
