/-
  A loop that ranges over a function which keeps state of its own in cells, and adds up what it is handed: the loop's law, from what the function does with any such loop. Nothing of the document is here.
-/
import Derived.Test.YtfhiomgkmdijeaaSumIter
namespace Go.Proofs.Ytfhiomgkmdijeaa
open Go.RowKit Go.Shelf
set_option linter.unusedVariables false

/-- Only block t, and what is new, has turned. -/
def OnlyAt (t : Nat) (W W' : World) : Prop := W.heap.size ≤ W'.heap.size ∧ ∀ k, k < W.heap.size → k ≠ t → W'.heap[k]? = W.heap[k]?
/-- A round's way out: the total has grown by x. -/
def sumPost (t : Nat) (I : Int → World → Prop) (T : Int) (W : World) : Exit → Act → World → Prop
  | .normal, _, W' => OnlyAt t W W' ∧ I T W'
  | _, _, _ => False

theorem below_putObj {B : Nat} (W : World) (l : Nat) (o : Obj) (h : B ≤ l) : Below B W (W.putObj l o) :=
  ⟨rfl, rfl, rfl, by simp, fun k hk => World.putObj_heap_other (by omega)⟩

theorem range_sum {P : Program} {m : Nat} {g : Operand} {ps : Array Tmp} {assign body : Code} {Q : Exit → Act → World → Prop} {a : Act} {w : World} {gf : Nat} {lb : Array Value}
    (hg : a.eval g = .func (.func gf) #[] lb) (eg : ∀ args w, (callFunc gf args).run P w = .ok (.enter gf args) w) (hps : ps.size = 1) (t : Nat) (ht : t < w.heap.size) (R : Int)
    (hseq : ∀ (l B : Nat) (J : Int → World → Prop) (W : World), Below w.heap.size w W → B ≤ W.heap.size → l < B → w.heap.size ≤ l → (∀ T W W', J T W → Below B W W' → J T W') →
      (∀ T x W, J T W → 0 ≤ T → 0 ≤ x → x ≤ 65535 → T + x ≤ 1152921504606846976 → YieldAt Fence.wide m P l #[.int .u16 x] W fun e W' => e = .returned (.bool true) ∧ J (T + x) W' ∧ Kept l t W W') →
      J 0 W → CallsIn Fence.wide (m + 1) P gf (#[.func (.yield l) #[] #[]] ++ lb) W fun e W' => (∃ v, e = .returned v) ∧ J R W')
    (I : Int → World → Prop) (hI : ∀ T W W', I T W → Below w.heap.size W W' → I T W') (h0 : I 0 w) (a1 : Int → Act)
    (hassign : ∀ (l : Nat) (x : Int) (W : World) (K : Act → World → Prop), K (a1 x) W →
      assign.wpIn (Fence.wide.inRound l) m P (Exit.then K (fun _ _ _ => False)) { tmps := (ps.zip #[.int .u16 x]).foldl (fun t (p, v) => t.setIfInBounds p v) a.tmps, defers := [] } W)
    (hbody : ∀ (l : Nat) (T x : Int) (W : World), I T W → 0 ≤ T → 0 ≤ x → x ≤ 65535 → T + x ≤ 1152921504606846976 → body.wpIn (Fence.wide.inRound l) m P (sumPost t I (T + x) W) (a1 x) W)
    (hdone : ∀ (D : Nat) (W : World), w.heap.size ≤ D → I R W → W.heap[D]? = some (.deferred (some [])) → Q .normal { a with defers := { target := .collected D, args := #[] } :: a.defers } W) :
    (Code.rangeFunc g ps assign body).wpIn Fence.wide (m + 2) P Q a w := by
  refine wpIn_rangeFunc fun fn hfn => ?_
  -- the loop's record, in the states that it goes through
  obtain ⟨rec, hrec⟩ : ∃ rec : LoopState → Option Code → Loop, rec = fun st pe => { state := st, pending := pe, fn, tmps := a.tmps, params := ps, assign, body, defers := w.heap.size } := ⟨_, rfl⟩
  obtain ⟨D, hD⟩ : ∃ D, D = w.heap.size := ⟨_, rfl⟩
  obtain ⟨W1, hW1⟩ : ∃ W1, W1 = (w.alloc (.deferred (some []))).alloc (.loop (rec .ready none)) := ⟨_, rfl⟩
  have s1 : W1.heap.size = D + 2 := by rw [hW1]; simp; omega
  have b1 : Below w.heap.size w W1 := by rw [hW1]; exact ((Below.refl _ w).alloc (Nat.le_refl _) _).alloc (by simp) _
  have l1 : W1.heap[D + 1]? = some (.loop (rec .ready none)) := by
    have := World.alloc_heap_new (w.alloc (.deferred (some []))) (.loop (rec .ready none))
    rw [World.size_alloc, ← hD, ← hW1] at this; exact this
  have k1 : W1.heap[D]? = some (.deferred (some [])) := by
    rw [hW1]; exact (Below.heap_alloc _ _ _ (by simp; omega)).trans (by rw [hD]; exact World.alloc_heap_new w _)
  refine ⟨D + 1, [{ target := .collected D, args := #[] }], W1, { target := .fn (.func gf) lb, args := #[.func (.yield (D + 1)) #[] #[]] }, W1, gf, #[.func (.yield (D + 1)) #[] #[]] ++ lb, W1, ?_, ?_, fun _ _ => trivial, ?_, fun _ => by omega, ?_⟩
  · rw [hW1, hrec, hD]; exact run_enterLoop_outer _ _ _ _ _
  · simp only [resolve, hg]; simp [go_sem]
  · simp [invoke, go_sem, eg]
  refine (hseq (D + 1) (D + 2) (fun T W => I T W ∧ W.heap[D + 1]? = some (.loop (rec .ready none)) ∧ W.heap[D]? = some (.deferred (some []))) W1 b1 (by omega) (by omega) (by omega) ?_ ?_ ⟨hI _ _ _ h0 b1, l1, k1⟩).mono ?_
  · rintro T W W' ⟨hi, hl, hk⟩ hb
    exact ⟨hI _ _ _ hi (hb.mono (by omega)), (hb.block (D + 1) (by omega)).trans hl, (hb.block D (by omega)).trans hk⟩
  · rintro T x W ⟨hi, hl, hk⟩ hT hx hx' hTx
    have hlt : D + 1 < W.heap.size := (Array.getElem?_eq_some_iff.1 hl).1
    have hy := run_yield (P := P) (args := #[.int .u16 x]) hl (by rw [hrec]; simp [hps])
    rw [hrec] at hy
    refine ⟨fn, _, assign, body, hy, roundIn_of_wpIn hfn (hassign _ x W _ ⟨_, run_beginRound hl (by rw [hrec]), ?_⟩)⟩
    obtain ⟨W2, hW2⟩ : ∃ W2, W2 = W.putObj (D + 1) (.loop { rec .ready none with state := .busy }) := ⟨_, rfl⟩
    have l2 : W2.heap[D + 1]? = some (.loop { rec .ready none with state := .busy }) := by rw [hW2]; exact World.putObj_heap_same hlt
    have o2 : ∀ k, k ≠ D + 1 → W2.heap[k]? = W.heap[k]? := fun k hk => by rw [hW2]; exact World.putObj_heap_other hk
    have z2 : W2.heap.size = W.heap.size := by rw [hW2]; simp
    have i2 : I T W2 := hI _ _ _ hi (by rw [hW2]; exact below_putObj _ _ _ (by omega))
    rw [← hW2]
    refine wpIn_mono (hbody (D + 1) T x W2 i2 hT hx hx' hTx) ?_
    rintro e a3 W3 hp
    cases e with
    | normal =>
      obtain ⟨⟨z3, o3⟩, i3⟩ := hp
      have l3 : W3.heap[D + 1]? = some (.loop { rec .ready none with state := .busy }) := (o3 _ (by omega) (by omega)).trans l2
      have k3 : W3.heap[D]? = some (.deferred (some [])) := (o3 _ (by omega) (by omega)).trans ((o2 D (by omega)).trans hk)
      have he := run_endRound (P := P) none l3
      rw [hrec] at he
      refine ⟨_, _, he, rfl, ⟨hI _ _ _ i3 (below_putObj _ _ _ (by omega)), ?_, (World.putObj_heap_other (by omega)).trans k3⟩, ?_, ?_⟩
      · rw [hrec]; exact World.putObj_heap_same (Array.getElem?_eq_some_iff.1 l3).1
      · simp; omega
      · intro k hk hkl hkt
        rw [World.putObj_heap_other hkl, o3 k (by omega) hkt, o2 k hkl]
    | ret => exact hp.elim
    | exit id => exact hp.elim
    | goto t => exact hp.elim
    | panic ch => exact hp.elim
    | outgrown => exact hp.elim
  · rintro e W2 ⟨⟨v, rfl⟩, hi, hl, hk⟩
    have he := run_endLoop (P := P) hl (by rw [hrec]; simp)
    rw [hrec] at he
    exact ⟨none, _, he, hdone D _ (by omega) (hI _ _ _ hi (below_putObj _ _ _ (by omega))) ((World.putObj_heap_other (by omega)).trans hk)⟩
end Go.Proofs.Ytfhiomgkmdijeaa
