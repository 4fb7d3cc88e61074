/-
  A loop that ranges over a function which keeps state of its own in cells, and is handed row after row, each known ahead: the loop's law, from what the function does with any such loop. Nothing of the document is here.
-/
import Derived.Test.YtcbakfnpbhgjoaaDoorShaIter
namespace Go.Proofs.YtcbakfnpbhgjoaaDoor
open Go.RowKit Go.Shelf
set_option linter.unusedVariables false

/-- Only block t, and what is new, has turned. -/
def OnlyAt (t : Nat) (W W' : World) : Prop := W.heap.size ≤ W'.heap.size ∧ ∀ k, k < W.heap.size → k ≠ t → W'.heap[k]? = W.heap[k]?
/-- A round's way out. -/
def rowPost (t : Nat) (I : Nat → World → Prop) (i : Nat) (W : World) : Exit → Act → World → Prop
  | .normal, _, W' => OnlyAt t W W' ∧ I i W'
  | _, _, _ => False
theorem below_putObj {B : Nat} (W : World) (l : Nat) (o : Obj) (h : B ≤ l) : Below B W (W.putObj l o) :=
  ⟨rfl, rfl, rfl, by simp, fun k hk => World.putObj_heap_other (by omega)⟩

/-- The record of the loop, in a state, with the jump that is pending. -/
def loopRec (fn : FuncId) (tm : Array Value) (ps : Array Tmp) (asg bdy : Code) (D : Nat) (st : LoopState) (jump : Option Code) : Loop :=
  { fn := fn, tmps := tm, params := ps, assign := asg, body := bdy, defers := D, state := st, pending := jump }
/-- Two new blocks, where they lie. -/
theorem two_new (w : World) (o o' : Obj) : ((w.alloc o).alloc o').heap[w.heap.size]? = some o ∧ ((w.alloc o).alloc o').heap[w.heap.size + 1]? = some o' := by
  constructor
  · show ((w.heap.push o).push o')[w.heap.size]? = some o
    simp [Array.getElem?_push]
  · show ((w.heap.push o).push o')[w.heap.size + 1]? = some o'
    rw [show w.heap.size + 1 = (w.heap.push o).size by simp, Array.getElem?_push_size]

theorem range_rows {P : Program} {m : Nat} {g : Operand} {ps : Array Tmp} {assign body : Code} {Q : Exit → Act → World → Prop} {a : Act} {w : World} {gf : Nat} {lb : Array Value}
    (hg : a.eval g = .func (.func gf) #[] lb) (eg : ∀ args w, (callFunc gf args).run P w = .ok (.enter gf args) w) (N : Nat) (xs : Nat → Array Value) (hps : ∀ i, (xs i).size = ps.size) (t : Nat) (ht : t < w.heap.size)
    (hseq : ∀ (l B : Nat) (J : Nat → World → Prop) (W : World), Below w.heap.size w W → B ≤ W.heap.size → l < B → w.heap.size ≤ l → (∀ T W W', J T W → Below B W W' → J T W') →
      (∀ T W, J T W → T < N → YieldAt Fence.wide m P l (xs T) W fun e W' => e = .returned (.bool true) ∧ J (T + 1) W' ∧ Kept l t W W') →
      J 0 W → CallsIn Fence.wide (m + 1) P gf (#[.func (.yield l) #[] #[]] ++ lb) W fun e W' => (∃ v, e = .returned v) ∧ J N W')
    (I : Nat → World → Prop) (hI : ∀ T W W', I T W → Below w.heap.size W W' → I T W') (h0 : I 0 w) (a1 : Nat → Act)
    (hassign : ∀ (l : Nat) (x : Nat) (W : World) (K : Act → World → Prop), K (a1 x) W →
      assign.wpIn (Fence.wide.inRound l) m P (Exit.then K (fun _ _ _ => False)) { tmps := (ps.zip (xs x)).foldl (fun t (p, v) => t.setIfInBounds p v) a.tmps, defers := [] } W)
    (hbody : ∀ (l : Nat) (T : Nat) (W : World), I T W → T < N → body.wpIn (Fence.wide.inRound l) m P (rowPost t I (T + 1) W) (a1 T) W)
    (hdone : ∀ (D : Nat) (W : World), w.heap.size ≤ D → I N W → W.heap[D]? = some (.deferred (some [])) → Q .normal { a with defers := { target := .collected D, args := #[] } :: a.defers } W) :
    (Code.rangeFunc g ps assign body).wpIn Fence.wide (m + 2) P Q a w := by
  refine wpIn_rangeFunc fun fn hfn => ?_
  obtain ⟨D, hD⟩ : ∃ D, D = w.heap.size := ⟨_, rfl⟩
  obtain ⟨L, hL⟩ : ∃ L, L = loopRec fn a.tmps ps assign body D := ⟨_, rfl⟩
  obtain ⟨W1, hW1⟩ : ∃ W1, W1 = (w.alloc (.deferred (some []))).alloc (.loop (L .ready none)) := ⟨_, rfl⟩
  have s1 : W1.heap.size = D + 2 := by rw [hW1, hD]; simp
  have b1 : Below w.heap.size w W1 := by rw [hW1]; exact ((Below.refl _ w).alloc (Nat.le_refl _) _).alloc (by simp) _
  obtain ⟨k1, l1⟩ := two_new w (.deferred (some [])) (.loop (L .ready none))
  rw [← hW1, ← hD] at k1 l1
  refine ⟨D + 1, [{ target := .collected D, args := #[] }], W1, { target := .fn (.func gf) lb, args := #[.func (.yield (D + 1)) #[] #[]] }, W1, gf, #[.func (.yield (D + 1)) #[] #[]] ++ lb, W1, ?enter, ?goal, fun _ _ => trivial, ?call, fun _ => by omega, ?rest⟩
  case enter => rw [hW1, hL, hD]; exact run_enterLoop_outer _ _ _ _ _
  case goal =>
    simp only [resolve, hg]
    simp [go_sem]
  case call => simp [invoke, go_sem, eg]
  case rest =>
    let J : Nat → World → Prop := fun T W => I T W ∧ W.heap[D + 1]? = some (.loop (L .ready none)) ∧ W.heap[D]? = some (.deferred (some []))
    have steady : ∀ T W W', J T W → Below (D + 2) W W' → J T W' := fun T W W' h hb =>
      ⟨hI _ _ _ h.1 (hb.mono (by omega)), (hb.block (D + 1) (by omega)).trans h.2.1, (hb.block D (by omega)).trans h.2.2⟩
    have round : ∀ T W, J T W → T < N →
        YieldAt Fence.wide m P (D + 1) (xs T) W fun e W' => e = .returned (.bool true) ∧ J (T + 1) W' ∧ Kept (D + 1) t W W' := by
      rintro T W ⟨hi, hl, hk⟩ hT
      have hlt : D + 1 < W.heap.size := (Array.getElem?_eq_some_iff.1 hl).1
      have hy := run_yield (P := P) (args := xs T) hl (by rw [hL]; simp [loopRec, hps])
      have hst : (L .ready none).state = .ready := by rw [hL]; rfl
      rw [hL] at hy
      obtain ⟨W2, hW2⟩ : ∃ W2, W2 = W.putObj (D + 1) (.loop { L .ready none with state := .busy }) := ⟨_, rfl⟩
      refine ⟨fn, _, assign, body, hy, roundIn_of_wpIn hfn (hassign _ T W _ ⟨W2, by rw [hW2]; exact run_beginRound hl hst, ?_⟩)⟩
      have l2 : W2.heap[D + 1]? = some (.loop { L .ready none with state := .busy }) := by rw [hW2]; exact World.putObj_heap_same hlt
      have o2 : ∀ k, k ≠ D + 1 → W2.heap[k]? = W.heap[k]? := fun k hk => by rw [hW2]; exact World.putObj_heap_other hk
      have z2 : W2.heap.size = W.heap.size := by rw [hW2]; simp
      have i2 : I T W2 := hI _ _ _ hi (by rw [hW2]; exact below_putObj _ _ _ (by omega))
      refine wpIn_mono (hbody (D + 1) T W2 i2 hT) fun e a3 W3 hp => ?_
      cases e with
      | normal =>
        obtain ⟨⟨z3, o3⟩, i3⟩ := hp
        have l3 := (o3 (D + 1) (by omega) (by omega)).trans l2
        have k3 := ((o3 D (by omega) (by omega)).trans (o2 D (by omega))).trans hk
        have he := run_endRound (P := P) none l3
        rw [hL] at he
        refine ⟨_, _, he, rfl, ⟨hI _ _ _ i3 (below_putObj _ _ _ (by omega)), ?_, (World.putObj_heap_other (by omega)).trans k3⟩, by simp; omega, fun k hk hkl hkt => ?_⟩
        · rw [hL]; exact World.putObj_heap_same (Array.getElem?_eq_some_iff.1 l3).1
        · rw [World.putObj_heap_other hkl, o3 k (by omega) hkt, o2 k hkl]
      | _ => exact hp.elim
    refine (hseq (D + 1) (D + 2) J W1 b1 (by omega) (by omega) (by omega) steady round ⟨hI _ _ _ h0 b1, l1, k1⟩).mono fun e W2 h => ?_
    obtain ⟨⟨v, rfl⟩, hi, hl, hk⟩ := h
    have he := run_endLoop (P := P) hl (by rw [hL]; simp [loopRec])
    rw [hL] at he
    exact ⟨none, _, he, hdone D _ (by omega) (hI _ _ _ hi (below_putObj _ _ _ (by omega))) ((World.putObj_heap_other (by omega)).trans hk)⟩
end Go.Proofs.YtcbakfnpbhgjoaaDoor
