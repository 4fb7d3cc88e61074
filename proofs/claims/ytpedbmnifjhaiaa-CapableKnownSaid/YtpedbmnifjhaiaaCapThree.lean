/-
  Three variables of an option's type, laid at once with one option (a region that draws its order). No statement of the document is here.
-/
import Derived.Test.YtpedbmnifjhaiaaWalkMore
namespace Go.Proofs.Ytpedbmnifjhaiaa
open Go Go.RowKit
set_option linter.unusedVariables false

theorem three_rows {B : Nat} {V Y : World} {p q r : Nat} (y : Cap) (hpq : p ≠ q) (hpr : p ≠ r) (hqr : q ≠ r) (hp : Blk Y p 25 (capv Cap.zero)) (hq : Blk Y q 25 (capv Cap.zero)) (hr : Blk Y r 25 (capv Cap.zero)) (b : Below B V Y) (lp : B ≤ p) (lq : B ≤ q) (lr : B ≤ r) :
    (Blk (Y.setRow p (capv y)) q 25 (capv Cap.zero) ∧ Below B V (Y.setRow p (capv y))) ∧ (Blk ((Y.setRow p (capv y)).setRow q (capv y)) r 25 (capv Cap.zero) ∧ Below B V ((Y.setRow p (capv y)).setRow q (capv y))) ∧
      (Blk (((Y.setRow p (capv y)).setRow q (capv y)).setRow r (capv y)) p 25 (capv y) ∧ Blk (((Y.setRow p (capv y)).setRow q (capv y)).setRow r (capv y)) q 25 (capv y) ∧ Blk (((Y.setRow p (capv y)).setRow q (capv y)).setRow r (capv y)) r 25 (capv y) ∧ Below B V (((Y.setRow p (capv y)).setRow q (capv y)).setRow r (capv y))) := by
  have o : ∀ {W : World} {g h : Nat} {cs : Array Value}, Blk W h 25 cs → h ≠ g → Blk (W.setRow g (capv y)) h 25 cs := fun h n => (setRow_other _ _ _ _ n).trans h
  have s : ∀ {W : World} {g : Nat} {cs : Array Value}, Blk W g 25 cs → Blk (W.setRow g (capv y)) g 25 (capv y) := fun h => setRow_heap _ _ _ _ _ _ h
  have b1 := below_setRow b lp (capv y)
  have b2 := below_setRow b1 lq (capv y)
  have b3 := below_setRow b2 lr (capv y)
  have q1 := o hq hpq.symm
  have r1 := o hr hpr.symm
  have p1 := s hp
  have p2 := o p1 hpq
  have q2 := s q1
  have r2 := o r1 hqr.symm
  exact ⟨⟨q1, b1⟩, ⟨r2, b2⟩, o p2 hpr, o q2 hqr, s r2, b3⟩
/-- What lies there when all three are laid. -/
def Laid3 (V wx : World) (y : Cap) (a b c : Nat) : Prop := (a ≠ b ∧ a ≠ c ∧ b ≠ c) ∧ (V.heap.size ≤ a ∧ V.heap.size ≤ b ∧ V.heap.size ≤ c) ∧ Blk wx a 25 (capv y) ∧ Blk wx b 25 (capv y) ∧ Blk wx c 25 (capv y) ∧ Below V.heap.size V wx
end Go.Proofs.Ytpedbmnifjhaiaa
