/-
  Each call of a cursor, its world told in one word: nothing but the cursor's block, and what is new, has turned.
-/
import Derived.Test.YtbimdlcgjpeheaaCurReads
import Derived.Test.YtbimdlcgjpeheaaCurPuts
namespace Go.Proofs.Ytbimdlcgjpeheaa
open Go.RowKit
set_option linter.unusedVariables false

/-- A call that answers a new cursor before the first byte of s. -/
def Opened (s : ByteArray) (w : World) (e : Ending) (w' : World) : Prop :=
  ∃ b : Nat, e = .returned (.pointer (some ⟨b, 0, none⟩)) ∧ w.heap.size ≤ b ∧ Below w.heap.size w w' ∧ Cur w' b s 0 false
theorem Read_new (s : ByteArray) (w : World) : Calls Try.prog 32 #[.string s] w (Opened s w) :=
  (Read_any s w).mono fun _ _ h => ⟨w.heap.size, h.1, Nat.le_refl _, h.2 ▸ (Below.refl _ _).alloc (Nat.le_refl _) _, h.2 ▸ Blk.new _ _ _⟩

theorem Moved.same {w : World} {b : Nat} {s : ByteArray} {k : Nat} {br : Bool} (h : Cur w b s k br) : Moved w w b s k br := ⟨.refl _ _, h⟩
theorem Moved.drawn {w w' : World} {b : Nat} {s : ByteArray} {k : Nat} {br : Bool} (h : Cur w b s k br) (hw : ∃ n, w' = w.drewN n) : Moved w w' b s k br := by
  obtain ⟨n, rfl⟩ := hw
  exact ⟨only_drewN (.refl _ _) n, Blk.drewN h n⟩
theorem below_move {B : Nat} {w w1 w2 : World} {b : Nat} {s : ByteArray} {k : Nat} {br : Bool} (h : Below B w w1) (m : Moved w1 w2 b s k br) (hb : B ≤ b) (hs : B ≤ w.heap.size) : Below B w w2 :=
  h.trans (below_of_only m.1 hb (Nat.le_trans hs h.size))
theorem answer {P : Program} {f : FuncId} {args : Array Value} {w : World} {v v' : Value} {R : World → Prop} (h : Calls P f args w fun e w' => e = .returned v ∧ R w') (hv : v = v') :
    Calls P f args w fun e w' => e = .returned v' ∧ R w' := hv ▸ h

section
variable (b : Nat) (s : ByteArray) (k : Nat) (w : World)
theorem Left_brm (h : Cur w b s k true) : Calls Try.prog 54 #[.pointer (some ⟨b, 0, none⟩)] w fun e w' => e = .returned (.int .i64 0) ∧ Moved w w' b s k true :=
  (Left_br b s k w h).mono fun _ _ x => ⟨x.1, x.2 ▸ Moved.same h⟩
theorem Left_mv (hs : s.size ≤ 9223372036854775807) (hk : k ≤ s.size) (h : Cur w b s k false) :
    Calls Try.prog 54 #[.pointer (some ⟨b, 0, none⟩)] w fun e w' => e = .returned (.int .i64 ((s.size : Int) - (k : Int))) ∧ Moved w w' b s k false :=
  (Left_ok b s k w hs hk h).mono fun _ _ x => ⟨x.1, Moved.drawn h x.2⟩
theorem End_brm (h : Cur w b s k true) : Calls Try.prog 55 #[.pointer (some ⟨b, 0, none⟩)] w fun e w' => e = .returned (.int .i64 4) ∧ Moved w w' b s k true :=
  (End_br b s k w h).mono fun _ _ x => ⟨x.1, x.2 ▸ Moved.same h⟩
theorem End_morem (hs : s.size ≤ 9223372036854775807) (hk : k < s.size) (h : Cur w b s k false) :
    Calls Try.prog 55 #[.pointer (some ⟨b, 0, none⟩)] w fun e w' => e = .returned (.int .i64 5) ∧ Moved w w' b s k false :=
  (End_more b s k w hs hk h).mono fun _ _ x => ⟨x.1, Moved.drawn h x.2⟩
theorem End_donem (hs : s.size ≤ 9223372036854775807) (hk : k = s.size) (h : Cur w b s k false) :
    Calls Try.prog 55 #[.pointer (some ⟨b, 0, none⟩)] w fun e w' => e = .returned (.int .i64 0) ∧ Moved w w' b s k false := by
  subst hk
  exact (End_done b s w hs h).mono fun _ _ x => ⟨x.1, Moved.drawn h x.2⟩
end
end Go.Proofs.Ytbimdlcgjpeheaa
