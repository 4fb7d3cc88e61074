/-
  The function that keeps a byte which waits for its other half (sum.pairs and its closure), by its walk.
-/
import Derived.Test.YthdcjcdgddejbaaDoorSumWalks
namespace Go.Proofs.YthdcjcdgddejbaaDoor
open Go.ChangeShapes Go.WideShapes Go.ChangeAt Go.RowKit
set_option linter.unusedVariables false

/-- What the closure keeps: the first byte of two, in block g, and whether it waits, in the next one. -/
def Pair (w : World) (g : Nat) (fs : Int) (wt : Bool) : Prop := Blk w g 5 #[.int .u8 fs] ∧ Blk w (g + 1) 4 #[.bool wt]
/-- The closure, as a value. -/
abbrev pairFn (g : Nat) : Value := .func (.func 40) #[] #[.pointer (some ⟨g + 1, 0, none⟩), .pointer (some ⟨g, 0, none⟩)]
theorem Pair.same {w w' : World} {g : Nat} {fs : Int} {wt : Bool} (h : Pair w g fs wt) (e : ∀ k, g ≤ k → k < w.heap.size → w'.heap[k]? = w.heap[k]?) : Pair w' g fs wt :=
  ⟨h.1.same (e g (Nat.le_refl _) h.1.lt), h.2.same (e (g + 1) (by omega) h.2.lt)⟩

theorem pairs_any (w : World) :
    Calls Tryd.prog 39 #[] w fun e w' => e = .returned (pairFn w.heap.size) ∧ Below w.heap.size w w' ∧ Pair w' w.heap.size 0 false ∧ w'.heap.size = w.heap.size + 2 := by
  go_enter Tryd.func39, Tryd.ntmps39
  go_wp2
  go_ret
  exact ⟨rfl, ((Below.refl _ w).alloc (Nat.le_refl _) _).alloc (by simp) _, ⟨(Blk.new w 5 #[.int .u8 0]).alloc _, by have := Blk.new (w.alloc (.cells #[.int .u8 0] 5)) 4 #[.bool false]; rwa [World.size_alloc] at this⟩, by simp⟩

/-- A store into another block. -/
theorem Blk.off {w : World} {g : Nat} {t : TypeId} {cs : Array Value} (h : Blk w g t cs) {p : Addr} (hp : g ≠ p.block) (u : Value) : Blk (w.setCell p u) g t cs := h.same (Below.heap_setCell w p u g hp)
theorem Pair.first {w : World} {g : Nat} {fs : Int} (h : Pair w g fs false) (b : Int) : Pair ((w.setCell ⟨g + 1, 0, none⟩ (.bool true)).setCell ⟨g, 0, none⟩ (.int .u8 b)) g b true :=
  ⟨Blk.set_ (h.1.off (p := ⟨g + 1, 0, none⟩) (by simp) _) 0 _, (Blk.set_ h.2 0 _).off (p := ⟨g, 0, none⟩) (by simp) _⟩
theorem Pair.second {w : World} {g : Nat} {fs : Int} (h : Pair w g fs true) : Pair (w.setCell ⟨g + 1, 0, none⟩ (.bool false)) g fs false :=
  ⟨h.1.off (p := ⟨g + 1, 0, none⟩) (by simp) _, Blk.set_ h.2 0 _⟩

theorem pair_first (b fs : Int) (g : Nat) (w : World) (h : Pair w g fs false) :
    Calls Tryd.prog 40 #[.int .u8 b, .pointer (some ⟨g + 1, 0, none⟩), .pointer (some ⟨g, 0, none⟩)] w fun e w' =>
      e = .returned (.tuple #[.int .u16 0, .bool false]) ∧ Below g w w' ∧ Pair w' g b true ∧ w'.heap.size = w.heap.size := by
  have c0 := h.1.cell 0
  have c1 := h.2.cell 0
  have f0 := h.1.frozen 0
  have f1 := h.2.frozen 0
  have H := Lib.hid h
  clear h
  go_enter Tryd.func40, Tryd.ntmps40
  go_wp2
  go_ret2
  exact ⟨rfl, ((Below.refl g w).setCell (p := ⟨g + 1, 0, none⟩) (by simp) _).setCell (p := ⟨g, 0, none⟩) (by simp) _, H.out.first b, by simp [World.setCell]⟩
theorem pair_second (b fs : Int) (g : Nat) (w : World) (hb : 0 ≤ b) (hb' : b ≤ 255) (hf : 0 ≤ fs) (hf' : fs ≤ 255) (h : Pair w g fs true) :
    Calls Tryd.prog 40 #[.int .u8 b, .pointer (some ⟨g + 1, 0, none⟩), .pointer (some ⟨g, 0, none⟩)] w fun e w' =>
      e = .returned (.tuple #[.int .u16 (256 * fs + b), .bool true]) ∧ Below g w w' ∧ Pair w' g fs false ∧ w'.heap.size = w.heap.size := by
  have c0 := h.1.cell 0
  have c1 := h.2.cell 0
  have f0 := h.1.frozen 0
  have f1 := h.2.frozen 0
  have H := Lib.hid h
  clear h
  go_enter Tryd.func40, Tryd.ntmps40
  go_wp2
  go_ret2
  exact ⟨by rw [or_word fs b hf hf' hb hb']; rfl, (Below.refl g w).setCell (p := ⟨g + 1, 0, none⟩) (by simp) _, H.out.second, by simp [World.setCell]⟩
end Go.Proofs.YthdcjcdgddejbaaDoor
