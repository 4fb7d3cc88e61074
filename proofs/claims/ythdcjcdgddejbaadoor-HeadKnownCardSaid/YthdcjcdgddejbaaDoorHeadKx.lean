/-
  Plain facts for the closed statement of layer 5: the chapter's segment with all flags.
-/
import Derived.Test.YthdcjcdgddejbaaDoorHeadOpen
namespace Go.Proofs.YthdcjcdgddejbaaDoor
open Go.ChangeShapes Go.WideShapes Go.ChangeAt Go.RowKit
set_option linter.unusedVariables false

/-- The chapter's segment, with no data, and some flags. -/
def kx (a b c d : Bool) : Sg := ⟨0, 1, 2, 3, 4, b, d, a, c, 5, ⟨#[]⟩, ⟨#[]⟩⟩
def fb : List UInt8 := [0, 1, 2, 3, 4, 5, 6, 7, 16, 17, 18, 19, 20, 21, 22, 23]
def flb (a b c d : Bool) : UInt8 := (if a then 1 else 0) + (if b then 2 else 0) + (if c then 4 else 0) + (if d then 16 else 0)
theorem kx_ok (a b c d : Bool) : (kx a b c d).Ok := ⟨show 1 ≤ 65535 by decide, show 2 ≤ 65535 by decide, show 3 ≤ 4294967295 by decide, show 4 ≤ 4294967295 by decide, show 5 ≤ 65535 by decide, show 0 ≤ 9223372036854775000 by decide, show 0 ≤ 9223372036854775000 by decide⟩
theorem kx_lay (a b c d : Bool) : (kx a b c d).lay = .tuple #[.string (txt (kx a b c d).bytes), .int .i64 0] := (kx a b c d).lay_t rfl
theorem kx_size (a b c d : Bool) : (txt (kx a b c d).bytes).size = 20 := by rw [txt_size, Sg.bytes_length]; rfl
theorem kx_flag (a b c d : Bool) : (txt (kx a b c d).bytes).extract 13 14 = ⟨#[flb a b c d]⟩ := by
  cases a <;> cases b <;> cases c <;> cases d <;> decide +kernel
theorem blk1 (w : World) (o : Obj) (t : TypeId) (cs : Array Value) : Blk ((w.alloc o).alloc (.cells cs t)) (w.heap.size + 1) t cs := by
  have h := Blk.new (w.alloc o) t cs
  rwa [World.size_alloc] at h
theorem blk2 (w : World) (o o' : Obj) (t : TypeId) (cs : Array Value) : Blk (((w.alloc o).alloc o').alloc (.cells cs t)) (w.heap.size + 1 + 1) t cs := by
  have h := Blk.new ((w.alloc o).alloc o') t cs
  rwa [World.size_alloc, World.size_alloc] at h
theorem below3 {a w : World} (h : Below a.heap.size a w) (o o' o'' : Obj) : Below a.heap.size a ((((w.alloc o).alloc o').alloc o'').drew) :=
  (((h.alloc h.size o).alloc (by have := h.size; simp; omega) o').alloc (by have := h.size; simp; omega) o'').drew
theorem code_long : code (((txt chapB).extract 0 20 ++ txt (List.replicate 1025 0)).data.toList) = 6 := by decide +kernel
theorem fb_step (j : Nat) (h : j < 16) : txt (fb.take j) ++ ⟨#[flb ((j : Int) % 2 == 1) ((j : Int) / 2 % 2 == 1) ((j : Int) / 4 % 2 == 1) ((j : Int) / 8 == 1)]⟩ = txt (fb.take (j + 1)) := by
  have all : ∀ i : Fin 16, txt (fb.take i.val) ++ ⟨#[flb (((i.val : Nat) : Int) % 2 == 1) (((i.val : Nat) : Int) / 2 % 2 == 1) (((i.val : Nat) : Int) / 4 % 2 == 1) (((i.val : Nat) : Int) / 8 == 1)]⟩ = txt (fb.take (i.val + 1)) := by decide +kernel
  exact all ⟨j, h⟩

end Go.Proofs.YthdcjcdgddejbaaDoor
