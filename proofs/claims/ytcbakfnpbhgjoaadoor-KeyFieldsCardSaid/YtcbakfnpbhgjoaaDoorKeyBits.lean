/-
  Lowest bits of a number; a cell of a block turned; an operation that is not wanted. No statement of the document is here.
-/
import Derived.Test.YtcbakfnpbhgjoaaDoorKeyAlloc
import Derived.Laws.BitsLemmas
namespace Go.Proofs.YtcbakfnpbhgjoaaDoor
open Go.RowKit
set_option linter.unusedVariables false

/-- What is left of a word under a mask of its k lowest bits. -/
theorem masked (k : Nat) (x y : BitVec 64) (h : y.toNat = 2 ^ k - 1) : (x &&& y).toNat = x.toNat % 2 ^ k := by
  rw [BitVec.toNat_and, h]
  exact Nat.and_two_pow_sub_one_eq_mod x.toNat k
theorem low8 (n : Int) : bits .and .i64 n 255 = n % 256 := by
  have m := masked 8 (.ofInt 64 n) (.ofInt 64 255) (by decide)
  have x : (BitVec.ofInt 64 n).toNat = (n % 18446744073709551616).toNat := BitVec.toNat_ofInt n
  change IntKind.i64.wrap ((BitVec.ofInt 64 n &&& BitVec.ofInt 64 255).toNat : Nat) = _
  rw [IntKind.wrap_i64]
  omega
theorem low16 (n : Int) : bits .and .i64 n 65535 = n % 65536 := by
  have m := masked 16 (.ofInt 64 n) (.ofInt 64 65535) (by decide)
  have x : (BitVec.ofInt 64 n).toNat = (n % 18446744073709551616).toNat := BitVec.toNat_ofInt n
  change IntKind.i64.wrap ((BitVec.ofInt 64 n &&& BitVec.ofInt 64 65535).toNat : Nat) = _
  rw [IntKind.wrap_i64]
  omega
theorem ex_and {ρ : Operand → Value} {o : Oper} {w : World} (t u : TypeId) (x y : Operand) (ho : o.op = .binOp .and t x y u) (a b c : Int) (hx : ρ x = .int .i64 a) (hy : ρ y = .int .i64 b) (ht : Tryd.prog.underlying t = some (.int .i64)) (h : bits .and .i64 a b = c) :
    (execOp ρ o).run Tryd.prog w = .ok (.value (.int .i64 c)) w := by
  subst h
  unfold execOp
  rw [ho]
  simp [hx, hy, go_sem]
theorem blk_put {w : World} {g : Nat} {t : TypeId} {cs : Array Value} (h : Blk w g t cs) (i : Nat) (v : Value) : Blk (w.setCell ⟨g, i, none⟩ v) g t (cs.setIfInBounds i v) := heap_setCell_same w g i cs t v h
theorem blk_other {w : World} {g : Nat} {t : TypeId} {cs : Array Value} (h : Blk w g t cs) {p : Addr} (hp : g ≠ p.block) (v : Value) : Blk (w.setCell p v) g t cs := (Below.heap_setCell w p v g hp).trans h
theorem store_int (W : World) (g k : Nat) (x z : Int) (hc : W.cell? ⟨g, k, none⟩ = some (.int .i64 x)) (hf : W.frozen? ⟨g, k, none⟩ = false) : (storeVar 3 ⟨g, k, none⟩ (.int .i64 z)).run Tryd.prog W = .ok () (W.setCell ⟨g, k, none⟩ (.int .i64 z)) := by
  have hi : (Tryd.prog.info? 3).map (·.size) = some 1 := by kernel_rfl
  have hst : (store ((⟨g, k, none⟩ : Addr).add 0) (.int .i64 z)).run Tryd.prog W = .ok () (W.setCell ⟨g, k, none⟩ (.int .i64 z)) := by
    rw [show (⟨g, k, none⟩ : Addr).add 0 = ⟨g, k, none⟩ from rfl, run_store Tryd.prog W _ _ _ rfl, hc]
    simp [hf]
  cases hq : Tryd.prog.info? 3 with
  | none => rw [hq] at hi; cases hi
  | some i =>
    have hs : i.size = 1 := by simpa [hq] using hi
    simp [storeVar, sizeOf, typeInfo, hq, Value.cells, hs, storeCells, hst]
section
variable {P : Program} {ops : Array Oper} {S : World → Prop} {Q : Exit → Act → World → Prop} {md : Region.Mode} {fuel : Nat} {listed : Array Bool} {a : Act} {w : World}
/-- Not wanted: it yields nothing, and is past. -/
theorem held_pass (i : Nat) {o : Oper} (hi : ops[i]? = some o) (hs : Region.noSelect ops = true) (hf : Region.free md ops listed i = true) (hr : (Region.ready md ops listed).contains i = true) (hw : Region.wanted o (yielded ops a.tmps) = false) (hS : S w)
    (h : wpAnyH P md ops (NoPanic Q) S fuel (listed.setIfInBounds i true) (a.put o.dst undef) w) : wpAnyH P md ops (NoPanic Q) S (fuel + 1) listed a w :=
  wpAnyH_take hi hs hf hr (fun c a w h => h) (.inr ⟨hw, rfl⟩) hS h
end
end Go.Proofs.YtcbakfnpbhgjoaaDoor
