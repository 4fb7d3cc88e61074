/-
  Two digests are compared byte by byte.
-/
import Derived.Test.YtcbakfnpbhgjoaaDoorShaLoads
import Derived.Laws.StructEq
namespace Go.Proofs.YtcbakfnpbhgjoaaDoor
set_option linter.unusedVariables false

theorem digest_arr : Tryd.prog.underlying 32 = some (.array 32 5) := by kernel_rfl
theorem part_u8 (xs : List UInt8) (i : Nat) (hi : i < xs.length) (w : World) : (part 5 (byv xs) i).run Tryd.prog w = .ok (.int .u8 ((xs[i]).toNat : Int)) w := by
  simp [part, sizeOf, typeInfo, byv_get xs i hi]
theorem u8_size (w : World) : (sizeOf 5).run Tryd.prog w = .ok 1 w := by kernel_rfl
/-- What the comparison does at one place. -/
def eqAt (d : Nat) (l k : List UInt8) (i : Nat) : Sem (ForInStep (Option Bool × Unit)) := do
  let x ← part 5 (byv l) (i * 1)
  let y ← part 5 (byv k) (i * 1)
  let b ← Op.equalIn (d + 1) 5 x y
  if (!b) = true then pure (ForInStep.done (some false, ())) else pure (ForInStep.yield (none, ()))
theorem eqAt_run (d : Nat) (l k : List UInt8) (i : Nat) (hl : i < l.length) (hk : i < k.length) (w : World) :
    (eqAt d l k i).run Tryd.prog w = .ok (if l[i] = k[i] then ForInStep.yield (none, ()) else ForInStep.done (some false, ())) w := by
  unfold eqAt
  simp only [Nat.mul_one, Sem.run_bind, part_u8 l i hl, part_u8 k i hk, Result.andThen_ok, run_equalIn_int w d _ .u8 .u8 _ _ Tryd.underlying5]
  by_cases h : l[i] = k[i]
  · simp [h]
  · have : ¬ ((l[i].toNat : Int) = (k[i].toNat : Int)) := fun e => h (UInt8.toNat_inj.1 (by omega))
    simp [h, this]
theorem eq_loop (d : Nat) (l k : List UInt8) (w : World) : ∀ is : List Nat, (∀ i ∈ is, i < l.length ∧ i < k.length) →
    (forIn is ((none, ()) : Option Bool × Unit) (fun i _ => eqAt d l k i)).run Tryd.prog w = .ok (if is.all (fun i => l[i]? == k[i]?) then (none, ()) else (some false, ())) w
  | [], _ => by simp
  | i :: is, h => by
    obtain ⟨h1, h2⟩ := h i (by simp)
    rw [List.forIn_cons, Sem.run_bind, eqAt_run d l k i h1 h2, Result.andThen_ok]
    by_cases e : l[i] = k[i]
    · rw [if_pos e]
      simp only []
      rw [eq_loop d l k w is fun j hj => h j (by simp [hj])]
      simp [h1, h2, e]
    · rw [if_neg e]
      simp [h1, h2, e]
theorem digest_eqd (d : Nat) (l k : List UInt8) (hl : l.length = 32) (hk : k.length = 32) (w : World) : (Op.equalIn (d + 1 + 1) 32 (.agg (byv l)) (.agg (byv k))).run Tryd.prog w = .ok (l == k) w := by
  rw [Op.equalIn]
  simp only [Sem.run_bind, run_underlying digest_arr, Result.andThen_ok, u8_size]
  have e := eq_loop d l k w (List.range' 0 32 1) (fun i hi => by simp at hi; omega)
  have hf : (forIn [:32] ((none, ()) : Option Bool × Unit) (fun i _ => eqAt d l k i)) = forIn (List.range' 0 32 1) ((none, ()) : Option Bool × Unit) (fun i _ => eqAt d l k i) := by
    simp [Std.Legacy.Range.forIn_eq_forIn_range', Std.Legacy.Range.size]
  rw [← hf] at e
  unfold eqAt at e
  rw [e, Result.andThen_ok]
  have hb : ((List.range' 0 32 1).all fun i => l[i]? == k[i]?) = (l == k) := by
    rw [Bool.eq_iff_iff, List.all_eq_true, beq_iff_eq]
    constructor
    · intro h
      apply List.ext_getElem (by omega)
      intro i h1 h2
      have := h i (by simp; omega)
      simpa [h1, h2] using this
    · rintro rfl i _
      simp
  rw [hb]
  cases hlk : (l == k) <;> simp
theorem digest_eq (l k : List UInt8) (hl : l.length = 32) (hk : k.length = 32) (w : World) : (Op.equalIn 10000 32 (.agg (byv l)) (.agg (byv k))).run Tryd.prog w = .ok (l == k) w := digest_eqd 9998 l k hl hk w
end Go.Proofs.YtcbakfnpbhgjoaaDoor
