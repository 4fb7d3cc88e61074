/-
  An argument that is a slice of structs of one-cell fields, opened: each field of each element is a cell that reads by the field's type.
-/
import Derived.Test.YtlmbccgldigihaaAreaRefs
import Derived.Deep.Slices
import Derived.Deep.Fields
import Derived.ChangeSame
import Derived.OpenShut
namespace Go.Proofs.Ytlmbccgldigihaa
open Go.ChangeShapes Go.WideShapes Go.Deep Go.RowKit Go.ChangeAt
set_option linter.unusedVariables false
section
variable {H : Type} {enc : TypeId × Value → H} {P : Program} {w : World} {base : Nat} {spare : Nat → Bool} {held : Bool}
/-- One struct: field j's cell. -/
theorem field_cell {e : TypeId} {fs : Array Field} {q : Addr} {n : Nat} {cs : List Value} {x : DataW H × List MemPlace} (he : P.underlying e = some (.struct fs)) (hone : oneCellFields P fs = true) (hC : P.cellsOf e = fs.size)
    (hc : w.cells? base q (P.cellsOf e) = some cs) (ht : DataW.trod enc P w base spare held n e cs = some x) {j : Nat} {f : Field} (hj : fs[j]? = some f) :
    ∃ (v : Value) (m : Nat) (y : DataW H × List MemPlace), w.cell? (q.add j) = some v ∧ DataW.trod enc P w base spare held m f.type [v] = some y := by
  obtain ⟨ys, m, _, _, hcl, hyl, hf⟩ := DataW.trod_struct he ht
  obtain ⟨_, hlen, hcell⟩ := World.cells?_some hc
  have hjs : j < fs.size := (Array.getElem?_eq_some_iff.1 hj).1
  have hjc : j < cs.length := by omega
  have hjy : j < ys.length := by omega
  have hr := hf j f hj
  rw [(hone_of hone j f hj).1, (hone_of hone j f hj).2, List.drop_eq_getElem_cons hjc, List.take_succ_cons, List.take_zero, List.getElem?_eq_getElem hjy] at hr
  exact ⟨cs[j], m, ys[j], (hcell j (by omega)).trans (List.getElem?_eq_getElem hjc), hr⟩

theorem open_rows {r : Reach} {b0 : Nat} {t e : TypeId} {fs : Array Field} {v : Value} {d : DataW H} {p : List MemPlace} (hsl : P.underlying t = some (.slice e)) (he : P.underlying e = some (.struct fs)) (hone : oneCellFields P fs = true)
    (hC : P.cellsOf e = fs.size) (hv : Value.okWide P w r b0 t v) (h : DataW.Trod enc P w base spare held t v d p) :
    ∃ (A : Option Addr) (len cap : Nat), v = .slice A len cap ∧ len ≤ cap ∧ cap ≤ 9223372036854775807 ∧
      ∀ i, i < len → ∃ ad, A = some ad ∧ ∀ (j : Nat) (f : Field), fs[j]? = some f →
        ∃ (v : Value) (m : Nat) (y : DataW H × List MemPlace), w.cell? ((ad.add (i * fs.size)).add j) = some v ∧ DataW.trod enc P w base spare held m f.type [v] = some y := by
  obtain ⟨A, len, cap, rfl⟩ := okWide_slice hsl hv
  obtain ⟨fuel, hf⟩ := h
  rcases open_slice hsl hf with ⟨h0, _⟩ | ⟨ad, len', cap', m, n, D, Pl, hcs, _, hl, hm, hmm, _, hi⟩
  · simp [Value.cells] at h0
    obtain ⟨rfl, rfl, rfl⟩ := h0
    exact ⟨none, 0, 0, rfl, by omega, by omega, fun i hi => absurd hi (by omega)⟩
  · simp [Value.cells] at hcs
    obtain ⟨rfl, rfl, rfl⟩ := hcs
    refine ⟨some ad, len, cap, rfl, hl, hm, fun i hlt => ⟨ad, rfl, fun j f hj => ?_⟩⟩
    have him : i < m := by rw [hmm]; split <;> omega
    obtain ⟨cs', hc, ht⟩ := hi i him
    rw [← hC]
    exact field_cell he hone hC hc ht hj
end

theorem list_of {α : Type} {P : Nat → α → Prop} : ∀ n, (∀ i, i < n → ∃ x, P i x) → ∃ l : List α, l.length = n ∧ ∀ i x, l[i]? = some x → P i x
  | 0, _ => ⟨[], rfl, fun i x h => by simp at h⟩
  | n + 1, h => by
    obtain ⟨l, hl, hp⟩ := list_of n (fun i hi => h i (by omega))
    obtain ⟨x, hx⟩ := h n (by omega)
    refine ⟨l ++ [x], by simp [hl], fun i y hy => ?_⟩
    by_cases hi : i < l.length
    · rw [List.getElem?_append_left hi] at hy; exact hp i y hy
    · have hi2 : i < (l ++ [x]).length := (List.getElem?_eq_some_iff.1 hy).1
      rw [List.length_append, List.length_singleton] at hi2
      obtain rfl : i = l.length := by omega
      rw [List.getElem?_append_right (Nat.le_refl _), Nat.sub_self] at hy
      simp at hy
      subst hy; rw [hl]; exact hx

/-- A slice of items that came in. -/
theorem open_items {H : Type} {enc : TypeId × Value → H} {w : World} {base : Nat} {spare : Nat → Bool} {held : Bool} {r : Reach} {b0 : Nat} {v : Value} {d : DataW H} {p : List MemPlace}
    (hv : Value.okWide Try.prog w r b0 22 v) (h : DataW.Trod enc Try.prog w base spare held 22 v d p) :
    ∃ l : List It, Row w v l ∧ ∀ y ∈ l, y.2.size ≤ 9223372036854775807 := by
  obtain ⟨A, len, cap, rfl, hl, hc, hi⟩ := open_rows Try.underlying22 Try.underlying24 (by kernel_rfl) (by kernel_rfl) hv h
  obtain ⟨l, hll, hP⟩ := list_of (α := It) (P := fun i x => (∃ ad, A = some ad ∧ ad.block < w.heap.size ∧ w.cell? (ad.add (i * 2)) = some (.int .i64 x.1) ∧ w.cell? ⟨(ad.add (i * 2)).block, (ad.add (i * 2)).off + 1, none⟩ = some (.string x.2)) ∧ x.2.size ≤ 9223372036854775807) len fun i hlt => by
    obtain ⟨ad, rfl, hf⟩ := hi i hlt
    obtain ⟨u0, m0, y0, c0, t0⟩ := hf 0 _ rfl
    obtain ⟨u1, m1, y1, c1, t1⟩ := hf 1 _ rfl
    obtain ⟨a, e0, _, wa⟩ := DataW.trod_int Try.underlying3 t0
    obtain ⟨t, e1, _, wt⟩ := DataW.trod_string Try.underlying9 t1
    injection e0 with e0
    injection e1 with e1
    subst e0 e1
    have hb := World.block_lt_of_cell? w _ c0
    have hb' : ad.block < w.heap.size := by
      have e : ((ad.add (i * 2)).add 0).block = ad.block := by rw [add_block, add_block]
      rw [← e]; exact hb
    exact ⟨(a, t), ⟨ad, rfl, hb', c0, c1⟩, by unfold maxLen at wt; simpa using wt⟩
  subst hll
  refine ⟨l, ⟨A, cap, rfl, hl, hc, fun i x hx => (hP i x hx).1⟩, fun y hy => ?_⟩
  obtain ⟨i, hi'⟩ := List.getElem?_of_mem hy
  exact (hP i y hi').2

/-- A slice of drafts in memory. -/
def DRow (w : World) (v : Value) (l : List It) : Prop :=
  ∃ (p : Option Addr) (cap : Nat), v = .slice p l.length cap ∧ l.length ≤ 9223372036854775807 ∧ ∀ (i : Nat) (x : It), l[i]? = some x → (∃ ad, p = some ad ∧ ad.block < w.heap.size ∧ w.cell? (ad.add (i * 2)) = some (.int .u8 x.1) ∧ w.cell? ⟨(ad.add (i * 2)).block, (ad.add (i * 2)).off + 1, none⟩ = some (.string x.2)) ∧ (0 ≤ x.1 ∧ x.1 ≤ 255) ∧ x.2.size ≤ 9223372036854775807
theorem DRow.below {w w' : World} {v : Value} {l : List It} (h : DRow w v l) (b : Below w.heap.size w w') : DRow w' v l := by
  obtain ⟨p, cap, hv, hl, hc⟩ := h
  refine ⟨p, cap, hv, hl, fun i x hx => ?_⟩
  obtain ⟨⟨ad, hp, hg, h0, h1⟩, h2, h3⟩ := hc i x hx
  exact ⟨⟨ad, hp, Nat.lt_of_lt_of_le hg b.size, (World.cell?_of_block (b.block _ (by rw [add_block]; exact hg))).trans h0, (World.cell?_of_block (w := w) (w' := w') (a := ⟨(ad.add (i * 2)).block, (ad.add (i * 2)).off + 1, none⟩) (b.block _ (by show (ad.add (i * 2)).block < _; rw [add_block]; exact hg))).trans h1⟩, h2, h3⟩
theorem open_drafts {H : Type} {enc : TypeId × Value → H} {w : World} {base : Nat} {spare : Nat → Bool} {held : Bool} {r : Reach} {b0 : Nat} {v : Value} {d : DataW H} {p : List MemPlace}
    (hv : Value.okWide Try.prog w r b0 39 v) (h : DataW.Trod enc Try.prog w base spare held 39 v d p) : ∃ l : List It, DRow w v l := by
  obtain ⟨A, len, cap, rfl, hl, hc, hi⟩ := open_rows Try.underlying39 Try.underlying56 (by kernel_rfl) (by kernel_rfl) hv h
  obtain ⟨l, hll, hP⟩ := list_of (α := It) (P := fun i x => (∃ ad, A = some ad ∧ ad.block < w.heap.size ∧ w.cell? (ad.add (i * 2)) = some (.int .u8 x.1) ∧ w.cell? ⟨(ad.add (i * 2)).block, (ad.add (i * 2)).off + 1, none⟩ = some (.string x.2)) ∧ (0 ≤ x.1 ∧ x.1 ≤ 255) ∧ x.2.size ≤ 9223372036854775807) len fun i hlt => by
    obtain ⟨ad, rfl, hf⟩ := hi i hlt
    obtain ⟨u0, m0, y0, c0, t0⟩ := hf 0 _ rfl
    obtain ⟨u1, m1, y1, c1, t1⟩ := hf 1 _ rfl
    obtain ⟨a, e0, _, wa⟩ := DataW.trod_int Try.underlying5 t0
    obtain ⟨t, e1, _, wt⟩ := DataW.trod_string Try.underlying9 t1
    injection e0 with e0
    injection e1 with e1
    subst e0 e1
    have hb := World.block_lt_of_cell? w _ c0
    have hb' : ad.block < w.heap.size := by
      have e : ((ad.add (i * 2)).add 0).block = ad.block := by rw [add_block, add_block]
      rw [← e]; exact hb
    exact ⟨(a, t), ⟨ad, rfl, hb', c0, c1⟩, bounds_u8 wa, by unfold maxLen at wt; simpa using wt⟩
  subst hll
  exact ⟨l, A, cap, rfl, by omega, hP⟩
end Go.Proofs.Ytlmbccgldigihaa
