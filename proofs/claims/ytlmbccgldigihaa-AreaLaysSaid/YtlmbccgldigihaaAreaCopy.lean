/-
  Rows of items that are copied: the source's cells; a copy's bodies, cut. No statement of the document is here.
-/
import Derived.Test.YtlmbccgldigihaaAreaOpen
import Derived.Laws.AppendOwnNone
namespace Go.Proofs.Ytlmbccgldigihaa
open Go.ChangeShapes Go.WideShapes Go.Deep Go.RowKit Go.ChangeAt
set_option linter.unusedVariables false

/-- The cells of a row, as a source of an append. -/
theorem Row.news {w : World} {ad : Addr} {m cap : Nat} {l : List It} (h : Row w (.slice (some ad) m cap) l) : ∀ (j : Nat) (u : Value), (cellsOf l)[j]? = some u → w.cell? (ad.add j) = some u := fun j u hu => by
  obtain ⟨p, cap', hv, _, _, hc⟩ := h
  injection hv with e1 e2 e3
  subst e1
  have hj : j < (cellsOf l).length := (List.getElem?_eq_some_iff.1 hu).1
  rw [cellsOf_length] at hj
  obtain ⟨x, hx⟩ : ∃ x, l[j / 2]? = some x := ⟨_, List.getElem?_eq_getElem (by omega)⟩
  obtain ⟨ad', hp, _, h0, h1⟩ := hc (j / 2) x hx
  injection hp with hp
  subst hp
  obtain ⟨g0, g1⟩ := cellsOf_get l (j / 2) x hx
  rcases Nat.mod_two_eq_zero_or_one j with hm | hm
  · have ej : j / 2 * 2 = j := by omega
    rw [ej] at g0 h0
    rw [g0] at hu
    rw [h0]; exact hu
  · have ej : j / 2 * 2 + 1 = j := by omega
    have ea : ad.add j = ⟨(ad.add (j / 2 * 2)).block, (ad.add (j / 2 * 2)).off + 1, none⟩ := by
      rw [show ad.add j = (ad.add (j / 2 * 2)).add 1 by rw [Go.Deep.add_add, ej]]; rfl
    rw [ej] at g1
    rw [g1] at hu
    rw [ea, h1]; exact hu

/-- What came in is nil, or it begins somewhere. -/
theorem open_items2 {H : Type} {enc : TypeId × Value → H} {w : World} {base : Nat} {spare : Nat → Bool} {held : Bool} {r : Reach} {b0 : Nat} {v : Value} {d : DataW H} {p : List MemPlace}
    (hv : Value.okWide Try.prog w r b0 22 v) (h : DataW.Trod enc Try.prog w base spare held 22 v d p) :
    ∃ l : List It, Row w v l ∧ (∀ y ∈ l, y.2.size ≤ 9223372036854775807) ∧ (v = .slice none 0 0 ∨ ∃ ad n c, v = .slice (some ad) n c) := by
  obtain ⟨l, hr, hs⟩ := open_items hv h
  refine ⟨l, hr, hs, ?_⟩
  obtain ⟨A, len, cap, rfl⟩ := okWide_slice Try.underlying22 hv
  obtain ⟨fuel, hf⟩ := h
  rcases open_slice Try.underlying22 hf with ⟨h0, _⟩ | ⟨ad, len', cap', m, n, D, Pl, hcs, _⟩
  · simp [Value.cells] at h0
    obtain ⟨rfl, rfl, rfl⟩ := h0
    exact .inl rfl
  · simp [Value.cells] at hcs
    obtain ⟨rfl, rfl, rfl⟩ := hcs
    exact .inr ⟨_, _, _, rfl⟩
/-- An empty slice that was just made is the call's own. -/
theorem own_empty (w : World) (base : Nat) (hb : base ≤ w.heap.size) : (w.alloc (.cells #[] 24)).ownsRow base 24 2 (.slice (some ⟨w.heap.size, 0, none⟩) 0 0) 0 (cellsOf []) :=
  World.ownsRow_made w #[] 0 hb (by unfold maxLen; omega) rfl
/-- Bodies, cut, of the first j items. -/
def cut (x : It) : It := (x.1, x.2.extract 0 (min x.2.size 300))
theorem cut_size (x : It) : (cut x).2.size ≤ 300 := by simp [cut, ByteArray.size_extract]; omega
theorem cells_set : ∀ (l : List It) (j : Nat) (x : It) (b : ByteArray), l[j]? = some x → (cellsOf l).set (j * 2 + 1) (.string b) = cellsOf (l.set j (x.1, b))
  | [], j, x, b, h => by simp at h
  | y :: r, 0, x, b, h => by simp at h; subst h; rfl
  | y :: r, j + 1, x, b, h => by
    rw [show (j + 1) * 2 + 1 = (j * 2 + 1) + 1 + 1 by omega]
    simp only [cellsOf, List.set_cons_succ, cells_set r j x b (by simpa using h)]
end Go.Proofs.Ytlmbccgldigihaa
