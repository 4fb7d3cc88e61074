/-
  Bytes in memory (a slice of bytes that begins its block), as they are made of a text, set, and made a text again. No statement of the document is here.
-/
import Derived.Test.YthdcjcdgddejbaaDoorHeadPlain
import Derived.Laws.IdiomStrings
namespace Go.Proofs.YthdcjcdgddejbaaDoor
open Go.ChangeShapes Go.WideShapes Go.ChangeAt Go.RowKit
set_option linter.unusedVariables false

theorem Row.built (w : World) (ss : List ByteArray) {n cap : Nat} {cs : Array Value} {t : TypeId} (hc : cs = (ss.map Value.string).toArray) (hn : n = ss.length := by rfl) : Row (w.alloc (.cells cs t)) (.slice (some ⟨w.heap.size, 0, none⟩) n cap) ss :=
  Row.of_blk n hn (by rw [← hc]; exact Blk.new w t cs) cap
theorem below_then {a b c : World} (h : Below a.heap.size a b) (k : Below b.heap.size b c) : Below a.heap.size a c := h.trans (k.mono h.size)

/-- Block g begins with the bytes l, which may be written. -/
def Bts (W : World) (g : Nat) (l : List UInt8) : Prop := g < W.heap.size ∧ ∀ (j : Nat) (h : j < l.length), W.cell? ⟨g, j, none⟩ = some (.int .u8 (l[j].toNat : Int)) ∧ W.frozen? ⟨g, j, none⟩ = false
namespace Bts
variable {W W' : World} {g : Nat} {l : List UInt8}
theorem same (h : Bts W g l) (e : W'.heap[g]? = W.heap[g]?) (hs : W.heap.size ≤ W'.heap.size) : Bts W' g l :=
  ⟨Nat.lt_of_lt_of_le h.1 hs, fun j hj => ⟨(World.cell?_of_block (a := ⟨g, j, none⟩) e).trans (h.2 j hj).1, (World.frozen?_of_block (a := ⟨g, j, none⟩) e).trans (h.2 j hj).2⟩⟩
theorem below {B : Nat} (h : Bts W g l) (b : Below B W W') (hg : g < B) : Bts W' g l := h.same (b.block g hg) b.size
theorem alloc (h : Bts W g l) (o : Obj) : Bts (W.alloc o) g l := h.same (Below.heap_alloc W o g h.1) (by simp)
theorem drew (h : Bts W g l) : Bts W.drew g l := h
theorem drewN (h : Bts W g l) (n : Nat) : Bts (W.drewN n) g l := h
theorem cell (h : Bts W g l) (j : Nat) (hj : j < l.length) : W.cell? ⟨g, j, none⟩ = some (.int .u8 (l[j].toNat : Int)) := (h.2 j hj).1
theorem frozen (h : Bts W g l) (j : Nat) (hj : j < l.length) : W.frozen? ⟨g, j, none⟩ = false := (h.2 j hj).2
/-- One byte set anew. -/
theorem set_ (h : Bts W g l) (p : Nat) (v : UInt8) (hp : p < l.length) : Bts (W.setCell ⟨g, p, none⟩ (.int .u8 (v.toNat : Int))) g (l.set p v) := by
  refine ⟨by simpa [World.setCell] using h.1, fun j hj => ?_⟩
  have hj' : j < l.length := by simpa using hj
  refine ⟨?_, by rw [World.frozen?_setCell]; exact (h.2 j hj').2⟩
  by_cases e : p = j
  · subst e
    rw [World.cell?_setCell_same W _ _ (h.2 p hj').1]; simp
  · rw [World.cell?_setCell_other W _ _ _ (fun q => e (by injection q))]
    rw [(h.2 j hj').1]; simp [e]
end Bts

theorem Row.drew {w : World} {v : Value} {ss : List ByteArray} (h : Row w v ss) : Row w.drew v ss := h
theorem Row.drewN {w : World} {v : Value} {ss : List ByteArray} (h : Row w v ss) (n : Nat) : Row (w.drewN n) v ss := h
theorem Row.more {w : World} {v : Value} {ss : List ByteArray} (h : Row w v ss) (o : Obj) : Row (w.alloc o) v ss := Row.below h ((Below.refl _ w).alloc (Nat.le_refl _) o)
theorem Row.built2 (w : World) (o : Obj) (ss : List ByteArray) {n cap : Nat} {cs : Array Value} {t : TypeId} (hc : cs = (ss.map Value.string).toArray) (hn : n = ss.length := by rfl) : Row ((w.alloc o).alloc (.cells cs t)) (.slice (some ⟨w.heap.size + 1, 0, none⟩) n cap) ss := by
  have h := Row.built (w.alloc o) ss (n := n) (cap := cap) (t := t) hc hn
  rwa [World.size_alloc] at h
theorem Row.builtAt (w : World) (b : Nat) (hb : w.heap.size = b) (ss : List ByteArray) {n cap : Nat} {cs : Array Value} {t : TypeId} (hc : cs = (ss.map Value.string).toArray) (hn : n = ss.length := by rfl) : Row (w.alloc (.cells cs t)) (.slice (some ⟨b, 0, none⟩) n cap) ss := by
  subst hb; exact Row.built w ss hc hn
theorem flat_one (x : ByteArray) : flat [x] = x.data.toList := by simp [flat]
theorem flat_txt (l : List UInt8) : flat [txt l] = l := by simp [flat]
/-- Made a text. -/
theorem bytes_text (W : World) (g cap n : Nat) (l : List UInt8) (h : Bts W g l) (hn : n = l.length) :
    (convert 45 9 (.slice (some ⟨g, 0, none⟩) n cap)).run Tryd.prog W = .ok (.string (txt l)) W := by
  subst hn
  exact run_convert_bytes_back W 45 9 5 ⟨g, 0, none⟩ cap l Tryd.underlying45 Tryd.underlying5 Tryd.underlying9 fun j hj => by
    have e : (⟨g, 0, none⟩ : Addr).add j = ⟨g, j, none⟩ := by unfold Addr.add; split <;> simp_all
    rw [e]; exact h.cell j hj

/-- Made of a text. -/
theorem text_bytes (w : World) (s : ByteArray) :
    ∃ cap w', (convert 9 45 (.string s)).run Tryd.prog w = .ok (.slice (some ⟨w.heap.size, 0, none⟩) s.size cap) w' ∧ Bts w' w.heap.size s.data.toList ∧ Below w.heap.size w w' ∧ w'.heap.size = w.heap.size + 1 := by
  refine ⟨_, _, run_bytes_of_string w 9 45 5 s Tryd.underlying9 Tryd.underlying45 Tryd.underlying5, ?_, ?_, ?_⟩
  · obtain ⟨R, hR⟩ : ∃ R, R = bytesRow s (grownCap w s.size 0 5) := ⟨_, rfl⟩
    rw [← hR]
    have hh : (w.drew.alloc (.cells R 5 (R.size, R.size + 1))).heap[w.heap.size]? = some (.cells R 5 (R.size, R.size + 1)) := heap_alloc_new w.drew _
    have hz : s.size ≤ R.size := by rw [hR, bytesRow, Array.size_append, Array.size_map]; exact Nat.le_add_right _ _
    refine ⟨(Array.getElem?_eq_some_iff.1 hh).1, fun j hj => ?_⟩
    have hj' : j < s.data.size := by simpa using hj
    constructor
    · rw [cell_of_row _ _ j R _ _ hh, hR, bytesRow, Array.getElem?_append_left (by simpa using hj')]
      simp [Array.getElem?_eq_getElem hj']
    · have : j < s.size := hj'
      unfold World.frozen?
      rw [show (w.drew.alloc (.cells R 5 (R.size, R.size + 1))).heap[(⟨w.heap.size, j, none⟩ : Addr).block]? = _ from hh]
      simp
      omega
  · exact (Below.refl _ w).drew.alloc (Nat.le_refl _) _
  · simp
end Go.Proofs.YthdcjcdgddejbaaDoor
