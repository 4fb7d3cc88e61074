/-
  Bytes in memory (a slice of bytes that begins its block), as they are made, made of a text, set, and made a text again. No statement of the document is here.
-/
import Derived.Test.YtbimdlcgjpeheaaNumRefs
import Derived.Laws.IdiomStrings
namespace Go.Proofs.Ytbimdlcgjpeheaa
open Go.ChangeShapes Go.WideShapes Go.ChangeAt Go.RowKit
set_option linter.unusedVariables false

/-- Block g begins with the bytes l, which may be written. -/
def Bts (W : World) (g : Nat) (l : List UInt8) : Prop := g < W.heap.size ∧ ∀ (j : Nat) (h : j < l.length), W.cell? ⟨g, j, none⟩ = some (.int .u8 (l[j].toNat : Int)) ∧ W.frozen? ⟨g, j, none⟩ = false
namespace Bts
variable {W W' : World} {g : Nat} {l : List UInt8}
theorem same (h : Bts W g l) (e : W'.heap[g]? = W.heap[g]?) (hs : W.heap.size ≤ W'.heap.size) : Bts W' g l :=
  ⟨Nat.lt_of_lt_of_le h.1 hs, fun j hj => ⟨(World.cell?_of_block (a := ⟨g, j, none⟩) e).trans (h.2 j hj).1, (World.frozen?_of_block (a := ⟨g, j, none⟩) e).trans (h.2 j hj).2⟩⟩
theorem below {B : Nat} (h : Bts W g l) (b : Below B W W') (hg : g < B) : Bts W' g l := h.same (b.block g hg) b.size
theorem alloc (h : Bts W g l) (o : Obj) : Bts (W.alloc o) g l := h.same (Below.heap_alloc W o g h.1) (by simp)
theorem drew (h : Bts W g l) : Bts W.drew g l := h
theorem drewN (h : Bts W g l) (n : Nat) : Bts (W.drewN n) g l := h
theorem cell (h : Bts W g l) (j : Nat) (hj : j < l.length) : W.cell? ⟨g, j, none⟩ = some (.int .u8 (l[j].toNat : Int)) := (h.2 j hj).1
theorem frozen (h : Bts W g l) (j : Nat) (hj : j < l.length) : W.frozen? ⟨g, j, none⟩ = false := (h.2 j hj).2
/-- One byte set anew. -/
theorem set_ (h : Bts W g l) (p : Nat) (v : UInt8) (hp : p < l.length) : Bts (W.setCell ⟨g, p, none⟩ (.int .u8 (v.toNat : Int))) g (l.set p v) := by
  refine ⟨by simpa [World.setCell] using h.1, fun j hj => ?_⟩
  have hj' : j < l.length := by simpa using hj
  refine ⟨?_, by rw [World.frozen?_setCell]; exact (h.2 j hj').2⟩
  by_cases e : p = j
  · subst e
    rw [World.cell?_setCell_same W _ _ (h.2 p hj').1]; simp
  · rw [World.cell?_setCell_other W _ _ _ (fun q => e (by injection q))]
    rw [(h.2 j hj').1]; simp [e]
end Bts

/-- Made a text. -/
theorem bytes_text (W : World) (g cap n : Nat) (l : List UInt8) (h : Bts W g l) (hn : n = l.length) :
    (convert 45 9 (.slice (some ⟨g, 0, none⟩) n cap)).run Try.prog W = .ok (.string (txt l)) W := by
  subst hn
  exact run_convert_bytes_back W 45 9 5 ⟨g, 0, none⟩ cap l Try.underlying45 Try.underlying5 Try.underlying9 fun j hj => by
    have e : (⟨g, 0, none⟩ : Addr).add j = ⟨g, j, none⟩ := by unfold Addr.add; split <;> simp_all
    rw [e]; exact h.cell j hj

/-- Made of a text. -/
theorem text_bytes (w : World) (s : ByteArray) :
    ∃ cap w', (convert 9 45 (.string s)).run Try.prog w = .ok (.slice (some ⟨w.heap.size, 0, none⟩) s.size cap) w' ∧ Bts w' w.heap.size s.data.toList ∧ Below w.heap.size w w' ∧ w'.heap.size = w.heap.size + 1 := by
  refine ⟨_, _, run_bytes_of_string w 9 45 5 s Try.underlying9 Try.underlying45 Try.underlying5, ?_, ?_, ?_⟩
  · obtain ⟨R, hR⟩ : ∃ R, R = bytesRow s (grownCap w s.size 0 5) := ⟨_, rfl⟩
    rw [← hR]
    have hh : (w.drew.alloc (.cells R 5 (R.size, R.size + 1))).heap[w.heap.size]? = some (.cells R 5 (R.size, R.size + 1)) := heap_alloc_new w.drew _
    have hz : s.size ≤ R.size := by rw [hR, bytesRow, Array.size_append, Array.size_map]; exact Nat.le_add_right _ _
    refine ⟨(Array.getElem?_eq_some_iff.1 hh).1, fun j hj => ?_⟩
    have hj' : j < s.data.size := by simpa using hj
    constructor
    · rw [cell_of_row _ _ j R _ _ hh, hR, bytesRow, Array.getElem?_append_left (by simpa using hj')]
      simp [Array.getElem?_eq_getElem hj']
    · have : j < s.size := hj'
      unfold World.frozen?
      rw [show (w.drew.alloc (.cells R 5 (R.size, R.size + 1))).heap[(⟨w.heap.size, j, none⟩ : Addr).block]? = _ from hh]
      simp
      omega
  · exact (Below.refl _ w).drew.alloc (Nat.le_refl _) _
  · simp
theorem info8 : (Try.prog.info? 5).map (fun i => (i.zero, i.size, i.bytes)) = some (some (.int .u8 0), 1, 1) := by kernel_rfl
/-- A new slice of bytes. -/
theorem make_any (W : World) (n : Nat) (N : Int) (hN : (n : Int) = N) (hn : n ≤ 1200) : (Instr.makeSlice 45 (.int .i64 N) (.int .i64 N)).run Try.prog W = .ok (.slice (some ⟨W.heap.size, 0, none⟩) n n) (W.alloc (.cells (byv (List.replicate n 0)) 5)) := by
  subst hN
  have hi := info8
  cases hq : Try.prog.info? 5 with
  | none => simp [hq] at hi
  | some i =>
    simp [hq] at hi
    obtain ⟨hz, h1, h2⟩ := hi
    have hr := run_make (P := Try.prog) W 45 5 i _ Try.underlying45 hq hz .i64 .i64 n n (by omega) (Int.le_refl _) (by rw [h2]; omega) (by omega)
    rw [hr, h1, Int.toNat_natCast, Nat.mul_one]
    have e : madeCells (Value.cells (.int .u8 0)) n = byv (List.replicate n 0) := by
      apply Array.toList_inj.1
      show (madeCells #[.int .u8 0] n).toList = _
      rw [toList_madeCells_one, byv, List.map_replicate]; rfl
    rw [e]

/-- Zeros, made a text. -/
theorem zeros_text (W : World) (n : Nat) (cap : Nat) : (convert 45 9 (.slice (some ⟨W.heap.size, 0, none⟩) n cap)).run Try.prog (W.alloc (.cells (byv (List.replicate n 0)) 5)) = .ok (.string (txt (List.replicate n 0))) (W.alloc (.cells (byv (List.replicate n 0)) 5)) := by
  refine bytes_text _ _ cap n _ ⟨(Blk.new W 5 (byv (List.replicate n 0))).lt, fun j hj => ⟨?_, (Blk.new W 5 (byv (List.replicate n 0))).frozen j⟩⟩ (by simp)
  rw [(Blk.new W 5 (byv (List.replicate n 0))).cell j, byv_get _ j hj]
end Go.Proofs.Ytbimdlcgjpeheaa
