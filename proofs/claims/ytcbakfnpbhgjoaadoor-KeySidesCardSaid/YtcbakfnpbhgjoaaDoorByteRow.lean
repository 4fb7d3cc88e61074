/-
  A slice of bytes that is the walk's own, and grows: what is appended is a few bytes in a block just made; made a text in the end. No statement of the document is here.
-/
import Derived.Test.YtcbakfnpbhgjoaaDoorShaSmall
import Derived.Test.YtcbakfnpbhgjoaaDoorShaPad
import Derived.OrdersHeld
import Derived.Deep.RegionHeld3
import Derived.KernelRfl
import Derived.Laws.Entries
namespace Go.Proofs.YtcbakfnpbhgjoaaDoor
open Go.RowKit
set_option linter.unusedVariables false

theorem info_u8 : (Tryd.prog.info? 5).map (fun i => (i.zero, i.size, i.bytes)) = some (some (.int .u8 0), 1, 1) := by kernel_rfl
/-- The walk's own bytes: in no block that is below B. -/
abbrev OwnB (B : Nat) (w : World) (v : Value) (l : List UInt8) : Prop := w.ownsRow B 5 1 v l.length (byv l).toList
theorem OwnB.nil (B : Nat) (w : World) : OwnB B w (.slice none 0 0) [] := World.ownsRow_nil _ _ _ _
theorem OwnB.below {B C : Nat} {w w' : World} {v : Value} {l : List UInt8} (h : OwnB B w v l) (b : Below C w w') (hC : w.heap.size ≤ C) : OwnB B w' v l := by
  obtain ⟨h0, ⟨rfl, h1⟩ | ⟨g, cap, cur, rfl, hb, hg, h1, h2, h3, h4⟩⟩ := h
  · exact ⟨h0, .inl ⟨rfl, h1⟩⟩
  · exact ⟨h0, .inr ⟨g, cap, cur, rfl, hb, (b.block g (Nat.lt_of_lt_of_le (Array.getElem?_eq_some_iff.1 hg).1 hC)).trans hg, h1, h2, h3, h4⟩⟩
theorem app_bytes {ops : Array Oper} {rest : List Oper} {o : Oper} {a : Act} {w : World} {Q : Exit → Act → World → Prop} (hgd : o.guard = none) (s x : Operand) (ho : o.op = .call { callee := .builtin .append, args := #[s, x], argTypes := #[35, 35] })
    (B : Nat) (v : Value) (l new : List UInt8) (C : Array Value) (hC : C = byv new) (hs : a.eval s = v) (h : OwnB B w v l) (hB : B ≤ w.heap.size) (hn : l.length + new.length ≤ 1000000) (k : Nat) (hk : k = new.length) (hx : a.eval x = .slice (some ⟨w.heap.size, 0, none⟩) k k)
    (hd : ∀ v' w', OwnB B w' v' (l ++ new) → Below B w w' → wpList Tryd.prog ops Q rest (a.put o.dst v') w') : wpList Tryd.prog ops Q (o :: rest) a (w.alloc (.cells C 5)) := by
  subst hC hk
  obtain ⟨i0, hi, hz0, hz1, hz2⟩ := info_parts info_u8
  refine wpList_append_own _ hgd s x 35 ho B 5 i0 (.int .u8 0) 1 1 Tryd.underlying35 hi hz0 hz1 hz2 rfl (by decide) v _ _ hs (World.ownsRow.alloc h _) ⟨w.heap.size, 0, none⟩ new.length new.length (byv new).toList hx (by simp [byv]) ?_ ?_ ?_ ?_ ?_ ?_
  · intro i u hu
    have e : (⟨w.heap.size, 0, none⟩ : Addr).add i = ⟨w.heap.size, i, none⟩ := by unfold Addr.add; split <;> simp_all
    rw [e, (Blk.new w 5 (byv new)).cell i]
    simpa using hu
  · intro u hu; exact (Array.all_eq_true_iff_forall_mem.1 (byv_one new)) u (by simpa using hu)
  · unfold maxLen; omega
  · omega
  · rw [World.size_alloc]; omega
  · intro v' w2 own2 grow2 _
    refine hd v' w2 ?_ (((Below.refl B w).alloc hB _).grown grow2 (by rw [World.size_alloc]; omega) (fun i hi => (World.ownsRow.lt h i hi).1))
    have e : (byv (l ++ new)).toList = (byv l).toList ++ (byv new).toList := by simp [byv]
    show w2.ownsRow B _ 1 v' (l ++ new).length _
    rw [List.length_append, e]; exact own2
theorem own_text (w : World) (B : Nat) (v : Value) (l : List UInt8) (h : OwnB B w v l) (W : World) (hW : W.heap = w.heap) :
    (convert 35 9 v).run Tryd.prog W = .ok (.string (txt l)) W := by
  obtain ⟨h0, h⟩ := h
  rcases h with ⟨rfl, h1⟩ | ⟨g, cap, cur, rfl, hb, hg, h1, h2, h3, h4⟩
  · obtain rfl := List.length_eq_zero_iff.1 h1
    kernel_rfl
  · refine run_convert_bytes_back W 35 9 5 ⟨g, 0, none⟩ cap l Tryd.underlying35 Tryd.underlying5 Tryd.underlying9 fun j hj => ?_
    have e : (⟨g, 0, none⟩ : Addr).add j = ⟨g, j, none⟩ := by unfold Addr.add; split <;> simp_all
    have e1 : (cur.toList.take (l.length * 1))[j]? = (byv l).toList[j]? := by rw [h4]
    rw [List.getElem?_take_of_lt (by omega)] at e1
    rw [e, World.cell?_of_block (a := ⟨g, j, none⟩) (show W.heap[g]? = w.heap[g]? by rw [hW]), cell_of_row w g j cur _ (0, 0) hg, ← Array.getElem?_toList, e1]
    simp [byv, hj]
end Go.Proofs.YtcbakfnpbhgjoaaDoor
