/-
  Words for layer 4: a block that is known whole (Blk), a row of items in memory (Row), and what keeps them. No statement of the document is here.
-/
import Derived.Test.YtlmbccgldigihaaAreaPlain
import Derived.WalkKit
import Derived.ProofKit
import Derived.OpenShut
import Derived.Lib.Hide
import Derived.Below
import Derived.Laws.OwnMore
import Derived.Deep.Draws
import Derived.Laws.Rows
import Derived.OwnWalk
import Derived.Laws.AppendOwn
import Derived.Maps.AppendAt
namespace Go.Proofs.Ytlmbccgldigihaa
open Go.RowKit
set_option linter.unusedVariables false

theorem ret_bool {a b : Bool} (h : a = b) : Ending.returned (.bool a) = .returned (.bool b) := by rw [h]
theorem ret_int {k : IntKind} {a b : Int} (h : a = b) : Ending.returned (.int k a) = .returned (.int k b) := by rw [h]
theorem ret_str {a b : ByteArray} (h : a = b) : Ending.returned (.string a) = .returned (.string b) := by rw [h]

/-- All that block g holds: the cells cs, whose elements are of type t; every one may be written. -/
def Blk (w : World) (g : Nat) (t : TypeId) (cs : Array Value) : Prop := w.heap[g]? = some (.cells cs t (0, 0))

namespace Blk
variable {w w' : World} {g : Nat} {t : TypeId} {cs : Array Value}
/-- It holds in every world that has the same block there: what follows on worlds goes by this. -/
theorem same (h : Blk w g t cs) (e : w'.heap[g]? = w.heap[g]?) : Blk w' g t cs := e.trans h
theorem lt (h : Blk w g t cs) : g < w.heap.size := (Array.getElem?_eq_some_iff.1 h).1
theorem cell (h : Blk w g t cs) (i : Nat) : w.cell? ⟨g, i, none⟩ = cs[i]? := cell_of_row w g i cs t (0, 0) h
theorem frozen (h : Blk w g t cs) (i : Nat) : w.frozen? ⟨g, i, none⟩ = false := by simp [World.frozen?, show w.heap[g]? = some (.cells cs t (0, 0)) from h]
theorem new (w : World) (t : TypeId) (cs : Array Value) : Blk (w.alloc (.cells cs t)) w.heap.size t cs := heap_alloc_new w (.cells cs t)
theorem drew (h : Blk w g t cs) : Blk w.drew g t cs := h.same rfl
theorem drewN (h : Blk w g t cs) (n : Nat) : Blk (w.drewN n) g t cs := h.same rfl
theorem alloc (h : Blk w g t cs) (o : Obj) : Blk (w.alloc o) g t cs := h.same (Below.heap_alloc w o g h.lt)
theorem below {B : Nat} (h : Blk w g t cs) (hb : Below B w w') (hg : g < B) : Blk w' g t cs := h.same (hb.block g hg)
theorem grown {row : Option Nat} (h : Blk w g t cs) (hb : w.grownBy w' row) (hg : some g ≠ row) : Blk w' g t cs := h.same (hb.block g h.lt hg)
/-- One cell stored anew. -/
theorem set_ (h : Blk w g t cs) (i : Nat) (u : Value) : Blk (w.setCell ⟨g, i, none⟩ u) g t (cs.setIfInBounds i u) := by
  have e : w.heap[g]? = some (.cells cs t (0, 0)) := h
  show (w.setCell ⟨g, i, none⟩ u).heap[g]? = _
  rw [World.setCell, Array.getElem?_modify, e]
  simp
/-- Blocks whose elements are of two types are two blocks. -/
theorem ne_ {g' : Nat} {t' : TypeId} {cs' : Array Value} (h : Blk w g t cs) (h' : Blk w g' t' cs') (hne : t ≠ t') : g ≠ g' := fun e => by
  have hh : some (Obj.cells cs t (0, 0)) = some (Obj.cells cs' t' (0, 0)) := by rw [← show w.heap[g]? = _ from h, e]; exact h'
  simp only [Option.some.injEq, Obj.cells.injEq] at hh
  exact hne hh.2.1
end Blk

/-- A draw has turned nothing. -/
theorem drawn_only (w : World) (n : Nat) (row : Option Nat) : w.grownBy (w.drewN n) row := ⟨rfl, rfl, rfl, Nat.le_refl _, fun _ _ _ => rfl⟩
theorem only_drewN {a w : World} {row : Option Nat} (h : a.grownBy w row) (n : Nat) : a.grownBy (w.drewN n) row := h.trans (drawn_only w n row)
theorem only_drew {a w : World} {row : Option Nat} (h : a.grownBy w row) : a.grownBy w.drew row := h.trans ⟨rfl, rfl, rfl, Nat.le_refl _, fun _ _ _ => rfl⟩
theorem only_alloc {a w : World} {row : Option Nat} (h : a.grownBy w row) (o : Obj) : a.grownBy (w.alloc o) row := h.trans (World.grownBy_alloc w o row)
/-- A store into the one block that may turn. -/
theorem only_setCell {a w : World} {g : Nat} (h : a.grownBy w (some g)) {p : Addr} (hp : p.block = g) (u : Value) : a.grownBy (w.setCell p u) (some g) :=
  h.trans ⟨rfl, rfl, rfl, by simp [World.setCell], fun k _ hk => Below.heap_setCell w p u k fun e => hk (by rw [e, hp])⟩
theorem only_of_below {a w : World} (h : Below a.heap.size a w) (row : Option Nat) : a.grownBy w row := { os := h.os, tape := h.tape, output := h.output, size := h.size, block := fun k hk _ => h.block k hk }
theorem below_drewN {B : Nat} {a w : World} (h : Below B a w) (n : Nat) : Below B a (w.drewN n) := h.trans ⟨rfl, rfl, rfl, Nat.le_refl _, fun _ _ => rfl⟩
/-- What has turned at most block b, and new blocks: below a number that b is not below, nothing has. -/
theorem below_of_only {B : Nat} {a w : World} {b : Nat} (h : a.grownBy w (some b)) (hb : B ≤ b) (hs : B ≤ a.heap.size) : Below B a w :=
  ⟨h.os, h.tape, h.output, h.size, fun i hi => h.block i (by omega) (fun e => by injection e with e; omega)⟩

theorem bcell {W w1 : World} (hb : Below W.heap.size W w1) (b o : Nat) (h : b < W.heap.size) : w1.cell? ⟨b, o, none⟩ = W.cell? ⟨b, o, none⟩ := hb.cell (p := ⟨b, o, none⟩) h
theorem below_then {a b c : World} (h : Below a.heap.size a b) (k : Below b.heap.size b c) : Below a.heap.size a c := h.trans (k.mono h.size)
theorem below_more {a b : World} (h : Below a.heap.size a b) (o : Obj) : Below a.heap.size a (b.alloc o) := h.alloc h.size o
theorem ret_two {a b : Value} {c d : Value} (h : a = b) (k : c = d) : Ending.returned (.tuple #[a, c]) = .returned (.tuple #[b, d]) := by rw [h, k]

/-- The cells of a row of items. -/
def cellsOf : List It → List Value
  | [] => []
  | x :: r => .int .i64 x.1 :: .string x.2 :: cellsOf r
theorem cellsOf_length : ∀ l, (cellsOf l).length = l.length * 2
  | [] => rfl
  | x :: r => by simp [cellsOf, cellsOf_length r]; omega
theorem cellsOf_append : ∀ l m, cellsOf (l ++ m) = cellsOf l ++ cellsOf m
  | [], m => rfl
  | x :: r, m => by simp [cellsOf, cellsOf_append r m]
theorem cellsOf_get : ∀ (l : List It) (i : Nat) (x : It), l[i]? = some x → (cellsOf l)[i * 2]? = some (.int .i64 x.1) ∧ (cellsOf l)[i * 2 + 1]? = some (.string x.2)
  | [], i, x, h => by simp at h
  | y :: r, 0, x, h => by simp at h; subst h; exact ⟨rfl, rfl⟩
  | y :: r, i + 1, x, h => by
    have := cellsOf_get r i x (by simpa using h)
    rw [show (i + 1) * 2 = i * 2 + 1 + 1 by omega]
    exact ⟨by simpa [cellsOf] using this.1, by simpa [cellsOf] using this.2⟩
theorem cellsOf_one (u : Value) : ∀ (l : List It), u ∈ cellsOf l → u.oneCell' = true
  | [], h => by simp [cellsOf] at h
  | x :: r, h => by
    simp [cellsOf] at h
    rcases h with rfl | rfl | h
    · rfl
    · rfl
    · exact cellsOf_one u r h

/-- A slice of items in memory, below block n. -/
def RowB (n : Nat) (w : World) (v : Value) (l : List It) : Prop :=
  ∃ (p : Option Addr) (cap : Nat), v = .slice p l.length cap ∧ l.length ≤ cap ∧ cap ≤ 9223372036854775807 ∧ ∀ (i : Nat) (x : It), l[i]? = some x → ∃ ad, p = some ad ∧ ad.block < n ∧ w.cell? (ad.add (i * 2)) = some (.int .i64 x.1) ∧ w.cell? ⟨(ad.add (i * 2)).block, (ad.add (i * 2)).off + 1, none⟩ = some (.string x.2)
abbrev Row (w : World) (v : Value) (l : List It) : Prop := RowB w.heap.size w v l
theorem add_block (ad : Addr) (i : Nat) : (ad.add i).block = ad.block := by unfold Addr.add; split <;> rfl
theorem Row.nil (w : World) (n : Nat) : RowB n w (.slice none 0 0) [] := ⟨none, 0, rfl, by simp, by omega, fun i s h => by simp at h⟩
theorem RowB.kept {n : Nat} {w w' : World} {v : Value} {l : List It} (h : RowB n w v l) (b : ∀ k, k < n → w'.heap[k]? = w.heap[k]?) : RowB n w' v l := by
  obtain ⟨p, cap, hv, hl, hcap, hc⟩ := h
  refine ⟨p, cap, hv, hl, hcap, fun i s hs => ?_⟩
  obtain ⟨ad, hp, hg, h0, h1⟩ := hc i s hs
  exact ⟨ad, hp, hg, (World.cell?_of_block (b _ (by rw [add_block]; exact hg))).trans h0, (World.cell?_of_block (a := ⟨(ad.add (i * 2)).block, (ad.add (i * 2)).off + 1, none⟩) (b _ (by show (ad.add (i * 2)).block < n; rw [add_block]; exact hg))).trans h1⟩
theorem RowB.mono {n m : Nat} {w : World} {v : Value} {l : List It} (h : RowB n w v l) (b : n ≤ m) : RowB m w v l := by
  obtain ⟨p, cap, hv, hl, hcap, hc⟩ := h
  refine ⟨p, cap, hv, hl, hcap, fun i s hs => ?_⟩
  obtain ⟨ad, hp, hg, h0, h1⟩ := hc i s hs
  exact ⟨ad, hp, Nat.lt_of_lt_of_le hg b, h0, h1⟩
theorem Row.below {w w' : World} {v : Value} {l : List It} (h : Row w v l) (b : Below w.heap.size w w') : Row w' v l := (RowB.kept h b.block).mono b.size
theorem Row.drewN {w : World} {v : Value} {l : List It} (h : Row w v l) (n : Nat) : Row (w.drewN n) v l := h
theorem Row.drew {w : World} {v : Value} {l : List It} (h : Row w v l) : Row w.drew v l := h
theorem Row.more {w : World} {v : Value} {l : List It} (h : Row w v l) (o : Obj) : Row (w.alloc o) v l := Row.below h ((Below.refl _ w).alloc (Nat.le_refl _) o)
theorem add_flat (g i : Nat) : (⟨g, 0, none⟩ : Addr).add i = ⟨g, i, none⟩ := by unfold Addr.add; split <;> simp_all
theorem Row.of_cells {w : World} {g : Nat} {l : List It} (n cap : Nat) (hn : n = l.length) (hcap : n ≤ cap) (hmax : cap ≤ 9223372036854775807) (hg : g < w.heap.size) (h : ∀ (j : Nat) (u : Value), (cellsOf l)[j]? = some u → w.cell? ⟨g, j, none⟩ = some u) : Row w (.slice (some ⟨g, 0, none⟩) n cap) l := by
  subst hn
  refine ⟨_, cap, rfl, hcap, hmax, fun i x hx => ⟨_, rfl, hg, ?_, ?_⟩⟩
  · rw [add_flat]; exact h _ _ (cellsOf_get l i x hx).1
  · rw [add_flat]; exact h _ _ (cellsOf_get l i x hx).2
theorem Row.of_blk {w : World} {g : Nat} {t : TypeId} {l : List It} (n cap : Nat) (hn : n = l.length) (hcap : n ≤ cap) (hmax : cap ≤ 9223372036854775807) (h : Blk w g t (cellsOf l).toArray) : Row w (.slice (some ⟨g, 0, none⟩) n cap) l :=
  Row.of_cells n cap hn hcap hmax h.lt fun j u hu => by rw [h.cell j]; simpa using hu
/-- A slice that was just built. -/
theorem Row.built (w : World) (l : List It) {n cap : Nat} {cs : Array Value} {t : TypeId} (hc : cs = (cellsOf l).toArray) (hn : n = l.length := by rfl) (hcap : n ≤ cap := by decide) (hmax : cap ≤ 9223372036854775807 := by decide) : Row (w.alloc (.cells cs t)) (.slice (some ⟨w.heap.size, 0, none⟩) n cap) l :=
  Row.of_blk n cap hn hcap hmax (by rw [← hc]; exact Blk.new w t cs)
/-- What a slice of the call's own holds. -/
theorem Row.of_own {w : World} {base k : Nat} {v : Value} {e : TypeId} {l : List It} (h : w.ownsRow base e 2 v k (cellsOf l)) (hk : k = l.length) : Row w v l := by
  subst hk
  rcases id h.2 with ⟨rfl, h0⟩ | ⟨g, cap, cur, rfl, hb, hg, hn, hm, hs, ht⟩
  · have : l = [] := by simpa using h0
    subst this; exact Row.nil w _
  · exact Row.of_cells _ cap rfl hn (by unfold maxLen at hm; omega) (Array.getElem?_eq_some_iff.1 hg).1 fun j u hu => by rw [← add_flat]; exact h.cells rfl j u hu
theorem RowB.take {n : Nat} {w : World} {p : Option Addr} {len cap : Nat} {l : List It} (h : RowB n w (.slice p len cap) l) (k : Nat) (hk : k ≤ l.length) : RowB n w (.slice p k cap) (l.take k) := by
  obtain ⟨p', cap', hv, hl, hcap, hc⟩ := h
  injection hv with e1 e2 e3
  subst e1; subst e3
  refine ⟨p, cap, by rw [List.length_take, Nat.min_eq_left hk], by rw [List.length_take]; omega, hcap, fun i x hx => hc i x ?_⟩
  rw [List.getElem?_take] at hx
  split at hx
  · exact hx
  · cases hx
end Go.Proofs.Ytlmbccgldigihaa
