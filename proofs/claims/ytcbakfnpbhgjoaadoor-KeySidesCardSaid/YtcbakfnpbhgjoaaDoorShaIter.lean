/-
  The words of a block, as the iterator yields them (sha.wordsOf and its closure), by its walk: whatever loop ranges over it.
-/
import Derived.RangeFuncNested
import Derived.RangeFuncBound
import Derived.RangeFuncCalls
import Derived.RangeFuncLeaves
import Derived.RangeFuncFrom
import Derived.Shelf.Abstract
import Derived.Shelf.RegionOpen
import Derived.WalkKit
import Derived.OwnWalkIn
import Derived.TacticsInMore
import Derived.LoopNIn
import Derived.LoopIn
import Derived.Test.YtcbakfnpbhgjoaaDoorShaNext
import Derived.Test.YtcbakfnpbhgjoaaDoorRoundRegion
namespace Go.Proofs.YtcbakfnpbhgjoaaDoor
open Go.RowKit Go.Shelf
set_option linter.unusedVariables false
attribute [local go_sem] Oper.semAt_some

theorem add_off (b q : Nat) : (⟨b, 0, none⟩ : Addr).add q = ⟨b, q, none⟩ := by unfold Addr.add; split <;> simp_all
/-- A block is read whole, as a walk leaves it. -/
theorem Blk.loadC {w : World} {g : Nat} {t : TypeId} {cs : Array Value} (h : Blk w g t cs) (n : Nat) (hn : cs.size = n) : (loadCellsFrom ⟨g, 0, none⟩ 0 n #[]).run Tryd.prog w = .ok cs w := by
  have := run_loadCells_list (P := Tryd.prog) w ⟨g, 0, none⟩ cs.toList (fun j v hv => by
    rw [add_off, h.cell j]; simpa using hv)
  have e : cs.toList.length = n := by simp [hn]
  rw [e] at this
  simpa [loadCells] using this

theorem block_size : (Tryd.prog.info? 95).map (·.size) = some 64 := by kernel_rfl
theorem block_under : Tryd.prog.underlying 95 = some (.array (Tryd.prog.arrayLen 95) (Tryd.prog.elem 95)) := by kernel_rfl
theorem kept_size : (Tryd.prog.info? 133).map (·.size) = some 16 := by kernel_rfl
theorem kept_under : Tryd.prog.underlying 133 = some (.array (Tryd.prog.arrayLen 133) (Tryd.prog.elem 133)) := by kernel_rfl

/-- What a round of the loop leaves: every block but the loop's record l and the caller's block t. -/
def Kept (l t : Nat) (W W' : World) : Prop := W.heap.size ≤ W'.heap.size ∧ ∀ k, k < W.heap.size → k ≠ l → k ≠ t → W'.heap[k]? = W.heap[k]?
/-- The last sixteen words, each in its place. -/
def Keeps (b : List Nat) (t : Nat) (ks : List Nat) : Prop := ks.length = 16 ∧ (∀ i, ks.getD i 0 ≤ MW) ∧ ∀ i, i < t → t ≤ i + 16 → ks.getD (i % 16) 0 = wrd MW b i
theorem Keeps.start (b : List Nat) : Keeps b 0 (List.replicate 16 0) := ⟨rfl, fun i => by
  have all : ∀ i : Fin 16, (List.replicate 16 0).getD i.val 0 ≤ MW := by decide
  by_cases h : i < 16
  · exact all ⟨i, h⟩
  · rw [List.getD_eq_getElem?_getD, List.getElem?_eq_none (by simp; omega)]; decide, fun i h => by omega⟩
theorem Keeps.next {b : List Nat} (hb : Bys b) {t : Nat} {ks : List Nat} (h : Keeps b t ks) : Keeps b (t + 1) (ks.set (t % 16) (wrd MW b t)) := by
  obtain ⟨h1, h2, h3⟩ := h
  refine ⟨by simp [h1], fun i => ?_, fun i hi hi' => ?_⟩
  · by_cases e : t % 16 = i
    · subst e; rw [List.getD_eq_getElem?_getD, List.getElem?_set_self (by omega)]; exact wrd_le hb t
    · rw [List.getD_eq_getElem?_getD, List.getElem?_set_ne e, ← List.getD_eq_getElem?_getD]; exact h2 i
  · by_cases e : i = t
    · subst e; rw [List.getD_eq_getElem?_getD, List.getElem?_set_self (by omega)]; rfl
    · rw [List.getD_eq_getElem?_getD, List.getElem?_set_ne (by omega), ← List.getD_eq_getElem?_getD]; exact h3 i (by omega) (by omega)
theorem Keeps.word {b : List Nat} {t : Nat} {ks : List Nat} (h : Keeps b t ks) (ht : 16 ≤ t) : nxt MW (ks.getD ((t - 16) % 16) 0) (ks.getD ((t - 15) % 16) 0) (ks.getD ((t - 7) % 16) 0) (ks.getD ((t - 2) % 16) 0) = wrd MW b t := by
  rw [wrd_next MW b t ht, h.2.2 (t - 16) (by omega) (by omega), h.2.2 (t - 15) (by omega) (by omega), h.2.2 (t - 7) (by omega) (by omega), h.2.2 (t - 2) (by omega) (by omega)]

theorem wordsOf_any (bs : List UInt8) (w : World) :
    Calls Tryd.prog 85 #[.agg (byv bs)] w fun e w' => e = .returned (.func (.func 96) #[] #[.pointer (some ⟨w.heap.size, 0, none⟩)]) ∧ w' = w.alloc (.cells (byv bs) 95) := by
  go_enter Tryd.func85, Tryd.ntmps85
  go_wp2
  go_ret; exact ⟨rfl, rfl⟩

theorem zeros16 : (#[.int .u32 0, .int .u32 0, .int .u32 0, .int .u32 0, .int .u32 0, .int .u32 0, .int .u32 0, .int .u32 0, .int .u32 0, .int .u32 0, .int .u32 0, .int .u32 0, .int .u32 0, .int .u32 0, .int .u32 0, .int .u32 0] : Array Value) = wov (List.replicate 16 0) := rfl

set_option maxHeartbeats 2000000 in
set_option maxRecDepth 100000 in
theorem words_in (m : Nat) (l t B g0 : Nat) (bs : List UInt8) (J : Nat → World → Prop) (hl64 : bs.length = 64)
    (hJ : ∀ i W W', J i W → Below B W W' → J i W')
    (hY : ∀ i W, J i W → i < 64 → YieldAt Fence.wide m Tryd.prog l #[.int .i64 (i : Int), .int .u32 ((wrd MW (nums bs) i : Nat) : Int)] W fun e W' => e = .returned (.bool true) ∧ J (i + 1) W' ∧ Kept l t W W')
    (W : World) (hB : B ≤ W.heap.size) (hl : l < B) (ht : t < B) (hg : g0 < B) (hgl : g0 ≠ l) (hgt : g0 ≠ t) (hb : Blk W g0 95 (byv bs)) (h0 : J 0 W) :
    CallsIn Fence.wide (m + 1) Tryd.prog 96 #[.func (.yield l) #[] #[], .pointer (some ⟨g0, 0, none⟩)] W fun e W' => (∃ v, e = .returned v) ∧ J 64 W' := by
  have HJ := Lib.hid hJ
  have HY := Lib.hid hY
  have H0 := Lib.hid h0
  have HB := Lib.hid hb
  have HBY := Lib.hid (nums_bys bs)
  have hbz : (byv bs).size = 64 := by rw [byv_size, hl64]
  clear hJ hY h0 hb
  refine callsIn_of_wp Tryd.func96 rfl trivial ?_ rfl
  simp only [Tryd.ntmps96, List.size_toArray, List.length_cons, List.length_nil, Nat.reduceAdd, Nat.reduceSub, Array.replicate_succ, Array.replicate_zero, List.push_toArray, List.append_toArray, List.nil_append, List.cons_append]
  gi_wp2
  rw [zeros16]
  have MB : Below B W (W.alloc (.cells (wov (List.replicate 16 0)) 133)) := (Below.refl B W).alloc hB _
  have ML := Lib.hid (Blk.new W 133 (wov (List.replicate 16 0)))
  gi_loopw [6] (fun i wr => ∃ (j : Nat) (ks : List Nat), j ≤ 64 ∧ i = .int .i64 (j : Int) ∧ Keeps (nums bs) j ks ∧ Blk wr W.heap.size 133 (wov ks) ∧ J j wr ∧ Blk wr g0 95 (byv bs)) (fun i _ => 64 - (intOf i).toNat)
  case atStart => exact ⟨0, _, Nat.zero_le _, rfl, Keeps.start _, ML.out, HJ.out _ _ _ H0.out MB, HB.out.below MB hg⟩
  case round =>
    clear ML MB H0 HB
    obtain ⟨j, ks, hj, rfl, hk, hK, hJj, hG⟩ := hrel
    have HK := Lib.hid hk
    have HKK := Lib.hid hK
    have HJJ := Lib.hid hJj
    have HG := Lib.hid hG
    clear hk hK hJj hG
    by_cases hlt : j < 64
    · by_cases h16 : j < 16
      · gi_wp2_with (refine wpListIn_row rfl 95 _ rfl g0 ?_ 95 (byv bs) _ ?_ block_under rfl ?_ ?_; rfl; exact HG.out; rw [hbz]; exact block_size)
        refine ⟨trivial, (callsIn_wide.2 (givenOf_any bs j wr hl64 h16)).mono ?_⟩
        rintro e w1 ⟨rfl, b1⟩
        rw [← wrd_first MW _ j h16]
        have K1 : Blk w1 W.heap.size 133 (wov ks) := HKK.out.below b1 HKK.out.lt
        have hBw : B ≤ wr.heap.size := Nat.le_trans hB (Nat.le_of_lt HKK.out.lt)
        have J1 : J j w1 := HJ.out _ _ _ HJJ.out (b1.mono hBw)
        have G1 : Blk w1 g0 95 (byv bs) := HG.out.below b1 HG.out.lt
        obtain ⟨W2, hW2⟩ : ∃ W2, W2 = w1.setCell ⟨W.heap.size, j % 16, none⟩ (.int .u32 ((wrd MW (nums bs) j : Nat) : Int)) := ⟨_, rfl⟩
        have K2 : Blk W2 W.heap.size 133 (wov (ks.set (j % 16) (wrd MW (nums bs) j))) := by rw [hW2, ← wov_set]; exact K1.set_ _ _
        have hb2 : Below B w1 W2 := by rw [hW2]; exact (Below.refl B w1).setCell (p := ⟨W.heap.size, j % 16, none⟩) hB _
        have J2 : J j W2 := HJ.out _ _ _ J1 hb2
        have G2 : Blk W2 g0 95 (byv bs) := G1.below hb2 hg
        obtain ⟨fn, tmps, assign, body, hy, hR⟩ := HY.out j W2 J2 hlt
        have HK' := Lib.hid (HK.out.next HBY.out)
        have HK2 := Lib.hid K2
        have HG2 := Lib.hid G2
        have c1 : w1.cell? ⟨W.heap.size, j % 16, none⟩ = some (.int .u32 ((ks.getD (j % 16) 0 : Nat) : Int)) := (K1.cell _).trans (wov_get ks _ (by rw [HK.out.1]; omega))
        have f1 : w1.frozen? ⟨W.heap.size, j % 16, none⟩ = false := K1.frozen _
        rw [hW2] at hy
        clear K1 hBw J1 G1 K2 hb2 J2 G2 b1 HK HKK HJJ HG
        obtain ⟨v, hv⟩ : ∃ v, v = ks.getD (j % 16) 0 := ⟨_, rfl⟩
        rw [← hv] at c1
        have HR := Lib.hid hR
        have HW2 := Lib.hid hW2
        clear hv hR hW2
        obtain ⟨x, hx⟩ : ∃ x, x = wrd MW (nums bs) j := ⟨_, rfl⟩
        rw [← hx] at hy HW2 HK' HK2 ⊢
        clear hx
        gi_wp2
        rw [← HW2.out]
        refine HR.out.mono ?_
        rintro e w3 ⟨rfl, hJ3, hK3⟩
        have HJ3 := Lib.hid hJ3
        have HKK3 := Lib.hid (show Blk w3 W.heap.size 133 (wov (ks.set (j % 16) x)) from HK2.out.same (hK3.2 _ HK2.out.lt (by omega) (by omega)))
        have HG3 := Lib.hid (show Blk w3 g0 95 (byv bs) from HG2.out.same (hK3.2 _ HG2.out.lt hgl hgt))
        clear hJ3 hK3 hy HR HW2 c1 f1 HK2 HG2
        gi_wp2
        go_roundw
        case rel => exact ⟨j + 1, _, by omega, by go_num, HK'.out, HKK3.out, HJ3.out, HG3.out⟩
        case measure => simp [intOf]; omega
      · have hn := HK.out.word (Nat.le_of_not_lt h16)
        have hks : (wov ks).size = 16 := by rw [wov_size, HK.out.1]
        gi_wp2_with (refine wpListIn_row rfl 133 _ rfl W.heap.size ?_ 133 (wov ks) _ ?_ kept_under rfl ?_ ?_; rfl; exact HKK.out; rw [hks]; exact kept_size)
        refine ⟨trivial, (callsIn_wide.2 (nextOf_any ks j wr HK.out.1 HK.out.2.1 (by omega) hlt)).mono ?_⟩
        rintro e w1 ⟨rfl, b1⟩
        rw [hn]
        clear hn
        have K1 : Blk w1 W.heap.size 133 (wov ks) := HKK.out.below b1 HKK.out.lt
        have hBw : B ≤ wr.heap.size := Nat.le_trans hB (Nat.le_of_lt HKK.out.lt)
        have J1 : J j w1 := HJ.out _ _ _ HJJ.out (b1.mono hBw)
        have G1 : Blk w1 g0 95 (byv bs) := HG.out.below b1 HG.out.lt
        obtain ⟨W2, hW2⟩ : ∃ W2, W2 = w1.setCell ⟨W.heap.size, j % 16, none⟩ (.int .u32 ((wrd MW (nums bs) j : Nat) : Int)) := ⟨_, rfl⟩
        have K2 : Blk W2 W.heap.size 133 (wov (ks.set (j % 16) (wrd MW (nums bs) j))) := by rw [hW2, ← wov_set]; exact K1.set_ _ _
        have hb2 : Below B w1 W2 := by rw [hW2]; exact (Below.refl B w1).setCell (p := ⟨W.heap.size, j % 16, none⟩) hB _
        have J2 : J j W2 := HJ.out _ _ _ J1 hb2
        have G2 : Blk W2 g0 95 (byv bs) := G1.below hb2 hg
        obtain ⟨fn, tmps, assign, body, hy, hR⟩ := HY.out j W2 J2 hlt
        have HK' := Lib.hid (HK.out.next HBY.out)
        have HK2 := Lib.hid K2
        have HG2 := Lib.hid G2
        have c1 : w1.cell? ⟨W.heap.size, j % 16, none⟩ = some (.int .u32 ((ks.getD (j % 16) 0 : Nat) : Int)) := (K1.cell _).trans (wov_get ks _ (by rw [HK.out.1]; omega))
        have f1 : w1.frozen? ⟨W.heap.size, j % 16, none⟩ = false := K1.frozen _
        rw [hW2] at hy
        clear K1 hBw J1 G1 K2 hb2 J2 G2 b1 HK HKK HJJ HG
        obtain ⟨v, hv⟩ : ∃ v, v = ks.getD (j % 16) 0 := ⟨_, rfl⟩
        rw [← hv] at c1
        have HR := Lib.hid hR
        have HW2 := Lib.hid hW2
        clear hv hR hW2
        obtain ⟨x, hx⟩ : ∃ x, x = wrd MW (nums bs) j := ⟨_, rfl⟩
        rw [← hx] at hy HW2 HK' HK2 ⊢
        clear hx
        gi_wp2
        rw [← HW2.out]
        refine HR.out.mono ?_
        rintro e w3 ⟨rfl, hJ3, hK3⟩
        have HJ3 := Lib.hid hJ3
        have HKK3 := Lib.hid (show Blk w3 W.heap.size 133 (wov (ks.set (j % 16) x)) from HK2.out.same (hK3.2 _ HK2.out.lt (by omega) (by omega)))
        have HG3 := Lib.hid (show Blk w3 g0 95 (byv bs) from HG2.out.same (hK3.2 _ HG2.out.lt hgl hgt))
        clear hJ3 hK3 hy HR HW2 c1 f1 HK2 HG2
        gi_wp2
        go_roundw
        case rel => exact ⟨j + 1, _, by omega, by go_num, HK'.out, HKK3.out, HJ3.out, HG3.out⟩
        case measure => simp [intOf]; omega
    · obtain rfl : j = 64 := by omega
      clear hlt
      gi_wp2
      go_end0
      exact ⟨⟨_, rfl⟩, HJJ.out⟩
end Go.Proofs.YtcbakfnpbhgjoaaDoor
