/-
  The code of a text under two keys (the method, bound to both), and what is made of it: proof, Mac, Short, Long, announcement, Address, each by its walk.
-/
import Derived.Test.YtcbakfnpbhgjoaaDoorKeyWalks
import Derived.Test.YtcbakfnpbhgjoaaDoorKeyOps
namespace Go.Proofs.YtcbakfnpbhgjoaaDoor
open Go.ChangeShapes Go.WideShapes Go.ChangeAt Go.RowKit
set_option linter.unusedVariables false

/-- Both keys' method, bound to them. -/
abbrev bound (f s : Nat) : Value := .func (.func 43) #[.agg #[.int .u64 (f : Int), .int .u64 (s : Int)]] #[]

set_option maxRecDepth 100000 in
set_option maxHeartbeats 1000000 in
theorem keys_code_any (f s : Nat) (hf : f ≤ 18446744073709551615) (hs : s ≤ 18446744073709551615) (text : ByteArray) (hx : text.size < 1152921504606000000) (D : Array Value) (hD : D = byv (mac f s text.data.toList)) (w : World) (ht : Tbl w) :
    Calls Tryd.prog 43 #[.agg #[.int .u64 (f : Int), .int .u64 (s : Int)], .string text] w fun e w' => e = .returned (.agg D) ∧ Below w.heap.size w w' := by
  obtain ⟨z32, hz32⟩ : ∃ z32, z32 = byv (List.replicate 32 0) := ⟨_, rfl⟩
  have hdz := digest_zero
  rw [← hz32] at hdz
  have HZK := Lib.hid (show DOk z32 by rw [hz32]; exact dok_zero)
  have HDK := Lib.hid (show DOk D by rw [hD]; exact dok _ (mac_length _ _ _))
  obtain ⟨F, hF⟩ : ∃ T, T = txt (be 8 f) := ⟨_, rfl⟩
  obtain ⟨S, hS⟩ : ∃ T, T = txt (be 8 s) := ⟨_, rfl⟩
  obtain ⟨K, hK⟩ : ∃ K, K = txt (be 8 f ++ be 8 s) := ⟨_, rfl⟩
  have hKs : K.size = 16 := by rw [hK]; simp [ByteArray.size, be_length]
  have HKF := Lib.hid (show K.data.toList = ([F, S].map (·.data.toList)).flatten by rw [hK, hF, hS]; simp)
  have HDC := Lib.hid (show D = byv (code K.data.toList text.data.toList) by rw [hD, hK, mac])
  obtain ⟨w0, hw0⟩ : ∃ w0, w0 = w.alloc (.cells #[.int .u64 (f : Int), .int .u64 (s : Int)] 62) := ⟨_, rfl⟩
  obtain ⟨r, hr⟩ : ∃ r, r = w.heap.size + 1 := ⟨_, rfl⟩
  have s0 : w0.heap.size = r := by rw [hw0, hr]; exact World.size_alloc _ _
  have HRL := Lib.hid (show w.heap.size ≤ r by omega)
  have b0 : Below w.heap.size w w0 := by rw [hw0]; exact (Below.refl _ _).alloc (Nat.le_refl _) _
  have n0 : Blk w0 w.heap.size 62 #[.int .u64 (f : Int), .int .u64 (s : Int)] := by rw [hw0]; exact Blk.new _ _ _
  obtain ⟨w1, hw1⟩ : ∃ w1, w1 = w0.alloc (.cells z32 32) := ⟨_, rfl⟩
  have b1 : Below w0.heap.size w0 w1 := by rw [hw1]; exact (Below.refl _ _).alloc (Nat.le_refl _) _
  have HR1 := Lib.hid (show Blk w1 r 32 z32 by rw [hw1, ← s0]; exact Blk.new _ _ _)
  have HN1 := Lib.hid (n0.below b1 n0.lt)
  have HT1 := Lib.hid ((ht.below b0).below b1)
  have HB1 := Lib.hid (b0.trans (b1.mono b0.size))
  have ew0 := hw0.symm
  have ew1 := hw1.symm
  have HF := Lib.hid hF
  have HS := Lib.hid hS
  have HW1 := Lib.hid hw1
  clear hz32 ht hD hF hS hK hw0 hw1 b0 b1 n0 hr
  go_enter Tryd.func43, Tryd.ntmps43
  go_wp2_with fail
  try rw [ew0]
  try rw [ew1]
  clear ew0 ew1
  have HDO := Lib.hid (show z32.size = D.size by rw [HZK.out.size, HDK.out.size])
  have FIN : ∀ W, Below w1.heap.size w1 W → Blk (W.setRow r D) r 32 D ∧ Below w.heap.size w (W.setRow r D) := fun W b =>
    ⟨setRow_heap _ _ _ _ _ _ (HR1.out.below b HR1.out.lt), below_setRow (HB1.out.trans (b.mono HB1.out.size)) HRL.out D⟩
  have BW : Below w1.heap.size w1 w1.drew := (Below.refl _ w1).drew
  refine walk_start 10 (fun W => Below w1.heap.size w1 W) (by kernel_rfl) (n := 11) rfl ?_
  obtain ⟨W9, hW9⟩ : ∃ W9, W9 = w1.drew := ⟨_, rfl⟩
  rw [← hW9] at BW ⊢
  clear hW9
  refine walk_free 0 (.pointer (some ⟨w.heap.size, 0, none⟩)) rfl (by kernel_rfl) (by kernel_rfl) (by kernel_rfl) (by kernel_rfl) (by kernel_rfl) (by kernel_rfl) BW (fun W b => ex_field (v := .pointer (some ⟨w.heap.size, 0, none⟩)) 62 (.tmp 2) 0 (by kernel_rfl) (by kernel_rfl) (by kernel_rfl)) ?_
  refine walk_free 1 (.int .u64 (f : Int)) rfl (by kernel_rfl) (by kernel_rfl) (by kernel_rfl) (by kernel_rfl) (by kernel_rfl) (by kernel_rfl) BW (fun W b => ex_load 22 (.tmp 5) (by kernel_rfl) ⟨w.heap.size, 0, none⟩ (by kernel_rfl) (by kernel_rfl) ((HN1.out.below b HN1.out.lt).cell 0)) ?_
  refine walk_free 3 (.pointer (some ⟨w.heap.size, 1, none⟩)) rfl (by kernel_rfl) (by kernel_rfl) (by kernel_rfl) (by kernel_rfl) (by kernel_rfl) (by kernel_rfl) BW (fun W b => ex_field (v := .pointer (some ⟨w.heap.size, 0, none⟩)) 62 (.tmp 2) 1 (by kernel_rfl) (by kernel_rfl) (by kernel_rfl)) ?_
  refine walk_free 4 (.int .u64 (s : Int)) rfl (by kernel_rfl) (by kernel_rfl) (by kernel_rfl) (by kernel_rfl) (by kernel_rfl) (by kernel_rfl) BW (fun W b => ex_load 22 (.tmp 8) (by kernel_rfl) ⟨w.heap.size, 1, none⟩ (by kernel_rfl) (by kernel_rfl) ((HN1.out.below b HN1.out.lt).cell 1)) ?_
  refine walk_free 8 (.string text) rfl (by kernel_rfl) (by kernel_rfl) (by kernel_rfl) (by kernel_rfl) (by kernel_rfl) (by kernel_rfl) BW (fun W b => by kernel_rfl) ?_
  refine walk_one 2 (by kernel_rfl) (do_call 2 rfl (by kernel_rfl) (by kernel_rfl) (Bytes_any f hf F HF.out _) (fun w' h => bel_in BW h) ?_)
  intro q hq
  have BQ := bel_in BW hq
  clear hq
  refine walk_one 5 (by kernel_rfl) (do_call 5 rfl (by kernel_rfl) (by kernel_rfl) (Bytes_any s hs S HS.out _) (fun w' h => bel_in BQ h) ?_)
  intro p hp
  have BP := bel_in BQ hp
  clear hp BQ BW
  obtain ⟨p1, hp1⟩ : ∃ p1, p1 = p.alloc (.cells #[.string F, .string S] 9) := ⟨_, rfl⟩
  have n2 : Blk p1 p.heap.size 9 ([F, S].map Value.string).toArray := by rw [hp1]; exact Blk.new _ _ _
  have BP1 : Below w1.heap.size w1 p1 := by rw [hp1]; exact BP.alloc BP.size _
  refine walk_one 6 (by kernel_rfl) (do_lone (v := .slice (some ⟨p.heap.size, 0, none⟩) 2 2) (w' := p1) 6 rfl (by kernel_rfl) (by rw [hp1]; exact ex_build2 (.tmp 7) (.tmp 10) (by kernel_rfl) F S (by kernel_rfl) (by kernel_rfl)) BP1 ?_)
  refine walk_one 7 (by kernel_rfl) (do_call 7 rfl (by kernel_rfl) (by kernel_rfl) (concatenated_any [F, S] K HKF.out p.heap.size 2 rfl _ n2 (by simp) (by omega)) (fun w' h => bel_in BP1 h) ?_)
  intro x hx'
  have BR := bel_in BP1 hx'
  clear hx' BP1 BP n2 hp1
  refine walk_one 9 (by kernel_rfl) (do_call 9 rfl (by kernel_rfl) (by kernel_rfl) (Of_any K text D HDC.out _ (HT1.out.below BR) (by omega) hx) (fun w' h => bel_in BR h) ?_)
  intro v hv
  have BV := bel_in BR hv
  clear hv BR
  refine walk_one 10 (by kernel_rfl) (do_last 10 rfl (by kernel_rfl) (ex_store_row 32 (.tmp 4) (.tmp 14) (by kernel_rfl) r D (by kernel_rfl) (by kernel_rfl) 32 z32 (HR1.out.below BV HR1.out.lt) HDK.out.info HDO.out HDK.out.one) (by kernel_rfl) ?_)
  refine walk_end (by kernel_rfl) ?_
  have HFIN := Lib.hid (FIN v BV)
  clear FIN BV
  go_wp2_with fail
  refine bodyPost_ret (results_cell_row (p := 4) (ty := 32) (by kernel_rfl) _ _ r 32 D (0, 0) _ (by kernel_rfl) HFIN.out.1 digest_under rfl HDK.out.info) rfl ⟨rfl, HFIN.out.2⟩
end Go.Proofs.YtcbakfnpbhgjoaaDoor
