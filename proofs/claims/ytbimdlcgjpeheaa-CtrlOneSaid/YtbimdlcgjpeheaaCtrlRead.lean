/-
  What is read of a body behind its first byte: the cursor's first byte, decodeNumber, and the four closures, each by its walk.
-/
import Derived.Test.YtbimdlcgjpeheaaCtrlWalks
import Derived.Test.YtbimdlcgjpeheaaCurMoves
namespace Go.Proofs.Ytbimdlcgjpeheaa
open Go.ChangeShapes Go.WideShapes Go.ChangeAt Go.RowKit
set_option linter.unusedVariables false

theorem U8_first (b : Nat) (s : ByteArray) (w : World) (hs : s.size ≤ 9223372036854775807) (h0 : s.size ≠ 0) (h : Cur w b s 0 false) :
    Calls Try.prog 41 #[.pointer (some ⟨b, 0, none⟩)] w fun e w' => e = .returned (.int .u8 (byteAt s 0 : Int)) ∧ Moved w w' b s 1 false := by
  have q := U8_t b s 0 w hs (by omega) h
  rw [num_1] at q
  exact q
/-- Where the cursor stands at last, as its End tells whether the bytes were as many as they must be. -/
def Fin (m : Nat) (s : ByteArray) (k : Nat) (br : Bool) : Prop := k ≤ s.size ∧ endO s k br = fit m s.size
theorem fin_one (s : ByteArray) (h0 : s.size ≠ 0) : Fin 1 s 1 false := by
  refine ⟨by omega, ?_⟩
  unfold endO fit
  (repeat' split) <;> first | rfl | omega | contradiction
theorem fin_two (s : ByteArray) (h0 : s.size ≠ 0) : Fin 2 s (posO s 1 false (1 : Nat)) (brO s 1 false (1 : Nat)) := by
  refine ⟨posO_le s 1 false _ (by omega), ?_⟩
  rcases fits_cases s 1 false (1 : Nat) with ⟨h, _⟩ | ⟨_, hn, hf⟩ | ⟨_, _, h1, hf⟩
  · cases h
  · rw [brO_f hf]; unfold endO fit; rw [if_pos rfl, if_pos (by omega)]
  · rw [brO_t hf, posO_t hf]
    unfold endO fit
    rw [if_neg (by decide), if_neg (show ¬ s.size < 2 by omega)]
    rfl
theorem fin_ten (s : ByteArray) (h0 : s.size ≠ 0) : Fin 10 s (posO s (posO s 1 false (1 : Nat)) (brO s 1 false (1 : Nat)) (8 : Nat)) (brO s (posO s 1 false (1 : Nat)) (brO s 1 false (1 : Nat)) (8 : Nat)) := by
  have hp := posO_le s 1 false (1 : Nat) (by omega)
  refine ⟨posO_le s _ _ _ hp, ?_⟩
  rcases fits_cases s 1 false (1 : Nat) with ⟨h, _⟩ | ⟨_, hn, hf⟩ | ⟨_, _, h1, hf⟩
  · cases h
  · rw [brO_f hf, posO_f hf]
    rw [brO_f (by unfold fits; rfl)]
    unfold endO fit; rw [if_pos rfl, if_pos (by omega)]
  · rw [brO_t hf, posO_t hf]
    rcases fits_cases s (1 + Int.toNat (1 : Nat)) false (8 : Nat) with ⟨h, _⟩ | ⟨_, hn, hf⟩ | ⟨_, _, h1, hf⟩
    · cases h
    · rw [brO_f hf]; unfold endO fit; rw [if_pos rfl, if_pos (by have : (Int.toNat (1 : Nat)) = 1 := rfl; omega)]
    · rw [brO_t hf, posO_t hf]
      have e1 : Int.toNat (1 : Nat) = 1 := rfl
      have e8 : Int.toNat (8 : Nat) = 8 := rfl
      unfold endO fit
      rw [if_neg (by decide), if_neg (show ¬ s.size < 10 by omega)]
      rfl
theorem got_two (s : ByteArray) (h : fit 2 s.size = 0) : numO s 1 false 1 = byteAt s 1 := by
  rw [fit_iff] at h
  rw [numO_t (by unfold fits; rw [h]; rfl), num_1]
theorem got_ten (s : ByteArray) (h : fit 10 s.size = 0) : numO s (posO s 1 false (1 : Nat)) (brO s 1 false (1 : Nat)) 8 = num s 2 8 := by
  rw [fit_iff] at h
  have hf : fits s 1 false (1 : Nat) = true := by unfold fits; rw [h]; rfl
  rw [posO_t hf, brO_t hf, numO_t (by unfold fits; rw [h]; rfl)]
  rfl

theorem decodeNumber_any (b : Nat) (s : ByteArray) (w : World) (hs : s.size ≤ 9223372036854775807) (h0 : s.size ≠ 0) (h : Cur w b s 1 false) :
    Calls Try.prog 36 #[.pointer (some ⟨b, 0, none⟩)] w fun e w' => ∃ n k br, e = .returned (.int .u64 ((n : Nat) : Int)) ∧ Moved w w' b s k br ∧ Fin 10 s k br ∧ (fit 10 s.size = 0 → n = num s 2 8) := by
  obtain ⟨p, hp⟩ : ∃ p, p = posO s 1 false (1 : Nat) := ⟨_, rfl⟩
  obtain ⟨q, hq⟩ : ∃ q, q = brO s 1 false (1 : Nat) := ⟨_, rfl⟩
  obtain ⟨n, hn⟩ : ∃ n, n = numO s p q 8 := ⟨_, rfl⟩
  obtain ⟨m, hm⟩ : ∃ m, m = numO s 1 false 1 := ⟨_, rfl⟩
  have H1 := Lib.hid (U8_any b s 1 false w hs (by omega) h)
  have H8 := Lib.hid (fun w1 (h1 : Cur w1 b s p q) => U64_any b s p q w1 hs (by rw [hp]; exact posO_le s 1 false _ (by omega)) h1)
  have HF := Lib.hid (fin_ten s h0)
  have HG := Lib.hid (got_ten s)
  rw [← hm, ← hp, ← hq] at H1
  rw [← hn] at H8
  rw [← hp, ← hq] at HF HG
  rw [← hn] at HG
  clear h hp hq hn hm hs h0
  go_enter Try.func36, Try.ntmps36
  go_wp2_with fail
  refine H1.out.mono ?_
  rintro e w1 ⟨rfl, m1⟩
  have HM := Lib.hid m1
  clear m1
  go_wp2_with fail
  refine (H8.out _ HM.out.2).mono ?_
  rintro e w2 ⟨rfl, m2⟩
  have HM2 := Lib.hid (HM.out.trans m2)
  clear m2
  go_wp2_with fail
  go_ret
  exact ⟨n, _, _, rfl, HM2.out, HF.out, HG.out⟩

/-! ### The closures -/
theorem results_row1 {P : Program} {fn : Func} {p : Tmp} {ty : TypeId} (h : fn.results = #[.cell p ty]) (tmps : Array Value) (w : World) (g : Nat) (t' : TypeId) (cs : Array Value) (fr : Nat × Nat) (d : TypeDesc)
    (hp : tmps.getD p undef = .pointer (some ⟨g, 0, none⟩)) (hg : w.heap[g]? = some (.cells cs t' fr))
    (hu : P.underlying ty = some d) (hd : (match d with | .struct _ | .array _ _ => true | _ => false) = true) (hi : (P.info? ty).map (·.size) = some cs.size) :
    (results fn tmps).run P w = .ok (.agg cs) w := by
  have hp' : tmps[p]?.getD undef = .pointer (some ⟨g, 0, none⟩) := by simpa using hp
  simp [results, h, hp', asAddr, run_loadVar_row w g t' ty cs fr d hg hu hd hi]
theorem below_setRow {B : Nat} {w W : World} {g : Nat} (h : Below B w W) (hg : B ≤ g) (cs : Array Value) : Below B w (W.setRow g cs) :=
  h.trans ⟨rfl, rfl, rfl, by simp, fun k hk => setRow_other W g k cs fun e => by omega⟩
theorem byte_odd : ∀ n : _root_.Fin 256, (bits .and .u8 (n.val : Int) 1 != 0) = (n.val % 2 == 1) := by decide +kernel
/-- A cursor that another block than a new one holds, behind a store into the new one. -/
theorem moved_row {w W : World} {b : Nat} {s : ByteArray} {k : Nat} {br : Bool} (h : Moved w W b s k br) (r : Nat) (hr : w.heap.size ≤ r) (hb : b ≠ r) (cs : Array Value) : Moved w (W.setRow r cs) b s k br :=
  ⟨{ os := h.1.os, tape := h.1.tape, output := h.1.output, size := by have := h.1.size; simpa using this, block := fun i hi hn => (setRow_other W r i cs fun e => by omega).trans (h.1.block i hi hn) }, Blk.same h.2 (setRow_other W r b cs hb)⟩
theorem pr_one (b : Bool) : (prv b).all (·.oneCell') = true := by simp [Value.oneCell']
theorem nu_one (n : Nat) : (nuv n).all (·.oneCell') = true := by simp [Value.oneCell']
theorem rs_one (f r : Int) : (rsv f r).all (·.oneCell') = true := by simp [Value.oneCell']
set_option maxRecDepth 100000 in
theorem closP_any (c b : Nat) (s : ByteArray) (w : World) (hc : c < 256) (h0 : s.size ≠ 0) (h : Cur w b s 1 false) :
    Calls Try.prog 33 #[.int .u8 (c : Int)] w fun e w' => e = .returned (.agg (prv (c % 2 == 1))) ∧ Moved w w' b s 1 false := by
  have hb : (bits .and .u8 (c : Int) 1 != 0) = (c % 2 == 1) := byte_odd ⟨c, hc⟩
  have HG := Lib.hid (Blk.new w 23 (prv false))
  have HM := Lib.hid (show Moved w (w.alloc (.cells (prv false) 23)) b s 1 false from ⟨only_alloc (.refl _ _) _, Blk.alloc h _⟩)
  have HN := Lib.hid (show b ≠ w.heap.size from Nat.ne_of_lt (Blk.lt h))
  clear h
  go_enter Try.func33, Try.ntmps33
  go_wp2_with (refine wpList_store_row rfl 23 _ _ rfl w.heap.size (prv (c % 2 == 1)) rfl rfl 23 (prv false) ?_ pr_size rfl (pr_one _) ?_; exact HG.out)
  exact bodyPost_ret (results_row1 (p := 2) rfl _ _ w.heap.size 23 (prv (c % 2 == 1)) (0, 0) _ (by kernel_rfl) (setRow_heap _ _ _ _ _ _ HG.out) Try.underlying23 rfl pr_size) rfl ⟨rfl, moved_row HM.out _ (Nat.le_refl _) HN.out _⟩
set_option maxRecDepth 100000 in
theorem closF_any (c g b : Nat) (s : ByteArray) (w : World) (hs : s.size ≤ 9223372036854775807) (h0 : s.size ≠ 0) (h : Cur w b s 1 false) (hg : Blk w g 67 #[.pointer (some ⟨b, 0, none⟩)]) :
    Calls Try.prog 35 #[.int .u8 (c : Int), .pointer (some ⟨g, 0, none⟩)] w fun e w' => ∃ n k br, e = .returned (.agg (nuv n)) ∧ Moved w w' b s k br ∧ Fin 10 s k br ∧ (fit 10 s.size = 0 → n = num s 2 8) := by
  have cg := (hg.alloc (.cells #[.int .u64 0] 32)).cell 0
  simp only [List.getElem?_toArray, List.getElem?_cons_zero] at cg
  have H1 := Lib.hid (fun w1 (h1 : Cur w1 b s 1 false) => decodeNumber_any b s w1 hs h0 h1)
  obtain ⟨w0, hw0⟩ : ∃ w0, w0 = w.alloc (.cells #[.int .u64 0] 32) := ⟨_, rfl⟩
  have HZ := Lib.hid (show Blk w0 w.heap.size 32 #[.int .u64 0] by rw [hw0]; exact Blk.new _ _ _)
  have HM := Lib.hid (show Moved w w0 b s 1 false by rw [hw0]; exact ⟨only_alloc (.refl _ _) _, Blk.alloc h _⟩)
  have HN := Lib.hid (show b ≠ w.heap.size from Nat.ne_of_lt (Blk.lt h))
  have HW := Lib.hid hw0
  clear h hg hs hw0
  go_enter Try.func35, Try.ntmps35
  go_wp2_with fail
  rw [← HW.out]
  refine (H1.out _ HM.out.2).mono ?_
  rintro e w1 ⟨n, k, br, rfl, m1, hf, hn⟩
  have HM1 := Lib.hid (HM.out.trans m1)
  have HZ1 := Lib.hid (HZ.out.grown m1.1 (by intro e; injection e with e; exact HN.out e.symm))
  have HF := Lib.hid hf
  have HG := Lib.hid hn
  clear m1 cg hf hn
  go_wp2_with (refine wpList_store_row rfl 32 _ _ rfl w.heap.size (nuv n) rfl rfl 32 #[.int .u64 0] ?_ fa_size rfl (nu_one _) ?_; exact HZ1.out)
  exact bodyPost_ret (results_row1 (p := 3) rfl _ _ w.heap.size 32 (nuv n) (0, 0) _ (by kernel_rfl) (setRow_heap _ _ _ _ _ _ HZ1.out) Try.underlying32 rfl fa_size) rfl ⟨n, k, br, rfl, moved_row HM1.out _ (Nat.le_refl _) HN.out _, HF.out, HG.out⟩
set_option maxRecDepth 100000 in
theorem closS_any (c g b : Nat) (s : ByteArray) (w : World) (hs : s.size ≤ 9223372036854775807) (h0 : s.size ≠ 0) (h : Cur w b s 1 false) (hg : Blk w g 67 #[.pointer (some ⟨b, 0, none⟩)]) :
    Calls Try.prog 38 #[.int .u8 (c : Int), .pointer (some ⟨g, 0, none⟩)] w fun e w' => ∃ n k br, e = .returned (.agg (nuv n)) ∧ Moved w w' b s k br ∧ Fin 10 s k br ∧ (fit 10 s.size = 0 → n = num s 2 8) := by
  have cg := (hg.alloc (.cells #[.int .u64 0] 35)).cell 0
  simp only [List.getElem?_toArray, List.getElem?_cons_zero] at cg
  have H1 := Lib.hid (fun w1 (h1 : Cur w1 b s 1 false) => decodeNumber_any b s w1 hs h0 h1)
  obtain ⟨w0, hw0⟩ : ∃ w0, w0 = w.alloc (.cells #[.int .u64 0] 35) := ⟨_, rfl⟩
  have HZ := Lib.hid (show Blk w0 w.heap.size 35 #[.int .u64 0] by rw [hw0]; exact Blk.new _ _ _)
  have HM := Lib.hid (show Moved w w0 b s 1 false by rw [hw0]; exact ⟨only_alloc (.refl _ _) _, Blk.alloc h _⟩)
  have HN := Lib.hid (show b ≠ w.heap.size from Nat.ne_of_lt (Blk.lt h))
  have HW := Lib.hid hw0
  clear h hg hs hw0
  go_enter Try.func38, Try.ntmps38
  go_wp2_with fail
  rw [← HW.out]
  refine (H1.out _ HM.out.2).mono ?_
  rintro e w1 ⟨n, k, br, rfl, m1, hf, hn⟩
  have HM1 := Lib.hid (HM.out.trans m1)
  have HZ1 := Lib.hid (HZ.out.grown m1.1 (by intro e; injection e with e; exact HN.out e.symm))
  have HF := Lib.hid hf
  have HG := Lib.hid hn
  clear m1 cg hf hn
  go_wp2_with (refine wpList_store_row rfl 35 _ _ rfl w.heap.size (nuv n) rfl rfl 35 #[.int .u64 0] ?_ fs_size rfl (nu_one _) ?_; exact HZ1.out)
  exact bodyPost_ret (results_row1 (p := 3) rfl _ _ w.heap.size 35 (nuv n) (0, 0) _ (by kernel_rfl) (setRow_heap _ _ _ _ _ _ HZ1.out) Try.underlying35 rfl fs_size) rfl ⟨n, k, br, rfl, moved_row HM1.out _ (Nat.le_refl _) HN.out _, HF.out, HG.out⟩
theorem conv_u8_i64 (a : Int) (n : Nat) (h : a = (n : Int)) (hn : n ≤ 255) (w : World) : (convert 5 3 (.int .u8 a)).run Try.prog w = .ok (.int .i64 (n : Int)) w := by
  have e : IntKind.i64.wrap a = (n : Int) := by rw [IntKind.wrap_i64]; omega
  rw [run_convert_int w 5 3 .u8 _ (by kernel_rfl) (by kernel_rfl), show Try.prog.intKind 3 = .i64 by kernel_rfl, e]
set_option maxRecDepth 100000 in
theorem closR_any (c g b : Nat) (s : ByteArray) (w : World) (hc : c < 256) (hs : s.size ≤ 9223372036854775807) (h0 : s.size ≠ 0) (h : Cur w b s 1 false) (hg : Blk w g 67 #[.pointer (some ⟨b, 0, none⟩)]) :
    Calls Try.prog 40 #[.int .u8 (c : Int), .pointer (some ⟨g, 0, none⟩)] w fun e w' => ∃ f n k br, e = .returned (.agg (rsv ((f : Nat) : Int) ((n : Nat) : Int))) ∧ Moved w w' b s k br ∧ Fin 2 s k br ∧ (fit 2 s.size = 0 → f = c % 16 ∧ n = byteAt s 1) := by
  obtain ⟨f, hf⟩ : ∃ f, f = c % 16 := ⟨_, rfl⟩
  have hm : (c : Int) % 16 = (f : Int) := by omega
  have hf2 : f < 16 := by omega
  obtain ⟨p, hp⟩ : ∃ p, p = posO s 1 false (1 : Nat) := ⟨_, rfl⟩
  obtain ⟨q, hq⟩ : ∃ q, q = brO s 1 false (1 : Nat) := ⟨_, rfl⟩
  obtain ⟨n, hn⟩ : ∃ n, n = numO s 1 false 1 := ⟨_, rfl⟩
  have hn2 : n ≤ 255 := by rw [hn]; exact numO_le_1 s 1 false
  have H1 := Lib.hid (fun w1 (h1 : Cur w1 b s 1 false) => U8_any b s 1 false w1 hs (by omega) h1)
  have HF := Lib.hid (fin_two s h0)
  have HG := Lib.hid (got_two s)
  rw [← hn, ← hp, ← hq] at H1
  rw [← hp, ← hq] at HF
  rw [← hn] at HG
  have cg := (hg.alloc (.cells (rsv 0 0) 26)).cell 0
  simp only [List.getElem?_toArray, List.getElem?_cons_zero] at cg
  obtain ⟨w0, hw0⟩ : ∃ w0, w0 = w.alloc (.cells (rsv 0 0) 26) := ⟨_, rfl⟩
  have HZ := Lib.hid (show Blk w0 w.heap.size 26 (rsv 0 0) by rw [hw0]; exact Blk.new _ _ _)
  have HM := Lib.hid (show Moved w w0 b s 1 false by rw [hw0]; exact ⟨only_alloc (.refl _ _) _, Blk.alloc h _⟩)
  have HN := Lib.hid (show b ≠ w.heap.size from Nat.ne_of_lt (Blk.lt h))
  have HF3 := Lib.hid hf
  have HN2 := Lib.hid hn2
  have hcv := fun W => conv_u8_i64 ((c : Int) % 16) f hm (by omega) W
  have hcn := fun W => conv_u8_i64 (n : Int) n rfl hn2 W
  have HW := Lib.hid hw0
  clear h hg hp hq hn hs hw0 hm hf2 hf
  go_enter Try.func40, Try.ntmps40
  go_wp2_with fail
  rw [← HW.out]
  refine (H1.out _ HM.out.2).mono ?_
  rintro e w1 ⟨rfl, m1⟩
  have HM1 := Lib.hid (HM.out.trans m1)
  have HZ1 := Lib.hid (HZ.out.grown m1.1 (by intro e; injection e with e; exact HN.out e.symm))
  clear m1 cg
  go_wp2_with (refine wpList_store_row rfl 26 _ _ rfl w.heap.size (rsv (f : Int) (n : Int)) rfl rfl 26 (rsv 0 0) ?_ rs_size rfl (rs_one _ _) ?_; exact HZ1.out)
  exact bodyPost_ret (results_row1 (p := 3) rfl _ _ w.heap.size 26 (rsv (f : Int) (n : Int)) (0, 0) _ (by kernel_rfl) (setRow_heap _ _ _ _ _ _ HZ1.out) Try.underlying26 rfl rs_size) rfl ⟨f, n, p, q, rfl, moved_row HM1.out _ (Nat.le_refl _) HN.out _, HF.out, fun h => ⟨HF3.out, HG.out h⟩⟩
end Go.Proofs.Ytbimdlcgjpeheaa
