/-
  What Digest and Sum answer, by their walks: the text's digest.
-/
import Derived.Test.YtcbakfnpbhgjoaaDoorShaWrite
namespace Go.Proofs.YtcbakfnpbhgjoaaDoor
open Go.ChangeShapes Go.WideShapes Go.ChangeAt Go.RowKit
set_option linter.unusedVariables false

theorem zeros32 : (#[.int .u8 0, .int .u8 0, .int .u8 0, .int .u8 0, .int .u8 0, .int .u8 0, .int .u8 0, .int .u8 0, .int .u8 0, .int .u8 0, .int .u8 0, .int .u8 0, .int .u8 0, .int .u8 0, .int .u8 0, .int .u8 0, .int .u8 0, .int .u8 0, .int .u8 0, .int .u8 0, .int .u8 0, .int .u8 0, .int .u8 0, .int .u8 0, .int .u8 0, .int .u8 0, .int .u8 0, .int .u8 0, .int .u8 0, .int .u8 0, .int .u8 0, .int .u8 0] : Array Value) = byv (List.replicate 32 0) := rfl
theorem hcs_one (s : Ws) (rest : List UInt8) (n : Nat) : (hcs s rest n).all (·.oneCell') = true := by
  rw [Array.all_eq_true_iff_forall_mem]
  intro v hv
  simp only [hcs, List.mem_toArray, List.mem_append] at hv
  rcases hv with (hv | hv) | hv
  · exact (Array.all_eq_true_iff_forall_mem.1 (wsv_one _)) v (by simpa using hv)
  · exact (Array.all_eq_true_iff_forall_mem.1 (byv_one _)) v (by simpa using hv)
  · simp only [List.mem_singleton] at hv; subst hv; rfl
theorem digest_zero (w : World) : (zeroValue 32).run Tryd.prog w = .ok (.agg (byv (List.replicate 32 0))) w := by kernel_rfl

set_option maxHeartbeats 1000000 in
set_option maxRecDepth 100000 in
theorem Digest_any (g : Nat) (l : List UInt8) (w : World) (ht : Tbl w) (hz : l.length < 1152921504606846000) (h : Hsh w g l) :
    Calls Tryd.prog 47 #[.pointer (some ⟨g, 0, none⟩)] w fun e w' => e = .returned (.agg (byv (digest l))) ∧ Below w.heap.size w w' := by
  obtain ⟨rest, hl, hr, hb⟩ := id h
  have h1 := ht.lt
  have hg := h.lt
  obtain ⟨cs, hcs'⟩ : ∃ cs, cs = hcs (blks (l.length / 64) ws0 l) rest l.length := ⟨_, rfl⟩
  have HZ := Lib.hid (show (Tryd.prog.info? 97).map (·.size) = some cs.size by rw [hcs', hcs_size, hl]; exact hash_size)
  have H1 := Lib.hid (show cs.all (·.oneCell') = true by rw [hcs']; exact hcs_one _ _ _)
  rw [← hcs'] at hb
  obtain ⟨z32, hz32⟩ : ∃ z32, z32 = byv (List.replicate 32 0) := ⟨_, rfl⟩
  obtain ⟨zs, hzs⟩ : ∃ zs, zs = hzero := ⟨_, rfl⟩
  have HZO := Lib.hid (show zs.size = cs.size by rw [hzs, hcs', hcs_size, hcs_size, hl]; rfl)
  -- the result's place, the copy
  obtain ⟨W1, hW1⟩ : ∃ W1, W1 = w.alloc (.cells z32 32) := ⟨_, rfl⟩
  have s1 : W1.heap.size = w.heap.size + 1 := by rw [hW1, World.size_alloc]
  have b1 : Below w.heap.size w W1 := by rw [hW1]; exact (Below.refl _ w).alloc (Nat.le_refl _) _
  have r1 : Blk W1 w.heap.size 32 z32 := by rw [hW1]; exact Blk.new _ _ _
  have c1 : W1.cell? ⟨g, 72, none⟩ = some (.int .u64 (l.length : Int)) := by rw [(hb.below b1 hg).cell 72, hcs']; exact hcs_cell _ rest _ hl
  obtain ⟨W2, hW2⟩ : ∃ W2, W2 = (W1.alloc (.cells zs 97)).setRow (w.heap.size + 1) cs := ⟨_, rfl⟩
  have n2 : Blk (W1.alloc (.cells zs 97)) (w.heap.size + 1) 97 zs := by have := Blk.new W1 97 zs; rwa [s1] at this
  have h2 : Hsh W2 (w.heap.size + 1) l := by
    refine ⟨rest, hl, hr, ?_⟩
    rw [← hcs', hW2]
    exact setRow_heap _ _ _ _ _ _ n2
  have b2 : Below (w.heap.size + 1) W1 W2 := by rw [hW2, ← s1]; exact below_setRow ((Below.refl _ W1).alloc (Nat.le_refl _) _) (by omega) cs
  have HB1 := Lib.hid (hb.below b1 hg)
  have HN2 := Lib.hid n2
  have HH2 := Lib.hid h2
  have HR2 := Lib.hid (r1.below b2 (by omega))
  have HB2 := Lib.hid (b1.trans (b2.mono (by omega)))
  have HT2 := Lib.hid ((ht.below b1).under b2 (by omega))
  have HC2 := Lib.hid ((hb.below b1 hg).below b2 (by omega))
  have c2 : W2.cell? ⟨g, 72, none⟩ = some (.int .u64 (l.length : Int)) := by rw [HC2.out.cell 72, hcs']; exact hcs_cell _ rest _ hl
  have HCS := Lib.hid hcs'
  have hdz := digest_zero
  have hhz := hash_zero
  rw [← hz32] at hdz
  rw [← hzs] at hhz
  have HZ32 := Lib.hid hz32
  clear hcs' hb ht h hz32 hzs r1 c1 n2 h2 b1 b2
  subst hW1
  rw [hW2] at c2
  have HW2 := Lib.hid hW2
  have HS1 := Lib.hid s1
  clear hW2 s1
  go_enter Tryd.func47, Tryd.ntmps47
  go_wp2_with (first
    | refine wpList_load_row rfl 97 (.tmp 8) rfl g rfl 97 cs (0, 0) _ HB1.out Tryd.underlying97 rfl HZ.out ?_
    | refine wpList_store_row rfl 97 (.tmp 3) (.tmp 9) rfl (w.heap.size + 1) cs rfl rfl 97 zs HN2.out HZ.out HZO.out H1.out ?_)
  rw [← HW2.out]
  clear c2 HW2 HB1 HN2 HS1
  refine (padding_any l.length W2 (by omega)).mono ?_
  rintro e W3 ⟨rfl, b3⟩
  have hW2s := HH2.out.lt
  have h3 := HH2.out.below b3 hW2s
  have t3 := HT2.out.below b3
  have HB3 := Lib.hid (HB2.out.trans (b3.mono (by omega)))
  have HR3 := Lib.hid (HR2.out.below b3 HR2.out.lt)
  obtain ⟨P, hP⟩ : ∃ P, P = txt (pads l.length) := ⟨_, rfl⟩
  rw [← hP]
  have hPd : P.data.toList = pads l.length := by rw [hP]
  have HWR := Lib.hid (Write_any (w.heap.size + 1) l P W3 (by omega) (by rw [← len_data, hPd, pads_length]; unfold zrs; omega) t3 h3)
  rw [hPd] at HWR
  have HT3 := Lib.hid t3
  clear b3 h3 t3 hW2s HH2 HT2 HB2 HR2 HC2 hP hPd
  go_wp2_with fail
  refine HWR.out.mono ?_
  rintro e W4 ⟨rfl, h4, g4⟩
  obtain ⟨rest4, hl4, _, hb4⟩ := h4
  have hpd : (l ++ pads l.length) = padded l := rfl
  rw [hpd] at hb4
  obtain ⟨S4, hS4⟩ : ∃ S4, S4 = blks ((padded l).length / 64) ws0 (padded l) := ⟨_, rfl⟩
  obtain ⟨row4, hrow4⟩ : ∃ row4, row4 = hcs S4 rest4 (padded l).length := ⟨_, rfl⟩
  rw [← hS4, ← hrow4] at hb4
  have HB4 := Lib.hid hb4
  have HE4 := Lib.hid hrow4
  have HS4 := Lib.hid hS4
  have HL4 := Lib.hid (HB3.out.trans (below_of_only g4 (by omega) (by have := HB3.out.size; omega)))
  have HR4 := Lib.hid (HR3.out.grown g4 (by simp))
  clear hb4 hrow4 hS4 hl4 hpd g4 HB3 HR3 HWR HT3
  go_wp2_with (refine wpList_part rfl 93 (.tmp 16) rfl (w.heap.size + 1) 0 rfl 97 row4 (wsv S4) _ HB4.out (fun j hj => by rw [HE4.out]; exact hcs_words S4 rest4 _ j hj) eight_under rfl eight_size ?_)
  refine (inBytes_any S4 W4 (by rw [HS4.out]; exact blks_ok _ ws0_ok _)).mono ?_
  rintro e W5 ⟨rfl, b5⟩
  have HR5 := Lib.hid (HR4.out.below b5 HR4.out.lt)
  have HL5 := Lib.hid (HL4.out.trans (b5.mono HL4.out.size))
  obtain ⟨D, hD⟩ : ∃ D, D = byv (dgb S4) := ⟨_, rfl⟩
  have HDZ := Lib.hid (show (Tryd.prog.info? 32).map (·.size) = some D.size by rw [hD, byv_size, dgb_length]; exact digest_size)
  have HDO := Lib.hid (show z32.size = D.size by rw [hD, HZ32.out, byv_size, byv_size, dgb_length]; rfl)
  have HD1 := Lib.hid (show D.all (·.oneCell') = true by rw [hD]; exact byv_one _)
  have HRW := Lib.hid (show Blk (W5.setRow w.heap.size D) w.heap.size 32 D from setRow_heap _ _ _ _ _ _ HR5.out)
  have HBW := Lib.hid (below_setRow HL5.out (Nat.le_refl _) D)
  rw [← hD]
  have HDE := Lib.hid hD
  clear b5 hD HR4 HL4 HB4
  go_wp2_with (refine wpList_store_row rfl 32 (.tmp 2) (.tmp 18) rfl w.heap.size D rfl rfl 32 z32 HR5.out HDZ.out HDO.out HD1.out ?_)
  refine bodyPost_ret (results_cell_row rfl _ _ w.heap.size 32 D (0, 0) _ rfl HRW.out digest_under rfl HDZ.out) rfl ⟨?_, HBW.out⟩
  rw [HDE.out, HS4.out]; rfl

set_option maxRecDepth 100000 in
theorem Digest_nil (w : World) :
    Calls Tryd.prog 47 #[.pointer none] w fun e w' => e = .returned (.agg (byv (List.replicate 32 0))) ∧ Below w.heap.size w w' := by
  obtain ⟨z32, hz32⟩ : ∃ z32, z32 = byv (List.replicate 32 0) := ⟨_, rfl⟩
  have hdz := digest_zero
  rw [← hz32] at hdz ⊢
  have HDZ := Lib.hid (show (Tryd.prog.info? 32).map (·.size) = some z32.size by rw [hz32, byv_size]; exact digest_size)
  have HD1 := Lib.hid (show z32.all (·.oneCell') = true by rw [hz32]; exact byv_one _)
  have HR := Lib.hid (Blk.new w 32 z32)
  have HRW := Lib.hid (show Blk ((w.alloc (.cells z32 32)).setRow w.heap.size z32) w.heap.size 32 z32 from setRow_heap _ _ _ _ _ _ (Blk.new w 32 z32))
  have HBW := Lib.hid (below_setRow ((Below.refl w.heap.size w).alloc (Nat.le_refl _) (.cells z32 32)) (Nat.le_refl _) z32)
  have HZ := Lib.hid hz32
  clear hz32
  go_enter Tryd.func47, Tryd.ntmps47
  go_wp2_with (first
    | (refine wpList_yields rfl (.build 32 #[]) rfl (.agg z32) ?_ ?_; rw [HZ.out]; kernel_rfl)
    | refine wpList_store_row rfl 32 (.tmp 2) (.tmp 6) rfl w.heap.size z32 rfl rfl 32 z32 HR.out HDZ.out rfl HD1.out ?_)
  refine bodyPost_ret (results_cell_row rfl _ _ w.heap.size 32 z32 (0, 0) _ rfl HRW.out digest_under rfl HDZ.out) rfl ⟨rfl, HBW.out⟩

set_option maxRecDepth 100000 in
/-- The digest of a text. -/
theorem Sum_any (s : ByteArray) (w : World) (ht : Tbl w) (hz : s.size < 1152921504606846000) :
    Calls Tryd.prog 23 #[.string s] w fun e w' => e = .returned (.agg (byv (digest s.data.toList))) ∧ Below w.heap.size w w' := by
  obtain ⟨z32, hz32⟩ : ∃ z32, z32 = byv (List.replicate 32 0) := ⟨_, rfl⟩
  have hdz := digest_zero
  rw [← hz32] at hdz
  have HZE := Lib.hid hz32
  have h1 := ht.lt
  have HT1 := Lib.hid (ht.alloc (.cells z32 32))
  have HR1 := Lib.hid (Blk.new w 32 z32)
  have HB1 := Lib.hid ((Below.refl w.heap.size w).alloc (Nat.le_refl _) (.cells z32 32))
  clear hz32 ht
  go_enter Tryd.func23, Tryd.ntmps23
  go_wp2_with fail
  refine (New_any _ HT1.out).mono ?_
  rintro e W2 ⟨rfl, h2, b2⟩
  have s1 : (w.alloc (.cells z32 32)).heap.size = w.heap.size + 1 := World.size_alloc _ _
  rw [s1] at h2 b2 ⊢
  have HT2 := Lib.hid (HT1.out.under b2 (by omega))
  have HR2 := Lib.hid (HR1.out.below b2 (by omega))
  have HB2 := Lib.hid (HB1.out.trans (b2.mono (by omega)))
  have HH2 := Lib.hid h2
  clear HT1 HR1 HB1 h2 b2 s1
  go_wp2_with fail
  refine (Write_any (w.heap.size + 1) [] s W2 (by omega) (by simpa using (by omega : s.size < 1152921504606846976)) HT2.out HH2.out).mono ?_
  rintro e W3 ⟨rfl, h3, g3⟩
  rw [List.nil_append] at h3
  have HT3 := Lib.hid (HT2.out.grown g3 (by omega))
  have HR3 := Lib.hid (HR2.out.grown g3 (by simp))
  have HB3 := Lib.hid (HB2.out.trans (below_of_only g3 (by omega) (by have := HB2.out.size; omega)))
  have HH3 := Lib.hid h3
  clear HT2 HR2 HB2 HH2 h3 g3
  go_wp2_with fail
  refine (Digest_any (w.heap.size + 1) s.data.toList W3 HT3.out (by rw [len_data]; exact hz) HH3.out).mono ?_
  rintro e W4 ⟨rfl, b4⟩
  have HR4 := Lib.hid (HR3.out.below b4 HR3.out.lt)
  have HB4 := Lib.hid (HB3.out.trans (b4.mono HB3.out.size))
  obtain ⟨D, hD⟩ : ∃ D, D = byv (digest s.data.toList) := ⟨_, rfl⟩
  have HDZ := Lib.hid (show (Tryd.prog.info? 32).map (·.size) = some D.size by rw [hD, byv_size, digest_length]; exact digest_size)
  have HDO := Lib.hid (show z32.size = D.size by rw [hD, HZE.out, byv_size, byv_size, digest_length]; rfl)
  have HD1 := Lib.hid (show D.all (·.oneCell') = true by rw [hD]; exact byv_one _)
  have HRW := Lib.hid (show Blk (W4.setRow w.heap.size D) w.heap.size 32 D from setRow_heap _ _ _ _ _ _ HR4.out)
  have HBW := Lib.hid (below_setRow HB4.out (Nat.le_refl _) D)
  have HDE := Lib.hid hD
  rw [← hD]
  clear b4 hD HR3 HB3 HT3 HH3
  go_wp2_with (refine wpList_store_row rfl 32 (.tmp 2) (.tmp 9) rfl w.heap.size D rfl rfl 32 z32 HR4.out HDZ.out HDO.out HD1.out ?_)
  refine bodyPost_ret (results_cell_row rfl _ _ w.heap.size 32 D (0, 0) _ rfl HRW.out digest_under rfl HDZ.out) rfl ⟨by rw [HDE.out], HBW.out⟩

/-- The same two, their answers under a letter. -/
theorem DigestL (g : Nat) (l : List UInt8) (D : Array Value) (w : World) (hD : D = byv (digest l)) (ht : Tbl w) (hz : l.length < 1152921504606846000) (h : Hsh w g l) :
    Calls Tryd.prog 47 #[.pointer (some ⟨g, 0, none⟩)] w fun e w' => e = .returned (.agg D) ∧ Below w.heap.size w w' := by subst hD; exact Digest_any g l w ht hz h
theorem SumL (s : ByteArray) (l : List UInt8) (D : Array Value) (w : World) (hs : s.data.toList = l) (hD : D = byv (digest l)) (ht : Tbl w) (hz : l.length < 1152921504606846000) :
    Calls Tryd.prog 23 #[.string s] w fun e w' => e = .returned (.agg D) ∧ Below w.heap.size w w' := by subst hD hs; exact Sum_any s w ht (by rwa [len_data] at hz)
end Go.Proofs.YtcbakfnpbhgjoaaDoor
