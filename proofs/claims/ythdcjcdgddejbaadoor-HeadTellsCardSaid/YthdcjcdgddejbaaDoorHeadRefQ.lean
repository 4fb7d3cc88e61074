/-
  The document's own Parse (plaitref05), of bytes that are a segment, and of any ones.
-/
import Derived.Test.YthdcjcdgddejbaaDoorHeadRefP
namespace Go.Proofs.YthdcjcdgddejbaaDoor
open Go.ChangeShapes Go.WideShapes Go.ChangeAt Go.RowKit
set_option linter.unusedVariables false

theorem and_mods (f : Nat) (h : f ≤ 255) : ((f : Int).tmod 2 == 1) = (f % 2 == 1) ∧ ((IntKind.u8.wrap ((f : Int) / 2)).tmod 2 == 1) = (f / 2 % 2 == 1) ∧ ((IntKind.u8.wrap ((f : Int) / 4)).tmod 2 == 1) = (f / 4 % 2 == 1) ∧ ((IntKind.u8.wrap ((f : Int) / 16)).tmod 2 == 1) = (f / 16 % 2 == 1) := by
  have all : ∀ i : Fin 256, (((i.val : Nat) : Int).tmod 2 == 1) = (i.val % 2 == 1) ∧ ((IntKind.u8.wrap (((i.val : Nat) : Int) / 2)).tmod 2 == 1) = (i.val / 2 % 2 == 1) ∧ ((IntKind.u8.wrap (((i.val : Nat) : Int) / 4)).tmod 2 == 1) = (i.val / 4 % 2 == 1) ∧ ((IntKind.u8.wrap (((i.val : Nat) : Int) / 16)).tmod 2 == 1) = (i.val / 16 % 2 == 1) := by decide +kernel
  exact all ⟨f, by omega⟩
theorem wrap16 (q : List UInt8) (a : Nat) : IntKind.u16.wrap ((fld q a 2 : Nat) : Int) = ((fld q a 2 : Nat) : Int) := by rw [IntKind.wrap_u16]; have := fld2_lt q a; omega
theorem wrap32 (q : List UInt8) (a : Nat) : IntKind.u32.wrap ((fld q a 4 : Nat) : Int) = ((fld q a 4 : Nat) : Int) := by rw [IntKind.wrap_u32]; have := fld4_lt q a; omega

set_option maxHeartbeats 4000000 in
set_option maxRecDepth 100000 in
theorem ParseR_ok (s : ByteArray) (w : World) (hc : code s.data.toList = 0) (hr : fold (tot s.data.toList) = 65535) :
    Calls Tryd.prog 15 #[.string s] w fun e w' => e = .returned (parseV s.data.toList) ∧ Below w.heap.size w w' := by
  rw [parseV_t _ hc]
  obtain ⟨g0, g1, g2, g3, g4, g5, g6, g7, g8⟩ := code_late s.data.toList (.inr hc)
  rw [len_data] at g0 g3 g8
  have i12 : 12 < s.size := by omega
  have i13 : 13 < s.size := by omega
  have i18 : 18 < s.size := by omega
  have i19 : 19 < s.size := by omega
  have j12 : (12 : Int) < (s.size : Int) := by omega
  have j13 : (13 : Int) < (s.size : Int) := by omega
  have j18 : (18 : Int) < (s.size : Int) := by omega
  have j19 : (19 : Int) < (s.size : Int) := by omega
  rw [fld_at s 12 i12] at g1 g2 g3 g8
  rw [fld_at s 13 i13] at g4 g5
  rw [fld_at s 18 i18] at g6
  rw [fld_at s 19 i19] at g7
  obtain ⟨u, hu⟩ : ∃ u, s[12].toNat = u := ⟨_, rfl⟩
  obtain ⟨f, hf⟩ : ∃ f, s[13].toNat = f := ⟨_, rfl⟩
  rw [hu] at g1 g2 g3 g8
  rw [hf] at g4 g5
  have u1 : u < 256 := by rw [← hu]; exact s[12].toNat_lt
  have f1 : f < 256 := by rw [← hf]; exact s[13].toNat_lt
  have d0 : decide ((s.size : Int) < 20) = false := by simp; omega
  have d1 : decide ((u : Int) < 80) = false := by simp; omega
  have d2 : ((u : Int) % 16 != 0) = false := by simp; omega
  have d3 : decide ((s.size : Int) < (u : Int) / 4) = false := by simp; omega
  have d4 : ((f : Int) / 32 != 0) = false := by simp; omega
  have d5 : ((f : Int) / 8 % 2 != 0) = false := by simp; omega
  have d8 : decide ((1024 : Int) < (s.size : Int) - (u : Int) / 4) = false := by simp; omega
  have ew : IntKind.i64.wrap ((s.size : Int) - (u : Int) / 4) = (s.size : Int) - (u : Int) / 4 := IntWalk.i64_in _ (by omega)
  have hsz : s.size ≤ 1099511627776 := by omega
  obtain ⟨n, hn⟩ : ∃ n, n = u / 4 := ⟨_, rfl⟩
  have EUN := Lib.hid (show (u : Int) / 4 = (n : Int) by omega)
  have n0 : (20 : Int) ≤ (n : Int) := by have := EUN.out; omega
  have n1 : (n : Int) ≤ (s.size : Int) := by have := EUN.out; omega
  have n2 : n ≤ s.size := by omega
  have n3 : 20 ≤ n := by omega
  have HRR := Lib.hid hr
  have HB := Lib.hid (Blk.new w 25 #[.int .i64 0, .int .u16 0, .int .u16 0, .int .u32 0, .int .u32 0, .bool false, .bool false, .bool false, .bool false, .int .u16 0, .string ⟨#[]⟩, .string ⟨#[]⟩])
  have HBB := Lib.hid ((Below.refl _ w).alloc (Nat.le_refl _) (.cells #[.int .i64 0, .int .u16 0, .int .u16 0, .int .u32 0, .int .u32 0, .bool false, .bool false, .bool false, .bool false, .int .u16 0, .string ⟨#[]⟩, .string ⟨#[]⟩] 25))
  clear hc hr g1 g2 g3 g4 g5 g8
  go_enter Tryd.func15, Tryd.ntmps15
  go_wp2_with fail
  refine (Of_ref s _ hsz).mono ?_
  rintro e V1 ⟨rfl, b⟩
  rw [HRR.out]
  have HS1 := Lib.hid (HB.out.below b HB.out.lt)
  have HB1 := Lib.hid (below_then HBB.out b)
  clear b
  rw [EUN.out]
  go_wp2
  have HS2 := Lib.hid (show Blk V1.drew w.heap.size 25 #[.int .i64 0, .int .u16 0, .int .u16 0, .int .u32 0, .int .u32 0, .bool false, .bool false, .bool false, .bool false, .int .u16 0, .string ⟨#[]⟩, .string ⟨#[]⟩] from HS1.out.drew)
  have HB2 := Lib.hid HB1.out.drew
  clear ew d0 d1 d2 d3 d4 d5 d8
  have nA : (20 : Int) ≤ (u : Int) / 4 := by have := EUN.out; omega
  have nC : (0 : Int) ≤ (u : Int) / 4 := by omega
  have nB : (u : Int) / 4 ≤ (s.size : Int) := by have := EUN.out; omega
  have k18 : (18 : Int) ≤ (s.size : Int) := by omega
  have k16 : (16 : Int) ≤ (s.size : Int) := by omega
  have k14 : (14 : Int) ≤ (s.size : Int) := by omega
  have k12 : (12 : Int) ≤ (s.size : Int) := by omega
  have k8 : (8 : Int) ≤ (s.size : Int) := by omega
  have k4 : (4 : Int) ≤ (s.size : Int) := by omega
  have k2 : (2 : Int) ≤ (s.size : Int) := by omega
  refine wp_region_still_tail 42 (by kernel_rfl) (by kernel_rfl) ?_
  simp only [List.take_succ_cons, List.take_zero, List.drop_succ_cons, List.drop_zero]
  change wpStill _ _ V1.drew _ _ _
  repeat (first | still_step | still_call (Num_s _ _ (by rw [ByteArray.size_extract]; omega)))
  refine wpStill_nil ?_
  change wpList _ _ _ _ _ V1.drew
  refine wpList_store_row rfl 25 _ _ rfl w.heap.size (segv (segs s.data.toList)) rfl ?_ 25 _ HS2.out seg_size rfl (segv_one _) ?_
  · obtain ⟨q, hq⟩ : ∃ q, q = s.data.toList := ⟨_, rfl⟩
    have hff : fld q 13 1 = f := by rw [hq, fld_at s 13 i13, hf]
    have hnn : n = fld s.data.toList 12 1 / 4 := by rw [fld_at s 12 i12, hu]; exact hn
    have ea : (segs q).area = s.extract 20 n := by rw [hq, segs_hd s n hnn]
    have ed : (segs q).data = s.extract n s.size := by rw [hq, segs_hd s n hnn]
    have en : ((u : Int) / 4).toNat = n := by have := EUN.out; omega
    obtain ⟨f1', f2', f4', f16'⟩ := and_mods f (by omega)
    refine Eq.trans (b := Value.agg #[.int .i64 0, .int .u16 (IntKind.u16.wrap ((fld s.data.toList 0 2 : Nat) : Int)), .int .u16 (IntKind.u16.wrap ((fld s.data.toList 2 2 : Nat) : Int)), .int .u32 (IntKind.u32.wrap ((fld s.data.toList 4 4 : Nat) : Int)), .int .u32 (IntKind.u32.wrap ((fld s.data.toList 8 4 : Nat) : Int)), .bool ((IntKind.u8.wrap ((f : Int) / 2)).tmod 2 == 1), .bool ((IntKind.u8.wrap ((f : Int) / 16)).tmod 2 == 1), .bool ((f : Int).tmod 2 == 1), .bool ((IntKind.u8.wrap ((f : Int) / 4)).tmod 2 == 1), .int .u16 (IntKind.u16.wrap ((fld s.data.toList 14 2 : Nat) : Int)), .string (s.extract 20 ((u : Int) / 4).toNat), .string (s.extract ((u : Int) / 4).toNat s.size)]) rfl ?_
    rw [← hq, wrap16 q 0, wrap16 q 2, wrap32 q 4, wrap32 q 8, wrap16 q 14, f1', f2', f4', f16', en, ← ea, ← ed]
    unfold segv
    show _ = Value.agg #[.int .i64 0, .int .u16 ((fld q 0 2 : Nat) : Int), .int .u16 ((fld q 2 2 : Nat) : Int), .int .u32 ((fld q 4 4 : Nat) : Int), .int .u32 ((fld q 8 4 : Nat) : Int), .bool (fld q 13 1 / 2 % 2 == 1), .bool (fld q 13 1 / 16 % 2 == 1), .bool (fld q 13 1 % 2 == 1), .bool (fld q 13 1 / 4 % 2 == 1), .int .u16 ((fld q 14 2 : Nat) : Int), .string (segs q).area, .string (segs q).data]
    rw [hff]
  have HB3 := Lib.hid (below_setRow HB2.out (Nat.le_refl _) (segv (segs s.data.toList)))
  have HS3 := Lib.hid (setRow_heap _ w.heap.size _ (segv (segs s.data.toList)) _ _ HS2.out)
  clear HS2 HB2 HS1 HB1 HB HBB
  go_wp2
  refine bodyPost_ret (results_row_tmp rfl _ _ w.heap.size 25 (segv (segs s.data.toList)) (0, 0) _ rfl HS3.out Tryd.underlying25 rfl seg_size) rfl ⟨rfl, HB3.out⟩

theorem code_zero_sum {q : List UInt8} (h : code q = 0) : fold (tot q) = 65535 := by
  unfold code at h
  repeat (split at h; first | exact absurd h (by decide) | skip)
  omega
theorem code_ten_sum {q : List UInt8} (h : code q = 10) : fold (tot q) ≠ 65535 := by
  intro k
  unfold code at h
  rw [if_neg (by omega : ¬ fold (tot q) ≠ 65535)] at h
  repeat (split at h; exact absurd h (by decide))
  exact absurd h (by decide)
theorem ParseR_any (s : ByteArray) (w : World) (hb : s.size ≤ 4611686018427387904) :
    Calls Tryd.prog 15 #[.string s] w fun e w' => e = .returned (parseV s.data.toList) ∧ Below w.heap.size w w' := by
  by_cases h0 : code s.data.toList = 0
  · refine ParseR_ok s w h0 ?_
    exact code_zero_sum h0
  by_cases h10 : code s.data.toList = 10
  · refine ParseR_sum s w h10 ?_
    exact code_ten_sum h10
  exact ParseR_bad s w hb _ rfl h0 h10
end Go.Proofs.YthdcjcdgddejbaaDoor
