/-
  The document's own Parse (plaitref05), of any bytes.
-/
import Derived.Test.YthdcjcdgddejbaaDoorHeadRefs
import Derived.StillTailTactics
namespace Go.Proofs.YthdcjcdgddejbaaDoor
open Go.ChangeShapes Go.WideShapes Go.ChangeAt Go.RowKit
set_option linter.unusedVariables false

theorem fld_at (s : ByteArray) (k : Nat) (h : k < s.size) : fld s.data.toList k 1 = s[k].toNat := by
  rw [fld_one s.data.toList k (by rw [len_data]; exact h)]; rfl

set_option maxHeartbeats 4000000 in
set_option maxRecDepth 100000 in
theorem ParseR_bad (s : ByteArray) (w : World) (hb : s.size ≤ 4611686018427387904) (c : Int) (hc : code s.data.toList = c) (h0 : c ≠ 0) (h10 : c ≠ 10) :
    Calls Tryd.prog 15 #[.string s] w fun e w' => e = .returned (parseV s.data.toList) ∧ Below w.heap.size w w' := by
  rw [parseV_f _ c hc h0]
  unfold code at hc
  rw [len_data] at hc
  by_cases a0 : s.size < 20
  · rw [if_pos a0] at hc
    subst hc
    have d0 : decide ((s.size : Int) < 20) = true := by simp; omega
    clear h0 h10
    go_enter Tryd.func15, Tryd.ntmps15
    go_wp2_with (refine wpList_store_row rfl 25 _ _ rfl w.heap.size (segv Sg.zero) rfl rfl 25 _ (heap_alloc_new w _) seg_size rfl (segv_one _) ?_)
    rw [World.setRow_alloc_new]
    refine bodyPost_ret (results_row_tmp rfl _ _ w.heap.size 25 (segv Sg.zero) (0, 0) _ rfl (heap_alloc_new w _) Tryd.underlying25 rfl seg_size) rfl ⟨rfl, (Below.refl _ w).alloc (Nat.le_refl _) _⟩
  rw [if_neg a0] at hc
  have d0 : decide ((s.size : Int) < 20) = false := by simp; omega
  have i12 : 12 < s.size := by omega
  have i13 : 13 < s.size := by omega
  have i18 : 18 < s.size := by omega
  have i19 : 19 < s.size := by omega
  have j12 : (12 : Int) < (s.size : Int) := by omega
  have j13 : (13 : Int) < (s.size : Int) := by omega
  have j18 : (18 : Int) < (s.size : Int) := by omega
  have j19 : (19 : Int) < (s.size : Int) := by omega
  rw [fld_at s 12 i12, fld_at s 13 i13, fld_at s 18 i18, fld_at s 19 i19] at hc
  obtain ⟨u, hu⟩ : ∃ u, s[12].toNat = u := ⟨_, rfl⟩
  obtain ⟨f, hf⟩ : ∃ f, s[13].toNat = f := ⟨_, rfl⟩
  obtain ⟨p, hp⟩ : ∃ p, s[18].toNat = p := ⟨_, rfl⟩
  obtain ⟨q, hq⟩ : ∃ q, s[19].toNat = q := ⟨_, rfl⟩
  rw [hu, hf, hp, hq] at hc
  have u1 : u < 256 := by rw [← hu]; exact s[12].toNat_lt
  have f1 : f < 256 := by rw [← hf]; exact s[13].toNat_lt
  by_cases a1 : u < 80
  · rw [if_pos (.inl a1)] at hc
    subst hc
    have d1 : decide ((u : Int) < 80) = true := by simp; omega
    clear h0 h10 a0 a1
    go_enter Tryd.func15, Tryd.ntmps15
    go_wp2_with (refine wpList_store_row rfl 25 _ _ rfl w.heap.size (segv Sg.zero) rfl rfl 25 _ (heap_alloc_new w _) seg_size rfl (segv_one _) ?_)
    rw [World.setRow_alloc_new]
    refine bodyPost_ret (results_row_tmp rfl _ _ w.heap.size 25 (segv Sg.zero) (0, 0) _ rfl (heap_alloc_new w _) Tryd.underlying25 rfl seg_size) rfl ⟨rfl, (Below.refl _ w).alloc (Nat.le_refl _) _⟩
  have d1 : decide ((u : Int) < 80) = false := by simp; omega
  by_cases a2 : u % 16 ≠ 0
  · rw [if_pos (.inr a2)] at hc
    subst hc
    have d2 : ((u : Int) % 16 != 0) = true := by simp; omega
    clear h0 h10 a0 a1 a2
    go_enter Tryd.func15, Tryd.ntmps15
    go_wp2_with (refine wpList_store_row rfl 25 _ _ rfl w.heap.size (segv Sg.zero) rfl rfl 25 _ (heap_alloc_new w _) seg_size rfl (segv_one _) ?_)
    rw [World.setRow_alloc_new]
    refine bodyPost_ret (results_row_tmp rfl _ _ w.heap.size 25 (segv Sg.zero) (0, 0) _ rfl (heap_alloc_new w _) Tryd.underlying25 rfl seg_size) rfl ⟨rfl, (Below.refl _ w).alloc (Nat.le_refl _) _⟩
  have d2 : ((u : Int) % 16 != 0) = false := by simp; omega
  rw [if_neg (by omega)] at hc
  by_cases a3 : s.size < u / 4
  · rw [if_pos a3] at hc
    subst hc
    have d3 : decide ((s.size : Int) < (u : Int) / 4) = true := by simp; omega
    clear h0 h10 a0 a1 a2 a3
    go_enter Tryd.func15, Tryd.ntmps15
    go_wp2_with (refine wpList_store_row rfl 25 _ _ rfl w.heap.size (segv Sg.zero) rfl rfl 25 _ (heap_alloc_new w _) seg_size rfl (segv_one _) ?_)
    rw [World.setRow_alloc_new]
    refine bodyPost_ret (results_row_tmp rfl _ _ w.heap.size 25 (segv Sg.zero) (0, 0) _ rfl (heap_alloc_new w _) Tryd.underlying25 rfl seg_size) rfl ⟨rfl, (Below.refl _ w).alloc (Nat.le_refl _) _⟩
  have d3 : decide ((s.size : Int) < (u : Int) / 4) = false := by simp; omega
  rw [if_neg a3] at hc
  by_cases b1 : f / 32 ≠ 0
  · rw [if_pos (.inl b1)] at hc
    subst hc
    have d4 : ((f : Int) / 32 != 0) = true := by simp; omega
    clear h0 h10 a0 a1 a2 a3 b1
    go_enter Tryd.func15, Tryd.ntmps15
    go_wp2_with (refine wpList_store_row rfl 25 _ _ rfl w.heap.size (segv Sg.zero) rfl rfl 25 _ (heap_alloc_new w _) seg_size rfl (segv_one _) ?_)
    rw [World.setRow_alloc_new]
    refine bodyPost_ret (results_row_tmp rfl _ _ w.heap.size 25 (segv Sg.zero) (0, 0) _ rfl (heap_alloc_new w _) Tryd.underlying25 rfl seg_size) rfl ⟨rfl, (Below.refl _ w).alloc (Nat.le_refl _) _⟩
  have d4 : ((f : Int) / 32 != 0) = false := by simp; omega
  by_cases b2 : f / 8 % 2 ≠ 0
  · rw [if_pos (.inr (.inl b2))] at hc
    subst hc
    have d5 : ((f : Int) / 8 % 2 != 0) = true := by simp; omega
    clear h0 h10 a0 a1 a2 a3 b1 b2
    go_enter Tryd.func15, Tryd.ntmps15
    go_wp2_with (refine wpList_store_row rfl 25 _ _ rfl w.heap.size (segv Sg.zero) rfl rfl 25 _ (heap_alloc_new w _) seg_size rfl (segv_one _) ?_)
    rw [World.setRow_alloc_new]
    refine bodyPost_ret (results_row_tmp rfl _ _ w.heap.size 25 (segv Sg.zero) (0, 0) _ rfl (heap_alloc_new w _) Tryd.underlying25 rfl seg_size) rfl ⟨rfl, (Below.refl _ w).alloc (Nat.le_refl _) _⟩
  have d5 : ((f : Int) / 8 % 2 != 0) = false := by simp; omega
  by_cases b3 : p ≠ 0
  · rw [if_pos (.inr (.inr (.inl b3)))] at hc
    subst hc
    have d6 : ((p : Int) != 0) = true := by simp; omega
    clear h0 h10 a0 a1 a2 a3 b1 b2 b3
    go_enter Tryd.func15, Tryd.ntmps15
    go_wp2_with (refine wpList_store_row rfl 25 _ _ rfl w.heap.size (segv Sg.zero) rfl rfl 25 _ (heap_alloc_new w _) seg_size rfl (segv_one _) ?_)
    rw [World.setRow_alloc_new]
    refine bodyPost_ret (results_row_tmp rfl _ _ w.heap.size 25 (segv Sg.zero) (0, 0) _ rfl (heap_alloc_new w _) Tryd.underlying25 rfl seg_size) rfl ⟨rfl, (Below.refl _ w).alloc (Nat.le_refl _) _⟩
  have d6 : ((p : Int) != 0) = false := by simp; omega
  by_cases b4 : q ≠ 0
  · rw [if_pos (.inr (.inr (.inr b4)))] at hc
    subst hc
    have d7 : ((q : Int) != 0) = true := by simp; omega
    clear h0 h10 a0 a1 a2 a3 b1 b2 b3 b4
    go_enter Tryd.func15, Tryd.ntmps15
    go_wp2_with (refine wpList_store_row rfl 25 _ _ rfl w.heap.size (segv Sg.zero) rfl rfl 25 _ (heap_alloc_new w _) seg_size rfl (segv_one _) ?_)
    rw [World.setRow_alloc_new]
    refine bodyPost_ret (results_row_tmp rfl _ _ w.heap.size 25 (segv Sg.zero) (0, 0) _ rfl (heap_alloc_new w _) Tryd.underlying25 rfl seg_size) rfl ⟨rfl, (Below.refl _ w).alloc (Nat.le_refl _) _⟩
  have d7 : ((q : Int) != 0) = false := by simp; omega
  rw [if_neg (by omega)] at hc
  have ew : IntKind.i64.wrap ((s.size : Int) - (u : Int) / 4) = (s.size : Int) - (u : Int) / 4 := IntWalk.i64_in _ (by omega)
  by_cases a5 : s.size - u / 4 > 1024
  · rw [if_pos a5] at hc
    subst hc
    have d8 : decide ((1024 : Int) < (s.size : Int) - (u : Int) / 4) = true := by simp; omega
    clear h0 h10 a0 a1 a2 a3 b1 b2 b3 b4 a5
    go_enter Tryd.func15, Tryd.ntmps15
    go_wp2_with (refine wpList_store_row rfl 25 _ _ rfl w.heap.size (segv Sg.zero) rfl rfl 25 _ (heap_alloc_new w _) seg_size rfl (segv_one _) ?_)
    rw [World.setRow_alloc_new]
    refine bodyPost_ret (results_row_tmp rfl _ _ w.heap.size 25 (segv Sg.zero) (0, 0) _ rfl (heap_alloc_new w _) Tryd.underlying25 rfl seg_size) rfl ⟨rfl, (Below.refl _ w).alloc (Nat.le_refl _) _⟩
  rw [if_neg a5] at hc
  by_cases a6 : fold (tot s.data.toList) ≠ 65535
  · rw [if_pos a6] at hc; exact absurd hc.symm h10
  · rw [if_neg a6] at hc; exact absurd hc.symm h0

theorem code_late (q : List UInt8) (h : code q = 10 ∨ code q = 0) : 20 ≤ q.length ∧ 80 ≤ fld q 12 1 ∧ fld q 12 1 % 16 = 0 ∧ fld q 12 1 / 4 ≤ q.length ∧ fld q 13 1 / 32 = 0 ∧ fld q 13 1 / 8 % 2 = 0 ∧ fld q 18 1 = 0 ∧ fld q 19 1 = 0 ∧ q.length - fld q 12 1 / 4 ≤ 1024 := by
  unfold code at h
  by_cases a0 : q.length < 20
  · rw [if_pos a0] at h; exact absurd h (by decide)
  rw [if_neg a0] at h
  by_cases a1 : fld q 12 1 < 80 ∨ fld q 12 1 % 16 ≠ 0
  · rw [if_pos a1] at h; exact absurd h (by decide)
  rw [if_neg a1] at h
  by_cases a2 : q.length < fld q 12 1 / 4
  · rw [if_pos a2] at h; exact absurd h (by decide)
  rw [if_neg a2] at h
  by_cases a3 : fld q 13 1 / 32 ≠ 0 ∨ fld q 13 1 / 8 % 2 ≠ 0 ∨ fld q 18 1 ≠ 0 ∨ fld q 19 1 ≠ 0
  · rw [if_pos a3] at h; exact absurd h (by decide)
  rw [if_neg a3] at h
  by_cases a4 : q.length - fld q 12 1 / 4 > 1024
  · rw [if_pos a4] at h; exact absurd h (by decide)
  exact ⟨by omega, by omega, by omega, by omega, by omega, by omega, by omega, by omega, by omega⟩

set_option maxHeartbeats 4000000 in
set_option maxRecDepth 100000 in
theorem ParseR_sum (s : ByteArray) (w : World) (hc : code s.data.toList = 10) (hr : fold (tot s.data.toList) ≠ 65535) :
    Calls Tryd.prog 15 #[.string s] w fun e w' => e = .returned (parseV s.data.toList) ∧ Below w.heap.size w w' := by
  rw [parseV_f _ 10 hc (by decide)]
  obtain ⟨g0, g1, g2, g3, g4, g5, g6, g7, g8⟩ := code_late s.data.toList (.inl hc)
  rw [len_data] at g0 g3 g8
  have i12 : 12 < s.size := by omega
  have i13 : 13 < s.size := by omega
  have i18 : 18 < s.size := by omega
  have i19 : 19 < s.size := by omega
  have j12 : (12 : Int) < (s.size : Int) := by omega
  have j13 : (13 : Int) < (s.size : Int) := by omega
  have j18 : (18 : Int) < (s.size : Int) := by omega
  have j19 : (19 : Int) < (s.size : Int) := by omega
  rw [fld_at s 12 i12] at g1 g2 g3 g8
  rw [fld_at s 13 i13] at g4 g5
  rw [fld_at s 18 i18] at g6
  rw [fld_at s 19 i19] at g7
  obtain ⟨u, hu⟩ : ∃ u, s[12].toNat = u := ⟨_, rfl⟩
  obtain ⟨f, hf⟩ : ∃ f, s[13].toNat = f := ⟨_, rfl⟩
  rw [hu] at g1 g2 g3 g8
  rw [hf] at g4 g5
  have u1 : u < 256 := by rw [← hu]; exact s[12].toNat_lt
  have f1 : f < 256 := by rw [← hf]; exact s[13].toNat_lt
  have d0 : decide ((s.size : Int) < 20) = false := by simp; omega
  have d1 : decide ((u : Int) < 80) = false := by simp; omega
  have d2 : ((u : Int) % 16 != 0) = false := by simp; omega
  have d3 : decide ((s.size : Int) < (u : Int) / 4) = false := by simp; omega
  have d4 : ((f : Int) / 32 != 0) = false := by simp; omega
  have d5 : ((f : Int) / 8 % 2 != 0) = false := by simp; omega
  have d8 : decide ((1024 : Int) < (s.size : Int) - (u : Int) / 4) = false := by simp; omega
  have ew : IntKind.i64.wrap ((s.size : Int) - (u : Int) / 4) = (s.size : Int) - (u : Int) / 4 := IntWalk.i64_in _ (by omega)
  have hsz : s.size ≤ 1099511627776 := by omega
  obtain ⟨r, hrr⟩ : ∃ r, fold (tot s.data.toList) = r := ⟨_, rfl⟩
  rw [hrr] at hr
  have dr : (r != 65535) = true := by simpa using hr
  have HRR := Lib.hid hrr
  have HB := Lib.hid (Blk.new w 25 #[.int .i64 0, .int .u16 0, .int .u16 0, .int .u32 0, .int .u32 0, .bool false, .bool false, .bool false, .bool false, .int .u16 0, .string ⟨#[]⟩, .string ⟨#[]⟩])
  have HBB := Lib.hid ((Below.refl _ w).alloc (Nat.le_refl _) (.cells #[.int .i64 0, .int .u16 0, .int .u16 0, .int .u32 0, .int .u32 0, .bool false, .bool false, .bool false, .bool false, .int .u16 0, .string ⟨#[]⟩, .string ⟨#[]⟩] 25))
  clear hc hr hrr g0 g1 g2 g3 g4 g5 g8
  go_enter Tryd.func15, Tryd.ntmps15
  go_wp2_with fail
  refine (Of_ref s _ hsz).mono ?_
  rintro e V1 ⟨rfl, b⟩
  rw [HRR.out]
  have HS1 := Lib.hid (HB.out.below b HB.out.lt)
  have HB1 := Lib.hid (below_then HBB.out b)
  clear b
  go_wp2_with (refine wpList_store_row rfl 25 _ _ rfl w.heap.size (segv Sg.zero) rfl rfl 25 _ HS1.out seg_size rfl (segv_one _) ?_)
  have HSE := Lib.hid (setRow_heap _ w.heap.size _ (segv Sg.zero) _ _ HS1.out)
  have HBE := Lib.hid (below_setRow HB1.out (Nat.le_refl _) (segv Sg.zero))
  refine bodyPost_ret (results_row_tmp rfl _ _ w.heap.size 25 (segv Sg.zero) (0, 0) _ rfl HSE.out Tryd.underlying25 rfl seg_size) rfl ⟨rfl, HBE.out⟩

theorem Num_s (s : ByteArray) (w : World) (hs : s.size ≤ 8) :
    Calls Tryd.prog 31 #[.string s] w fun e w' => e = .returned (.int .u64 (nm s.data.toList : Nat)) ∧ w' = w :=
  (Num_ref s w hs).mono fun _ _ x => ⟨x.1, x.2.symm⟩

end Go.Proofs.YthdcjcdgddejbaaDoor
