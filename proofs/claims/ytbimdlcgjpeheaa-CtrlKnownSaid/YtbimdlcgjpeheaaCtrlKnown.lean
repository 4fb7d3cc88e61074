/-
  CtrlKnown returns true. No conditions.
-/
import Derived.Test.YtbimdlcgjpeheaaCtrlWorks
import Derived.WalkKit
import Derived.ProofKit
import Derived.OpenShut
import Derived.ShutString
import Derived.ChangeOld
import Derived.Below
import Derived.SizedLaws
namespace Go.Proofs.Ytbimdlcgjpeheaa.ctrlKnown
open Go.ChangeShapes Go.WideShapes Go.ChangeAt Go.RowKit
open Go.ChangeMaps (open_string shut_string)
set_option linter.unusedVariables false

theorem known_F (s : ByteArray) (hs : s.size ≤ 100) (v : Value) (h : decFV s = v) (w : World) : Ans 19 #[.string s] v w := answer (DecodeFail_any s (by omega) w) h
theorem known_S (s : ByteArray) (hs : s.size ≤ 100) (v : Value) (h : decSV s = v) (w : World) : Ans 20 #[.string s] v w := answer (DecodeFast_any s (by omega) w) h
theorem known_R (s : ByteArray) (hs : s.size ≤ 100) (v : Value) (h : decRV s = v) (w : World) : Ans 21 #[.string s] v w := answer (DecodeRst_any s (by omega) w) h
theorem known_E (f r : Int) (v : Value) (h : encTV f r = v) (w : World) : Ans 14 #[.agg #[.int .i64 f, .int .i64 r]] v w := answer (EncodeRst_any f r w) h
theorem tail_cut (s Z : ByteArray) (h : 1 ≤ s.size) (hZ : s.extract 1 s.size = Z) (w : World) : (Instr.sliceAt 9 (.string s) (some (.int .i64 1)) none none).run Try.prog w = .ok (.string Z) w := by
  subst hZ
  have l2 : (1 : Int) ≤ (s.size : Int) := by omega
  simp [go_sem, l2]
set_option maxHeartbeats 4000000 in
set_option maxRecDepth 100000 in
theorem walk (w : World) : Calls Try.prog 7 #[] w fun e w' => e = .returned (.bool true) ∧ Below w.heap.size w w' := by
  obtain ⟨Z, hZ⟩ : ∃ Z, Z = txt (List.replicate 8 255) := ⟨_, rfl⟩
  obtain ⟨Y, hY⟩ : ∃ Y, Y = txt (List.replicate 7 255) := ⟨_, rfl⟩
  obtain ⟨A, hA⟩ : ∃ A, A = (⟨#[111, 255]⟩ : ByteArray) ++ Z := ⟨_, rfl⟩
  obtain ⟨B, hB⟩ : ∃ B, B = (⟨#[127, 255]⟩ : ByteArray) ++ Z := ⟨_, rfl⟩
  obtain ⟨C, hC⟩ : ∃ C, C = (⟨#[96, 0]⟩ : ByteArray) ++ Y := ⟨_, rfl⟩
  obtain ⟨D, hD⟩ : ∃ D, D = (⟨#[112, 0]⟩ : ByteArray) ++ Z := ⟨_, rfl⟩
  obtain ⟨E, hE⟩ : ∃ E, E = D ++ (⟨#[0]⟩ : ByteArray) := ⟨_, rfl⟩
  have sZ : Z.size = 8 := by rw [hZ, txt_size]; rfl
  have sY : Y.size = 7 := by rw [hY, txt_size]; rfl
  have sA : A.size = 10 := by rw [hA, ByteArray.size_append, sZ]; rfl
  have sB : B.size = 10 := by rw [hB, ByteArray.size_append, sZ]; rfl
  have sC : C.size = 9 := by rw [hC, ByteArray.size_append, sY]; rfl
  have sD : D.size = 10 := by rw [hD, ByteArray.size_append, sZ]; rfl
  have sE : E.size = 11 := by rw [hE, ByteArray.size_append, sD]; rfl
  have k1 := fun W => run_string_add (P := Try.prog) W ⟨#[111, 255]⟩ Z (by decide) (by omega)
  have k2 := fun W => run_string_add (P := Try.prog) W ⟨#[127, 255]⟩ Z (by decide) (by omega)
  have k3 := fun W => run_string_add (P := Try.prog) W ⟨#[96, 0]⟩ Y (by decide) (by omega)
  have k4 := fun W => run_string_add (P := Try.prog) W ⟨#[112, 0]⟩ Z (by decide) (by omega)
  have k5 := fun W => run_string_add (P := Try.prog) W D ⟨#[0]⟩ (by omega) (by decide)
  have k6 := fun W => tail_cut Z Y (by omega) (by rw [hZ, hY]; decide) W
  rw [← hA] at k1
  rw [← hB] at k2
  rw [← hC] at k3
  rw [← hD] at k4
  rw [← hE] at k5
  have K1 := Lib.hid k1
  have K2 := Lib.hid k2
  have K3 := Lib.hid k3
  have K4 := Lib.hid k4
  have K5 := Lib.hid k5
  have K6 := Lib.hid k6
  have HZ := Lib.hid hZ
  have H1 := Lib.hid (known_F A (by omega) (.tuple #[.agg #[.int .u64 18446744073709551615], .int .i64 0]) (by rw [hA, hZ]; kernel_rfl))
  have H2 := Lib.hid (known_S B (by omega) (.tuple #[.agg #[.int .u64 18446744073709551615], .int .i64 0]) (by rw [hB, hZ]; kernel_rfl))
  have H3 := Lib.hid (known_R ⟨#[143, 255]⟩ (by decide) (.tuple #[.agg #[.int .i64 15, .int .i64 255], .int .i64 0]) (by kernel_rfl))
  have H4 := Lib.hid (known_R ⟨#[128]⟩ (by decide) (.tuple #[.agg #[.int .i64 0, .int .i64 0], .int .i64 4]) (by kernel_rfl))
  have H5 := Lib.hid (known_R ⟨#[128, 0, 0]⟩ (by decide) (.tuple #[.agg #[.int .i64 0, .int .i64 0], .int .i64 5]) (by kernel_rfl))
  have H6 := Lib.hid (known_F C (by omega) (.tuple #[.agg #[.int .u64 0], .int .i64 4]) (by rw [hC, hY]; kernel_rfl))
  have H7 := Lib.hid (known_S E (by omega) (.tuple #[.agg #[.int .u64 0], .int .i64 5]) (by rw [hE, hD, hZ]; kernel_rfl))
  have H8 := Lib.hid (known_S ⟨#[]⟩ (by decide) (.tuple #[.agg #[.int .u64 0], .int .i64 4]) (by kernel_rfl))
  have H9 := Lib.hid (known_E (-1) 0 (.tuple #[.string ⟨#[]⟩, .int .i64 2]) (by kernel_rfl))
  have H10 := Lib.hid (known_E 0 256 (.tuple #[.string ⟨#[]⟩, .int .i64 2]) (by kernel_rfl))
  have HE := Lib.hid (fun W => rs_equal 15 255 15 255 true (by decide) W)
  clear hZ hY hA hB hC hD hE sZ sY sA sB sC sD sE k1 k2 k3 k4 k5 k6
  go_enter Try.func7, Try.ntmps7
  go_wp2_with fail
  refine (rep_any 255 8 (by decide) Z HZ.out.symm _ rfl w).mono ?_
  rintro e V0 ⟨rfl, b⟩
  have HB0 := Lib.hid b
  clear b
  have k1 := K1.out
  go_wp2_with fail
  clear k1
  refine (H1.out V0).mono ?_
  rintro e U0 ⟨rfl, b⟩
  obtain ⟨g0, hg⟩ : ∃ g, g = U0.heap.size := ⟨_, rfl⟩
  obtain ⟨V1, hV⟩ : ∃ V, V = U0.alloc (.cells #[.int .u64 18446744073709551615] 32) := ⟨_, rfl⟩
  have HB1 := Lib.hid (show Below w.heap.size w V1 by rw [hV]; exact (HB0.out.trans (b.mono HB0.out.size)).alloc (HB0.out.trans (b.mono HB0.out.size)).size _)
  have G1 := Lib.hid (show Blk V1 g0 32 #[.int .u64 18446744073709551615] by rw [hV, hg]; exact Blk.new _ _ _)
  have HV := Lib.hid hV
  have HGG := Lib.hid hg
  clear b hV hg HB0
  go_upto_region 3 with fail
  rw [← HV.out, ← HGG.out]
  clear HV HGG
  have k2 := K2.out
  go_wp2_with fail
  clear k2
  refine (H2.out V1).mono ?_
  rintro e U1 ⟨rfl, b⟩
  obtain ⟨g1, hg⟩ : ∃ g, g = U1.heap.size := ⟨_, rfl⟩
  obtain ⟨V2, hV⟩ : ∃ V, V = U1.alloc (.cells #[.int .u64 18446744073709551615] 35) := ⟨_, rfl⟩
  have HB2 := Lib.hid (show Below w.heap.size w V2 by rw [hV]; exact (HB1.out.trans (b.mono HB1.out.size)).alloc (HB1.out.trans (b.mono HB1.out.size)).size _)
  have G1 := Lib.hid (show Blk V2 g0 32 #[.int .u64 18446744073709551615] by rw [hV]; exact (G1.out.below b G1.out.lt).alloc _)
  have G2 := Lib.hid (show Blk V2 g1 35 #[.int .u64 18446744073709551615] by rw [hV, hg]; exact Blk.new _ _ _)
  have HV := Lib.hid hV
  have HGG := Lib.hid hg
  clear b hV hg HB1
  go_upto_region 4 with fail
  rw [← HV.out, ← HGG.out]
  clear HV HGG
  go_wp2_with fail
  refine (H3.out V2).mono ?_
  rintro e U2 ⟨rfl, b⟩
  obtain ⟨g2, hg⟩ : ∃ g, g = U2.heap.size := ⟨_, rfl⟩
  obtain ⟨V3, hV⟩ : ∃ V, V = U2.alloc (.cells #[.int .i64 15, .int .i64 255] 26) := ⟨_, rfl⟩
  have HB3 := Lib.hid (show Below w.heap.size w V3 by rw [hV]; exact (HB2.out.trans (b.mono HB2.out.size)).alloc (HB2.out.trans (b.mono HB2.out.size)).size _)
  have G1 := Lib.hid (show Blk V3 g0 32 #[.int .u64 18446744073709551615] by rw [hV]; exact (G1.out.below b G1.out.lt).alloc _)
  have G2 := Lib.hid (show Blk V3 g1 35 #[.int .u64 18446744073709551615] by rw [hV]; exact (G2.out.below b G2.out.lt).alloc _)
  have G3 := Lib.hid (show Blk V3 g2 26 #[.int .i64 15, .int .i64 255] by rw [hV, hg]; exact Blk.new _ _ _)
  have HV := Lib.hid hV
  have HGG := Lib.hid hg
  clear b hV hg HB2
  go_upto_region 5 with fail
  rw [← HV.out, ← HGG.out]
  clear HV HGG
  go_wp2_with fail
  refine (H4.out V3).mono ?_
  rintro e U3 ⟨rfl, b⟩
  obtain ⟨g3, hg⟩ : ∃ g, g = U3.heap.size := ⟨_, rfl⟩
  obtain ⟨V4, hV⟩ : ∃ V, V = U3.alloc (.cells #[.int .i64 0, .int .i64 0] 26) := ⟨_, rfl⟩
  have HB4 := Lib.hid (show Below w.heap.size w V4 by rw [hV]; exact (HB3.out.trans (b.mono HB3.out.size)).alloc (HB3.out.trans (b.mono HB3.out.size)).size _)
  have G1 := Lib.hid (show Blk V4 g0 32 #[.int .u64 18446744073709551615] by rw [hV]; exact (G1.out.below b G1.out.lt).alloc _)
  have G2 := Lib.hid (show Blk V4 g1 35 #[.int .u64 18446744073709551615] by rw [hV]; exact (G2.out.below b G2.out.lt).alloc _)
  have G3 := Lib.hid (show Blk V4 g2 26 #[.int .i64 15, .int .i64 255] by rw [hV]; exact (G3.out.below b G3.out.lt).alloc _)
  have HV := Lib.hid hV
  have HGG := Lib.hid hg
  clear b hV hg HB3
  go_upto_region 6 with fail
  rw [← HV.out, ← HGG.out]
  clear HV HGG
  go_wp2_with fail
  refine (H5.out V4).mono ?_
  rintro e U4 ⟨rfl, b⟩
  obtain ⟨g4, hg⟩ : ∃ g, g = U4.heap.size := ⟨_, rfl⟩
  obtain ⟨V5, hV⟩ : ∃ V, V = U4.alloc (.cells #[.int .i64 0, .int .i64 0] 26) := ⟨_, rfl⟩
  have HB5 := Lib.hid (show Below w.heap.size w V5 by rw [hV]; exact (HB4.out.trans (b.mono HB4.out.size)).alloc (HB4.out.trans (b.mono HB4.out.size)).size _)
  have G1 := Lib.hid (show Blk V5 g0 32 #[.int .u64 18446744073709551615] by rw [hV]; exact (G1.out.below b G1.out.lt).alloc _)
  have G2 := Lib.hid (show Blk V5 g1 35 #[.int .u64 18446744073709551615] by rw [hV]; exact (G2.out.below b G2.out.lt).alloc _)
  have G3 := Lib.hid (show Blk V5 g2 26 #[.int .i64 15, .int .i64 255] by rw [hV]; exact (G3.out.below b G3.out.lt).alloc _)
  have HV := Lib.hid hV
  have HGG := Lib.hid hg
  clear b hV hg HB4
  go_upto_region 7 with fail
  rw [← HV.out, ← HGG.out]
  clear HV HGG
  have k6 := K6.out
  have k3 := K3.out
  go_wp2_with fail
  clear k6 k3
  refine (H6.out V5).mono ?_
  rintro e U5 ⟨rfl, b⟩
  obtain ⟨g5, hg⟩ : ∃ g, g = U5.heap.size := ⟨_, rfl⟩
  obtain ⟨V6, hV⟩ : ∃ V, V = U5.alloc (.cells #[.int .u64 0] 32) := ⟨_, rfl⟩
  have HB6 := Lib.hid (show Below w.heap.size w V6 by rw [hV]; exact (HB5.out.trans (b.mono HB5.out.size)).alloc (HB5.out.trans (b.mono HB5.out.size)).size _)
  have G1 := Lib.hid (show Blk V6 g0 32 #[.int .u64 18446744073709551615] by rw [hV]; exact (G1.out.below b G1.out.lt).alloc _)
  have G2 := Lib.hid (show Blk V6 g1 35 #[.int .u64 18446744073709551615] by rw [hV]; exact (G2.out.below b G2.out.lt).alloc _)
  have G3 := Lib.hid (show Blk V6 g2 26 #[.int .i64 15, .int .i64 255] by rw [hV]; exact (G3.out.below b G3.out.lt).alloc _)
  have HV := Lib.hid hV
  have HGG := Lib.hid hg
  clear b hV hg HB5
  go_upto_region 8 with fail
  rw [← HV.out, ← HGG.out]
  clear HV HGG
  have k4 := K4.out
  have k5 := K5.out
  go_wp2_with fail
  clear k4 k5
  refine (H7.out V6).mono ?_
  rintro e U6 ⟨rfl, b⟩
  obtain ⟨g6, hg⟩ : ∃ g, g = U6.heap.size := ⟨_, rfl⟩
  obtain ⟨V7, hV⟩ : ∃ V, V = U6.alloc (.cells #[.int .u64 0] 35) := ⟨_, rfl⟩
  have HB7 := Lib.hid (show Below w.heap.size w V7 by rw [hV]; exact (HB6.out.trans (b.mono HB6.out.size)).alloc (HB6.out.trans (b.mono HB6.out.size)).size _)
  have G1 := Lib.hid (show Blk V7 g0 32 #[.int .u64 18446744073709551615] by rw [hV]; exact (G1.out.below b G1.out.lt).alloc _)
  have G2 := Lib.hid (show Blk V7 g1 35 #[.int .u64 18446744073709551615] by rw [hV]; exact (G2.out.below b G2.out.lt).alloc _)
  have G3 := Lib.hid (show Blk V7 g2 26 #[.int .i64 15, .int .i64 255] by rw [hV]; exact (G3.out.below b G3.out.lt).alloc _)
  have HV := Lib.hid hV
  have HGG := Lib.hid hg
  clear b hV hg HB6
  go_upto_region 9 with fail
  rw [← HV.out, ← HGG.out]
  clear HV HGG
  go_wp2_with fail
  refine (H8.out V7).mono ?_
  rintro e U7 ⟨rfl, b⟩
  obtain ⟨g7, hg⟩ : ∃ g, g = U7.heap.size := ⟨_, rfl⟩
  obtain ⟨V8, hV⟩ : ∃ V, V = U7.alloc (.cells #[.int .u64 0] 35) := ⟨_, rfl⟩
  have HB8 := Lib.hid (show Below w.heap.size w V8 by rw [hV]; exact (HB7.out.trans (b.mono HB7.out.size)).alloc (HB7.out.trans (b.mono HB7.out.size)).size _)
  have G1 := Lib.hid (show Blk V8 g0 32 #[.int .u64 18446744073709551615] by rw [hV]; exact (G1.out.below b G1.out.lt).alloc _)
  have G2 := Lib.hid (show Blk V8 g1 35 #[.int .u64 18446744073709551615] by rw [hV]; exact (G2.out.below b G2.out.lt).alloc _)
  have G3 := Lib.hid (show Blk V8 g2 26 #[.int .i64 15, .int .i64 255] by rw [hV]; exact (G3.out.below b G3.out.lt).alloc _)
  have HV := Lib.hid hV
  have HGG := Lib.hid hg
  clear b hV hg HB7
  go_upto_region 10 with fail
  rw [← HV.out, ← HGG.out]
  clear HV HGG
  go_wp2_with fail
  refine (H9.out V8).mono ?_
  rintro e V9 ⟨rfl, b⟩
  have HB9 := Lib.hid (HB8.out.trans (b.mono HB8.out.size))
  have G1 := Lib.hid (G1.out.below b G1.out.lt)
  have G2 := Lib.hid (G2.out.below b G2.out.lt)
  have G3 := Lib.hid (G3.out.below b G3.out.lt)
  clear b HB8
  go_wp2_with fail
  refine (H10.out V9).mono ?_
  rintro e V10 ⟨rfl, b⟩
  have HB10 := Lib.hid (HB9.out.trans (b.mono HB9.out.size))
  have G1 := Lib.hid (G1.out.below b G1.out.lt)
  have G2 := Lib.hid (G2.out.below b G2.out.lt)
  have G3 := Lib.hid (G3.out.below b G3.out.lt)
  clear b HB9
  go_wp2_with fail
  refine (works_t V10).mono ?_
  rintro e V11 ⟨rfl, b⟩
  have HB11 := Lib.hid (HB10.out.trans (b.mono HB10.out.size))
  have G1 := Lib.hid (G1.out.below b G1.out.lt)
  have G2 := Lib.hid (G2.out.below b G2.out.lt)
  have G3 := Lib.hid (G3.out.below b G3.out.lt)
  have c1 := G1.out.cell 0
  have c2 := G2.out.cell 0
  simp only [List.getElem?_toArray, List.getElem?_cons_zero] at c1 c2
  have he := HE.out
  clear b
  go_wp2_with (refine wpList_load_row_w (by rfl) 26 _ rfl g2 rfl 26 #[.int .i64 15, .int .i64 255] (0, 0) _ ?_ Try.underlying26 rfl rs_size ?_; exact G3.out)
  go_ret; exact ⟨rfl, HB11.out⟩

theorem own : ownKnob Try.prog.godebug = none := by kernel_rfl
theorem laidOut : laidOutB Try.prog = true := by kernel_rfl

set_option maxRecDepth 100000 in
theorem lifted (os : Os) (started : os.Started) (H : Type) (enc : TypeId × Value → H) :
    ReturnsInHanded {} Try.checked os 7 .any (Rows.ctrlKnownSpec.pre6 enc Try.prog Try.f7 Rows.ctrlKnownRow.domain false) (Rows.ctrlKnownSpec.post enc Try.prog Try.f7 false true false false) := by
  refine returnsInHanded_of_change (C := Try.checked) own started (by kernel_rfl) Try.func7
    (ChangeSpec.witness6 (enc := enc) (C := Try.checked) false ⟨#[], #[], []⟩ 8 (by kernel_rfl) (by kernel_rfl) (by kernel_rfl) (by kernel_rfl)) ?_
  intro W base args ds gs before hval0 hW hcnd _
  have hval : ∀ (j : Nat) t v, Try.f7.params[j]? = some t → args[j]? = some v → Value.okWide Try.prog W .any base t v := hval0
  have hW' := hW
  obtain ⟨p, q, hA0, hV, rfl, hfz, hnd⟩ := hW
  have hA : DataW.TrodAll enc Try.prog W 0 (fun _ => true) true Try.f7.params.toList args.toList ds p := hA0
  rw [Try.params7] at hA hval
  obtain ⟨rfl, rfl, rfl⟩ := trodAll_none hA
  obtain ⟨rfl, rfl⟩ := trodVars_none hV
  clear hA0 hval0
  simp only [List.append_nil] at hW'
  refine (walk W).mono fun e W' ⟨he, bel⟩ => ?_
  subst he
  exact ⟨_, rfl, _, _, _, [], _, [], hW', trodAll_mk1 (shut_bool Try.underlying4 _), rfl, rfl, bel.frame _, fun h => by cases h⟩

theorem over : Rows.ctrlKnownRow.holds Try.pinned (OpenSpec.ofChange Rows.ctrlKnownSpec) :=
  OpenClaim.holds_of_wide 7 Try.f7 rfl rfl rfl rfl rfl rfl rfl ⟨rfl, rfl, rfl, rfl, rfl⟩ rfl rfl rfl rfl rfl (by kernel_rfl) Try.func7 (by kernel_rfl)
    (of_decide_eq_true (by kernel_rfl)) (by unfold Func.isWrapper; first | (rw [if_pos (by decide +kernel)]; kernel_rfl) | (rw [if_neg (by decide +kernel)]; exact ⟨rfl, rfl⟩))
    (fun os started H enc _ => lifted os started H enc)

theorem proved : Rows.CtrlKnownSaid := over
#print axioms proved
end Go.Proofs.Ytbimdlcgjpeheaa.ctrlKnown
