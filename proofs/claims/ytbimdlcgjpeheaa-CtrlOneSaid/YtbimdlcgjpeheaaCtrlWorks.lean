/-
  What works and reads of plaitlaw13 answer, each by its walk.
-/
import Derived.Test.YtbimdlcgjpeheaaCtrlRefs
import Derived.Test.YtbimdlcgjpeheaaRepeat
import Derived.BigFrame
namespace Go.Proofs.Ytbimdlcgjpeheaa
open Go.ChangeShapes Go.WideShapes Go.ChangeAt Go.RowKit
set_option linter.unusedVariables false

/-- A whole row is loaded, where the guard lets it be. -/
theorem wpList_load_row_w {P : Program} {ops : Array Oper} {rest : List Oper} {o : Oper} {a : Act} {w : World} {Q : Exit → Act → World → Prop} (hw : Region.wanted o (yielded ops a.tmps) = true) (ty : TypeId) (x : Operand) (ho : o.op = .load ty x)
    (g : Nat) (hx : a.eval x = .pointer (some ⟨g, 0, none⟩)) (t : TypeId) (cs : Array Value) (fr : Nat × Nat) (d : TypeDesc) (hg : w.heap[g]? = some (.cells cs t fr))
    (hu : P.underlying ty = some d) (hd : (match d with | .struct _ | .array _ _ => true | _ => false) = true) (hi : (P.info? ty).map (·.size) = some cs.size)
    (h : wpList P ops Q rest (a.put o.dst (.agg cs)) w) : wpList P ops Q (o :: rest) a w :=
  BigFrame.wpList_want hw fun _ hK => wp_load_row ty x ho g hx t cs fr d hg hu hd hi (hK _ _ h)
theorem rep_any (c : UInt8) (n : Nat) (hn : n ≤ 1000) (t : ByteArray) (ht : txt (List.replicate n c) = t) (N : Int) (hN : N = (n : Int)) (w : World) :
    Calls Try.prog 22 #[.string ⟨#[c]⟩, .int .i64 N] w fun e w' => e = .returned (.string t) ∧ Below w.heap.size w w' := by
  subst hN ht
  have h := Try.strings_Repeat ⟨#[c]⟩ n w (by omega) (by show 1 * n ≤ _; omega)
  have e : ∀ k, Lib.repeatL (⟨#[c]⟩ : ByteArray).data.toList k = List.replicate k c := by
    intro k
    induction k with
    | zero => rfl
    | succ k ih => rw [Lib.repeatL, ih, List.replicate_succ]; rfl
  rw [e] at h
  exact h
theorem bel_al {B : Nat} {w W W' : World} {o : Obj} (h : Below B w W) (hs : B ≤ w.heap.size) (b : Below (W.alloc o).heap.size (W.alloc o) W') : Below B w W' :=
  (h.alloc (Nat.le_trans hs h.size) o).trans (b.mono (Nat.le_trans hs (h.alloc (Nat.le_trans hs h.size) o).size))
abbrev Ans (f : FuncId) (args : Array Value) (v : Value) (w : World) : Prop := Calls Try.prog f args w fun e w' => e = .returned v ∧ Below w.heap.size w w'
theorem call_1 (w : World) : Ans 8 #[.agg #[.bool true]] (.tuple #[.string ⟨#[81]⟩, .int .i64 0]) w := answer (EncodePrio_any true w) (by kernel_rfl)
theorem call_2 (B : ByteArray) (hB : numT 6 258 = B) (w : World) : Ans 9 #[.agg #[.int .u64 258]] (.tuple #[.string B, .int .i64 0]) w := by subst hB; exact EncodeFail_any 258 (by decide) w
theorem call_3 (B : ByteArray) (hB : numT 7 1 = B) (w : World) : Ans 10 #[.agg #[.int .u64 1]] (.tuple #[.string B, .int .i64 0]) w := by subst hB; exact EncodeFast_any 1 (by decide) w
theorem call_4 (w : World) : Ans 14 #[.agg #[.int .i64 9, .int .i64 5]] (.tuple #[.string ⟨#[137, 5]⟩, .int .i64 0]) w := answer (EncodeRst_any 9 5 w) (by kernel_rfl)
theorem call_5 (w : World) : Ans 18 #[.string ⟨#[94]⟩] (.tuple #[.agg #[.bool false], .int .i64 0]) w := answer (DecodePrio_any ⟨#[94]⟩ (by decide) w) (by kernel_rfl)
theorem call_6 (w : World) : Ans 18 #[.string ⟨#[]⟩] (.tuple #[.agg #[.bool false], .int .i64 4]) w := answer (DecodePrio_any ⟨#[]⟩ (by decide) w) (by kernel_rfl)
theorem call_7 (w : World) : Ans 18 #[.string ⟨#[96]⟩] (.tuple #[.agg #[.bool false], .int .i64 7]) w := answer (DecodePrio_any ⟨#[96]⟩ (by decide) w) (by kernel_rfl)
theorem call_8 (w : World) : Ans 18 #[.string ⟨#[80, 0]⟩] (.tuple #[.agg #[.bool false], .int .i64 5]) w := answer (DecodePrio_any ⟨#[80, 0]⟩ (by decide) w) (by kernel_rfl)
theorem call_9 (w : World) : Ans 19 #[.string ⟨#[96, 0]⟩] (.tuple #[.agg #[.int .u64 0], .int .i64 4]) w := answer (DecodeFail_any ⟨#[96, 0]⟩ (by decide) w) (by kernel_rfl)
theorem call_10 (w : World) : Ans 14 #[.agg #[.int .i64 16, .int .i64 0]] (.tuple #[.string ⟨#[]⟩, .int .i64 2]) w := answer (EncodeRst_any 16 0 w) (by kernel_rfl)
set_option maxHeartbeats 4000000 in
set_option maxRecDepth 100000 in
theorem works_t (w : World) : Calls Try.prog 16 #[] w fun e w' => e = .returned (.bool true) ∧ Below w.heap.size w w' := by
  obtain ⟨Z, hZ⟩ : ∃ Z, Z = txt (List.replicate 6 0) := ⟨_, rfl⟩
  obtain ⟨B, hB⟩ : ∃ B, B = numT 6 258 := ⟨_, rfl⟩
  obtain ⟨C, hC⟩ : ∃ C, C = numT 7 1 := ⟨_, rfl⟩
  obtain ⟨D, hD⟩ : ∃ D, D = (⟨#[96, 0]⟩ : ByteArray) ++ Z := ⟨_, rfl⟩
  obtain ⟨E, hE⟩ : ∃ E, E = (⟨#[112, 0]⟩ : ByteArray) ++ Z := ⟨_, rfl⟩
  have sZ : Z.size = 6 := by rw [hZ, txt_size]; rfl
  have sD : D.size = 8 := by rw [hD, ByteArray.size_append, sZ]; rfl
  have sE : E.size = 8 := by rw [hE, ByteArray.size_append, sZ]; rfl
  have k1 := fun W => run_string_add (P := Try.prog) W ⟨#[96, 0]⟩ Z (by decide) (by omega)
  have k2 := fun W => run_string_add (P := Try.prog) W D ⟨#[1, 2]⟩ (by omega) (by decide)
  have k3 := fun W => run_string_add (P := Try.prog) W ⟨#[112, 0]⟩ Z (by decide) (by omega)
  have k4 := fun W => run_string_add (P := Try.prog) W E ⟨#[0, 1]⟩ (by omega) (by decide)
  rw [← hD] at k1
  rw [← hE] at k3
  rw [show D ++ (⟨#[1, 2]⟩ : ByteArray) = B by rw [hD, hZ, hB]; decide] at k2
  rw [show E ++ (⟨#[0, 1]⟩ : ByteArray) = C by rw [hE, hZ, hC]; decide] at k4
  have HZ := Lib.hid hZ
  have H2 := Lib.hid (call_2 B hB.symm)
  have H3 := Lib.hid (call_3 C hC.symm)
  clear hZ hB hC hD hE sZ sD sE
  have K1 := Lib.hid k1
  have K2 := Lib.hid k2
  have K3 := Lib.hid k3
  have K4 := Lib.hid k4
  clear k1 k2 k3 k4
  go_enter Try.func16, Try.ntmps16
  go_wp2_with fail
  refine (rep_any 0 6 (by decide) Z HZ.out.symm _ rfl w).mono ?_
  rintro e W1 ⟨rfl, b⟩
  have HB1 := Lib.hid b
  clear b
  go_wp2_with fail
  refine (call_1 W1).mono ?_
  rintro e W2 ⟨rfl, b⟩
  have HB2 := Lib.hid (HB1.out.trans (b.mono HB1.out.size))
  clear b HB1
  go_wp2_with fail
  refine (H2.out W2).mono ?_
  rintro e W3 ⟨rfl, b⟩
  have HB3 := Lib.hid (HB2.out.trans (b.mono HB2.out.size))
  clear b HB2
  go_wp2_with fail
  refine (H3.out W3).mono ?_
  rintro e W4 ⟨rfl, b⟩
  have HB4 := Lib.hid (HB3.out.trans (b.mono HB3.out.size))
  clear b HB3
  go_wp2_with fail
  refine (call_4 W4).mono ?_
  rintro e W5 ⟨rfl, b⟩
  have HB5 := Lib.hid (HB4.out.trans (b.mono HB4.out.size))
  clear b HB4
  have k1 := K1.out
  have k2 := K2.out
  have k3 := K3.out
  have k4 := K4.out
  go_wp2_with fail
  clear k1 k2 k3 k4
  refine (call_5 W5).mono ?_
  rintro e W6 ⟨rfl, b⟩
  have HB6 := Lib.hid (HB5.out.trans (b.mono HB5.out.size))
  obtain ⟨g, hg⟩ : ∃ g, g = W6.heap.size := ⟨_, rfl⟩
  have HG := Lib.hid hg
  have HP := Lib.hid (show Blk (W6.alloc (.cells #[.bool false] 23)) g 23 #[.bool false] by rw [hg]; exact Blk.new _ _ _)
  clear b HB5 hg
  go_upto_region 9 with fail
  rw [← HG.out]
  go_wp2_with fail
  refine (call_6 _).mono ?_
  rintro e W7 ⟨rfl, b⟩
  have HP := Lib.hid (HP.out.below b HP.out.lt)
  have HB7 := Lib.hid (bel_al HB6.out (Nat.le_refl _) b)
  have HP := Lib.hid (HP.out.alloc (.cells #[.bool false] 23))
  clear b HB6
  go_wp2_with fail
  refine (call_7 _).mono ?_
  rintro e W8 ⟨rfl, b⟩
  have HP := Lib.hid (HP.out.below b HP.out.lt)
  have HB8 := Lib.hid (bel_al HB7.out (Nat.le_refl _) b)
  have HP := Lib.hid (HP.out.alloc (.cells #[.bool false] 23))
  clear b HB7
  go_wp2_with fail
  refine (call_8 _).mono ?_
  rintro e W9 ⟨rfl, b⟩
  have HP := Lib.hid (HP.out.below b HP.out.lt)
  have HB9 := Lib.hid (bel_al HB8.out (Nat.le_refl _) b)
  have HP := Lib.hid (HP.out.alloc (.cells #[.bool false] 23))
  clear b HB8
  go_wp2_with fail
  refine (call_9 _).mono ?_
  rintro e W10 ⟨rfl, b⟩
  have HP := Lib.hid (HP.out.below b HP.out.lt)
  have HB10 := Lib.hid (bel_al HB9.out (Nat.le_refl _) b)
  have HP := Lib.hid (HP.out.alloc (.cells #[.int .u64 0] 32))
  clear b HB9
  go_wp2_with fail
  refine (call_10 _).mono ?_
  rintro e W11 ⟨rfl, b⟩
  have HP := Lib.hid (HP.out.below b HP.out.lt)
  have HB11 := Lib.hid (bel_al HB10.out (Nat.le_refl _) b)
  clear b HB10
  have c0 := HP.out.cell 0
  simp only [List.getElem?_toArray, List.getElem?_cons_zero] at c0
  go_wp2_with fail
  go_ret; exact ⟨rfl, HB11.out⟩
set_option maxHeartbeats 4000000 in
set_option maxRecDepth 100000 in
theorem reads_t (s : ByteArray) (hs : s.size ≤ 9223372036854775807) (w : World) : Calls Try.prog 17 #[.string s] w fun e w' => e = .returned (.bool true) ∧ Below w.heap.size w w' := by
  obtain ⟨P, hP⟩ : ∃ P, P = decP s := ⟨_, rfl⟩
  obtain ⟨N, hN⟩ : ∃ N, N = decN 6 s := ⟨_, rfl⟩
  obtain ⟨M, hM⟩ : ∃ M, M = decN 7 s := ⟨_, rfl⟩
  obtain ⟨F, hF⟩ : ∃ F, F = decF s := ⟨_, rfl⟩
  obtain ⟨R, hR⟩ : ∃ R, R = decR s := ⟨_, rfl⟩
  obtain ⟨z0, h0⟩ : ∃ z, z = wrong 5 1 s := ⟨_, rfl⟩
  obtain ⟨z1, h1⟩ : ∃ z, z = wrong 6 10 s := ⟨_, rfl⟩
  obtain ⟨z2, h2⟩ : ∃ z, z = wrong 7 10 s := ⟨_, rfl⟩
  obtain ⟨z3, h3⟩ : ∃ z, z = wrong 8 2 s := ⟨_, rfl⟩
  have HP := Lib.hid (show decPV s = .tuple #[.agg (prv P), .int .i64 z0] by rw [hP, h0]; rfl)
  have HF := Lib.hid (show decFV s = .tuple #[.agg (nuv N), .int .i64 z1] by rw [hN, h1]; rfl)
  have HS := Lib.hid (show decSV s = .tuple #[.agg (nuv M), .int .i64 z2] by rw [hM, h2]; rfl)
  have HR := Lib.hid (show decRV s = .tuple #[.agg (rsv (F : Int) (R : Int)), .int .i64 z3] by rw [hF, hR, h3]; rfl)
  have HSZ := Lib.hid hs
  have HB0 := Lib.hid (Below.refl w.heap.size w)
  have e1 := fun W => pr_equal P P true (by simp) W
  have e2 := fun W => fa_equal N N true (by simp) W
  have e3 := fun W => fs_equal M M true (by simp) W
  have e4 := fun W => rs_equal (F : Int) (R : Int) (F : Int) (R : Int) true (by simp) W
  have E1 := Lib.hid e1
  have E2 := Lib.hid e2
  have E3 := Lib.hid e3
  have E4 := Lib.hid e4
  clear hP hN hM hF hR h0 h1 h2 h3 hs e1 e2 e3 e4
  obtain ⟨V0, hV0⟩ : ∃ V, V = w := ⟨_, rfl⟩
  have HB0 := Lib.hid (show Below w.heap.size w V0 by rw [hV0]; exact Below.refl _ _)
  rw [show Calls Try.prog 17 #[.string s] w = Calls Try.prog 17 #[.string s] V0 by rw [hV0]]
  clear hV0
  go_enter Try.func17, Try.ntmps17
  go_wp2_with fail
  refine (DecodePrio_any s HSZ.out V0).mono ?_
  rintro e U0 ⟨rfl, b⟩
  rw [HP.out]
  obtain ⟨g0, hg⟩ : ∃ g, g = U0.heap.size := ⟨_, rfl⟩
  obtain ⟨V1, hV⟩ : ∃ V, V = U0.alloc (.cells (prv P) 23) := ⟨_, rfl⟩
  have HB1 := Lib.hid (show Below w.heap.size w V1 by rw [hV]; exact (HB0.out.trans (b.mono HB0.out.size)).alloc (HB0.out.trans (b.mono HB0.out.size)).size _)
  have HG0 := Lib.hid (show Blk V1 g0 23 (prv P) by rw [hV, hg]; exact Blk.new _ _ _)
  have HV := Lib.hid hV
  have HGG := Lib.hid hg
  clear b hV hg HB0
  go_upto_region 2 with fail
  rw [← HV.out, ← HGG.out]
  clear HV HGG
  go_wp2_with fail
  refine (refP_any s HSZ.out V1).mono ?_
  rintro e U1 ⟨rfl, b⟩
  rw [HP.out]
  obtain ⟨g1, hg⟩ : ∃ g, g = U1.heap.size := ⟨_, rfl⟩
  obtain ⟨V2, hV⟩ : ∃ V, V = U1.alloc (.cells (prv P) 23) := ⟨_, rfl⟩
  have HB2 := Lib.hid (show Below w.heap.size w V2 by rw [hV]; exact (HB1.out.trans (b.mono HB1.out.size)).alloc (HB1.out.trans (b.mono HB1.out.size)).size _)
  have HG0 := Lib.hid (show Blk V2 g0 _ _ by rw [hV]; exact (HG0.out.below b HG0.out.lt).alloc _)
  have HG1 := Lib.hid (show Blk V2 g1 23 (prv P) by rw [hV, hg]; exact Blk.new _ _ _)
  have HV := Lib.hid hV
  have HGG := Lib.hid hg
  clear b hV hg HB1
  go_upto_region 3 with fail
  rw [← HV.out, ← HGG.out]
  clear HV HGG
  go_wp2_with fail
  refine (DecodeFail_any s HSZ.out V2).mono ?_
  rintro e U2 ⟨rfl, b⟩
  rw [HF.out]
  obtain ⟨g2, hg⟩ : ∃ g, g = U2.heap.size := ⟨_, rfl⟩
  obtain ⟨V3, hV⟩ : ∃ V, V = U2.alloc (.cells (nuv N) 32) := ⟨_, rfl⟩
  have HB3 := Lib.hid (show Below w.heap.size w V3 by rw [hV]; exact (HB2.out.trans (b.mono HB2.out.size)).alloc (HB2.out.trans (b.mono HB2.out.size)).size _)
  have HG0 := Lib.hid (show Blk V3 g0 _ _ by rw [hV]; exact (HG0.out.below b HG0.out.lt).alloc _)
  have HG1 := Lib.hid (show Blk V3 g1 _ _ by rw [hV]; exact (HG1.out.below b HG1.out.lt).alloc _)
  have HG2 := Lib.hid (show Blk V3 g2 32 (nuv N) by rw [hV, hg]; exact Blk.new _ _ _)
  have HV := Lib.hid hV
  have HGG := Lib.hid hg
  clear b hV hg HB2
  go_upto_region 4 with fail
  rw [← HV.out, ← HGG.out]
  clear HV HGG
  go_wp2_with fail
  refine (refF_any s HSZ.out V3).mono ?_
  rintro e U3 ⟨rfl, b⟩
  rw [HF.out]
  obtain ⟨g3, hg⟩ : ∃ g, g = U3.heap.size := ⟨_, rfl⟩
  obtain ⟨V4, hV⟩ : ∃ V, V = U3.alloc (.cells (nuv N) 32) := ⟨_, rfl⟩
  have HB4 := Lib.hid (show Below w.heap.size w V4 by rw [hV]; exact (HB3.out.trans (b.mono HB3.out.size)).alloc (HB3.out.trans (b.mono HB3.out.size)).size _)
  have HG0 := Lib.hid (show Blk V4 g0 _ _ by rw [hV]; exact (HG0.out.below b HG0.out.lt).alloc _)
  have HG1 := Lib.hid (show Blk V4 g1 _ _ by rw [hV]; exact (HG1.out.below b HG1.out.lt).alloc _)
  have HG2 := Lib.hid (show Blk V4 g2 _ _ by rw [hV]; exact (HG2.out.below b HG2.out.lt).alloc _)
  have HG3 := Lib.hid (show Blk V4 g3 32 (nuv N) by rw [hV, hg]; exact Blk.new _ _ _)
  have HV := Lib.hid hV
  have HGG := Lib.hid hg
  clear b hV hg HB3
  go_upto_region 5 with fail
  rw [← HV.out, ← HGG.out]
  clear HV HGG
  have e1 := E1.out
  have e2 := E2.out
  go_wp2_with (first | (refine wpList_load_row_w (by rfl) 23 _ rfl g0 rfl 23 (prv P) (0, 0) _ ?_ Try.underlying23 rfl pr_size ?_; exact HG0.out) | (refine wpList_load_row_w (by rfl) 23 _ rfl g1 rfl 23 (prv P) (0, 0) _ ?_ Try.underlying23 rfl pr_size ?_; exact HG1.out) | (refine wpList_load_row_w (by rfl) 32 _ rfl g2 rfl 32 (nuv N) (0, 0) _ ?_ Try.underlying32 rfl fa_size ?_; exact HG2.out) | (refine wpList_load_row_w (by rfl) 32 _ rfl g3 rfl 32 (nuv N) (0, 0) _ ?_ Try.underlying32 rfl fa_size ?_; exact HG3.out))
  clear e1 e2
  refine (DecodeFast_any s HSZ.out V4).mono ?_
  rintro e U4 ⟨rfl, b⟩
  rw [HS.out]
  obtain ⟨g4, hg⟩ : ∃ g, g = U4.heap.size := ⟨_, rfl⟩
  obtain ⟨V5, hV⟩ : ∃ V, V = U4.alloc (.cells (nuv M) 35) := ⟨_, rfl⟩
  have HB5 := Lib.hid (show Below w.heap.size w V5 by rw [hV]; exact (HB4.out.trans (b.mono HB4.out.size)).alloc (HB4.out.trans (b.mono HB4.out.size)).size _)
  have HG4 := Lib.hid (show Blk V5 g4 35 (nuv M) by rw [hV, hg]; exact Blk.new _ _ _)
  have HV := Lib.hid hV
  have HGG := Lib.hid hg
  clear b hV hg HB4
  go_upto_region 8 with fail
  rw [← HV.out, ← HGG.out]
  clear HV HGG
  go_wp2_with fail
  refine (refS_any s HSZ.out V5).mono ?_
  rintro e U5 ⟨rfl, b⟩
  rw [HS.out]
  obtain ⟨g5, hg⟩ : ∃ g, g = U5.heap.size := ⟨_, rfl⟩
  obtain ⟨V6, hV⟩ : ∃ V, V = U5.alloc (.cells (nuv M) 35) := ⟨_, rfl⟩
  have HB6 := Lib.hid (show Below w.heap.size w V6 by rw [hV]; exact (HB5.out.trans (b.mono HB5.out.size)).alloc (HB5.out.trans (b.mono HB5.out.size)).size _)
  have HG4 := Lib.hid (show Blk V6 g4 _ _ by rw [hV]; exact (HG4.out.below b HG4.out.lt).alloc _)
  have HG5 := Lib.hid (show Blk V6 g5 35 (nuv M) by rw [hV, hg]; exact Blk.new _ _ _)
  have HV := Lib.hid hV
  have HGG := Lib.hid hg
  clear b hV hg HB5
  go_upto_region 9 with fail
  rw [← HV.out, ← HGG.out]
  clear HV HGG
  go_wp2_with fail
  refine (DecodeRst_any s HSZ.out V6).mono ?_
  rintro e U6 ⟨rfl, b⟩
  rw [HR.out]
  obtain ⟨g6, hg⟩ : ∃ g, g = U6.heap.size := ⟨_, rfl⟩
  obtain ⟨V7, hV⟩ : ∃ V, V = U6.alloc (.cells (rsv (F : Int) (R : Int)) 26) := ⟨_, rfl⟩
  have HB7 := Lib.hid (show Below w.heap.size w V7 by rw [hV]; exact (HB6.out.trans (b.mono HB6.out.size)).alloc (HB6.out.trans (b.mono HB6.out.size)).size _)
  have HG4 := Lib.hid (show Blk V7 g4 _ _ by rw [hV]; exact (HG4.out.below b HG4.out.lt).alloc _)
  have HG5 := Lib.hid (show Blk V7 g5 _ _ by rw [hV]; exact (HG5.out.below b HG5.out.lt).alloc _)
  have HG6 := Lib.hid (show Blk V7 g6 26 (rsv (F : Int) (R : Int)) by rw [hV, hg]; exact Blk.new _ _ _)
  have HV := Lib.hid hV
  have HGG := Lib.hid hg
  clear b hV hg HB6
  go_upto_region 10 with fail
  rw [← HV.out, ← HGG.out]
  clear HV HGG
  go_wp2_with fail
  refine (refR_any s HSZ.out V7).mono ?_
  rintro e U7 ⟨rfl, b⟩
  rw [HR.out]
  obtain ⟨g7, hg⟩ : ∃ g, g = U7.heap.size := ⟨_, rfl⟩
  obtain ⟨V8, hV⟩ : ∃ V, V = U7.alloc (.cells (rsv (F : Int) (R : Int)) 26) := ⟨_, rfl⟩
  have HB8 := Lib.hid (show Below w.heap.size w V8 by rw [hV]; exact (HB7.out.trans (b.mono HB7.out.size)).alloc (HB7.out.trans (b.mono HB7.out.size)).size _)
  have HG4 := Lib.hid (show Blk V8 g4 _ _ by rw [hV]; exact (HG4.out.below b HG4.out.lt).alloc _)
  have HG5 := Lib.hid (show Blk V8 g5 _ _ by rw [hV]; exact (HG5.out.below b HG5.out.lt).alloc _)
  have HG6 := Lib.hid (show Blk V8 g6 _ _ by rw [hV]; exact (HG6.out.below b HG6.out.lt).alloc _)
  have HG7 := Lib.hid (show Blk V8 g7 26 (rsv (F : Int) (R : Int)) by rw [hV, hg]; exact Blk.new _ _ _)
  have HV := Lib.hid hV
  have HGG := Lib.hid hg
  clear b hV hg HB7
  go_upto_region 11 with fail
  rw [← HV.out, ← HGG.out]
  clear HV HGG
  have e3 := E3.out
  have e4 := E4.out
  go_wp2_with (first | (refine wpList_load_row_w (by rfl) 35 _ rfl g4 rfl 35 (nuv M) (0, 0) _ ?_ Try.underlying35 rfl fs_size ?_; exact HG4.out) | (refine wpList_load_row_w (by rfl) 35 _ rfl g5 rfl 35 (nuv M) (0, 0) _ ?_ Try.underlying35 rfl fs_size ?_; exact HG5.out) | (refine wpList_load_row_w (by rfl) 26 _ rfl g6 rfl 26 (rsv (F : Int) (R : Int)) (0, 0) _ ?_ Try.underlying26 rfl rs_size ?_; exact HG6.out) | (refine wpList_load_row_w (by rfl) 26 _ rfl g7 rfl 26 (rsv (F : Int) (R : Int)) (0, 0) _ ?_ Try.underlying26 rfl rs_size ?_; exact HG7.out))
  go_ret; exact ⟨rfl, HB8.out⟩
end Go.Proofs.Ytbimdlcgjpeheaa
