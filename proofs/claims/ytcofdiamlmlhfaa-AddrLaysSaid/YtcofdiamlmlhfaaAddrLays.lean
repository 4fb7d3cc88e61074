/-
  AddrLays returns true for all Adds and texts. No conditions.
-/
import Derived.Test.YtcofdiamlmlhfaaAddrMore
import Derived.WalkKit
import Derived.ProofKit
import Derived.OpenShut
import Derived.ShutString
import Derived.ChangeOld
import Derived.Below
import Derived.SizedLaws
namespace Go.Proofs.Ytcofdiamlmlhfaa.addrLays
open Go.ChangeShapes Go.WideShapes Go.ChangeAt Go.RowKit
open Go.ChangeMaps (open_string shut_string)
set_option linter.unusedVariables false

/-- A text is laid anew in a cell. -/
theorem store_strc (W : World) (g k : Nat) (z s : ByteArray) (hc : W.cell? ⟨g, k, none⟩ = some (.string z)) (hf : W.frozen? ⟨g, k, none⟩ = false) : (storeVar 9 ⟨g, k, none⟩ (.string s)).run Try.prog W = .ok () (W.setCell ⟨g, k, none⟩ (.string s)) := by
  have hi : (Try.prog.info? 9).map (·.size) = some 1 := by kernel_rfl
  have hst : (store ((⟨g, k, none⟩ : Addr).add 0) (.string s)).run Try.prog W = .ok () (W.setCell ⟨g, k, none⟩ (.string s)) := by
    rw [show (⟨g, k, none⟩ : Addr).add 0 = ⟨g, k, none⟩ from rfl, run_store Try.prog W _ _ _ rfl, hc]
    simp [hf]
  cases hq : Try.prog.info? 9 with
  | none => rw [hq] at hi; cases hi
  | some i =>
    have hs : i.size = 1 := by simpa [hq] using hi
    simp [storeVar, sizeOf, typeInfo, hq, Value.cells, hs, storeCells, hst]
set_option maxHeartbeats 4000000 in
set_option maxRecDepth 100000 in
theorem walk (x : Ad) (ids : ByteArray) (hids : ids.size ≤ 140737488351232) (w : World) :
    Calls Try.prog 3 #[.agg (adv x), .string ids] w fun e w' => e = .returned (.bool true) ∧ Below w.heap.size w w' := by
  obtain ⟨m0, I, hI, nI, mI, lI, uI⟩ := front_n 60 x.ip
  obtain ⟨m1, M, hM, nM, mM, lM, uM⟩ := front_n 60 x.mac
  obtain ⟨m2, F, hF, nF, mF, lF, uF⟩ := front_n 60 ids
  obtain ⟨y, hy⟩ : ∃ y : Ad, y = { x with ip := I, mac := M } := ⟨_, rfl⟩
  have HYE := Lib.hid hy
  have N0 := Lib.hid mI
  have N1 := Lib.hid mM
  have N2 := Lib.hid mF
  have HI := Lib.hid hI
  have HM := Lib.hid hM
  have HF := Lib.hid hF
  have LI := Lib.hid lI
  have LM := Lib.hid lM
  have LF := Lib.hid lF
  have HFS := Lib.hid (show F.size ≤ 60 by omega)
  obtain ⟨b0, hb0⟩ : ∃ b0, b0 = w.heap.size := ⟨_, rfl⟩
  obtain ⟨V, hV⟩ : ∃ V, V = w.alloc (.cells (adv x) 23) := ⟨_, rfl⟩
  have HX0 := Lib.hid (show Blk V b0 23 (adv x) by rw [hV, hb0]; exact Blk.new _ _ _)
  have HB0 := Lib.hid (show Below w.heap.size w V by rw [hV]; exact (Below.refl _ w).alloc (Nat.le_refl _) _)
  have HLE := Lib.hid (show w.heap.size ≤ b0 by omega)
  have HV := Lib.hid hV
  have HE0 := Lib.hid hb0
  clear hI nI mI lI uI hM nM mM lM uM hF nF mF lF uF hy hV hb0
  go_enter Try.func3, Try.ntmps3
  go_upto_region 1 with fail
  rw [← HV.out, ← HE0.out]
  have B0 : Below V.heap.size V V.drew := (Below.refl _ V).drew
  refine walk_start 20 (fun W => Below V.heap.size V W) (by kernel_rfl) (n := 24) rfl ?_
  obtain ⟨W0, hW0⟩ : ∃ W0, W0 = V.drew := ⟨_, rfl⟩
  rw [← hW0] at B0 ⊢
  clear hW0
  refine walk_free 0 (.pointer (some ⟨b0, 2, none⟩)) rfl (by kernel_rfl) (by kernel_rfl) (by kernel_rfl) (by kernel_rfl) (by kernel_rfl) (by kernel_rfl) B0 (fun _ _ => ex_field (v := .pointer (some ⟨b0, 0, none⟩)) 23 (.tmp 2) 2 (by kernel_rfl) (by kernel_rfl) (by kernel_rfl)) ?_
  refine walk_free 1 (.string x.ip) rfl (by kernel_rfl) (by kernel_rfl) (by kernel_rfl) (by kernel_rfl) (by kernel_rfl) (by kernel_rfl) B0 (fun W b => ex_load 9 (.tmp 13) (by kernel_rfl) ⟨b0, 2, none⟩ (by kernel_rfl) (by kernel_rfl) ((HX0.out.below b HX0.out.lt).cell 2)) ?_
  refine walk_free 2 (.pointer (some ⟨b0, 2, none⟩)) rfl (by kernel_rfl) (by kernel_rfl) (by kernel_rfl) (by kernel_rfl) (by kernel_rfl) (by kernel_rfl) B0 (fun _ _ => ex_field (v := .pointer (some ⟨b0, 0, none⟩)) 23 (.tmp 2) 2 (by kernel_rfl) (by kernel_rfl) (by kernel_rfl)) ?_
  refine walk_free 3 (.string x.ip) rfl (by kernel_rfl) (by kernel_rfl) (by kernel_rfl) (by kernel_rfl) (by kernel_rfl) (by kernel_rfl) B0 (fun W b => ex_load 9 (.tmp 15) (by kernel_rfl) ⟨b0, 2, none⟩ (by kernel_rfl) (by kernel_rfl) ((HX0.out.below b HX0.out.lt).cell 2)) ?_
  refine walk_free 4 (.int .i64 (x.ip.size : Int)) rfl (by kernel_rfl) (by kernel_rfl) (by kernel_rfl) (by kernel_rfl) (by kernel_rfl) (by kernel_rfl) B0 (fun _ _ => by kernel_rfl) ?_
  refine walk_free 5 (.int .i64 (m0 : Int)) rfl (by kernel_rfl) (by kernel_rfl) (by kernel_rfl) (by kernel_rfl) (by kernel_rfl) (by kernel_rfl) B0 (fun _ _ => ex_min (.tmp 17) (.const (.int .i64 60)) 3 3 (by kernel_rfl) _ _ _ (by kernel_rfl) (by kernel_rfl) N0.out) ?_
  refine walk_free 6 (.string I) rfl (by kernel_rfl) (by kernel_rfl) (by kernel_rfl) (by kernel_rfl) (by kernel_rfl) (by kernel_rfl) B0 (fun W _ => ex_slice_front (v := .string x.ip) (hv := .int .i64 (m0 : Int)) 9 (.tmp 14) (.tmp 18) (by kernel_rfl) (by kernel_rfl) (by kernel_rfl) (by rw [HI.out]; exact str_front x.ip m0 (by have := LI.out; omega) W)) ?_
  refine walk_free 7 (.pointer (some ⟨b0, 5, none⟩)) rfl (by kernel_rfl) (by kernel_rfl) (by kernel_rfl) (by kernel_rfl) (by kernel_rfl) (by kernel_rfl) B0 (fun _ _ => ex_field (v := .pointer (some ⟨b0, 0, none⟩)) 23 (.tmp 2) 5 (by kernel_rfl) (by kernel_rfl) (by kernel_rfl)) ?_
  refine walk_free 8 (.string x.mac) rfl (by kernel_rfl) (by kernel_rfl) (by kernel_rfl) (by kernel_rfl) (by kernel_rfl) (by kernel_rfl) B0 (fun W b => ex_load 9 (.tmp 20) (by kernel_rfl) ⟨b0, 5, none⟩ (by kernel_rfl) (by kernel_rfl) ((HX0.out.below b HX0.out.lt).cell 5)) ?_
  refine walk_free 9 (.pointer (some ⟨b0, 5, none⟩)) rfl (by kernel_rfl) (by kernel_rfl) (by kernel_rfl) (by kernel_rfl) (by kernel_rfl) (by kernel_rfl) B0 (fun _ _ => ex_field (v := .pointer (some ⟨b0, 0, none⟩)) 23 (.tmp 2) 5 (by kernel_rfl) (by kernel_rfl) (by kernel_rfl)) ?_
  refine walk_free 10 (.string x.mac) rfl (by kernel_rfl) (by kernel_rfl) (by kernel_rfl) (by kernel_rfl) (by kernel_rfl) (by kernel_rfl) B0 (fun W b => ex_load 9 (.tmp 22) (by kernel_rfl) ⟨b0, 5, none⟩ (by kernel_rfl) (by kernel_rfl) ((HX0.out.below b HX0.out.lt).cell 5)) ?_
  refine walk_pure 11 (.int .i64 (x.mac.size : Int)) rfl (by kernel_rfl) (by kernel_rfl) (by kernel_rfl) (by decide) (by kernel_rfl) (.inr B0) (fun _ => by kernel_rfl) ?_
  refine walk_pure 12 (.int .i64 (m1 : Int)) rfl (by kernel_rfl) (by kernel_rfl) (by kernel_rfl) (by decide) (by kernel_rfl) (.inr B0) (fun _ => ex_min (.tmp 24) (.const (.int .i64 60)) 3 3 (by kernel_rfl) _ _ _ (by kernel_rfl) (by kernel_rfl) N1.out) ?_
  refine walk_pure 13 (.string M) rfl (by kernel_rfl) (by kernel_rfl) (by kernel_rfl) (by decide) (by kernel_rfl) (.inr B0) (fun W => ex_slice_front (v := .string x.mac) (hv := .int .i64 (m1 : Int)) 9 (.tmp 21) (.tmp 25) (by kernel_rfl) (by kernel_rfl) (by kernel_rfl) (by rw [HM.out]; exact str_front x.mac m1 (by have := LM.out; omega) W)) ?_
  refine walk_pure 14 (.string ids) rfl (by kernel_rfl) (by kernel_rfl) (by kernel_rfl) (by decide) (by kernel_rfl) (.inr B0) (fun _ => by kernel_rfl) ?_
  refine walk_pure 15 (.string ids) rfl (by kernel_rfl) (by kernel_rfl) (by kernel_rfl) (by decide) (by kernel_rfl) (.inr B0) (fun _ => by kernel_rfl) ?_
  refine walk_pure 16 (.int .i64 (ids.size : Int)) rfl (by kernel_rfl) (by kernel_rfl) (by kernel_rfl) (by decide) (by kernel_rfl) (.inr B0) (fun _ => by kernel_rfl) ?_
  refine walk_pure 17 (.int .i64 (m2 : Int)) rfl (by kernel_rfl) (by kernel_rfl) (by kernel_rfl) (by decide) (by kernel_rfl) (.inr B0) (fun _ => ex_min (.tmp 29) (.const (.int .i64 60)) 3 3 (by kernel_rfl) _ _ _ (by kernel_rfl) (by kernel_rfl) N2.out) ?_
  refine walk_pure 18 (.string F) rfl (by kernel_rfl) (by kernel_rfl) (by kernel_rfl) (by decide) (by kernel_rfl) (.inr B0) (fun W => ex_slice_front (v := .string ids) (hv := .int .i64 (m2 : Int)) 9 (.tmp 27) (.tmp 30) (by kernel_rfl) (by kernel_rfl) (by kernel_rfl) (by rw [HF.out]; exact str_front ids m2 (by have := LF.out; omega) W)) ?_
  refine walk_free 19 (.pointer (some ⟨b0, 2, none⟩)) rfl (by kernel_rfl) (by kernel_rfl) (by kernel_rfl) (by kernel_rfl) (by kernel_rfl) (by kernel_rfl) B0 (fun _ _ => ex_field (v := .pointer (some ⟨b0, 0, none⟩)) 23 (.tmp 2) 2 (by kernel_rfl) (by kernel_rfl) (by kernel_rfl)) ?_
  obtain ⟨Y1, hY1⟩ : ∃ Y, Y = W0.setCell ⟨b0, 2, none⟩ (.string I) := ⟨_, rfl⟩
  have hx1 : Blk Y1 b0 23 (adv { x with ip := I }) := by rw [hY1]; exact (HX0.out.below B0 HX0.out.lt).set_ 2 (.string I)
  have hb1 : Below w.heap.size w Y1 := by rw [hY1]; exact (HB0.out.trans (B0.mono HB0.out.size)).setCell (p := ⟨b0, 2, none⟩) HLE.out _
  have sc1 := (HX0.out.below B0 HX0.out.lt).cell 2
  simp only [List.getElem?_toArray, List.getElem?_cons_zero, List.getElem?_cons_succ] at sc1
  refine walk_one 20 (by kernel_rfl) (do_last 20 rfl (by kernel_rfl) (ex_store_cell 9 (.tmp 32) (.tmp 19) (by kernel_rfl) ⟨b0, 2, none⟩ (.string I) (by kernel_rfl) (by kernel_rfl) (store_strc _ b0 2 _ I sc1 ((HX0.out.below B0 HX0.out.lt).frozen 2))) (by kernel_rfl) ?_)
  rw [← hY1]
  clear sc1 hY1
  refine walk_pure 21 (.pointer (some ⟨b0, 5, none⟩)) rfl (by kernel_rfl) (by kernel_rfl) (by kernel_rfl) (by decide) (by kernel_rfl) (.inl (by kernel_rfl)) (fun _ => ex_field (v := .pointer (some ⟨b0, 0, none⟩)) 23 (.tmp 2) 5 (by kernel_rfl) (by kernel_rfl) (by kernel_rfl)) ?_
  obtain ⟨Y2, hY2⟩ : ∃ Y, Y = Y1.setCell ⟨b0, 5, none⟩ (.string M) := ⟨_, rfl⟩
  have hx2 : Blk Y2 b0 23 (adv y) := by rw [hY2, HYE.out]; exact hx1.set_ 5 (.string M)
  have hb2 : Below w.heap.size w Y2 := by rw [hY2]; exact hb1.setCell (p := ⟨b0, 5, none⟩) HLE.out _
  have sc1 := hx1.cell 5
  simp only [List.getElem?_toArray, List.getElem?_cons_zero, List.getElem?_cons_succ] at sc1
  refine walk_one 22 (by kernel_rfl) (do_last 22 rfl (by kernel_rfl) (ex_store_cell 9 (.tmp 33) (.tmp 26) (by kernel_rfl) ⟨b0, 5, none⟩ (.string M) (by kernel_rfl) (by kernel_rfl) (store_strc _ b0 5 _ M sc1 (hx1.frozen 5))) (by kernel_rfl) ?_)
  rw [← hY2]
  have HX2 := Lib.hid hx2
  have HB2 := Lib.hid hb2
  clear sc1 hY2 hx1 hx2 hb1 hb2 B0
  refine walk_pure 23 (.string F) rfl (by kernel_rfl) (by kernel_rfl) (by kernel_rfl) (by decide) (by kernel_rfl) (.inl (by kernel_rfl)) (fun _ => by kernel_rfl) ?_
  refine walk_end_at ⟨#[.agg (adv x), .string F, .pointer (some ⟨b0, 0, none⟩), undef, .bool false, undef, undef, undef, undef, undef, undef, undef, undef, .pointer (some ⟨b0, 2, none⟩), .string x.ip, .pointer (some ⟨b0, 2, none⟩), .string x.ip, .int .i64 (x.ip.size : Int), .int .i64 (m0 : Int), .string I, .pointer (some ⟨b0, 5, none⟩), .string x.mac, .pointer (some ⟨b0, 5, none⟩), .string x.mac, .int .i64 (x.mac.size : Int), .int .i64 (m1 : Int), .string M, .string ids, .string ids, .int .i64 (ids.size : Int), .int .i64 (m2 : Int), .string F, .pointer (some ⟨b0, 2, none⟩), .pointer (some ⟨b0, 5, none⟩), undef, undef, undef, undef, undef, undef, undef, undef, undef, undef, undef, undef, undef, undef, undef, undef, undef, undef, undef, undef, undef, undef, undef, undef, undef, undef, undef, undef, undef, undef, undef, undef, undef, undef, undef, undef, undef, undef, undef, undef, undef, undef, undef], []⟩ (by kernel_rfl) (by kernel_rfl) ?_
  obtain ⟨A, E, HAE⟩ : ∃ A E, Hid (encV y = .tuple #[.string A, .int .i64 E]) := ⟨_, _, Lib.hid rfl⟩
  obtain ⟨C, D, HCD⟩ : ∃ A E, Hid (encRV F = .tuple #[.string A, .int .i64 E]) := ⟨_, _, Lib.hid rfl⟩
  go_wp2_with (refine wpList_load_row_w (by rfl) 23 _ rfl b0 rfl 23 (adv y) (0, 0) _ ?_ Try.underlying23 rfl ad_size ?_; exact HX2.out)
  refine (EncodeAdd_any y Y2).mono ?_
  rintro e W3 ⟨rfl, b⟩
  rw [HAE.out]
  have HX3 := Lib.hid (HX2.out.below b HX2.out.lt)
  have HB3 := Lib.hid (HB2.out.trans (b.mono HB2.out.size))
  clear b HX2 HB2
  go_wp2_with (refine wpList_load_row_w (by rfl) 23 _ rfl b0 rfl 23 (adv y) (0, 0) _ ?_ Try.underlying23 rfl ad_size ?_; exact HX3.out)
  refine (EncodeAddR_any y W3).mono ?_
  rintro e W4 ⟨rfl, b⟩
  rw [HAE.out]
  have HB4 := Lib.hid (HB3.out.trans (b.mono HB3.out.size))
  clear b HX3 HB3
  go_wp2_with fail
  refine (EncodeRemove_any F (by have := HFS.out; omega) W4).mono ?_
  rintro e W5 ⟨rfl, b⟩
  rw [HCD.out]
  have HB5 := Lib.hid (HB4.out.trans (b.mono HB4.out.size))
  clear b HB4
  go_wp2_with fail
  refine (EncodeRemoveR_any F (by have := HFS.out; omega) W5).mono ?_
  rintro e W6 ⟨rfl, b⟩
  rw [HCD.out]
  have HB6 := Lib.hid (HB5.out.trans (b.mono HB5.out.size))
  clear b HB5
  go_wp2_with fail
  refine (works_t W6).mono ?_
  rintro e W7 ⟨rfl, b⟩
  have HB7 := Lib.hid (HB6.out.trans (b.mono HB6.out.size))
  clear b
  go_wp2_with fail
  go_ret
  exact ⟨rfl, by have q := HB7.out; first | exact q | (rw [HE0.out]; exact q)⟩

theorem own : ownKnob Try.prog.godebug = none := by kernel_rfl
theorem laidOut : laidOutB Try.prog = true := by kernel_rfl

set_option maxRecDepth 100000 in
theorem lifted (os : Os) (started : os.Started) (H : Type) (enc : TypeId × Value → H) :
    ReturnsInHanded {} Try.checked os 3 .any (Rows.addrLaysSpec.pre6 enc Try.prog Try.f3 Rows.addrLaysRow.domain false) (Rows.addrLaysSpec.post enc Try.prog Try.f3 false true false false) := by
  refine returnsInHanded_of_change_sized (C := Try.checked) own started (by kernel_rfl) Try.func3
    (ChangeSpec.witness6 (enc := enc) (C := Try.checked) false ⟨#[], #[.agg #[.bool false, .int .i64 0, .string ByteArray.empty, .bool false, .int .i64 0, .string ByteArray.empty], .string ByteArray.empty], []⟩ 8 (by kernel_rfl) (by kernel_rfl) (by kernel_rfl) (by kernel_rfl)) ?_
  intro W base args ds gs before hval0 hW hcnd hsz0 _
  have hsz : (DataW.weightsEach Try.prog (Try.f3.params.toList ++ Rows.addrLaysSpec.plain.varTypes Try.prog) (ds ++ gs)).all (· ≤ reachBytes) = true := hsz0
  have hval : ∀ (j : Nat) t v, Try.f3.params[j]? = some t → args[j]? = some v → Value.okWide Try.prog W .any base t v := hval0
  have hW' := hW
  obtain ⟨p, q, hA0, hV, rfl, hfz, hnd⟩ := hW
  have hA : DataW.TrodAll enc Try.prog W 0 (fun _ => true) true Try.f3.params.toList args.toList ds p := hA0
  rw [Try.params3] at hA hval hsz
  obtain ⟨v0, vs0, d0, ds0, p0, q0, hargs, rfl, rfl, h0, r0⟩ := trodAll_cons hA
  obtain ⟨v1, vs1, d1, ds1, p1, q1, rfl, rfl, rfl, h1, r1⟩ := trodAll_cons r0
  obtain ⟨rfl, rfl, rfl⟩ := trodAll_nil r1
  obtain rfl : args = #[v0, v1] := by cases args; simp_all
  obtain ⟨rfl, rfl⟩ := trodVars_none hV
  have k0 := h0
  have lt0 : ∀ x ∈ p0, x.block < W.heap.size := by obtain ⟨m, hm⟩ := k0; exact DataW.trod_lt m _ _ _ hm
  obtain ⟨x, rfl, _⟩ := open_add (hval 0 23 v0 rfl rfl) h0
  obtain ⟨a1, rfl, rfl, rfl, w1⟩ := open_string Try.underlying9 (hval 1 9 v1 rfl rfl) h1
  have z1 : a1.size ≤ 140737488351232 := by have := sized_string hsz (j := 1) (t := 9) rfl rfl; simpa [reachBytes] using this
  clear hA0 hval0
  simp only [List.append_nil] at hW'
  refine (walk x a1 z1 W).mono fun e W' ⟨he, bel⟩ => ?_
  subst he
  exact ⟨_, rfl, _, _, _, [], _, [], hW', trodAll_mk1 (shut_bool Try.underlying4 _), (trodAll_cons_mk (Below.trod laidOut (by kernel_rfl) (of_decide_eq_true (by kernel_rfl)) k0 bel lt0) (trodAll_cons_mk (shut_string Try.underlying9 w1) trodAll_mk0)), rfl, bel.frame _, fun h => by cases h⟩

theorem over : Rows.addrLaysRow.holds Try.pinned (OpenSpec.ofChange Rows.addrLaysSpec) :=
  OpenClaim.holds_of_wide 3 Try.f3 rfl rfl rfl rfl rfl rfl rfl ⟨rfl, rfl, rfl, rfl, rfl⟩ rfl rfl rfl rfl rfl (by kernel_rfl) Try.func3 (by kernel_rfl)
    (of_decide_eq_true (by kernel_rfl)) (by unfold Func.isWrapper; first | (rw [if_pos (by decide +kernel)]; kernel_rfl) | (rw [if_neg (by decide +kernel)]; exact ⟨rfl, rfl⟩))
    (fun os started H enc _ => lifted os started H enc)

theorem proved : Rows.AddrLaysSaid := over
#print axioms proved
end Go.Proofs.Ytcofdiamlmlhfaa.addrLays
