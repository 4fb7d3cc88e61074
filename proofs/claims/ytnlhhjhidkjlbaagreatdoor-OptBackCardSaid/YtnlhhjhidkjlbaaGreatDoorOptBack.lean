/-
  OptBack, put together of OptBack.
-/
import Derived.Test.YtnlhhjhidkjlbaaGreatDoorAllBase
import Derived.Test.YtnlhhjhidkjlbaaGreatDoorAllOpt1
namespace Go.Proofs.YtnlhhjhidkjlbaaGreatDoor.L14.optBack
open Go Go.ChangeShapes Go.WideShapes Go.ChangeAt Go.RowKit
set_option linter.unusedVariables false
set_option linter.unusedSimpArgs false

theorem boxed {w U : World} {X : Nat} {cs : Array Value} {T : TypeId} (hX : X = w.heap.size) (hU : U = w.alloc (.cells cs T)) : Blk U X T cs ∧ Below w.heap.size w U := by
  subst hX; subst hU
  exact ⟨Blk.new _ _ _, (Below.refl _ w).alloc (Nat.le_refl _) _⟩
theorem boolne {ρ : Operand → Value} {o : Oper} {w : World} (u : TypeId) (x y : Operand) (B : Bool) (ho : o.op = .binOp .neq 4 x y u) (hx : ρ x = .bool B) (hy : ρ y = .bool B) : (execOp ρ o).run Tryz.prog w = .ok (.value (.bool false)) w := by
  unfold execOp
  rw [ho]
  simp only [hx, hy]
  cases B <;> kernel_rfl
theorem gtr_f {ρ : Operand → Value} {o : Oper} {w : World} (t u : TypeId) (x y : Operand) (a b : Int) (ho : o.op = .binOp .gtr t x y u) (hx : ρ x = .int .i64 a) (hy : ρ y = .int .i64 b) (h : ¬ b < a) : (execOp ρ o).run Tryz.prog w = .ok (.value (.bool false)) w := by
  unfold execOp
  rw [ho]
  simp [hx, hy, go_sem]
  omega
theorem buildI {ops : Array Oper} {rest : List Oper} {op : Oper} {a : Act} {w : World} {Q : Exit → Act → World → Prop} (hw : Region.wanted op (yielded ops a.tmps) = true) (fs : Array (Nat × Operand)) (ho : op.op = .build 53 fs) (x : L4.It) (he : ∀ w, (execOp a.eval op).run Tryz.prog w = .ok (.value (.agg (itv x))) w) (h : wpList Tryz.prog ops Q rest (a.put op.dst (.agg (itv x))) w) : wpList Tryz.prog ops Q (op :: rest) a w := wpv hw _ (he w) h
set_option maxHeartbeats 4000000 in
set_option maxRecDepth 100000 in
theorem walk (d : Dr) (hd : d.Ok) (f : Dr) (hf : f.Ok) (o : Op) (ho : o.Fit) (w : World) (ht : L10.Tbl w ∧ Hnd w) :
    Calls Tryz.prog 6 #[.agg (drv d), .agg (drv f), .agg (ov o)] w fun e w' => e = .returned (.bool true) ∧ Below w.heap.size w w' := by
  have HT := Lib.hid ht.1
  have HH := Lib.hid ht.2
  have HLD := Lib.hid hd.bs
  have HLF := Lib.hid hf.bs
  obtain ⟨x, hx⟩ := eqx d.op
  obtain ⟨y, hy⟩ := eqx f.op
  obtain ⟨z, hz⟩ := eqx o.sh
  have HXO := Lib.hid (show x.Ok by rw [hx]; exact (d.op_may hd).1)
  have HYO := Lib.hid (show y.Ok by rw [hy]; exact (f.op_may hf).1)
  have HZO := Lib.hid (show z.Ok by rw [hz]; exact o.sh_ok ho)
  have HXM := Lib.hid (show MayO x by rw [hx]; exact (d.op_may hd).2)
  have HYM := Lib.hid (show MayO y by rw [hy]; exact (f.op_may hf).2)
  have HCX := Lib.hid (show ∀ W, Calls Tryz.prog 11 #[.agg (drv d)] W fun e w' => e = .returned (.agg (ov x)) ∧ Below W.heap.size W w' from fun W => by rw [hx]; exact Opt_any d hd W)
  have HCY := Lib.hid (show ∀ W, Calls Tryz.prog 11 #[.agg (drv f)] W fun e w' => e = .returned (.agg (ov y)) ∧ Below W.heap.size W w' from fun W => by rw [hy]; exact Opt_any f hf W)
  have HCZ := Lib.hid (show ∀ W, Calls Tryz.prog 10 #[.agg (ov o)] W fun e w' => e = .returned (.agg (ov z)) ∧ Below W.heap.size W w' from fun W => by rw [hz]; exact short_any o W)
  obtain ⟨S, hS⟩ := eqx x.body.1
  obtain ⟨T, hT⟩ := eqx y.body.1
  have HSS := Lib.hid (show 1 ≤ S.size ∧ S.size ≤ 38 by rw [hS]; exact body_le x HXM.out.1)
  have HES := Lib.hid (show encV x = .tuple #[.agg (itv (30, S)), .int .i64 0] by unfold encV; rw [encO_t HXM.out, hS])
  have HET := Lib.hid (show encV y = .tuple #[.agg (itv (30, T)), .int .i64 0] by unfold encV; rw [encO_t HYM.out, hT])
  have HDS := Lib.hid (show dcV 30 S = .tuple #[.agg (ov x), .int .i64 0] by unfold dcV; rw [hS, may_dec HXO.out HXM.out])
  obtain ⟨B, hB⟩ : ∃ B : Bool, B = true ↔ x = y := by classical exact ⟨decide (x = y), by simp⟩
  have HBO := Lib.hid hB
  have HBI := Lib.hid (show B = true ↔ ((30, S) : L4.It) = (30, T) by
    rw [hB]
    exact ⟨fun e => by rw [hS, hT, e], fun e => may_inj HXO.out HXM.out HYO.out HYM.out (by rw [← hS, ← hT]; exact congrArg Prod.snd e)⟩)
  clear ht hd hf ho hx hy hz hS hT hB
  go_enter Tryz.func6, Tryz.ntmps6
  go_wp2_with (first
        | (refine wp_box rfl 48 _ rfl (drv d) rfl ?_; intro V1 Xd hX hU; have hB := (boxed hX hU).2; have Hd_1 := Lib.hid (boxed hX hU).1; have HB_1 := Lib.hid (hB); clear hX hU hB)
        | (refine wp_box rfl 48 _ rfl (drv f) rfl ?_; intro V2 Xf hX hU; have hB := (boxed hX hU).2; have Hf_2 := Lib.hid (boxed hX hU).1; have HB_2 := Lib.hid (HB_1.out.trans (hB.mono HB_1.out.size)); have Hd_2 := Lib.hid (Hd_1.out.below hB Hd_1.out.lt); clear hX hU hB)
        | (refine wp_box rfl 44 _ rfl (ov o) rfl ?_; intro V3 Xo hX hU; have hB := (boxed hX hU).2; have Ho_3 := Lib.hid (boxed hX hU).1; have HB_3 := Lib.hid (HB_2.out.trans (hB.mono HB_2.out.size)); have Hd_3 := Lib.hid (Hd_2.out.below hB Hd_2.out.lt); have Hf_3 := Lib.hid (Hf_2.out.below hB Hf_2.out.lt); clear hX hU hB))
  refine (works_t V3 (HT.out.below HB_3.out) (HH.out.below HB_3.out)).mono ?_
  rintro e U4 ⟨rfl, q⟩
  have HB_4 := Lib.hid (HB_3.out.trans (q.mono HB_3.out.size))
  have Hd_4 := Lib.hid (Hd_3.out.below q Hd_3.out.lt)
  have Hf_4 := Lib.hid (Hf_3.out.below q Hf_3.out.lt)
  have Ho_4 := Lib.hid (Ho_3.out.below q Ho_3.out.lt)
  clear q
  go_upto_region 3 with fail
  refine Code.wp_mono (Q := fun e a' wx => e = .normal ∧ ∃ pX qX, a' = ⟨List.toArray (Value.agg (drv d) :: Value.agg (drv f) :: Value.agg (ov o) :: Value.pointer (some ⟨Xd, 0, none⟩) :: Value.pointer (some ⟨Xf, 0, none⟩) :: Value.pointer (some ⟨Xo, 0, none⟩) :: Value.bool false :: Value.pointer (some ⟨pX, 0, none⟩) :: Value.pointer (some ⟨qX, 0, none⟩) :: undef :: undef :: undef :: undef :: undef :: undef :: undef :: undef :: Value.bool true :: Value.bool false :: Value.agg (drv d) :: Value.agg (ov x) :: Value.agg (drv f) :: Value.agg (ov y) :: undef :: undef :: undef :: undef :: undef :: undef :: undef :: undef :: undef :: undef :: undef :: undef :: undef :: undef :: undef :: undef :: undef :: undef :: undef :: undef :: undef :: undef :: undef :: undef :: undef :: undef :: undef :: undef :: undef :: undef :: undef :: undef :: undef :: undef :: undef :: undef :: undef :: undef :: undef :: undef :: undef :: undef :: undef :: undef :: undef :: undef :: undef :: undef :: undef :: undef :: undef :: undef :: undef :: undef :: undef :: undef :: undef :: undef :: undef :: undef :: undef :: undef :: undef :: undef :: undef :: undef :: undef :: undef :: undef :: undef :: undef :: undef :: undef :: undef :: undef :: undef :: undef :: undef :: undef :: undef :: undef :: undef :: undef :: undef :: undef :: undef :: undef :: undef :: undef :: []), []⟩ ∧ Blk wx pX 44 (ov x) ∧ Blk wx qX 44 (ov y) ∧ Below U4.heap.size U4 wx ∧ U4.heap.size ≤ pX ∧ U4.heap.size ≤ qX ∧ pX ≠ qX) ?_ ?_
  · intro e a' wx h
    obtain ⟨rfl, pX, qX, rfl, hp, hq, hb, lp, lq, hne⟩ := h
    have HP := Lib.hid hp
    have HQ := Lib.hid hq
    clear hp hq hne
    have HB_101 := Lib.hid (HB_4.out.trans (hb.mono HB_4.out.size))
    have Ho_101 := Lib.hid (Ho_4.out.below hb Ho_4.out.lt)
    have HNP := Lib.hid (show w.heap.size ≤ pX from Nat.le_trans HB_4.out.size lp)
    clear hb lp lq
    go_wp2_with (refine ldO rfl _ rfl pX (by kernel_rfl) x HP.out ?_)
    refine (answer (Encode_any x HXO.out wx (HT.out.below HB_101.out) (HH.out.below HB_101.out)) (v' := .tuple #[.agg (itv (30, S)), .int .i64 0]) HES.out).mono ?_
    rintro e U102 ⟨rfl, q⟩
    have HB_102 := Lib.hid (HB_101.out.trans (q.mono HB_101.out.size))
    have Ho_102 := Lib.hid (Ho_101.out.below q Ho_101.out.lt)
    have Hx_102 := Lib.hid (HP.out.below q HP.out.lt)
    have Hy_102 := Lib.hid (HQ.out.below q HQ.out.lt)
    clear q
    go_upto_region 5 with (refine wp_varI rfl rfl 9 rfl rfl _ rfl (30, S) (fun _ => by kernel_rfl) (fun _ => by kernel_rfl) ?_; intro V103 Xix hb hB hx; have Hix_103 := Lib.hid hb; have Gix := Lib.hid (Nat.le_trans HB_102.out.size hx); have HB_103 := Lib.hid (HB_102.out.trans (hB.mono HB_102.out.size)); have Ho_103 := Lib.hid (Ho_102.out.below hB Ho_102.out.lt); have Hx_103 := Lib.hid (Hx_102.out.below hB Hx_102.out.lt); have Hy_103 := Lib.hid (Hy_102.out.below hB Hy_102.out.lt); clear hb hB hx)
    go_wp2_with (refine ldO rfl _ rfl qX (by kernel_rfl) y Hy_103.out ?_)
    refine (answer (Encode_any y HYO.out V103 (HT.out.below HB_103.out) (HH.out.below HB_103.out)) (v' := .tuple #[.agg (itv (30, T)), .int .i64 0]) HET.out).mono ?_
    rintro e U104 ⟨rfl, q⟩
    have HB_104 := Lib.hid (HB_103.out.trans (q.mono HB_103.out.size))
    have Ho_104 := Lib.hid (Ho_103.out.below q Ho_103.out.lt)
    have Hx_104 := Lib.hid (Hx_103.out.below q Hx_103.out.lt)
    have Hy_104 := Lib.hid (Hy_103.out.below q Hy_103.out.lt)
    have Hix_104 := Lib.hid (Hix_103.out.below q Hix_103.out.lt)
    clear q
    go_upto_region 6 with (refine wp_varI rfl rfl 11 rfl rfl _ rfl (30, T) (fun _ => by kernel_rfl) (fun _ => by kernel_rfl) ?_; intro V105 Xiy hb hB hx; have Hiy_105 := Lib.hid hb; have Giy := Lib.hid (Nat.le_trans HB_104.out.size hx); have HB_105 := Lib.hid (HB_104.out.trans (hB.mono HB_104.out.size)); have Ho_105 := Lib.hid (Ho_104.out.below hB Ho_104.out.lt); have Hx_105 := Lib.hid (Hx_104.out.below hB Hx_104.out.lt); have Hy_105 := Lib.hid (Hy_104.out.below hB Hy_104.out.lt); have Hix_105 := Lib.hid (Hix_104.out.below hB Hix_104.out.lt); clear hb hB hx)
    go_wp2_with (refine ldI rfl _ rfl Xix (by kernel_rfl) (30, S) Hix_105.out ?_)
    refine (answer (Decode_any 30 S (by have := HSS.out; omega) V105 (HT.out.below HB_105.out) (HH.out.below HB_105.out)) (v' := .tuple #[.agg (ov x), .int .i64 0]) HDS.out).mono ?_
    rintro e U106 ⟨rfl, q⟩
    have HB_106 := Lib.hid (HB_105.out.trans (q.mono HB_105.out.size))
    have Ho_106 := Lib.hid (Ho_105.out.below q Ho_105.out.lt)
    have Hx_106 := Lib.hid (Hx_105.out.below q Hx_105.out.lt)
    have Hy_106 := Lib.hid (Hy_105.out.below q Hy_105.out.lt)
    have Hix_106 := Lib.hid (Hix_105.out.below q Hix_105.out.lt)
    have Hiy_106 := Lib.hid (Hiy_105.out.below q Hiy_105.out.lt)
    clear q
    go_upto_region 7 with (refine wp_varO rfl rfl 13 rfl rfl _ rfl x (fun _ => by kernel_rfl) (fun _ => by kernel_rfl) ?_; intro V107 Xbk hb hB hx; have Hbk_107 := Lib.hid hb; have Gbk := Lib.hid (Nat.le_trans HB_106.out.size hx); have HB_107 := Lib.hid (HB_106.out.trans (hB.mono HB_106.out.size)); have Ho_107 := Lib.hid (Ho_106.out.below hB Ho_106.out.lt); have Hx_107 := Lib.hid (Hx_106.out.below hB Hx_106.out.lt); have Hy_107 := Lib.hid (Hy_106.out.below hB Hy_106.out.lt); have Hix_107 := Lib.hid (Hix_106.out.below hB Hix_106.out.lt); have Hiy_107 := Lib.hid (Hiy_106.out.below hB Hiy_106.out.lt); have NBK := Lib.hid (show Xo ≠ Xbk from Nat.ne_of_lt (Nat.lt_of_lt_of_le Ho_106.out.lt hx)); clear hb hB hx)
    refine hStart (n := 40) rfl ?_
    intro Z0 B0
    refine stF 0 (.int .i64 0) rfl B0 (stF 1 (.bool false) rfl B0 (stF 2 (.bool false) rfl B0 (stF 3 (.int .i64 0) rfl B0 (stF 4 (.bool false) rfl B0 (stF 5 (.bool false) rfl B0 (stF 6 (.bool false) rfl B0 (stF 7 (.int .i64 0) rfl B0 (stF 8 (.bool false) rfl B0 (stF 9 (.bool false) rfl B0 ?_)))))))))
    refine stF 10 (.bool false) rfl B0 (stG 11 (.agg (ov x)) rfl B0 (fun W q => xRw 44 (.tmp 13) Xbk (Hbk_107.out.below q Hbk_107.out.lt) Tryz.underlying44 (ov_info _)) (stG 12 (.agg (ov x)) rfl B0 (fun W q => xRw 44 (.tmp 7) pX (Hx_107.out.below q Hx_107.out.lt) Tryz.underlying44 (ov_info _)) (stG 13 (.bool false) rfl B0 (fun W _ => ex_aggne 44 44 (.tmp 49) (.tmp 50) (by kernel_rfl) (ov x) (ov x) (by kernel_rfl) (by kernel_rfl) (by kernel_rfl) true (opt_equal x x true ⟨fun _ => rfl, fun _ => rfl⟩ W)) (stF 14 (.bool false) rfl B0 (stF 15 (.bool false) rfl B0 (stG 16 (.agg (ov x)) rfl B0 (fun W q => xRw 44 (.tmp 7) pX (Hx_107.out.below q Hx_107.out.lt) Tryz.underlying44 (ov_info _)) ?_))))))
    refine stB 17 (v := .bool true) rfl (answer (May_any x HXO.out Z0 ((HT.out.below HB_107.out).below B0) ((HH.out.below HB_107.out).below B0)) (v' := .bool true) (by rw [decide_eq_true HXM.out])) B0 ?_
    intro Z1 B1
    clear B0
    refine stF 18 (.bool false) rfl B1 (stF 19 (.bool false) rfl B1 (stF 20 (.bool false) rfl B1 (stG 21 (.agg (itv (30, S))) rfl B1 (fun W q => xRw 53 (.tmp 9) Xix (Hix_107.out.below q Hix_107.out.lt) Tryz.underlying53 (it_info _)) (stG 22 (.agg (itv (30, T))) rfl B1 (fun W q => xRw 53 (.tmp 11) Xiy (Hiy_107.out.below q Hiy_107.out.lt) Tryz.underlying53 (it_info _)) (stG 23 (.bool B) rfl B1 (fun W _ => xAb 53 53 (.tmp 59) (.tmp 60) (itv (30, S)) (itv (30, T)) B (item_equal (30, S) (30, T) B HBI.out W)) (stG 24 (.agg (ov x)) rfl B1 (fun W q => xRw 44 (.tmp 7) pX (Hx_107.out.below q Hx_107.out.lt) Tryz.underlying44 (ov_info _)) (stG 25 (.agg (ov y)) rfl B1 (fun W q => xRw 44 (.tmp 8) qX (Hy_107.out.below q Hy_107.out.lt) Tryz.underlying44 (ov_info _)) (stG 26 (.bool B) rfl B1 (fun W _ => xAb 44 44 (.tmp 62) (.tmp 63) (ov x) (ov y) B (opt_equal x y B HBO.out W)) (stG 27 (.bool false) rfl B1 (fun W _ => boolne 4 (.tmp 61) (.tmp 64) B (by kernel_rfl) (by kernel_rfl) (by kernel_rfl)) ?_)))))))))
    refine stF 28 (.bool false) rfl B1 (stF 29 (.bool false) rfl B1 (stF 30 (.pointer (some ⟨Xix, 0, none⟩)) rfl B1 (stG 31 (.int .i64 30) rfl B1 (fun W q => xLd 3 (.tmp 68) ⟨Xix, 0, none⟩ (((Hix_107.out.below q Hix_107.out.lt).cell 0).trans rfl)) (stF 32 (.bool false) rfl B1 (stF 33 (.bool false) rfl B1 (stF 34 (.bool false) rfl B1 (stF 35 (.pointer (some ⟨Xix, 1, none⟩)) rfl B1 (stG 36 (.string S) rfl B1 (fun W q => xLd 9 (.tmp 73) ⟨Xix, 1, none⟩ (((Hix_107.out.below q Hix_107.out.lt).cell 1).trans rfl)) (stF 37 (.int .i64 (S.size : Int)) rfl B1 ?_)))))))))
    refine stG 38 (.bool false) rfl B1 (fun W _ => gtr_f 3 3 (.tmp 75) (.const (.int .i64 38)) (S.size : Int) 38 (by kernel_rfl) (by kernel_rfl) (by kernel_rfl) (by have := HSS.out; omega)) (stF 39 (.bool false) rfl B1 ?_)
    refine held_end_at ⟨List.toArray (Value.agg (drv d) :: Value.agg (drv f) :: Value.agg (ov o) :: Value.pointer (some ⟨Xd, 0, none⟩) :: Value.pointer (some ⟨Xf, 0, none⟩) :: Value.pointer (some ⟨Xo, 0, none⟩) :: Value.bool false :: Value.pointer (some ⟨pX, 0, none⟩) :: Value.pointer (some ⟨qX, 0, none⟩) :: Value.pointer (some ⟨Xix, 0, none⟩) :: Value.int .i64 0 :: Value.pointer (some ⟨Xiy, 0, none⟩) :: Value.int .i64 0 :: Value.pointer (some ⟨Xbk, 0, none⟩) :: Value.int .i64 0 :: undef :: undef :: Value.bool true :: Value.bool false :: Value.agg (drv d) :: Value.agg (ov x) :: Value.agg (drv f) :: Value.agg (ov y) :: Value.tuple #[.agg (itv (30, S)), .int .i64 0] :: Value.agg (ov x) :: Value.tuple #[.agg (itv (30, S)), .int .i64 0] :: Value.agg (itv (30, S)) :: Value.int .i64 0 :: Value.tuple #[.agg (itv (30, T)), .int .i64 0] :: Value.agg (ov y) :: Value.tuple #[.agg (itv (30, T)), .int .i64 0] :: Value.agg (itv (30, T)) :: Value.int .i64 0 :: Value.tuple #[.agg (ov x), .int .i64 0] :: Value.agg (itv (30, S)) :: Value.tuple #[.agg (ov x), .int .i64 0] :: Value.agg (ov x) :: Value.int .i64 0 :: Value.int .i64 0 :: Value.bool false :: Value.bool false :: Value.int .i64 0 :: Value.bool false :: Value.bool false :: Value.bool false :: Value.int .i64 0 :: Value.bool false :: Value.bool false :: Value.bool false :: Value.agg (ov x) :: Value.agg (ov x) :: Value.bool false :: Value.bool false :: Value.bool false :: Value.agg (ov x) :: Value.bool true :: Value.bool false :: Value.bool false :: Value.bool false :: Value.agg (itv (30, S)) :: Value.agg (itv (30, T)) :: Value.bool B :: Value.agg (ov x) :: Value.agg (ov y) :: Value.bool B :: Value.bool false :: Value.bool false :: Value.bool false :: Value.pointer (some ⟨Xix, 0, none⟩) :: Value.int .i64 30 :: Value.bool false :: Value.bool false :: Value.bool false :: Value.pointer (some ⟨Xix, 1, none⟩) :: Value.string S :: Value.int .i64 (S.size : Int) :: Value.bool false :: Value.bool false :: undef :: undef :: undef :: undef :: undef :: undef :: undef :: undef :: undef :: undef :: undef :: undef :: undef :: undef :: undef :: undef :: undef :: undef :: undef :: undef :: undef :: undef :: undef :: undef :: undef :: undef :: undef :: undef :: undef :: undef :: undef :: undef :: undef :: undef :: []), []⟩ (by kernel_rfl) (by kernel_rfl) ?_
    have HB_108 := Lib.hid (HB_107.out.trans (B1.mono HB_107.out.size))
    have Ho_108 := Lib.hid (Ho_107.out.below B1 Ho_107.out.lt)
    have Hbk_108 := Lib.hid (Hbk_107.out.below B1 Hbk_107.out.lt)
    clear B1
    by_cases hM : MayO z
    · skip
      have HM := Lib.hid hM
      obtain ⟨U, hU⟩ := eqx z.body.1
      have HUS := Lib.hid (show U.size ≤ 38 by rw [hU]; exact (body_le z hM.1).2)
      have HEZ := Lib.hid (show encV z = .tuple #[.agg (itv (30, U)), .int .i64 0] by unfold encV; rw [encO_t hM, hU])
      have HDU := Lib.hid (show dcV 30 U = .tuple #[.agg (ov z), .int .i64 0] by unfold dcV; rw [hU, may_dec HZO.out hM])
      clear hM hU
      go_wp2_with (refine ldO rfl _ rfl Xo (by kernel_rfl) o Ho_108.out ?_)
      refine (HCZ.out Z1).mono ?_
      rintro e U109 ⟨rfl, q⟩
      have HB_109 := Lib.hid (HB_108.out.trans (q.mono HB_108.out.size))
      have Ho_109 := Lib.hid (Ho_108.out.below q Ho_108.out.lt)
      have Hbk_109 := Lib.hid (Hbk_108.out.below q Hbk_108.out.lt)
      clear q
      go_wp2_with fail
      refine (answer (Encode_any z HZO.out U109 (HT.out.below HB_109.out) (HH.out.below HB_109.out)) (v' := .tuple #[.agg (itv (30, U)), .int .i64 0]) HEZ.out).mono ?_
      rintro e U110 ⟨rfl, q⟩
      have HB_110 := Lib.hid (HB_109.out.trans (q.mono HB_109.out.size))
      have Ho_110 := Lib.hid (Ho_109.out.below q Ho_109.out.lt)
      have Hbk_110 := Lib.hid (Hbk_109.out.below q Hbk_109.out.lt)
      clear q
      go_upto_region 10 with (refine wp_varI rfl rfl 15 rfl rfl _ rfl (30, U) (fun _ => by kernel_rfl) (fun _ => by kernel_rfl) ?_; intro V111 Xiz hb hB hx; have Hiz_111 := Lib.hid hb; have Giz := Lib.hid (Nat.le_trans HB_110.out.size hx); have HB_111 := Lib.hid (HB_110.out.trans (hB.mono HB_110.out.size)); have Ho_111 := Lib.hid (Ho_110.out.below hB Ho_110.out.lt); have Hbk_111 := Lib.hid (Hbk_110.out.below hB Hbk_110.out.lt); clear hb hB hx)
      go_wp2_with (refine ldO rfl _ rfl Xo (by kernel_rfl) o Ho_111.out ?_)
      refine (HCZ.out V111).mono ?_
      rintro e U112 ⟨rfl, q⟩
      have HB_112 := Lib.hid (HB_111.out.trans (q.mono HB_111.out.size))
      have Ho_112 := Lib.hid (Ho_111.out.below q Ho_111.out.lt)
      have Hbk_112 := Lib.hid (Hbk_111.out.below q Hbk_111.out.lt)
      have Hiz_112 := Lib.hid (Hiz_111.out.below q Hiz_111.out.lt)
      clear q
      go_wp2_with fail
      refine (answer (May_any z HZO.out U112 (HT.out.below HB_112.out) (HH.out.below HB_112.out)) (v' := .bool true) (by rw [decide_eq_true HM.out])).mono ?_
      rintro e U113 ⟨rfl, q⟩
      have HB_113 := Lib.hid (HB_112.out.trans (q.mono HB_112.out.size))
      have Ho_113 := Lib.hid (Ho_112.out.below q Ho_112.out.lt)
      have Hbk_113 := Lib.hid (Hbk_112.out.below q Hbk_112.out.lt)
      have Hiz_113 := Lib.hid (Hiz_112.out.below q Hiz_112.out.lt)
      clear q
      go_wp2_with (refine ldI rfl _ rfl Xiz (by kernel_rfl) (30, U) Hiz_113.out ?_)
      refine (answer (Decode_any 30 U (by have := HUS.out; omega) U113 (HT.out.below HB_113.out) (HH.out.below HB_113.out)) (v' := .tuple #[.agg (ov z), .int .i64 0]) HDU.out).mono ?_
      rintro e U114 ⟨rfl, q⟩
      have HB_114 := Lib.hid (HB_113.out.trans (q.mono HB_113.out.size))
      have Ho_114 := Lib.hid (Ho_113.out.below q Ho_113.out.lt)
      have Hbk_114 := Lib.hid (Hbk_113.out.below q Hbk_113.out.lt)
      have Hiz_114 := Lib.hid (Hiz_113.out.below q Hiz_113.out.lt)
      clear q
      go_upto_region 13 with (refine st_row rfl 44 _ _ rfl Xbk rfl 44 (ov x) (ov z) rfl ?_ ((ov_size _).trans (ov_size _).symm) (ov_info _) (ov_one _) ?_; exact Hbk_114.out; intro Y1 g3 n3; have HBK := Lib.hid n3; have HBY := Lib.hid (HB_114.out.trans (below_of_only g3 Gbk.out HB_114.out.size)); have HOY := Lib.hid (Ho_114.out.grown g3 (by simp; exact NBK.out)); clear g3 n3)
      refine hStart (n := 13) rfl ?_
      intro Z2 B2
      refine stF 0 (.int .i64 0) rfl B2 (stF 1 (.bool true) rfl B2 (stF 2 (.bool true) rfl B2 (stF 3 (.int .i64 0) rfl B2 (stF 4 (.bool true) rfl B2 (stF 5 (.bool true) rfl B2 (stF 6 (.bool true) rfl B2 (stG 7 (.agg (ov z)) rfl B2 (fun W q => xRw 44 (.tmp 13) Xbk (HBK.out.below q HBK.out.lt) Tryz.underlying44 (ov_info _)) (stG 8 (.agg (ov o)) rfl B2 (fun W q => xRw 44 (.tmp 5) Xo (HOY.out.below q HOY.out.lt) Tryz.underlying44 (ov_info _)) ?_))))))))
      refine stB 9 (v := .agg (ov z)) rfl (HCZ.out Z2) B2 ?_
      intro Z3 B3
      clear B2
      refine stG 10 (.bool true) rfl B3 (fun W _ => xAb 44 44 (.tmp 107) (.tmp 109) (ov z) (ov z) true (opt_equal z z true ⟨fun _ => rfl, fun _ => rfl⟩ W)) (stF 11 (.bool true) rfl B3 (stF 12 (.bool true) rfl B3 ?_))
      refine held_end_at ⟨List.toArray (Value.agg (drv d) :: Value.agg (drv f) :: Value.agg (ov o) :: Value.pointer (some ⟨Xd, 0, none⟩) :: Value.pointer (some ⟨Xf, 0, none⟩) :: Value.pointer (some ⟨Xo, 0, none⟩) :: Value.bool true :: Value.pointer (some ⟨pX, 0, none⟩) :: Value.pointer (some ⟨qX, 0, none⟩) :: Value.pointer (some ⟨Xix, 0, none⟩) :: Value.int .i64 0 :: Value.pointer (some ⟨Xiy, 0, none⟩) :: Value.int .i64 0 :: Value.pointer (some ⟨Xbk, 0, none⟩) :: Value.int .i64 0 :: Value.pointer (some ⟨Xiz, 0, none⟩) :: Value.int .i64 0 :: Value.bool true :: Value.bool false :: Value.agg (drv d) :: Value.agg (ov x) :: Value.agg (drv f) :: Value.agg (ov y) :: Value.tuple #[.agg (itv (30, S)), .int .i64 0] :: Value.agg (ov x) :: Value.tuple #[.agg (itv (30, S)), .int .i64 0] :: Value.agg (itv (30, S)) :: Value.int .i64 0 :: Value.tuple #[.agg (itv (30, T)), .int .i64 0] :: Value.agg (ov y) :: Value.tuple #[.agg (itv (30, T)), .int .i64 0] :: Value.agg (itv (30, T)) :: Value.int .i64 0 :: Value.tuple #[.agg (ov x), .int .i64 0] :: Value.agg (itv (30, S)) :: Value.tuple #[.agg (ov x), .int .i64 0] :: Value.agg (ov x) :: Value.int .i64 0 :: Value.int .i64 0 :: Value.bool false :: Value.bool false :: Value.int .i64 0 :: Value.bool false :: Value.bool false :: Value.bool false :: Value.int .i64 0 :: Value.bool false :: Value.bool false :: Value.bool false :: Value.agg (ov x) :: Value.agg (ov x) :: Value.bool false :: Value.bool false :: Value.bool false :: Value.agg (ov x) :: Value.bool true :: Value.bool false :: Value.bool false :: Value.bool false :: Value.agg (itv (30, S)) :: Value.agg (itv (30, T)) :: Value.bool B :: Value.agg (ov x) :: Value.agg (ov y) :: Value.bool B :: Value.bool false :: Value.bool false :: Value.bool false :: Value.pointer (some ⟨Xix, 0, none⟩) :: Value.int .i64 30 :: Value.bool false :: Value.bool false :: Value.bool false :: Value.pointer (some ⟨Xix, 1, none⟩) :: Value.string S :: Value.int .i64 (S.size : Int) :: Value.bool false :: Value.bool false :: Value.tuple #[.agg (itv (30, U)), .int .i64 0] :: Value.agg (ov o) :: Value.agg (ov z) :: Value.tuple #[.agg (itv (30, U)), .int .i64 0] :: Value.agg (itv (30, U)) :: Value.int .i64 0 :: Value.agg (ov o) :: Value.agg (ov z) :: Value.bool true :: Value.bool false :: undef :: undef :: undef :: undef :: undef :: undef :: undef :: Value.tuple #[.agg (ov z), .int .i64 0] :: Value.agg (itv (30, U)) :: Value.tuple #[.agg (ov z), .int .i64 0] :: Value.agg (ov z) :: Value.int .i64 0 :: Value.int .i64 0 :: Value.bool true :: Value.bool true :: Value.int .i64 0 :: Value.bool true :: Value.bool true :: Value.bool true :: Value.agg (ov z) :: Value.agg (ov o) :: Value.agg (ov z) :: Value.bool true :: Value.bool true :: []), []⟩ (by kernel_rfl) (by kernel_rfl) ?_
      have HB_115 := Lib.hid (HBY.out.trans (B3.mono HBY.out.size))
      clear B3
      go_wp2_with fail
      go_ret
      exact ⟨rfl, HB_115.out⟩
    · skip
      have HM := Lib.hid hM
      have HEZ := Lib.hid (show encV z = .tuple #[.agg (itv (0, ⟨#[]⟩)), .int .i64 2] by unfold encV; rw [encO_f hM])
      clear hM
      go_wp2_with (refine ldO rfl _ rfl Xo (by kernel_rfl) o Ho_108.out ?_)
      refine (HCZ.out Z1).mono ?_
      rintro e U109 ⟨rfl, q⟩
      have HB_109 := Lib.hid (HB_108.out.trans (q.mono HB_108.out.size))
      have Ho_109 := Lib.hid (Ho_108.out.below q Ho_108.out.lt)
      clear q
      go_wp2_with fail
      refine (answer (Encode_any z HZO.out U109 (HT.out.below HB_109.out) (HH.out.below HB_109.out)) (v' := .tuple #[.agg (itv (0, ⟨#[]⟩)), .int .i64 2]) HEZ.out).mono ?_
      rintro e U110 ⟨rfl, q⟩
      have HB_110 := Lib.hid (HB_109.out.trans (q.mono HB_109.out.size))
      have Ho_110 := Lib.hid (Ho_109.out.below q Ho_109.out.lt)
      clear q
      go_upto_region 10 with (refine wp_varI rfl rfl 15 rfl rfl _ rfl (0, ⟨#[]⟩) (fun _ => by kernel_rfl) (fun _ => by kernel_rfl) ?_; intro V111 Xiz hb hB hx; have Hiz_111 := Lib.hid hb; have Giz := Lib.hid (Nat.le_trans HB_110.out.size hx); have HB_111 := Lib.hid (HB_110.out.trans (hB.mono HB_110.out.size)); have Ho_111 := Lib.hid (Ho_110.out.below hB Ho_110.out.lt); clear hb hB hx)
      go_wp2_with (refine ldO rfl _ rfl Xo (by kernel_rfl) o Ho_111.out ?_)
      refine (HCZ.out V111).mono ?_
      rintro e U112 ⟨rfl, q⟩
      have HB_112 := Lib.hid (HB_111.out.trans (q.mono HB_111.out.size))
      have Ho_112 := Lib.hid (Ho_111.out.below q Ho_111.out.lt)
      have Hiz_112 := Lib.hid (Hiz_111.out.below q Hiz_111.out.lt)
      clear q
      go_wp2_with fail
      refine (answer (May_any z HZO.out U112 (HT.out.below HB_112.out) (HH.out.below HB_112.out)) (v' := .bool false) (by rw [decide_eq_false HM.out])).mono ?_
      rintro e U113 ⟨rfl, q⟩
      have HB_113 := Lib.hid (HB_112.out.trans (q.mono HB_112.out.size))
      have Ho_113 := Lib.hid (Ho_112.out.below q Ho_112.out.lt)
      have Hiz_113 := Lib.hid (Hiz_112.out.below q Hiz_112.out.lt)
      clear q
      go_wp2_with (first
                | (refine ldI rfl _ rfl Xiz (by kernel_rfl) (0, ⟨#[]⟩) Hiz_113.out ?_)
                | (refine buildI rfl _ rfl (0, ⟨#[]⟩) (by intro w; kernel_rfl) ?_)
                | (refine eqI rfl _ _ _ rfl (0, ⟨#[]⟩) (0, ⟨#[]⟩) rfl rfl true ⟨fun _ => rfl, fun _ => rfl⟩ ?_))
      go_ret
      exact ⟨rfl, HB_113.out⟩
  · skip
    have B0 : Below U4.heap.size U4 U4.drew := (Below.refl _ U4).drew
    refine walk_start 7 (fun W => Below U4.heap.size U4 W) (by kernel_rfl) (n := 8) rfl ?_
    obtain ⟨W0, hW0⟩ := eqx U4.drew
    rw [← hW0] at B0 ⊢
    clear hW0
    refine wkG 0 (.agg (drv d)) rfl B0 (fun W b => xRw 48 (.tmp 3) Xd (Hd_4.out.below b Hd_4.out.lt) Tryz.underlying48 (dr_size d HLD.out)) (wkG 2 (.agg (drv f)) rfl B0 (fun W b => xRw 48 (.tmp 4) Xf (Hf_4.out.below b Hf_4.out.lt) Tryz.underlying48 (dr_size f HLF.out)) ?_)
    refine walk_three 1 4 5 (by kernel_rfl) ?_ ?_ ?_
    · refine do_call 1 rfl (by kernel_rfl) (by kernel_rfl) (HCX.out _) (fun w' h => bel_in B0 h) ?_
      intro W1 hW1
      have B1 := bel_in B0 hW1
      clear hW1 B0
      refine walk_three 3 4 5 (by kernel_rfl) ?_ ?_ ?_
      · refine do_call 3 rfl (by kernel_rfl) (by kernel_rfl) (HCY.out _) (fun w' h => bel_in B1 h) ?_
        intro W2 hW2
        have B2 := bel_in B1 hW2
        clear hW2 B1
        refine walk_two 4 5 (by kernel_rfl) ?_ ?_
        · obtain ⟨W3, hW3⟩ : ∃ w', w' = W2.alloc (.cells (ov (.none 0)) 44) := ⟨_, rfl⟩
          obtain ⟨g3, hg3⟩ : ∃ g, g = W2.heap.size := ⟨_, rfl⟩
          have N3 : Blk W3 g3 44 (ov (.none 0)) := by rw [hW3, hg3]; exact Blk.new _ _ _
          have B3 : Below U4.heap.size U4 W3 := by rw [hW3]; exact B2.alloc B2.size _
          have L3 : U4.heap.size ≤ g3 := by rw [hg3]; exact B2.size
          refine do_lone (v := .pointer (some ⟨g3, 0, none⟩)) (w' := W3) 4 rfl (by kernel_rfl) (by rw [hW3, hg3]; exact ex_alloc 44 (ov (.none 0)) (by kernel_rfl) opt_zero) B3 ?_
          clear hW3 hg3 B2
          obtain ⟨W4, hW4⟩ : ∃ w', w' = W3.alloc (.cells (ov (.none 0)) 44) := ⟨_, rfl⟩
          obtain ⟨g4, hg4⟩ : ∃ g, g = W3.heap.size := ⟨_, rfl⟩
          have N4 : Blk W4 g4 44 (ov (.none 0)) := by rw [hW4, hg4]; exact Blk.new _ _ _
          have B4 : Below U4.heap.size U4 W4 := by rw [hW4]; exact B3.alloc B3.size _
          have L4 : U4.heap.size ≤ g4 := by rw [hg4]; exact B3.size
          have N4_4 : Blk W4 g3 44 (ov (.none 0)) := by rw [hW4]; exact N3.alloc _
          have E4_4 : g3 ≠ g4 := by rw [hg4]; exact Nat.ne_of_lt N3.lt
          refine walk_one 5 (by kernel_rfl) (do_lone (v := .pointer (some ⟨g4, 0, none⟩)) (w' := W4) 5 rfl (by kernel_rfl) (by rw [hW4, hg4]; exact ex_alloc 44 (ov (.none 0)) (by kernel_rfl) opt_zero) B4 ?_)
          clear hW4 hg4 B3 N3
          obtain ⟨W5, hW5⟩ : ∃ w', w' = W4.setRow g3 (ov x) := ⟨_, rfl⟩
          have N5_4 : Blk W5 g3 44 (ov x) := by rw [hW5]; exact setRow_heap _ _ _ _ _ _ N4_4
          have B5 : Below U4.heap.size U4 W5 := by rw [hW5]; exact L12.below_setRow B4 L3 _
          have N5_5 : Blk W5 g4 44 (ov (.none 0)) := by rw [hW5]; exact N4.same (setRow_other _ _ _ _ (Ne.symm E4_4))
          refine walk_one 6 (by kernel_rfl) (do_skip (w' := W5) 6 rfl (by kernel_rfl) (by rw [hW5]; exact ex_store_row 44 (.tmp 7) (.tmp 20) (by kernel_rfl) g3 (ov x) (by kernel_rfl) (by kernel_rfl) 44 (ov (.none 0)) N4_4 (ov_info _) ((ov_size _).trans (ov_size _).symm) (ov_one _)) B5 ?_)
          clear hW5 B4 N4_4 N4
          obtain ⟨W6, hW6⟩ : ∃ w', w' = W5.setRow g4 (ov y) := ⟨_, rfl⟩
          have N6_5 : Blk W6 g4 44 (ov y) := by rw [hW6]; exact setRow_heap _ _ _ _ _ _ N5_5
          have B6 : Below U4.heap.size U4 W6 := by rw [hW6]; exact L12.below_setRow B5 L4 _
          have N6_4 : Blk W6 g3 44 (ov x) := by rw [hW6]; exact N5_4.same (setRow_other _ _ _ _ E4_4)
          refine walk_one 7 (by kernel_rfl) (do_skip (w' := W6) 7 rfl (by kernel_rfl) (by rw [hW6]; exact ex_store_row 44 (.tmp 8) (.tmp 22) (by kernel_rfl) g4 (ov y) (by kernel_rfl) (by kernel_rfl) 44 (ov (.none 0)) N5_5 (ov_info _) ((ov_size _).trans (ov_size _).symm) (ov_one _)) B6 ?_)
          clear hW6 B5 N5_4 N5_5
          refine walk_end_at ⟨List.toArray ((Value.agg (drv d) : Value) :: Value.agg (drv f) :: Value.agg (ov o) :: .pointer (some ⟨Xd, 0, none⟩) :: .pointer (some ⟨Xf, 0, none⟩) :: Value.pointer (some ⟨Xo, 0, none⟩) :: Value.bool false :: .pointer (some ⟨g3, 0, none⟩) :: .pointer (some ⟨g4, 0, none⟩) :: undef :: undef :: undef :: undef :: undef :: undef :: undef :: undef :: Value.bool true :: Value.bool false :: .agg (drv d) :: .agg (ov x) :: .agg (drv f) :: .agg (ov y) :: undef :: undef :: undef :: undef :: undef :: undef :: undef :: undef :: undef :: undef :: undef :: undef :: undef :: undef :: undef :: undef :: undef :: undef :: undef :: undef :: undef :: undef :: undef :: undef :: undef :: undef :: undef :: undef :: undef :: undef :: undef :: undef :: undef :: undef :: undef :: undef :: undef :: undef :: undef :: undef :: undef :: undef :: undef :: undef :: undef :: undef :: undef :: undef :: undef :: undef :: undef :: undef :: undef :: undef :: undef :: undef :: undef :: undef :: undef :: undef :: undef :: undef :: undef :: undef :: undef :: undef :: undef :: undef :: undef :: undef :: undef :: undef :: undef :: undef :: undef :: undef :: undef :: undef :: undef :: undef :: undef :: undef :: undef :: undef :: undef :: undef :: undef :: undef :: undef :: []), []⟩ (by kernel_rfl) (by kernel_rfl) ?_
          exact ⟨rfl, _, _, rfl, N6_4, N6_5, B6, L3, L4, E4_4⟩
        · obtain ⟨W7, hW7⟩ : ∃ w', w' = W2.alloc (.cells (ov (.none 0)) 44) := ⟨_, rfl⟩
          obtain ⟨g7, hg7⟩ : ∃ g, g = W2.heap.size := ⟨_, rfl⟩
          have N7 : Blk W7 g7 44 (ov (.none 0)) := by rw [hW7, hg7]; exact Blk.new _ _ _
          have B7 : Below U4.heap.size U4 W7 := by rw [hW7]; exact B2.alloc B2.size _
          have L7 : U4.heap.size ≤ g7 := by rw [hg7]; exact B2.size
          refine do_lone (v := .pointer (some ⟨g7, 0, none⟩)) (w' := W7) 5 rfl (by kernel_rfl) (by rw [hW7, hg7]; exact ex_alloc 44 (ov (.none 0)) (by kernel_rfl) opt_zero) B7 ?_
          clear hW7 hg7 B2
          obtain ⟨W8, hW8⟩ : ∃ w', w' = W7.alloc (.cells (ov (.none 0)) 44) := ⟨_, rfl⟩
          obtain ⟨g8, hg8⟩ : ∃ g, g = W7.heap.size := ⟨_, rfl⟩
          have N8 : Blk W8 g8 44 (ov (.none 0)) := by rw [hW8, hg8]; exact Blk.new _ _ _
          have B8 : Below U4.heap.size U4 W8 := by rw [hW8]; exact B7.alloc B7.size _
          have L8 : U4.heap.size ≤ g8 := by rw [hg8]; exact B7.size
          have N8_5 : Blk W8 g7 44 (ov (.none 0)) := by rw [hW8]; exact N7.alloc _
          have E8_5 : g7 ≠ g8 := by rw [hg8]; exact Nat.ne_of_lt N7.lt
          refine walk_one 4 (by kernel_rfl) (do_lone (v := .pointer (some ⟨g8, 0, none⟩)) (w' := W8) 4 rfl (by kernel_rfl) (by rw [hW8, hg8]; exact ex_alloc 44 (ov (.none 0)) (by kernel_rfl) opt_zero) B8 ?_)
          clear hW8 hg8 B7 N7
          obtain ⟨W9, hW9⟩ : ∃ w', w' = W8.setRow g8 (ov x) := ⟨_, rfl⟩
          have N9_4 : Blk W9 g8 44 (ov x) := by rw [hW9]; exact setRow_heap _ _ _ _ _ _ N8
          have B9 : Below U4.heap.size U4 W9 := by rw [hW9]; exact L12.below_setRow B8 L8 _
          have N9_5 : Blk W9 g7 44 (ov (.none 0)) := by rw [hW9]; exact N8_5.same (setRow_other _ _ _ _ E8_5)
          refine walk_one 6 (by kernel_rfl) (do_skip (w' := W9) 6 rfl (by kernel_rfl) (by rw [hW9]; exact ex_store_row 44 (.tmp 7) (.tmp 20) (by kernel_rfl) g8 (ov x) (by kernel_rfl) (by kernel_rfl) 44 (ov (.none 0)) N8 (ov_info _) ((ov_size _).trans (ov_size _).symm) (ov_one _)) B9 ?_)
          clear hW9 B8 N8_5 N8
          obtain ⟨W10, hW10⟩ : ∃ w', w' = W9.setRow g7 (ov y) := ⟨_, rfl⟩
          have N10_5 : Blk W10 g7 44 (ov y) := by rw [hW10]; exact setRow_heap _ _ _ _ _ _ N9_5
          have B10 : Below U4.heap.size U4 W10 := by rw [hW10]; exact L12.below_setRow B9 L7 _
          have N10_4 : Blk W10 g8 44 (ov x) := by rw [hW10]; exact N9_4.same (setRow_other _ _ _ _ (Ne.symm E8_5))
          refine walk_one 7 (by kernel_rfl) (do_skip (w' := W10) 7 rfl (by kernel_rfl) (by rw [hW10]; exact ex_store_row 44 (.tmp 8) (.tmp 22) (by kernel_rfl) g7 (ov y) (by kernel_rfl) (by kernel_rfl) 44 (ov (.none 0)) N9_5 (ov_info _) ((ov_size _).trans (ov_size _).symm) (ov_one _)) B10 ?_)
          clear hW10 B9 N9_4 N9_5
          refine walk_end_at ⟨List.toArray ((Value.agg (drv d) : Value) :: Value.agg (drv f) :: Value.agg (ov o) :: .pointer (some ⟨Xd, 0, none⟩) :: .pointer (some ⟨Xf, 0, none⟩) :: Value.pointer (some ⟨Xo, 0, none⟩) :: Value.bool false :: .pointer (some ⟨g8, 0, none⟩) :: .pointer (some ⟨g7, 0, none⟩) :: undef :: undef :: undef :: undef :: undef :: undef :: undef :: undef :: Value.bool true :: Value.bool false :: .agg (drv d) :: .agg (ov x) :: .agg (drv f) :: .agg (ov y) :: undef :: undef :: undef :: undef :: undef :: undef :: undef :: undef :: undef :: undef :: undef :: undef :: undef :: undef :: undef :: undef :: undef :: undef :: undef :: undef :: undef :: undef :: undef :: undef :: undef :: undef :: undef :: undef :: undef :: undef :: undef :: undef :: undef :: undef :: undef :: undef :: undef :: undef :: undef :: undef :: undef :: undef :: undef :: undef :: undef :: undef :: undef :: undef :: undef :: undef :: undef :: undef :: undef :: undef :: undef :: undef :: undef :: undef :: undef :: undef :: undef :: undef :: undef :: undef :: undef :: undef :: undef :: undef :: undef :: undef :: undef :: undef :: undef :: undef :: undef :: undef :: undef :: undef :: undef :: undef :: undef :: undef :: undef :: undef :: undef :: undef :: undef :: undef :: undef :: []), []⟩ (by kernel_rfl) (by kernel_rfl) ?_
          exact ⟨rfl, _, _, rfl, N10_4, N10_5, B10, L8, L7, (Ne.symm E8_5)⟩
      · obtain ⟨W11, hW11⟩ : ∃ w', w' = W1.alloc (.cells (ov (.none 0)) 44) := ⟨_, rfl⟩
        obtain ⟨g11, hg11⟩ : ∃ g, g = W1.heap.size := ⟨_, rfl⟩
        have N11 : Blk W11 g11 44 (ov (.none 0)) := by rw [hW11, hg11]; exact Blk.new _ _ _
        have B11 : Below U4.heap.size U4 W11 := by rw [hW11]; exact B1.alloc B1.size _
        have L11 : U4.heap.size ≤ g11 := by rw [hg11]; exact B1.size
        refine do_lone (v := .pointer (some ⟨g11, 0, none⟩)) (w' := W11) 4 rfl (by kernel_rfl) (by rw [hW11, hg11]; exact ex_alloc 44 (ov (.none 0)) (by kernel_rfl) opt_zero) B11 ?_
        clear hW11 hg11 B1
        refine walk_two 3 5 (by kernel_rfl) ?_ ?_
        · refine do_call 3 rfl (by kernel_rfl) (by kernel_rfl) (HCY.out _) (fun w' h => bel_in B11 h) ?_
          intro W12 hW12
          have B12 := bel_in B11 hW12
          have N12_4 := N11.below hW12 N11.lt
          clear hW12 B11 N11
          obtain ⟨W13, hW13⟩ : ∃ w', w' = W12.alloc (.cells (ov (.none 0)) 44) := ⟨_, rfl⟩
          obtain ⟨g13, hg13⟩ : ∃ g, g = W12.heap.size := ⟨_, rfl⟩
          have N13 : Blk W13 g13 44 (ov (.none 0)) := by rw [hW13, hg13]; exact Blk.new _ _ _
          have B13 : Below U4.heap.size U4 W13 := by rw [hW13]; exact B12.alloc B12.size _
          have L13 : U4.heap.size ≤ g13 := by rw [hg13]; exact B12.size
          have N13_4 : Blk W13 g11 44 (ov (.none 0)) := by rw [hW13]; exact N12_4.alloc _
          have E13_4 : g11 ≠ g13 := by rw [hg13]; exact Nat.ne_of_lt N12_4.lt
          refine walk_one 5 (by kernel_rfl) (do_lone (v := .pointer (some ⟨g13, 0, none⟩)) (w' := W13) 5 rfl (by kernel_rfl) (by rw [hW13, hg13]; exact ex_alloc 44 (ov (.none 0)) (by kernel_rfl) opt_zero) B13 ?_)
          clear hW13 hg13 B12 N12_4
          obtain ⟨W14, hW14⟩ : ∃ w', w' = W13.setRow g11 (ov x) := ⟨_, rfl⟩
          have N14_4 : Blk W14 g11 44 (ov x) := by rw [hW14]; exact setRow_heap _ _ _ _ _ _ N13_4
          have B14 : Below U4.heap.size U4 W14 := by rw [hW14]; exact L12.below_setRow B13 L11 _
          have N14_5 : Blk W14 g13 44 (ov (.none 0)) := by rw [hW14]; exact N13.same (setRow_other _ _ _ _ (Ne.symm E13_4))
          refine walk_one 6 (by kernel_rfl) (do_skip (w' := W14) 6 rfl (by kernel_rfl) (by rw [hW14]; exact ex_store_row 44 (.tmp 7) (.tmp 20) (by kernel_rfl) g11 (ov x) (by kernel_rfl) (by kernel_rfl) 44 (ov (.none 0)) N13_4 (ov_info _) ((ov_size _).trans (ov_size _).symm) (ov_one _)) B14 ?_)
          clear hW14 B13 N13_4 N13
          obtain ⟨W15, hW15⟩ : ∃ w', w' = W14.setRow g13 (ov y) := ⟨_, rfl⟩
          have N15_5 : Blk W15 g13 44 (ov y) := by rw [hW15]; exact setRow_heap _ _ _ _ _ _ N14_5
          have B15 : Below U4.heap.size U4 W15 := by rw [hW15]; exact L12.below_setRow B14 L13 _
          have N15_4 : Blk W15 g11 44 (ov x) := by rw [hW15]; exact N14_4.same (setRow_other _ _ _ _ E13_4)
          refine walk_one 7 (by kernel_rfl) (do_skip (w' := W15) 7 rfl (by kernel_rfl) (by rw [hW15]; exact ex_store_row 44 (.tmp 8) (.tmp 22) (by kernel_rfl) g13 (ov y) (by kernel_rfl) (by kernel_rfl) 44 (ov (.none 0)) N14_5 (ov_info _) ((ov_size _).trans (ov_size _).symm) (ov_one _)) B15 ?_)
          clear hW15 B14 N14_4 N14_5
          refine walk_end_at ⟨List.toArray ((Value.agg (drv d) : Value) :: Value.agg (drv f) :: Value.agg (ov o) :: .pointer (some ⟨Xd, 0, none⟩) :: .pointer (some ⟨Xf, 0, none⟩) :: Value.pointer (some ⟨Xo, 0, none⟩) :: Value.bool false :: .pointer (some ⟨g11, 0, none⟩) :: .pointer (some ⟨g13, 0, none⟩) :: undef :: undef :: undef :: undef :: undef :: undef :: undef :: undef :: Value.bool true :: Value.bool false :: .agg (drv d) :: .agg (ov x) :: .agg (drv f) :: .agg (ov y) :: undef :: undef :: undef :: undef :: undef :: undef :: undef :: undef :: undef :: undef :: undef :: undef :: undef :: undef :: undef :: undef :: undef :: undef :: undef :: undef :: undef :: undef :: undef :: undef :: undef :: undef :: undef :: undef :: undef :: undef :: undef :: undef :: undef :: undef :: undef :: undef :: undef :: undef :: undef :: undef :: undef :: undef :: undef :: undef :: undef :: undef :: undef :: undef :: undef :: undef :: undef :: undef :: undef :: undef :: undef :: undef :: undef :: undef :: undef :: undef :: undef :: undef :: undef :: undef :: undef :: undef :: undef :: undef :: undef :: undef :: undef :: undef :: undef :: undef :: undef :: undef :: undef :: undef :: undef :: undef :: undef :: undef :: undef :: undef :: undef :: undef :: undef :: undef :: undef :: []), []⟩ (by kernel_rfl) (by kernel_rfl) ?_
          exact ⟨rfl, _, _, rfl, N15_4, N15_5, B15, L11, L13, E13_4⟩
        · obtain ⟨W16, hW16⟩ : ∃ w', w' = W11.alloc (.cells (ov (.none 0)) 44) := ⟨_, rfl⟩
          obtain ⟨g16, hg16⟩ : ∃ g, g = W11.heap.size := ⟨_, rfl⟩
          have N16 : Blk W16 g16 44 (ov (.none 0)) := by rw [hW16, hg16]; exact Blk.new _ _ _
          have B16 : Below U4.heap.size U4 W16 := by rw [hW16]; exact B11.alloc B11.size _
          have L16 : U4.heap.size ≤ g16 := by rw [hg16]; exact B11.size
          have N16_4 : Blk W16 g11 44 (ov (.none 0)) := by rw [hW16]; exact N11.alloc _
          have E16_4 : g11 ≠ g16 := by rw [hg16]; exact Nat.ne_of_lt N11.lt
          refine do_lone (v := .pointer (some ⟨g16, 0, none⟩)) (w' := W16) 5 rfl (by kernel_rfl) (by rw [hW16, hg16]; exact ex_alloc 44 (ov (.none 0)) (by kernel_rfl) opt_zero) B16 ?_
          clear hW16 hg16 B11 N11
          refine walk_one 3 (by kernel_rfl) (do_call 3 rfl (by kernel_rfl) (by kernel_rfl) (HCY.out _) (fun w' h => bel_in B16 h) ?_)
          intro W17 hW17
          have B17 := bel_in B16 hW17
          have N17_4 := N16_4.below hW17 N16_4.lt
          have N17_5 := N16.below hW17 N16.lt
          clear hW17 B16 N16_4 N16
          obtain ⟨W18, hW18⟩ : ∃ w', w' = W17.setRow g11 (ov x) := ⟨_, rfl⟩
          have N18_4 : Blk W18 g11 44 (ov x) := by rw [hW18]; exact setRow_heap _ _ _ _ _ _ N17_4
          have B18 : Below U4.heap.size U4 W18 := by rw [hW18]; exact L12.below_setRow B17 L11 _
          have N18_5 : Blk W18 g16 44 (ov (.none 0)) := by rw [hW18]; exact N17_5.same (setRow_other _ _ _ _ (Ne.symm E16_4))
          refine walk_one 6 (by kernel_rfl) (do_skip (w' := W18) 6 rfl (by kernel_rfl) (by rw [hW18]; exact ex_store_row 44 (.tmp 7) (.tmp 20) (by kernel_rfl) g11 (ov x) (by kernel_rfl) (by kernel_rfl) 44 (ov (.none 0)) N17_4 (ov_info _) ((ov_size _).trans (ov_size _).symm) (ov_one _)) B18 ?_)
          clear hW18 B17 N17_4 N17_5
          obtain ⟨W19, hW19⟩ : ∃ w', w' = W18.setRow g16 (ov y) := ⟨_, rfl⟩
          have N19_5 : Blk W19 g16 44 (ov y) := by rw [hW19]; exact setRow_heap _ _ _ _ _ _ N18_5
          have B19 : Below U4.heap.size U4 W19 := by rw [hW19]; exact L12.below_setRow B18 L16 _
          have N19_4 : Blk W19 g11 44 (ov x) := by rw [hW19]; exact N18_4.same (setRow_other _ _ _ _ E16_4)
          refine walk_one 7 (by kernel_rfl) (do_skip (w' := W19) 7 rfl (by kernel_rfl) (by rw [hW19]; exact ex_store_row 44 (.tmp 8) (.tmp 22) (by kernel_rfl) g16 (ov y) (by kernel_rfl) (by kernel_rfl) 44 (ov (.none 0)) N18_5 (ov_info _) ((ov_size _).trans (ov_size _).symm) (ov_one _)) B19 ?_)
          clear hW19 B18 N18_4 N18_5
          refine walk_end_at ⟨List.toArray ((Value.agg (drv d) : Value) :: Value.agg (drv f) :: Value.agg (ov o) :: .pointer (some ⟨Xd, 0, none⟩) :: .pointer (some ⟨Xf, 0, none⟩) :: Value.pointer (some ⟨Xo, 0, none⟩) :: Value.bool false :: .pointer (some ⟨g11, 0, none⟩) :: .pointer (some ⟨g16, 0, none⟩) :: undef :: undef :: undef :: undef :: undef :: undef :: undef :: undef :: Value.bool true :: Value.bool false :: .agg (drv d) :: .agg (ov x) :: .agg (drv f) :: .agg (ov y) :: undef :: undef :: undef :: undef :: undef :: undef :: undef :: undef :: undef :: undef :: undef :: undef :: undef :: undef :: undef :: undef :: undef :: undef :: undef :: undef :: undef :: undef :: undef :: undef :: undef :: undef :: undef :: undef :: undef :: undef :: undef :: undef :: undef :: undef :: undef :: undef :: undef :: undef :: undef :: undef :: undef :: undef :: undef :: undef :: undef :: undef :: undef :: undef :: undef :: undef :: undef :: undef :: undef :: undef :: undef :: undef :: undef :: undef :: undef :: undef :: undef :: undef :: undef :: undef :: undef :: undef :: undef :: undef :: undef :: undef :: undef :: undef :: undef :: undef :: undef :: undef :: undef :: undef :: undef :: undef :: undef :: undef :: undef :: undef :: undef :: undef :: undef :: undef :: undef :: []), []⟩ (by kernel_rfl) (by kernel_rfl) ?_
          exact ⟨rfl, _, _, rfl, N19_4, N19_5, B19, L11, L16, E16_4⟩
      · obtain ⟨W20, hW20⟩ : ∃ w', w' = W1.alloc (.cells (ov (.none 0)) 44) := ⟨_, rfl⟩
        obtain ⟨g20, hg20⟩ : ∃ g, g = W1.heap.size := ⟨_, rfl⟩
        have N20 : Blk W20 g20 44 (ov (.none 0)) := by rw [hW20, hg20]; exact Blk.new _ _ _
        have B20 : Below U4.heap.size U4 W20 := by rw [hW20]; exact B1.alloc B1.size _
        have L20 : U4.heap.size ≤ g20 := by rw [hg20]; exact B1.size
        refine do_lone (v := .pointer (some ⟨g20, 0, none⟩)) (w' := W20) 5 rfl (by kernel_rfl) (by rw [hW20, hg20]; exact ex_alloc 44 (ov (.none 0)) (by kernel_rfl) opt_zero) B20 ?_
        clear hW20 hg20 B1
        refine walk_two 3 4 (by kernel_rfl) ?_ ?_
        · refine do_call 3 rfl (by kernel_rfl) (by kernel_rfl) (HCY.out _) (fun w' h => bel_in B20 h) ?_
          intro W21 hW21
          have B21 := bel_in B20 hW21
          have N21_5 := N20.below hW21 N20.lt
          clear hW21 B20 N20
          obtain ⟨W22, hW22⟩ : ∃ w', w' = W21.alloc (.cells (ov (.none 0)) 44) := ⟨_, rfl⟩
          obtain ⟨g22, hg22⟩ : ∃ g, g = W21.heap.size := ⟨_, rfl⟩
          have N22 : Blk W22 g22 44 (ov (.none 0)) := by rw [hW22, hg22]; exact Blk.new _ _ _
          have B22 : Below U4.heap.size U4 W22 := by rw [hW22]; exact B21.alloc B21.size _
          have L22 : U4.heap.size ≤ g22 := by rw [hg22]; exact B21.size
          have N22_5 : Blk W22 g20 44 (ov (.none 0)) := by rw [hW22]; exact N21_5.alloc _
          have E22_5 : g20 ≠ g22 := by rw [hg22]; exact Nat.ne_of_lt N21_5.lt
          refine walk_one 4 (by kernel_rfl) (do_lone (v := .pointer (some ⟨g22, 0, none⟩)) (w' := W22) 4 rfl (by kernel_rfl) (by rw [hW22, hg22]; exact ex_alloc 44 (ov (.none 0)) (by kernel_rfl) opt_zero) B22 ?_)
          clear hW22 hg22 B21 N21_5
          obtain ⟨W23, hW23⟩ : ∃ w', w' = W22.setRow g22 (ov x) := ⟨_, rfl⟩
          have N23_4 : Blk W23 g22 44 (ov x) := by rw [hW23]; exact setRow_heap _ _ _ _ _ _ N22
          have B23 : Below U4.heap.size U4 W23 := by rw [hW23]; exact L12.below_setRow B22 L22 _
          have N23_5 : Blk W23 g20 44 (ov (.none 0)) := by rw [hW23]; exact N22_5.same (setRow_other _ _ _ _ E22_5)
          refine walk_one 6 (by kernel_rfl) (do_skip (w' := W23) 6 rfl (by kernel_rfl) (by rw [hW23]; exact ex_store_row 44 (.tmp 7) (.tmp 20) (by kernel_rfl) g22 (ov x) (by kernel_rfl) (by kernel_rfl) 44 (ov (.none 0)) N22 (ov_info _) ((ov_size _).trans (ov_size _).symm) (ov_one _)) B23 ?_)
          clear hW23 B22 N22_5 N22
          obtain ⟨W24, hW24⟩ : ∃ w', w' = W23.setRow g20 (ov y) := ⟨_, rfl⟩
          have N24_5 : Blk W24 g20 44 (ov y) := by rw [hW24]; exact setRow_heap _ _ _ _ _ _ N23_5
          have B24 : Below U4.heap.size U4 W24 := by rw [hW24]; exact L12.below_setRow B23 L20 _
          have N24_4 : Blk W24 g22 44 (ov x) := by rw [hW24]; exact N23_4.same (setRow_other _ _ _ _ (Ne.symm E22_5))
          refine walk_one 7 (by kernel_rfl) (do_skip (w' := W24) 7 rfl (by kernel_rfl) (by rw [hW24]; exact ex_store_row 44 (.tmp 8) (.tmp 22) (by kernel_rfl) g20 (ov y) (by kernel_rfl) (by kernel_rfl) 44 (ov (.none 0)) N23_5 (ov_info _) ((ov_size _).trans (ov_size _).symm) (ov_one _)) B24 ?_)
          clear hW24 B23 N23_4 N23_5
          refine walk_end_at ⟨List.toArray ((Value.agg (drv d) : Value) :: Value.agg (drv f) :: Value.agg (ov o) :: .pointer (some ⟨Xd, 0, none⟩) :: .pointer (some ⟨Xf, 0, none⟩) :: Value.pointer (some ⟨Xo, 0, none⟩) :: Value.bool false :: .pointer (some ⟨g22, 0, none⟩) :: .pointer (some ⟨g20, 0, none⟩) :: undef :: undef :: undef :: undef :: undef :: undef :: undef :: undef :: Value.bool true :: Value.bool false :: .agg (drv d) :: .agg (ov x) :: .agg (drv f) :: .agg (ov y) :: undef :: undef :: undef :: undef :: undef :: undef :: undef :: undef :: undef :: undef :: undef :: undef :: undef :: undef :: undef :: undef :: undef :: undef :: undef :: undef :: undef :: undef :: undef :: undef :: undef :: undef :: undef :: undef :: undef :: undef :: undef :: undef :: undef :: undef :: undef :: undef :: undef :: undef :: undef :: undef :: undef :: undef :: undef :: undef :: undef :: undef :: undef :: undef :: undef :: undef :: undef :: undef :: undef :: undef :: undef :: undef :: undef :: undef :: undef :: undef :: undef :: undef :: undef :: undef :: undef :: undef :: undef :: undef :: undef :: undef :: undef :: undef :: undef :: undef :: undef :: undef :: undef :: undef :: undef :: undef :: undef :: undef :: undef :: undef :: undef :: undef :: undef :: undef :: undef :: []), []⟩ (by kernel_rfl) (by kernel_rfl) ?_
          exact ⟨rfl, _, _, rfl, N24_4, N24_5, B24, L22, L20, (Ne.symm E22_5)⟩
        · obtain ⟨W25, hW25⟩ : ∃ w', w' = W20.alloc (.cells (ov (.none 0)) 44) := ⟨_, rfl⟩
          obtain ⟨g25, hg25⟩ : ∃ g, g = W20.heap.size := ⟨_, rfl⟩
          have N25 : Blk W25 g25 44 (ov (.none 0)) := by rw [hW25, hg25]; exact Blk.new _ _ _
          have B25 : Below U4.heap.size U4 W25 := by rw [hW25]; exact B20.alloc B20.size _
          have L25 : U4.heap.size ≤ g25 := by rw [hg25]; exact B20.size
          have N25_5 : Blk W25 g20 44 (ov (.none 0)) := by rw [hW25]; exact N20.alloc _
          have E25_5 : g20 ≠ g25 := by rw [hg25]; exact Nat.ne_of_lt N20.lt
          refine do_lone (v := .pointer (some ⟨g25, 0, none⟩)) (w' := W25) 4 rfl (by kernel_rfl) (by rw [hW25, hg25]; exact ex_alloc 44 (ov (.none 0)) (by kernel_rfl) opt_zero) B25 ?_
          clear hW25 hg25 B20 N20
          refine walk_one 3 (by kernel_rfl) (do_call 3 rfl (by kernel_rfl) (by kernel_rfl) (HCY.out _) (fun w' h => bel_in B25 h) ?_)
          intro W26 hW26
          have B26 := bel_in B25 hW26
          have N26_5 := N25_5.below hW26 N25_5.lt
          have N26_4 := N25.below hW26 N25.lt
          clear hW26 B25 N25_5 N25
          obtain ⟨W27, hW27⟩ : ∃ w', w' = W26.setRow g25 (ov x) := ⟨_, rfl⟩
          have N27_4 : Blk W27 g25 44 (ov x) := by rw [hW27]; exact setRow_heap _ _ _ _ _ _ N26_4
          have B27 : Below U4.heap.size U4 W27 := by rw [hW27]; exact L12.below_setRow B26 L25 _
          have N27_5 : Blk W27 g20 44 (ov (.none 0)) := by rw [hW27]; exact N26_5.same (setRow_other _ _ _ _ E25_5)
          refine walk_one 6 (by kernel_rfl) (do_skip (w' := W27) 6 rfl (by kernel_rfl) (by rw [hW27]; exact ex_store_row 44 (.tmp 7) (.tmp 20) (by kernel_rfl) g25 (ov x) (by kernel_rfl) (by kernel_rfl) 44 (ov (.none 0)) N26_4 (ov_info _) ((ov_size _).trans (ov_size _).symm) (ov_one _)) B27 ?_)
          clear hW27 B26 N26_5 N26_4
          obtain ⟨W28, hW28⟩ : ∃ w', w' = W27.setRow g20 (ov y) := ⟨_, rfl⟩
          have N28_5 : Blk W28 g20 44 (ov y) := by rw [hW28]; exact setRow_heap _ _ _ _ _ _ N27_5
          have B28 : Below U4.heap.size U4 W28 := by rw [hW28]; exact L12.below_setRow B27 L20 _
          have N28_4 : Blk W28 g25 44 (ov x) := by rw [hW28]; exact N27_4.same (setRow_other _ _ _ _ (Ne.symm E25_5))
          refine walk_one 7 (by kernel_rfl) (do_skip (w' := W28) 7 rfl (by kernel_rfl) (by rw [hW28]; exact ex_store_row 44 (.tmp 8) (.tmp 22) (by kernel_rfl) g20 (ov y) (by kernel_rfl) (by kernel_rfl) 44 (ov (.none 0)) N27_5 (ov_info _) ((ov_size _).trans (ov_size _).symm) (ov_one _)) B28 ?_)
          clear hW28 B27 N27_4 N27_5
          refine walk_end_at ⟨List.toArray ((Value.agg (drv d) : Value) :: Value.agg (drv f) :: Value.agg (ov o) :: .pointer (some ⟨Xd, 0, none⟩) :: .pointer (some ⟨Xf, 0, none⟩) :: Value.pointer (some ⟨Xo, 0, none⟩) :: Value.bool false :: .pointer (some ⟨g25, 0, none⟩) :: .pointer (some ⟨g20, 0, none⟩) :: undef :: undef :: undef :: undef :: undef :: undef :: undef :: undef :: Value.bool true :: Value.bool false :: .agg (drv d) :: .agg (ov x) :: .agg (drv f) :: .agg (ov y) :: undef :: undef :: undef :: undef :: undef :: undef :: undef :: undef :: undef :: undef :: undef :: undef :: undef :: undef :: undef :: undef :: undef :: undef :: undef :: undef :: undef :: undef :: undef :: undef :: undef :: undef :: undef :: undef :: undef :: undef :: undef :: undef :: undef :: undef :: undef :: undef :: undef :: undef :: undef :: undef :: undef :: undef :: undef :: undef :: undef :: undef :: undef :: undef :: undef :: undef :: undef :: undef :: undef :: undef :: undef :: undef :: undef :: undef :: undef :: undef :: undef :: undef :: undef :: undef :: undef :: undef :: undef :: undef :: undef :: undef :: undef :: undef :: undef :: undef :: undef :: undef :: undef :: undef :: undef :: undef :: undef :: undef :: undef :: undef :: undef :: undef :: undef :: undef :: undef :: []), []⟩ (by kernel_rfl) (by kernel_rfl) ?_
          exact ⟨rfl, _, _, rfl, N28_4, N28_5, B28, L25, L20, (Ne.symm E25_5)⟩
    · obtain ⟨W29, hW29⟩ : ∃ w', w' = W0.alloc (.cells (ov (.none 0)) 44) := ⟨_, rfl⟩
      obtain ⟨g29, hg29⟩ : ∃ g, g = W0.heap.size := ⟨_, rfl⟩
      have N29 : Blk W29 g29 44 (ov (.none 0)) := by rw [hW29, hg29]; exact Blk.new _ _ _
      have B29 : Below U4.heap.size U4 W29 := by rw [hW29]; exact B0.alloc B0.size _
      have L29 : U4.heap.size ≤ g29 := by rw [hg29]; exact B0.size
      refine do_lone (v := .pointer (some ⟨g29, 0, none⟩)) (w' := W29) 4 rfl (by kernel_rfl) (by rw [hW29, hg29]; exact ex_alloc 44 (ov (.none 0)) (by kernel_rfl) opt_zero) B29 ?_
      clear hW29 hg29 B0
      refine walk_two 1 5 (by kernel_rfl) ?_ ?_
      · refine do_call 1 rfl (by kernel_rfl) (by kernel_rfl) (HCX.out _) (fun w' h => bel_in B29 h) ?_
        intro W30 hW30
        have B30 := bel_in B29 hW30
        have N30_4 := N29.below hW30 N29.lt
        clear hW30 B29 N29
        refine walk_two 3 5 (by kernel_rfl) ?_ ?_
        · refine do_call 3 rfl (by kernel_rfl) (by kernel_rfl) (HCY.out _) (fun w' h => bel_in B30 h) ?_
          intro W31 hW31
          have B31 := bel_in B30 hW31
          have N31_4 := N30_4.below hW31 N30_4.lt
          clear hW31 B30 N30_4
          obtain ⟨W32, hW32⟩ : ∃ w', w' = W31.alloc (.cells (ov (.none 0)) 44) := ⟨_, rfl⟩
          obtain ⟨g32, hg32⟩ : ∃ g, g = W31.heap.size := ⟨_, rfl⟩
          have N32 : Blk W32 g32 44 (ov (.none 0)) := by rw [hW32, hg32]; exact Blk.new _ _ _
          have B32 : Below U4.heap.size U4 W32 := by rw [hW32]; exact B31.alloc B31.size _
          have L32 : U4.heap.size ≤ g32 := by rw [hg32]; exact B31.size
          have N32_4 : Blk W32 g29 44 (ov (.none 0)) := by rw [hW32]; exact N31_4.alloc _
          have E32_4 : g29 ≠ g32 := by rw [hg32]; exact Nat.ne_of_lt N31_4.lt
          refine walk_one 5 (by kernel_rfl) (do_lone (v := .pointer (some ⟨g32, 0, none⟩)) (w' := W32) 5 rfl (by kernel_rfl) (by rw [hW32, hg32]; exact ex_alloc 44 (ov (.none 0)) (by kernel_rfl) opt_zero) B32 ?_)
          clear hW32 hg32 B31 N31_4
          obtain ⟨W33, hW33⟩ : ∃ w', w' = W32.setRow g29 (ov x) := ⟨_, rfl⟩
          have N33_4 : Blk W33 g29 44 (ov x) := by rw [hW33]; exact setRow_heap _ _ _ _ _ _ N32_4
          have B33 : Below U4.heap.size U4 W33 := by rw [hW33]; exact L12.below_setRow B32 L29 _
          have N33_5 : Blk W33 g32 44 (ov (.none 0)) := by rw [hW33]; exact N32.same (setRow_other _ _ _ _ (Ne.symm E32_4))
          refine walk_one 6 (by kernel_rfl) (do_skip (w' := W33) 6 rfl (by kernel_rfl) (by rw [hW33]; exact ex_store_row 44 (.tmp 7) (.tmp 20) (by kernel_rfl) g29 (ov x) (by kernel_rfl) (by kernel_rfl) 44 (ov (.none 0)) N32_4 (ov_info _) ((ov_size _).trans (ov_size _).symm) (ov_one _)) B33 ?_)
          clear hW33 B32 N32_4 N32
          obtain ⟨W34, hW34⟩ : ∃ w', w' = W33.setRow g32 (ov y) := ⟨_, rfl⟩
          have N34_5 : Blk W34 g32 44 (ov y) := by rw [hW34]; exact setRow_heap _ _ _ _ _ _ N33_5
          have B34 : Below U4.heap.size U4 W34 := by rw [hW34]; exact L12.below_setRow B33 L32 _
          have N34_4 : Blk W34 g29 44 (ov x) := by rw [hW34]; exact N33_4.same (setRow_other _ _ _ _ E32_4)
          refine walk_one 7 (by kernel_rfl) (do_skip (w' := W34) 7 rfl (by kernel_rfl) (by rw [hW34]; exact ex_store_row 44 (.tmp 8) (.tmp 22) (by kernel_rfl) g32 (ov y) (by kernel_rfl) (by kernel_rfl) 44 (ov (.none 0)) N33_5 (ov_info _) ((ov_size _).trans (ov_size _).symm) (ov_one _)) B34 ?_)
          clear hW34 B33 N33_4 N33_5
          refine walk_end_at ⟨List.toArray ((Value.agg (drv d) : Value) :: Value.agg (drv f) :: Value.agg (ov o) :: .pointer (some ⟨Xd, 0, none⟩) :: .pointer (some ⟨Xf, 0, none⟩) :: Value.pointer (some ⟨Xo, 0, none⟩) :: Value.bool false :: .pointer (some ⟨g29, 0, none⟩) :: .pointer (some ⟨g32, 0, none⟩) :: undef :: undef :: undef :: undef :: undef :: undef :: undef :: undef :: Value.bool true :: Value.bool false :: .agg (drv d) :: .agg (ov x) :: .agg (drv f) :: .agg (ov y) :: undef :: undef :: undef :: undef :: undef :: undef :: undef :: undef :: undef :: undef :: undef :: undef :: undef :: undef :: undef :: undef :: undef :: undef :: undef :: undef :: undef :: undef :: undef :: undef :: undef :: undef :: undef :: undef :: undef :: undef :: undef :: undef :: undef :: undef :: undef :: undef :: undef :: undef :: undef :: undef :: undef :: undef :: undef :: undef :: undef :: undef :: undef :: undef :: undef :: undef :: undef :: undef :: undef :: undef :: undef :: undef :: undef :: undef :: undef :: undef :: undef :: undef :: undef :: undef :: undef :: undef :: undef :: undef :: undef :: undef :: undef :: undef :: undef :: undef :: undef :: undef :: undef :: undef :: undef :: undef :: undef :: undef :: undef :: undef :: undef :: undef :: undef :: undef :: undef :: []), []⟩ (by kernel_rfl) (by kernel_rfl) ?_
          exact ⟨rfl, _, _, rfl, N34_4, N34_5, B34, L29, L32, E32_4⟩
        · obtain ⟨W35, hW35⟩ : ∃ w', w' = W30.alloc (.cells (ov (.none 0)) 44) := ⟨_, rfl⟩
          obtain ⟨g35, hg35⟩ : ∃ g, g = W30.heap.size := ⟨_, rfl⟩
          have N35 : Blk W35 g35 44 (ov (.none 0)) := by rw [hW35, hg35]; exact Blk.new _ _ _
          have B35 : Below U4.heap.size U4 W35 := by rw [hW35]; exact B30.alloc B30.size _
          have L35 : U4.heap.size ≤ g35 := by rw [hg35]; exact B30.size
          have N35_4 : Blk W35 g29 44 (ov (.none 0)) := by rw [hW35]; exact N30_4.alloc _
          have E35_4 : g29 ≠ g35 := by rw [hg35]; exact Nat.ne_of_lt N30_4.lt
          refine do_lone (v := .pointer (some ⟨g35, 0, none⟩)) (w' := W35) 5 rfl (by kernel_rfl) (by rw [hW35, hg35]; exact ex_alloc 44 (ov (.none 0)) (by kernel_rfl) opt_zero) B35 ?_
          clear hW35 hg35 B30 N30_4
          refine walk_one 3 (by kernel_rfl) (do_call 3 rfl (by kernel_rfl) (by kernel_rfl) (HCY.out _) (fun w' h => bel_in B35 h) ?_)
          intro W36 hW36
          have B36 := bel_in B35 hW36
          have N36_4 := N35_4.below hW36 N35_4.lt
          have N36_5 := N35.below hW36 N35.lt
          clear hW36 B35 N35_4 N35
          obtain ⟨W37, hW37⟩ : ∃ w', w' = W36.setRow g29 (ov x) := ⟨_, rfl⟩
          have N37_4 : Blk W37 g29 44 (ov x) := by rw [hW37]; exact setRow_heap _ _ _ _ _ _ N36_4
          have B37 : Below U4.heap.size U4 W37 := by rw [hW37]; exact L12.below_setRow B36 L29 _
          have N37_5 : Blk W37 g35 44 (ov (.none 0)) := by rw [hW37]; exact N36_5.same (setRow_other _ _ _ _ (Ne.symm E35_4))
          refine walk_one 6 (by kernel_rfl) (do_skip (w' := W37) 6 rfl (by kernel_rfl) (by rw [hW37]; exact ex_store_row 44 (.tmp 7) (.tmp 20) (by kernel_rfl) g29 (ov x) (by kernel_rfl) (by kernel_rfl) 44 (ov (.none 0)) N36_4 (ov_info _) ((ov_size _).trans (ov_size _).symm) (ov_one _)) B37 ?_)
          clear hW37 B36 N36_4 N36_5
          obtain ⟨W38, hW38⟩ : ∃ w', w' = W37.setRow g35 (ov y) := ⟨_, rfl⟩
          have N38_5 : Blk W38 g35 44 (ov y) := by rw [hW38]; exact setRow_heap _ _ _ _ _ _ N37_5
          have B38 : Below U4.heap.size U4 W38 := by rw [hW38]; exact L12.below_setRow B37 L35 _
          have N38_4 : Blk W38 g29 44 (ov x) := by rw [hW38]; exact N37_4.same (setRow_other _ _ _ _ E35_4)
          refine walk_one 7 (by kernel_rfl) (do_skip (w' := W38) 7 rfl (by kernel_rfl) (by rw [hW38]; exact ex_store_row 44 (.tmp 8) (.tmp 22) (by kernel_rfl) g35 (ov y) (by kernel_rfl) (by kernel_rfl) 44 (ov (.none 0)) N37_5 (ov_info _) ((ov_size _).trans (ov_size _).symm) (ov_one _)) B38 ?_)
          clear hW38 B37 N37_4 N37_5
          refine walk_end_at ⟨List.toArray ((Value.agg (drv d) : Value) :: Value.agg (drv f) :: Value.agg (ov o) :: .pointer (some ⟨Xd, 0, none⟩) :: .pointer (some ⟨Xf, 0, none⟩) :: Value.pointer (some ⟨Xo, 0, none⟩) :: Value.bool false :: .pointer (some ⟨g29, 0, none⟩) :: .pointer (some ⟨g35, 0, none⟩) :: undef :: undef :: undef :: undef :: undef :: undef :: undef :: undef :: Value.bool true :: Value.bool false :: .agg (drv d) :: .agg (ov x) :: .agg (drv f) :: .agg (ov y) :: undef :: undef :: undef :: undef :: undef :: undef :: undef :: undef :: undef :: undef :: undef :: undef :: undef :: undef :: undef :: undef :: undef :: undef :: undef :: undef :: undef :: undef :: undef :: undef :: undef :: undef :: undef :: undef :: undef :: undef :: undef :: undef :: undef :: undef :: undef :: undef :: undef :: undef :: undef :: undef :: undef :: undef :: undef :: undef :: undef :: undef :: undef :: undef :: undef :: undef :: undef :: undef :: undef :: undef :: undef :: undef :: undef :: undef :: undef :: undef :: undef :: undef :: undef :: undef :: undef :: undef :: undef :: undef :: undef :: undef :: undef :: undef :: undef :: undef :: undef :: undef :: undef :: undef :: undef :: undef :: undef :: undef :: undef :: undef :: undef :: undef :: undef :: undef :: undef :: []), []⟩ (by kernel_rfl) (by kernel_rfl) ?_
          exact ⟨rfl, _, _, rfl, N38_4, N38_5, B38, L29, L35, E35_4⟩
      · obtain ⟨W39, hW39⟩ : ∃ w', w' = W29.alloc (.cells (ov (.none 0)) 44) := ⟨_, rfl⟩
        obtain ⟨g39, hg39⟩ : ∃ g, g = W29.heap.size := ⟨_, rfl⟩
        have N39 : Blk W39 g39 44 (ov (.none 0)) := by rw [hW39, hg39]; exact Blk.new _ _ _
        have B39 : Below U4.heap.size U4 W39 := by rw [hW39]; exact B29.alloc B29.size _
        have L39 : U4.heap.size ≤ g39 := by rw [hg39]; exact B29.size
        have N39_4 : Blk W39 g29 44 (ov (.none 0)) := by rw [hW39]; exact N29.alloc _
        have E39_4 : g29 ≠ g39 := by rw [hg39]; exact Nat.ne_of_lt N29.lt
        refine do_lone (v := .pointer (some ⟨g39, 0, none⟩)) (w' := W39) 5 rfl (by kernel_rfl) (by rw [hW39, hg39]; exact ex_alloc 44 (ov (.none 0)) (by kernel_rfl) opt_zero) B39 ?_
        clear hW39 hg39 B29 N29
        refine walk_one 1 (by kernel_rfl) (do_call 1 rfl (by kernel_rfl) (by kernel_rfl) (HCX.out _) (fun w' h => bel_in B39 h) ?_)
        intro W40 hW40
        have B40 := bel_in B39 hW40
        have N40_4 := N39_4.below hW40 N39_4.lt
        have N40_5 := N39.below hW40 N39.lt
        clear hW40 B39 N39_4 N39
        refine walk_one 3 (by kernel_rfl) (do_call 3 rfl (by kernel_rfl) (by kernel_rfl) (HCY.out _) (fun w' h => bel_in B40 h) ?_)
        intro W41 hW41
        have B41 := bel_in B40 hW41
        have N41_4 := N40_4.below hW41 N40_4.lt
        have N41_5 := N40_5.below hW41 N40_5.lt
        clear hW41 B40 N40_4 N40_5
        obtain ⟨W42, hW42⟩ : ∃ w', w' = W41.setRow g29 (ov x) := ⟨_, rfl⟩
        have N42_4 : Blk W42 g29 44 (ov x) := by rw [hW42]; exact setRow_heap _ _ _ _ _ _ N41_4
        have B42 : Below U4.heap.size U4 W42 := by rw [hW42]; exact L12.below_setRow B41 L29 _
        have N42_5 : Blk W42 g39 44 (ov (.none 0)) := by rw [hW42]; exact N41_5.same (setRow_other _ _ _ _ (Ne.symm E39_4))
        refine walk_one 6 (by kernel_rfl) (do_skip (w' := W42) 6 rfl (by kernel_rfl) (by rw [hW42]; exact ex_store_row 44 (.tmp 7) (.tmp 20) (by kernel_rfl) g29 (ov x) (by kernel_rfl) (by kernel_rfl) 44 (ov (.none 0)) N41_4 (ov_info _) ((ov_size _).trans (ov_size _).symm) (ov_one _)) B42 ?_)
        clear hW42 B41 N41_4 N41_5
        obtain ⟨W43, hW43⟩ : ∃ w', w' = W42.setRow g39 (ov y) := ⟨_, rfl⟩
        have N43_5 : Blk W43 g39 44 (ov y) := by rw [hW43]; exact setRow_heap _ _ _ _ _ _ N42_5
        have B43 : Below U4.heap.size U4 W43 := by rw [hW43]; exact L12.below_setRow B42 L39 _
        have N43_4 : Blk W43 g29 44 (ov x) := by rw [hW43]; exact N42_4.same (setRow_other _ _ _ _ E39_4)
        refine walk_one 7 (by kernel_rfl) (do_skip (w' := W43) 7 rfl (by kernel_rfl) (by rw [hW43]; exact ex_store_row 44 (.tmp 8) (.tmp 22) (by kernel_rfl) g39 (ov y) (by kernel_rfl) (by kernel_rfl) 44 (ov (.none 0)) N42_5 (ov_info _) ((ov_size _).trans (ov_size _).symm) (ov_one _)) B43 ?_)
        clear hW43 B42 N42_4 N42_5
        refine walk_end_at ⟨List.toArray ((Value.agg (drv d) : Value) :: Value.agg (drv f) :: Value.agg (ov o) :: .pointer (some ⟨Xd, 0, none⟩) :: .pointer (some ⟨Xf, 0, none⟩) :: Value.pointer (some ⟨Xo, 0, none⟩) :: Value.bool false :: .pointer (some ⟨g29, 0, none⟩) :: .pointer (some ⟨g39, 0, none⟩) :: undef :: undef :: undef :: undef :: undef :: undef :: undef :: undef :: Value.bool true :: Value.bool false :: .agg (drv d) :: .agg (ov x) :: .agg (drv f) :: .agg (ov y) :: undef :: undef :: undef :: undef :: undef :: undef :: undef :: undef :: undef :: undef :: undef :: undef :: undef :: undef :: undef :: undef :: undef :: undef :: undef :: undef :: undef :: undef :: undef :: undef :: undef :: undef :: undef :: undef :: undef :: undef :: undef :: undef :: undef :: undef :: undef :: undef :: undef :: undef :: undef :: undef :: undef :: undef :: undef :: undef :: undef :: undef :: undef :: undef :: undef :: undef :: undef :: undef :: undef :: undef :: undef :: undef :: undef :: undef :: undef :: undef :: undef :: undef :: undef :: undef :: undef :: undef :: undef :: undef :: undef :: undef :: undef :: undef :: undef :: undef :: undef :: undef :: undef :: undef :: undef :: undef :: undef :: undef :: undef :: undef :: undef :: undef :: undef :: undef :: undef :: []), []⟩ (by kernel_rfl) (by kernel_rfl) ?_
        exact ⟨rfl, _, _, rfl, N43_4, N43_5, B43, L29, L39, E39_4⟩
    · obtain ⟨W44, hW44⟩ : ∃ w', w' = W0.alloc (.cells (ov (.none 0)) 44) := ⟨_, rfl⟩
      obtain ⟨g44, hg44⟩ : ∃ g, g = W0.heap.size := ⟨_, rfl⟩
      have N44 : Blk W44 g44 44 (ov (.none 0)) := by rw [hW44, hg44]; exact Blk.new _ _ _
      have B44 : Below U4.heap.size U4 W44 := by rw [hW44]; exact B0.alloc B0.size _
      have L44 : U4.heap.size ≤ g44 := by rw [hg44]; exact B0.size
      refine do_lone (v := .pointer (some ⟨g44, 0, none⟩)) (w' := W44) 5 rfl (by kernel_rfl) (by rw [hW44, hg44]; exact ex_alloc 44 (ov (.none 0)) (by kernel_rfl) opt_zero) B44 ?_
      clear hW44 hg44 B0
      refine walk_two 1 4 (by kernel_rfl) ?_ ?_
      · refine do_call 1 rfl (by kernel_rfl) (by kernel_rfl) (HCX.out _) (fun w' h => bel_in B44 h) ?_
        intro W45 hW45
        have B45 := bel_in B44 hW45
        have N45_5 := N44.below hW45 N44.lt
        clear hW45 B44 N44
        refine walk_two 3 4 (by kernel_rfl) ?_ ?_
        · refine do_call 3 rfl (by kernel_rfl) (by kernel_rfl) (HCY.out _) (fun w' h => bel_in B45 h) ?_
          intro W46 hW46
          have B46 := bel_in B45 hW46
          have N46_5 := N45_5.below hW46 N45_5.lt
          clear hW46 B45 N45_5
          obtain ⟨W47, hW47⟩ : ∃ w', w' = W46.alloc (.cells (ov (.none 0)) 44) := ⟨_, rfl⟩
          obtain ⟨g47, hg47⟩ : ∃ g, g = W46.heap.size := ⟨_, rfl⟩
          have N47 : Blk W47 g47 44 (ov (.none 0)) := by rw [hW47, hg47]; exact Blk.new _ _ _
          have B47 : Below U4.heap.size U4 W47 := by rw [hW47]; exact B46.alloc B46.size _
          have L47 : U4.heap.size ≤ g47 := by rw [hg47]; exact B46.size
          have N47_5 : Blk W47 g44 44 (ov (.none 0)) := by rw [hW47]; exact N46_5.alloc _
          have E47_5 : g44 ≠ g47 := by rw [hg47]; exact Nat.ne_of_lt N46_5.lt
          refine walk_one 4 (by kernel_rfl) (do_lone (v := .pointer (some ⟨g47, 0, none⟩)) (w' := W47) 4 rfl (by kernel_rfl) (by rw [hW47, hg47]; exact ex_alloc 44 (ov (.none 0)) (by kernel_rfl) opt_zero) B47 ?_)
          clear hW47 hg47 B46 N46_5
          obtain ⟨W48, hW48⟩ : ∃ w', w' = W47.setRow g47 (ov x) := ⟨_, rfl⟩
          have N48_4 : Blk W48 g47 44 (ov x) := by rw [hW48]; exact setRow_heap _ _ _ _ _ _ N47
          have B48 : Below U4.heap.size U4 W48 := by rw [hW48]; exact L12.below_setRow B47 L47 _
          have N48_5 : Blk W48 g44 44 (ov (.none 0)) := by rw [hW48]; exact N47_5.same (setRow_other _ _ _ _ E47_5)
          refine walk_one 6 (by kernel_rfl) (do_skip (w' := W48) 6 rfl (by kernel_rfl) (by rw [hW48]; exact ex_store_row 44 (.tmp 7) (.tmp 20) (by kernel_rfl) g47 (ov x) (by kernel_rfl) (by kernel_rfl) 44 (ov (.none 0)) N47 (ov_info _) ((ov_size _).trans (ov_size _).symm) (ov_one _)) B48 ?_)
          clear hW48 B47 N47_5 N47
          obtain ⟨W49, hW49⟩ : ∃ w', w' = W48.setRow g44 (ov y) := ⟨_, rfl⟩
          have N49_5 : Blk W49 g44 44 (ov y) := by rw [hW49]; exact setRow_heap _ _ _ _ _ _ N48_5
          have B49 : Below U4.heap.size U4 W49 := by rw [hW49]; exact L12.below_setRow B48 L44 _
          have N49_4 : Blk W49 g47 44 (ov x) := by rw [hW49]; exact N48_4.same (setRow_other _ _ _ _ (Ne.symm E47_5))
          refine walk_one 7 (by kernel_rfl) (do_skip (w' := W49) 7 rfl (by kernel_rfl) (by rw [hW49]; exact ex_store_row 44 (.tmp 8) (.tmp 22) (by kernel_rfl) g44 (ov y) (by kernel_rfl) (by kernel_rfl) 44 (ov (.none 0)) N48_5 (ov_info _) ((ov_size _).trans (ov_size _).symm) (ov_one _)) B49 ?_)
          clear hW49 B48 N48_4 N48_5
          refine walk_end_at ⟨List.toArray ((Value.agg (drv d) : Value) :: Value.agg (drv f) :: Value.agg (ov o) :: .pointer (some ⟨Xd, 0, none⟩) :: .pointer (some ⟨Xf, 0, none⟩) :: Value.pointer (some ⟨Xo, 0, none⟩) :: Value.bool false :: .pointer (some ⟨g47, 0, none⟩) :: .pointer (some ⟨g44, 0, none⟩) :: undef :: undef :: undef :: undef :: undef :: undef :: undef :: undef :: Value.bool true :: Value.bool false :: .agg (drv d) :: .agg (ov x) :: .agg (drv f) :: .agg (ov y) :: undef :: undef :: undef :: undef :: undef :: undef :: undef :: undef :: undef :: undef :: undef :: undef :: undef :: undef :: undef :: undef :: undef :: undef :: undef :: undef :: undef :: undef :: undef :: undef :: undef :: undef :: undef :: undef :: undef :: undef :: undef :: undef :: undef :: undef :: undef :: undef :: undef :: undef :: undef :: undef :: undef :: undef :: undef :: undef :: undef :: undef :: undef :: undef :: undef :: undef :: undef :: undef :: undef :: undef :: undef :: undef :: undef :: undef :: undef :: undef :: undef :: undef :: undef :: undef :: undef :: undef :: undef :: undef :: undef :: undef :: undef :: undef :: undef :: undef :: undef :: undef :: undef :: undef :: undef :: undef :: undef :: undef :: undef :: undef :: undef :: undef :: undef :: undef :: undef :: []), []⟩ (by kernel_rfl) (by kernel_rfl) ?_
          exact ⟨rfl, _, _, rfl, N49_4, N49_5, B49, L47, L44, (Ne.symm E47_5)⟩
        · obtain ⟨W50, hW50⟩ : ∃ w', w' = W45.alloc (.cells (ov (.none 0)) 44) := ⟨_, rfl⟩
          obtain ⟨g50, hg50⟩ : ∃ g, g = W45.heap.size := ⟨_, rfl⟩
          have N50 : Blk W50 g50 44 (ov (.none 0)) := by rw [hW50, hg50]; exact Blk.new _ _ _
          have B50 : Below U4.heap.size U4 W50 := by rw [hW50]; exact B45.alloc B45.size _
          have L50 : U4.heap.size ≤ g50 := by rw [hg50]; exact B45.size
          have N50_5 : Blk W50 g44 44 (ov (.none 0)) := by rw [hW50]; exact N45_5.alloc _
          have E50_5 : g44 ≠ g50 := by rw [hg50]; exact Nat.ne_of_lt N45_5.lt
          refine do_lone (v := .pointer (some ⟨g50, 0, none⟩)) (w' := W50) 4 rfl (by kernel_rfl) (by rw [hW50, hg50]; exact ex_alloc 44 (ov (.none 0)) (by kernel_rfl) opt_zero) B50 ?_
          clear hW50 hg50 B45 N45_5
          refine walk_one 3 (by kernel_rfl) (do_call 3 rfl (by kernel_rfl) (by kernel_rfl) (HCY.out _) (fun w' h => bel_in B50 h) ?_)
          intro W51 hW51
          have B51 := bel_in B50 hW51
          have N51_5 := N50_5.below hW51 N50_5.lt
          have N51_4 := N50.below hW51 N50.lt
          clear hW51 B50 N50_5 N50
          obtain ⟨W52, hW52⟩ : ∃ w', w' = W51.setRow g50 (ov x) := ⟨_, rfl⟩
          have N52_4 : Blk W52 g50 44 (ov x) := by rw [hW52]; exact setRow_heap _ _ _ _ _ _ N51_4
          have B52 : Below U4.heap.size U4 W52 := by rw [hW52]; exact L12.below_setRow B51 L50 _
          have N52_5 : Blk W52 g44 44 (ov (.none 0)) := by rw [hW52]; exact N51_5.same (setRow_other _ _ _ _ E50_5)
          refine walk_one 6 (by kernel_rfl) (do_skip (w' := W52) 6 rfl (by kernel_rfl) (by rw [hW52]; exact ex_store_row 44 (.tmp 7) (.tmp 20) (by kernel_rfl) g50 (ov x) (by kernel_rfl) (by kernel_rfl) 44 (ov (.none 0)) N51_4 (ov_info _) ((ov_size _).trans (ov_size _).symm) (ov_one _)) B52 ?_)
          clear hW52 B51 N51_5 N51_4
          obtain ⟨W53, hW53⟩ : ∃ w', w' = W52.setRow g44 (ov y) := ⟨_, rfl⟩
          have N53_5 : Blk W53 g44 44 (ov y) := by rw [hW53]; exact setRow_heap _ _ _ _ _ _ N52_5
          have B53 : Below U4.heap.size U4 W53 := by rw [hW53]; exact L12.below_setRow B52 L44 _
          have N53_4 : Blk W53 g50 44 (ov x) := by rw [hW53]; exact N52_4.same (setRow_other _ _ _ _ (Ne.symm E50_5))
          refine walk_one 7 (by kernel_rfl) (do_skip (w' := W53) 7 rfl (by kernel_rfl) (by rw [hW53]; exact ex_store_row 44 (.tmp 8) (.tmp 22) (by kernel_rfl) g44 (ov y) (by kernel_rfl) (by kernel_rfl) 44 (ov (.none 0)) N52_5 (ov_info _) ((ov_size _).trans (ov_size _).symm) (ov_one _)) B53 ?_)
          clear hW53 B52 N52_4 N52_5
          refine walk_end_at ⟨List.toArray ((Value.agg (drv d) : Value) :: Value.agg (drv f) :: Value.agg (ov o) :: .pointer (some ⟨Xd, 0, none⟩) :: .pointer (some ⟨Xf, 0, none⟩) :: Value.pointer (some ⟨Xo, 0, none⟩) :: Value.bool false :: .pointer (some ⟨g50, 0, none⟩) :: .pointer (some ⟨g44, 0, none⟩) :: undef :: undef :: undef :: undef :: undef :: undef :: undef :: undef :: Value.bool true :: Value.bool false :: .agg (drv d) :: .agg (ov x) :: .agg (drv f) :: .agg (ov y) :: undef :: undef :: undef :: undef :: undef :: undef :: undef :: undef :: undef :: undef :: undef :: undef :: undef :: undef :: undef :: undef :: undef :: undef :: undef :: undef :: undef :: undef :: undef :: undef :: undef :: undef :: undef :: undef :: undef :: undef :: undef :: undef :: undef :: undef :: undef :: undef :: undef :: undef :: undef :: undef :: undef :: undef :: undef :: undef :: undef :: undef :: undef :: undef :: undef :: undef :: undef :: undef :: undef :: undef :: undef :: undef :: undef :: undef :: undef :: undef :: undef :: undef :: undef :: undef :: undef :: undef :: undef :: undef :: undef :: undef :: undef :: undef :: undef :: undef :: undef :: undef :: undef :: undef :: undef :: undef :: undef :: undef :: undef :: undef :: undef :: undef :: undef :: undef :: undef :: []), []⟩ (by kernel_rfl) (by kernel_rfl) ?_
          exact ⟨rfl, _, _, rfl, N53_4, N53_5, B53, L50, L44, (Ne.symm E50_5)⟩
      · obtain ⟨W54, hW54⟩ : ∃ w', w' = W44.alloc (.cells (ov (.none 0)) 44) := ⟨_, rfl⟩
        obtain ⟨g54, hg54⟩ : ∃ g, g = W44.heap.size := ⟨_, rfl⟩
        have N54 : Blk W54 g54 44 (ov (.none 0)) := by rw [hW54, hg54]; exact Blk.new _ _ _
        have B54 : Below U4.heap.size U4 W54 := by rw [hW54]; exact B44.alloc B44.size _
        have L54 : U4.heap.size ≤ g54 := by rw [hg54]; exact B44.size
        have N54_5 : Blk W54 g44 44 (ov (.none 0)) := by rw [hW54]; exact N44.alloc _
        have E54_5 : g44 ≠ g54 := by rw [hg54]; exact Nat.ne_of_lt N44.lt
        refine do_lone (v := .pointer (some ⟨g54, 0, none⟩)) (w' := W54) 4 rfl (by kernel_rfl) (by rw [hW54, hg54]; exact ex_alloc 44 (ov (.none 0)) (by kernel_rfl) opt_zero) B54 ?_
        clear hW54 hg54 B44 N44
        refine walk_one 1 (by kernel_rfl) (do_call 1 rfl (by kernel_rfl) (by kernel_rfl) (HCX.out _) (fun w' h => bel_in B54 h) ?_)
        intro W55 hW55
        have B55 := bel_in B54 hW55
        have N55_5 := N54_5.below hW55 N54_5.lt
        have N55_4 := N54.below hW55 N54.lt
        clear hW55 B54 N54_5 N54
        refine walk_one 3 (by kernel_rfl) (do_call 3 rfl (by kernel_rfl) (by kernel_rfl) (HCY.out _) (fun w' h => bel_in B55 h) ?_)
        intro W56 hW56
        have B56 := bel_in B55 hW56
        have N56_5 := N55_5.below hW56 N55_5.lt
        have N56_4 := N55_4.below hW56 N55_4.lt
        clear hW56 B55 N55_5 N55_4
        obtain ⟨W57, hW57⟩ : ∃ w', w' = W56.setRow g54 (ov x) := ⟨_, rfl⟩
        have N57_4 : Blk W57 g54 44 (ov x) := by rw [hW57]; exact setRow_heap _ _ _ _ _ _ N56_4
        have B57 : Below U4.heap.size U4 W57 := by rw [hW57]; exact L12.below_setRow B56 L54 _
        have N57_5 : Blk W57 g44 44 (ov (.none 0)) := by rw [hW57]; exact N56_5.same (setRow_other _ _ _ _ E54_5)
        refine walk_one 6 (by kernel_rfl) (do_skip (w' := W57) 6 rfl (by kernel_rfl) (by rw [hW57]; exact ex_store_row 44 (.tmp 7) (.tmp 20) (by kernel_rfl) g54 (ov x) (by kernel_rfl) (by kernel_rfl) 44 (ov (.none 0)) N56_4 (ov_info _) ((ov_size _).trans (ov_size _).symm) (ov_one _)) B57 ?_)
        clear hW57 B56 N56_5 N56_4
        obtain ⟨W58, hW58⟩ : ∃ w', w' = W57.setRow g44 (ov y) := ⟨_, rfl⟩
        have N58_5 : Blk W58 g44 44 (ov y) := by rw [hW58]; exact setRow_heap _ _ _ _ _ _ N57_5
        have B58 : Below U4.heap.size U4 W58 := by rw [hW58]; exact L12.below_setRow B57 L44 _
        have N58_4 : Blk W58 g54 44 (ov x) := by rw [hW58]; exact N57_4.same (setRow_other _ _ _ _ (Ne.symm E54_5))
        refine walk_one 7 (by kernel_rfl) (do_skip (w' := W58) 7 rfl (by kernel_rfl) (by rw [hW58]; exact ex_store_row 44 (.tmp 8) (.tmp 22) (by kernel_rfl) g44 (ov y) (by kernel_rfl) (by kernel_rfl) 44 (ov (.none 0)) N57_5 (ov_info _) ((ov_size _).trans (ov_size _).symm) (ov_one _)) B58 ?_)
        clear hW58 B57 N57_4 N57_5
        refine walk_end_at ⟨List.toArray ((Value.agg (drv d) : Value) :: Value.agg (drv f) :: Value.agg (ov o) :: .pointer (some ⟨Xd, 0, none⟩) :: .pointer (some ⟨Xf, 0, none⟩) :: Value.pointer (some ⟨Xo, 0, none⟩) :: Value.bool false :: .pointer (some ⟨g54, 0, none⟩) :: .pointer (some ⟨g44, 0, none⟩) :: undef :: undef :: undef :: undef :: undef :: undef :: undef :: undef :: Value.bool true :: Value.bool false :: .agg (drv d) :: .agg (ov x) :: .agg (drv f) :: .agg (ov y) :: undef :: undef :: undef :: undef :: undef :: undef :: undef :: undef :: undef :: undef :: undef :: undef :: undef :: undef :: undef :: undef :: undef :: undef :: undef :: undef :: undef :: undef :: undef :: undef :: undef :: undef :: undef :: undef :: undef :: undef :: undef :: undef :: undef :: undef :: undef :: undef :: undef :: undef :: undef :: undef :: undef :: undef :: undef :: undef :: undef :: undef :: undef :: undef :: undef :: undef :: undef :: undef :: undef :: undef :: undef :: undef :: undef :: undef :: undef :: undef :: undef :: undef :: undef :: undef :: undef :: undef :: undef :: undef :: undef :: undef :: undef :: undef :: undef :: undef :: undef :: undef :: undef :: undef :: undef :: undef :: undef :: undef :: undef :: undef :: undef :: undef :: undef :: undef :: undef :: []), []⟩ (by kernel_rfl) (by kernel_rfl) ?_
        exact ⟨rfl, _, _, rfl, N58_4, N58_5, B58, L54, L44, (Ne.symm E54_5)⟩

set_option maxRecDepth 100000 in
theorem lifted (os : Os) (started : os.Started) (H : Type) (enc : TypeId × Value → H) :
    ReturnsInHanded {} Tryz.checked os 6 .any (fun w args => (Rows.optBackSpec.pre enc Tryz.prog Tryz.f6 [] false w args ∧ laidMetH Tryz.prog laid1 w) ∧ sizedMet enc Tryz.prog Tryz.f6 (OpenSpec.ofChange Rows.optBackSpec) false w args)
      (Rows.optBackSpec.post enc Tryz.prog Tryz.f6 false true false false) := by
  refine returnsInHanded_of_change_and (C := Tryz.checked) (X := fun w _ => laidMetH Tryz.prog laid1 w) (fun _ _ _ hh h => h.of_heap hh) own started (by kernel_rfl) Tryz.func6
    (ChangeSpec.witness_shaped (enc := enc) (C := Tryz.checked) (os := os) (X := fun w _ => laidMetH Tryz.prog laid1 w) false (World.doorLaid Tryz.prog 400 os) #[.agg (drv ⟨0, 0, 0, false, false, false, 0, 0, 0, 0, List.replicate 24 0⟩), .agg (drv ⟨0, 0, 0, false, false, false, 0, 0, 0, 0, List.replicate 24 0⟩), .agg (ov (.none 0))] 8 rfl (World.shaped_of_RefB (by kernel_rfl) (by kernel_rfl)) (by kernel_rfl) (by kernel_rfl) (by kernel_rfl) (door_met os _)) ?_
  intro W base args ds gs before hval0 hW hcnd hsz0 hL _
  have hsz : (DataW.weightsEach Tryz.prog (Tryz.f6.params.toList ++ Rows.optBackSpec.plain.varTypes Tryz.prog) (ds ++ gs)).all (· ≤ reachBytes) = true := hsz0
  have ht := table_of hL
  have hval : ∀ (j : Nat) t v, Tryz.f6.params[j]? = some t → args[j]? = some v → Value.okWide Tryz.prog W .any base t v := hval0
  have hW' := hW
  obtain ⟨p, q, hA0, hV, rfl, hfz, hnd⟩ := hW
  have hA : DataW.TrodAll enc Tryz.prog W 0 (fun _ => true) true Tryz.f6.params.toList args.toList ds p := hA0
  rw [Tryz.params6] at hA hval hsz
  obtain ⟨v0, vs0, d0, ds0, p0, q0, hargs, rfl, rfl, h0, r0⟩ := trodAll_cons hA
  obtain ⟨v1, vs1, d1, ds1, p1, q1, rfl, rfl, rfl, h1, r1⟩ := trodAll_cons r0
  obtain ⟨v2, vs2, d2, ds2, p2, q2, rfl, rfl, rfl, h2, r2⟩ := trodAll_cons r1
  obtain ⟨rfl, rfl, rfl⟩ := trodAll_nil r2
  obtain rfl : args = #[v0, v1, v2] := by cases args; simp_all
  obtain ⟨rfl, rfl⟩ := trodVars_none hV
  have k0 := h0
  have lt0 : ∀ x ∈ p0, x.block < W.heap.size := by obtain ⟨m, hm⟩ := k0; exact DataW.trod_lt m _ _ _ hm
  obtain ⟨d, rfl, hd⟩ := open_draft (hval 0 48 v0 rfl rfl) h0
  have k1 := h1
  have lt1 : ∀ x ∈ p1, x.block < W.heap.size := by obtain ⟨m, hm⟩ := k1; exact DataW.trod_lt m _ _ _ hm
  obtain ⟨f, rfl, hf⟩ := open_draft (hval 1 48 v1 rfl rfl) h1
  have k2 := h2
  have lt2 : ∀ x ∈ p2, x.block < W.heap.size := by obtain ⟨m, hm⟩ := k2; exact DataW.trod_lt m _ _ _ hm
  obtain ⟨o, rfl, ho⟩ := open_opt (hval 2 44 v2 rfl rfl) h2
  clear hA0 hval0
  simp only [List.append_nil] at hW'
  refine (walk d hd f hf o ho W ht).mono fun e W' ⟨he, bel⟩ => ?_
  subst he
  exact ⟨_, rfl, _, _, _, [], _, [], hW', trodAll_mk1 (shut_bool Tryz.underlying4 _), (trodAll_cons_mk (Below.trod laidOut (by kernel_rfl) (of_decide_eq_true (by kernel_rfl)) k0 bel lt0) (trodAll_cons_mk (Below.trod laidOut (by kernel_rfl) (of_decide_eq_true (by kernel_rfl)) k1 bel lt1) (trodAll_cons_mk (Below.trod laidOut (by kernel_rfl) (of_decide_eq_true (by kernel_rfl)) k2 bel lt2) trodAll_mk0))), rfl, bel.frame _, fun h => by cases h⟩

theorem over : Rows.OptBackSaid :=
  OpenClaim.holds_of_wide 6 Tryz.f6 rfl rfl rfl rfl rfl rfl rfl ⟨rfl, rfl, rfl, rfl, rfl⟩ rfl rfl rfl rfl rfl (by kernel_rfl) Tryz.func6 (by kernel_rfl)
    (of_decide_eq_true (by kernel_rfl)) (by unfold Func.isWrapper; first | (rw [if_pos (by decide +kernel)]; kernel_rfl) | (rw [if_neg (by decide +kernel)]; exact ⟨rfl, rfl⟩))
    (fun os started H enc _ => lifted os started H enc)

theorem proved : Rows.OptBackCardSaid :=
  Claim7.holds_tied_plain_at .later [] [.handle, .data] true _ true
    over (fun _ h => by cases h) (by kernel_rfl) (fun _ h => by cases h) optBack_row_tie rfl ⟨rfl, rfl⟩ (by kernel_rfl) rfl
    (fun f fn hf hfn => by
      obtain rfl : f = 6 := Option.some.inj ((show Tryz.prog.funcNamed "plait/plaitlaw14.OptBack" = some 6 by kernel_rfl).symm.trans hf) |>.symm
      obtain rfl : fn = Tryz.f6 := (Option.some.inj (Tryz.func6.symm.trans hfn)).symm
      exact ⟨by kernel_rfl, fun j t ht => by
        rw [Tryz.params6] at ht
        have hm : t ∈ ([48, 48, 44] : List TypeId) := by simpa using Array.mem_of_getElem? ht
        have hall : (([48, 48, 44] : List TypeId).all fun u => !Tryz.prog.wantsStandIn u) = true := by kernel_rfl
        exact (show Tryz.prog.wantsStandIn t = false by simpa using List.all_eq_true.1 hall t hm)⟩)
    (by kernel_rfl)
#print axioms proved
end Go.Proofs.YtnlhhjhidkjlbaaGreatDoor.L14.optBack
