/-
  Whether an option may be, and its item, is as the document says (statement OptLays, promise P14.1), of any option, and any draft, without condition but the variables' own initial values, which the card ties to the program's text.
-/
import Derived.Test.YtnlhhjhidkjlbaaGreatDoorAllBase
import Derived.Test.YtnlhhjhidkjlbaaGreatDoorAllOpt1
set_option maxHeartbeats 4000000
set_option maxRecDepth 100000
set_option linter.unusedVariables false
set_option linter.unusedSimpArgs false
namespace Go.Proofs.YtnlhhjhidkjlbaaGreatDoor.L14.optLays
open Go Go.ChangeShapes Go.WideShapes Go.ChangeAt Go.RowKit
theorem neI {ops:Array Oper} {rest:List Oper} {op:Oper} {a:Act} {w:World} {Q:Exit→Act→World→Prop} (hw:Region.wanted op (yielded ops a.tmps)=true) (u:TypeId) (x y:Operand) (ho:op.op= .binOp .neq 53 x y u) (p:L4.It) (hx:a.eval x= .agg (itv p)) (hy:a.eval y= .agg (itv p)) (h:wpList Tryz.prog ops Q rest (a.put op.dst (.bool false)) w):wpList Tryz.prog ops Q (op::rest) a w:=
 wpv hw _ (mO 53 u x y ho (itv p) (itv p) hx hy (by kernel_rfl) true (item_equal p p true ⟨fun _=>rfl,fun _=>rfl⟩ w)) h
noncomputable def AR (a b c d e:Op):Array Value:=ov a++ov b++ov c++ov d++ov e
theorem hasOk {x:Op} (h:x.Ok):x.has.Ok:=by
 have z:=Op.jT
 unfold Op.has
 split
 ·exact ⟨sb 0 (by decide),h.cap,z.jn,z.ds,z.ad,z.rm,z.fa,z.fs,z.rf,z.rr⟩
 split
 ·exact ⟨sb 1 (by decide),z.cap,h.jn,z.ds,z.ad,z.rm,z.fa,z.fs,z.rf,z.rr⟩
 split
 ·exact ⟨sb 2 (by decide),z.cap,z.jn,h.ds,z.ad,z.rm,z.fa,z.fs,z.rf,z.rr⟩
 split
 ·exact ⟨sb 3 (by decide),z.cap,z.jn,z.ds,h.ad,z.rm,z.fa,z.fs,z.rf,z.rr⟩
 split
 ·exact ⟨sb 4 (by decide),z.cap,z.jn,z.ds,z.ad,h.rm,z.fa,z.fs,z.rf,z.rr⟩
 split
 ·exact ⟨sb 5 (by decide),z.cap,z.jn,z.ds,z.ad,z.rm,z.fa,z.fs,z.rf,z.rr⟩
 split
 ·exact ⟨sb 6 (by decide),z.cap,z.jn,z.ds,z.ad,z.rm,h.fa,z.fs,z.rf,z.rr⟩
 split
 ·exact ⟨sb 7 (by decide),z.cap,z.jn,z.ds,z.ad,z.rm,z.fa,h.fs,z.rf,z.rr⟩
 split
 ·exact ⟨sb 8 (by decide),z.cap,z.jn,z.ds,z.ad,z.rm,z.fa,z.fs,h.rf,h.rr⟩
 ·exact ⟨h.sub,z.cap,z.jn,z.ds,z.ad,z.rm,z.fa,z.fs,z.rf,z.rr⟩
theorem has_rm {x:Op} (h:x.rm.size≤1000):x.has.rm.size≤1000:=by
 unfold Op.has
 repeat' split
 all_goals first | exact h | exact Nat.zero_le _
theorem op_rm (d:Dr):d.op.rm.size≤1000:=by
 unfold Dr.op
 repeat' split
 all_goals first | exact Nat.zero_le _ | (show d.rm.size≤1000;unfold Dr.rm;rw [aU,List.length_take];have:=Nat.mod_lt d.what (show 0 < 24 by decide);omega)
theorem may_b (p:Op) {y:L4.It} {c:Int} (hy:(y,c)=encO p):decide (kS p)=(c==0):=by
 have hc:c=(encO p).2:=congrArg Prod.snd hy
 by_cases m:kS p
 ·rw [decide_eq_true m,hc,(xX p).2 m];rfl
 ·rw [decide_eq_false m];exact (beq_eq_false_iff_ne.2 fun e=>m ((xX p).1 (hc.symm.trans e))).symm
theorem boxed {w U:World} {X:Nat} {cs:Array Value} {T:TypeId} (hX:X=w.heap.size) (hU:U=w.alloc (.cells cs T)):Blk U X T cs∧Below w.heap.size w U:=by
 subst hX;subst hU
 exact ⟨Blk.new _ _ _,(Below.refl _ w).alloc (Nat.le_refl _) _⟩
theorem sub_ok {x:Op} {k:Int} (h:x.Ok) (hk: -9223372036854775808≤k∧k≤9223372036854775807):(iW x k).Ok:=⟨hk,h.cap,h.jn,h.ds,h.ad,h.rm,h.fa,h.fs,h.rf,h.rr⟩
theorem walk (o : Op) (ho : o.Fit) (d : Dr) (hd : d.Ok) (w : World) (ht : L10.Tbl w ∧ Hnd w) :
    Calls Tryz.prog 3 #[.agg (ov o), .agg (drv d)] w (Rt w (.bool true)) := by
  have HT := Lh ht.1
  have HH := Lh ht.2
  have HLD := Lh hd.bs
  obtain ⟨x, hx⟩ := eqx d.op
  obtain ⟨z, hz⟩ := eqx o.sh
  have HXO := Lh (show x.Ok by rw [hx]; exact (d.op_may hd).1)
  have HZO := Lh (show z.Ok by rw [hz]; exact o.sh_ok ho)
  have HXS := Lh (show x.rm.size ≤ 1000 by rw [hx]; exact op_rm d)
  have HZS := Lh (show z.rm.size ≤ 1000 by rw [hz]; have := pG o.rm; show (c60 o.rm).size ≤ 1000; omega)
  have HCX := Lh (show ∀ W, Calls Tryz.prog 11 #[.agg (drv d)] W (Rt W (.agg (ov x))) from fun W => by rw [hx]; exact Opt_any d hd W)
  have HCZ := Lh (show ∀ W, Calls Tryz.prog 10 #[.agg (ov o)] W (Rt W (.agg (ov z))) from fun W => by rw [hz]; exact short_any o W)
  clear ht hd ho hx hz
  go_enter Tryz.func3, Tryz.ntmps3
  go_wp2_with (first
        | (refine aV rfl 44 _ rfl (ov o) rfl ?_; intro V1 Xo hX hU; have hB := (boxed hX hU).2; have Ho_1 := Lh (boxed hX hU).1; have Go := Lh (show w.heap.size ≤ Xo by rw [hX]; exact Nat.le_refl _); have yE := Lh (hB); clear hX hU hB)
        | (refine aV rfl 48 _ rfl (drv d) rfl ?_; intro V2 Xd hX hU; have hB := (boxed hX hU).2; have Hd_2 := Lh (boxed hX hU).1; have Gd := Lh (show w.heap.size ≤ Xd by rw [hX]; exact yE.out.size); have HB_2 := Lh (yE.out.trans (hB.mono yE.out.size)); have Ho_2 := Lh (Ho_1.out.below hB Ho_1.out.lt); clear hX hU hB)
        | (refine ldO rfl _ rfl Xo (by kernel_rfl) o Ho_2.out ?_))
  refine (HCZ.out V2).mono ?_
  rintro e U3 ⟨rfl, q⟩
  have HB_3 := Lh (HB_2.out.trans (q.mono HB_2.out.size))
  have Ho_3 := Lh (Ho_2.out.below q Ho_2.out.lt)
  have Hd_3 := Lh (Hd_2.out.below q Hd_2.out.lt)
  clear q
  go_upto_region 2 with (refine aN rfl 44 _ _ rfl Xo rfl 44 (ov o) (ov z) rfl ?_ ((aB _).trans (aB _).symm) (aC _) (aQ _) ?_; exact Ho_3.out; intro Y1 g3 n3; have HO1 := Lh n3; have HB1 := Lh (HB_3.out.trans (aA g3 Go.out HB_3.out.size)); have HD1 := Lh (Hd_3.out.grown g3 (by simp; exact Blk.ne_ Hd_3.out Ho_3.out (by decide))); clear g3 n3)
  go_wp2_with (refine wpList_load_row rfl 48 _ rfl Xd rfl 48 (drv d) (0, 0) _ ?_ Tryz.underlying48 rfl (tK d HLD.out) ?_; exact HD1.out)
  refine (HCX.out Y1).mono ?_
  rintro e U4 ⟨rfl, q⟩
  have HB_4 := Lh (HB1.out.trans (q.mono HB1.out.size))
  have Ho_4 := Lh (HO1.out.below q HO1.out.lt)
  have Hd_4 := Lh (HD1.out.below q HD1.out.lt)
  clear q
  go_upto_region 3 with (refine qE rfl rfl 5 rfl rfl _ rfl x (fun _ => by kernel_rfl) (fun _ => by kernel_rfl) ?_; intro V5 Xx hb hB hx; have Hx_5 := Lh hb; have Gx := Lh (Nat.le_trans HB_4.out.size hx); have zZ := Lh (HB_4.out.trans (hB.mono HB_4.out.size)); have Ho_5 := Lh (Ho_4.out.below hB Ho_4.out.lt); clear hb hB hx)
  refine Code.wp_mono (Q := fun e a' wx => e = .normal ∧ ∃ pX qX, a' = ⟨List.toArray (Value.agg (ov o) :: Value.agg (drv d) :: Value.pointer (some ⟨Xo, 0, none⟩) :: Value.pointer (some ⟨Xd, 0, none⟩) :: Value.bool false :: Value.pointer (some ⟨Xx, 0, none⟩) :: Value.pointer (some ⟨pX, 0, none⟩) :: Value.pointer (some ⟨qX, 0, none⟩) :: undef :: undef :: undef :: undef :: undef :: undef :: Value.agg (ov o) :: Value.agg (ov z) :: Value.agg (drv d) :: Value.agg (ov x) :: Value.agg (ov x) :: Value.agg (ov z) :: undef :: undef :: undef :: undef :: undef :: undef :: undef :: undef :: undef :: undef :: undef :: undef :: undef :: undef :: undef :: undef :: undef :: undef :: undef :: undef :: undef :: undef :: undef :: undef :: undef :: undef :: undef :: undef :: undef :: undef :: undef :: undef :: undef :: undef :: undef :: undef :: undef :: undef :: undef :: undef :: undef :: undef :: undef :: []), []⟩ ∧ Blk wx pX 44 (ov x) ∧ Blk wx qX 44 (ov z) ∧ Below V5.heap.size V5 wx ∧ V5.heap.size ≤ pX ∧ V5.heap.size ≤ qX ∧ pX ≠ qX) ?_ ?_
  · intro e a' wx h
    obtain ⟨rfl, pX, qX, rfl, hp, hq, hb, lp, lq, hne⟩ := h
    have HP := Lh hp
    have HQ := Lh hq
    have HPQ := Lh hne
    clear hp hq hne
    have HB_101 := Lh (zZ.out.trans (hb.mono zZ.out.size))
    have Ho_101 := Lh (Ho_5.out.below hb Ho_5.out.lt)
    have Hx_101 := Lh (Hx_5.out.below hb Hx_5.out.lt)
    have HNP := Lh (show w.heap.size ≤ pX from Nat.le_trans zZ.out.size lp)
    have HNQ := Lh (show w.heap.size ≤ qX from Nat.le_trans zZ.out.size lq)
    have NXP := Lh (show Xx ≠ pX ∧ Xo ≠ pX ∧ Xx ≠ qX ∧ Xo ≠ qX from ⟨Nat.ne_of_lt (Nat.lt_of_lt_of_le Hx_5.out.lt lp), Nat.ne_of_lt (Nat.lt_of_lt_of_le Ho_5.out.lt lp), Nat.ne_of_lt (Nat.lt_of_lt_of_le Hx_5.out.lt lq), Nat.ne_of_lt (Nat.lt_of_lt_of_le Ho_5.out.lt lq)⟩)
    clear hb lp lq
    have cs := (Ho_101.out.cell 0).trans (dF z)
    have cd := (HP.out.cell 0).trans (dF x)
    have fz := HP.out.frozen 0
    obtain ⟨W4, hY⟩ : ∃ Y, Y = wx.setCell ⟨pX, 0, none⟩ (.int .i64 z.sub) := ⟨_, rfl⟩
    have HYE := Lh hY
    have Np_W4 := Lh (show Blk W4 pX 44 (ov (iW x z.sub)) by rw [hY, ← ov_sub]; exact HP.out.gG 0 _)
    have No_W4 := Lh (show Blk W4 Xo 44 (ov z) by rw [hY]; exact Ho_101.out.same (Below.heap_setCell _ ⟨pX, 0, none⟩ _ _ (NXP.out.2.1)))
    have Nx_W4 := Lh (show Blk W4 Xx 44 (ov x) by rw [hY]; exact Hx_101.out.same (Below.heap_setCell _ ⟨pX, 0, none⟩ _ _ (NXP.out.1)))
    have Nq_W4 := Lh (show Blk W4 qX 44 (ov z) by rw [hY]; exact HQ.out.same (Below.heap_setCell _ ⟨pX, 0, none⟩ _ _ (Ne.symm HPQ.out)))
    have BW4 := Lh (show Below w.heap.size w W4 by rw [hY]; exact HB_101.out.setCell (p := ⟨pX, 0, none⟩) HNP.out _)
    clear hY
    go_upto_region 5 with fail
    rw [← HYE.out]
    clear HYE cs cd fz
    have cs := (Nx_W4.out.cell 0).trans (dF x)
    have cd := (Nq_W4.out.cell 0).trans (dF z)
    have fz := Nq_W4.out.frozen 0
    obtain ⟨W5, hY⟩ : ∃ Y, Y = W4.setCell ⟨qX, 0, none⟩ (.int .i64 x.sub) := ⟨_, rfl⟩
    have HYE := Lh hY
    have Nq_W5 := Lh (show Blk W5 qX 44 (ov (iW z x.sub)) by rw [hY, ← ov_sub]; exact Nq_W4.out.gG 0 _)
    have Np_W5 := Lh (show Blk W5 pX 44 (ov (iW x z.sub)) by rw [hY]; exact Np_W4.out.same (Below.heap_setCell _ ⟨qX, 0, none⟩ _ _ (HPQ.out)))
    have No_W5 := Lh (show Blk W5 Xo 44 (ov z) by rw [hY]; exact No_W4.out.same (Below.heap_setCell _ ⟨qX, 0, none⟩ _ _ (NXP.out.2.2.2)))
    have Nx_W5 := Lh (show Blk W5 Xx 44 (ov x) by rw [hY]; exact Nx_W4.out.same (Below.heap_setCell _ ⟨qX, 0, none⟩ _ _ (NXP.out.2.2.1)))
    have BW5 := Lh (show Below w.heap.size w W5 by rw [hY]; exact BW4.out.setCell (p := ⟨qX, 0, none⟩) HNQ.out _)
    clear hY
    go_upto_region 6 with fail
    rw [← HYE.out]
    clear HYE cs cd fz
    refine bZ (n := 8) rfl ?_
    intro Z0 B0
    refine stG 0 (.agg (ov z)) rfl B0 (fun W q => xRw 44 (.tmp 2) Xo (No_W5.out.below q No_W5.out.lt) Tryz.underlying44 (aC _)) (stG 1 (.agg (ov x)) rfl B0 (fun W q => xRw 44 (.tmp 5) Xx (Nx_W5.out.below q Nx_W5.out.lt) Tryz.underlying44 (aC _)) (stG 2 (.agg (ov (iW x z.sub))) rfl B0 (fun W q => xRw 44 (.tmp 6) pX (Np_W5.out.below q Np_W5.out.lt) Tryz.underlying44 (aC _)) (stG 3 (.agg (ov (iW z x.sub))) rfl B0 (fun W q => xRw 44 (.tmp 7) qX (Nq_W5.out.below q Nq_W5.out.lt) Tryz.underlying44 (aC _)) (stG 4 (.agg (ov (iW z x.sub))) rfl B0 (fun W q => xRw 44 (.tmp 7) qX (Nq_W5.out.below q Nq_W5.out.lt) Tryz.underlying44 (aC _)) (stF 7 (.int .i64 0) rfl B0 ?_)))))
    refine stB 5 (v := .agg (ov (Op.has (iW z x.sub)))) rfl (has_any _ Z0) B0 ?_
    intro Z1 B1
    clear B0
    refine stF 6 (.agg (AR z x (iW x z.sub) (iW z x.sub) (Op.has (iW z x.sub)))) rfl B1 ?_
    refine aZ ⟨List.toArray (Value.agg (ov o) :: Value.agg (drv d) :: Value.pointer (some ⟨Xo, 0, none⟩) :: Value.pointer (some ⟨Xd, 0, none⟩) :: Value.bool false :: Value.pointer (some ⟨Xx, 0, none⟩) :: Value.pointer (some ⟨pX, 0, none⟩) :: Value.pointer (some ⟨qX, 0, none⟩) :: undef :: undef :: undef :: undef :: undef :: undef :: Value.agg (ov o) :: Value.agg (ov z) :: Value.agg (drv d) :: Value.agg (ov x) :: Value.agg (ov x) :: Value.agg (ov z) :: Value.pointer (some ⟨Xo, 0, none⟩) :: Value.int .i64 z.sub :: Value.pointer (some ⟨pX, 0, none⟩) :: Value.pointer (some ⟨Xx, 0, none⟩) :: Value.int .i64 x.sub :: Value.pointer (some ⟨qX, 0, none⟩) :: Value.agg (ov z) :: Value.agg (ov x) :: Value.agg (ov (iW x z.sub)) :: Value.agg (ov (iW z x.sub)) :: Value.agg (ov (iW z x.sub)) :: Value.agg (ov (Op.has (iW z x.sub))) :: Value.agg (AR z x (iW x z.sub) (iW z x.sub) (Op.has (iW z x.sub))) :: Value.int .i64 0 :: undef :: undef :: undef :: undef :: undef :: undef :: undef :: undef :: undef :: undef :: undef :: undef :: undef :: undef :: undef :: undef :: undef :: undef :: undef :: undef :: undef :: undef :: undef :: undef :: undef :: undef :: undef :: undef :: undef :: []), []⟩ (by kernel_rfl) (by kernel_rfl) ?_
    have HB_102 := Lh (BW5.out.trans (B1.mono BW5.out.size))
    clear B1
    have HIDX := Lh (show ∀ j < 5, ∃ p : Op, p.Ok ∧ p.rm.size ≤ 1000 ∧ ∀ W, (Instr.index 51 (.agg (AR z x (iW x z.sub) (iW z x.sub) (Op.has (iW z x.sub)))) (.int .i64 ((j : Nat) : Int))).run Tryz.prog W = .ok (.agg (ov p)) W by
      intro j hj
      have hj5 : j = 0 ∨ j = 1 ∨ j = 2 ∨ j = 3 ∨ j = 4 := by omega
      rcases hj5 with rfl | rfl | rfl | rfl | rfl
      · exact ⟨z, HZO.out, HZS.out, fun _ => by kernel_rfl⟩
      · exact ⟨x, HXO.out, HXS.out, fun _ => by kernel_rfl⟩
      · exact ⟨(iW x z.sub), sub_ok HXO.out HZO.out.sub, HXS.out, fun _ => by kernel_rfl⟩
      · exact ⟨(iW z x.sub), sub_ok HZO.out HXO.out.sub, HZS.out, fun _ => by kernel_rfl⟩
      · exact ⟨Op.has (iW z x.sub), hasOk (sub_ok HZO.out HXO.out.sub), has_rm HZS.out, fun _ => by kernel_rfl⟩)
    obtain ⟨A5, hA5⟩ : ∃ A, A = (AR z x (iW x z.sub) (iW z x.sub) (Op.has (iW z x.sub))) := ⟨_, rfl⟩
    rw [← hA5] at HIDX ⊢
    clear hA5
    go_wp2_with fail
    go_loopw [33] (fun i wr => ∃ j : Nat, j ≤ 5 ∧ i = .int .i64 (j : Int) ∧ Below w.heap.size w wr) (fun i _ => 5 - (intOf i).toNat)
    case atStart => exact ⟨0, by omega, rfl, HB_102.out⟩
    case round =>
      obtain ⟨j, hj, rfl, hW⟩ := hrel
      have HW0 := Lh hW
      clear hW
      by_cases hlt : j < 5
      · obtain ⟨p, hp1, hp2, hp3⟩ := HIDX.out j hlt
        have HPO := Lh hp1
        have HPS := Lh (show p.rm.size ≤ 4611686018427387904 by omega)
        have HPI := Lh hp3
        obtain ⟨⟨y, c⟩, hy⟩ : ∃ q, q = encO p := ⟨_, rfl⟩
        have HE := Lh (show dC p = .tuple #[.agg (itv y), .int .i64 c] by unfold dC; rw [← hy])
        obtain ⟨B, hB⟩ : ∃ B : Bool, B = (c == 0) := ⟨_, rfl⟩
        have HMB := Lh (show decide (kS p) = B by rw [hB]; exact may_b p hy)
        have hcB := hB.symm
        have hBB : (B != B) = false := by cases B <;> rfl
        have hcc : (c != c) = false := by rw [bne_self_eq_false]
        clear hp1 hp2 hp3 hy hB
        go_upto_region 9 with (first
                    | (refine xE rfl (.agg (ov p)) (xIx 51 (.tmp 32) (.tmp 33) (.agg A5) (.int .i64 (j : Int)) _ HPI.out rfl) ?_)
                    | (refine qE rfl rfl 9 rfl rfl _ rfl p (fun _ => by kernel_rfl) (fun _ => by kernel_rfl) ?_; intro V301 Xv hb hB hx; have Hv_301 := Lh hb; have Gv := Lh (Nat.le_trans HW0.out.size hx); have qC := Lh (HW0.out.trans (hB.mono HW0.out.size)); clear hb hB hx))
        go_wp2_with (refine ldO rfl _ rfl Xv (by kernel_rfl) p Hv_301.out ?_)
        refine (answer (fU p HPO.out V301 (HT.out.below qC.out) (HH.out.below qC.out)) (v' := .tuple #[.agg (itv y), .int .i64 c]) HE.out).mono ?_
        rintro e U302 ⟨rfl, q⟩
        have uV := Lh (qC.out.trans (q.mono qC.out.size))
        have Hv_302 := Lh (Hv_301.out.below q Hv_301.out.lt)
        clear q
        go_upto_region 10 with (refine tV rfl rfl 10 rfl rfl _ rfl y (fun _ => by kernel_rfl) (fun _ => by kernel_rfl) ?_; intro V303 Xi hb hB hx; have Hi_303 := Lh hb; have Gi := Lh (Nat.le_trans uV.out.size hx); have yU := Lh (uV.out.trans (hB.mono uV.out.size)); have Hv_303 := Lh (Hv_302.out.below hB Hv_302.out.lt); clear hb hB hx)
        go_wp2_with (refine ldO rfl _ rfl Xv (by kernel_rfl) p Hv_303.out ?_)
        refine (answer (iH p HPO.out HPS.out V303) (v' := .tuple #[.agg (itv y), .int .i64 c]) HE.out).mono ?_
        rintro e U304 ⟨rfl, q⟩
        have uT := Lh (yU.out.trans (q.mono yU.out.size))
        have Hv_304 := Lh (Hv_303.out.below q Hv_303.out.lt)
        have Hi_304 := Lh (Hi_303.out.below q Hi_303.out.lt)
        clear q
        go_upto_region 11 with (refine tV rfl rfl 12 rfl rfl _ rfl y (fun _ => by kernel_rfl) (fun _ => by kernel_rfl) ?_; intro V305 Xr hb hB hx; have Hr_305 := Lh hb; have Gr := Lh (Nat.le_trans uT.out.size hx); have yA := Lh (uT.out.trans (hB.mono uT.out.size)); have Hv_305 := Lh (Hv_304.out.below hB Hv_304.out.lt); have Hi_305 := Lh (Hi_304.out.below hB Hi_304.out.lt); clear hb hB hx)
        go_wp2_with (first
                    | (refine ldI rfl _ rfl Xi rfl y Hi_305.out ?_)
                    | (refine ldI rfl _ rfl Xr rfl y Hr_305.out ?_)
                    | (refine ldO rfl _ rfl Xv rfl p Hv_305.out ?_)
                    | (refine neI rfl _ _ _ rfl y rfl rfl ?_))
        refine (answer (May_any p HPO.out V305 (HT.out.below yA.out) (HH.out.below yA.out)) (v' := .bool B) (by rw [HMB.out])).mono ?_
        rintro e U306 ⟨rfl, q⟩
        have HB_306 := Lh (yA.out.trans (q.mono yA.out.size))
        have Hv_306 := Lh (Hv_305.out.below q Hv_305.out.lt)
        have Hi_306 := Lh (Hi_305.out.below q Hi_305.out.lt)
        have Hr_306 := Lh (Hr_305.out.below q Hr_305.out.lt)
        clear q
        go_wp2_with fail
        exact ⟨⟨j + 1, by omega, by go_num, HB_306.out⟩, by simp [intOf]; omega⟩
      · have hj5 : j = 5 := by omega
        subst hj5
        go_wp2_with fail
        refine (works_t wr (HT.out.below HW0.out) (HH.out.below HW0.out)).mono ?_
        rintro e U501 ⟨rfl, q⟩
        have HB_501 := Lh (HW0.out.trans (q.mono HW0.out.size))
        clear q
        go_wp2_with fail
        go_ret
        exact ⟨rfl, HB_501.out⟩
  · skip
    have B0 : Below V5.heap.size V5 V5.drew := (Below.refl _ V5).drew
    refine jL 5 (fun W => Below V5.heap.size V5 W) (by kernel_rfl) (n := 6) rfl ?_
    obtain ⟨W0, hW0⟩ := eqx V5.drew
    rw [← hW0] at B0 ⊢
    clear hW0
    refine wkG 0 (.agg (ov x)) rfl B0 (fun W b => xRw 44 (.tmp 5) Xx (Hx_5.out.below b Hx_5.out.lt) Tryz.underlying44 (aC _)) (wkG 1 (.agg (ov z)) rfl B0 (fun W b => xRw 44 (.tmp 2) Xo (Ho_5.out.below b Ho_5.out.lt) Tryz.underlying44 (aC _)) ?_)
    refine mQ 2 3 (by kernel_rfl) ?_ ?_
    · obtain ⟨W1, hW1⟩ : ∃ w', w' = W0.alloc (.cells (ov (.none 0)) 44) := ⟨_, rfl⟩
      obtain ⟨g1, hg1⟩ : ∃ g, g = W0.heap.size := ⟨_, rfl⟩
      have N1 : Blk W1 g1 44 (ov (.none 0)) := by rw [hW1, hg1]; exact Blk.new _ _ _
      have B1 : Below V5.heap.size V5 W1 := by rw [hW1]; exact B0.alloc B0.size _
      have L1 : V5.heap.size ≤ g1 := by rw [hg1]; exact B0.size
      refine eY (v := .pointer (some ⟨g1, 0, none⟩)) (w' := W1) 2 rfl (by kernel_rfl) (by rw [hW1, hg1]; exact iT 44 (ov (.none 0)) (by kernel_rfl) aJ) B1 ?_
      clear hW1 hg1 B0
      obtain ⟨W2, hW2⟩ : ∃ w', w' = W1.alloc (.cells (ov (.none 0)) 44) := ⟨_, rfl⟩
      obtain ⟨g2, hg2⟩ : ∃ g, g = W1.heap.size := ⟨_, rfl⟩
      have N2 : Blk W2 g2 44 (ov (.none 0)) := by rw [hW2, hg2]; exact Blk.new _ _ _
      have B2 : Below V5.heap.size V5 W2 := by rw [hW2]; exact B1.alloc B1.size _
      have L2 : V5.heap.size ≤ g2 := by rw [hg2]; exact B1.size
      have N2_2 : Blk W2 g1 44 (ov (.none 0)) := by rw [hW2]; exact N1.alloc _
      have E2_2 : g1 ≠ g2 := by rw [hg2]; exact Nat.ne_of_lt N1.lt
      refine bI 3 (by kernel_rfl) (eY (v := .pointer (some ⟨g2, 0, none⟩)) (w' := W2) 3 rfl (by kernel_rfl) (by rw [hW2, hg2]; exact iT 44 (ov (.none 0)) (by kernel_rfl) aJ) B2 ?_)
      clear hW2 hg2 B1 N1
      obtain ⟨W3, hW3⟩ : ∃ w', w' = W2.setRow g1 (ov x) := ⟨_, rfl⟩
      have N3_2 : Blk W3 g1 44 (ov x) := by rw [hW3]; exact setRow_heap _ _ _ _ _ _ N2_2
      have B3 : Below V5.heap.size V5 W3 := by rw [hW3]; exact L12.below_setRow B2 L1 _
      have N3_3 : Blk W3 g2 44 (ov (.none 0)) := by rw [hW3]; exact N2.same (setRow_other _ _ _ _ (Ne.symm E2_2))
      refine bI 4 (by kernel_rfl) (mJ (w' := W3) 4 rfl (by kernel_rfl) (by rw [hW3]; exact bQ 44 (.tmp 6) (.tmp 18) (by kernel_rfl) g1 (ov x) (by kernel_rfl) (by kernel_rfl) 44 (ov (.none 0)) N2_2 (aC _) ((aB _).trans (aB _).symm) (aQ _)) B3 ?_)
      clear hW3 B2 N2_2 N2
      obtain ⟨W4, hW4⟩ : ∃ w', w' = W3.setRow g2 (ov z) := ⟨_, rfl⟩
      have N4_3 : Blk W4 g2 44 (ov z) := by rw [hW4]; exact setRow_heap _ _ _ _ _ _ N3_3
      have B4 : Below V5.heap.size V5 W4 := by rw [hW4]; exact L12.below_setRow B3 L2 _
      have N4_2 : Blk W4 g1 44 (ov x) := by rw [hW4]; exact N3_2.same (setRow_other _ _ _ _ E2_2)
      refine bI 5 (by kernel_rfl) (mJ (w' := W4) 5 rfl (by kernel_rfl) (by rw [hW4]; exact bQ 44 (.tmp 7) (.tmp 19) (by kernel_rfl) g2 (ov z) (by kernel_rfl) (by kernel_rfl) 44 (ov (.none 0)) N3_3 (aC _) ((aB _).trans (aB _).symm) (aQ _)) B4 ?_)
      clear hW4 B3 N3_2 N3_3
      refine dI ⟨List.toArray ((Value.agg (ov o) : Value) :: Value.agg (drv d) :: .pointer (some ⟨Xo, 0, none⟩) :: Value.pointer (some ⟨Xd, 0, none⟩) :: Value.bool false :: .pointer (some ⟨Xx, 0, none⟩) :: .pointer (some ⟨g1, 0, none⟩) :: .pointer (some ⟨g2, 0, none⟩) :: undef :: undef :: undef :: undef :: undef :: undef :: Value.agg (ov o) :: Value.agg (ov z) :: Value.agg (drv d) :: Value.agg (ov x) :: .agg (ov x) :: .agg (ov z) :: undef :: undef :: undef :: undef :: undef :: undef :: undef :: undef :: undef :: undef :: undef :: undef :: undef :: undef :: undef :: undef :: undef :: undef :: undef :: undef :: undef :: undef :: undef :: undef :: undef :: undef :: undef :: undef :: undef :: undef :: undef :: undef :: undef :: undef :: undef :: undef :: undef :: undef :: undef :: undef :: undef :: undef :: undef :: []), []⟩ (by kernel_rfl) (by kernel_rfl) ?_
      exact ⟨rfl, _, _, rfl, N4_2, N4_3, B4, L1, L2, E2_2⟩
    · obtain ⟨W5, hW5⟩ : ∃ w', w' = W0.alloc (.cells (ov (.none 0)) 44) := ⟨_, rfl⟩
      obtain ⟨g5, hg5⟩ : ∃ g, g = W0.heap.size := ⟨_, rfl⟩
      have N5 : Blk W5 g5 44 (ov (.none 0)) := by rw [hW5, hg5]; exact Blk.new _ _ _
      have B5 : Below V5.heap.size V5 W5 := by rw [hW5]; exact B0.alloc B0.size _
      have L5 : V5.heap.size ≤ g5 := by rw [hg5]; exact B0.size
      refine eY (v := .pointer (some ⟨g5, 0, none⟩)) (w' := W5) 3 rfl (by kernel_rfl) (by rw [hW5, hg5]; exact iT 44 (ov (.none 0)) (by kernel_rfl) aJ) B5 ?_
      clear hW5 hg5 B0
      obtain ⟨W6, hW6⟩ : ∃ w', w' = W5.alloc (.cells (ov (.none 0)) 44) := ⟨_, rfl⟩
      obtain ⟨g6, hg6⟩ : ∃ g, g = W5.heap.size := ⟨_, rfl⟩
      have N6 : Blk W6 g6 44 (ov (.none 0)) := by rw [hW6, hg6]; exact Blk.new _ _ _
      have B6 : Below V5.heap.size V5 W6 := by rw [hW6]; exact B5.alloc B5.size _
      have L6 : V5.heap.size ≤ g6 := by rw [hg6]; exact B5.size
      have N6_3 : Blk W6 g5 44 (ov (.none 0)) := by rw [hW6]; exact N5.alloc _
      have E6_3 : g5 ≠ g6 := by rw [hg6]; exact Nat.ne_of_lt N5.lt
      refine bI 2 (by kernel_rfl) (eY (v := .pointer (some ⟨g6, 0, none⟩)) (w' := W6) 2 rfl (by kernel_rfl) (by rw [hW6, hg6]; exact iT 44 (ov (.none 0)) (by kernel_rfl) aJ) B6 ?_)
      clear hW6 hg6 B5 N5
      obtain ⟨W7, hW7⟩ : ∃ w', w' = W6.setRow g6 (ov x) := ⟨_, rfl⟩
      have N7_2 : Blk W7 g6 44 (ov x) := by rw [hW7]; exact setRow_heap _ _ _ _ _ _ N6
      have B7 : Below V5.heap.size V5 W7 := by rw [hW7]; exact L12.below_setRow B6 L6 _
      have N7_3 : Blk W7 g5 44 (ov (.none 0)) := by rw [hW7]; exact N6_3.same (setRow_other _ _ _ _ E6_3)
      refine bI 4 (by kernel_rfl) (mJ (w' := W7) 4 rfl (by kernel_rfl) (by rw [hW7]; exact bQ 44 (.tmp 6) (.tmp 18) (by kernel_rfl) g6 (ov x) (by kernel_rfl) (by kernel_rfl) 44 (ov (.none 0)) N6 (aC _) ((aB _).trans (aB _).symm) (aQ _)) B7 ?_)
      clear hW7 B6 N6_3 N6
      obtain ⟨W8, hW8⟩ : ∃ w', w' = W7.setRow g5 (ov z) := ⟨_, rfl⟩
      have N8_3 : Blk W8 g5 44 (ov z) := by rw [hW8]; exact setRow_heap _ _ _ _ _ _ N7_3
      have B8 : Below V5.heap.size V5 W8 := by rw [hW8]; exact L12.below_setRow B7 L5 _
      have N8_2 : Blk W8 g6 44 (ov x) := by rw [hW8]; exact N7_2.same (setRow_other _ _ _ _ (Ne.symm E6_3))
      refine bI 5 (by kernel_rfl) (mJ (w' := W8) 5 rfl (by kernel_rfl) (by rw [hW8]; exact bQ 44 (.tmp 7) (.tmp 19) (by kernel_rfl) g5 (ov z) (by kernel_rfl) (by kernel_rfl) 44 (ov (.none 0)) N7_3 (aC _) ((aB _).trans (aB _).symm) (aQ _)) B8 ?_)
      clear hW8 B7 N7_2 N7_3
      refine dI ⟨List.toArray ((Value.agg (ov o) : Value) :: Value.agg (drv d) :: .pointer (some ⟨Xo, 0, none⟩) :: Value.pointer (some ⟨Xd, 0, none⟩) :: Value.bool false :: .pointer (some ⟨Xx, 0, none⟩) :: .pointer (some ⟨g6, 0, none⟩) :: .pointer (some ⟨g5, 0, none⟩) :: undef :: undef :: undef :: undef :: undef :: undef :: Value.agg (ov o) :: Value.agg (ov z) :: Value.agg (drv d) :: Value.agg (ov x) :: .agg (ov x) :: .agg (ov z) :: undef :: undef :: undef :: undef :: undef :: undef :: undef :: undef :: undef :: undef :: undef :: undef :: undef :: undef :: undef :: undef :: undef :: undef :: undef :: undef :: undef :: undef :: undef :: undef :: undef :: undef :: undef :: undef :: undef :: undef :: undef :: undef :: undef :: undef :: undef :: undef :: undef :: undef :: undef :: undef :: undef :: undef :: undef :: []), []⟩ (by kernel_rfl) (by kernel_rfl) ?_
      exact ⟨rfl, _, _, rfl, N8_2, N8_3, B8, L6, L5, (Ne.symm E6_3)⟩
theorem lifted (os:Os) (started:os.Started) (H:Type) (enc:TypeId×Value→H):
  ReturnsInHanded {} Tryz.checked os 3 .any (fun w args=>(Rows.optLaysSpec.pre enc Tryz.prog Tryz.f3 [] false w args∧laidMetH Tryz.prog laid1 w)∧sizedMet enc Tryz.prog Tryz.f3 (OpenSpec.ofChange Rows.optLaysSpec) false w args)
   (Rows.optLaysSpec.post enc Tryz.prog Tryz.f3 false true false false):=by
 refine returnsInHanded_of_change_and (C:=Tryz.checked) (X:=fun w _=>laidMetH Tryz.prog laid1 w) (fun _ _ _ hh h=>h.of_heap hh) own started (by kernel_rfl) Tryz.func3
  (ChangeSpec.witness_shaped (enc:=enc) (C:=Tryz.checked) (os:=os) (X:=fun w _=>laidMetH Tryz.prog laid1 w) false (World.doorLaid Tryz.prog 400 os) #[.agg (ov (.none 0)),.agg (drv ⟨0,0,0,false,false,false,0,0,0,0,List.replicate 24 0⟩)] 8 rfl (World.shaped_of_RefB (by kernel_rfl) (by kernel_rfl)) (by kernel_rfl) (by kernel_rfl) (by kernel_rfl) (door_met os _)) ?_
 intro W base args ds gs before hval0 hW hcnd hsz0 hL _
 have hsz:(DataW.weightsEach Tryz.prog (Tryz.f3.params.toList++Rows.optLaysSpec.plain.varTypes Tryz.prog) (ds++gs)).all (·≤reachBytes)=true:=hsz0
 have ht:=table_of hL
 have hval:∀(j:Nat) t v,Tryz.f3.params[j]?=some t→args[j]?=some v→Value.okWide Tryz.prog W .any base t v:=hval0
 have hW':=hW
 obtain ⟨p,q,hA0,hV,rfl,hfz,hnd⟩:=hW
 have hA:DataW.TrodAll enc Tryz.prog W 0 (fun _=>true) true Tryz.f3.params.toList args.toList ds p:=hA0
 rw [Tryz.params3] at hA hval hsz
 obtain ⟨v0,vs0,d0,ds0,p0,q0,hargs,rfl,rfl,h0,r0⟩:=trodAll_cons hA
 obtain ⟨v1,vs1,d1,ds1,p1,q1,rfl,rfl,rfl,h1,r1⟩:=trodAll_cons r0
 obtain ⟨rfl,rfl,rfl⟩:=trodAll_nil r1
 obtain rfl:args=#[v0,v1]:=by cases args;simp_all
 obtain ⟨rfl,rfl⟩:=trodVars_none hV
 have k0:=h0
 have lt0:∀x∈p0,x.block < W.heap.size:=by obtain ⟨m,hm⟩:=k0;exact DataW.trod_lt m _ _ _ hm
 obtain ⟨o,rfl,ho⟩:=open_opt (hval 0 44 v0 rfl rfl) h0
 have k1:=h1
 have lt1:∀x∈p1,x.block < W.heap.size:=by obtain ⟨m,hm⟩:=k1;exact DataW.trod_lt m _ _ _ hm
 obtain ⟨d,rfl,hd⟩:=open_draft (hval 1 48 v1 rfl rfl) h1
 clear hA0 hval0
 simp only [List.append_nil] at hW'
 refine (walk o ho d hd W ht).mono fun e W' ⟨he,bel⟩=>?_
 subst he
 exact ⟨_,rfl,_,_,_,[],_,[],hW',trodAll_mk1 (shut_bool Tryz.underlying4 _),(trodAll_cons_mk (Below.trod laidOut (by kernel_rfl) (of_decide_eq_true (by kernel_rfl)) k0 bel lt0) (trodAll_cons_mk (Below.trod laidOut (by kernel_rfl) (of_decide_eq_true (by kernel_rfl)) k1 bel lt1) trodAll_mk0)),rfl,bel.frame _,fun h=>by cases h⟩
theorem over:Rows.OptLaysSaid:=
 OpenClaim.holds_of_wide 3 Tryz.f3 rfl rfl rfl rfl rfl rfl rfl ⟨rfl,rfl,rfl,rfl,rfl⟩ rfl rfl rfl rfl rfl (by kernel_rfl) Tryz.func3 (by kernel_rfl)
  (of_decide_eq_true (by kernel_rfl)) (by unfold Func.isWrapper;first | (rw [if_pos (by decide+kernel)];kernel_rfl) | (rw [if_neg (by decide+kernel)];exact ⟨rfl,rfl⟩))
  (fun os started H enc _=>lifted os started H enc)
theorem proved:Rows.OptLaysCardSaid:=
 Claim7.holds_tied_plain_at .later [] [.handle,.data] true _ true
  over (fun _ h=>by cases h) (by kernel_rfl) (fun _ h=>by cases h) optLays_row_tie rfl ⟨rfl,rfl⟩ (by kernel_rfl) rfl
  (fun f fn hf hfn=>by
   obtain rfl:f=3:=Option.some.inj ((show Tryz.prog.funcNamed "plait/plaitlaw14.OptLays"=some 3 by kernel_rfl).symm.trans hf) |>.symm
   obtain rfl:fn=Tryz.f3:=(Option.some.inj (Tryz.func3.symm.trans hfn)).symm
   exact ⟨by kernel_rfl,fun j t ht=>by
    rw [Tryz.params3] at ht
    have hm:t∈([44,48]:List TypeId):=by simpa using Array.mem_of_getElem? ht
    have hall:(([44,48]:List TypeId).all fun u=>!Tryz.prog.wantsStandIn u)=true:=by kernel_rfl
    exact (show Tryz.prog.wantsStandIn t=false by simpa using List.all_eq_true.1 hall t hm)⟩)
  (by kernel_rfl)
#print axioms proved
end Go.Proofs.YtnlhhjhidkjlbaaGreatDoor.L14.optLays
