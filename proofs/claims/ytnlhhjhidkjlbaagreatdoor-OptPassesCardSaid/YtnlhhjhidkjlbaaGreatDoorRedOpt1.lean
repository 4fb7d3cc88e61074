/- RedOpt1. -/
import Derived.Test.YtnlhhjhidkjlbaaGreatDoorRedBase
import Derived.Test.YtnlhhjhidkjlbaaGreatDoorRedOpt0
import Derived.Laws.IdiomArrays
import Derived.Laws.Slices
import Derived.Laws.IdiomStrings
import Derived.Laws.CopyOwn
import Derived.Test.YtnlhhjhidkjlbaaGreatDoorTie
import Derived.Test.YtnlhhjhidkjlbaaGreatDoorCards
import Derived.SevenTiedAt
import Derived.LaidMore
import Derived.LaidHandle
import Derived.Lib.LaidTab
import Derived.ProofKit
import Derived.OpenShut
import Derived.ShutString
import Derived.ChangeOld
import Derived.Below
import Derived.SizedLaws
import Derived.Stop.Joined
import Derived.Deep.Slices
import Derived.Maps.AppendAt
set_option maxHeartbeats 4000000
set_option maxRecDepth 100000
set_option linter.unusedVariables false
set_option linter.unusedSimpArgs false
namespace Go.Proofs.YtnlhhjhidkjlbaaGreatDoor.L14
open Go Go.RowKit Go.ChangeAt
theorem xJ (d:Dr):(drv d)[0]?=some (.int .u8 (d.sub:Int)):=rfl
theorem sQ (d:Dr):(drv d)[1]?=some (.int .u8 (d.what:Int)):=rfl
theorem tK (d:Dr):(drv d)[2]?=some (.int .u8 (d.id:Int)):=rfl
theorem rM (d:Dr):(drv d)[3]?=some (.bool d.f0):=rfl
theorem vY (d:Dr):(drv d)[4]?=some (.bool d.f1):=rfl
theorem dr_5 (d:Dr):(drv d)[5]?=some (.bool d.f2):=rfl
theorem oW (d:Dr):(drv d)[6]?=some (.int .u64 (d.a:Int)):=rfl
theorem uM (d:Dr):(drv d)[7]?=some (.int .u64 (d.b:Int)):=rfl
theorem yE (d:Dr):(drv d)[8]?=some (.int .u16 (d.n:Int)):=rfl
theorem y9 (d:Dr):(drv d)[9]?=some (.int .u16 (d.m:Int)):=rfl
theorem dr_b (d:Dr) (j:Nat) (hj:j < d.bs.length):(drv d)[10+j]?=some (.int .u8 (d.bs[j].toNat:Int)):=by
 unfold drv
 rw [List.getElem?_toArray,Nat.add_comm 10 j]
 show (d.bs.map fun b=>Value.int .u8 (b.toNat:Int))[j]?=_
 simp [hj]
theorem tZ:Tryz.prog.arrayLen 46=24:=by kernel_rfl
theorem arr_elem (w:World):(sizeOf (Tryz.prog.elem 46)).run Tryz.prog w= .ok 1 w:=by kernel_rfl
theorem arr_under:Tryz.prog.underlying 46=some (.array (Tryz.prog.arrayLen 46) (Tryz.prog.elem 46)):=by kernel_rfl
theorem oC (w:World) (g n:Nat) (k:IntKind) (hn:n≤24):(Instr.sliceAt 46 (.pointer (some ⟨g,10,none⟩)) none (some (.int k (n:Int))) none).run Tryz.prog w= .ok (.slice (some ⟨g,10,none⟩) n 24) w:=by
 have h:=run_sliceAt_array_h (P:=Tryz.prog) w 46 ⟨g,10,none⟩ arr_under k n (by omega) (by rw [tZ];omega)
 rw [h,arr_elem]
 simp only [Result.andThen_ok,slicedAt,tZ]
 rfl
theorem uD (w:World) (g:Nat):(Instr.sliceAt 46 (.pointer (some ⟨g,10,none⟩)) (some (.int .i64 16)) none none).run Tryz.prog w= .ok (.slice (some ⟨g,26,none⟩) 8 8) w:=by
 have h:=run_sliceAt_array_l (P:=Tryz.prog) w 46 ⟨g,10,none⟩ arr_under .i64 16 (by omega) (by rw [tZ];omega)
 rw [h,arr_elem]
 simp only [Result.andThen_ok,slicedAt,tZ]
 rfl
theorem off_add (g o j:Nat):(⟨g,o,none⟩:Addr).add j=⟨g,o+j,none⟩:=by unfold Addr.add;split<;>simp_all
theorem qX (w:World) (g:Nat) (d:Dr) (n cap:Nat) (hn:n≤d.bs.length) (h:Blk w g 48 (drv d)):(convert 61 9 (.slice (some ⟨g,10,none⟩) n cap)).run Tryz.prog w= .ok (.string (txt (d.bs.take n))) w:=by
 have q:=run_convert_bytes_back (P:=Tryz.prog) w 61 9 5 ⟨g,10,none⟩ cap (d.bs.take n) Tryz.underlying61 Tryz.underlying5 Tryz.underlying9 (fun j hj=>by
  have hj':j < n∧j < d.bs.length:=by rw [List.length_take] at hj;omega
  rw [off_add,h.cell,dr_b d j hj'.2,List.getElem_take])
 rw [List.length_take,Nat.min_eq_left hn] at q
 exact q
theorem uA (w:World) (g:Nat) (d:Dr) (hd:d.bs.length=24) (h:Blk w g 48 (drv d)):(convert 61 9 (.slice (some ⟨g,26,none⟩) 8 8)).run Tryz.prog w= .ok (.string (txt (d.bs.drop 16))) w:=by
 have hl:(d.bs.drop 16).length=8:=by rw [List.length_drop];omega
 have q:=run_convert_bytes_back (P:=Tryz.prog) w 61 9 5 ⟨g,26,none⟩ 8 (d.bs.drop 16) Tryz.underlying61 Tryz.underlying5 Tryz.underlying9 (fun j hj=>by
  have hj':16+j < d.bs.length:=by omega
  rw [off_add,h.cell,show 26+j=10+(16+j) by omega,dr_b d (16+j) hj',List.getElem_drop])
 rw [hl] at q
 exact q
structure Da (T:TypeId) (w W:World) (d:Dr) (b r X:Nat) (zs cs:Array Value):Prop where
 src:Blk W b 48 (drv d)
 res:Blk W r T zs
 new:Blk W X T cs
 bel:Below w.heap.size w W
 le:w.heap.size≤r∧w.heap.size≤X
 ne:b≠X∧r≠X
theorem Da.set {T:TypeId} {w W:World} {d:Dr} {b r X:Nat} {zs cs:Array Value} (h:Da T w W d b r X zs cs) (i:Nat) (v:Value):Da T w (W.setCell ⟨X,i,none⟩ v) d b r X zs (cs.setIfInBounds i v):=
 ⟨h.src.same (Below.heap_setCell W ⟨X,i,none⟩ v b h.ne.1),h.res.same (Below.heap_setCell W ⟨X,i,none⟩ v r h.ne.2),h.new.fM i v,h.bel.setCell h.le.2 _,h.le,h.ne⟩
theorem Da.turn {T:TypeId} {w W W':World} {d:Dr} {b r X:Nat} {zs cs cs':Array Value} (h:Da T w W d b r X zs cs) (g:W.grownBy W' (some X)) (n:Blk W' X T cs'):Da T w W' d b r X zs cs':=
 ⟨h.src.grown g (by simp;exact h.ne.1),h.res.grown g (by simp;exact h.ne.2),n,h.bel.trans (aA g h.le.2 h.bel.size),h.le,h.ne⟩
structure Db (T:TypeId) (w W:World) (d:Dr) (b r:Nat) (zs:Array Value):Prop where
 src:Blk W b 48 (drv d)
 res:Blk W r T zs
 bel:Below w.heap.size w W
 le:w.heap.size≤r
theorem Db.of {T:TypeId} {w U W:World} {d:Dr} {b r:Nat} {zs:Array Value} (hb:b=w.heap.size) (hU:U=w.alloc (.cells (drv d) 48)) (hr:r=U.heap.size) (hW:W=U.alloc (.cells zs T)):Db T w W d b r zs:=by
 subst hb;subst hU;subst hr;subst hW
 exact ⟨(Blk.new _ _ _).alloc _,Blk.new _ _ _,((Below.refl _ w).alloc (Nat.le_refl _) _).alloc (by simp) _,by simp⟩
theorem Db.made {T:TypeId} {w W U:World} {d:Dr} {b r X:Nat} {zs cs:Array Value} (h:Db T w W d b r zs) (hX:X=W.heap.size) (hU:U=W.alloc (.cells cs T)):Da T w U d b r X zs cs:=by
 subst hX;subst hU
 have h1:=h.src.lt
 have h2:=h.res.lt
 exact ⟨h.src.alloc _,h.res.alloc _,Blk.new _ _ _,h.bel.alloc h.bel.size _,⟨h.le,h.bel.size⟩,⟨by omega,by omega⟩⟩
theorem capable_0 (d:Dr) (hd:d.Ok) (hf:d.what%5=0) (w:World):Calls Tryz.prog 29 #[.agg (drv d)] w (Rt w (.agg (L9.bH d.cap))):=by
 obtain ⟨-,l1,l2,l3,l4,l5,l6,l7⟩:=hd
 have hq:(d.what:Int)%5=0:=by omega
 go_enter Tryz.func29,Tryz.ntmps29
 go_upto_region 1 with (first
  | (refine bD rfl 48 _ rfl (drv d) rfl ?_;intro U0 b hb hU)
  | (refine aQ rfl 25 rfl (L9.bH L9.Cap.zero) (fun _=>by kernel_rfl) ?_;intro U1 r hr hU1;have H0:=Lh (Db.of hb hU hr hU1);clear hb hU hr hU1))
 have c1:=(H0.out.src.cell 1).trans (sQ d)
 have c2:=(H0.out.src.cell 2).trans (tK d)
 have c3:=(H0.out.src.cell 3).trans (rM d)
 have c4:=(H0.out.src.cell 4).trans (vY d)
 obtain ⟨X,hX⟩:=eqx U1.heap.size
 obtain ⟨W0,hW⟩:∃W,W=U1.alloc (.cells #[.int .i64 0,.int .i64 ((d.id:Int)%16),.bool d.f0,.bool d.f1,.int .u64 0,.int .u64 0,.int .i64 0,.int .u16 0] 25):=⟨_,rfl⟩
 have D0:=Lh (H0.out.made hX hW)
 have HX:=Lh hX
 have HW:=Lh hW
 clear hX hW
 go_upto_region 2 with fail
 rw [←HW.out,←HX.out]
 clear HX HW c1 c2 c3 c4
 have x0:W0.cell? ⟨X,0,none⟩=some (.int .i64 0):=(D0.out.new.cell 0).trans (by kernel_rfl)
 have e:#[.int .i64 0,.int .i64 ((d.id:Int)%16),.bool d.f0,.bool d.f1,.int .u64 0,.int .u64 0,.int .i64 0,.int .u16 0]=L9.bH d.cap:=by unfold Dr.cap L9.bH;simp [hf]
 have HF:=Lh (show Da 25 w W0 d b r X (L9.bH L9.Cap.zero) (L9.bH d.cap) by rw [←e];exact D0.out)
 clear e D0
 go_wp2_with (first
  | (refine wpList_load_row rfl 25 _ rfl X rfl 25 (L9.bH d.cap) (0,0) _ ?_ Tryz.underlying25 rfl L9.aX ?_;exact HF.out.new)
  | (refine aJ rfl 25 _ _ rfl r rfl 25 (L9.bH L9.Cap.zero) (L9.bH d.cap) rfl ?_ rfl L9.aX (by kernel_rfl) ?_;exact HF.out.res;intro W3 g3 n3;have H3:=Lh n3;have B3:=Lh (HF.out.bel.trans (aA g3 HF.out.le.1 HF.out.bel.size));clear g3 n3))
 exact bodyPost_ret (results_cell_row rfl _ _ r 25 (L9.bH d.cap) (0,0) _ rfl H3.out Tryz.underlying25 rfl L9.aX) rfl ⟨rfl,B3.out⟩
theorem capable_1 (d:Dr) (hd:d.Ok) (hf:d.what%5=1) (w:World):Calls Tryz.prog 29 #[.agg (drv d)] w (Rt w (.agg (L9.bH d.cap))):=by
 obtain ⟨-,l1,l2,l3,l4,l5,l6,l7⟩:=hd
 have hq:(d.what:Int)%5=1:=by omega
 go_enter Tryz.func29,Tryz.ntmps29
 go_upto_region 1 with (first
  | (refine bD rfl 48 _ rfl (drv d) rfl ?_;intro U0 b hb hU)
  | (refine aQ rfl 25 rfl (L9.bH L9.Cap.zero) (fun _=>by kernel_rfl) ?_;intro U1 r hr hU1;have H0:=Lh (Db.of hb hU hr hU1);clear hb hU hr hU1))
 have c1:=(H0.out.src.cell 1).trans (sQ d)
 have c2:=(H0.out.src.cell 2).trans (tK d)
 have c3:=(H0.out.src.cell 3).trans (rM d)
 have c4:=(H0.out.src.cell 4).trans (vY d)
 obtain ⟨X,hX⟩:=eqx U1.heap.size
 obtain ⟨W0,hW⟩:∃W,W=U1.alloc (.cells #[.int .i64 1,.int .i64 ((d.id:Int)%16),.bool d.f0,.bool d.f1,.int .u64 0,.int .u64 0,.int .i64 0,.int .u16 0] 25):=⟨_,rfl⟩
 have D0:=Lh (H0.out.made hX hW)
 have HX:=Lh hX
 have HW:=Lh hW
 clear hX hW
 go_upto_region 2 with fail
 rw [←HW.out,←HX.out]
 clear HX HW c1 c2 c3 c4
 have c6:=(D0.out.src.cell 6).trans (oW d)
 have x0:W0.cell? ⟨X,0,none⟩=some (.int .i64 1):=(D0.out.new.cell 0).trans (by kernel_rfl)
 have xk:=(D0.out.new.cell 4).trans (show _=some (.int .u64 0) by kernel_rfl)
 have fz:=D0.out.new.frozen 4
 obtain ⟨Y1,hY⟩:∃U,U=W0.setCell ⟨X,4,none⟩ (.int .u64 (d.a:Int)):=⟨_,rfl⟩
 have D1:=Lh (by have:=D0.out.set 4 (.int .u64 (d.a:Int));rw [←hY] at this;exact this)
 have HY:=Lh hY
 clear hY
 go_upto_region 4 with fail
 rw [←HY.out]
 clear HY xk fz D0 c6 x0
 have x0:Y1.cell? ⟨X,0,none⟩=some (.int .i64 1):=(D1.out.new.cell 0).trans (by kernel_rfl)
 have e:#[.int .i64 1,.int .i64 ((d.id:Int)%16),.bool d.f0,.bool d.f1,.int .u64 (d.a:Int),.int .u64 0,.int .i64 0,.int .u16 0]=L9.bH d.cap:=by unfold Dr.cap L9.bH;simp [hf]
 have HF:=Lh (show Da 25 w Y1 d b r X (L9.bH L9.Cap.zero) (L9.bH d.cap) by rw [←e];exact D1.out)
 clear e D1
 go_wp2_with (first
  | (refine wpList_load_row rfl 25 _ rfl X rfl 25 (L9.bH d.cap) (0,0) _ ?_ Tryz.underlying25 rfl L9.aX ?_;exact HF.out.new)
  | (refine aJ rfl 25 _ _ rfl r rfl 25 (L9.bH L9.Cap.zero) (L9.bH d.cap) rfl ?_ rfl L9.aX (by kernel_rfl) ?_;exact HF.out.res;intro W3 g3 n3;have H3:=Lh n3;have B3:=Lh (HF.out.bel.trans (aA g3 HF.out.le.1 HF.out.bel.size));clear g3 n3))
 exact bodyPost_ret (results_cell_row rfl _ _ r 25 (L9.bH d.cap) (0,0) _ rfl H3.out Tryz.underlying25 rfl L9.aX) rfl ⟨rfl,B3.out⟩
theorem capable_2 (d:Dr) (hd:d.Ok) (hf:d.what%5=2) (w:World):Calls Tryz.prog 29 #[.agg (drv d)] w (Rt w (.agg (L9.bH d.cap))):=by
 obtain ⟨-,l1,l2,l3,l4,l5,l6,l7⟩:=hd
 have hq:(d.what:Int)%5=2:=by omega
 go_enter Tryz.func29,Tryz.ntmps29
 go_upto_region 1 with (first
  | (refine bD rfl 48 _ rfl (drv d) rfl ?_;intro U0 b hb hU)
  | (refine aQ rfl 25 rfl (L9.bH L9.Cap.zero) (fun _=>by kernel_rfl) ?_;intro U1 r hr hU1;have H0:=Lh (Db.of hb hU hr hU1);clear hb hU hr hU1))
 have c1:=(H0.out.src.cell 1).trans (sQ d)
 have c2:=(H0.out.src.cell 2).trans (tK d)
 have c3:=(H0.out.src.cell 3).trans (rM d)
 have c4:=(H0.out.src.cell 4).trans (vY d)
 obtain ⟨X,hX⟩:=eqx U1.heap.size
 obtain ⟨W0,hW⟩:∃W,W=U1.alloc (.cells #[.int .i64 2,.int .i64 ((d.id:Int)%16),.bool d.f0,.bool d.f1,.int .u64 0,.int .u64 0,.int .i64 0,.int .u16 0] 25):=⟨_,rfl⟩
 have D0:=Lh (H0.out.made hX hW)
 have HX:=Lh hX
 have HW:=Lh hW
 clear hX hW
 go_upto_region 2 with fail
 rw [←HW.out,←HX.out]
 clear HX HW c1 c2 c3 c4
 have c6:=(D0.out.src.cell 6).trans (oW d)
 have x0:W0.cell? ⟨X,0,none⟩=some (.int .i64 2):=(D0.out.new.cell 0).trans (by kernel_rfl)
 have xk:=(D0.out.new.cell 4).trans (show _=some (.int .u64 0) by kernel_rfl)
 have fz:=D0.out.new.frozen 4
 obtain ⟨Y1,hY⟩:∃U,U=W0.setCell ⟨X,4,none⟩ (.int .u64 (d.a:Int)):=⟨_,rfl⟩
 have D1:=Lh (by have:=D0.out.set 4 (.int .u64 (d.a:Int));rw [←hY] at this;exact this)
 have HY:=Lh hY
 clear hY
 go_upto_region 4 with fail
 rw [←HY.out]
 clear HY xk fz D0 c6 x0
 have c7:=(D1.out.src.cell 7).trans (uM d)
 have x0:Y1.cell? ⟨X,0,none⟩=some (.int .i64 2):=(D1.out.new.cell 0).trans (by kernel_rfl)
 have xk:=(D1.out.new.cell 5).trans (show _=some (.int .u64 0) by kernel_rfl)
 have fz:=D1.out.new.frozen 5
 obtain ⟨Y2,hY⟩:∃U,U=Y1.setCell ⟨X,5,none⟩ (.int .u64 (d.b:Int)):=⟨_,rfl⟩
 have D2:=Lh (by have:=D1.out.set 5 (.int .u64 (d.b:Int));rw [←hY] at this;exact this)
 have HY:=Lh hY
 clear hY
 go_upto_region 6 with fail
 rw [←HY.out]
 clear HY xk fz D1 c7 x0
 have x0:Y2.cell? ⟨X,0,none⟩=some (.int .i64 2):=(D2.out.new.cell 0).trans (by kernel_rfl)
 have e:#[.int .i64 2,.int .i64 ((d.id:Int)%16),.bool d.f0,.bool d.f1,.int .u64 (d.a:Int),.int .u64 (d.b:Int),.int .i64 0,.int .u16 0]=L9.bH d.cap:=by unfold Dr.cap L9.bH;simp [hf]
 have HF:=Lh (show Da 25 w Y2 d b r X (L9.bH L9.Cap.zero) (L9.bH d.cap) by rw [←e];exact D2.out)
 clear e D2
 go_wp2_with (first
  | (refine wpList_load_row rfl 25 _ rfl X rfl 25 (L9.bH d.cap) (0,0) _ ?_ Tryz.underlying25 rfl L9.aX ?_;exact HF.out.new)
  | (refine aJ rfl 25 _ _ rfl r rfl 25 (L9.bH L9.Cap.zero) (L9.bH d.cap) rfl ?_ rfl L9.aX (by kernel_rfl) ?_;exact HF.out.res;intro W3 g3 n3;have H3:=Lh n3;have B3:=Lh (HF.out.bel.trans (aA g3 HF.out.le.1 HF.out.bel.size));clear g3 n3))
 exact bodyPost_ret (results_cell_row rfl _ _ r 25 (L9.bH d.cap) (0,0) _ rfl H3.out Tryz.underlying25 rfl L9.aX) rfl ⟨rfl,B3.out⟩
theorem capable_3 (d:Dr) (hd:d.Ok) (hf:d.what%5=3) (w:World):Calls Tryz.prog 29 #[.agg (drv d)] w (Rt w (.agg (L9.bH d.cap))):=by
 obtain ⟨-,l1,l2,l3,l4,l5,l6,l7⟩:=hd
 have hq:(d.what:Int)%5=3:=by omega
 go_enter Tryz.func29,Tryz.ntmps29
 go_upto_region 1 with (first
  | (refine bD rfl 48 _ rfl (drv d) rfl ?_;intro U0 b hb hU)
  | (refine aQ rfl 25 rfl (L9.bH L9.Cap.zero) (fun _=>by kernel_rfl) ?_;intro U1 r hr hU1;have H0:=Lh (Db.of hb hU hr hU1);clear hb hU hr hU1))
 have c1:=(H0.out.src.cell 1).trans (sQ d)
 have c2:=(H0.out.src.cell 2).trans (tK d)
 have c3:=(H0.out.src.cell 3).trans (rM d)
 have c4:=(H0.out.src.cell 4).trans (vY d)
 obtain ⟨X,hX⟩:=eqx U1.heap.size
 obtain ⟨W0,hW⟩:∃W,W=U1.alloc (.cells #[.int .i64 3,.int .i64 ((d.id:Int)%16),.bool d.f0,.bool d.f1,.int .u64 0,.int .u64 0,.int .i64 0,.int .u16 0] 25):=⟨_,rfl⟩
 have D0:=Lh (H0.out.made hX hW)
 have HX:=Lh hX
 have HW:=Lh hW
 clear hX hW
 go_upto_region 2 with fail
 rw [←HW.out,←HX.out]
 clear HX HW c1 c2 c3 c4
 have c6:=(D0.out.src.cell 6).trans (oW d)
 have x0:W0.cell? ⟨X,0,none⟩=some (.int .i64 3):=(D0.out.new.cell 0).trans (by kernel_rfl)
 have xk:=(D0.out.new.cell 4).trans (show _=some (.int .u64 0) by kernel_rfl)
 have fz:=D0.out.new.frozen 4
 obtain ⟨Y1,hY⟩:∃U,U=W0.setCell ⟨X,4,none⟩ (.int .u64 (d.a:Int)):=⟨_,rfl⟩
 have D1:=Lh (by have:=D0.out.set 4 (.int .u64 (d.a:Int));rw [←hY] at this;exact this)
 have HY:=Lh hY
 clear hY
 go_upto_region 4 with fail
 rw [←HY.out]
 clear HY xk fz D0 c6 x0
 have c7:=(D1.out.src.cell 7).trans (uM d)
 have x0:Y1.cell? ⟨X,0,none⟩=some (.int .i64 3):=(D1.out.new.cell 0).trans (by kernel_rfl)
 have xk:=(D1.out.new.cell 5).trans (show _=some (.int .u64 0) by kernel_rfl)
 have fz:=D1.out.new.frozen 5
 obtain ⟨Y2,hY⟩:∃U,U=Y1.setCell ⟨X,5,none⟩ (.int .u64 (d.b:Int)):=⟨_,rfl⟩
 have D2:=Lh (by have:=D1.out.set 5 (.int .u64 (d.b:Int));rw [←hY] at this;exact this)
 have HY:=Lh hY
 clear hY
 go_upto_region 6 with fail
 rw [←HY.out]
 clear HY xk fz D1 c7 x0
 have c8:=(D2.out.src.cell 8).trans (yE d)
 have x0:Y2.cell? ⟨X,0,none⟩=some (.int .i64 3):=(D2.out.new.cell 0).trans (by kernel_rfl)
 have xk:=(D2.out.new.cell 6).trans (show _=some (.int .i64 0) by kernel_rfl)
 have fz:=D2.out.new.frozen 6
 obtain ⟨Y3,hY⟩:∃U,U=Y2.setCell ⟨X,6,none⟩ (.int .i64 (d.n:Int)):=⟨_,rfl⟩
 have D3:=Lh (by have:=D2.out.set 6 (.int .i64 (d.n:Int));rw [←hY] at this;exact this)
 have HY:=Lh hY
 clear hY
 go_upto_region 8 with fail
 rw [←HY.out]
 clear HY xk fz D2 c8 x0
 have x0:Y3.cell? ⟨X,0,none⟩=some (.int .i64 3):=(D3.out.new.cell 0).trans (by kernel_rfl)
 have e:#[.int .i64 3,.int .i64 ((d.id:Int)%16),.bool d.f0,.bool d.f1,.int .u64 (d.a:Int),.int .u64 (d.b:Int),.int .i64 (d.n:Int),.int .u16 0]=L9.bH d.cap:=by unfold Dr.cap L9.bH;simp [hf]
 have HF:=Lh (show Da 25 w Y3 d b r X (L9.bH L9.Cap.zero) (L9.bH d.cap) by rw [←e];exact D3.out)
 clear e D3
 go_wp2_with (first
  | (refine wpList_load_row rfl 25 _ rfl X rfl 25 (L9.bH d.cap) (0,0) _ ?_ Tryz.underlying25 rfl L9.aX ?_;exact HF.out.new)
  | (refine aJ rfl 25 _ _ rfl r rfl 25 (L9.bH L9.Cap.zero) (L9.bH d.cap) rfl ?_ rfl L9.aX (by kernel_rfl) ?_;exact HF.out.res;intro W3 g3 n3;have H3:=Lh n3;have B3:=Lh (HF.out.bel.trans (aA g3 HF.out.le.1 HF.out.bel.size));clear g3 n3))
 exact bodyPost_ret (results_cell_row rfl _ _ r 25 (L9.bH d.cap) (0,0) _ rfl H3.out Tryz.underlying25 rfl L9.aX) rfl ⟨rfl,B3.out⟩
theorem capable_4 (d:Dr) (hd:d.Ok) (hf:d.what%5=4) (w:World):Calls Tryz.prog 29 #[.agg (drv d)] w (Rt w (.agg (L9.bH d.cap))):=by
 obtain ⟨-,l1,l2,l3,l4,l5,l6,l7⟩:=hd
 have hq:(d.what:Int)%5=4:=by omega
 go_enter Tryz.func29,Tryz.ntmps29
 go_upto_region 1 with (first
  | (refine bD rfl 48 _ rfl (drv d) rfl ?_;intro U0 b hb hU)
  | (refine aQ rfl 25 rfl (L9.bH L9.Cap.zero) (fun _=>by kernel_rfl) ?_;intro U1 r hr hU1;have H0:=Lh (Db.of hb hU hr hU1);clear hb hU hr hU1))
 have c1:=(H0.out.src.cell 1).trans (sQ d)
 have c2:=(H0.out.src.cell 2).trans (tK d)
 have c3:=(H0.out.src.cell 3).trans (rM d)
 have c4:=(H0.out.src.cell 4).trans (vY d)
 obtain ⟨X,hX⟩:=eqx U1.heap.size
 obtain ⟨W0,hW⟩:∃W,W=U1.alloc (.cells #[.int .i64 4,.int .i64 ((d.id:Int)%16),.bool d.f0,.bool d.f1,.int .u64 0,.int .u64 0,.int .i64 0,.int .u16 0] 25):=⟨_,rfl⟩
 have D0:=Lh (H0.out.made hX hW)
 have HX:=Lh hX
 have HW:=Lh hW
 clear hX hW
 go_upto_region 2 with fail
 rw [←HW.out,←HX.out]
 clear HX HW c1 c2 c3 c4
 have c6:=(D0.out.src.cell 6).trans (oW d)
 have x0:W0.cell? ⟨X,0,none⟩=some (.int .i64 4):=(D0.out.new.cell 0).trans (by kernel_rfl)
 have xk:=(D0.out.new.cell 4).trans (show _=some (.int .u64 0) by kernel_rfl)
 have fz:=D0.out.new.frozen 4
 obtain ⟨Y1,hY⟩:∃U,U=W0.setCell ⟨X,4,none⟩ (.int .u64 (d.a:Int)):=⟨_,rfl⟩
 have D1:=Lh (by have:=D0.out.set 4 (.int .u64 (d.a:Int));rw [←hY] at this;exact this)
 have HY:=Lh hY
 clear hY
 go_upto_region 4 with fail
 rw [←HY.out]
 clear HY xk fz D0 c6 x0
 have c7:=(D1.out.src.cell 7).trans (uM d)
 have x0:Y1.cell? ⟨X,0,none⟩=some (.int .i64 4):=(D1.out.new.cell 0).trans (by kernel_rfl)
 have xk:=(D1.out.new.cell 5).trans (show _=some (.int .u64 0) by kernel_rfl)
 have fz:=D1.out.new.frozen 5
 obtain ⟨Y2,hY⟩:∃U,U=Y1.setCell ⟨X,5,none⟩ (.int .u64 (d.b:Int)):=⟨_,rfl⟩
 have D2:=Lh (by have:=D1.out.set 5 (.int .u64 (d.b:Int));rw [←hY] at this;exact this)
 have HY:=Lh hY
 clear hY
 go_upto_region 6 with fail
 rw [←HY.out]
 clear HY xk fz D1 c7 x0
 have c8:=(D2.out.src.cell 8).trans (yE d)
 have x0:Y2.cell? ⟨X,0,none⟩=some (.int .i64 4):=(D2.out.new.cell 0).trans (by kernel_rfl)
 have xk:=(D2.out.new.cell 6).trans (show _=some (.int .i64 0) by kernel_rfl)
 have fz:=D2.out.new.frozen 6
 obtain ⟨Y3,hY⟩:∃U,U=Y2.setCell ⟨X,6,none⟩ (.int .i64 (d.n:Int)):=⟨_,rfl⟩
 have D3:=Lh (by have:=D2.out.set 6 (.int .i64 (d.n:Int));rw [←hY] at this;exact this)
 have HY:=Lh hY
 clear hY
 go_upto_region 8 with fail
 rw [←HY.out]
 clear HY xk fz D2 c8 x0
 have c9:=(D3.out.src.cell 9).trans (y9 d)
 have x0:Y3.cell? ⟨X,0,none⟩=some (.int .i64 4):=(D3.out.new.cell 0).trans (by kernel_rfl)
 have xk:=(D3.out.new.cell 7).trans (show _=some (.int .u16 0) by kernel_rfl)
 have fz:=D3.out.new.frozen 7
 obtain ⟨Y4,hY⟩:∃U,U=Y3.setCell ⟨X,7,none⟩ (.int .u16 (d.m:Int)):=⟨_,rfl⟩
 have D4:=Lh (by have:=D3.out.set 7 (.int .u16 (d.m:Int));rw [←hY] at this;exact this)
 have HY:=Lh hY
 clear hY
 go_upto_region 10 with fail
 rw [←HY.out]
 clear HY xk fz D3 c9 x0
 have e:#[.int .i64 4,.int .i64 ((d.id:Int)%16),.bool d.f0,.bool d.f1,.int .u64 (d.a:Int),.int .u64 (d.b:Int),.int .i64 (d.n:Int),.int .u16 (d.m:Int)]=L9.bH d.cap:=by unfold Dr.cap L9.bH;simp [hf]
 have HF:=Lh (show Da 25 w Y4 d b r X (L9.bH L9.Cap.zero) (L9.bH d.cap) by rw [←e];exact D4.out)
 clear e D4
 go_wp2_with (first
  | (refine wpList_load_row rfl 25 _ rfl X rfl 25 (L9.bH d.cap) (0,0) _ ?_ Tryz.underlying25 rfl L9.aX ?_;exact HF.out.new)
  | (refine aJ rfl 25 _ _ rfl r rfl 25 (L9.bH L9.Cap.zero) (L9.bH d.cap) rfl ?_ rfl L9.aX (by kernel_rfl) ?_;exact HF.out.res;intro W3 g3 n3;have H3:=Lh n3;have B3:=Lh (HF.out.bel.trans (aA g3 HF.out.le.1 HF.out.bel.size));clear g3 n3))
 exact bodyPost_ret (results_cell_row rfl _ _ r 25 (L9.bH d.cap) (0,0) _ rfl H3.out Tryz.underlying25 rfl L9.aX) rfl ⟨rfl,B3.out⟩
theorem capable_any (d:Dr) (hd:d.Ok) (w:World):Calls Tryz.prog 29 #[.agg (drv d)] w (Rt w (.agg (L9.bH d.cap))):=by
 have:d.what%5=0∨d.what%5=1∨d.what%5=2∨d.what%5=3∨d.what%5=4:=by omega
 rcases this with h | h | h | h | h
 ·exact capable_0 d hd h w
 ·exact capable_1 d hd h w
 ·exact capable_2 d hd h w
 ·exact capable_3 d hd h w
 ·exact capable_4 d hd h w
theorem conv8 (u:Nat) (h:u≤255) (w:World):(convert 5 3 (.int .u8 (u:Int))).run Tryz.prog w= .ok (.int .i64 (u:Int)) w:=by
 rw [run_convert_int w 5 3 .u8 _ (by kernel_rfl) (by kernel_rfl),show Tryz.prog.intKind 3= .i64 by kernel_rfl,IntWalk.i64_in _ (by omega)]
theorem conv64 (u:Nat) (w:World):(convert 22 26 (.int .u64 (u:Int))).run Tryz.prog w= .ok (.int .u32 ((u:Int)%4294967296)) w:=by
 rw [run_convert_int w 22 26 .u64 _ (by kernel_rfl) (by kernel_rfl),show Tryz.prog.intKind 26= .u32 by kernel_rfl,IntKind.wrap_u32]
theorem vF (u:Nat) (h:u≤65535) (w:World):(convert 23 3 (.int .u16 (u:Int))).run Tryz.prog w= .ok (.int .i64 (u:Int)) w:=by
 rw [run_convert_int w 23 3 .u16 _ (by kernel_rfl) (by kernel_rfl),show Tryz.prog.intKind 3= .i64 by kernel_rfl,IntWalk.i64_in _ (by omega)]
theorem add_any (d:Dr) (hd:d.Ok) (w:World):Calls Tryz.prog 32 #[.agg (drv d)] w (Rt w (.agg (L12.adv d.ad))):=by
 obtain ⟨-,l1,l2,l3,l4,l5,l6,l7⟩:=hd
 go_enter Tryz.func32,Tryz.ntmps32
 go_upto_region 1 with (first
  | (refine bD rfl 48 _ rfl (drv d) rfl ?_;intro U0 b hb hU)
  | (refine aQ rfl 32 rfl (L12.adv L12.Ad.zero) (fun _=>by kernel_rfl) ?_;intro U1 r hr hU1;have H0:=Lh (Db.of hb hU hr hU1);clear hb hU hr hU1))
 have HSR:=Lh H0.out.src
 have B0:Below U1.heap.size U1 U1.drew:=(Below.refl _ U1).drew
 refine kJ 14 (fun W=>Below U1.heap.size U1 W) (by kernel_rfl) (n:=15) rfl ?_
 obtain ⟨W0,hW0⟩:=eqx U1.drew
 rw [←hW0] at B0 ⊢
 clear hW0
 refine wkF 0 (.pointer (some ⟨b,3,none⟩)) rfl B0 (wkF 1 (.pointer (some ⟨b,3,none⟩)) rfl B0 (wkG 2 (.bool d.f0) rfl B0 (fun W q=>xLd 4 (.tmp 5) ⟨b,3,none⟩ (((HSR.out.below q HSR.out.lt).cell 3).trans (rM d))) (wkF 3 (.pointer (some ⟨b,2,none⟩)) rfl B0 (wkG 4 (.int .u8 (d.id:Int)) rfl B0 (fun W q=>xLd 5 (.tmp 7) ⟨b,2,none⟩ (((HSR.out.below q HSR.out.lt).cell 2).trans (tK d))) (wkG 5 (.int .i64 (d.id:Int)) rfl B0 (fun W _=>aV (v:=.int .u8 (d.id:Int)) 5 3 (.tmp 8) (by kernel_rfl) (by kernel_rfl) (conv8 d.id l2 W)) (wkF 6 (.pointer (some ⟨b,10,none⟩)) rfl B0 (wkG 7 (.slice (some ⟨b,10,none⟩) 4 24) rfl B0 (fun W _=>iQ (v:=.pointer (some ⟨b,10,none⟩)) (hv:=.int .i64 4) 46 (.tmp 10) (.const (.int .i64 4)) (by kernel_rfl) (by kernel_rfl) (by kernel_rfl) (oC W b 4 .i64 (by decide))) (wkG 8 (.string (txt (d.bs.take 4))) rfl B0 (fun W q=>aV (v:=.slice (some ⟨b,10,none⟩) 4 24) 61 9 (.tmp 11) (by kernel_rfl) (by kernel_rfl) (qX W b d 4 24 (by rw [l7];decide) (HSR.out.below q HSR.out.lt))) (wkF 9 (.pointer (some ⟨b,3,none⟩)) rfl B0 ?_)))))))))
 refine wkF 10 (.pointer (some ⟨b,5,none⟩)) rfl B0 (wkG 11 (.bool d.f2) rfl B0 (fun W q=>xLd 4 (.tmp 14) ⟨b,5,none⟩ (((HSR.out.below q HSR.out.lt).cell 5).trans (dr_5 d))) (wkF 12 (.agg #[.bool d.f0,.int .i64 (d.id:Int),.string (txt (d.bs.take 4)),.bool d.f2,.int .i64 0,.string ⟨#[]⟩]) rfl B0 ?_))
 obtain ⟨W1,hW1⟩:∃w',w'=W0.alloc (.cells (L12.adv L12.Ad.zero) 32):=⟨_,rfl⟩
 obtain ⟨X,hX⟩:=eqx W0.heap.size
 have N1:Blk W1 X 32 (L12.adv L12.Ad.zero):=by rw [hW1,hX];exact Blk.new _ _ _
 have B1:Below U1.heap.size U1 W1:=by rw [hW1];exact B0.alloc B0.size _
 have L1:U1.heap.size≤X:=by rw [hX];exact B0.size
 refine aY 13 (by kernel_rfl) (dX (v:=.pointer (some ⟨X,0,none⟩)) (w':=W1) 13 rfl (by kernel_rfl) (by rw [hW1,hX];exact jK 32 (L12.adv L12.Ad.zero) (by kernel_rfl) (fun _=>by kernel_rfl)) B1 ?_)
 clear hW1 hX B0
 refine aY 14 (by kernel_rfl) (oK 14 rfl (by kernel_rfl) (by exact dY 32 (.tmp 3) (.tmp 16) (by kernel_rfl) X #[.bool d.f0,.int .i64 (d.id:Int),.string (txt (d.bs.take 4)),.bool d.f2,.int .i64 0,.string ⟨#[]⟩] (by kernel_rfl) (by kernel_rfl) 32 (L12.adv L12.Ad.zero) N1 L12.bC rfl (by kernel_rfl)) (by kernel_rfl) ?_)
 refine dB ⟨List.toArray (Value.agg (drv d)::Value.pointer (some ⟨b,0,none⟩)::Value.pointer (some ⟨r,0,none⟩)::Value.pointer (some ⟨X,0,none⟩)::Value.pointer (some ⟨b,3,none⟩)::Value.pointer (some ⟨b,3,none⟩)::Value.bool d.f0::Value.pointer (some ⟨b,2,none⟩)::Value.int .u8 (d.id:Int)::Value.int .i64 (d.id:Int)::Value.pointer (some ⟨b,10,none⟩)::Value.slice (some ⟨b,10,none⟩) 4 24::Value.string (txt (d.bs.take 4))::Value.pointer (some ⟨b,3,none⟩)::Value.pointer (some ⟨b,5,none⟩)::Value.bool d.f2::Value.agg #[.bool d.f0,.int .i64 (d.id:Int),.string (txt (d.bs.take 4)),.bool d.f2,.int .i64 0,.string ⟨#[]⟩]::undef::undef::undef::undef::undef::undef::undef::undef::undef::undef::undef::undef::undef::undef::undef::undef::undef::undef::undef::undef::undef::[]),[]⟩ (by kernel_rfl) (by kernel_rfl) ?_
 obtain ⟨Y0,hY0⟩:∃Y,Y=W1.setRow X #[.bool d.f0,.int .i64 (d.id:Int),.string (txt (d.bs.take 4)),.bool d.f2,.int .i64 0,.string ⟨#[]⟩]:=⟨_,rfl⟩
 have D0:=Lh (show Da 32 w Y0 d b r X (L12.adv L12.Ad.zero) #[.bool d.f0,.int .i64 (d.id:Int),.string (txt (d.bs.take 4)),.bool d.f2,.int .i64 0,.string ⟨#[]⟩] by
  have q1:=H0.out.src.lt
  have q2:=H0.out.res.lt
  have q3:=H0.out.bel.size
  have q4:=H0.out.le
  rw [hY0]
  exact ⟨(H0.out.src.below B1 q1).same (setRow_other _ _ _ _ (by omega)),(H0.out.res.below B1 q2).same (setRow_other _ _ _ _ (by omega)),setRow_heap _ _ _ _ _ _ N1,L12.below_setRow (H0.out.bel.trans (B1.mono q3)) (by omega) _,⟨by omega,by omega⟩,⟨by omega,by omega⟩⟩)
 rw [←hY0]
 clear hY0 N1 B1 L1 H0 HSR
 rcases Bool.eq_false_or_eq_true d.f1 with hf1 | hf1
 ·skip
  -- f1
  have c4:=(D0.out.src.cell 4).trans ((vY d).trans (by rw [hf1]))
  have hsl:=fun W=>oC W b 16 .i64 (by decide)
  have hcv:=qX Y0 b d 16 24 (by rw [l7];decide) D0.out.src
  have xk:=(D0.out.new.cell 2).trans (show _=some (.string (txt (d.bs.take 4))) by kernel_rfl)
  have fz:=D0.out.new.frozen 2
  obtain ⟨Y1,hY⟩:∃U,U=Y0.setCell ⟨X,2,none⟩ (.string (txt (d.bs.take 16))):=⟨_,rfl⟩
  have D1:=Lh (by have:=D0.out.set 2 (.string (txt (d.bs.take 16)));rw [←hY] at this;exact this)
  have HY:=Lh hY
  clear hY
  go_upto_region 4 with fail
  rw [←HY.out]
  clear HY xk fz D0 c4 hsl hcv
  rcases Bool.eq_false_or_eq_true d.f2 with hf2 | hf2
  ·skip
   -- f2
   have x3:Y1.cell? ⟨X,3,none⟩=some (.bool true):=(D1.out.new.cell 3).trans ((show _=some (Value.bool d.f2) by kernel_rfl).trans (by rw [hf2]))
   have hcv:=vF d.n l5
   have c8:=(D1.out.src.cell 8).trans (yE d)
   have xk:=(D1.out.new.cell 4).trans (show _=some (.int .i64 0) by kernel_rfl)
   have fz:=D1.out.new.frozen 4
   obtain ⟨Y2,hY⟩:∃U,U=Y1.setCell ⟨X,4,none⟩ (.int .i64 (d.n:Int)):=⟨_,rfl⟩
   have D2:=Lh (by have:=D1.out.set 4 (.int .i64 (d.n:Int));rw [←hY] at this;exact this)
   have HY:=Lh hY
   clear hY
   go_upto_region 6 with fail
   rw [←HY.out]
   clear HY xk fz D1 c8 x3 hcv
   rcases Bool.eq_false_or_eq_true d.f0 with hf0 | hf0
   ·skip
    -- f0
    have x0:Y2.cell? ⟨X,0,none⟩=some (.bool true):=(D2.out.new.cell 0).trans ((show _=some (Value.bool d.f0) by kernel_rfl).trans (by rw [hf0]))
    go_upto_region 8 with fail
    clear x0
    have e:#[.bool d.f0,.int .i64 (d.id:Int),.string (txt (d.bs.take 16)),.bool d.f2,.int .i64 (d.n:Int),.string ⟨#[]⟩]=L12.adv d.ad:=by unfold Dr.ad L12.adv;simp [hf0,hf1,hf2]
    have HF:=Lh (show Da 32 w Y2 d b r X (L12.adv L12.Ad.zero) (L12.adv d.ad) by rw [←e];exact D2.out)
    clear e D2
    go_wp2_with (first
  | (refine wpList_load_row rfl 32 _ rfl X rfl 32 (L12.adv d.ad) (0,0) _ ?_ Tryz.underlying32 rfl L12.bC ?_;exact HF.out.new)
  | (refine aJ rfl 32 _ _ rfl r rfl 32 (L12.adv L12.Ad.zero) (L12.adv d.ad) rfl ?_ rfl L12.bC (by kernel_rfl) ?_;exact HF.out.res;intro W3 g3 n3;have H3:=Lh n3;have B3:=Lh (HF.out.bel.trans (aA g3 HF.out.le.1 HF.out.bel.size));clear g3 n3))
    exact bodyPost_ret (results_cell_row rfl _ _ r 32 (L12.adv d.ad) (0,0) _ rfl H3.out Tryz.underlying32 rfl L12.bC) rfl ⟨rfl,B3.out⟩
   ·skip
    -- f0
    have x0:Y2.cell? ⟨X,0,none⟩=some (.bool false):=(D2.out.new.cell 0).trans ((show _=some (Value.bool d.f0) by kernel_rfl).trans (by rw [hf0]))
    have hsl:=fun W=>uD W b
    have hcv:=uA Y2 b d l7 D2.out.src
    have xk:=(D2.out.new.cell 5).trans (show _=some (.string ⟨#[]⟩) by kernel_rfl)
    have fz:=D2.out.new.frozen 5
    obtain ⟨Y3,hY⟩:∃U,U=Y2.setCell ⟨X,5,none⟩ (.string (txt (d.bs.drop 16))):=⟨_,rfl⟩
    have D3:=Lh (by have:=D2.out.set 5 (.string (txt (d.bs.drop 16)));rw [←hY] at this;exact this)
    have HY:=Lh hY
    clear hY
    go_upto_region 8 with fail
    rw [←HY.out]
    clear HY xk fz D2 x0 hsl hcv
    have e:#[.bool d.f0,.int .i64 (d.id:Int),.string (txt (d.bs.take 16)),.bool d.f2,.int .i64 (d.n:Int),.string (txt (d.bs.drop 16))]=L12.adv d.ad:=by unfold Dr.ad L12.adv;simp [hf0,hf1,hf2]
    have HF:=Lh (show Da 32 w Y3 d b r X (L12.adv L12.Ad.zero) (L12.adv d.ad) by rw [←e];exact D3.out)
    clear e D3
    go_wp2_with (first
  | (refine wpList_load_row rfl 32 _ rfl X rfl 32 (L12.adv d.ad) (0,0) _ ?_ Tryz.underlying32 rfl L12.bC ?_;exact HF.out.new)
  | (refine aJ rfl 32 _ _ rfl r rfl 32 (L12.adv L12.Ad.zero) (L12.adv d.ad) rfl ?_ rfl L12.bC (by kernel_rfl) ?_;exact HF.out.res;intro W3 g3 n3;have H3:=Lh n3;have B3:=Lh (HF.out.bel.trans (aA g3 HF.out.le.1 HF.out.bel.size));clear g3 n3))
    exact bodyPost_ret (results_cell_row rfl _ _ r 32 (L12.adv d.ad) (0,0) _ rfl H3.out Tryz.underlying32 rfl L12.bC) rfl ⟨rfl,B3.out⟩
  ·skip
   -- f2
   have x3:Y1.cell? ⟨X,3,none⟩=some (.bool false):=(D1.out.new.cell 3).trans ((show _=some (Value.bool d.f2) by kernel_rfl).trans (by rw [hf2]))
   go_upto_region 6 with fail
   clear x3
   rcases Bool.eq_false_or_eq_true d.f0 with hf0 | hf0
   ·skip
    -- f0
    have x0:Y1.cell? ⟨X,0,none⟩=some (.bool true):=(D1.out.new.cell 0).trans ((show _=some (Value.bool d.f0) by kernel_rfl).trans (by rw [hf0]))
    go_upto_region 8 with fail
    clear x0
    have e:#[.bool d.f0,.int .i64 (d.id:Int),.string (txt (d.bs.take 16)),.bool d.f2,.int .i64 0,.string ⟨#[]⟩]=L12.adv d.ad:=by unfold Dr.ad L12.adv;simp [hf0,hf1,hf2]
    have HF:=Lh (show Da 32 w Y1 d b r X (L12.adv L12.Ad.zero) (L12.adv d.ad) by rw [←e];exact D1.out)
    clear e D1
    go_wp2_with (first
  | (refine wpList_load_row rfl 32 _ rfl X rfl 32 (L12.adv d.ad) (0,0) _ ?_ Tryz.underlying32 rfl L12.bC ?_;exact HF.out.new)
  | (refine aJ rfl 32 _ _ rfl r rfl 32 (L12.adv L12.Ad.zero) (L12.adv d.ad) rfl ?_ rfl L12.bC (by kernel_rfl) ?_;exact HF.out.res;intro W3 g3 n3;have H3:=Lh n3;have B3:=Lh (HF.out.bel.trans (aA g3 HF.out.le.1 HF.out.bel.size));clear g3 n3))
    exact bodyPost_ret (results_cell_row rfl _ _ r 32 (L12.adv d.ad) (0,0) _ rfl H3.out Tryz.underlying32 rfl L12.bC) rfl ⟨rfl,B3.out⟩
   ·skip
    -- f0
    have x0:Y1.cell? ⟨X,0,none⟩=some (.bool false):=(D1.out.new.cell 0).trans ((show _=some (Value.bool d.f0) by kernel_rfl).trans (by rw [hf0]))
    have hsl:=fun W=>uD W b
    have hcv:=uA Y1 b d l7 D1.out.src
    have xk:=(D1.out.new.cell 5).trans (show _=some (.string ⟨#[]⟩) by kernel_rfl)
    have fz:=D1.out.new.frozen 5
    obtain ⟨Y2,hY⟩:∃U,U=Y1.setCell ⟨X,5,none⟩ (.string (txt (d.bs.drop 16))):=⟨_,rfl⟩
    have D2:=Lh (by have:=D1.out.set 5 (.string (txt (d.bs.drop 16)));rw [←hY] at this;exact this)
    have HY:=Lh hY
    clear hY
    go_upto_region 8 with fail
    rw [←HY.out]
    clear HY xk fz D1 x0 hsl hcv
    have e:#[.bool d.f0,.int .i64 (d.id:Int),.string (txt (d.bs.take 16)),.bool d.f2,.int .i64 0,.string (txt (d.bs.drop 16))]=L12.adv d.ad:=by unfold Dr.ad L12.adv;simp [hf0,hf1,hf2]
    have HF:=Lh (show Da 32 w Y2 d b r X (L12.adv L12.Ad.zero) (L12.adv d.ad) by rw [←e];exact D2.out)
    clear e D2
    go_wp2_with (first
  | (refine wpList_load_row rfl 32 _ rfl X rfl 32 (L12.adv d.ad) (0,0) _ ?_ Tryz.underlying32 rfl L12.bC ?_;exact HF.out.new)
  | (refine aJ rfl 32 _ _ rfl r rfl 32 (L12.adv L12.Ad.zero) (L12.adv d.ad) rfl ?_ rfl L12.bC (by kernel_rfl) ?_;exact HF.out.res;intro W3 g3 n3;have H3:=Lh n3;have B3:=Lh (HF.out.bel.trans (aA g3 HF.out.le.1 HF.out.bel.size));clear g3 n3))
    exact bodyPost_ret (results_cell_row rfl _ _ r 32 (L12.adv d.ad) (0,0) _ rfl H3.out Tryz.underlying32 rfl L12.bC) rfl ⟨rfl,B3.out⟩
 ·skip
  -- f1
  have c4:=(D0.out.src.cell 4).trans ((vY d).trans (by rw [hf1]))
  go_upto_region 4 with fail
  clear c4
  rcases Bool.eq_false_or_eq_true d.f2 with hf2 | hf2
  ·skip
   -- f2
   have x3:Y0.cell? ⟨X,3,none⟩=some (.bool true):=(D0.out.new.cell 3).trans ((show _=some (Value.bool d.f2) by kernel_rfl).trans (by rw [hf2]))
   have hcv:=vF d.n l5
   have c8:=(D0.out.src.cell 8).trans (yE d)
   have xk:=(D0.out.new.cell 4).trans (show _=some (.int .i64 0) by kernel_rfl)
   have fz:=D0.out.new.frozen 4
   obtain ⟨Y1,hY⟩:∃U,U=Y0.setCell ⟨X,4,none⟩ (.int .i64 (d.n:Int)):=⟨_,rfl⟩
   have D1:=Lh (by have:=D0.out.set 4 (.int .i64 (d.n:Int));rw [←hY] at this;exact this)
   have HY:=Lh hY
   clear hY
   go_upto_region 6 with fail
   rw [←HY.out]
   clear HY xk fz D0 c8 x3 hcv
   rcases Bool.eq_false_or_eq_true d.f0 with hf0 | hf0
   ·skip
    -- f0
    have x0:Y1.cell? ⟨X,0,none⟩=some (.bool true):=(D1.out.new.cell 0).trans ((show _=some (Value.bool d.f0) by kernel_rfl).trans (by rw [hf0]))
    go_upto_region 8 with fail
    clear x0
    have e:#[.bool d.f0,.int .i64 (d.id:Int),.string (txt (d.bs.take 4)),.bool d.f2,.int .i64 (d.n:Int),.string ⟨#[]⟩]=L12.adv d.ad:=by unfold Dr.ad L12.adv;simp [hf0,hf1,hf2]
    have HF:=Lh (show Da 32 w Y1 d b r X (L12.adv L12.Ad.zero) (L12.adv d.ad) by rw [←e];exact D1.out)
    clear e D1
    go_wp2_with (first
  | (refine wpList_load_row rfl 32 _ rfl X rfl 32 (L12.adv d.ad) (0,0) _ ?_ Tryz.underlying32 rfl L12.bC ?_;exact HF.out.new)
  | (refine aJ rfl 32 _ _ rfl r rfl 32 (L12.adv L12.Ad.zero) (L12.adv d.ad) rfl ?_ rfl L12.bC (by kernel_rfl) ?_;exact HF.out.res;intro W3 g3 n3;have H3:=Lh n3;have B3:=Lh (HF.out.bel.trans (aA g3 HF.out.le.1 HF.out.bel.size));clear g3 n3))
    exact bodyPost_ret (results_cell_row rfl _ _ r 32 (L12.adv d.ad) (0,0) _ rfl H3.out Tryz.underlying32 rfl L12.bC) rfl ⟨rfl,B3.out⟩
   ·skip
    -- f0
    have x0:Y1.cell? ⟨X,0,none⟩=some (.bool false):=(D1.out.new.cell 0).trans ((show _=some (Value.bool d.f0) by kernel_rfl).trans (by rw [hf0]))
    have hsl:=fun W=>uD W b
    have hcv:=uA Y1 b d l7 D1.out.src
    have xk:=(D1.out.new.cell 5).trans (show _=some (.string ⟨#[]⟩) by kernel_rfl)
    have fz:=D1.out.new.frozen 5
    obtain ⟨Y2,hY⟩:∃U,U=Y1.setCell ⟨X,5,none⟩ (.string (txt (d.bs.drop 16))):=⟨_,rfl⟩
    have D2:=Lh (by have:=D1.out.set 5 (.string (txt (d.bs.drop 16)));rw [←hY] at this;exact this)
    have HY:=Lh hY
    clear hY
    go_upto_region 8 with fail
    rw [←HY.out]
    clear HY xk fz D1 x0 hsl hcv
    have e:#[.bool d.f0,.int .i64 (d.id:Int),.string (txt (d.bs.take 4)),.bool d.f2,.int .i64 (d.n:Int),.string (txt (d.bs.drop 16))]=L12.adv d.ad:=by unfold Dr.ad L12.adv;simp [hf0,hf1,hf2]
    have HF:=Lh (show Da 32 w Y2 d b r X (L12.adv L12.Ad.zero) (L12.adv d.ad) by rw [←e];exact D2.out)
    clear e D2
    go_wp2_with (first
  | (refine wpList_load_row rfl 32 _ rfl X rfl 32 (L12.adv d.ad) (0,0) _ ?_ Tryz.underlying32 rfl L12.bC ?_;exact HF.out.new)
  | (refine aJ rfl 32 _ _ rfl r rfl 32 (L12.adv L12.Ad.zero) (L12.adv d.ad) rfl ?_ rfl L12.bC (by kernel_rfl) ?_;exact HF.out.res;intro W3 g3 n3;have H3:=Lh n3;have B3:=Lh (HF.out.bel.trans (aA g3 HF.out.le.1 HF.out.bel.size));clear g3 n3))
    exact bodyPost_ret (results_cell_row rfl _ _ r 32 (L12.adv d.ad) (0,0) _ rfl H3.out Tryz.underlying32 rfl L12.bC) rfl ⟨rfl,B3.out⟩
  ·skip
   -- f2
   have x3:Y0.cell? ⟨X,3,none⟩=some (.bool false):=(D0.out.new.cell 3).trans ((show _=some (Value.bool d.f2) by kernel_rfl).trans (by rw [hf2]))
   go_upto_region 6 with fail
   clear x3
   rcases Bool.eq_false_or_eq_true d.f0 with hf0 | hf0
   ·skip
    -- f0
    have x0:Y0.cell? ⟨X,0,none⟩=some (.bool true):=(D0.out.new.cell 0).trans ((show _=some (Value.bool d.f0) by kernel_rfl).trans (by rw [hf0]))
    go_upto_region 8 with fail
    clear x0
    have e:#[.bool d.f0,.int .i64 (d.id:Int),.string (txt (d.bs.take 4)),.bool d.f2,.int .i64 0,.string ⟨#[]⟩]=L12.adv d.ad:=by unfold Dr.ad L12.adv;simp [hf0,hf1,hf2]
    have HF:=Lh (show Da 32 w Y0 d b r X (L12.adv L12.Ad.zero) (L12.adv d.ad) by rw [←e];exact D0.out)
    clear e D0
    go_wp2_with (first
  | (refine wpList_load_row rfl 32 _ rfl X rfl 32 (L12.adv d.ad) (0,0) _ ?_ Tryz.underlying32 rfl L12.bC ?_;exact HF.out.new)
  | (refine aJ rfl 32 _ _ rfl r rfl 32 (L12.adv L12.Ad.zero) (L12.adv d.ad) rfl ?_ rfl L12.bC (by kernel_rfl) ?_;exact HF.out.res;intro W3 g3 n3;have H3:=Lh n3;have B3:=Lh (HF.out.bel.trans (aA g3 HF.out.le.1 HF.out.bel.size));clear g3 n3))
    exact bodyPost_ret (results_cell_row rfl _ _ r 32 (L12.adv d.ad) (0,0) _ rfl H3.out Tryz.underlying32 rfl L12.bC) rfl ⟨rfl,B3.out⟩
   ·skip
    -- f0
    have x0:Y0.cell? ⟨X,0,none⟩=some (.bool false):=(D0.out.new.cell 0).trans ((show _=some (Value.bool d.f0) by kernel_rfl).trans (by rw [hf0]))
    have hsl:=fun W=>uD W b
    have hcv:=uA Y0 b d l7 D0.out.src
    have xk:=(D0.out.new.cell 5).trans (show _=some (.string ⟨#[]⟩) by kernel_rfl)
    have fz:=D0.out.new.frozen 5
    obtain ⟨Y1,hY⟩:∃U,U=Y0.setCell ⟨X,5,none⟩ (.string (txt (d.bs.drop 16))):=⟨_,rfl⟩
    have D1:=Lh (by have:=D0.out.set 5 (.string (txt (d.bs.drop 16)));rw [←hY] at this;exact this)
    have HY:=Lh hY
    clear hY
    go_upto_region 8 with fail
    rw [←HY.out]
    clear HY xk fz D0 x0 hsl hcv
    have e:#[.bool d.f0,.int .i64 (d.id:Int),.string (txt (d.bs.take 4)),.bool d.f2,.int .i64 0,.string (txt (d.bs.drop 16))]=L12.adv d.ad:=by unfold Dr.ad L12.adv;simp [hf0,hf1,hf2]
    have HF:=Lh (show Da 32 w Y1 d b r X (L12.adv L12.Ad.zero) (L12.adv d.ad) by rw [←e];exact D1.out)
    clear e D1
    go_wp2_with (first
  | (refine wpList_load_row rfl 32 _ rfl X rfl 32 (L12.adv d.ad) (0,0) _ ?_ Tryz.underlying32 rfl L12.bC ?_;exact HF.out.new)
  | (refine aJ rfl 32 _ _ rfl r rfl 32 (L12.adv L12.Ad.zero) (L12.adv d.ad) rfl ?_ rfl L12.bC (by kernel_rfl) ?_;exact HF.out.res;intro W3 g3 n3;have H3:=Lh n3;have B3:=Lh (HF.out.bel.trans (aA g3 HF.out.le.1 HF.out.bel.size));clear g3 n3))
    exact bodyPost_ret (results_cell_row rfl _ _ r 32 (L12.adv d.ad) (0,0) _ rfl H3.out Tryz.underlying32 rfl L12.bC) rfl ⟨rfl,B3.out⟩
theorem join_0 (d:Dr) (hd:d.Ok) (hf:d.what%3=0) (w:World):Calls Tryz.prog 30 #[.agg (drv d)] w (Rt w (.agg (L10.jnv d.jn))):=by
 obtain ⟨-,l1,l2,l3,l4,l5,l6,l7⟩:=hd
 have hq:(d.what:Int)%3=0:=by omega
 go_enter Tryz.func30,Tryz.ntmps30
 go_upto_region 1 with (first
  | (refine bD rfl 48 _ rfl (drv d) rfl ?_;intro U0 b hb hU)
  | (refine aQ rfl 28 rfl (L10.jnv L10.Jn.zero) (fun _=>by kernel_rfl) ?_;intro U1 r hr hU1;have H0:=Lh (Db.of hb hU hr hU1);clear hb hU hr hU1))
 have e:#[.int .i64 0,.bool d.f0,.int .i64 (d.id:Int),.int .u32 ((d.a:Int)%4294967296),.int .u32 ((d.b:Int)%4294967296),.string ⟨#[]⟩]=L10.jnv d.jn:=by unfold Dr.jn L10.jnv;simp [hf]
 have HEE:=Lh e
 clear e
 have c1:=(H0.out.src.cell 1).trans (sQ d)
 have c2:=(H0.out.src.cell 2).trans (tK d)
 have c3:=(H0.out.src.cell 3).trans (rM d)
 have c6:=(H0.out.src.cell 6).trans (oW d)
 have c7:=(H0.out.src.cell 7).trans (uM d)
 go_wp2_with (refine aJ rfl 28 _ _ rfl r rfl 28 (L10.jnv L10.Jn.zero) (#[.int .i64 0,.bool d.f0,.int .i64 (d.id:Int),.int .u32 ((d.a:Int)%4294967296),.int .u32 ((d.b:Int)%4294967296),.string ⟨#[]⟩]) (by kernel_rfl) ?_ rfl L10.bM (by kernel_rfl) ?_;exact H0.out.res;intro W3 g3 n3;have H3:=Lh (show Blk W3 r 28 (L10.jnv d.jn) by rw [←HEE.out];exact n3);have B3:=Lh (H0.out.bel.trans (aA g3 H0.out.le H0.out.bel.size));clear g3 n3)
 exact bodyPost_ret (results_cell_row rfl _ _ r 28 (L10.jnv d.jn) (0,0) _ rfl H3.out Tryz.underlying28 rfl L10.bM) rfl ⟨rfl,B3.out⟩
theorem join_1 (d:Dr) (hd:d.Ok) (hf:d.what%3=1) (w:World):Calls Tryz.prog 30 #[.agg (drv d)] w (Rt w (.agg (L10.jnv d.jn))):=by
 obtain ⟨-,l1,l2,l3,l4,l5,l6,l7⟩:=hd
 have hq:(d.what:Int)%3=1:=by omega
 go_enter Tryz.func30,Tryz.ntmps30
 go_upto_region 1 with (first
  | (refine bD rfl 48 _ rfl (drv d) rfl ?_;intro U0 b hb hU)
  | (refine aQ rfl 28 rfl (L10.jnv L10.Jn.zero) (fun _=>by kernel_rfl) ?_;intro U1 r hr hU1;have H0:=Lh (Db.of hb hU hr hU1);clear hb hU hr hU1))
 have e:#[.int .i64 1,.bool d.f0,.int .i64 (d.id:Int),.int .u32 0,.int .u32 ((d.b:Int)%4294967296),.string (txt (d.bs.take 8))]=L10.jnv d.jn:=by unfold Dr.jn L10.jnv;simp [hf]
 have HEE:=Lh e
 clear e
 have c1:=(H0.out.src.cell 1).trans (sQ d)
 go_upto_region 5 with fail
 have HSR:=Lh H0.out.src
 have B0:Below U1.heap.size U1 U1.drew:=(Below.refl _ U1).drew
 refine kJ 13 (fun W=>Below U1.heap.size U1 W) (by kernel_rfl) (n:=14) rfl ?_
 obtain ⟨W0,hW0⟩:=eqx U1.drew
 rw [←hW0] at B0 ⊢
 clear hW0
 refine wkF 0 (.pointer (some ⟨b,3,none⟩)) rfl B0 (wkF 1 (.pointer (some ⟨b,3,none⟩)) rfl B0 (wkG 2 (.bool d.f0) rfl B0 (fun W q=>xLd 4 (.tmp 24) ⟨b,3,none⟩ (((HSR.out.below q HSR.out.lt).cell 3).trans (rM d))) (wkF 3 (.pointer (some ⟨b,2,none⟩)) rfl B0 (wkG 4 (.int .u8 (d.id:Int)) rfl B0 (fun W q=>xLd 5 (.tmp 26) ⟨b,2,none⟩ (((HSR.out.below q HSR.out.lt).cell 2).trans (tK d))) (wkG 5 (.int .i64 (d.id:Int)) rfl B0 (fun W _=>aV (v:=.int .u8 (d.id:Int)) 5 3 (.tmp 27) (by kernel_rfl) (by kernel_rfl) (conv8 d.id l2 W)) (wkF 6 (.pointer (some ⟨b,7,none⟩)) rfl B0 (wkG 7 (.int .u64 (d.b:Int)) rfl B0 (fun W q=>xLd 22 (.tmp 29) ⟨b,7,none⟩ (((HSR.out.below q HSR.out.lt).cell 7).trans (uM d))) (wkG 8 (.int .u32 ((d.b:Int)%4294967296)) rfl B0 (fun W _=>aV (v:=.int .u64 (d.b:Int)) 22 26 (.tmp 30) (by kernel_rfl) (by kernel_rfl) (conv64 d.b W)) (wkF 9 (.pointer (some ⟨b,10,none⟩)) rfl B0 ?_)))))))))
 refine wkG 10 (.slice (some ⟨b,10,none⟩) 8 24) rfl B0 (fun W _=>iQ (v:=.pointer (some ⟨b,10,none⟩)) (hv:=.int .i64 8) 46 (.tmp 32) (.const (.int .i64 8)) (by kernel_rfl) (by kernel_rfl) (by kernel_rfl) (oC W b 8 .i64 (by decide))) (wkG 11 (.string (txt (d.bs.take 8))) rfl B0 (fun W q=>aV (v:=.slice (some ⟨b,10,none⟩) 8 24) 61 9 (.tmp 33) (by kernel_rfl) (by kernel_rfl) (qX W b d 8 24 (by rw [l7];decide) (HSR.out.below q HSR.out.lt))) (wkF 12 (.agg #[.int .i64 1,.bool d.f0,.int .i64 (d.id:Int),.int .u32 0,.int .u32 ((d.b:Int)%4294967296),.string (txt (d.bs.take 8))]) rfl B0 ?_))
 have N0:=H0.out.res.below B0 H0.out.res.lt
 refine aY 13 (by kernel_rfl) (oK 13 rfl (by kernel_rfl) (by exact dY 28 (.tmp 2) (.tmp 35) (by kernel_rfl) r #[.int .i64 1,.bool d.f0,.int .i64 (d.id:Int),.int .u32 0,.int .u32 ((d.b:Int)%4294967296),.string (txt (d.bs.take 8))] (by kernel_rfl) (by kernel_rfl) 28 (L10.jnv L10.Jn.zero) N0 L10.bM rfl (by kernel_rfl)) (by kernel_rfl) ?_)
 refine dB ⟨List.toArray (Value.agg (drv d)::Value.pointer (some ⟨b,0,none⟩)::Value.pointer (some ⟨r,0,none⟩)::Value.pointer (some ⟨b,1,none⟩)::Value.int .u8 (d.what:Int)::Value.int .u8 ((d.what:Int)%3)::Value.bool false::Value.bool false::undef::undef::undef::undef::undef::undef::undef::undef::undef::undef::undef::undef::undef::Value.bool true::Value.bool true::Value.pointer (some ⟨b,3,none⟩)::Value.pointer (some ⟨b,3,none⟩)::Value.bool d.f0::Value.pointer (some ⟨b,2,none⟩)::Value.int .u8 (d.id:Int)::Value.int .i64 (d.id:Int)::Value.pointer (some ⟨b,7,none⟩)::Value.int .u64 (d.b:Int)::Value.int .u32 ((d.b:Int)%4294967296)::Value.pointer (some ⟨b,10,none⟩)::Value.slice (some ⟨b,10,none⟩) 8 24::Value.string (txt (d.bs.take 8))::Value.agg #[.int .i64 1,.bool d.f0,.int .i64 (d.id:Int),.int .u32 0,.int .u32 ((d.b:Int)%4294967296),.string (txt (d.bs.take 8))]::undef::undef::undef::undef::[]),[]⟩ (by kernel_rfl) (by kernel_rfl) ?_
 have H3:=Lh (show Blk (W0.setRow r #[.int .i64 1,.bool d.f0,.int .i64 (d.id:Int),.int .u32 0,.int .u32 ((d.b:Int)%4294967296),.string (txt (d.bs.take 8))]) r 28 (L10.jnv d.jn) by rw [←HEE.out];exact setRow_heap _ _ _ _ _ _ N0)
 have B3:=Lh (show Below w.heap.size w (W0.setRow r #[.int .i64 1,.bool d.f0,.int .i64 (d.id:Int),.int .u32 0,.int .u32 ((d.b:Int)%4294967296),.string (txt (d.bs.take 8))]) from L12.below_setRow (H0.out.bel.trans (B0.mono H0.out.bel.size)) H0.out.le _)
 obtain ⟨W3,hW3⟩:∃W,W=W0.setRow r #[.int .i64 1,.bool d.f0,.int .i64 (d.id:Int),.int .u32 0,.int .u32 ((d.b:Int)%4294967296),.string (txt (d.bs.take 8))]:=⟨_,rfl⟩
 rw [←hW3] at H3 B3 ⊢
 clear hW3 N0 B0
 go_wp2_with fail
 exact bodyPost_ret (results_cell_row rfl _ _ r 28 (L10.jnv d.jn) (0,0) _ (by kernel_rfl) H3.out Tryz.underlying28 rfl L10.bM) (by kernel_rfl) ⟨rfl,B3.out⟩
theorem join_2 (d:Dr) (hd:d.Ok) (hf:d.what%3=2) (w:World):Calls Tryz.prog 30 #[.agg (drv d)] w (Rt w (.agg (L10.jnv d.jn))):=by
 obtain ⟨-,l1,l2,l3,l4,l5,l6,l7⟩:=hd
 have hq:(d.what:Int)%3=2:=by omega
 go_enter Tryz.func30,Tryz.ntmps30
 go_upto_region 1 with (first
  | (refine bD rfl 48 _ rfl (drv d) rfl ?_;intro U0 b hb hU)
  | (refine aQ rfl 28 rfl (L10.jnv L10.Jn.zero) (fun _=>by kernel_rfl) ?_;intro U1 r hr hU1;have H0:=Lh (Db.of hb hU hr hU1);clear hb hU hr hU1))
 have e:#[.int .i64 2,.bool false,.int .i64 0,.int .u32 0,.int .u32 0,.string (txt (d.bs.take 20))]=L10.jnv d.jn:=by unfold Dr.jn L10.jnv;simp [hf]
 have HEE:=Lh e
 clear e
 have c1:=(H0.out.src.cell 1).trans (sQ d)
 have hsl:=fun W=>oC W b 20 .i64 (by decide)
 have hcv:=qX U1 b d 20 24 (by rw [l7];decide) H0.out.src
 go_wp2_with (refine aJ rfl 28 _ _ rfl r rfl 28 (L10.jnv L10.Jn.zero) (#[.int .i64 2,.bool false,.int .i64 0,.int .u32 0,.int .u32 0,.string (txt (d.bs.take 20))]) (by kernel_rfl) ?_ rfl L10.bM (by kernel_rfl) ?_;exact H0.out.res;intro W3 g3 n3;have H3:=Lh (show Blk W3 r 28 (L10.jnv d.jn) by rw [←HEE.out];exact n3);have B3:=Lh (H0.out.bel.trans (aA g3 H0.out.le H0.out.bel.size));clear g3 n3)
 exact bodyPost_ret (results_cell_row rfl _ _ r 28 (L10.jnv d.jn) (0,0) _ rfl H3.out Tryz.underlying28 rfl L10.bM) rfl ⟨rfl,B3.out⟩
theorem join_any (d:Dr) (hd:d.Ok) (w:World):Calls Tryz.prog 30 #[.agg (drv d)] w (Rt w (.agg (L10.jnv d.jn))):=by
 have:d.what%3=0∨d.what%3=1∨d.what%3=2:=by omega
 rcases this with h | h | h
 ·exact join_0 d hd h w
 ·exact join_1 d hd h w
 ·exact join_2 d hd h w
theorem vP {ρ:Operand→Value} {o:Oper} {w:World} (t u:TypeId) (x y:Operand) (ho:o.op= .binOp .shr t x y u) (a:Nat) (hx:ρ x= .int .u64 (a:Int)) (hy:ρ y= .int .u64 32):(execOp ρ o).run Tryz.prog w= .ok (.value (.int .u64 ((a / 4294967296:Nat):Int))) w:=by
 unfold execOp
 rw [ho]
 simp [hx,hy,go_sem]
theorem qM {ρ:Operand→Value} {o:Oper} {w:World} (t u:TypeId) (x y:Operand) (ho:o.op= .binOp .rem t x y u) (a b c:Nat) (hx:ρ x= .int .u8 (a:Int)) (hy:ρ y= .int .u8 (b:Int)) (ht:Tryz.prog.underlying t=some (.int .u8)) (hb:b≠0) (h:a%b=c):(execOp ρ o).run Tryz.prog w= .ok (.value (.int .u8 (c:Int))) w:=by
 subst h
 unfold execOp
 rw [ho]
 have e:(a:Int).tmod (b:Int)=(a:Int)%(b:Int):=Int.tmod_eq_emod_of_nonneg (by omega)
 simp [hx,hy,go_sem,hb,e]
theorem yD (u:Nat) (h:u≤4294967295) (w:World):(convert 22 26 (.int .u64 (u:Int))).run Tryz.prog w= .ok (.int .u32 (u:Int)) w:=by
 rw [conv64,Int.emod_eq_of_lt (by omega) (by omega)]
theorem Da.drew {T:TypeId} {w W:World} {d:Dr} {b r X:Nat} {zs cs:Array Value} (h:Da T w W d b r X zs cs):Da T w W.drew d b r X zs cs:=⟨h.src.drew,h.res.drew,h.new.drew,h.bel.drew,h.le,h.ne⟩
theorem one_skip {P:Program} {ops:Array Oper} {S:World→Prop} {Q:Exit→Act→World→Prop} {md:Region.Mode} {fuel:Nat} {listed:Array Bool} {a:Act} {w:World} (i:Nat) {o:Oper} {w':World} (hi:ops[i]?=some o) (hr:Region.ready md ops listed=[i]) (hw:Region.wanted o (yielded ops a.tmps)=true) (he:(execOp a.eval o).run P w= .ok .skip w') (hS:S w')
  (h:wpAnyH P md ops Q S fuel (listed.setIfInBounds i true) (a.put o.dst undef) w'):wpAnyH P md ops Q S (fuel+1) listed a w:=by
 refine mJ hi hr hw ?_
 unfold Oper.wp
 rw [he]
 exact ⟨hS,h⟩
theorem blk_store {W:World} {g i:Nat} {t':TypeId} {cs:Array Value} (h:Blk W g t' cs) (hi:i < cs.size) (t:TypeId) (v:Value) (ht:(Tryz.prog.info? t).map (·.size)=some 1) (hv:v.cells=#[v]) (h1:v.oneCell'=true):(storeVar t ⟨g,i,none⟩ v).run Tryz.prog W= .ok () (W.setCell ⟨g,i,none⟩ v):=by
 have hst:(store ((⟨g,i,none⟩:Addr).add 0) v).run Tryz.prog W= .ok () (W.setCell ⟨g,i,none⟩ v):=by
  rw [show (⟨g,i,none⟩:Addr).add 0=⟨g,i,none⟩ from rfl,run_store Tryz.prog W _ _ _ h1,h.cell i,Array.getElem?_eq_getElem hi]
  simp [h.frozen i]
 cases hq:Tryz.prog.info? t with
 | none=>rw [hq] at ht;cases ht
 | some k=>
  have hs:k.size=1:=by simpa [hq] using ht
  simp [storeVar,sizeOf,typeInfo,hq,hv,hs,storeCells,hst]
theorem stD {T:TypeId} {ops:Array Oper} {Q:Exit→Act→World→Prop} {md:Region.Mode} {fuel:Nat} {listed:Array Bool} {ac:Act} {w W:World} {d:Dr} {b r X:Nat} {zs cs:Array Value} (i j:Nat) {o:Oper} (v:Value) (t:TypeId) (p q:Operand) (hi:ops[i]?=some o) (D:Hid (Da T w W d b r X zs cs))
  (h:∀W',Hid (Da T w W' d b r X zs (cs.setIfInBounds j v))→wpAnyH Tryz.prog md ops Q (fun W=>Blk W b 48 (drv d)) fuel (listed.setIfInBounds i true) (ac.put o.dst undef) W')
  (hr:Region.ready md ops listed=[i]:=by kernel_rfl) (hw:Region.wanted o (yielded ops ac.tmps)=true:=by kernel_rfl) (ho:o.op= .store t p q:=by kernel_rfl) (hp:ac.eval p= .pointer (some ⟨X,j,none⟩):=by kernel_rfl) (hq:ac.eval q=v:=by kernel_rfl) (hj:j < cs.size:=by (simp)) (ht:(Tryz.prog.info? t).map (·.size)=some 1:=by kernel_rfl)
  (hv:v.cells=#[v]:=by rfl) (h1:v.oneCell'=true:=by rfl):wpAnyH Tryz.prog md ops Q (fun W=>Blk W b 48 (drv d)) (fuel+1) listed ac W:=
 one_skip i hi hr hw (fG t p q ho ⟨X,j,none⟩ v hp hq (blk_store D.out.new hj t v ht hv h1)) (D.out.set j v).src (h _ (Lh (D.out.set j v)))
theorem dss_0 (d:Dr) (hd:d.Ok) (hf:d.what%3=0) (w:World):Calls Tryz.prog 31 #[.agg (drv d)] w (Rt w (.agg (L11.dsv d.ds))):=by
 obtain ⟨-,l1,l2,l3,l4,l5,l6,l7⟩:=hd
 have hq:(d.what:Int)%3=0:=by omega
 have HAQ:=Lh (show d.ha=true by unfold Dr.ha;simp [hf])
 have HMQ:=Lh (show d.hm=false by unfold Dr.hm;simp [hf])
 have hsb:=Lh (show decide (((d.id%2:Nat):Int)=1)=d.hs from by unfold Dr.hs;exact decide_eq_decide.2 (by omega))
 have hsh:=Lh (show d.a / 4294967296≤4294967295 by omega)
 go_enter Tryz.func31,Tryz.ntmps31
 go_upto_region 1 with (first
  | (refine bD rfl 48 _ rfl (drv d) rfl ?_;intro U0 b hb hU)
  | (refine aQ rfl 30 rfl (L11.dsv L11.Ds.zero) (fun _=>by kernel_rfl) ?_;intro U1 r hr hU1;have H0:=Lh (Db.of hb hU hr hU1);clear hb hU hr hU1))
 have c1:=(H0.out.src.cell 1).trans (sQ d)
 obtain ⟨X,hX⟩:=eqx U1.heap.size
 obtain ⟨W0,hW⟩:∃W,W=U1.alloc (.cells #[.bool false,.bool true,.bool false,.int .u64 0,.bool false,.bool false,.int .u64 0,.int .u32 0,.int .i64 0,.bool false,.int .u16 0] 30):=⟨_,rfl⟩
 have D0:=Lh (H0.out.made hX hW)
 have HX:=Lh hX
 have HW:=Lh hW
 clear hX hW
 go_upto_region 2 with fail
 rw [←HW.out,←HX.out]
 clear HX HW c1
 have x1:=(D0.out.new.cell 1).trans (show _=some (Value.bool true) by kernel_rfl)
 go_upto_region 3 with fail
 clear x1
 rcases Bool.eq_false_or_eq_true d.f0 with hf0 | hf0
 ·skip
  have c3:=(D0.out.src.cell 3).trans (rM d)
  have xk:=(D0.out.new.cell 2).trans (show _=some (.bool false) by kernel_rfl)
  have fz:=D0.out.new.frozen 2
  obtain ⟨Y1,hY⟩:∃U,U=W0.setCell ⟨X,2,none⟩ (.bool true):=⟨_,rfl⟩
  have D1:=Lh (by have:=D0.out.set 2 (.bool true);rw [←hY] at this;exact this)
  have HY:=Lh hY
  clear hY
  go_upto_region 4 with fail
  rw [←HY.out]
  clear HY xk fz D0 c3
  have c6:=(D1.out.src.cell 6).trans (oW d)
  have xk:=(D1.out.new.cell 3).trans (show _=some (.int .u64 0) by kernel_rfl)
  have fz:=D1.out.new.frozen 3
  obtain ⟨Y2,hY⟩:∃U,U=Y1.setCell ⟨X,3,none⟩ (.int .u64 (d.a:Int)):=⟨_,rfl⟩
  have D2:=Lh (by have:=D1.out.set 3 (.int .u64 (d.a:Int));rw [←hY] at this;exact this)
  have HY:=Lh hY
  clear hY
  go_upto_region 5 with fail
  rw [←HY.out]
  clear HY xk fz D1 c6
  have x2:Y2.cell? ⟨X,2,none⟩=some (.bool true):=(D2.out.new.cell 2).trans (by kernel_rfl)
  go_upto_region 7 with fail
  clear x2
  have x4:=(D2.out.new.cell 4).trans (show _=some (Value.bool false) by kernel_rfl)
  go_upto_region 14 with fail
  clear x4
  have e:#[.bool false,.bool true,.bool true,.int .u64 (d.a:Int),.bool false,.bool false,.int .u64 0,.int .u32 0,.int .i64 0,.bool false,.int .u16 0]=L11.dsv d.ds:=by unfold Dr.ds L11.dsv;simp [HAQ.out,HMQ.out,hf0]
  have HF:=Lh (show Da 30 w Y2 d b r X (L11.dsv L11.Ds.zero) (L11.dsv d.ds) by rw [←e];exact D2.out)
  clear e D2
  go_wp2_with (first
  | (refine wpList_load_row rfl 30 _ rfl X rfl 30 (L11.dsv d.ds) (0,0) _ ?_ Tryz.underlying30 rfl L11.aP ?_;exact HF.out.new)
  | (refine aJ rfl 30 _ _ rfl r rfl 30 (L11.dsv L11.Ds.zero) (L11.dsv d.ds) rfl ?_ rfl L11.aP (by kernel_rfl) ?_;exact HF.out.res;intro W3 g3 n3;have H3:=Lh n3;have B3:=Lh (HF.out.bel.trans (aA g3 HF.out.le.1 HF.out.bel.size));clear g3 n3))
  exact bodyPost_ret (results_cell_row rfl _ _ r 30 (L11.dsv d.ds) (0,0) _ rfl H3.out Tryz.underlying30 rfl L11.aP) rfl ⟨rfl,B3.out⟩
 ·skip
  have c3:=(D0.out.src.cell 3).trans (rM d)
  have xk:=(D0.out.new.cell 2).trans (show _=some (.bool false) by kernel_rfl)
  have fz:=D0.out.new.frozen 2
  obtain ⟨Y1,hY⟩:∃U,U=W0.setCell ⟨X,2,none⟩ (.bool false):=⟨_,rfl⟩
  have D1:=Lh (by have:=D0.out.set 2 (.bool false);rw [←hY] at this;exact this)
  have HY:=Lh hY
  clear hY
  go_upto_region 4 with fail
  rw [←HY.out]
  clear HY xk fz D0 c3
  have c6:=(D1.out.src.cell 6).trans (oW d)
  have xk:=(D1.out.new.cell 3).trans (show _=some (.int .u64 0) by kernel_rfl)
  have fz:=D1.out.new.frozen 3
  obtain ⟨Y2,hY⟩:∃U,U=Y1.setCell ⟨X,3,none⟩ (.int .u64 (d.a:Int)):=⟨_,rfl⟩
  have D2:=Lh (by have:=D1.out.set 3 (.int .u64 (d.a:Int));rw [←hY] at this;exact this)
  have HY:=Lh hY
  clear hY
  go_upto_region 5 with fail
  rw [←HY.out]
  clear HY xk fz D1 c6
  have x2:Y2.cell? ⟨X,2,none⟩=some (.bool false):=(D2.out.new.cell 2).trans (by kernel_rfl)
  have c6:=(D2.out.src.cell 6).trans (oW d)
  have xk:=(D2.out.new.cell 3).trans (show _=some (.int .u64 (d.a:Int)) by kernel_rfl)
  have fz:=D2.out.new.frozen 3
  obtain ⟨Y3,hY⟩:∃U,U=Y2.setCell ⟨X,3,none⟩ (.int .u64 ((d.a:Int)%4294967296)):=⟨_,rfl⟩
  have D3:=Lh (by have:=D2.out.set 3 (.int .u64 ((d.a:Int)%4294967296));rw [←hY] at this;exact this)
  have HY:=Lh hY
  clear hY
  go_upto_region 7 with fail
  rw [←HY.out]
  clear HY xk fz D2 c6 x2
  have x4:=(D3.out.new.cell 4).trans (show _=some (Value.bool false) by kernel_rfl)
  go_upto_region 14 with fail
  clear x4
  have e:#[.bool false,.bool true,.bool false,.int .u64 ((d.a:Int)%4294967296),.bool false,.bool false,.int .u64 0,.int .u32 0,.int .i64 0,.bool false,.int .u16 0]=L11.dsv d.ds:=by unfold Dr.ds L11.dsv;simp [HAQ.out,HMQ.out,hf0]
  have HF:=Lh (show Da 30 w Y3 d b r X (L11.dsv L11.Ds.zero) (L11.dsv d.ds) by rw [←e];exact D3.out)
  clear e D3
  go_wp2_with (first
  | (refine wpList_load_row rfl 30 _ rfl X rfl 30 (L11.dsv d.ds) (0,0) _ ?_ Tryz.underlying30 rfl L11.aP ?_;exact HF.out.new)
  | (refine aJ rfl 30 _ _ rfl r rfl 30 (L11.dsv L11.Ds.zero) (L11.dsv d.ds) rfl ?_ rfl L11.aP (by kernel_rfl) ?_;exact HF.out.res;intro W3 g3 n3;have H3:=Lh n3;have B3:=Lh (HF.out.bel.trans (aA g3 HF.out.le.1 HF.out.bel.size));clear g3 n3))
  exact bodyPost_ret (results_cell_row rfl _ _ r 30 (L11.dsv d.ds) (0,0) _ rfl H3.out Tryz.underlying30 rfl L11.aP) rfl ⟨rfl,B3.out⟩
theorem dss_1 (d:Dr) (hd:d.Ok) (hf:d.what%3=1) (w:World):Calls Tryz.prog 31 #[.agg (drv d)] w (Rt w (.agg (L11.dsv d.ds))):=by
 obtain ⟨-,l1,l2,l3,l4,l5,l6,l7⟩:=hd
 have hq:(d.what:Int)%3=1:=by omega
 have HAQ:=Lh (show d.ha=false by unfold Dr.ha;simp [hf])
 have HMQ:=Lh (show d.hm=true by unfold Dr.hm;simp [hf])
 have hsb:=Lh (show decide (((d.id%2:Nat):Int)=1)=d.hs from by unfold Dr.hs;exact decide_eq_decide.2 (by omega))
 have hsh:=Lh (show d.a / 4294967296≤4294967295 by omega)
 go_enter Tryz.func31,Tryz.ntmps31
 go_upto_region 1 with (first
  | (refine bD rfl 48 _ rfl (drv d) rfl ?_;intro U0 b hb hU)
  | (refine aQ rfl 30 rfl (L11.dsv L11.Ds.zero) (fun _=>by kernel_rfl) ?_;intro U1 r hr hU1;have H0:=Lh (Db.of hb hU hr hU1);clear hb hU hr hU1))
 have c1:=(H0.out.src.cell 1).trans (sQ d)
 obtain ⟨X,hX⟩:=eqx U1.heap.size
 obtain ⟨W0,hW⟩:∃W,W=U1.alloc (.cells #[.bool false,.bool false,.bool false,.int .u64 0,.bool true,.bool false,.int .u64 0,.int .u32 0,.int .i64 0,.bool false,.int .u16 0] 30):=⟨_,rfl⟩
 have D0:=Lh (H0.out.made hX hW)
 have HX:=Lh hX
 have HW:=Lh hW
 clear hX hW
 go_upto_region 2 with fail
 rw [←HW.out,←HX.out]
 clear HX HW c1
 have x1:=(D0.out.new.cell 1).trans (show _=some (Value.bool false) by kernel_rfl)
 go_upto_region 7 with fail
 clear x1
 have x4:=(D0.out.new.cell 4).trans (show _=some (Value.bool true) by kernel_rfl)
 go_upto_region 8 with fail
 clear x4
 have A1:=Lh D0.out.drew
 refine iF (fun W=>Blk W b 48 (drv d)) (by kernel_rfl) (n:=16) rfl ?_
 obtain ⟨V1,hV⟩:∃V,V=W0.drew:=⟨_,rfl⟩
 rw [←hV] at A1 ⊢
 clear hV D0
 refine stF 0 (.pointer (some ⟨b,3,none⟩)) rfl A1.out.src (stF 1 (.pointer (some ⟨b,4,none⟩)) rfl A1.out.src (stG 2 (.bool d.f1) rfl A1.out.src (fun W q=>xLd 4 (.tmp 32) ⟨b,4,none⟩ ((q.cell 4).trans (vY d))) (stF 3 (.pointer (some ⟨b,3,none⟩)) rfl A1.out.src (stF 4 (.pointer (some ⟨b,5,none⟩)) rfl A1.out.src (stG 5 (.bool d.f2) rfl A1.out.src (fun W q=>xLd 4 (.tmp 35) ⟨b,5,none⟩ ((q.cell 5).trans (dr_5 d))) (stF 6 (.pointer (some ⟨b,2,none⟩)) rfl A1.out.src (stG 7 (.int .u8 (d.id:Int)) rfl A1.out.src (fun W q=>xLd 5 (.tmp 37) ⟨b,2,none⟩ ((q.cell 2).trans (tK d))) (stG 8 (.int .u8 ((d.id%2:Nat):Int)) rfl A1.out.src (fun _ _=>qM 5 5 (.tmp 38) (.const (.int .u8 2)) (by kernel_rfl) d.id 2 (d.id%2) (by kernel_rfl) (by kernel_rfl) (by kernel_rfl) (by decide) rfl) (stG 9 (.bool d.hs) rfl A1.out.src (fun _ _=>xEb .u8 5 5 (.tmp 39) (.const (.int .u8 1)) ((d.id%2:Nat):Int) 1 d.hs hsb.out) ?_)))))))))
 refine stF 10 (.pointer (some ⟨X,0,none⟩)) rfl A1.out.src ?_
 refine stD 11 0 (.bool d.f1) 4 (.tmp 41) (.tmp 33) rfl A1 ?_
 intro V2 A2
 clear A1
 refine stF 12 (.pointer (some ⟨X,5,none⟩)) rfl A2.out.src ?_
 refine stD 13 5 (.bool d.f2) 4 (.tmp 42) (.tmp 36) rfl A2 ?_
 intro V3 A3
 clear A2
 refine stF 14 (.pointer (some ⟨X,9,none⟩)) rfl A3.out.src ?_
 refine stD 15 9 (.bool d.hs) 4 (.tmp 43) (.tmp 40) rfl A3 ?_
 intro V4 A4
 clear A3
 refine bJ ⟨List.toArray (Value.agg (drv d)::Value.pointer (some ⟨b,0,none⟩)::Value.pointer (some ⟨r,0,none⟩)::Value.pointer (some ⟨X,0,none⟩)::Value.pointer (some ⟨b,1,none⟩)::Value.int .u8 (d.what:Int)::Value.int .u8 ((d.what:Int)%3)::Value.bool false::Value.pointer (some ⟨b,1,none⟩)::Value.int .u8 (d.what:Int)::Value.int .u8 ((d.what:Int)%3)::Value.bool true::Value.agg #[.bool false,.bool false,.bool false,.int .u64 0,.bool true,.bool false,.int .u64 0,.int .u32 0,.int .i64 0,.bool false,.int .u16 0]::Value.pointer (some ⟨X,1,none⟩)::Value.bool false::undef::undef::undef::undef::undef::undef::undef::undef::undef::undef::undef::undef::undef::undef::Value.pointer (some ⟨X,4,none⟩)::Value.bool true::Value.pointer (some ⟨b,3,none⟩)::Value.pointer (some ⟨b,4,none⟩)::Value.bool d.f1::Value.pointer (some ⟨b,3,none⟩)::Value.pointer (some ⟨b,5,none⟩)::Value.bool d.f2::Value.pointer (some ⟨b,2,none⟩)::Value.int .u8 (d.id:Int)::Value.int .u8 ((d.id%2:Nat):Int)::Value.bool d.hs::Value.pointer (some ⟨X,0,none⟩)::Value.pointer (some ⟨X,5,none⟩)::Value.pointer (some ⟨X,9,none⟩)::undef::undef::undef::undef::undef::undef::undef::undef::undef::undef::undef::undef::undef::undef::undef::undef::undef::undef::undef::undef::undef::undef::undef::undef::undef::[]),[]⟩ (by kernel_rfl) (by kernel_rfl) ?_
 have A4b:=Lh (show Da 30 w V4 d b r X (L11.dsv L11.Ds.zero) #[.bool d.f1,.bool false,.bool false,.int .u64 0,.bool true,.bool d.f2,.int .u64 0,.int .u32 0,.int .i64 0,.bool d.hs,.int .u16 0] from A4.out)
 clear A4
 go_upto_region 9 with fail
 have A5:=Lh A4b.out.drew
 refine iF (fun W=>Blk W b 48 (drv d)) (by kernel_rfl) (n:=15) rfl ?_
 obtain ⟨V5,hV⟩:∃V,V=V4.drew:=⟨_,rfl⟩
 rw [←hV] at A5 ⊢
 clear hV A4b
 refine stF 0 (.pointer (some ⟨b,7,none⟩)) rfl A5.out.src (stG 1 (.int .u64 (d.b:Int)) rfl A5.out.src (fun W q=>xLd 22 (.tmp 44) ⟨b,7,none⟩ ((q.cell 7).trans (uM d))) (stF 2 (.pointer (some ⟨b,6,none⟩)) rfl A5.out.src (stG 3 (.int .u64 (d.a:Int)) rfl A5.out.src (fun W q=>xLd 22 (.tmp 46) ⟨b,6,none⟩ ((q.cell 6).trans (oW d))) (stG 4 (.int .u64 ((d.a / 4294967296:Nat):Int)) rfl A5.out.src (fun _ _=>vP 22 _ (.tmp 47) (.const (.int .u64 32)) rfl d.a (by kernel_rfl) (by kernel_rfl)) (stG 5 (.int .u32 ((d.a / 4294967296:Nat):Int)) rfl A5.out.src (fun W _=>aV (v:=.int .u64 ((d.a / 4294967296:Nat):Int)) 22 26 (.tmp 48) (by kernel_rfl) (by kernel_rfl) (yD _ hsh.out W)) (stF 6 (.pointer (some ⟨b,8,none⟩)) rfl A5.out.src (stG 7 (.int .u16 (d.n:Int)) rfl A5.out.src (fun W q=>xLd 23 (.tmp 50) ⟨b,8,none⟩ ((q.cell 8).trans (yE d))) (stG 8 (.int .i64 (d.n:Int)) rfl A5.out.src (fun W _=>aV (v:=.int .u16 (d.n:Int)) 23 3 (.tmp 51) (by kernel_rfl) (by kernel_rfl) (vF d.n l5 W)) (stF 9 (.pointer (some ⟨X,6,none⟩)) rfl A5.out.src ?_)))))))))
 refine stD 10 6 (.int .u64 (d.b:Int)) 22 (.tmp 53) (.tmp 45) rfl A5 ?_
 intro V6 A6
 clear A5
 refine stF 11 (.pointer (some ⟨X,7,none⟩)) rfl A6.out.src ?_
 refine stD 12 7 (.int .u32 ((d.a / 4294967296:Nat):Int)) 26 (.tmp 54) (.tmp 49) rfl A6 ?_
 intro V7 A7
 clear A6
 refine stF 13 (.pointer (some ⟨X,8,none⟩)) rfl A7.out.src ?_
 refine stD 14 8 (.int .i64 (d.n:Int)) 3 (.tmp 55) (.tmp 52) rfl A7 ?_
 intro V8 A8
 clear A7
 refine bJ ⟨List.toArray (Value.agg (drv d)::Value.pointer (some ⟨b,0,none⟩)::Value.pointer (some ⟨r,0,none⟩)::Value.pointer (some ⟨X,0,none⟩)::Value.pointer (some ⟨b,1,none⟩)::Value.int .u8 (d.what:Int)::Value.int .u8 ((d.what:Int)%3)::Value.bool false::Value.pointer (some ⟨b,1,none⟩)::Value.int .u8 (d.what:Int)::Value.int .u8 ((d.what:Int)%3)::Value.bool true::Value.agg #[.bool false,.bool false,.bool false,.int .u64 0,.bool true,.bool false,.int .u64 0,.int .u32 0,.int .i64 0,.bool false,.int .u16 0]::Value.pointer (some ⟨X,1,none⟩)::Value.bool false::undef::undef::undef::undef::undef::undef::undef::undef::undef::undef::undef::undef::undef::undef::Value.pointer (some ⟨X,4,none⟩)::Value.bool true::Value.pointer (some ⟨b,3,none⟩)::Value.pointer (some ⟨b,4,none⟩)::Value.bool d.f1::Value.pointer (some ⟨b,3,none⟩)::Value.pointer (some ⟨b,5,none⟩)::Value.bool d.f2::Value.pointer (some ⟨b,2,none⟩)::Value.int .u8 (d.id:Int)::Value.int .u8 ((d.id%2:Nat):Int)::Value.bool d.hs::Value.pointer (some ⟨X,0,none⟩)::Value.pointer (some ⟨X,5,none⟩)::Value.pointer (some ⟨X,9,none⟩)::Value.pointer (some ⟨b,7,none⟩)::Value.int .u64 (d.b:Int)::Value.pointer (some ⟨b,6,none⟩)::Value.int .u64 (d.a:Int)::Value.int .u64 ((d.a / 4294967296:Nat):Int)::Value.int .u32 ((d.a / 4294967296:Nat):Int)::Value.pointer (some ⟨b,8,none⟩)::Value.int .u16 (d.n:Int)::Value.int .i64 (d.n:Int)::Value.pointer (some ⟨X,6,none⟩)::Value.pointer (some ⟨X,7,none⟩)::Value.pointer (some ⟨X,8,none⟩)::undef::undef::undef::undef::undef::undef::undef::undef::undef::undef::undef::undef::undef::[]),[]⟩ (by kernel_rfl) (by kernel_rfl) ?_
 have A8b:=Lh (show Da 30 w V8 d b r X (L11.dsv L11.Ds.zero) #[.bool d.f1,.bool false,.bool false,.int .u64 0,.bool true,.bool d.f2,.int .u64 (d.b:Int),.int .u32 ((d.a / 4294967296:Nat):Int),.int .i64 (d.n:Int),.bool d.hs,.int .u16 0] from A8.out)
 clear A8
 go_upto_region 10 with fail
 rcases Bool.eq_false_or_eq_true d.f2 with hf2 | hf2
 ·skip
  have x5:V8.cell? ⟨X,5,none⟩=some (.bool true):=(A8b.out.new.cell 5).trans ((show _=some (Value.bool d.f2) by kernel_rfl).trans (by rw [hf2]))
  go_upto_region 12 with fail
  clear x5
  rcases Bool.eq_false_or_eq_true d.hs with hhs | hhs
  ·skip
   have x9:V8.cell? ⟨X,9,none⟩=some (.bool true):=(A8b.out.new.cell 9).trans ((show _=some (Value.bool d.hs) by kernel_rfl).trans (by rw [hhs]))
   have c9:=(A8b.out.src.cell 9).trans (y9 d)
   have xk:=(A8b.out.new.cell 10).trans (show _=some (.int .u16 0) by kernel_rfl)
   have fz:=A8b.out.new.frozen 10
   obtain ⟨Y1,hY⟩:∃U,U=V8.setCell ⟨X,10,none⟩ (.int .u16 (d.m:Int)):=⟨_,rfl⟩
   have D1:=Lh (by have:=A8b.out.set 10 (.int .u16 (d.m:Int));rw [←hY] at this;exact this)
   have HY:=Lh hY
   clear hY
   go_upto_region 14 with fail
   rw [←HY.out]
   clear HY xk fz A8b c9 x9
   have e:#[.bool d.f1,.bool false,.bool false,.int .u64 0,.bool true,.bool d.f2,.int .u64 (d.b:Int),.int .u32 ((d.a / 4294967296:Nat):Int),.int .i64 (d.n:Int),.bool d.hs,.int .u16 (d.m:Int)]=L11.dsv d.ds:=by unfold Dr.ds L11.dsv;simp [HAQ.out,HMQ.out,hf2,hhs]
   have HF:=Lh (show Da 30 w Y1 d b r X (L11.dsv L11.Ds.zero) (L11.dsv d.ds) by rw [←e];exact D1.out)
   clear e D1
   go_wp2_with (first
  | (refine wpList_load_row rfl 30 _ rfl X rfl 30 (L11.dsv d.ds) (0,0) _ ?_ Tryz.underlying30 rfl L11.aP ?_;exact HF.out.new)
  | (refine aJ rfl 30 _ _ rfl r rfl 30 (L11.dsv L11.Ds.zero) (L11.dsv d.ds) rfl ?_ rfl L11.aP (by kernel_rfl) ?_;exact HF.out.res;intro W3 g3 n3;have H3:=Lh n3;have B3:=Lh (HF.out.bel.trans (aA g3 HF.out.le.1 HF.out.bel.size));clear g3 n3))
   exact bodyPost_ret (results_cell_row rfl _ _ r 30 (L11.dsv d.ds) (0,0) _ rfl H3.out Tryz.underlying30 rfl L11.aP) rfl ⟨rfl,B3.out⟩
  ·skip
   have x9:V8.cell? ⟨X,9,none⟩=some (.bool false):=(A8b.out.new.cell 9).trans ((show _=some (Value.bool d.hs) by kernel_rfl).trans (by rw [hhs]))
   go_upto_region 14 with fail
   clear x9
   have e:#[.bool d.f1,.bool false,.bool false,.int .u64 0,.bool true,.bool d.f2,.int .u64 (d.b:Int),.int .u32 ((d.a / 4294967296:Nat):Int),.int .i64 (d.n:Int),.bool d.hs,.int .u16 0]=L11.dsv d.ds:=by unfold Dr.ds L11.dsv;simp [HAQ.out,HMQ.out,hf2,hhs]
   have HF:=Lh (show Da 30 w V8 d b r X (L11.dsv L11.Ds.zero) (L11.dsv d.ds) by rw [←e];exact A8b.out)
   clear e A8b
   go_wp2_with (first
  | (refine wpList_load_row rfl 30 _ rfl X rfl 30 (L11.dsv d.ds) (0,0) _ ?_ Tryz.underlying30 rfl L11.aP ?_;exact HF.out.new)
  | (refine aJ rfl 30 _ _ rfl r rfl 30 (L11.dsv L11.Ds.zero) (L11.dsv d.ds) rfl ?_ rfl L11.aP (by kernel_rfl) ?_;exact HF.out.res;intro W3 g3 n3;have H3:=Lh n3;have B3:=Lh (HF.out.bel.trans (aA g3 HF.out.le.1 HF.out.bel.size));clear g3 n3))
   exact bodyPost_ret (results_cell_row rfl _ _ r 30 (L11.dsv d.ds) (0,0) _ rfl H3.out Tryz.underlying30 rfl L11.aP) rfl ⟨rfl,B3.out⟩
 ·skip
  have x5:V8.cell? ⟨X,5,none⟩=some (.bool false):=(A8b.out.new.cell 5).trans ((show _=some (Value.bool d.f2) by kernel_rfl).trans (by rw [hf2]))
  have c7:=(A8b.out.src.cell 7).trans (uM d)
  have xk:=(A8b.out.new.cell 6).trans (show _=some (.int .u64 (d.b:Int)) by kernel_rfl)
  have fz:=A8b.out.new.frozen 6
  obtain ⟨Y1,hY⟩:∃U,U=V8.setCell ⟨X,6,none⟩ (.int .u64 ((d.b:Int)%4294967296)):=⟨_,rfl⟩
  have D1:=Lh (by have:=A8b.out.set 6 (.int .u64 ((d.b:Int)%4294967296));rw [←hY] at this;exact this)
  have HY:=Lh hY
  clear hY
  go_upto_region 12 with fail
  rw [←HY.out]
  clear HY xk fz A8b c7 x5
  rcases Bool.eq_false_or_eq_true d.hs with hhs | hhs
  ·skip
   have x9:Y1.cell? ⟨X,9,none⟩=some (.bool true):=(D1.out.new.cell 9).trans ((show _=some (Value.bool d.hs) by kernel_rfl).trans (by rw [hhs]))
   have c9:=(D1.out.src.cell 9).trans (y9 d)
   have xk:=(D1.out.new.cell 10).trans (show _=some (.int .u16 0) by kernel_rfl)
   have fz:=D1.out.new.frozen 10
   obtain ⟨Y2,hY⟩:∃U,U=Y1.setCell ⟨X,10,none⟩ (.int .u16 (d.m:Int)):=⟨_,rfl⟩
   have D2:=Lh (by have:=D1.out.set 10 (.int .u16 (d.m:Int));rw [←hY] at this;exact this)
   have HY:=Lh hY
   clear hY
   go_upto_region 14 with fail
   rw [←HY.out]
   clear HY xk fz D1 c9 x9
   have e:#[.bool d.f1,.bool false,.bool false,.int .u64 0,.bool true,.bool d.f2,.int .u64 ((d.b:Int)%4294967296),.int .u32 ((d.a / 4294967296:Nat):Int),.int .i64 (d.n:Int),.bool d.hs,.int .u16 (d.m:Int)]=L11.dsv d.ds:=by unfold Dr.ds L11.dsv;simp [HAQ.out,HMQ.out,hf2,hhs]
   have HF:=Lh (show Da 30 w Y2 d b r X (L11.dsv L11.Ds.zero) (L11.dsv d.ds) by rw [←e];exact D2.out)
   clear e D2
   go_wp2_with (first
  | (refine wpList_load_row rfl 30 _ rfl X rfl 30 (L11.dsv d.ds) (0,0) _ ?_ Tryz.underlying30 rfl L11.aP ?_;exact HF.out.new)
  | (refine aJ rfl 30 _ _ rfl r rfl 30 (L11.dsv L11.Ds.zero) (L11.dsv d.ds) rfl ?_ rfl L11.aP (by kernel_rfl) ?_;exact HF.out.res;intro W3 g3 n3;have H3:=Lh n3;have B3:=Lh (HF.out.bel.trans (aA g3 HF.out.le.1 HF.out.bel.size));clear g3 n3))
   exact bodyPost_ret (results_cell_row rfl _ _ r 30 (L11.dsv d.ds) (0,0) _ rfl H3.out Tryz.underlying30 rfl L11.aP) rfl ⟨rfl,B3.out⟩
  ·skip
   have x9:Y1.cell? ⟨X,9,none⟩=some (.bool false):=(D1.out.new.cell 9).trans ((show _=some (Value.bool d.hs) by kernel_rfl).trans (by rw [hhs]))
   go_upto_region 14 with fail
   clear x9
   have e:#[.bool d.f1,.bool false,.bool false,.int .u64 0,.bool true,.bool d.f2,.int .u64 ((d.b:Int)%4294967296),.int .u32 ((d.a / 4294967296:Nat):Int),.int .i64 (d.n:Int),.bool d.hs,.int .u16 0]=L11.dsv d.ds:=by unfold Dr.ds L11.dsv;simp [HAQ.out,HMQ.out,hf2,hhs]
   have HF:=Lh (show Da 30 w Y1 d b r X (L11.dsv L11.Ds.zero) (L11.dsv d.ds) by rw [←e];exact D1.out)
   clear e D1
   go_wp2_with (first
  | (refine wpList_load_row rfl 30 _ rfl X rfl 30 (L11.dsv d.ds) (0,0) _ ?_ Tryz.underlying30 rfl L11.aP ?_;exact HF.out.new)
  | (refine aJ rfl 30 _ _ rfl r rfl 30 (L11.dsv L11.Ds.zero) (L11.dsv d.ds) rfl ?_ rfl L11.aP (by kernel_rfl) ?_;exact HF.out.res;intro W3 g3 n3;have H3:=Lh n3;have B3:=Lh (HF.out.bel.trans (aA g3 HF.out.le.1 HF.out.bel.size));clear g3 n3))
   exact bodyPost_ret (results_cell_row rfl _ _ r 30 (L11.dsv d.ds) (0,0) _ rfl H3.out Tryz.underlying30 rfl L11.aP) rfl ⟨rfl,B3.out⟩
theorem dss_2 (d:Dr) (hd:d.Ok) (hf:d.what%3=2) (w:World):Calls Tryz.prog 31 #[.agg (drv d)] w (Rt w (.agg (L11.dsv d.ds))):=by
 obtain ⟨-,l1,l2,l3,l4,l5,l6,l7⟩:=hd
 have hq:(d.what:Int)%3=2:=by omega
 have HAQ:=Lh (show d.ha=true by unfold Dr.ha;simp [hf])
 have HMQ:=Lh (show d.hm=true by unfold Dr.hm;simp [hf])
 have hsb:=Lh (show decide (((d.id%2:Nat):Int)=1)=d.hs from by unfold Dr.hs;exact decide_eq_decide.2 (by omega))
 have hsh:=Lh (show d.a / 4294967296≤4294967295 by omega)
 go_enter Tryz.func31,Tryz.ntmps31
 go_upto_region 1 with (first
  | (refine bD rfl 48 _ rfl (drv d) rfl ?_;intro U0 b hb hU)
  | (refine aQ rfl 30 rfl (L11.dsv L11.Ds.zero) (fun _=>by kernel_rfl) ?_;intro U1 r hr hU1;have H0:=Lh (Db.of hb hU hr hU1);clear hb hU hr hU1))
 have c1:=(H0.out.src.cell 1).trans (sQ d)
 obtain ⟨X,hX⟩:=eqx U1.heap.size
 obtain ⟨W0,hW⟩:∃W,W=U1.alloc (.cells #[.bool false,.bool true,.bool false,.int .u64 0,.bool true,.bool false,.int .u64 0,.int .u32 0,.int .i64 0,.bool false,.int .u16 0] 30):=⟨_,rfl⟩
 have D0:=Lh (H0.out.made hX hW)
 have HX:=Lh hX
 have HW:=Lh hW
 clear hX hW
 go_upto_region 2 with fail
 rw [←HW.out,←HX.out]
 clear HX HW c1
 have x1:=(D0.out.new.cell 1).trans (show _=some (Value.bool true) by kernel_rfl)
 go_upto_region 3 with fail
 clear x1
 rcases Bool.eq_false_or_eq_true d.f0 with hf0 | hf0
 ·skip
  have c3:=(D0.out.src.cell 3).trans (rM d)
  have xk:=(D0.out.new.cell 2).trans (show _=some (.bool false) by kernel_rfl)
  have fz:=D0.out.new.frozen 2
  obtain ⟨Y1,hY⟩:∃U,U=W0.setCell ⟨X,2,none⟩ (.bool true):=⟨_,rfl⟩
  have D1:=Lh (by have:=D0.out.set 2 (.bool true);rw [←hY] at this;exact this)
  have HY:=Lh hY
  clear hY
  go_upto_region 4 with fail
  rw [←HY.out]
  clear HY xk fz D0 c3
  have c6:=(D1.out.src.cell 6).trans (oW d)
  have xk:=(D1.out.new.cell 3).trans (show _=some (.int .u64 0) by kernel_rfl)
  have fz:=D1.out.new.frozen 3
  obtain ⟨Y2,hY⟩:∃U,U=Y1.setCell ⟨X,3,none⟩ (.int .u64 (d.a:Int)):=⟨_,rfl⟩
  have D2:=Lh (by have:=D1.out.set 3 (.int .u64 (d.a:Int));rw [←hY] at this;exact this)
  have HY:=Lh hY
  clear hY
  go_upto_region 5 with fail
  rw [←HY.out]
  clear HY xk fz D1 c6
  have x2:Y2.cell? ⟨X,2,none⟩=some (.bool true):=(D2.out.new.cell 2).trans (by kernel_rfl)
  go_upto_region 7 with fail
  clear x2
  have x4:=(D2.out.new.cell 4).trans (show _=some (Value.bool true) by kernel_rfl)
  go_upto_region 8 with fail
  clear x4
  have A1:=Lh D2.out.drew
  refine iF (fun W=>Blk W b 48 (drv d)) (by kernel_rfl) (n:=16) rfl ?_
  obtain ⟨V1,hV⟩:∃V,V=Y2.drew:=⟨_,rfl⟩
  rw [←hV] at A1 ⊢
  clear hV D2
  refine stF 0 (.pointer (some ⟨b,3,none⟩)) rfl A1.out.src (stF 1 (.pointer (some ⟨b,4,none⟩)) rfl A1.out.src (stG 2 (.bool d.f1) rfl A1.out.src (fun W q=>xLd 4 (.tmp 32) ⟨b,4,none⟩ ((q.cell 4).trans (vY d))) (stF 3 (.pointer (some ⟨b,3,none⟩)) rfl A1.out.src (stF 4 (.pointer (some ⟨b,5,none⟩)) rfl A1.out.src (stG 5 (.bool d.f2) rfl A1.out.src (fun W q=>xLd 4 (.tmp 35) ⟨b,5,none⟩ ((q.cell 5).trans (dr_5 d))) (stF 6 (.pointer (some ⟨b,2,none⟩)) rfl A1.out.src (stG 7 (.int .u8 (d.id:Int)) rfl A1.out.src (fun W q=>xLd 5 (.tmp 37) ⟨b,2,none⟩ ((q.cell 2).trans (tK d))) (stG 8 (.int .u8 ((d.id%2:Nat):Int)) rfl A1.out.src (fun _ _=>qM 5 5 (.tmp 38) (.const (.int .u8 2)) (by kernel_rfl) d.id 2 (d.id%2) (by kernel_rfl) (by kernel_rfl) (by kernel_rfl) (by decide) rfl) (stG 9 (.bool d.hs) rfl A1.out.src (fun _ _=>xEb .u8 5 5 (.tmp 39) (.const (.int .u8 1)) ((d.id%2:Nat):Int) 1 d.hs hsb.out) ?_)))))))))
  refine stF 10 (.pointer (some ⟨X,0,none⟩)) rfl A1.out.src ?_
  refine stD 11 0 (.bool d.f1) 4 (.tmp 41) (.tmp 33) rfl A1 ?_
  intro V2 A2
  clear A1
  refine stF 12 (.pointer (some ⟨X,5,none⟩)) rfl A2.out.src ?_
  refine stD 13 5 (.bool d.f2) 4 (.tmp 42) (.tmp 36) rfl A2 ?_
  intro V3 A3
  clear A2
  refine stF 14 (.pointer (some ⟨X,9,none⟩)) rfl A3.out.src ?_
  refine stD 15 9 (.bool d.hs) 4 (.tmp 43) (.tmp 40) rfl A3 ?_
  intro V4 A4
  clear A3
  refine bJ ⟨List.toArray (Value.agg (drv d)::Value.pointer (some ⟨b,0,none⟩)::Value.pointer (some ⟨r,0,none⟩)::Value.pointer (some ⟨X,0,none⟩)::Value.pointer (some ⟨b,1,none⟩)::Value.int .u8 (d.what:Int)::Value.int .u8 ((d.what:Int)%3)::Value.bool true::Value.pointer (some ⟨b,1,none⟩)::Value.int .u8 (d.what:Int)::Value.int .u8 ((d.what:Int)%3)::Value.bool true::Value.agg #[.bool false,.bool true,.bool false,.int .u64 0,.bool true,.bool false,.int .u64 0,.int .u32 0,.int .i64 0,.bool false,.int .u16 0]::Value.pointer (some ⟨X,1,none⟩)::Value.bool true::Value.pointer (some ⟨b,3,none⟩)::Value.pointer (some ⟨b,3,none⟩)::Value.bool true::Value.pointer (some ⟨X,2,none⟩)::Value.pointer (some ⟨b,6,none⟩)::Value.int .u64 (d.a:Int)::Value.pointer (some ⟨X,3,none⟩)::Value.pointer (some ⟨X,2,none⟩)::Value.bool true::Value.bool false::undef::undef::undef::undef::Value.pointer (some ⟨X,4,none⟩)::Value.bool true::Value.pointer (some ⟨b,3,none⟩)::Value.pointer (some ⟨b,4,none⟩)::Value.bool d.f1::Value.pointer (some ⟨b,3,none⟩)::Value.pointer (some ⟨b,5,none⟩)::Value.bool d.f2::Value.pointer (some ⟨b,2,none⟩)::Value.int .u8 (d.id:Int)::Value.int .u8 ((d.id%2:Nat):Int)::Value.bool d.hs::Value.pointer (some ⟨X,0,none⟩)::Value.pointer (some ⟨X,5,none⟩)::Value.pointer (some ⟨X,9,none⟩)::undef::undef::undef::undef::undef::undef::undef::undef::undef::undef::undef::undef::undef::undef::undef::undef::undef::undef::undef::undef::undef::undef::undef::undef::undef::[]),[]⟩ (by kernel_rfl) (by kernel_rfl) ?_
  have A4b:=Lh (show Da 30 w V4 d b r X (L11.dsv L11.Ds.zero) #[.bool d.f1,.bool true,.bool true,.int .u64 (d.a:Int),.bool true,.bool d.f2,.int .u64 0,.int .u32 0,.int .i64 0,.bool d.hs,.int .u16 0] from A4.out)
  clear A4
  go_upto_region 9 with fail
  have A5:=Lh A4b.out.drew
  refine iF (fun W=>Blk W b 48 (drv d)) (by kernel_rfl) (n:=15) rfl ?_
  obtain ⟨V5,hV⟩:∃V,V=V4.drew:=⟨_,rfl⟩
  rw [←hV] at A5 ⊢
  clear hV A4b
  refine stF 0 (.pointer (some ⟨b,7,none⟩)) rfl A5.out.src (stG 1 (.int .u64 (d.b:Int)) rfl A5.out.src (fun W q=>xLd 22 (.tmp 44) ⟨b,7,none⟩ ((q.cell 7).trans (uM d))) (stF 2 (.pointer (some ⟨b,6,none⟩)) rfl A5.out.src (stG 3 (.int .u64 (d.a:Int)) rfl A5.out.src (fun W q=>xLd 22 (.tmp 46) ⟨b,6,none⟩ ((q.cell 6).trans (oW d))) (stG 4 (.int .u64 ((d.a / 4294967296:Nat):Int)) rfl A5.out.src (fun _ _=>vP 22 _ (.tmp 47) (.const (.int .u64 32)) rfl d.a (by kernel_rfl) (by kernel_rfl)) (stG 5 (.int .u32 ((d.a / 4294967296:Nat):Int)) rfl A5.out.src (fun W _=>aV (v:=.int .u64 ((d.a / 4294967296:Nat):Int)) 22 26 (.tmp 48) (by kernel_rfl) (by kernel_rfl) (yD _ hsh.out W)) (stF 6 (.pointer (some ⟨b,8,none⟩)) rfl A5.out.src (stG 7 (.int .u16 (d.n:Int)) rfl A5.out.src (fun W q=>xLd 23 (.tmp 50) ⟨b,8,none⟩ ((q.cell 8).trans (yE d))) (stG 8 (.int .i64 (d.n:Int)) rfl A5.out.src (fun W _=>aV (v:=.int .u16 (d.n:Int)) 23 3 (.tmp 51) (by kernel_rfl) (by kernel_rfl) (vF d.n l5 W)) (stF 9 (.pointer (some ⟨X,6,none⟩)) rfl A5.out.src ?_)))))))))
  refine stD 10 6 (.int .u64 (d.b:Int)) 22 (.tmp 53) (.tmp 45) rfl A5 ?_
  intro V6 A6
  clear A5
  refine stF 11 (.pointer (some ⟨X,7,none⟩)) rfl A6.out.src ?_
  refine stD 12 7 (.int .u32 ((d.a / 4294967296:Nat):Int)) 26 (.tmp 54) (.tmp 49) rfl A6 ?_
  intro V7 A7
  clear A6
  refine stF 13 (.pointer (some ⟨X,8,none⟩)) rfl A7.out.src ?_
  refine stD 14 8 (.int .i64 (d.n:Int)) 3 (.tmp 55) (.tmp 52) rfl A7 ?_
  intro V8 A8
  clear A7
  refine bJ ⟨List.toArray (Value.agg (drv d)::Value.pointer (some ⟨b,0,none⟩)::Value.pointer (some ⟨r,0,none⟩)::Value.pointer (some ⟨X,0,none⟩)::Value.pointer (some ⟨b,1,none⟩)::Value.int .u8 (d.what:Int)::Value.int .u8 ((d.what:Int)%3)::Value.bool true::Value.pointer (some ⟨b,1,none⟩)::Value.int .u8 (d.what:Int)::Value.int .u8 ((d.what:Int)%3)::Value.bool true::Value.agg #[.bool false,.bool true,.bool false,.int .u64 0,.bool true,.bool false,.int .u64 0,.int .u32 0,.int .i64 0,.bool false,.int .u16 0]::Value.pointer (some ⟨X,1,none⟩)::Value.bool true::Value.pointer (some ⟨b,3,none⟩)::Value.pointer (some ⟨b,3,none⟩)::Value.bool true::Value.pointer (some ⟨X,2,none⟩)::Value.pointer (some ⟨b,6,none⟩)::Value.int .u64 (d.a:Int)::Value.pointer (some ⟨X,3,none⟩)::Value.pointer (some ⟨X,2,none⟩)::Value.bool true::Value.bool false::undef::undef::undef::undef::Value.pointer (some ⟨X,4,none⟩)::Value.bool true::Value.pointer (some ⟨b,3,none⟩)::Value.pointer (some ⟨b,4,none⟩)::Value.bool d.f1::Value.pointer (some ⟨b,3,none⟩)::Value.pointer (some ⟨b,5,none⟩)::Value.bool d.f2::Value.pointer (some ⟨b,2,none⟩)::Value.int .u8 (d.id:Int)::Value.int .u8 ((d.id%2:Nat):Int)::Value.bool d.hs::Value.pointer (some ⟨X,0,none⟩)::Value.pointer (some ⟨X,5,none⟩)::Value.pointer (some ⟨X,9,none⟩)::Value.pointer (some ⟨b,7,none⟩)::Value.int .u64 (d.b:Int)::Value.pointer (some ⟨b,6,none⟩)::Value.int .u64 (d.a:Int)::Value.int .u64 ((d.a / 4294967296:Nat):Int)::Value.int .u32 ((d.a / 4294967296:Nat):Int)::Value.pointer (some ⟨b,8,none⟩)::Value.int .u16 (d.n:Int)::Value.int .i64 (d.n:Int)::Value.pointer (some ⟨X,6,none⟩)::Value.pointer (some ⟨X,7,none⟩)::Value.pointer (some ⟨X,8,none⟩)::undef::undef::undef::undef::undef::undef::undef::undef::undef::undef::undef::undef::undef::[]),[]⟩ (by kernel_rfl) (by kernel_rfl) ?_
  have A8b:=Lh (show Da 30 w V8 d b r X (L11.dsv L11.Ds.zero) #[.bool d.f1,.bool true,.bool true,.int .u64 (d.a:Int),.bool true,.bool d.f2,.int .u64 (d.b:Int),.int .u32 ((d.a / 4294967296:Nat):Int),.int .i64 (d.n:Int),.bool d.hs,.int .u16 0] from A8.out)
  clear A8
  go_upto_region 10 with fail
  rcases Bool.eq_false_or_eq_true d.f2 with hf2 | hf2
  ·skip
   have x5:V8.cell? ⟨X,5,none⟩=some (.bool true):=(A8b.out.new.cell 5).trans ((show _=some (Value.bool d.f2) by kernel_rfl).trans (by rw [hf2]))
   go_upto_region 12 with fail
   clear x5
   rcases Bool.eq_false_or_eq_true d.hs with hhs | hhs
   ·skip
    have x9:V8.cell? ⟨X,9,none⟩=some (.bool true):=(A8b.out.new.cell 9).trans ((show _=some (Value.bool d.hs) by kernel_rfl).trans (by rw [hhs]))
    have c9:=(A8b.out.src.cell 9).trans (y9 d)
    have xk:=(A8b.out.new.cell 10).trans (show _=some (.int .u16 0) by kernel_rfl)
    have fz:=A8b.out.new.frozen 10
    obtain ⟨Y3,hY⟩:∃U,U=V8.setCell ⟨X,10,none⟩ (.int .u16 (d.m:Int)):=⟨_,rfl⟩
    have D3:=Lh (by have:=A8b.out.set 10 (.int .u16 (d.m:Int));rw [←hY] at this;exact this)
    have HY:=Lh hY
    clear hY
    go_upto_region 14 with fail
    rw [←HY.out]
    clear HY xk fz A8b c9 x9
    have e:#[.bool d.f1,.bool true,.bool true,.int .u64 (d.a:Int),.bool true,.bool d.f2,.int .u64 (d.b:Int),.int .u32 ((d.a / 4294967296:Nat):Int),.int .i64 (d.n:Int),.bool d.hs,.int .u16 (d.m:Int)]=L11.dsv d.ds:=by unfold Dr.ds L11.dsv;simp [HAQ.out,HMQ.out,hf0,hf2,hhs]
    have HF:=Lh (show Da 30 w Y3 d b r X (L11.dsv L11.Ds.zero) (L11.dsv d.ds) by rw [←e];exact D3.out)
    clear e D3
    go_wp2_with (first
  | (refine wpList_load_row rfl 30 _ rfl X rfl 30 (L11.dsv d.ds) (0,0) _ ?_ Tryz.underlying30 rfl L11.aP ?_;exact HF.out.new)
  | (refine aJ rfl 30 _ _ rfl r rfl 30 (L11.dsv L11.Ds.zero) (L11.dsv d.ds) rfl ?_ rfl L11.aP (by kernel_rfl) ?_;exact HF.out.res;intro W3 g3 n3;have H3:=Lh n3;have B3:=Lh (HF.out.bel.trans (aA g3 HF.out.le.1 HF.out.bel.size));clear g3 n3))
    exact bodyPost_ret (results_cell_row rfl _ _ r 30 (L11.dsv d.ds) (0,0) _ rfl H3.out Tryz.underlying30 rfl L11.aP) rfl ⟨rfl,B3.out⟩
   ·skip
    have x9:V8.cell? ⟨X,9,none⟩=some (.bool false):=(A8b.out.new.cell 9).trans ((show _=some (Value.bool d.hs) by kernel_rfl).trans (by rw [hhs]))
    go_upto_region 14 with fail
    clear x9
    have e:#[.bool d.f1,.bool true,.bool true,.int .u64 (d.a:Int),.bool true,.bool d.f2,.int .u64 (d.b:Int),.int .u32 ((d.a / 4294967296:Nat):Int),.int .i64 (d.n:Int),.bool d.hs,.int .u16 0]=L11.dsv d.ds:=by unfold Dr.ds L11.dsv;simp [HAQ.out,HMQ.out,hf0,hf2,hhs]
    have HF:=Lh (show Da 30 w V8 d b r X (L11.dsv L11.Ds.zero) (L11.dsv d.ds) by rw [←e];exact A8b.out)
    clear e A8b
    go_wp2_with (first
  | (refine wpList_load_row rfl 30 _ rfl X rfl 30 (L11.dsv d.ds) (0,0) _ ?_ Tryz.underlying30 rfl L11.aP ?_;exact HF.out.new)
  | (refine aJ rfl 30 _ _ rfl r rfl 30 (L11.dsv L11.Ds.zero) (L11.dsv d.ds) rfl ?_ rfl L11.aP (by kernel_rfl) ?_;exact HF.out.res;intro W3 g3 n3;have H3:=Lh n3;have B3:=Lh (HF.out.bel.trans (aA g3 HF.out.le.1 HF.out.bel.size));clear g3 n3))
    exact bodyPost_ret (results_cell_row rfl _ _ r 30 (L11.dsv d.ds) (0,0) _ rfl H3.out Tryz.underlying30 rfl L11.aP) rfl ⟨rfl,B3.out⟩
  ·skip
   have x5:V8.cell? ⟨X,5,none⟩=some (.bool false):=(A8b.out.new.cell 5).trans ((show _=some (Value.bool d.f2) by kernel_rfl).trans (by rw [hf2]))
   have c7:=(A8b.out.src.cell 7).trans (uM d)
   have xk:=(A8b.out.new.cell 6).trans (show _=some (.int .u64 (d.b:Int)) by kernel_rfl)
   have fz:=A8b.out.new.frozen 6
   obtain ⟨Y3,hY⟩:∃U,U=V8.setCell ⟨X,6,none⟩ (.int .u64 ((d.b:Int)%4294967296)):=⟨_,rfl⟩
   have D3:=Lh (by have:=A8b.out.set 6 (.int .u64 ((d.b:Int)%4294967296));rw [←hY] at this;exact this)
   have HY:=Lh hY
   clear hY
   go_upto_region 12 with fail
   rw [←HY.out]
   clear HY xk fz A8b c7 x5
   rcases Bool.eq_false_or_eq_true d.hs with hhs | hhs
   ·skip
    have x9:Y3.cell? ⟨X,9,none⟩=some (.bool true):=(D3.out.new.cell 9).trans ((show _=some (Value.bool d.hs) by kernel_rfl).trans (by rw [hhs]))
    have c9:=(D3.out.src.cell 9).trans (y9 d)
    have xk:=(D3.out.new.cell 10).trans (show _=some (.int .u16 0) by kernel_rfl)
    have fz:=D3.out.new.frozen 10
    obtain ⟨Y4,hY⟩:∃U,U=Y3.setCell ⟨X,10,none⟩ (.int .u16 (d.m:Int)):=⟨_,rfl⟩
    have D4:=Lh (by have:=D3.out.set 10 (.int .u16 (d.m:Int));rw [←hY] at this;exact this)
    have HY:=Lh hY
    clear hY
    go_upto_region 14 with fail
    rw [←HY.out]
    clear HY xk fz D3 c9 x9
    have e:#[.bool d.f1,.bool true,.bool true,.int .u64 (d.a:Int),.bool true,.bool d.f2,.int .u64 ((d.b:Int)%4294967296),.int .u32 ((d.a / 4294967296:Nat):Int),.int .i64 (d.n:Int),.bool d.hs,.int .u16 (d.m:Int)]=L11.dsv d.ds:=by unfold Dr.ds L11.dsv;simp [HAQ.out,HMQ.out,hf0,hf2,hhs]
    have HF:=Lh (show Da 30 w Y4 d b r X (L11.dsv L11.Ds.zero) (L11.dsv d.ds) by rw [←e];exact D4.out)
    clear e D4
    go_wp2_with (first
  | (refine wpList_load_row rfl 30 _ rfl X rfl 30 (L11.dsv d.ds) (0,0) _ ?_ Tryz.underlying30 rfl L11.aP ?_;exact HF.out.new)
  | (refine aJ rfl 30 _ _ rfl r rfl 30 (L11.dsv L11.Ds.zero) (L11.dsv d.ds) rfl ?_ rfl L11.aP (by kernel_rfl) ?_;exact HF.out.res;intro W3 g3 n3;have H3:=Lh n3;have B3:=Lh (HF.out.bel.trans (aA g3 HF.out.le.1 HF.out.bel.size));clear g3 n3))
    exact bodyPost_ret (results_cell_row rfl _ _ r 30 (L11.dsv d.ds) (0,0) _ rfl H3.out Tryz.underlying30 rfl L11.aP) rfl ⟨rfl,B3.out⟩
   ·skip
    have x9:Y3.cell? ⟨X,9,none⟩=some (.bool false):=(D3.out.new.cell 9).trans ((show _=some (Value.bool d.hs) by kernel_rfl).trans (by rw [hhs]))
    go_upto_region 14 with fail
    clear x9
    have e:#[.bool d.f1,.bool true,.bool true,.int .u64 (d.a:Int),.bool true,.bool d.f2,.int .u64 ((d.b:Int)%4294967296),.int .u32 ((d.a / 4294967296:Nat):Int),.int .i64 (d.n:Int),.bool d.hs,.int .u16 0]=L11.dsv d.ds:=by unfold Dr.ds L11.dsv;simp [HAQ.out,HMQ.out,hf0,hf2,hhs]
    have HF:=Lh (show Da 30 w Y3 d b r X (L11.dsv L11.Ds.zero) (L11.dsv d.ds) by rw [←e];exact D3.out)
    clear e D3
    go_wp2_with (first
  | (refine wpList_load_row rfl 30 _ rfl X rfl 30 (L11.dsv d.ds) (0,0) _ ?_ Tryz.underlying30 rfl L11.aP ?_;exact HF.out.new)
  | (refine aJ rfl 30 _ _ rfl r rfl 30 (L11.dsv L11.Ds.zero) (L11.dsv d.ds) rfl ?_ rfl L11.aP (by kernel_rfl) ?_;exact HF.out.res;intro W3 g3 n3;have H3:=Lh n3;have B3:=Lh (HF.out.bel.trans (aA g3 HF.out.le.1 HF.out.bel.size));clear g3 n3))
    exact bodyPost_ret (results_cell_row rfl _ _ r 30 (L11.dsv d.ds) (0,0) _ rfl H3.out Tryz.underlying30 rfl L11.aP) rfl ⟨rfl,B3.out⟩
 ·skip
  have c3:=(D0.out.src.cell 3).trans (rM d)
  have xk:=(D0.out.new.cell 2).trans (show _=some (.bool false) by kernel_rfl)
  have fz:=D0.out.new.frozen 2
  obtain ⟨Y1,hY⟩:∃U,U=W0.setCell ⟨X,2,none⟩ (.bool false):=⟨_,rfl⟩
  have D1:=Lh (by have:=D0.out.set 2 (.bool false);rw [←hY] at this;exact this)
  have HY:=Lh hY
  clear hY
  go_upto_region 4 with fail
  rw [←HY.out]
  clear HY xk fz D0 c3
  have c6:=(D1.out.src.cell 6).trans (oW d)
  have xk:=(D1.out.new.cell 3).trans (show _=some (.int .u64 0) by kernel_rfl)
  have fz:=D1.out.new.frozen 3
  obtain ⟨Y2,hY⟩:∃U,U=Y1.setCell ⟨X,3,none⟩ (.int .u64 (d.a:Int)):=⟨_,rfl⟩
  have D2:=Lh (by have:=D1.out.set 3 (.int .u64 (d.a:Int));rw [←hY] at this;exact this)
  have HY:=Lh hY
  clear hY
  go_upto_region 5 with fail
  rw [←HY.out]
  clear HY xk fz D1 c6
  have x2:Y2.cell? ⟨X,2,none⟩=some (.bool false):=(D2.out.new.cell 2).trans (by kernel_rfl)
  have c6:=(D2.out.src.cell 6).trans (oW d)
  have xk:=(D2.out.new.cell 3).trans (show _=some (.int .u64 (d.a:Int)) by kernel_rfl)
  have fz:=D2.out.new.frozen 3
  obtain ⟨Y3,hY⟩:∃U,U=Y2.setCell ⟨X,3,none⟩ (.int .u64 ((d.a:Int)%4294967296)):=⟨_,rfl⟩
  have D3:=Lh (by have:=D2.out.set 3 (.int .u64 ((d.a:Int)%4294967296));rw [←hY] at this;exact this)
  have HY:=Lh hY
  clear hY
  go_upto_region 7 with fail
  rw [←HY.out]
  clear HY xk fz D2 c6 x2
  have x4:=(D3.out.new.cell 4).trans (show _=some (Value.bool true) by kernel_rfl)
  go_upto_region 8 with fail
  clear x4
  have A1:=Lh D3.out.drew
  refine iF (fun W=>Blk W b 48 (drv d)) (by kernel_rfl) (n:=16) rfl ?_
  obtain ⟨V1,hV⟩:∃V,V=Y3.drew:=⟨_,rfl⟩
  rw [←hV] at A1 ⊢
  clear hV D3
  refine stF 0 (.pointer (some ⟨b,3,none⟩)) rfl A1.out.src (stF 1 (.pointer (some ⟨b,4,none⟩)) rfl A1.out.src (stG 2 (.bool d.f1) rfl A1.out.src (fun W q=>xLd 4 (.tmp 32) ⟨b,4,none⟩ ((q.cell 4).trans (vY d))) (stF 3 (.pointer (some ⟨b,3,none⟩)) rfl A1.out.src (stF 4 (.pointer (some ⟨b,5,none⟩)) rfl A1.out.src (stG 5 (.bool d.f2) rfl A1.out.src (fun W q=>xLd 4 (.tmp 35) ⟨b,5,none⟩ ((q.cell 5).trans (dr_5 d))) (stF 6 (.pointer (some ⟨b,2,none⟩)) rfl A1.out.src (stG 7 (.int .u8 (d.id:Int)) rfl A1.out.src (fun W q=>xLd 5 (.tmp 37) ⟨b,2,none⟩ ((q.cell 2).trans (tK d))) (stG 8 (.int .u8 ((d.id%2:Nat):Int)) rfl A1.out.src (fun _ _=>qM 5 5 (.tmp 38) (.const (.int .u8 2)) (by kernel_rfl) d.id 2 (d.id%2) (by kernel_rfl) (by kernel_rfl) (by kernel_rfl) (by decide) rfl) (stG 9 (.bool d.hs) rfl A1.out.src (fun _ _=>xEb .u8 5 5 (.tmp 39) (.const (.int .u8 1)) ((d.id%2:Nat):Int) 1 d.hs hsb.out) ?_)))))))))
  refine stF 10 (.pointer (some ⟨X,0,none⟩)) rfl A1.out.src ?_
  refine stD 11 0 (.bool d.f1) 4 (.tmp 41) (.tmp 33) rfl A1 ?_
  intro V2 A2
  clear A1
  refine stF 12 (.pointer (some ⟨X,5,none⟩)) rfl A2.out.src ?_
  refine stD 13 5 (.bool d.f2) 4 (.tmp 42) (.tmp 36) rfl A2 ?_
  intro V3 A3
  clear A2
  refine stF 14 (.pointer (some ⟨X,9,none⟩)) rfl A3.out.src ?_
  refine stD 15 9 (.bool d.hs) 4 (.tmp 43) (.tmp 40) rfl A3 ?_
  intro V4 A4
  clear A3
  refine bJ ⟨List.toArray (Value.agg (drv d)::Value.pointer (some ⟨b,0,none⟩)::Value.pointer (some ⟨r,0,none⟩)::Value.pointer (some ⟨X,0,none⟩)::Value.pointer (some ⟨b,1,none⟩)::Value.int .u8 (d.what:Int)::Value.int .u8 ((d.what:Int)%3)::Value.bool true::Value.pointer (some ⟨b,1,none⟩)::Value.int .u8 (d.what:Int)::Value.int .u8 ((d.what:Int)%3)::Value.bool true::Value.agg #[.bool false,.bool true,.bool false,.int .u64 0,.bool true,.bool false,.int .u64 0,.int .u32 0,.int .i64 0,.bool false,.int .u16 0]::Value.pointer (some ⟨X,1,none⟩)::Value.bool true::Value.pointer (some ⟨b,3,none⟩)::Value.pointer (some ⟨b,3,none⟩)::Value.bool false::Value.pointer (some ⟨X,2,none⟩)::Value.pointer (some ⟨b,6,none⟩)::Value.int .u64 (d.a:Int)::Value.pointer (some ⟨X,3,none⟩)::Value.pointer (some ⟨X,2,none⟩)::Value.bool false::Value.bool true::Value.pointer (some ⟨b,6,none⟩)::Value.int .u64 (d.a:Int)::Value.int .u64 ((d.a:Int)%4294967296)::Value.pointer (some ⟨X,3,none⟩)::Value.pointer (some ⟨X,4,none⟩)::Value.bool true::Value.pointer (some ⟨b,3,none⟩)::Value.pointer (some ⟨b,4,none⟩)::Value.bool d.f1::Value.pointer (some ⟨b,3,none⟩)::Value.pointer (some ⟨b,5,none⟩)::Value.bool d.f2::Value.pointer (some ⟨b,2,none⟩)::Value.int .u8 (d.id:Int)::Value.int .u8 ((d.id%2:Nat):Int)::Value.bool d.hs::Value.pointer (some ⟨X,0,none⟩)::Value.pointer (some ⟨X,5,none⟩)::Value.pointer (some ⟨X,9,none⟩)::undef::undef::undef::undef::undef::undef::undef::undef::undef::undef::undef::undef::undef::undef::undef::undef::undef::undef::undef::undef::undef::undef::undef::undef::undef::[]),[]⟩ (by kernel_rfl) (by kernel_rfl) ?_
  have A4b:=Lh (show Da 30 w V4 d b r X (L11.dsv L11.Ds.zero) #[.bool d.f1,.bool true,.bool false,.int .u64 ((d.a:Int)%4294967296),.bool true,.bool d.f2,.int .u64 0,.int .u32 0,.int .i64 0,.bool d.hs,.int .u16 0] from A4.out)
  clear A4
  go_upto_region 9 with fail
  have A5:=Lh A4b.out.drew
  refine iF (fun W=>Blk W b 48 (drv d)) (by kernel_rfl) (n:=15) rfl ?_
  obtain ⟨V5,hV⟩:∃V,V=V4.drew:=⟨_,rfl⟩
  rw [←hV] at A5 ⊢
  clear hV A4b
  refine stF 0 (.pointer (some ⟨b,7,none⟩)) rfl A5.out.src (stG 1 (.int .u64 (d.b:Int)) rfl A5.out.src (fun W q=>xLd 22 (.tmp 44) ⟨b,7,none⟩ ((q.cell 7).trans (uM d))) (stF 2 (.pointer (some ⟨b,6,none⟩)) rfl A5.out.src (stG 3 (.int .u64 (d.a:Int)) rfl A5.out.src (fun W q=>xLd 22 (.tmp 46) ⟨b,6,none⟩ ((q.cell 6).trans (oW d))) (stG 4 (.int .u64 ((d.a / 4294967296:Nat):Int)) rfl A5.out.src (fun _ _=>vP 22 _ (.tmp 47) (.const (.int .u64 32)) rfl d.a (by kernel_rfl) (by kernel_rfl)) (stG 5 (.int .u32 ((d.a / 4294967296:Nat):Int)) rfl A5.out.src (fun W _=>aV (v:=.int .u64 ((d.a / 4294967296:Nat):Int)) 22 26 (.tmp 48) (by kernel_rfl) (by kernel_rfl) (yD _ hsh.out W)) (stF 6 (.pointer (some ⟨b,8,none⟩)) rfl A5.out.src (stG 7 (.int .u16 (d.n:Int)) rfl A5.out.src (fun W q=>xLd 23 (.tmp 50) ⟨b,8,none⟩ ((q.cell 8).trans (yE d))) (stG 8 (.int .i64 (d.n:Int)) rfl A5.out.src (fun W _=>aV (v:=.int .u16 (d.n:Int)) 23 3 (.tmp 51) (by kernel_rfl) (by kernel_rfl) (vF d.n l5 W)) (stF 9 (.pointer (some ⟨X,6,none⟩)) rfl A5.out.src ?_)))))))))
  refine stD 10 6 (.int .u64 (d.b:Int)) 22 (.tmp 53) (.tmp 45) rfl A5 ?_
  intro V6 A6
  clear A5
  refine stF 11 (.pointer (some ⟨X,7,none⟩)) rfl A6.out.src ?_
  refine stD 12 7 (.int .u32 ((d.a / 4294967296:Nat):Int)) 26 (.tmp 54) (.tmp 49) rfl A6 ?_
  intro V7 A7
  clear A6
  refine stF 13 (.pointer (some ⟨X,8,none⟩)) rfl A7.out.src ?_
  refine stD 14 8 (.int .i64 (d.n:Int)) 3 (.tmp 55) (.tmp 52) rfl A7 ?_
  intro V8 A8
  clear A7
  refine bJ ⟨List.toArray (Value.agg (drv d)::Value.pointer (some ⟨b,0,none⟩)::Value.pointer (some ⟨r,0,none⟩)::Value.pointer (some ⟨X,0,none⟩)::Value.pointer (some ⟨b,1,none⟩)::Value.int .u8 (d.what:Int)::Value.int .u8 ((d.what:Int)%3)::Value.bool true::Value.pointer (some ⟨b,1,none⟩)::Value.int .u8 (d.what:Int)::Value.int .u8 ((d.what:Int)%3)::Value.bool true::Value.agg #[.bool false,.bool true,.bool false,.int .u64 0,.bool true,.bool false,.int .u64 0,.int .u32 0,.int .i64 0,.bool false,.int .u16 0]::Value.pointer (some ⟨X,1,none⟩)::Value.bool true::Value.pointer (some ⟨b,3,none⟩)::Value.pointer (some ⟨b,3,none⟩)::Value.bool false::Value.pointer (some ⟨X,2,none⟩)::Value.pointer (some ⟨b,6,none⟩)::Value.int .u64 (d.a:Int)::Value.pointer (some ⟨X,3,none⟩)::Value.pointer (some ⟨X,2,none⟩)::Value.bool false::Value.bool true::Value.pointer (some ⟨b,6,none⟩)::Value.int .u64 (d.a:Int)::Value.int .u64 ((d.a:Int)%4294967296)::Value.pointer (some ⟨X,3,none⟩)::Value.pointer (some ⟨X,4,none⟩)::Value.bool true::Value.pointer (some ⟨b,3,none⟩)::Value.pointer (some ⟨b,4,none⟩)::Value.bool d.f1::Value.pointer (some ⟨b,3,none⟩)::Value.pointer (some ⟨b,5,none⟩)::Value.bool d.f2::Value.pointer (some ⟨b,2,none⟩)::Value.int .u8 (d.id:Int)::Value.int .u8 ((d.id%2:Nat):Int)::Value.bool d.hs::Value.pointer (some ⟨X,0,none⟩)::Value.pointer (some ⟨X,5,none⟩)::Value.pointer (some ⟨X,9,none⟩)::Value.pointer (some ⟨b,7,none⟩)::Value.int .u64 (d.b:Int)::Value.pointer (some ⟨b,6,none⟩)::Value.int .u64 (d.a:Int)::Value.int .u64 ((d.a / 4294967296:Nat):Int)::Value.int .u32 ((d.a / 4294967296:Nat):Int)::Value.pointer (some ⟨b,8,none⟩)::Value.int .u16 (d.n:Int)::Value.int .i64 (d.n:Int)::Value.pointer (some ⟨X,6,none⟩)::Value.pointer (some ⟨X,7,none⟩)::Value.pointer (some ⟨X,8,none⟩)::undef::undef::undef::undef::undef::undef::undef::undef::undef::undef::undef::undef::undef::[]),[]⟩ (by kernel_rfl) (by kernel_rfl) ?_
  have A8b:=Lh (show Da 30 w V8 d b r X (L11.dsv L11.Ds.zero) #[.bool d.f1,.bool true,.bool false,.int .u64 ((d.a:Int)%4294967296),.bool true,.bool d.f2,.int .u64 (d.b:Int),.int .u32 ((d.a / 4294967296:Nat):Int),.int .i64 (d.n:Int),.bool d.hs,.int .u16 0] from A8.out)
  clear A8
  go_upto_region 10 with fail
  rcases Bool.eq_false_or_eq_true d.f2 with hf2 | hf2
  ·skip
   have x5:V8.cell? ⟨X,5,none⟩=some (.bool true):=(A8b.out.new.cell 5).trans ((show _=some (Value.bool d.f2) by kernel_rfl).trans (by rw [hf2]))
   go_upto_region 12 with fail
   clear x5
   rcases Bool.eq_false_or_eq_true d.hs with hhs | hhs
   ·skip
    have x9:V8.cell? ⟨X,9,none⟩=some (.bool true):=(A8b.out.new.cell 9).trans ((show _=some (Value.bool d.hs) by kernel_rfl).trans (by rw [hhs]))
    have c9:=(A8b.out.src.cell 9).trans (y9 d)
    have xk:=(A8b.out.new.cell 10).trans (show _=some (.int .u16 0) by kernel_rfl)
    have fz:=A8b.out.new.frozen 10
    obtain ⟨Y4,hY⟩:∃U,U=V8.setCell ⟨X,10,none⟩ (.int .u16 (d.m:Int)):=⟨_,rfl⟩
    have D4:=Lh (by have:=A8b.out.set 10 (.int .u16 (d.m:Int));rw [←hY] at this;exact this)
    have HY:=Lh hY
    clear hY
    go_upto_region 14 with fail
    rw [←HY.out]
    clear HY xk fz A8b c9 x9
    have e:#[.bool d.f1,.bool true,.bool false,.int .u64 ((d.a:Int)%4294967296),.bool true,.bool d.f2,.int .u64 (d.b:Int),.int .u32 ((d.a / 4294967296:Nat):Int),.int .i64 (d.n:Int),.bool d.hs,.int .u16 (d.m:Int)]=L11.dsv d.ds:=by unfold Dr.ds L11.dsv;simp [HAQ.out,HMQ.out,hf0,hf2,hhs]
    have HF:=Lh (show Da 30 w Y4 d b r X (L11.dsv L11.Ds.zero) (L11.dsv d.ds) by rw [←e];exact D4.out)
    clear e D4
    go_wp2_with (first
  | (refine wpList_load_row rfl 30 _ rfl X rfl 30 (L11.dsv d.ds) (0,0) _ ?_ Tryz.underlying30 rfl L11.aP ?_;exact HF.out.new)
  | (refine aJ rfl 30 _ _ rfl r rfl 30 (L11.dsv L11.Ds.zero) (L11.dsv d.ds) rfl ?_ rfl L11.aP (by kernel_rfl) ?_;exact HF.out.res;intro W3 g3 n3;have H3:=Lh n3;have B3:=Lh (HF.out.bel.trans (aA g3 HF.out.le.1 HF.out.bel.size));clear g3 n3))
    exact bodyPost_ret (results_cell_row rfl _ _ r 30 (L11.dsv d.ds) (0,0) _ rfl H3.out Tryz.underlying30 rfl L11.aP) rfl ⟨rfl,B3.out⟩
   ·skip
    have x9:V8.cell? ⟨X,9,none⟩=some (.bool false):=(A8b.out.new.cell 9).trans ((show _=some (Value.bool d.hs) by kernel_rfl).trans (by rw [hhs]))
    go_upto_region 14 with fail
    clear x9
    have e:#[.bool d.f1,.bool true,.bool false,.int .u64 ((d.a:Int)%4294967296),.bool true,.bool d.f2,.int .u64 (d.b:Int),.int .u32 ((d.a / 4294967296:Nat):Int),.int .i64 (d.n:Int),.bool d.hs,.int .u16 0]=L11.dsv d.ds:=by unfold Dr.ds L11.dsv;simp [HAQ.out,HMQ.out,hf0,hf2,hhs]
    have HF:=Lh (show Da 30 w V8 d b r X (L11.dsv L11.Ds.zero) (L11.dsv d.ds) by rw [←e];exact A8b.out)
    clear e A8b
    go_wp2_with (first
  | (refine wpList_load_row rfl 30 _ rfl X rfl 30 (L11.dsv d.ds) (0,0) _ ?_ Tryz.underlying30 rfl L11.aP ?_;exact HF.out.new)
  | (refine aJ rfl 30 _ _ rfl r rfl 30 (L11.dsv L11.Ds.zero) (L11.dsv d.ds) rfl ?_ rfl L11.aP (by kernel_rfl) ?_;exact HF.out.res;intro W3 g3 n3;have H3:=Lh n3;have B3:=Lh (HF.out.bel.trans (aA g3 HF.out.le.1 HF.out.bel.size));clear g3 n3))
    exact bodyPost_ret (results_cell_row rfl _ _ r 30 (L11.dsv d.ds) (0,0) _ rfl H3.out Tryz.underlying30 rfl L11.aP) rfl ⟨rfl,B3.out⟩
  ·skip
   have x5:V8.cell? ⟨X,5,none⟩=some (.bool false):=(A8b.out.new.cell 5).trans ((show _=some (Value.bool d.f2) by kernel_rfl).trans (by rw [hf2]))
   have c7:=(A8b.out.src.cell 7).trans (uM d)
   have xk:=(A8b.out.new.cell 6).trans (show _=some (.int .u64 (d.b:Int)) by kernel_rfl)
   have fz:=A8b.out.new.frozen 6
   obtain ⟨Y4,hY⟩:∃U,U=V8.setCell ⟨X,6,none⟩ (.int .u64 ((d.b:Int)%4294967296)):=⟨_,rfl⟩
   have D4:=Lh (by have:=A8b.out.set 6 (.int .u64 ((d.b:Int)%4294967296));rw [←hY] at this;exact this)
   have HY:=Lh hY
   clear hY
   go_upto_region 12 with fail
   rw [←HY.out]
   clear HY xk fz A8b c7 x5
   rcases Bool.eq_false_or_eq_true d.hs with hhs | hhs
   ·skip
    have x9:Y4.cell? ⟨X,9,none⟩=some (.bool true):=(D4.out.new.cell 9).trans ((show _=some (Value.bool d.hs) by kernel_rfl).trans (by rw [hhs]))
    have c9:=(D4.out.src.cell 9).trans (y9 d)
    have xk:=(D4.out.new.cell 10).trans (show _=some (.int .u16 0) by kernel_rfl)
    have fz:=D4.out.new.frozen 10
    obtain ⟨Y5,hY⟩:∃U,U=Y4.setCell ⟨X,10,none⟩ (.int .u16 (d.m:Int)):=⟨_,rfl⟩
    have D5:=Lh (by have:=D4.out.set 10 (.int .u16 (d.m:Int));rw [←hY] at this;exact this)
    have HY:=Lh hY
    clear hY
    go_upto_region 14 with fail
    rw [←HY.out]
    clear HY xk fz D4 c9 x9
    have e:#[.bool d.f1,.bool true,.bool false,.int .u64 ((d.a:Int)%4294967296),.bool true,.bool d.f2,.int .u64 ((d.b:Int)%4294967296),.int .u32 ((d.a / 4294967296:Nat):Int),.int .i64 (d.n:Int),.bool d.hs,.int .u16 (d.m:Int)]=L11.dsv d.ds:=by unfold Dr.ds L11.dsv;simp [HAQ.out,HMQ.out,hf0,hf2,hhs]
    have HF:=Lh (show Da 30 w Y5 d b r X (L11.dsv L11.Ds.zero) (L11.dsv d.ds) by rw [←e];exact D5.out)
    clear e D5
    go_wp2_with (first
  | (refine wpList_load_row rfl 30 _ rfl X rfl 30 (L11.dsv d.ds) (0,0) _ ?_ Tryz.underlying30 rfl L11.aP ?_;exact HF.out.new)
  | (refine aJ rfl 30 _ _ rfl r rfl 30 (L11.dsv L11.Ds.zero) (L11.dsv d.ds) rfl ?_ rfl L11.aP (by kernel_rfl) ?_;exact HF.out.res;intro W3 g3 n3;have H3:=Lh n3;have B3:=Lh (HF.out.bel.trans (aA g3 HF.out.le.1 HF.out.bel.size));clear g3 n3))
    exact bodyPost_ret (results_cell_row rfl _ _ r 30 (L11.dsv d.ds) (0,0) _ rfl H3.out Tryz.underlying30 rfl L11.aP) rfl ⟨rfl,B3.out⟩
   ·skip
    have x9:Y4.cell? ⟨X,9,none⟩=some (.bool false):=(D4.out.new.cell 9).trans ((show _=some (Value.bool d.hs) by kernel_rfl).trans (by rw [hhs]))
    go_upto_region 14 with fail
    clear x9
    have e:#[.bool d.f1,.bool true,.bool false,.int .u64 ((d.a:Int)%4294967296),.bool true,.bool d.f2,.int .u64 ((d.b:Int)%4294967296),.int .u32 ((d.a / 4294967296:Nat):Int),.int .i64 (d.n:Int),.bool d.hs,.int .u16 0]=L11.dsv d.ds:=by unfold Dr.ds L11.dsv;simp [HAQ.out,HMQ.out,hf0,hf2,hhs]
    have HF:=Lh (show Da 30 w Y4 d b r X (L11.dsv L11.Ds.zero) (L11.dsv d.ds) by rw [←e];exact D4.out)
    clear e D4
    go_wp2_with (first
  | (refine wpList_load_row rfl 30 _ rfl X rfl 30 (L11.dsv d.ds) (0,0) _ ?_ Tryz.underlying30 rfl L11.aP ?_;exact HF.out.new)
  | (refine aJ rfl 30 _ _ rfl r rfl 30 (L11.dsv L11.Ds.zero) (L11.dsv d.ds) rfl ?_ rfl L11.aP (by kernel_rfl) ?_;exact HF.out.res;intro W3 g3 n3;have H3:=Lh n3;have B3:=Lh (HF.out.bel.trans (aA g3 HF.out.le.1 HF.out.bel.size));clear g3 n3))
    exact bodyPost_ret (results_cell_row rfl _ _ r 30 (L11.dsv d.ds) (0,0) _ rfl H3.out Tryz.underlying30 rfl L11.aP) rfl ⟨rfl,B3.out⟩
theorem dss_any (d:Dr) (hd:d.Ok) (w:World):Calls Tryz.prog 31 #[.agg (drv d)] w (Rt w (.agg (L11.dsv d.ds))):=by
 have:d.what%3=0∨d.what%3=1∨d.what%3=2:=by omega
 rcases this with h | h | h
 ·exact dss_0 d hd h w
 ·exact dss_1 d hd h w
 ·exact dss_2 d hd h w
open Go Go.RowKit Go.ChangeAt
theorem qU (d:Dr) (h:d.bs.length=24):(Tryz.prog.info? 48).map (·.size)=some (drv d).size:=by
 rw [show (drv d).size=34 by unfold drv;simp [h]];kernel_rfl
theorem Da.after {T:TypeId} {w W W':World} {d:Dr} {b r X:Nat} {zs cs:Array Value} (h:Da T w W d b r X zs cs) (B:Below W.heap.size W W'):Da T w W' d b r X zs cs:=
 ⟨h.src.below B h.src.lt,h.res.below B h.res.lt,h.new.below B h.new.lt,h.bel.trans (B.mono h.bel.size),h.le,h.ne⟩
theorem add8 {ρ:Operand→Value} {o:Oper} {w:World} (t u:TypeId) (x y:Operand) (ho:o.op= .binOp .add t x y u) (a b:Nat) (hx:ρ x= .int .u8 (a:Int)) (hy:ρ y= .int .u8 (b:Int)) (h:a+b≤255):(execOp ρ o).run Tryz.prog w= .ok (.value (.int .u8 ((a+b:Nat):Int))) w:=by
 unfold execOp
 rw [ho]
 have e:(IntKind.u8).wrap ((a:Int)+(b:Int))=(a:Int)+(b:Int):=by rw [IntKind.wrap_u8];omega
 simp [hx,hy,go_sem,e]
theorem opt_0 (d:Dr) (hd:d.Ok) (hf:d.sub%9=0) (w:World):Calls Tryz.prog 11 #[.agg (drv d)] w (Rt w (.agg (ov (Op.cap_ d.cap)))):=by
 have HD:=Lh hd
 obtain ⟨l0,l1,l2,l3,l4,l5,l6,l7⟩:=hd
 have hq:(d.sub:Int)%9=0:=by omega
 go_enter Tryz.func11,Tryz.ntmps11
 go_upto_region 1 with (first
  | (refine bD rfl 48 _ rfl (drv d) rfl ?_;intro U0 b hb hU)
  | (refine aQ rfl 44 rfl (ov (.none 0)) aI ?_;intro U1 r hr hU1;have H0:=Lh (Db.of hb hU hr hU1);clear hb hU hr hU1))
 have c0:=(H0.out.src.cell 0).trans (xJ d)
 go_upto_region 2 with (first
  | (refine wp_build rfl 44 _ rfl (.agg (ov (.none 0))) (by kernel_rfl) ?_)
  | (refine aQ rfl 44 rfl (ov (.none 0)) aI ?_;intro U2 X hX hU;have HA2:=Lh (H0.out.made hX hU);clear hX hU H0 c0)
  | (refine aJ rfl 44 _ _ rfl X rfl 44 (ov (.none 0)) (ov (.none 0)) rfl ?_ ((aB _).trans (aB _).symm) (aC _) (aU _) ?_;exact HA2.out.new;intro U g n;have HU:=Lh (HA2.out.turn g n);clear g n HA2))
 have x0:U.cell? ⟨X,0,none⟩=some (.int .i64 0):=(HU.out.new.cell 0).trans (fK (.none 0))
 go_wp2_with (first
  | (refine wpList_load_row rfl 48 _ rfl b rfl 48 (drv d) (0,0) _ ?_ Tryz.underlying48 rfl (qU d l7) ?_;exact HU.out.src))
 refine (capable_any d HD.out U).mono ?_
 rintro e V ⟨rfl,B⟩
 have HV:=Lh (HU.out.after B)
 clear B HU x0
 have HU:=HV
 clear HV
 go_wp2_with (first
  | (refine bQ rfl 25 _ _ rfl X 1 rfl 44 (ov (.none 0)) (L9.bH d.cap) (ov (Op.cap_ d.cap)) (by kernel_rfl) ?_ (by rw [aB];exact Nat.le_of_ble_eq_true rfl) L9.aX (L9.kX _) (by kernel_rfl) ?_;exact HU.out.new;intro W2 g2 n2;have H2:=Lh (HU.out.turn g2 n2);clear g2 n2 HU)
  | (refine wpList_load_row rfl 44 _ rfl X rfl 44 (ov (Op.cap_ d.cap)) (0,0) _ ?_ Tryz.underlying44 rfl (aC _) ?_;exact H2.out.new)
  | (refine aJ rfl 44 _ _ rfl r rfl 44 (ov (.none 0)) (ov (Op.cap_ d.cap)) rfl ?_ ((aB _).trans (aB _).symm) (aC _) (aU _) ?_;exact H2.out.res;intro W3 g3 n3;have H3:=Lh n3;have B3:=Lh (H2.out.bel.trans (aA g3 H2.out.le.1 H2.out.bel.size));clear g3 n3 H2))
 exact dF 2 (Op.cap_ d.cap) rfl r rfl H3.out rfl ⟨rfl,B3.out⟩
theorem opt_1 (d:Dr) (hd:d.Ok) (hf:d.sub%9=1) (w:World):Calls Tryz.prog 11 #[.agg (drv d)] w (Rt w (.agg (ov (Op.jn_ d.jn)))):=by
 have HD:=Lh hd
 obtain ⟨l0,l1,l2,l3,l4,l5,l6,l7⟩:=hd
 have hq:(d.sub:Int)%9=1:=by omega
 go_enter Tryz.func11,Tryz.ntmps11
 go_upto_region 1 with (first
  | (refine bD rfl 48 _ rfl (drv d) rfl ?_;intro U0 b hb hU)
  | (refine aQ rfl 44 rfl (ov (.none 0)) aI ?_;intro U1 r hr hU1;have H0:=Lh (Db.of hb hU hr hU1);clear hb hU hr hU1))
 have c0:=(H0.out.src.cell 0).trans (xJ d)
 go_upto_region 2 with (first
  | (refine wp_build rfl 44 _ rfl (.agg (ov (.none 1))) (by kernel_rfl) ?_)
  | (refine aQ rfl 44 rfl (ov (.none 0)) aI ?_;intro U2 X hX hU;have HA2:=Lh (H0.out.made hX hU);clear hX hU H0 c0)
  | (refine aJ rfl 44 _ _ rfl X rfl 44 (ov (.none 0)) (ov (.none 1)) rfl ?_ ((aB _).trans (aB _).symm) (aC _) (aU _) ?_;exact HA2.out.new;intro U g n;have HU:=Lh (HA2.out.turn g n);clear g n HA2))
 have x0:U.cell? ⟨X,0,none⟩=some (.int .i64 1):=(HU.out.new.cell 0).trans (fK (.none 1))
 go_wp2_with (first
  | (refine wpList_load_row rfl 48 _ rfl b rfl 48 (drv d) (0,0) _ ?_ Tryz.underlying48 rfl (qU d l7) ?_;exact HU.out.src))
 refine (join_any d HD.out U).mono ?_
 rintro e V ⟨rfl,B⟩
 have HV:=Lh (HU.out.after B)
 clear B HU x0
 have HU:=HV
 clear HV
 go_wp2_with (first
  | (refine bQ rfl 28 _ _ rfl X 9 rfl 44 (ov (.none 1)) (L10.jnv d.jn) (ov (Op.jn_ d.jn)) (by kernel_rfl) ?_ (by rw [aB];exact Nat.le_of_ble_eq_true rfl) L10.bM (L10.pV _) (by kernel_rfl) ?_;exact HU.out.new;intro W2 g2 n2;have H2:=Lh (HU.out.turn g2 n2);clear g2 n2 HU)
  | (refine wpList_load_row rfl 44 _ rfl X rfl 44 (ov (Op.jn_ d.jn)) (0,0) _ ?_ Tryz.underlying44 rfl (aC _) ?_;exact H2.out.new)
  | (refine aJ rfl 44 _ _ rfl r rfl 44 (ov (.none 0)) (ov (Op.jn_ d.jn)) rfl ?_ ((aB _).trans (aB _).symm) (aC _) (aU _) ?_;exact H2.out.res;intro W3 g3 n3;have H3:=Lh n3;have B3:=Lh (H2.out.bel.trans (aA g3 H2.out.le.1 H2.out.bel.size));clear g3 n3 H2))
 exact dF 2 (Op.jn_ d.jn) rfl r rfl H3.out rfl ⟨rfl,B3.out⟩
theorem opt_2 (d:Dr) (hd:d.Ok) (hf:d.sub%9=2) (w:World):Calls Tryz.prog 11 #[.agg (drv d)] w (Rt w (.agg (ov (Op.ds_ d.ds)))):=by
 have HD:=Lh hd
 obtain ⟨l0,l1,l2,l3,l4,l5,l6,l7⟩:=hd
 have hq:(d.sub:Int)%9=2:=by omega
 go_enter Tryz.func11,Tryz.ntmps11
 go_upto_region 1 with (first
  | (refine bD rfl 48 _ rfl (drv d) rfl ?_;intro U0 b hb hU)
  | (refine aQ rfl 44 rfl (ov (.none 0)) aI ?_;intro U1 r hr hU1;have H0:=Lh (Db.of hb hU hr hU1);clear hb hU hr hU1))
 have c0:=(H0.out.src.cell 0).trans (xJ d)
 go_upto_region 2 with (first
  | (refine wp_build rfl 44 _ rfl (.agg (ov (.none 2))) (by kernel_rfl) ?_)
  | (refine aQ rfl 44 rfl (ov (.none 0)) aI ?_;intro U2 X hX hU;have HA2:=Lh (H0.out.made hX hU);clear hX hU H0 c0)
  | (refine aJ rfl 44 _ _ rfl X rfl 44 (ov (.none 0)) (ov (.none 2)) rfl ?_ ((aB _).trans (aB _).symm) (aC _) (aU _) ?_;exact HA2.out.new;intro U g n;have HU:=Lh (HA2.out.turn g n);clear g n HA2))
 have x0:U.cell? ⟨X,0,none⟩=some (.int .i64 2):=(HU.out.new.cell 0).trans (fK (.none 2))
 go_wp2_with (first
  | (refine wpList_load_row rfl 48 _ rfl b rfl 48 (drv d) (0,0) _ ?_ Tryz.underlying48 rfl (qU d l7) ?_;exact HU.out.src))
 refine (dss_any d HD.out U).mono ?_
 rintro e V ⟨rfl,B⟩
 have HV:=Lh (HU.out.after B)
 clear B HU x0
 have HU:=HV
 clear HV
 go_wp2_with (first
  | (refine bQ rfl 30 _ _ rfl X 15 rfl 44 (ov (.none 2)) (L11.dsv d.ds) (ov (Op.ds_ d.ds)) (by kernel_rfl) ?_ (by rw [aB];exact Nat.le_of_ble_eq_true rfl) L11.aP (L11.o9 _) (by kernel_rfl) ?_;exact HU.out.new;intro W2 g2 n2;have H2:=Lh (HU.out.turn g2 n2);clear g2 n2 HU)
  | (refine wpList_load_row rfl 44 _ rfl X rfl 44 (ov (Op.ds_ d.ds)) (0,0) _ ?_ Tryz.underlying44 rfl (aC _) ?_;exact H2.out.new)
  | (refine aJ rfl 44 _ _ rfl r rfl 44 (ov (.none 0)) (ov (Op.ds_ d.ds)) rfl ?_ ((aB _).trans (aB _).symm) (aC _) (aU _) ?_;exact H2.out.res;intro W3 g3 n3;have H3:=Lh n3;have B3:=Lh (H2.out.bel.trans (aA g3 H2.out.le.1 H2.out.bel.size));clear g3 n3 H2))
 exact dF 2 (Op.ds_ d.ds) rfl r rfl H3.out rfl ⟨rfl,B3.out⟩
theorem opt_3 (d:Dr) (hd:d.Ok) (hf:d.sub%9=3) (w:World):Calls Tryz.prog 11 #[.agg (drv d)] w (Rt w (.agg (ov (Op.ad_ d.ad)))):=by
 have HD:=Lh hd
 obtain ⟨l0,l1,l2,l3,l4,l5,l6,l7⟩:=hd
 have hq:(d.sub:Int)%9=3:=by omega
 go_enter Tryz.func11,Tryz.ntmps11
 go_upto_region 1 with (first
  | (refine bD rfl 48 _ rfl (drv d) rfl ?_;intro U0 b hb hU)
  | (refine aQ rfl 44 rfl (ov (.none 0)) aI ?_;intro U1 r hr hU1;have H0:=Lh (Db.of hb hU hr hU1);clear hb hU hr hU1))
 have c0:=(H0.out.src.cell 0).trans (xJ d)
 go_upto_region 2 with (first
  | (refine wp_build rfl 44 _ rfl (.agg (ov (.none 3))) (by kernel_rfl) ?_)
  | (refine aQ rfl 44 rfl (ov (.none 0)) aI ?_;intro U2 X hX hU;have HA2:=Lh (H0.out.made hX hU);clear hX hU H0 c0)
  | (refine aJ rfl 44 _ _ rfl X rfl 44 (ov (.none 0)) (ov (.none 3)) rfl ?_ ((aB _).trans (aB _).symm) (aC _) (aU _) ?_;exact HA2.out.new;intro U g n;have HU:=Lh (HA2.out.turn g n);clear g n HA2))
 have x0:U.cell? ⟨X,0,none⟩=some (.int .i64 3):=(HU.out.new.cell 0).trans (fK (.none 3))
 go_wp2_with (first
  | (refine wpList_load_row rfl 48 _ rfl b rfl 48 (drv d) (0,0) _ ?_ Tryz.underlying48 rfl (qU d l7) ?_;exact HU.out.src))
 refine (add_any d HD.out U).mono ?_
 rintro e V ⟨rfl,B⟩
 have HV:=Lh (HU.out.after B)
 clear B HU x0
 have HU:=HV
 clear HV
 go_wp2_with (first
  | (refine bQ rfl 32 _ _ rfl X 26 rfl 44 (ov (.none 3)) (L12.adv d.ad) (ov (Op.ad_ d.ad)) (by kernel_rfl) ?_ (by rw [aB];exact Nat.le_of_ble_eq_true rfl) L12.bC (L12.rG _) (by kernel_rfl) ?_;exact HU.out.new;intro W2 g2 n2;have H2:=Lh (HU.out.turn g2 n2);clear g2 n2 HU)
  | (refine wpList_load_row rfl 44 _ rfl X rfl 44 (ov (Op.ad_ d.ad)) (0,0) _ ?_ Tryz.underlying44 rfl (aC _) ?_;exact H2.out.new)
  | (refine aJ rfl 44 _ _ rfl r rfl 44 (ov (.none 0)) (ov (Op.ad_ d.ad)) rfl ?_ ((aB _).trans (aB _).symm) (aC _) (aU _) ?_;exact H2.out.res;intro W3 g3 n3;have H3:=Lh n3;have B3:=Lh (H2.out.bel.trans (aA g3 H2.out.le.1 H2.out.bel.size));clear g3 n3 H2))
 exact dF 2 (Op.ad_ d.ad) rfl r rfl H3.out rfl ⟨rfl,B3.out⟩
theorem opt_4 (d:Dr) (hd:d.Ok) (hf:d.sub%9=4) (w:World):Calls Tryz.prog 11 #[.agg (drv d)] w (Rt w (.agg (ov (Op.rm_ d.rm)))):=by
 have HD:=Lh hd
 obtain ⟨l0,l1,l2,l3,l4,l5,l6,l7⟩:=hd
 have hq:(d.sub:Int)%9=4:=by omega
 go_enter Tryz.func11,Tryz.ntmps11
 go_upto_region 1 with (first
  | (refine bD rfl 48 _ rfl (drv d) rfl ?_;intro U0 b hb hU)
  | (refine aQ rfl 44 rfl (ov (.none 0)) aI ?_;intro U1 r hr hU1;have H0:=Lh (Db.of hb hU hr hU1);clear hb hU hr hU1))
 have c0:=(H0.out.src.cell 0).trans (xJ d)
 go_upto_region 2 with (first
  | (refine wp_build rfl 44 _ rfl (.agg (ov (.none 4))) (by kernel_rfl) ?_)
  | (refine aQ rfl 44 rfl (ov (.none 0)) aI ?_;intro U2 X hX hU;have HA2:=Lh (H0.out.made hX hU);clear hX hU H0 c0)
  | (refine aJ rfl 44 _ _ rfl X rfl 44 (ov (.none 0)) (ov (.none 4)) rfl ?_ ((aB _).trans (aB _).symm) (aC _) (aU _) ?_;exact HA2.out.new;intro U g n;have HU:=Lh (HA2.out.turn g n);clear g n HA2))
 have x0:U.cell? ⟨X,0,none⟩=some (.int .i64 4):=(HU.out.new.cell 0).trans (fK (.none 4))
 have HN:=Lh (show 1+d.what%24≤24 by omega)
 have c1:=(HU.out.src.cell 1).trans (sQ d)
 go_wp2_with (first
  | (refine gK rfl (.int .u8 ((d.what%24:Nat):Int)) (qM 5 5 (.tmp 44) (.const (.int .u8 24)) rfl d.what 24 (d.what%24) (by kernel_rfl) (by kernel_rfl) (by kernel_rfl) (by decide) rfl) ?_)
  | (refine gK rfl (.int .u8 ((1+d.what%24:Nat):Int)) (add8 5 5 (.const (.int .u8 1)) (.tmp 45) rfl 1 (d.what%24) (by kernel_rfl) (by kernel_rfl) (by have:=HN.out;omega)) ?_)
  | (refine gK rfl (.slice (some ⟨b,10,none⟩) (1+d.what%24) 24) (iQ (v:=.pointer (some ⟨b,10,none⟩)) (hv:=.int .u8 ((1+d.what%24:Nat):Int)) 46 (.tmp 42) (.tmp 46) rfl (by kernel_rfl) (by kernel_rfl) (oC _ b (1+d.what%24) .u8 HN.out)) ?_)
  | (refine gK rfl (.string (txt (d.bs.take (1+d.what%24)))) (aV (v:=.slice (some ⟨b,10,none⟩) (1+d.what%24) 24) 61 9 (.tmp 47) rfl (by kernel_rfl) (qX _ b d (1+d.what%24) 24 (by rw [l7];exact HN.out) HU.out.src)) ?_)
  | (refine wp_build rfl 34 _ rfl (.agg (L12.rmv d.rm)) (by kernel_rfl) ?_)
  | (refine bQ rfl 34 _ _ rfl X 32 rfl 44 (ov (.none 4)) (L12.rmv d.rm) (ov (Op.rm_ d.rm)) (by kernel_rfl) ?_ (by rw [aB];exact Nat.le_of_ble_eq_true rfl) L12.eX (L12.qZ _) (by kernel_rfl) ?_;exact HU.out.new;intro W2 g2 n2;have H2:=Lh (HU.out.turn g2 n2);clear g2 n2 HU)
  | (refine wpList_load_row rfl 44 _ rfl X rfl 44 (ov (Op.rm_ d.rm)) (0,0) _ ?_ Tryz.underlying44 rfl (aC _) ?_;exact H2.out.new)
  | (refine aJ rfl 44 _ _ rfl r rfl 44 (ov (.none 0)) (ov (Op.rm_ d.rm)) rfl ?_ ((aB _).trans (aB _).symm) (aC _) (aU _) ?_;exact H2.out.res;intro W3 g3 n3;have H3:=Lh n3;have B3:=Lh (H2.out.bel.trans (aA g3 H2.out.le.1 H2.out.bel.size));clear g3 n3 H2))
 exact dF 2 (Op.rm_ d.rm) rfl r rfl H3.out rfl ⟨rfl,B3.out⟩
theorem opt_5 (d:Dr) (hd:d.Ok) (hf:d.sub%9=5) (w:World):Calls Tryz.prog 11 #[.agg (drv d)] w (Rt w (.agg (ov (Op.pr_ d.f0)))):=by
 have HD:=Lh hd
 obtain ⟨l0,l1,l2,l3,l4,l5,l6,l7⟩:=hd
 have hq:(d.sub:Int)%9=5:=by omega
 go_enter Tryz.func11,Tryz.ntmps11
 go_upto_region 1 with (first
  | (refine bD rfl 48 _ rfl (drv d) rfl ?_;intro U0 b hb hU)
  | (refine aQ rfl 44 rfl (ov (.none 0)) aI ?_;intro U1 r hr hU1;have H0:=Lh (Db.of hb hU hr hU1);clear hb hU hr hU1))
 have c0:=(H0.out.src.cell 0).trans (xJ d)
 go_upto_region 2 with (first
  | (refine wp_build rfl 44 _ rfl (.agg (ov (.none 5))) (by kernel_rfl) ?_)
  | (refine aQ rfl 44 rfl (ov (.none 0)) aI ?_;intro U2 X hX hU;have HA2:=Lh (H0.out.made hX hU);clear hX hU H0 c0)
  | (refine aJ rfl 44 _ _ rfl X rfl 44 (ov (.none 0)) (ov (.none 5)) rfl ?_ ((aB _).trans (aB _).symm) (aC _) (aU _) ?_;exact HA2.out.new;intro U g n;have HU:=Lh (HA2.out.turn g n);clear g n HA2))
 have x0:U.cell? ⟨X,0,none⟩=some (.int .i64 5):=(HU.out.new.cell 0).trans (fK (.none 5))
 have c3:=(HU.out.src.cell 3).trans (rM d)
 go_wp2_with (first
  | (refine wp_build rfl 36 _ rfl (.agg (L13.prv d.f0)) (by kernel_rfl) ?_)
  | (refine bQ rfl 36 _ _ rfl X 33 rfl 44 (ov (.none 5)) (L13.prv d.f0) (ov (Op.pr_ d.f0)) (by kernel_rfl) ?_ (by rw [aB];exact Nat.le_of_ble_eq_true rfl) L13.fD (by kernel_rfl) (by kernel_rfl) ?_;exact HU.out.new;intro W2 g2 n2;have H2:=Lh (HU.out.turn g2 n2);clear g2 n2 HU)
  | (refine wpList_load_row rfl 44 _ rfl X rfl 44 (ov (Op.pr_ d.f0)) (0,0) _ ?_ Tryz.underlying44 rfl (aC _) ?_;exact H2.out.new)
  | (refine aJ rfl 44 _ _ rfl r rfl 44 (ov (.none 0)) (ov (Op.pr_ d.f0)) rfl ?_ ((aB _).trans (aB _).symm) (aC _) (aU _) ?_;exact H2.out.res;intro W3 g3 n3;have H3:=Lh n3;have B3:=Lh (H2.out.bel.trans (aA g3 H2.out.le.1 H2.out.bel.size));clear g3 n3 H2))
 exact dF 2 (Op.pr_ d.f0) rfl r rfl H3.out rfl ⟨rfl,B3.out⟩
theorem opt_6 (d:Dr) (hd:d.Ok) (hf:d.sub%9=6) (w:World):Calls Tryz.prog 11 #[.agg (drv d)] w (Rt w (.agg (ov (Op.fa_ d.a)))):=by
 have HD:=Lh hd
 obtain ⟨l0,l1,l2,l3,l4,l5,l6,l7⟩:=hd
 have hq:(d.sub:Int)%9=6:=by omega
 go_enter Tryz.func11,Tryz.ntmps11
 go_upto_region 1 with (first
  | (refine bD rfl 48 _ rfl (drv d) rfl ?_;intro U0 b hb hU)
  | (refine aQ rfl 44 rfl (ov (.none 0)) aI ?_;intro U1 r hr hU1;have H0:=Lh (Db.of hb hU hr hU1);clear hb hU hr hU1))
 have c0:=(H0.out.src.cell 0).trans (xJ d)
 go_upto_region 2 with (first
  | (refine wp_build rfl 44 _ rfl (.agg (ov (.none 6))) (by kernel_rfl) ?_)
  | (refine aQ rfl 44 rfl (ov (.none 0)) aI ?_;intro U2 X hX hU;have HA2:=Lh (H0.out.made hX hU);clear hX hU H0 c0)
  | (refine aJ rfl 44 _ _ rfl X rfl 44 (ov (.none 0)) (ov (.none 6)) rfl ?_ ((aB _).trans (aB _).symm) (aC _) (aU _) ?_;exact HA2.out.new;intro U g n;have HU:=Lh (HA2.out.turn g n);clear g n HA2))
 have x0:U.cell? ⟨X,0,none⟩=some (.int .i64 6):=(HU.out.new.cell 0).trans (fK (.none 6))
 have c6:=(HU.out.src.cell 6).trans (oW d)
 go_wp2_with (first
  | (refine wp_build rfl 38 _ rfl (.agg (L13.nuv d.a)) (by kernel_rfl) ?_)
  | (refine bQ rfl 38 _ _ rfl X 34 rfl 44 (ov (.none 6)) (L13.nuv d.a) (ov (Op.fa_ d.a)) (by kernel_rfl) ?_ (by rw [aB];exact Nat.le_of_ble_eq_true rfl) L13.fA (by kernel_rfl) (by kernel_rfl) ?_;exact HU.out.new;intro W2 g2 n2;have H2:=Lh (HU.out.turn g2 n2);clear g2 n2 HU)
  | (refine wpList_load_row rfl 44 _ rfl X rfl 44 (ov (Op.fa_ d.a)) (0,0) _ ?_ Tryz.underlying44 rfl (aC _) ?_;exact H2.out.new)
  | (refine aJ rfl 44 _ _ rfl r rfl 44 (ov (.none 0)) (ov (Op.fa_ d.a)) rfl ?_ ((aB _).trans (aB _).symm) (aC _) (aU _) ?_;exact H2.out.res;intro W3 g3 n3;have H3:=Lh n3;have B3:=Lh (H2.out.bel.trans (aA g3 H2.out.le.1 H2.out.bel.size));clear g3 n3 H2))
 exact dF 2 (Op.fa_ d.a) rfl r rfl H3.out rfl ⟨rfl,B3.out⟩
theorem opt_7 (d:Dr) (hd:d.Ok) (hf:d.sub%9=7) (w:World):Calls Tryz.prog 11 #[.agg (drv d)] w (Rt w (.agg (ov (Op.fs_ d.a)))):=by
 have HD:=Lh hd
 obtain ⟨l0,l1,l2,l3,l4,l5,l6,l7⟩:=hd
 have hq:(d.sub:Int)%9=7:=by omega
 go_enter Tryz.func11,Tryz.ntmps11
 go_upto_region 1 with (first
  | (refine bD rfl 48 _ rfl (drv d) rfl ?_;intro U0 b hb hU)
  | (refine aQ rfl 44 rfl (ov (.none 0)) aI ?_;intro U1 r hr hU1;have H0:=Lh (Db.of hb hU hr hU1);clear hb hU hr hU1))
 have c0:=(H0.out.src.cell 0).trans (xJ d)
 go_upto_region 2 with (first
  | (refine wp_build rfl 44 _ rfl (.agg (ov (.none 7))) (by kernel_rfl) ?_)
  | (refine aQ rfl 44 rfl (ov (.none 0)) aI ?_;intro U2 X hX hU;have HA2:=Lh (H0.out.made hX hU);clear hX hU H0 c0)
  | (refine aJ rfl 44 _ _ rfl X rfl 44 (ov (.none 0)) (ov (.none 7)) rfl ?_ ((aB _).trans (aB _).symm) (aC _) (aU _) ?_;exact HA2.out.new;intro U g n;have HU:=Lh (HA2.out.turn g n);clear g n HA2))
 have x0:U.cell? ⟨X,0,none⟩=some (.int .i64 7):=(HU.out.new.cell 0).trans (fK (.none 7))
 have c6:=(HU.out.src.cell 6).trans (oW d)
 go_wp2_with (first
  | (refine wp_build rfl 40 _ rfl (.agg (L13.nuv d.a)) (by kernel_rfl) ?_)
  | (refine bQ rfl 40 _ _ rfl X 35 rfl 44 (ov (.none 7)) (L13.nuv d.a) (ov (Op.fs_ d.a)) (by kernel_rfl) ?_ (by rw [aB];exact Nat.le_of_ble_eq_true rfl) L13.fB (by kernel_rfl) (by kernel_rfl) ?_;exact HU.out.new;intro W2 g2 n2;have H2:=Lh (HU.out.turn g2 n2);clear g2 n2 HU)
  | (refine wpList_load_row rfl 44 _ rfl X rfl 44 (ov (Op.fs_ d.a)) (0,0) _ ?_ Tryz.underlying44 rfl (aC _) ?_;exact H2.out.new)
  | (refine aJ rfl 44 _ _ rfl r rfl 44 (ov (.none 0)) (ov (Op.fs_ d.a)) rfl ?_ ((aB _).trans (aB _).symm) (aC _) (aU _) ?_;exact H2.out.res;intro W3 g3 n3;have H3:=Lh n3;have B3:=Lh (H2.out.bel.trans (aA g3 H2.out.le.1 H2.out.bel.size));clear g3 n3 H2))
 exact dF 2 (Op.fs_ d.a) rfl r rfl H3.out rfl ⟨rfl,B3.out⟩
theorem opt_8 (d:Dr) (hd:d.Ok) (hf:d.sub%9=8) (w:World):Calls Tryz.prog 11 #[.agg (drv d)] w fun e w'=>e= .returned (.agg (ov (Op.rs_ ((d.id%16:Nat):Int) (d.what:Int))))∧Below w.heap.size w w':=by
 have HD:=Lh hd
 obtain ⟨l0,l1,l2,l3,l4,l5,l6,l7⟩:=hd
 have hq:(d.sub:Int)%9=8:=by omega
 go_enter Tryz.func11,Tryz.ntmps11
 go_upto_region 1 with (first
  | (refine bD rfl 48 _ rfl (drv d) rfl ?_;intro U0 b hb hU)
  | (refine aQ rfl 44 rfl (ov (.none 0)) aI ?_;intro U1 r hr hU1;have H0:=Lh (Db.of hb hU hr hU1);clear hb hU hr hU1))
 have c0:=(H0.out.src.cell 0).trans (xJ d)
 go_upto_region 2 with (first
  | (refine wp_build rfl 44 _ rfl (.agg (ov (.none 8))) (by kernel_rfl) ?_)
  | (refine aQ rfl 44 rfl (ov (.none 0)) aI ?_;intro U2 X hX hU;have HA2:=Lh (H0.out.made hX hU);clear hX hU H0 c0)
  | (refine aJ rfl 44 _ _ rfl X rfl 44 (ov (.none 0)) (ov (.none 8)) rfl ?_ ((aB _).trans (aB _).symm) (aC _) (aU _) ?_;exact HA2.out.new;intro U g n;have HU:=Lh (HA2.out.turn g n);clear g n HA2))
 have x0:U.cell? ⟨X,0,none⟩=some (.int .i64 8):=(HU.out.new.cell 0).trans (fK (.none 8))
 have c1:=(HU.out.src.cell 1).trans (sQ d)
 have c2:=(HU.out.src.cell 2).trans (tK d)
 go_wp2_with (first
  | (refine wp_build rfl 42 _ rfl (.agg (L13.rsv ((d.id%16:Nat):Int) (d.what:Int))) (by kernel_rfl) ?_)
  | (refine bQ rfl 42 _ _ rfl X 36 rfl 44 (ov (.none 8)) (L13.rsv ((d.id%16:Nat):Int) (d.what:Int)) (ov (Op.rs_ ((d.id%16:Nat):Int) (d.what:Int))) (by kernel_rfl) ?_ (by rw [aB];exact Nat.le_of_ble_eq_true rfl) L13.dZ (by kernel_rfl) (by kernel_rfl) ?_;exact HU.out.new;intro W2 g2 n2;have H2:=Lh (HU.out.turn g2 n2);clear g2 n2 HU)
  | (refine wpList_load_row rfl 44 _ rfl X rfl 44 (ov (Op.rs_ ((d.id%16:Nat):Int) (d.what:Int))) (0,0) _ ?_ Tryz.underlying44 rfl (aC _) ?_;exact H2.out.new)
  | (refine aJ rfl 44 _ _ rfl r rfl 44 (ov (.none 0)) (ov (Op.rs_ ((d.id%16:Nat):Int) (d.what:Int))) rfl ?_ ((aB _).trans (aB _).symm) (aC _) (aU _) ?_;exact H2.out.res;intro W3 g3 n3;have H3:=Lh n3;have B3:=Lh (H2.out.bel.trans (aA g3 H2.out.le.1 H2.out.bel.size));clear g3 n3 H2))
 exact dF 2 (Op.rs_ ((d.id%16:Nat):Int) (d.what:Int)) rfl r rfl H3.out rfl ⟨rfl,B3.out⟩
theorem Opt_any (d:Dr) (hd:d.Ok) (w:World):Calls Tryz.prog 11 #[.agg (drv d)] w (Rt w (.agg (ov d.op))):=by
 by_cases h0:d.sub%9=0
 ·rw [show d.op=Op.cap_ d.cap from by unfold Dr.op;rw [if_pos h0]];exact opt_0 d hd h0 w
 by_cases h1:d.sub%9=1
 ·rw [show d.op=Op.jn_ d.jn from by unfold Dr.op;rw [if_neg h0,if_pos h1]];exact opt_1 d hd h1 w
 by_cases h2:d.sub%9=2
 ·rw [show d.op=Op.ds_ d.ds from by unfold Dr.op;rw [if_neg h0,if_neg h1,if_pos h2]];exact opt_2 d hd h2 w
 by_cases h3:d.sub%9=3
 ·rw [show d.op=Op.ad_ d.ad from by unfold Dr.op;rw [if_neg h0,if_neg h1,if_neg h2,if_pos h3]];exact opt_3 d hd h3 w
 by_cases h4:d.sub%9=4
 ·rw [show d.op=Op.rm_ d.rm from by unfold Dr.op;rw [if_neg h0,if_neg h1,if_neg h2,if_neg h3,if_pos h4]];exact opt_4 d hd h4 w
 by_cases h5:d.sub%9=5
 ·rw [show d.op=Op.pr_ d.f0 from by unfold Dr.op;rw [if_neg h0,if_neg h1,if_neg h2,if_neg h3,if_neg h4,if_pos h5]];exact opt_5 d hd h5 w
 by_cases h6:d.sub%9=6
 ·rw [show d.op=Op.fa_ d.a from by unfold Dr.op;rw [if_neg h0,if_neg h1,if_neg h2,if_neg h3,if_neg h4,if_neg h5,if_pos h6]];exact opt_6 d hd h6 w
 by_cases h7:d.sub%9=7
 ·rw [show d.op=Op.fs_ d.a from by unfold Dr.op;rw [if_neg h0,if_neg h1,if_neg h2,if_neg h3,if_neg h4,if_neg h5,if_neg h6,if_pos h7]];exact opt_7 d hd h7 w
 rw [show d.op=Op.rs_ ((d.id%16:Nat):Int) (d.what:Int) from by unfold Dr.op;rw [if_neg h0,if_neg h1,if_neg h2,if_neg h3,if_neg h4,if_neg h5,if_neg h6,if_neg h7]];exact opt_8 d hd (by omega) w
open Go Go.ChangeShapes Go.WideShapes Go.ChangeAt Go.RowKit
theorem own:ownKnob Tryz.prog.godebug=none:=by kernel_rfl
theorem laidOut:laidOutB Tryz.prog=true:=by kernel_rfl
abbrev laid1:List (String×DataW Unit):=[("errors.errorType",Rows.laid_errors_errorType),("plait/join.sizes",Rows.laid_plait_join_sizes)]
theorem door_met (os:Os) (args:Array Value):laidMetH Tryz.prog laid1 ((World.doorLaid Tryz.prog 400 os).forCall (fun _ _=>0) ⟨#[],args,[]⟩).memory:=
 laidMetH_of_parts3 (fuel:=8) (laidMet_of_run' 8 (by kernel_rfl) (by kernel_rfl)) (by kernel_rfl) (by kernel_rfl)
theorem pR {H:Type} {enc:TypeId×Value→H} {w:World} {base:Nat} {sp:Nat→Bool} {held:Bool} {fuel:Nat} {c0 c1:Value} {x:DataW H×List MemPlace}
  (h:DataW.trod enc Tryz.prog w base sp held fuel 232 [c0,c1]=some x):∃a b:Int,c0= .int .i64 a∧c1= .int .i64 b∧x.1= .agg [.lit (.int .i64 a),.lit (.int .i64 b)]:=by
 obtain ⟨y0,y1,n,rfl,_,h0,h1⟩:=trod_struct2 Tryz.underlying232 h
 have q0:DataW.trod enc Tryz.prog w base sp held n 3 (([c0,c1].drop 0).take (Tryz.prog.cellsOf 3))=some y0:=h0
 have q1:DataW.trod enc Tryz.prog w base sp held n 3 (([c0,c1].drop 1).take (Tryz.prog.cellsOf 3))=some y1:=h1
 rw [show Tryz.prog.cellsOf 3=1 by kernel_rfl] at q0 q1
 obtain ⟨z0,e0,d0,_⟩:=DataW.trod_int Tryz.underlying3 q0
 obtain ⟨z1,e1,d1,_⟩:=DataW.trod_int Tryz.underlying3 q1
 exact ⟨z0,z1,by simpa using e0,by simpa using e1,by rw [d0,d1]⟩
theorem row_error:((List.range Tryz.prog.types.size).filter fun t=>Tryz.prog.rowNamed t [101,114,114,111,114])=[93]:=by kernel_rfl
theorem table_of {W:World} (h:laidMetH Tryz.prog laid1 W):L10.Tbl W∧Hnd W:=by
 have h':laidMet Tryz.prog [("plait/join.sizes",Rows.laid_plait_join_sizes)] W∧handlesMet Tryz.prog [("errors.errorType",Rows.laid_errors_errorType)] W:=h
 refine ⟨?_,?_⟩
 ·obtain ⟨ps,⟨g',t',cs,fuel,p,q,hg',ht',hvar,hd,_,_⟩,_⟩:=h'.1
  have hg:Tryz.prog.globalNamed "plait/join.sizes"=some 1:=by kernel_rfl
  have hty:(Tryz.prog.globals[1]?).map (·.type)=some 233:=by kernel_rfl
  obtain rfl:=Option.some.inj (hg.symm.trans hg')
  obtain rfl:=Option.some.inj (hty.symm.trans ht')
  obtain ⟨xs,m,_,hx,hl,hlen,hi⟩:=DataW.trod_array Tryz.underlying233 hd
  rw [show Tryz.prog.cellsOf 232=2 by kernel_rfl] at hi
  rw [show Tryz.prog.cellsOf 233=6 by kernel_rfl] at hl
  have hx':Rows.laid_plait_join_sizes=DataW.agg (xs.map (·.1)):=congrArg Prod.fst hx
  obtain ⟨l⟩:=cs
  match l,hl,xs,hlen,hi,hx',hvar with
  | [c0,c1,c2,c3,c4,c5],_,[x0,x1,x2],_,hi,hx',hvar=>
   obtain ⟨a0,b0,rfl,rfl,e0⟩:=pR (show _=some x0 from hi 0 (by decide))
   obtain ⟨a1,b1,rfl,rfl,e1⟩:=pR (show _=some x1 from hi 1 (by decide))
   obtain ⟨a2,b2,rfl,rfl,e2⟩:=pR (show _=some x2 from hi 2 (by decide))
   simp only [List.map_cons,List.map_nil,e0,e1,e2,Rows.laid_plait_join_sizes,DataW.agg.injEq,List.cons.injEq,DataW.lit.injEq,Lit.int.injEq,and_true,true_and] at hx'
   obtain ⟨⟨rfl,rfl⟩,⟨rfl,rfl⟩,⟨rfl,rfl⟩⟩:=hx'
   have hc:∀i,W.cell? ⟨1,i,none⟩=_:=fun i=>World.var?_cell hg hvar i
   have k0:=hc 0
   exact ⟨World.block_lt_of_cell? W _ k0,k0,hc 1,hc 2,hc 3,hc 4,hc 5⟩
 ·obtain ⟨name,u,ty,e1,e2,e3,e4,e5⟩:=h'.2 _ (List.mem_singleton.2 rfl)
  have en:name=[101,114,114,111,114]:=(Option.some.inj e1).symm
  subst en
  have rt:(Tryz.prog.cutTypes.find? (·.1== "internal/reflectlite.rtype")).map (·.2)=some 261:=by kernel_rfl
  obtain rfl:=Option.some.inj (rt.symm.trans e2)
  have hm:ty∈(List.range Tryz.prog.types.size).filter fun t=>Tryz.prog.rowNamed t [101,114,114,111,114]:=List.mem_filter.2 ⟨List.mem_range.2 e3,e4⟩
  rw [row_error] at hm
  obtain rfl:=List.mem_singleton.1 hm
  have et:Tryz.prog.globalNamed "errors.errorType"=some 0:=by kernel_rfl
  have k:=World.var?_cell et e5 0
  have hc:W.cell? ⟨0,0,none⟩=some (rty 93):=k.trans (by kernel_rfl)
  exact ⟨World.block_lt_of_cell? W _ hc,hc⟩
theorem cut {α:Type} (l:List α) (a b c:Nat) (h:a+b=c):l.drop a=(l.drop a).take b++l.drop c:=by
 subst h
 rw [←List.drop_drop,List.take_append_drop]
theorem bytes_of {H:Type} {enc:TypeId×Value→H} {w:World} {base:Nat} {spare:Nat→Bool} {held:Bool} {fuel:Nat} {t:TypeId} {cs:List Value} {y:DataW H×List MemPlace} (N:Nat) (ht:Tryz.prog.underlying t=some (.array N 5)) (hct:Tryz.prog.cellsOf t=N)
  (h:DataW.trod enc Tryz.prog w base spare held fuel t cs=some y):∃m:List UInt8,m.length=N∧cs=m.map fun b=>Value.int .u8 (b.toNat:Int):=by
 obtain ⟨xs,m,_,hx,hl,hlen,hi⟩:=DataW.trod_array ht h
 rw [show Tryz.prog.cellsOf 5=1 by kernel_rfl] at hi
 rw [hct] at hl
 have hc:∀i (hi':i < N),∃b:UInt8,cs[i]?=some (.int .u8 (b.toNat:Int)):=fun i hi'=>by
  have q:=hi i hi'
  have hcell:(cs.drop i).take 1=[cs[i]'(by omega)]:=by rw [List.drop_eq_getElem_cons (by omega:i < cs.length)];rfl
  rw [Nat.mul_one,hcell,List.getElem?_eq_getElem (show i < xs.length by omega)] at q
  obtain ⟨b,hb,_,wf⟩:=DataW.trod_int Tryz.underlying5 q
  have e:cs[i]'(by omega)= .int .u8 b:=by simpa using hb
  have hbd:=bounds_u8 wf
  exact ⟨UInt8.ofNat b.toNat,by rw [List.getElem?_eq_getElem (by omega),e];simp;omega⟩
 refine ⟨(List.range N).map fun i=>if h:i < N then (hc i h).choose else 0,by simp,?_⟩
 apply List.ext_getElem?
 intro i
 by_cases h:i < N
 ·rw [(hc i h).choose_spec]
  simp [h]
 ·rw [List.getElem?_eq_none (by omega),List.getElem?_eq_none (by simp;omega)]
theorem bools_of {H:Type} {enc:TypeId×Value→H} {w:World} {base:Nat} {spare:Nat→Bool} {held:Bool} {fuel:Nat} {l:List Value} {y:DataW H×List MemPlace} (h:DataW.trod enc Tryz.prog w base spare held fuel 45 l=some y):∃a b c:Bool,l=[.bool a,.bool b,.bool c]:=by
 obtain ⟨xs,m,_,hx,hl,hlen,hi⟩:=DataW.trod_array Tryz.underlying45 h
 rw [show Tryz.prog.cellsOf 4=1 by kernel_rfl] at hi
 rw [show Tryz.prog.cellsOf 45=3 by kernel_rfl] at hl
 clear hx
 match l,hl,xs,hlen,hi with
 | [c0,c1,c2],_,[x0,x1,x2],_,hi=>
  have t0:DataW.trod enc Tryz.prog w base spare held m 4 [c0]=some x0:=hi 0 (by decide)
  have t1:DataW.trod enc Tryz.prog w base spare held m 4 [c1]=some x1:=hi 1 (by decide)
  have t2:DataW.trod enc Tryz.prog w base spare held m 4 [c2]=some x2:=hi 2 (by decide)
  obtain ⟨z0,e0, -⟩:=DataW.trod_bool Tryz.underlying4 t0
  obtain ⟨z1,e1, -⟩:=DataW.trod_bool Tryz.underlying4 t1
  obtain ⟨z2,e2, -⟩:=DataW.trod_bool Tryz.underlying4 t2
  obtain rfl:c0=_:=by simpa using e0
  obtain rfl:c1=_:=by simpa using e1
  obtain rfl:c2=_:=by simpa using e2
  exact ⟨z0,z1,z2,rfl⟩
theorem tr_draft {H:Type} {enc:TypeId×Value→H} {w:World} {base:Nat} {spare:Nat→Bool} {held:Bool} {fuel:Nat} {l:List Value} {x:DataW H×List MemPlace} (h:DataW.trod enc Tryz.prog w base spare held fuel 48 l=some x):∃y:Dr,l=(drv y).toList∧y.Ok:=by
 obtain ⟨xs,n,_,hx,hl,hlen,hfld⟩:=DataW.trod_struct Tryz.underlying48 h
 have hln:l.length=34:=hl.trans (by kernel_rfl)
 have hxn:xs.length=9:=hlen
 clear hx hl hlen
 match xs,hxn,hfld with
 | [y0,y1,y2,y3,y4,y5,y6,y7,y8],_,hfld=>
  have q0:DataW.trod enc Tryz.prog w base spare held n 5 ((l.drop 0).take 1)=some y0:=by
   have q:DataW.trod enc Tryz.prog w base spare held n 5 ((l.drop 0).take (Tryz.prog.cellsOf 5))=some y0:=hfld 0 _ rfl
   rw [show Tryz.prog.cellsOf 5=1 by kernel_rfl] at q
   exact q
  have q1:DataW.trod enc Tryz.prog w base spare held n 5 ((l.drop 1).take 1)=some y1:=by
   have q:DataW.trod enc Tryz.prog w base spare held n 5 ((l.drop 1).take (Tryz.prog.cellsOf 5))=some y1:=hfld 1 _ rfl
   rw [show Tryz.prog.cellsOf 5=1 by kernel_rfl] at q
   exact q
  have q2:DataW.trod enc Tryz.prog w base spare held n 5 ((l.drop 2).take 1)=some y2:=by
   have q:DataW.trod enc Tryz.prog w base spare held n 5 ((l.drop 2).take (Tryz.prog.cellsOf 5))=some y2:=hfld 2 _ rfl
   rw [show Tryz.prog.cellsOf 5=1 by kernel_rfl] at q
   exact q
  have q3:DataW.trod enc Tryz.prog w base spare held n 45 ((l.drop 3).take 3)=some y3:=by
   have q:DataW.trod enc Tryz.prog w base spare held n 45 ((l.drop 3).take (Tryz.prog.cellsOf 45))=some y3:=hfld 3 _ rfl
   rw [show Tryz.prog.cellsOf 45=3 by kernel_rfl] at q
   exact q
  have q4:DataW.trod enc Tryz.prog w base spare held n 22 ((l.drop 6).take 1)=some y4:=by
   have q:DataW.trod enc Tryz.prog w base spare held n 22 ((l.drop 6).take (Tryz.prog.cellsOf 22))=some y4:=hfld 4 _ rfl
   rw [show Tryz.prog.cellsOf 22=1 by kernel_rfl] at q
   exact q
  have q5:DataW.trod enc Tryz.prog w base spare held n 22 ((l.drop 7).take 1)=some y5:=by
   have q:DataW.trod enc Tryz.prog w base spare held n 22 ((l.drop 7).take (Tryz.prog.cellsOf 22))=some y5:=hfld 5 _ rfl
   rw [show Tryz.prog.cellsOf 22=1 by kernel_rfl] at q
   exact q
  have q6:DataW.trod enc Tryz.prog w base spare held n 23 ((l.drop 8).take 1)=some y6:=by
   have q:DataW.trod enc Tryz.prog w base spare held n 23 ((l.drop 8).take (Tryz.prog.cellsOf 23))=some y6:=hfld 6 _ rfl
   rw [show Tryz.prog.cellsOf 23=1 by kernel_rfl] at q
   exact q
  have q7:DataW.trod enc Tryz.prog w base spare held n 23 ((l.drop 9).take 1)=some y7:=by
   have q:DataW.trod enc Tryz.prog w base spare held n 23 ((l.drop 9).take (Tryz.prog.cellsOf 23))=some y7:=hfld 7 _ rfl
   rw [show Tryz.prog.cellsOf 23=1 by kernel_rfl] at q
   exact q
  have q8:DataW.trod enc Tryz.prog w base spare held n 46 ((l.drop 10).take 24)=some y8:=by
   have q:DataW.trod enc Tryz.prog w base spare held n 46 ((l.drop 10).take (Tryz.prog.cellsOf 46))=some y8:=hfld 8 _ rfl
   rw [show Tryz.prog.cellsOf 46=24 by kernel_rfl] at q
   exact q
  obtain ⟨z0,e0, -,w0⟩:=DataW.trod_int Tryz.underlying5 q0
  obtain ⟨l0,u0⟩:=bounds_u8 w0
  obtain ⟨m0,rfl⟩:=Int.eq_ofNat_of_zero_le l0
  obtain ⟨z1,e1, -,w1⟩:=DataW.trod_int Tryz.underlying5 q1
  obtain ⟨l1,u1⟩:=bounds_u8 w1
  obtain ⟨m1,rfl⟩:=Int.eq_ofNat_of_zero_le l1
  obtain ⟨z2,e2, -,w2⟩:=DataW.trod_int Tryz.underlying5 q2
  obtain ⟨l2,u2⟩:=bounds_u8 w2
  obtain ⟨m2,rfl⟩:=Int.eq_ofNat_of_zero_le l2
  obtain ⟨z4,e4, -,w4⟩:=DataW.trod_int Tryz.underlying22 q4
  obtain ⟨l4,u4⟩:=bounds_u64 w4
  obtain ⟨m4,rfl⟩:=Int.eq_ofNat_of_zero_le l4
  obtain ⟨z5,e5, -,w5⟩:=DataW.trod_int Tryz.underlying22 q5
  obtain ⟨l5,u5⟩:=bounds_u64 w5
  obtain ⟨m5,rfl⟩:=Int.eq_ofNat_of_zero_le l5
  obtain ⟨z6,e6, -,w6⟩:=DataW.trod_int Tryz.underlying23 q6
  obtain ⟨l6,u6⟩:=bounds_u16 w6
  obtain ⟨m6,rfl⟩:=Int.eq_ofNat_of_zero_le l6
  obtain ⟨z7,e7, -,w7⟩:=DataW.trod_int Tryz.underlying23 q7
  obtain ⟨l7,u7⟩:=bounds_u16 w7
  obtain ⟨m7,rfl⟩:=Int.eq_ofNat_of_zero_le l7
  obtain ⟨a,b,c,e3⟩:=bools_of q3
  obtain ⟨m,hm,e8⟩:=bytes_of 24 Tryz.underlying46 (by kernel_rfl) q8
  refine ⟨⟨m0,m1,m2,a,b,c,m4,m5,m6,m7,m⟩,?_,⟨show m0≤255 by omega,show m1≤255 by omega,show m2≤255 by omega,show m4≤_ by omega,show m5≤_ by omega,show m6≤65535 by omega,show m7≤65535 by omega,hm⟩⟩
  have e:l.drop 0=(drv ⟨m0,m1,m2,a,b,c,m4,m5,m6,m7,m⟩).toList:=by
   rw [cut l 0 1 1 rfl,cut l 1 1 2 rfl,cut l 2 1 3 rfl,cut l 3 3 6 rfl,cut l 6 1 7 rfl,cut l 7 1 8 rfl,cut l 8 1 9 rfl,cut l 9 1 10 rfl,cut l 10 24 34 rfl,List.drop_eq_nil_of_le (show l.length≤34 by omega),e0,e1,e2,e3,e4,e5,e6,e7,e8,List.append_nil]
   kernel_rfl
  exact e
open Go Go.RowKit Go.ChangeAt
structure Sh (w W:World) (b r:Nat) (x:Op):Prop where
 src:Blk W b 44 (ov x)
 res:Blk W r 44 (ov (.none 0))
 bel:Below w.heap.size w W
 le:w.heap.size≤r∧w.heap.size≤b
 ne:r≠b
theorem Sh.set {w W:World} {b r:Nat} {x y:Op} (h:Sh w W b r x) (i:Nat) (v:Value) (e:(ov x).setIfInBounds i v=ov y):Sh w (W.setCell ⟨b,i,none⟩ v) b r y:=
 ⟨by rw [←e];exact h.src.fM i v,h.res.same (Below.heap_setCell W ⟨b,i,none⟩ v r h.ne),h.bel.setCell h.le.2 _,h.le,h.ne⟩
theorem Sh.of {w U W:World} {x:Op} {b r:Nat} (hb:b=w.heap.size) (hU:U=w.alloc (.cells (ov x) 44)) (hr:r=U.heap.size) (hW:W=U.alloc (.cells (ov (.none 0)) 44)):Sh w W b r x:=by
 subst hb;subst hU;subst hr;subst hW
 exact ⟨(Blk.new _ _ _).alloc _,Blk.new _ _ _,((Below.refl _ w).alloc (Nat.le_refl _) _).alloc (by simp) _,⟨by simp,Nat.le_refl _⟩,by simp⟩
open Go Go.ChangeShapes Go.WideShapes Go.ChangeAt Go.RowKit
theorem ex_rem {ρ:Operand→Value} {o:Oper} {w:World} (t u:TypeId) (x y:Operand) (a b c:Nat) (hb:b≠0) (hb':b≤1000) (hc:a%b=c) (ho:o.op= .binOp .rem t x y u:=by kernel_rfl) (hx:ρ x= .int .i64 (a:Int):=by kernel_rfl) (hy:ρ y= .int .i64 (b:Int):=by kernel_rfl) (ht:Tryz.prog.underlying t=some (.int .i64):=by kernel_rfl):
  (execOp ρ o).run Tryz.prog w= .ok (.value (.int .i64 (c:Int))) w:=by
 subst hc
 unfold execOp
 rw [ho]
 simp [hx,hy,go_sem]
 rw [if_neg hb,Int.tmod_eq_emod_of_nonneg (by omega)]
theorem conv_b (u:Nat) (h:u≤255) (w:World):(convert 5 3 (.int .u8 (u:Int))).run Tryz.prog w= .ok (.int .i64 (u:Int)) w:=by
 rw [run_convert_int w 5 3 .u8 _ (by kernel_rfl) (by kernel_rfl),show Tryz.prog.intKind 3= .i64 by kernel_rfl,IntWalk.i64_in _ (by omega)]
theorem buildI {ops:Array Oper} {rest:List Oper} {op:Oper} {a:Act} {w:World} {Q:Exit→Act→World→Prop} (hw:Region.wanted op (yielded ops a.tmps)=true) (fs:Array (Nat×Operand)) (ho:op.op= .build 53 fs) (x:L4.It) (he:∀w,(execOp a.eval op).run Tryz.prog w= .ok (.value (.agg (itv x))) w) (h:wpList Tryz.prog ops Q rest (a.put op.dst (.agg (itv x))) w):wpList Tryz.prog ops Q (op::rest) a w:=wpv hw _ (he w) h
open Go Go.ChangeShapes Go.WideShapes Go.Deep Go.RowKit Go.ChangeAt
theorem list_of {α:Type} {P:Nat→α→Prop}:∀n,(∀i,i < n→∃x,P i x)→∃l:List α,l.length=n∧∀i x,l[i]?=some x→P i x
 | 0,_=>⟨[],rfl,fun i x h=>by simp at h⟩
 | n+1,h=>by
  obtain ⟨l,hl,hp⟩:=list_of n (fun i hi=>h i (by omega))
  obtain ⟨x,hx⟩:=h n (by omega)
  refine ⟨l++[x],by simp [hl],fun i y hy=>?_⟩
  by_cases hi:i < l.length
  ·rw [List.getElem?_append_left hi] at hy;exact hp i y hy
  ·have hi2:i < (l++[x]).length:=(List.getElem?_eq_some_iff.1 hy).1
   rw [List.length_append,List.length_singleton] at hi2
   obtain rfl:i=l.length:=by omega
   rw [List.getElem?_append_right (Nat.le_refl _),Nat.sub_self] at hy
   simp at hy
   subst hy;rw [hl];exact hx
def Veil (p:Exit→Act→World→Prop) (e:Exit) (a:Act) (w:World):Prop:=p e a w
theorem Veil.mk {p:Exit→Act→World→Prop} {e:Exit} {a:Act} {w:World} (h:p e a w):Veil p e a w:=h
theorem Veil.out {p:Exit→Act→World→Prop} {e:Exit} {a:Act} {w:World} (h:Veil p e a w):p e a w:=h
theorem block_add (a:Addr) (n:Nat):(a.add n).block=a.block:=by unfold Addr.add;split<;>rfl
theorem load_any {P:Program} (w:World) (ad:Addr) (ty:TypeId) (cs:List Value) (d:TypeDesc) (hc:∀j v,cs[j]?=some v→w.cell? (ad.add j)=some v) (hu:P.underlying ty=some d) (hd:d.isRow=true) (hi:(P.info? ty).map (·.size)=some cs.length):
  (Instr.loadAt ty (.pointer (some ad))).run P w= .ok (.agg cs.toArray) w:=by
 have hl:(loadCells ad cs.length).run P w= .ok cs.toArray w:=run_loadCells_list (P:=P) w ad cs hc
 cases hq:P.info? ty with
 | none=>simp [hq] at hi
 | some i=>
  have hs:i.size=cs.length:=by simpa [hq] using hi
  have hagg:(isAgg ty).run P w= .ok true w:=by
   unfold isAgg
   rw [Sem.run_bind,run_underlying hu w]
   cases d<;>simp_all
  simp [Instr.loadAt,Instr.sureAddr,loadVar,Sem.run_bind,hagg,sizeOf,typeInfo,hq,hs,hl]
def yS (w:World) (v:Value) (l:List Dr):Prop:=
 ∃(p:Option Addr) (cap:Nat),v= .slice p l.length cap∧l.length≤cap∧cap≤9223372036854775807∧∀(i:Nat) (x:Dr),l[i]?=some x→x.Ok∧∃ad,p=some ad∧ad.block < w.heap.size∧∀j u,(drv x).toList[j]?=some u→w.cell? ((ad.add (i * 34)).add j)=some u
theorem yS.below {w w':World} {v:Value} {l:List Dr} (h:yS w v l) (b:Below w.heap.size w w'):yS w' v l:=by
 obtain ⟨p,cap,hv,hl,hm,hc⟩:=h
 refine ⟨p,cap,hv,hl,hm,fun i x hx=>?_⟩
 obtain ⟨ok,ad,hp,hg,h0⟩:=hc i x hx
 exact ⟨ok,ad,hp,Nat.lt_of_lt_of_le hg b.size,fun j u hu=>(World.cell?_of_block (b.block _ (by rw [block_add,block_add];exact hg))).trans (h0 j u hu)⟩
theorem yS.at {w:World} {p:Option Addr} {n cap:Nat} {l:List Dr} (h:yS w (.slice p n cap) l) (j:Nat) (x:Dr) (hx:l[j]?=some x):x.Ok∧∃ad,p=some ad∧ad.block < w.heap.size∧∀i u,(drv x).toList[i]?=some u→w.cell? ((ad.add (j * 34)).add i)=some u:=by
 obtain ⟨p',cap',hv,_,_,hc⟩:=h
 injection hv with e1 e2 e3
 subst e1
 exact hc j x hx
theorem open_drafts {H:Type} {enc:TypeId×Value→H} {w:World} {base:Nat} {spare:Nat→Bool} {held:Bool} {r:Reach} {b0:Nat} {v:Value} {d:DataW H} {p:List MemPlace}
  (hv:Value.okWide Tryz.prog w r b0 66 v) (h:DataW.Trod enc Tryz.prog w base spare held 66 v d p):∃l:List Dr,yS w v l:=by
 have hsl:Tryz.prog.underlying 66=some (.slice 48):=Tryz.underlying66
 obtain ⟨A,len,cap,rfl⟩:=okWide_slice hsl hv
 obtain ⟨fuel,hf⟩:=h
 rcases open_slice hsl hf with ⟨h0,_⟩ | ⟨ad,len',cap',m,n,D,Pl,hcs,_,hl,hm,hmm,_,hi⟩
 ·simp [Value.cells] at h0
  obtain ⟨rfl,rfl,rfl⟩:=h0
  exact ⟨[],none,0,rfl,Nat.le_refl _,by omega,fun i x hx=>by simp at hx⟩
 ·simp [Value.cells] at hcs
  obtain ⟨rfl,rfl,rfl⟩:=hcs
  obtain ⟨l,hll,hP⟩:=list_of (α:=Dr) (P:=fun i x=>x.Ok∧∃q,some ad=some q∧q.block < w.heap.size∧∀j u,(drv x).toList[j]?=some u→w.cell? ((q.add (i * 34)).add j)=some u) len fun i hlt=>by
   have him:i < m:=by rw [hmm];split<;>omega
   obtain ⟨cs',hc,ht⟩:=hi i him
   rw [show Tryz.prog.cellsOf 48=34 by kernel_rfl] at hc
   obtain ⟨y,e,ok⟩:=tr_draft ht
   obtain ⟨_,hlen,hcell⟩:=World.cells?_some hc
   have hz:(drv y).toList.length=34:=by rw [←e];exact hlen
   have hce:∀j u,(drv y).toList[j]?=some u→w.cell? ((ad.add (i * 34)).add j)=some u:=fun j u hu=>by
    have hj:j < 34:=by have:=(List.getElem?_eq_some_iff.1 hu).1;omega
    rw [hcell j hj,e];exact hu
   obtain ⟨u0,hu0⟩:∃u0,(drv y).toList[0]?=some u0:=⟨_,List.getElem?_eq_getElem (by omega)⟩
   have hb:=World.block_lt_of_cell? w _ (hce 0 u0 hu0)
   rw [block_add,block_add] at hb
   exact ⟨y,ok,ad,rfl,hb,hce⟩
  subst hll
  exact ⟨l,some ad,cap,rfl,hl,by unfold maxLen at hm;omega,hP⟩
theorem ld_draft {ops:Array Oper} {rest:List Oper} {op:Oper} {a:Act} {w:World} {Q:Exit→Act→World→Prop} (hgd:op.guard=none) (x:Operand) (ho:op.op= .load 48 x) (ad:Addr) (hx:a.eval x= .pointer (some ad)) (y:Dr) (hy:y.bs.length=24) (hc:∀i u,(drv y).toList[i]?=some u→w.cell? (ad.add i)=some u)
  (h:wpList Tryz.prog ops Q rest (a.put op.dst (.agg (drv y))) w):wpList Tryz.prog ops Q (op::rest) a w:=by
 have hl:=load_any (P:=Tryz.prog) w ad 48 (drv y).toList _ hc Tryz.underlying48 rfl (by rw [Array.length_toList];exact qU y hy)
 refine gK hgd (.agg (drv y)) ?_ h
 unfold execOp
 simp only [ho,hx,hl,Sem.run_bind,Result.andThen_ok]
 simp
theorem place_d (ad:Addr) (j n cap:Nat) (hj:j < n) (hn:n < 9223372036854775808) (w:World):(Instr.indexAt 66 (.slice (some ad) n cap) (.int .i64 (j:Int))).run Tryz.prog w= .ok (.pointer (some (ad.add (j * 34)))) w:=by
 have e2:(sizeOf (Tryz.prog.elem 66)).run Tryz.prog w= .ok 34 w:=by kernel_rfl
 have hu:Tryz.prog.underlying 66=some (.slice (Tryz.prog.elem 66)):=by kernel_rfl
 rw [run_indexAt_slice w _ _ _ _ _ _ hu]
 simp [hj,go_sem,e2,Result.andThen]
section
variable {ρ:Operand→Value} {o:Oper} {w:World}
theorem ex_add64 (t u:TypeId) (x y:Operand) (a b c:Int) (hc:a+b=c) (h0: -9223372036854775808≤c∧c≤9223372036854775807) (ho:o.op= .binOp .add t x y u:=by kernel_rfl) (hx:ρ x= .int .i64 a:=by kernel_rfl) (hy:ρ y= .int .i64 b:=by kernel_rfl):(execOp ρ o).run Tryz.prog w= .ok (.value (.int .i64 c)) w:=by
 subst hc
 unfold execOp
 rw [ho]
 simp [hx,hy,go_sem]
 exact IntWalk.i64_in _ h0
theorem wQ (t u:TypeId) (x y:Operand) (a b c:Int) (hc:a+b=c) (h0:0≤c∧c≤255) (ho:o.op= .binOp .add t x y u:=by kernel_rfl) (hx:ρ x= .int .u8 a:=by kernel_rfl) (hy:ρ y= .int .u8 b:=by kernel_rfl):(execOp ρ o).run Tryz.prog w= .ok (.value (.int .u8 c)) w:=by
 subst hc
 unfold execOp
 rw [ho]
 simp [hx,hy,go_sem]
 exact IntWalk.u8_in _ h0
theorem ex_mul8 (t u:TypeId) (x y:Operand) (a b c:Int) (hc:a * b=c) (h0:0≤c∧c≤255) (ho:o.op= .binOp .mul t x y u:=by kernel_rfl) (hx:ρ x= .int .u8 a:=by kernel_rfl) (hy:ρ y= .int .u8 b:=by kernel_rfl):(execOp ρ o).run Tryz.prog w= .ok (.value (.int .u8 c)) w:=by
 subst hc
 unfold execOp
 rw [ho]
 simp [hx,hy,go_sem]
 exact IntWalk.u8_in _ h0
end
structure Two (B:Nat) (w:World) (v x:Value) (lo:List Op) (li:List L4.It):Prop where
 o:xX B w v lo
 i:vZ B w x li
 ne:x.ownBlock=none∨x.ownBlock≠v.ownBlock
theorem Two.below {B:Nat} {w W:World} {v x:Value} {lo:List Op} {li:List L4.It} (h:Two B w v x lo li) (b:Below w.heap.size w W):Two B W v x lo li:=⟨own_below h.o b,own_below h.i b,h.ne⟩
def From (a w:World):Prop:=Below a.heap.size a w
theorem From.below {a w W:World} (h:From a w) (b:Below w.heap.size w W):From a W:=Below.trans h (b.mono (Below.size h))
theorem From.size {a w:World} (h:From a w):a.heap.size≤w.heap.size:=Below.size h
theorem Two.nil (B:Nat) (w:World):Two B w (.slice none 0 0) (.slice none 0 0) [] []:=⟨World.ownsRow_nil _ _ _ _,World.ownsRow_nil _ _ _ _,.inl rfl⟩
theorem app_two_o {ops:Array Oper} {rest:List Oper} {o:Oper} {a:Act} {w:World} {Q:Exit→Act→World→Prop} (hgd:o.guard=none) (s x:Operand) (ho:o.op= .call { callee:=.builtin .append,args:=#[s,x],argTypes:=#[67,67] })
  (B:Nat) (V X:Value) (lo:List Op) (li:List L4.It) (y:Op) (hs:a.eval s=V) (h:Two B w V X lo li) (hB:B≤w.heap.size) (g:Nat) (hg:Blk w g 44 (ov y)) (hx:a.eval x= .slice (some ⟨g,0,none⟩) 1 1) (hl:lo.length≤100000) (W0:World) (h0:Below W0.heap.size W0 w) (hW:W0.heap.size≤B)
  (Z:Nat) (T:TypeId) (cs:Array Value) (hz:Blk w Z T cs) (hzn:some Z≠V.ownBlock)
  (k:∀V' w',Two B w' V' X (lo++[y]) li→Below W0.heap.size W0 w'→Blk w' Z T cs→B≤w'.heap.size→wpList Tryz.prog ops Q rest (a.put o.dst V') w'):wpList Tryz.prog ops Q (o::rest) a w:=by
 obtain ⟨ie,hq,hz0,s1,b1⟩:=qY
 refine wpList_append_own_at _ hgd s x 67 ho B 44 ie (.agg (ov (.none 0))) 38 ie.bytes Tryz.underlying67 hq hz0 s1 rfl (aB _) (by decide) V lo.length (cZ lo) hs h.o ⟨g,0,none⟩ 1 1 (cZ [y]) hx (lI _) ?_ ?_ ?_ ?_ hB ?_
 ·intro j u hu
  rw [pM] at hu
  rw [L4.iL,hg.cell];simpa using hu
 ·exact fun u hu=>cellsO_cell u _ hu
 ·unfold maxLen;omega
 ·have:(lo.length+1) * ie.bytes≤100001 * 1000:=Nat.mul_le_mul (by omega) b1
  omega
 ·intro v' w' own grow _ loc
  refine k v' w' ⟨?_,World.ownsRow.kept h.i grow h.ne,?_⟩ (h0.grown grow h0.size fun i hi=>Nat.le_trans hW (jF h.o i hi)) (hz.grown grow hzn) (Nat.le_trans hB grow.size)
  ·show w'.ownsRow _ _ 38 v' (lo++[y]).length _
   rw [List.length_append,cellsO_append]
   exact own
  ·rcases loc with e | e
   ·rw [e];exact h.ne
   ·rw [e]
    cases hX:X.ownBlock with
    | none=>exact .inl rfl
    | some i=>
     refine .inr fun q=>?_
     injection q with q
     have:=(World.ownsRow.lt h.i i hX).2
     omega
theorem app_two_i {ops:Array Oper} {rest:List Oper} {o:Oper} {a:Act} {w:World} {Q:Exit→Act→World→Prop} (hgd:o.guard=none) (s x:Operand) (ho:o.op= .call { callee:=.builtin .append,args:=#[s,x],argTypes:=#[72,72] })
  (B:Nat) (V X:Value) (lo:List Op) (li:List L4.It) (y:L4.It) (hs:a.eval s=X) (h:Two B w V X lo li) (hB:B≤w.heap.size) (g:Nat) (hg:Blk w g 53 (itv y)) (hx:a.eval x= .slice (some ⟨g,0,none⟩) 1 1) (hl:li.length≤90000) (W0:World) (h0:Below W0.heap.size W0 w) (hW:W0.heap.size≤B)
  (k:∀X' w',Two B w' V X' lo (li++[y])→Below W0.heap.size W0 w'→B≤w'.heap.size→wpList Tryz.prog ops Q rest (a.put o.dst X') w'):wpList Tryz.prog ops Q (o::rest) a w:=by
 obtain ⟨ie,hq,hz0,s1,b1⟩:=mG
 refine wpList_append_own_at _ hgd s x 72 ho B 53 ie (.agg (itv (0,⟨#[]⟩))) 2 ie.bytes Tryz.underlying72 hq hz0 s1 rfl rfl (by decide) X li.length (L4.cellsOf li) hs h.i ⟨g,0,none⟩ 1 1 (L4.cellsOf [y]) hx (L4.cellsOf_length _) ?_ ?_ ?_ ?_ hB ?_
 ·intro j u hu
  rw [L4.iL,hg.cell];simpa [L4.cellsOf] using hu
 ·exact fun u hu=>L4.kW u _ hu
 ·unfold maxLen;omega
 ·have:(li.length+1) * ie.bytes≤90001 * 1000:=Nat.mul_le_mul (by omega) b1
  omega
 ·intro v' w' own grow _ loc
  have hne:V.ownBlock=none∨V.ownBlock≠X.ownBlock:=by
   cases hV:V.ownBlock with
   | none=>exact .inl rfl
   | some i=>
    right
    intro e
    rcases h.ne with q | q
    ·rw [q] at e;cases e
    ·exact q (by rw [←e,hV])
  refine k v' w' ⟨World.ownsRow.kept h.o grow hne,?_,?_⟩ (h0.grown grow h0.size fun i hi=>Nat.le_trans hW (jF h.i i hi)) (Nat.le_trans hB grow.size)
  ·show w'.ownsRow _ _ 2 v' (li++[y]).length _
   rw [List.length_append,L4.fU]
   exact own
  ·rcases loc with e | e
   ·rw [e];exact h.ne
   ·rw [e]
    refine .inr fun q=>?_
    have:=(World.ownsRow.lt h.o w.heap.size q.symm).2
    omega
theorem mP {P':Unit} {o:Oper} {a:Act} {w:World} {K:Act→World→Prop} {Q:Exit→Act→World→Prop} (s x:Operand) (ho:o.op= .call { callee:=.builtin .append,args:=#[s,x],argTypes:=#[72,72] })
  (B:Nat) (v:Value) (l ys:List L4.It) (hs:a.eval s=v) (h:vZ B w v l) (hB:B≤w.heap.size) (y:Value) (hr:L4.Row w y ys) (hx:a.eval x=y) (hl:l.length+ys.length≤90000)
  (k:∀v' w',vZ B w' v' (l++ys)→w.grownBy w' v.ownBlock→K (a.put o.dst v') w'):o.wp Tryz.prog a w K Q:=by
 obtain ⟨ie,hq,hz0,s1,b1⟩:=mG
 obtain ⟨p,cap,hy,hlc,hcap,hc⟩:=hr
 subst hy
 cases p with
 | none=>
  have hy0:ys=[]:=by
   cases ys with
   | nil=>rfl
   | cons q r=>obtain ⟨ad,e,_⟩:=hc 0 q rfl;cases e
  subst hy0
  have hr:(Builtin.append_ #[72,72] o.type #[v,.slice none ([]:List L4.It).length cap]).run Tryz.prog w= .ok v w:=by
   have hu:Tryz.prog.underlying 72=some (.slice 53):=Tryz.underlying72
   have hsz:(sizeOf 53).run Tryz.prog w= .ok 2 w:=by kernel_rfl
   rcases id h.2 with ⟨rfl,h0⟩ | ⟨g,cap',cur,rfl,hb,hgg,hn,hm,hs',ht⟩
   ·simp [Builtin.append_,go_sem,hu,run_underlying hu w,hsz]
   ·simp [Builtin.append_,go_sem,hu,run_underlying hu w,hsz,hn]
  unfold Oper.wp execOp
  simp only [ho,resolve,invoke,builtin,Sem.run_bind,Sem.run_pure,Result.andThen_ok,List.map_toArray,List.map_cons,List.map_nil,hs,hx,hr]
  exact k v w (by rw [List.append_nil];exact h) (World.grownBy.refl _ _)
 | some ad=>
  refine wp_append_own w s x 72 ho B 53 ie (.agg (itv (0,⟨#[]⟩))) 2 ie.bytes Tryz.underlying72 hq hz0 s1 rfl rfl (by decide) v l.length (L4.cellsOf l) hs h ad ys.length cap (L4.cellsOf ys) hx (L4.cellsOf_length _) ?_ (fun u hu=>L4.kW u _ hu) (by unfold maxLen;omega) ?_ hB ?_
  ·intro j u hu
   have hj:j < ys.length * 2:=by have:=(List.getElem?_eq_some_iff.1 hu).1;rw [L4.cellsOf_length] at this;exact this
   obtain ⟨q,hq2⟩:∃q,ys[j / 2]?=some q:=⟨_,List.getElem?_eq_getElem (by omega)⟩
   obtain ⟨ad',e,_,c0,c1⟩:=hc (j / 2) q hq2
   injection e with e
   subst e
   obtain ⟨d0,d1⟩:=L4.kV ys (j / 2) q hq2
   rcases Nat.mod_two_eq_zero_or_one j with e2 | e2
   ·have e3:j=j / 2 * 2:=by omega
    rw [e3] at hu ⊢
    rw [d0] at hu
    injection hu with hu
    subst hu
    exact c0
   ·have e3:j=j / 2 * 2+1:=by omega
    have e4:ad.add j=⟨(ad.add (j / 2 * 2)).block,(ad.add (j / 2 * 2)).off+1,none⟩:=by
     unfold Addr.add
     rw [if_neg (by omega)]
     split
     ·rename_i z;congr 1;omega
     ·congr 1;show ad.off+j=ad.off+j / 2 * 2+1;omega
    rw [e4]
    rw [e3,d1] at hu
    injection hu with hu
    subst hu
    exact c1
  ·have:(l.length+ys.length) * ie.bytes≤90000 * 1000:=Nat.mul_le_mul hl b1
   omega
  ·intro v' w' own grow _
   refine k v' w' ?_ grow
   show w'.ownsRow _ _ 2 v' (l++ys).length _
   rw [List.length_append,L4.fU]
   exact own
theorem add_add (a:Addr) (m n:Nat):(a.add m).add n=a.add (m+n):=by
 unfold Addr.add
 by_cases h1:m=0
 ·subst h1;rw [if_pos rfl,Nat.zero_add]
 ·rw [if_neg h1]
  by_cases h2:n=0
  ·subst h2;rw [if_pos rfl,if_neg (by omega),Nat.add_zero]
  ·rw [if_neg h2,if_neg (by omega)];congr 1;show a.off+m+n=_;omega
def bk (p:Option Addr) (cap k:Nat):Option Addr:=if cap=k then p else p.map (·.add (k * 2))
theorem Row_back {w:World} {p:Option Addr} {n cap:Nat} {l:List L4.It} (h:L4.Row w (.slice p n cap) l) (k:Nat) (hk:k≤n):L4.Row w (.slice (bk p cap k) (n - k) (cap - k)) (l.drop k):=by
 obtain ⟨p',cap',hv,hl,hm,hc⟩:=h
 injection hv with e1 e2 e3
 subst e1;subst e2;subst e3
 refine ⟨_,_,by rw [List.length_drop],by rw [List.length_drop];omega,by omega,fun i x hx=>?_⟩
 rw [List.getElem?_drop] at hx
 have hlt:=(List.getElem?_eq_some_iff.1 hx).1
 obtain ⟨ad,hp,hg,c0,c1⟩:=hc (k+i) x hx
 refine ⟨ad.add (k * 2),?_,by rw [block_add];exact hg,?_,?_⟩
 ·unfold bk;rw [if_neg (by omega),hp];rfl
 ·rw [add_add,show k * 2+i * 2=(k+i) * 2 by omega];exact c0
 ·rw [add_add,show k * 2+i * 2=(k+i) * 2 by omega];exact c1
theorem slice_front_i (w:World) (p:Option Addr) (n k cap:Nat) (hk:k≤cap):(Instr.sliceAt 72 (.slice p n cap) none (some (.int .i64 (k:Int))) none).run Tryz.prog w= .ok (.slice p k cap) w:=by
 have e2:(sizeOf (Tryz.prog.elem 72)).run Tryz.prog w= .ok 2 w:=by kernel_rfl
 have hu:Tryz.prog.underlying 72=some (.slice (Tryz.prog.elem 72)):=by kernel_rfl
 have e:(p.map fun a:Addr=>a.add 0)=p:=by cases p<;>rfl
 have l2:(k:Int)≤(cap:Int):=by omega
 rw [run_sliceAt_slice w _ _ _ _ _ hu]
 simp [go_sem,l2,e2,e]
 try (cases p<;>rfl)
theorem slice_back_i (w:World) (p:Option Addr) (n k cap:Nat) (hk:k≤n) (hn:n≤cap):(Instr.sliceAt 72 (.slice p n cap) (some (.int .i64 (k:Int))) none none).run Tryz.prog w= .ok (.slice (bk p cap k) (n - k) (cap - k)) w:=by
 have e2:(sizeOf (Tryz.prog.elem 72)).run Tryz.prog w= .ok 2 w:=by kernel_rfl
 have hu:Tryz.prog.underlying 72=some (.slice (Tryz.prog.elem 72)):=by kernel_rfl
 have l2:(k:Int)≤(n:Int):=by omega
 have l3:(n:Int)≤(cap:Int):=by omega
 rw [run_sliceAt_slice w _ _ _ _ _ hu]
 simp [go_sem,l2,l3,hk,hn,e2,bk]
theorem built_none (w:World):(Instr.buildSlice 72 0 #[]).run Tryz.prog w= .ok (.slice (some ⟨w.heap.size,0,none⟩) 0 0) (w.alloc (.cells #[] 53)):=by kernel_rfl
theorem ex_built_none {ρ:Operand→Value} {o:Oper} (w:World) (ho:o.op= .buildSlice 72 0 #[]:=by kernel_rfl):(execOp ρ o).run Tryz.prog w= .ok (.value (.slice (some ⟨w.heap.size,0,none⟩) 0 0)) (w.alloc (.cells #[] 53)):=by
 have h:=built_none w
 unfold execOp
 rw [ho]
 simp [h]
theorem first_byte (C:UInt8) (F:ByteArray):byteAt (txt [C]++F) 0=C.toNat:=by
 unfold byteAt
 rw [ByteArray.data_append]
 simp [txt]
theorem front4 (s:ByteArray):∃(m:Nat) (F:ByteArray),s.extract 0 m=F∧min (s.size:Int) 4=(m:Int)∧(m:Int)≤s.size∧F.size≤4:=
 ⟨min s.size 4,_,rfl,by omega,by omega,by rw [ByteArray.size_extract];omega⟩
theorem pass_all (L:List Op) (h:∀x∈L,x.Ok∧jH x) (o1 o2:L4.It) (h1:(gU o1.1 o1.2).2=7) (h2:(gU o2.1 o2.2).2=7) (m1:L4.may o1=true) (m2:L4.may o2=true) (k:Nat) (hw:L4.wide [o1,o2]+L4.wide (L.map it)≤40) (A:List L4.It) (hA:A=(L.map it).take k++[o1,o2]++(L.map it).drop k):
  (L4.laid A).2=0∧wB (L4.laid A).1=(L,0)∧(L4.laid (L.map it)).1.size≤(L4.laid A).1.size∧(L4.laid (L.map it)).2=0:=by
 have hm:(L.map it).all L4.may=true:=List.all_eq_true.2 (fun y hy=>by obtain ⟨x,hx,rfl⟩:=List.mem_map.1 hy;exact it_may (h x hx).2)
 have hwA:L4.wide A=L4.wide [o1,o2]+L4.wide (L.map it):=by
  have q:=L4.iG ((L.map it).take k) ((L.map it).drop k)
  rw [List.take_append_drop] at q
  rw [hA,L4.iG,L4.iG,q];omega
 have hmA:A.all L4.may=true:=by
  rw [hA,List.all_append,List.all_append]
  have a1:((L.map it).take k).all L4.may=true:=List.all_eq_true.2 fun y hy=>List.all_eq_true.1 hm y (List.mem_of_mem_take hy)
  have a2:((L.map it).drop k).all L4.may=true:=List.all_eq_true.2 fun y hy=>List.all_eq_true.1 hm y (List.mem_of_mem_drop hy)
  rw [a1,a2]
  simp [m1,m2]
 have sA:=L4.pI A
 have sL:=L4.pI (L.map it)
 rw [L4.lN A hmA (by omega)] at sA
 rw [L4.lN _ hm (by omega)] at sL
 refine ⟨sA.2,?_,?_,sL.2⟩
 ·rw [allO_t (L4.read_laid A hmA (by omega)),hA,←List.map_take,←List.map_drop,List.append_assoc,mW (L.take k) _ [] (fun x hx=>h x (List.mem_of_mem_take hx))]
  show keep (o1::o2::(L.drop k).map it) _=_
  rw [yZ _ _ h1,yZ _ _ h2,←List.append_nil ((L.drop k).map it),mW (L.drop k) [] _ (fun x hx=>h x (List.mem_of_mem_drop hx)),List.nil_append,List.take_append_drop]
  rfl
 ·have a:=sA.1
  have b:=sL.1
  have p1:L4.pad (L4.wide (L.map it))≤L4.pad (L4.wide A):=by rw [hwA];unfold L4.pad;omega
  show (L4.laid (L.map it)).1.size≤(L4.laid A).1.size
  have a':((L4.laid A).1.size:Int)=(L4.pad (L4.wide A):Int):=a
  have b':((L4.laid (L.map it)).1.size:Int)=(L4.pad (L4.wide (L.map it)):Int):=b
  omega
end Go.Proofs.YtnlhhjhidkjlbaaGreatDoor.L14
