/-
  The chapter's examples; each rank; options that may not be; rooms below 0, and great ones; as many as there is room for (statement PackKnown, promises P15.1, P15.2), without condition but the variables' own initial values, which the card ties to the program's text.
-/
import Derived.Test.YtklakghlliihkaaGreatDoorPkBase
import Derived.Test.YtklakghlliihkaaGreatDoorPkOpt1
import Derived.Deep.CutBlock
set_option maxHeartbeats 4000000
set_option maxRecDepth 100000
set_option linter.unusedVariables false
set_option linter.unusedSimpArgs false
namespace Go.Proofs.YtklakghlliihkaaGreatDoor.L14.packKnown
open Go Go.Proofs.YtklakghlliihkaaGreatDoor.L15 Go.ChangeShapes Go.WideShapes Go.ChangeAt Go.RowKit
def qb:Op:=.none 9
def qo:Op:={ Op.none 5 with fa:=1 }
theorem qb_ok:qb.Ok:=none_ok 9 (by decide)
theorem qo_ok:qo.Ok:=by
 have z:=Op.dD
 exact ⟨by decide,z.cap,z.jn,z.ds,z.ad,z.rm,by decide,z.fs,z.rf,z.rr⟩
theorem qb_code:qb.body.2=2:=by kernel_rfl
theorem qo_has:qo.has.fa=0:=by kernel_rfl
theorem sz_qb:szO qb=0:=rF fun h=>by have e:=h.1;rw [qb_code] at e;exact absurd e (by decide)
theorem sz_qo:szO qo=0:=rF fun h=>by have e:=congrArg Op.fa h.2;rw [qo_has] at e;exact absurd e (by decide)
def l6:List Op:=[qb,q2,q2,qo,q2,q2]
theorem l6_ok:∀x∈l6,x.Ok:=fun x hx=>by
 rcases List.mem_cons.1 hx with rfl | hx
 ·exact qb_ok
 rcases List.mem_cons.1 hx with rfl | hx
 ·exact oH
 rcases List.mem_cons.1 hx with rfl | hx
 ·exact oH
 rcases List.mem_cons.1 hx with rfl | hx
 ·exact qo_ok
 rcases List.mem_cons.1 hx with rfl | hx
 ·exact oH
 rw [List.mem_singleton.1 hx];exact oH
def s6:Nat→Nat:=fun i=>[0,12,12,0,12,12].getD i 0
def r6:Nat→Nat:=fun i=>[9,3,3,8,3,3].getD i 0
theorem rG:∀i,i < l6.length→szL l6 i=s6 i:=fun i hi=>by
 match i,hi with
 | 0,_=>exact sz_qb
 | 1,_=>exact oK
 | 2,_=>exact oK
 | 3,_=>exact sz_qo
 | 4,_=>exact oK
 | 5,_=>exact oK
theorem jY:rkL l6 0=r6 0∧rkL l6 1=r6 1∧rkL l6 2=r6 2∧rkL l6 3=r6 3∧rkL l6 4=r6 4∧rkL l6 5=r6 5:=⟨by kernel_rfl,by kernel_rfl,by kernel_rfl,by kernel_rfl,by kernel_rfl,by kernel_rfl⟩
theorem rD:∀i,i < l6.length→rkL l6 i=r6 i:=fun i hi=>by
 match i,hi with
 | 0,_=>exact jY.1
 | 1,_=>exact jY.2.1
 | 2,_=>exact jY.2.2.1
 | 3,_=>exact jY.2.2.2.1
 | 4,_=>exact jY.2.2.2.2.1
 | 5,_=>exact jY.2.2.2.2.2
theorem l6_big:taken l6 4611686018427387904=[q2,q2,q2]∧eH l6 4611686018427387904=[q2]:=by
 rw [iE s6 r6 rG rD,left_of s6 r6 rG rD]
 exact ⟨by kernel_rfl,by kernel_rfl⟩
theorem l6_low:taken l6 (-9223372036854775808)=[]∧eH l6 (-9223372036854775808)=[q2,q2,q2,q2]:=by
 rw [iE s6 r6 rG rD,left_of s6 r6 rG rD]
 exact ⟨by kernel_rfl,by kernel_rfl⟩
theorem l6_nil:taken [] 40=[]∧eH [] 40=[]:=⟨by kernel_rfl,by kernel_rfl⟩
def qe:Op:=.ad_ ⟨true,0,⟨#[]⟩,false,0,⟨#[]⟩⟩
def sG:List Op:=[q1,.none 1,.none 7,.none 6,.none 8,qe,.none 3,.none 4,.none 5,qb]
theorem row10_rk0:(sG.map rkO)=[0,1,2,3,4,5,6,7,8,9]:=by kernel_rfl
theorem row10_rk (j:Nat) (x:Op) (h:sG[j]?=some x):rkO x=j:=by
 have hj:j < 10:=(List.getElem?_eq_some_iff.1 h).1
 have e:(sG.map rkO)[j]?=some (rkO x):=by rw [List.getElem?_map,h];rfl
 rw [row10_rk0] at e
 have h9:j=0∨j=1∨j=2∨j=3∨j=4∨j=5∨j=6∨j=7∨j=8∨j=9:=by omega
 rcases h9 with rfl | rfl | rfl | rfl | rfl | rfl | rfl | rfl | rfl | rfl<;>exact (Option.some.inj e).symm
theorem walk (w:World) (ht:L10.Tbl w∧Hnd w):
  Calls Tryz.prog 7 #[] w (Rt w (.bool true)):=by
 have HT:=Lh ht.1
 have HH:=Lh ht.2
 obtain ⟨x0,h0⟩:∃x,x=q0:=⟨_,rfl⟩
 obtain ⟨x1,h1⟩:∃x,x=q1:=⟨_,rfl⟩
 obtain ⟨x2,h2⟩:∃x,x=q2:=⟨_,rfl⟩
 obtain ⟨x3,h3⟩:∃x,x=q3:=⟨_,rfl⟩
 obtain ⟨A4,hA⟩:∃A,A=av4:=⟨_,rfl⟩
 have HA4:=Lh hA
 have HQ0:=Lh h0
 have HQ1:=Lh h1
 have HQ2:=Lh h2
 have HQ3:=Lh h3
 obtain ⟨xb,hb⟩:∃x,x=qb:=⟨_,rfl⟩
 obtain ⟨xo,ho⟩:∃x,x=qo:=⟨_,rfl⟩
 have HQb:=Lh hb
 have HQo:=Lh ho
 have HOK:=Lh (show∀x∈[xb,x2,x2,xo,x2,x2],x.Ok by rw [hb,ho,h2];exact l6_ok)
 have HP4:=Lh (show taken [xb,x2,x2,xo,x2,x2] 4611686018427387904=[x2,x2,x2]∧eH [xb,x2,x2,xo,x2,x2] 4611686018427387904=[x2] by rw [hb,ho,h2];exact l6_big)
 have HP1:=Lh (show taken [xb,x2,x2,xo,x2,x2] (-9223372036854775808)=[]∧eH [xb,x2,x2,xo,x2,x2] (-9223372036854775808)=[x2,x2,x2,x2] by rw [hb,ho,h2];exact l6_low)
 have HRT:=Lh (show∀j x,([x1,.none 1,.none 7,.none 6,.none 8,qe,.none 3,.none 4,.none 5,xb]:List Op)[j]?=some x→rkO x=j by rw [h1,hb];exact row10_rk)
 clear ht h0 h1 h2 h3 hA hb ho
 go_enter Tryz.func7,Tryz.ntmps7
 go_wp2_with fail
 refine (answer (some_t w) (v':=.agg A4) (by rw [HA4.out])).mono ?_
 rintro e U1 ⟨rfl,q⟩
 have sD:=Lh (q)
 clear q
 go_upto_region 2 with (refine wp_var4 rfl 1 rfl rfl rfl (.tmp 13) rfl A4 HA4.out (fun _=>by kernel_rfl) (fun _=>by kernel_rfl) ?_;intro V2 Xx hb hB hx;have oM:=Lh hb;have rJ:=Lh (sD.out.trans (hB.mono sD.out.size));clear hb hB hx)
 go_upto_region 3 with (first
    | (refine wp_varO rfl rfl 2 rfl rfl _ rfl xb (fun _=>by kernel_rfl) (fun _=>by kernel_rfl) ?_;intro V3 Xb hb hB hx;have Hb_3:=Lh hb;have Gb:=Lh (Nat.le_trans rJ.out.size hx);have nZ:=Lh (rJ.out.trans (hB.mono rJ.out.size));have rU:=Lh (oM.out.below hB oM.out.lt);clear hb hB hx)
    | (refine jX rfl #[(0,.const (.int .i64 9))] rfl xb (by intro w;rw [HQb.out];kernel_rfl) ?_))
 go_upto_region 4 with (first
    | (refine wp_varO rfl rfl 3 rfl rfl _ rfl xo (fun _=>by kernel_rfl) (fun _=>by kernel_rfl) ?_;intro V4 Xo hb hB hx;have uP:=Lh hb;have Go:=Lh (Nat.le_trans nZ.out.size hx);have qJ:=Lh (nZ.out.trans (hB.mono nZ.out.size));have nG:=Lh (rU.out.below hB rU.out.lt);have uJ:=Lh (Hb_3.out.below hB Hb_3.out.lt);clear hb hB hx)
    | (refine jX rfl #[(0,.const (.int .i64 5)),(7,.tmp 15)] rfl xo (by intro w;rw [HQo.out];kernel_rfl) ?_))
 refine wp_region_lit ?_
 refine sqG (.agg (ov xb)) (by exact xRw 45 (.tmp 2) Xb uJ.out Tryz.underlying45 (aJ xb)) ?_
 refine sqG (.pointer (some ⟨Xx,76,none⟩)) (by exact lG 1 Xx) ?_
 refine sqG (.agg (ov x2)) (by exact lM 18 Xx A4 x2 nG.out HA4.out HQ2.out) ?_
 refine sqG (.pointer (some ⟨Xx,76,none⟩)) (by exact lG 1 Xx) ?_
 refine cZ ⟨List.toArray (Value.bool false::Value.pointer (some ⟨Xx,0,none⟩)::Value.pointer (some ⟨Xb,0,none⟩)::Value.pointer (some ⟨Xo,0,none⟩)::undef::undef::undef::undef::undef::undef::undef::undef::undef::Value.agg A4::Value.agg (ov xb)::Value.agg #[.int .u64 1]::Value.agg (ov xo)::Value.agg (ov xb)::Value.pointer (some ⟨Xx,76,none⟩)::Value.agg (ov x2)::Value.pointer (some ⟨Xx,76,none⟩)::undef::undef::undef::undef::undef::undef::undef::undef::undef::undef::undef::undef::undef::undef::undef::undef::undef::undef::undef::undef::undef::undef::undef::undef::undef::undef::undef::undef::undef::undef::undef::undef::undef::undef::undef::undef::undef::undef::undef::undef::undef::undef::undef::undef::undef::undef::undef::undef::undef::undef::undef::undef::undef::undef::undef::undef::undef::undef::undef::undef::undef::undef::undef::undef::undef::undef::undef::undef::undef::undef::undef::undef::undef::undef::undef::undef::undef::undef::undef::undef::undef::undef::undef::undef::undef::undef::undef::undef::undef::undef::undef::undef::undef::undef::undef::undef::undef::undef::undef::undef::undef::[]),[]⟩ ?_
 refine sqG (.agg (ov x2)) (by exact lM 20 Xx A4 x2 nG.out HA4.out HQ2.out) ?_
 refine sqG (.agg (ov xo)) (by exact xRw 45 (.tmp 3) Xo uP.out Tryz.underlying45 (aJ xo)) ?_
 refine sqG (.pointer (some ⟨Xx,76,none⟩)) (by exact lG 1 Xx) ?_
 refine sqG (.agg (ov x2)) (by exact lM 23 Xx A4 x2 nG.out HA4.out HQ2.out) ?_
 refine cZ ⟨List.toArray (Value.bool false::Value.pointer (some ⟨Xx,0,none⟩)::Value.pointer (some ⟨Xb,0,none⟩)::Value.pointer (some ⟨Xo,0,none⟩)::undef::undef::undef::undef::undef::undef::undef::undef::undef::Value.agg A4::Value.agg (ov xb)::Value.agg #[.int .u64 1]::Value.agg (ov xo)::Value.agg (ov xb)::Value.pointer (some ⟨Xx,76,none⟩)::Value.agg (ov x2)::Value.pointer (some ⟨Xx,76,none⟩)::Value.agg (ov x2)::Value.agg (ov xo)::Value.pointer (some ⟨Xx,76,none⟩)::Value.agg (ov x2)::undef::undef::undef::undef::undef::undef::undef::undef::undef::undef::undef::undef::undef::undef::undef::undef::undef::undef::undef::undef::undef::undef::undef::undef::undef::undef::undef::undef::undef::undef::undef::undef::undef::undef::undef::undef::undef::undef::undef::undef::undef::undef::undef::undef::undef::undef::undef::undef::undef::undef::undef::undef::undef::undef::undef::undef::undef::undef::undef::undef::undef::undef::undef::undef::undef::undef::undef::undef::undef::undef::undef::undef::undef::undef::undef::undef::undef::undef::undef::undef::undef::undef::undef::undef::undef::undef::undef::undef::undef::undef::undef::undef::undef::undef::undef::undef::undef::[]),[]⟩ ?_
 refine sqG (.pointer (some ⟨Xx,76,none⟩)) (by exact lG 1 Xx) ?_
 refine sqG (.agg (ov x2)) (by exact lM 25 Xx A4 x2 nG.out HA4.out HQ2.out) ?_
 refine sqO 6 #[(0,.tmp 17),(1,.tmp 19),(2,.tmp 21),(3,.tmp 22),(4,.tmp 24),(5,.tmp 26)] [xb,x2,x2,xo,x2,x2] (show 0 < 6 by decide) (show 6≤1000 by decide) rfl ?_
 intro V5 Xl hr hB
 have sK:=Lh hr
 have mZ:=Lh (qJ.out.trans (hB.mono qJ.out.size))
 have sH:=Lh (nG.out.below hB nG.out.lt)
 have Hb_5:=Lh (uJ.out.below hB uJ.out.lt)
 have Ho_5:=Lh (uP.out.below hB uP.out.lt)
 clear hr hB
 refine sqF (.slice (some ⟨Xl,0,none⟩) 6 6) ?_
 refine cZ ⟨List.toArray (Value.bool false::Value.pointer (some ⟨Xx,0,none⟩)::Value.pointer (some ⟨Xb,0,none⟩)::Value.pointer (some ⟨Xo,0,none⟩)::Value.slice (some ⟨Xl,0,none⟩) 6 6::undef::undef::undef::undef::undef::undef::undef::undef::Value.agg A4::Value.agg (ov xb)::Value.agg #[.int .u64 1]::Value.agg (ov xo)::Value.agg (ov xb)::Value.pointer (some ⟨Xx,76,none⟩)::Value.agg (ov x2)::Value.pointer (some ⟨Xx,76,none⟩)::Value.agg (ov x2)::Value.agg (ov xo)::Value.pointer (some ⟨Xx,76,none⟩)::Value.agg (ov x2)::Value.pointer (some ⟨Xx,76,none⟩)::Value.agg (ov x2)::Value.slice (some ⟨Xl,0,none⟩) 6 6::undef::undef::undef::undef::undef::undef::undef::undef::undef::undef::undef::undef::undef::undef::undef::undef::undef::undef::undef::undef::undef::undef::undef::undef::undef::undef::undef::undef::undef::undef::undef::undef::undef::undef::undef::undef::undef::undef::undef::undef::undef::undef::undef::undef::undef::undef::undef::undef::undef::undef::undef::undef::undef::undef::undef::undef::undef::undef::undef::undef::undef::undef::undef::undef::undef::undef::undef::undef::undef::undef::undef::undef::undef::undef::undef::undef::undef::undef::undef::undef::undef::undef::undef::undef::undef::undef::undef::undef::undef::undef::undef::undef::undef::undef::[]),[]⟩ ?_
 refine oI ⟨List.toArray (Value.bool false::Value.pointer (some ⟨Xx,0,none⟩)::Value.pointer (some ⟨Xb,0,none⟩)::Value.pointer (some ⟨Xo,0,none⟩)::Value.slice (some ⟨Xl,0,none⟩) 6 6::undef::undef::undef::undef::undef::undef::undef::undef::Value.agg A4::Value.agg (ov xb)::Value.agg #[.int .u64 1]::Value.agg (ov xo)::Value.agg (ov xb)::Value.pointer (some ⟨Xx,76,none⟩)::Value.agg (ov x2)::Value.pointer (some ⟨Xx,76,none⟩)::Value.agg (ov x2)::Value.agg (ov xo)::Value.pointer (some ⟨Xx,76,none⟩)::Value.agg (ov x2)::Value.pointer (some ⟨Xx,76,none⟩)::Value.agg (ov x2)::Value.slice (some ⟨Xl,0,none⟩) 6 6::undef::undef::undef::undef::undef::undef::undef::undef::undef::undef::undef::undef::undef::undef::undef::undef::undef::undef::undef::undef::undef::undef::undef::undef::undef::undef::undef::undef::undef::undef::undef::undef::undef::undef::undef::undef::undef::undef::undef::undef::undef::undef::undef::undef::undef::undef::undef::undef::undef::undef::undef::undef::undef::undef::undef::undef::undef::undef::undef::undef::undef::undef::undef::undef::undef::undef::undef::undef::undef::undef::undef::undef::undef::undef::undef::undef::undef::undef::undef::undef::undef::undef::undef::undef::undef::undef::undef::undef::undef::undef::undef::undef::undef::undef::[]),[]⟩ ?_
 go_wp2_with fail
 refine (fM (.slice (some ⟨Xl,0,none⟩) 6 6) [xb,x2,x2,xo,x2,x2] (show 6 < 40 by decide) HOK.out 4611686018427387904 (by decide) V5 (mY.any sK.out) (HT.out.below mZ.out) (HH.out.below mZ.out)).mono ?_
 rintro e U6 ⟨va1,vb1,rfl,hra,hrb,q⟩
 have HA1:=Lh (show aQ U6 va1 [x2,x2,x2] by rw [←HP4.out.1];exact hra)
 have HB1:=Lh (show aQ U6 vb1 [x2] by rw [←HP4.out.2];exact hrb)
 have mW:=Lh (mZ.out.trans (q.mono mZ.out.size))
 have rM:=Lh (sH.out.below q sH.out.lt)
 have Hb_6:=Lh (Hb_5.out.below q Hb_5.out.lt)
 have Ho_6:=Lh (Ho_5.out.below q Ho_5.out.lt)
 have uB:=Lh (sK.out.below q)
 clear q
 clear hra hrb
 go_wp2_with fail
 refine (fM (.slice (some ⟨Xl,0,none⟩) 6 6) [xb,x2,x2,xo,x2,x2] (show 6 < 40 by decide) HOK.out (-9223372036854775808) (by decide) U6 (mY.any uB.out) (HT.out.below mW.out) (HH.out.below mW.out)).mono ?_
 rintro e U7 ⟨va2,vb2,rfl,hra,hrb,q⟩
 have HA2:=Lh (show aQ U7 va2 [] by rw [←HP1.out.1];exact hra)
 have HB2:=Lh (show aQ U7 vb2 [x2,x2,x2,x2] by rw [←HP1.out.2];exact hrb)
 have pW:=Lh (mW.out.trans (q.mono mW.out.size))
 have pF:=Lh (rM.out.below q rM.out.lt)
 have uU:=Lh (Hb_6.out.below q Hb_6.out.lt)
 have Ho_7:=Lh (Ho_6.out.below q Ho_6.out.lt)
 have Hl_7:=Lh (uB.out.below q)
 have rP:=Lh (HA1.out.below q)
 have rV:=Lh (HB1.out.below q)
 clear q
 obtain ⟨pa2,ca2,ea2, -, -, -⟩:=id HA2.out
 have ea2:va2= .slice pa2 ([]:List Op).length ca2:=ea2
 have ea2:va2= .slice pa2 0 ca2:=ea2
 subst ea2
 obtain ⟨pb2,cb2,eb2, -, -, -⟩:=id HB2.out
 have eb2:vb2= .slice pb2 ([x2,x2,x2,x2]:List Op).length cb2:=eb2
 have eb2:vb2= .slice pb2 4 cb2:=eb2
 subst eb2
 clear hra hrb
 go_upto_region 7 with fail
 refine wp_region_lit ?_
 refine sqG (.pointer (some ⟨Xx,38,none⟩)) (by exact sU 1 Xx) ?_
 refine sqG (.agg (ov x1)) (by exact sN 38 Xx A4 x1 pF.out HA4.out HQ1.out) ?_
 refine sqF (.agg (ov (.none 1))) ?_
 refine sqF (.agg (ov (.none 7))) ?_
 refine cZ ⟨List.toArray (Value.bool false::Value.pointer (some ⟨Xx,0,none⟩)::Value.pointer (some ⟨Xb,0,none⟩)::Value.pointer (some ⟨Xo,0,none⟩)::Value.slice (some ⟨Xl,0,none⟩) 6 6::va1::vb1::Value.slice pa2 0 ca2::Value.slice pb2 4 cb2::undef::undef::undef::undef::Value.agg A4::Value.agg (ov xb)::Value.agg #[.int .u64 1]::Value.agg (ov xo)::Value.agg (ov xb)::Value.pointer (some ⟨Xx,76,none⟩)::Value.agg (ov x2)::Value.pointer (some ⟨Xx,76,none⟩)::Value.agg (ov x2)::Value.agg (ov xo)::Value.pointer (some ⟨Xx,76,none⟩)::Value.agg (ov x2)::Value.pointer (some ⟨Xx,76,none⟩)::Value.agg (ov x2)::Value.slice (some ⟨Xl,0,none⟩) 6 6::Value.tuple #[va1,vb1]::Value.slice (some ⟨Xl,0,none⟩) 6 6::Value.tuple #[va1,vb1]::va1::vb1::Value.tuple #[.slice pa2 0 ca2,.slice pb2 4 cb2]::Value.slice (some ⟨Xl,0,none⟩) 6 6::Value.tuple #[.slice pa2 0 ca2,.slice pb2 4 cb2]::Value.slice pa2 0 ca2::Value.slice pb2 4 cb2::Value.pointer (some ⟨Xx,38,none⟩)::Value.agg (ov x1)::Value.agg (ov (.none 1))::Value.agg (ov (.none 7))::undef::undef::undef::undef::undef::undef::undef::undef::undef::undef::undef::undef::undef::undef::undef::undef::undef::undef::undef::undef::undef::undef::undef::undef::undef::undef::undef::undef::undef::undef::undef::undef::undef::undef::undef::undef::undef::undef::undef::undef::undef::undef::undef::undef::undef::undef::undef::undef::undef::undef::undef::undef::undef::undef::undef::undef::undef::undef::undef::undef::undef::undef::undef::undef::undef::undef::undef::undef::undef::undef::undef::undef::undef::undef::undef::undef::undef::undef::undef::undef::[]),[]⟩ ?_
 refine sqF (.agg (ov (.none 6))) ?_
 refine sqF (.agg (ov (.none 8))) ?_
 refine sqF (.agg #[.bool true,.int .i64 0,.string ⟨#[]⟩,.bool false,.int .i64 0,.string ⟨#[]⟩]) ?_
 refine sqF (.agg (ov qe)) ?_
 refine cZ ⟨List.toArray (Value.bool false::Value.pointer (some ⟨Xx,0,none⟩)::Value.pointer (some ⟨Xb,0,none⟩)::Value.pointer (some ⟨Xo,0,none⟩)::Value.slice (some ⟨Xl,0,none⟩) 6 6::va1::vb1::Value.slice pa2 0 ca2::Value.slice pb2 4 cb2::undef::undef::undef::undef::Value.agg A4::Value.agg (ov xb)::Value.agg #[.int .u64 1]::Value.agg (ov xo)::Value.agg (ov xb)::Value.pointer (some ⟨Xx,76,none⟩)::Value.agg (ov x2)::Value.pointer (some ⟨Xx,76,none⟩)::Value.agg (ov x2)::Value.agg (ov xo)::Value.pointer (some ⟨Xx,76,none⟩)::Value.agg (ov x2)::Value.pointer (some ⟨Xx,76,none⟩)::Value.agg (ov x2)::Value.slice (some ⟨Xl,0,none⟩) 6 6::Value.tuple #[va1,vb1]::Value.slice (some ⟨Xl,0,none⟩) 6 6::Value.tuple #[va1,vb1]::va1::vb1::Value.tuple #[.slice pa2 0 ca2,.slice pb2 4 cb2]::Value.slice (some ⟨Xl,0,none⟩) 6 6::Value.tuple #[.slice pa2 0 ca2,.slice pb2 4 cb2]::Value.slice pa2 0 ca2::Value.slice pb2 4 cb2::Value.pointer (some ⟨Xx,38,none⟩)::Value.agg (ov x1)::Value.agg (ov (.none 1))::Value.agg (ov (.none 7))::Value.agg (ov (.none 6))::Value.agg (ov (.none 8))::Value.agg #[.bool true,.int .i64 0,.string ⟨#[]⟩,.bool false,.int .i64 0,.string ⟨#[]⟩]::Value.agg (ov qe)::undef::undef::undef::undef::undef::undef::undef::undef::undef::undef::undef::undef::undef::undef::undef::undef::undef::undef::undef::undef::undef::undef::undef::undef::undef::undef::undef::undef::undef::undef::undef::undef::undef::undef::undef::undef::undef::undef::undef::undef::undef::undef::undef::undef::undef::undef::undef::undef::undef::undef::undef::undef::undef::undef::undef::undef::undef::undef::undef::undef::undef::undef::undef::undef::undef::undef::undef::undef::undef::undef::undef::undef::undef::undef::undef::undef::[]),[]⟩ ?_
 refine sqF (.agg (ov (.none 3))) ?_
 refine sqF (.agg (ov (.none 4))) ?_
 refine sqF (.agg (ov (.none 5))) ?_
 refine sqG (.agg (ov xb)) (by exact xRw 45 (.tmp 2) Xb uU.out Tryz.underlying45 (aJ xb)) ?_
 refine cZ ⟨List.toArray (Value.bool false::Value.pointer (some ⟨Xx,0,none⟩)::Value.pointer (some ⟨Xb,0,none⟩)::Value.pointer (some ⟨Xo,0,none⟩)::Value.slice (some ⟨Xl,0,none⟩) 6 6::va1::vb1::Value.slice pa2 0 ca2::Value.slice pb2 4 cb2::undef::undef::undef::undef::Value.agg A4::Value.agg (ov xb)::Value.agg #[.int .u64 1]::Value.agg (ov xo)::Value.agg (ov xb)::Value.pointer (some ⟨Xx,76,none⟩)::Value.agg (ov x2)::Value.pointer (some ⟨Xx,76,none⟩)::Value.agg (ov x2)::Value.agg (ov xo)::Value.pointer (some ⟨Xx,76,none⟩)::Value.agg (ov x2)::Value.pointer (some ⟨Xx,76,none⟩)::Value.agg (ov x2)::Value.slice (some ⟨Xl,0,none⟩) 6 6::Value.tuple #[va1,vb1]::Value.slice (some ⟨Xl,0,none⟩) 6 6::Value.tuple #[va1,vb1]::va1::vb1::Value.tuple #[.slice pa2 0 ca2,.slice pb2 4 cb2]::Value.slice (some ⟨Xl,0,none⟩) 6 6::Value.tuple #[.slice pa2 0 ca2,.slice pb2 4 cb2]::Value.slice pa2 0 ca2::Value.slice pb2 4 cb2::Value.pointer (some ⟨Xx,38,none⟩)::Value.agg (ov x1)::Value.agg (ov (.none 1))::Value.agg (ov (.none 7))::Value.agg (ov (.none 6))::Value.agg (ov (.none 8))::Value.agg #[.bool true,.int .i64 0,.string ⟨#[]⟩,.bool false,.int .i64 0,.string ⟨#[]⟩]::Value.agg (ov qe)::Value.agg (ov (.none 3))::Value.agg (ov (.none 4))::Value.agg (ov (.none 5))::Value.agg (ov xb)::undef::undef::undef::undef::undef::undef::undef::undef::undef::undef::undef::undef::undef::undef::undef::undef::undef::undef::undef::undef::undef::undef::undef::undef::undef::undef::undef::undef::undef::undef::undef::undef::undef::undef::undef::undef::undef::undef::undef::undef::undef::undef::undef::undef::undef::undef::undef::undef::undef::undef::undef::undef::undef::undef::undef::undef::undef::undef::undef::undef::undef::undef::undef::undef::undef::undef::undef::undef::undef::undef::undef::undef::[]),[]⟩ ?_
 refine sqO 10 #[(0,.tmp 39),(1,.tmp 40),(2,.tmp 41),(3,.tmp 42),(4,.tmp 43),(5,.tmp 45),(6,.tmp 46),(7,.tmp 47),(8,.tmp 48),(9,.tmp 49)] [x1,.none 1,.none 7,.none 6,.none 8,qe,.none 3,.none 4,.none 5,xb] (show 0 < 10 by decide) (show 10≤1000 by decide) rfl ?_
 intro V8 Xr hr hB
 have Hr_8:=Lh hr
 have qO:=Lh (pW.out.trans (hB.mono pW.out.size))
 have rH:=Lh (pF.out.below hB pF.out.lt)
 have Hb_8:=Lh (uU.out.below hB uU.out.lt)
 have Ho_8:=Lh (Ho_7.out.below hB Ho_7.out.lt)
 have sF:=Lh (rP.out.below hB)
 have rZ:=Lh (rV.out.below hB)
 have tC:=Lh (HA2.out.below hB)
 have sV:=Lh (HB2.out.below hB)
 clear hr hB
 refine sqF (.slice (some ⟨Xr,0,none⟩) 10 10) ?_
 refine oI ⟨List.toArray (Value.bool false::Value.pointer (some ⟨Xx,0,none⟩)::Value.pointer (some ⟨Xb,0,none⟩)::Value.pointer (some ⟨Xo,0,none⟩)::Value.slice (some ⟨Xl,0,none⟩) 6 6::va1::vb1::Value.slice pa2 0 ca2::Value.slice pb2 4 cb2::Value.slice (some ⟨Xr,0,none⟩) 10 10::undef::undef::undef::Value.agg A4::Value.agg (ov xb)::Value.agg #[.int .u64 1]::Value.agg (ov xo)::Value.agg (ov xb)::Value.pointer (some ⟨Xx,76,none⟩)::Value.agg (ov x2)::Value.pointer (some ⟨Xx,76,none⟩)::Value.agg (ov x2)::Value.agg (ov xo)::Value.pointer (some ⟨Xx,76,none⟩)::Value.agg (ov x2)::Value.pointer (some ⟨Xx,76,none⟩)::Value.agg (ov x2)::Value.slice (some ⟨Xl,0,none⟩) 6 6::Value.tuple #[va1,vb1]::Value.slice (some ⟨Xl,0,none⟩) 6 6::Value.tuple #[va1,vb1]::va1::vb1::Value.tuple #[.slice pa2 0 ca2,.slice pb2 4 cb2]::Value.slice (some ⟨Xl,0,none⟩) 6 6::Value.tuple #[.slice pa2 0 ca2,.slice pb2 4 cb2]::Value.slice pa2 0 ca2::Value.slice pb2 4 cb2::Value.pointer (some ⟨Xx,38,none⟩)::Value.agg (ov x1)::Value.agg (ov (.none 1))::Value.agg (ov (.none 7))::Value.agg (ov (.none 6))::Value.agg (ov (.none 8))::Value.agg #[.bool true,.int .i64 0,.string ⟨#[]⟩,.bool false,.int .i64 0,.string ⟨#[]⟩]::Value.agg (ov qe)::Value.agg (ov (.none 3))::Value.agg (ov (.none 4))::Value.agg (ov (.none 5))::Value.agg (ov xb)::Value.slice (some ⟨Xr,0,none⟩) 10 10::undef::undef::undef::undef::undef::undef::undef::undef::undef::undef::undef::undef::undef::undef::undef::undef::undef::undef::undef::undef::undef::undef::undef::undef::undef::undef::undef::undef::undef::undef::undef::undef::undef::undef::undef::undef::undef::undef::undef::undef::undef::undef::undef::undef::undef::undef::undef::undef::undef::undef::undef::undef::undef::undef::undef::undef::undef::undef::undef::undef::undef::undef::undef::undef::undef::undef::undef::undef::undef::undef::undef::[]),[]⟩ ?_
 go_upto_block 0 with fail
 go_wp2_with fail
 go_loopw [10] (fun i wr=>∃j:Nat,j≤10∧i= .int .i64 (j:Int)∧Below V8.heap.size V8 wr) (fun i _=>10 - (intOf i).toNat)
 case atStart=>exact ⟨0,by omega,rfl,Below.refl _ _⟩
 case round=>
  obtain ⟨j,hj,rfl,hW⟩:=hrel
  have HWZ:=Lh hW
  clear hW
  by_cases hlt:j < 10
  ·skip
   have hli:(j:Int) < 10:=by omega
   obtain ⟨x,hx⟩:∃x,([x1,.none 1,.none 7,.none 6,.none 8,qe,.none 3,.none 4,.none 5,xb]:List Op)[j]?=some x:=⟨_,List.getElem?_eq_getElem (show j < 10 from hlt)⟩
   have HRX:=Lh (HRT.out j x hx)
   obtain ⟨g,hp,hg,hra⟩:=(Hr_8.out.below HWZ.out).at j x hx
   obtain rfl:Xr=g:=by injection hp with e;injection e
   have HRA:=Lh hra
   have HPL:=Lh (fun W=>nD Xr j 10 10 hlt (by decide) W)
   clear hp hg hra hx
   go_wp2_with (first
    | (refine iG rfl (.pointer (some ⟨Xr,j * 38,none⟩)) (gZ 48 (.tmp 57) (.tmp 58) _ _ _ (HPL.out _) rfl rfl rfl) ?_)
    | (refine ld_opt rfl (.tmp 59) rfl Xr (j * 38) rfl x HRA.out ?_))
   refine (answer (jJ x _ (.inl rfl) wr) (v':=.int .i64 (j:Int)) (by rw [HRX.out])).mono ?_
   rintro e W3 ⟨rfl,q⟩
   have HW3:=Lh (HWZ.out.trans (q.mono HWZ.out.size))
   clear q
   go_wp2_with fail
   go_roundw
   case rel=>exact ⟨j+1,by omega,by go_num,HW3.out⟩
   case measure=>simp [intOf];omega
  ·skip
   have hli:¬(j:Int) < 10:=by omega
   have hj2:j=10:=by omega
   subst hj2
   have qY:=Lh (qO.out.trans (HWZ.out.mono qO.out.size))
   have nV:=Lh (rH.out.below HWZ.out rH.out.lt)
   have Hb_9:=Lh (Hb_8.out.below HWZ.out Hb_8.out.lt)
   have Ho_9:=Lh (Ho_8.out.below HWZ.out Ho_8.out.lt)
   have tH:=Lh (sF.out.below HWZ.out)
   have sQ:=Lh (rZ.out.below HWZ.out)
   have rW:=Lh (tC.out.below HWZ.out)
   have sJ:=Lh (sV.out.below HWZ.out)
   go_wp2_with fail
   refine (fM (.slice none 0 0) [] (show 0 < 40 by decide) (fun x hx=>by cases hx) 40 (by decide) wr (mY.any (Lh (aQ.nil wr)).out) (HT.out.below qY.out) (HH.out.below qY.out)).mono ?_
   rintro e U10 ⟨va3,vb3,rfl,hra,hrb,q⟩
   have HA3:=Lh (show aQ U10 va3 [] by rw [←l6_nil.1];exact hra)
   have HB3:=Lh (show aQ U10 vb3 [] by rw [←l6_nil.2];exact hrb)
   have lF:=Lh (qY.out.trans (q.mono qY.out.size))
   have oJ:=Lh (nV.out.below q nV.out.lt)
   have Hb_10:=Lh (Hb_9.out.below q Hb_9.out.lt)
   have Ho_10:=Lh (Ho_9.out.below q Ho_9.out.lt)
   have mV:=Lh (tH.out.below q)
   have pK:=Lh (sQ.out.below q)
   have oO:=Lh (rW.out.below q)
   have qU:=Lh (sJ.out.below q)
   clear q
   obtain ⟨pa3,ca3,ea3, -, -, -⟩:=id HA3.out
   have ea3:va3= .slice pa3 ([]:List Op).length ca3:=ea3
   have ea3:va3= .slice pa3 0 ca3:=ea3
   subst ea3
   obtain ⟨pb3,cb3,eb3, -, -, -⟩:=id HB3.out
   have eb3:vb3= .slice pb3 ([]:List Op).length cb3:=eb3
   have eb3:vb3= .slice pb3 0 cb3:=eb3
   subst eb3
   clear hra hrb
   go_upto_region 14 with fail
   refine wp_region_lit ?_
   refine sqC (.bool true) (works15_t U10 (HT.out.below lF.out) (HH.out.below lF.out)) ?_
   intro U11 q
   have lQ:=Lh (lF.out.trans (q.mono lF.out.size))
   have lW:=Lh (oJ.out.below q oJ.out.lt)
   have rY:=Lh (Hb_10.out.below q Hb_10.out.lt)
   have Ho_11:=Lh (Ho_10.out.below q Ho_10.out.lt)
   have pM:=Lh (mV.out.below q)
   have qA:=Lh (pK.out.below q)
   have pO:=Lh (oO.out.below q)
   have oU:=Lh (qU.out.below q)
   have o8:=Lh (HA3.out.below q)
   have o5:=Lh (HB3.out.below q)
   clear q
   refine sqF (.bool true) ?_
   refine cZ ⟨List.toArray (u0::Value.pointer (some ⟨Xx,0,none⟩)::Value.pointer (some ⟨Xb,0,none⟩)::Value.pointer (some ⟨Xo,0,none⟩)::Value.slice (some ⟨Xl,0,none⟩) 6 6::va1::vb1::Value.slice pa2 0 ca2::Value.slice pb2 4 cb2::Value.slice (some ⟨Xr,0,none⟩) 10 10::Value.int .i64 10::Value.slice pa3 0 ca3::Value.slice pb3 0 cb3::Value.agg A4::Value.agg (ov xb)::Value.agg #[.int .u64 1]::Value.agg (ov xo)::Value.agg (ov xb)::Value.pointer (some ⟨Xx,76,none⟩)::Value.agg (ov x2)::Value.pointer (some ⟨Xx,76,none⟩)::Value.agg (ov x2)::Value.agg (ov xo)::Value.pointer (some ⟨Xx,76,none⟩)::Value.agg (ov x2)::Value.pointer (some ⟨Xx,76,none⟩)::Value.agg (ov x2)::Value.slice (some ⟨Xl,0,none⟩) 6 6::Value.tuple #[va1,vb1]::Value.slice (some ⟨Xl,0,none⟩) 6 6::Value.tuple #[va1,vb1]::va1::vb1::Value.tuple #[.slice pa2 0 ca2,.slice pb2 4 cb2]::Value.slice (some ⟨Xl,0,none⟩) 6 6::Value.tuple #[.slice pa2 0 ca2,.slice pb2 4 cb2]::Value.slice pa2 0 ca2::Value.slice pb2 4 cb2::Value.pointer (some ⟨Xx,38,none⟩)::Value.agg (ov x1)::Value.agg (ov (.none 1))::Value.agg (ov (.none 7))::Value.agg (ov (.none 6))::Value.agg (ov (.none 8))::Value.agg #[.bool true,.int .i64 0,.string ⟨#[]⟩,.bool false,.int .i64 0,.string ⟨#[]⟩]::Value.agg (ov qe)::Value.agg (ov (.none 3))::Value.agg (ov (.none 4))::Value.agg (ov (.none 5))::Value.agg (ov xb)::Value.slice (some ⟨Xr,0,none⟩) 10 10::Value.int .i64 10::Value.slice (some ⟨Xr,0,none⟩) 10 10::Value.int .i64 10::Value.bool false::u55::u56::u57::u58::u59::u60::u61::u62::u63::Value.tuple #[.slice pa3 0 ca3,.slice pb3 0 cb3]::Value.tuple #[.slice pa3 0 ca3,.slice pb3 0 cb3]::Value.slice pa3 0 ca3::Value.slice pb3 0 cb3::Value.bool true::Value.bool true::undef::undef::undef::undef::undef::undef::undef::undef::undef::undef::undef::undef::undef::undef::undef::undef::undef::undef::undef::undef::undef::undef::undef::undef::undef::undef::undef::undef::undef::undef::undef::undef::undef::undef::undef::undef::undef::undef::undef::undef::undef::undef::undef::undef::undef::undef::undef::undef::undef::undef::undef::undef::[]),[]⟩ ?_
   refine sqG (.agg (ov xb)) (by exact xRw 45 (.tmp 2) Xb rY.out Tryz.underlying45 (aJ xb)) ?_
   refine sqC (.int .i64 0) (answer (fV xb (by rw [HQb.out];exact qb_ok) U11 (HT.out.below lQ.out) (HH.out.below lQ.out)) (v':=.int .i64 0) (by rw [HQb.out,sz_qb];rfl)) ?_
   intro U12 q
   have lJ:=Lh (lQ.out.trans (q.mono lQ.out.size))
   have nY:=Lh (lW.out.below q lW.out.lt)
   have Hb_12:=Lh (rY.out.below q rY.out.lt)
   have sO:=Lh (Ho_11.out.below q Ho_11.out.lt)
   have qF:=Lh (pM.out.below q)
   have qI:=Lh (qA.out.below q)
   have nJ:=Lh (pO.out.below q)
   have oZ:=Lh (oU.out.below q)
   have qM:=Lh (o8.out.below q)
   have qV:=Lh (o5.out.below q)
   clear q
   refine sqF (.bool true) ?_
   refine sqF (.bool true) ?_
   refine cZ ⟨List.toArray (u0::Value.pointer (some ⟨Xx,0,none⟩)::Value.pointer (some ⟨Xb,0,none⟩)::Value.pointer (some ⟨Xo,0,none⟩)::Value.slice (some ⟨Xl,0,none⟩) 6 6::va1::vb1::Value.slice pa2 0 ca2::Value.slice pb2 4 cb2::Value.slice (some ⟨Xr,0,none⟩) 10 10::Value.int .i64 10::Value.slice pa3 0 ca3::Value.slice pb3 0 cb3::Value.agg A4::Value.agg (ov xb)::Value.agg #[.int .u64 1]::Value.agg (ov xo)::Value.agg (ov xb)::Value.pointer (some ⟨Xx,76,none⟩)::Value.agg (ov x2)::Value.pointer (some ⟨Xx,76,none⟩)::Value.agg (ov x2)::Value.agg (ov xo)::Value.pointer (some ⟨Xx,76,none⟩)::Value.agg (ov x2)::Value.pointer (some ⟨Xx,76,none⟩)::Value.agg (ov x2)::Value.slice (some ⟨Xl,0,none⟩) 6 6::Value.tuple #[va1,vb1]::Value.slice (some ⟨Xl,0,none⟩) 6 6::Value.tuple #[va1,vb1]::va1::vb1::Value.tuple #[.slice pa2 0 ca2,.slice pb2 4 cb2]::Value.slice (some ⟨Xl,0,none⟩) 6 6::Value.tuple #[.slice pa2 0 ca2,.slice pb2 4 cb2]::Value.slice pa2 0 ca2::Value.slice pb2 4 cb2::Value.pointer (some ⟨Xx,38,none⟩)::Value.agg (ov x1)::Value.agg (ov (.none 1))::Value.agg (ov (.none 7))::Value.agg (ov (.none 6))::Value.agg (ov (.none 8))::Value.agg #[.bool true,.int .i64 0,.string ⟨#[]⟩,.bool false,.int .i64 0,.string ⟨#[]⟩]::Value.agg (ov qe)::Value.agg (ov (.none 3))::Value.agg (ov (.none 4))::Value.agg (ov (.none 5))::Value.agg (ov xb)::Value.slice (some ⟨Xr,0,none⟩) 10 10::Value.int .i64 10::Value.slice (some ⟨Xr,0,none⟩) 10 10::Value.int .i64 10::Value.bool false::u55::u56::u57::u58::u59::u60::u61::u62::u63::Value.tuple #[.slice pa3 0 ca3,.slice pb3 0 cb3]::Value.tuple #[.slice pa3 0 ca3,.slice pb3 0 cb3]::Value.slice pa3 0 ca3::Value.slice pb3 0 cb3::Value.bool true::Value.bool true::Value.agg (ov xb)::Value.int .i64 0::Value.bool true::Value.bool true::undef::undef::undef::undef::undef::undef::undef::undef::undef::undef::undef::undef::undef::undef::undef::undef::undef::undef::undef::undef::undef::undef::undef::undef::undef::undef::undef::undef::undef::undef::undef::undef::undef::undef::undef::undef::undef::undef::undef::undef::undef::undef::undef::undef::undef::undef::undef::undef::[]),[]⟩ ?_
   refine sqF (.bool true) ?_
   refine sqG (.agg (ov xo)) (by exact xRw 45 (.tmp 3) Xo sO.out Tryz.underlying45 (aJ xo)) ?_
   refine sqC (.int .i64 0) (answer (fV xo (by rw [HQo.out];exact qo_ok) U12 (HT.out.below lJ.out) (HH.out.below lJ.out)) (v':=.int .i64 0) (by rw [HQo.out,sz_qo];rfl)) ?_
   intro U13 q
   have oC:=Lh (lJ.out.trans (q.mono lJ.out.size))
   have l9:=Lh (nY.out.below q nY.out.lt)
   have Hb_13:=Lh (Hb_12.out.below q Hb_12.out.lt)
   have Ho_13:=Lh (sO.out.below q sO.out.lt)
   have pV:=Lh (qF.out.below q)
   have oQ:=Lh (qI.out.below q)
   have qX:=Lh (nJ.out.below q)
   have o6:=Lh (oZ.out.below q)
   have oV:=Lh (qM.out.below q)
   have pI:=Lh (qV.out.below q)
   clear q
   refine sqF (.bool true) ?_
   refine cZ ⟨List.toArray (u0::Value.pointer (some ⟨Xx,0,none⟩)::Value.pointer (some ⟨Xb,0,none⟩)::Value.pointer (some ⟨Xo,0,none⟩)::Value.slice (some ⟨Xl,0,none⟩) 6 6::va1::vb1::Value.slice pa2 0 ca2::Value.slice pb2 4 cb2::Value.slice (some ⟨Xr,0,none⟩) 10 10::Value.int .i64 10::Value.slice pa3 0 ca3::Value.slice pb3 0 cb3::Value.agg A4::Value.agg (ov xb)::Value.agg #[.int .u64 1]::Value.agg (ov xo)::Value.agg (ov xb)::Value.pointer (some ⟨Xx,76,none⟩)::Value.agg (ov x2)::Value.pointer (some ⟨Xx,76,none⟩)::Value.agg (ov x2)::Value.agg (ov xo)::Value.pointer (some ⟨Xx,76,none⟩)::Value.agg (ov x2)::Value.pointer (some ⟨Xx,76,none⟩)::Value.agg (ov x2)::Value.slice (some ⟨Xl,0,none⟩) 6 6::Value.tuple #[va1,vb1]::Value.slice (some ⟨Xl,0,none⟩) 6 6::Value.tuple #[va1,vb1]::va1::vb1::Value.tuple #[.slice pa2 0 ca2,.slice pb2 4 cb2]::Value.slice (some ⟨Xl,0,none⟩) 6 6::Value.tuple #[.slice pa2 0 ca2,.slice pb2 4 cb2]::Value.slice pa2 0 ca2::Value.slice pb2 4 cb2::Value.pointer (some ⟨Xx,38,none⟩)::Value.agg (ov x1)::Value.agg (ov (.none 1))::Value.agg (ov (.none 7))::Value.agg (ov (.none 6))::Value.agg (ov (.none 8))::Value.agg #[.bool true,.int .i64 0,.string ⟨#[]⟩,.bool false,.int .i64 0,.string ⟨#[]⟩]::Value.agg (ov qe)::Value.agg (ov (.none 3))::Value.agg (ov (.none 4))::Value.agg (ov (.none 5))::Value.agg (ov xb)::Value.slice (some ⟨Xr,0,none⟩) 10 10::Value.int .i64 10::Value.slice (some ⟨Xr,0,none⟩) 10 10::Value.int .i64 10::Value.bool false::u55::u56::u57::u58::u59::u60::u61::u62::u63::Value.tuple #[.slice pa3 0 ca3,.slice pb3 0 cb3]::Value.tuple #[.slice pa3 0 ca3,.slice pb3 0 cb3]::Value.slice pa3 0 ca3::Value.slice pb3 0 cb3::Value.bool true::Value.bool true::Value.agg (ov xb)::Value.int .i64 0::Value.bool true::Value.bool true::Value.bool true::Value.agg (ov xo)::Value.int .i64 0::Value.bool true::undef::undef::undef::undef::undef::undef::undef::undef::undef::undef::undef::undef::undef::undef::undef::undef::undef::undef::undef::undef::undef::undef::undef::undef::undef::undef::undef::undef::undef::undef::undef::undef::undef::undef::undef::undef::undef::undef::undef::undef::undef::undef::undef::undef::[]),[]⟩ ?_
   refine sqF (.bool true) ?_
   refine sqF (.bool true) ?_
   refine sqF (.agg (ov (.none 0))) ?_
   refine sqC (.int .i64 0) (answer (jJ (.none 0) _ (.inl rfl) U13) (v':=.int .i64 0) (by rw [show rkO (.none 0)=0 by kernel_rfl];rfl)) ?_
   intro U14 q
   have nX:=Lh (oC.out.trans (q.mono oC.out.size))
   have kQ:=Lh (l9.out.below q l9.out.lt)
   have Hb_14:=Lh (Hb_13.out.below q Hb_13.out.lt)
   have Ho_14:=Lh (Ho_13.out.below q Ho_13.out.lt)
   have pG:=Lh (pV.out.below q)
   have oP:=Lh (oQ.out.below q)
   have qC:=Lh (qX.out.below q)
   have nP:=Lh (o6.out.below q)
   have qK:=Lh (oV.out.below q)
   have pX:=Lh (pI.out.below q)
   clear q
   refine cZ ⟨List.toArray (u0::Value.pointer (some ⟨Xx,0,none⟩)::Value.pointer (some ⟨Xb,0,none⟩)::Value.pointer (some ⟨Xo,0,none⟩)::Value.slice (some ⟨Xl,0,none⟩) 6 6::va1::vb1::Value.slice pa2 0 ca2::Value.slice pb2 4 cb2::Value.slice (some ⟨Xr,0,none⟩) 10 10::Value.int .i64 10::Value.slice pa3 0 ca3::Value.slice pb3 0 cb3::Value.agg A4::Value.agg (ov xb)::Value.agg #[.int .u64 1]::Value.agg (ov xo)::Value.agg (ov xb)::Value.pointer (some ⟨Xx,76,none⟩)::Value.agg (ov x2)::Value.pointer (some ⟨Xx,76,none⟩)::Value.agg (ov x2)::Value.agg (ov xo)::Value.pointer (some ⟨Xx,76,none⟩)::Value.agg (ov x2)::Value.pointer (some ⟨Xx,76,none⟩)::Value.agg (ov x2)::Value.slice (some ⟨Xl,0,none⟩) 6 6::Value.tuple #[va1,vb1]::Value.slice (some ⟨Xl,0,none⟩) 6 6::Value.tuple #[va1,vb1]::va1::vb1::Value.tuple #[.slice pa2 0 ca2,.slice pb2 4 cb2]::Value.slice (some ⟨Xl,0,none⟩) 6 6::Value.tuple #[.slice pa2 0 ca2,.slice pb2 4 cb2]::Value.slice pa2 0 ca2::Value.slice pb2 4 cb2::Value.pointer (some ⟨Xx,38,none⟩)::Value.agg (ov x1)::Value.agg (ov (.none 1))::Value.agg (ov (.none 7))::Value.agg (ov (.none 6))::Value.agg (ov (.none 8))::Value.agg #[.bool true,.int .i64 0,.string ⟨#[]⟩,.bool false,.int .i64 0,.string ⟨#[]⟩]::Value.agg (ov qe)::Value.agg (ov (.none 3))::Value.agg (ov (.none 4))::Value.agg (ov (.none 5))::Value.agg (ov xb)::Value.slice (some ⟨Xr,0,none⟩) 10 10::Value.int .i64 10::Value.slice (some ⟨Xr,0,none⟩) 10 10::Value.int .i64 10::Value.bool false::u55::u56::u57::u58::u59::u60::u61::u62::u63::Value.tuple #[.slice pa3 0 ca3,.slice pb3 0 cb3]::Value.tuple #[.slice pa3 0 ca3,.slice pb3 0 cb3]::Value.slice pa3 0 ca3::Value.slice pb3 0 cb3::Value.bool true::Value.bool true::Value.agg (ov xb)::Value.int .i64 0::Value.bool true::Value.bool true::Value.bool true::Value.agg (ov xo)::Value.int .i64 0::Value.bool true::Value.bool true::Value.bool true::Value.agg (ov (.none 0))::Value.int .i64 0::undef::undef::undef::undef::undef::undef::undef::undef::undef::undef::undef::undef::undef::undef::undef::undef::undef::undef::undef::undef::undef::undef::undef::undef::undef::undef::undef::undef::undef::undef::undef::undef::undef::undef::undef::undef::undef::undef::undef::undef::[]),[]⟩ ?_
   refine sqF (.bool true) ?_
   refine sqF (.bool true) ?_
   refine sqF (.bool true) ?_
   refine sqF va1 ?_
   refine cZ ⟨List.toArray (u0::Value.pointer (some ⟨Xx,0,none⟩)::Value.pointer (some ⟨Xb,0,none⟩)::Value.pointer (some ⟨Xo,0,none⟩)::Value.slice (some ⟨Xl,0,none⟩) 6 6::va1::vb1::Value.slice pa2 0 ca2::Value.slice pb2 4 cb2::Value.slice (some ⟨Xr,0,none⟩) 10 10::Value.int .i64 10::Value.slice pa3 0 ca3::Value.slice pb3 0 cb3::Value.agg A4::Value.agg (ov xb)::Value.agg #[.int .u64 1]::Value.agg (ov xo)::Value.agg (ov xb)::Value.pointer (some ⟨Xx,76,none⟩)::Value.agg (ov x2)::Value.pointer (some ⟨Xx,76,none⟩)::Value.agg (ov x2)::Value.agg (ov xo)::Value.pointer (some ⟨Xx,76,none⟩)::Value.agg (ov x2)::Value.pointer (some ⟨Xx,76,none⟩)::Value.agg (ov x2)::Value.slice (some ⟨Xl,0,none⟩) 6 6::Value.tuple #[va1,vb1]::Value.slice (some ⟨Xl,0,none⟩) 6 6::Value.tuple #[va1,vb1]::va1::vb1::Value.tuple #[.slice pa2 0 ca2,.slice pb2 4 cb2]::Value.slice (some ⟨Xl,0,none⟩) 6 6::Value.tuple #[.slice pa2 0 ca2,.slice pb2 4 cb2]::Value.slice pa2 0 ca2::Value.slice pb2 4 cb2::Value.pointer (some ⟨Xx,38,none⟩)::Value.agg (ov x1)::Value.agg (ov (.none 1))::Value.agg (ov (.none 7))::Value.agg (ov (.none 6))::Value.agg (ov (.none 8))::Value.agg #[.bool true,.int .i64 0,.string ⟨#[]⟩,.bool false,.int .i64 0,.string ⟨#[]⟩]::Value.agg (ov qe)::Value.agg (ov (.none 3))::Value.agg (ov (.none 4))::Value.agg (ov (.none 5))::Value.agg (ov xb)::Value.slice (some ⟨Xr,0,none⟩) 10 10::Value.int .i64 10::Value.slice (some ⟨Xr,0,none⟩) 10 10::Value.int .i64 10::Value.bool false::u55::u56::u57::u58::u59::u60::u61::u62::u63::Value.tuple #[.slice pa3 0 ca3,.slice pb3 0 cb3]::Value.tuple #[.slice pa3 0 ca3,.slice pb3 0 cb3]::Value.slice pa3 0 ca3::Value.slice pb3 0 cb3::Value.bool true::Value.bool true::Value.agg (ov xb)::Value.int .i64 0::Value.bool true::Value.bool true::Value.bool true::Value.agg (ov xo)::Value.int .i64 0::Value.bool true::Value.bool true::Value.bool true::Value.agg (ov (.none 0))::Value.int .i64 0::Value.bool true::Value.bool true::Value.bool true::va1::undef::undef::undef::undef::undef::undef::undef::undef::undef::undef::undef::undef::undef::undef::undef::undef::undef::undef::undef::undef::undef::undef::undef::undef::undef::undef::undef::undef::undef::undef::undef::undef::undef::undef::undef::undef::[]),[]⟩ ?_
   refine sqG (.pointer (some ⟨Xx,76,none⟩)) (by exact lG 1 Xx) ?_
   refine sqG (.agg (ov x2)) (by exact lM 86 Xx A4 x2 kQ.out HA4.out HQ2.out) ?_
   refine sqG (.pointer (some ⟨Xx,76,none⟩)) (by exact lG 1 Xx) ?_
   refine sqG (.agg (ov x2)) (by exact lM 88 Xx A4 x2 kQ.out HA4.out HQ2.out) ?_
   refine cZ ⟨List.toArray (u0::Value.pointer (some ⟨Xx,0,none⟩)::Value.pointer (some ⟨Xb,0,none⟩)::Value.pointer (some ⟨Xo,0,none⟩)::Value.slice (some ⟨Xl,0,none⟩) 6 6::va1::vb1::Value.slice pa2 0 ca2::Value.slice pb2 4 cb2::Value.slice (some ⟨Xr,0,none⟩) 10 10::Value.int .i64 10::Value.slice pa3 0 ca3::Value.slice pb3 0 cb3::Value.agg A4::Value.agg (ov xb)::Value.agg #[.int .u64 1]::Value.agg (ov xo)::Value.agg (ov xb)::Value.pointer (some ⟨Xx,76,none⟩)::Value.agg (ov x2)::Value.pointer (some ⟨Xx,76,none⟩)::Value.agg (ov x2)::Value.agg (ov xo)::Value.pointer (some ⟨Xx,76,none⟩)::Value.agg (ov x2)::Value.pointer (some ⟨Xx,76,none⟩)::Value.agg (ov x2)::Value.slice (some ⟨Xl,0,none⟩) 6 6::Value.tuple #[va1,vb1]::Value.slice (some ⟨Xl,0,none⟩) 6 6::Value.tuple #[va1,vb1]::va1::vb1::Value.tuple #[.slice pa2 0 ca2,.slice pb2 4 cb2]::Value.slice (some ⟨Xl,0,none⟩) 6 6::Value.tuple #[.slice pa2 0 ca2,.slice pb2 4 cb2]::Value.slice pa2 0 ca2::Value.slice pb2 4 cb2::Value.pointer (some ⟨Xx,38,none⟩)::Value.agg (ov x1)::Value.agg (ov (.none 1))::Value.agg (ov (.none 7))::Value.agg (ov (.none 6))::Value.agg (ov (.none 8))::Value.agg #[.bool true,.int .i64 0,.string ⟨#[]⟩,.bool false,.int .i64 0,.string ⟨#[]⟩]::Value.agg (ov qe)::Value.agg (ov (.none 3))::Value.agg (ov (.none 4))::Value.agg (ov (.none 5))::Value.agg (ov xb)::Value.slice (some ⟨Xr,0,none⟩) 10 10::Value.int .i64 10::Value.slice (some ⟨Xr,0,none⟩) 10 10::Value.int .i64 10::Value.bool false::u55::u56::u57::u58::u59::u60::u61::u62::u63::Value.tuple #[.slice pa3 0 ca3,.slice pb3 0 cb3]::Value.tuple #[.slice pa3 0 ca3,.slice pb3 0 cb3]::Value.slice pa3 0 ca3::Value.slice pb3 0 cb3::Value.bool true::Value.bool true::Value.agg (ov xb)::Value.int .i64 0::Value.bool true::Value.bool true::Value.bool true::Value.agg (ov xo)::Value.int .i64 0::Value.bool true::Value.bool true::Value.bool true::Value.agg (ov (.none 0))::Value.int .i64 0::Value.bool true::Value.bool true::Value.bool true::va1::Value.pointer (some ⟨Xx,76,none⟩)::Value.agg (ov x2)::Value.pointer (some ⟨Xx,76,none⟩)::Value.agg (ov x2)::undef::undef::undef::undef::undef::undef::undef::undef::undef::undef::undef::undef::undef::undef::undef::undef::undef::undef::undef::undef::undef::undef::undef::undef::undef::undef::undef::undef::undef::undef::undef::undef::[]),[]⟩ ?_
   refine sqG (.pointer (some ⟨Xx,76,none⟩)) (by exact lG 1 Xx) ?_
   refine sqG (.agg (ov x2)) (by exact lM 90 Xx A4 x2 kQ.out HA4.out HQ2.out) ?_
   refine sqO 3 #[(0,.tmp 87),(1,.tmp 89),(2,.tmp 91)] [x2,x2,x2] (show 0 < 3 by decide) (show 3≤1000 by decide) rfl ?_
   intro V15 Xs hr hB
   have Hs_15:=Lh hr
   have oG:=Lh (nX.out.trans (hB.mono nX.out.size))
   have oD:=Lh (kQ.out.below hB kQ.out.lt)
   have Hb_15:=Lh (Hb_14.out.below hB Hb_14.out.lt)
   have Ho_15:=Lh (Ho_14.out.below hB Ho_14.out.lt)
   have nI:=Lh (pG.out.below hB)
   have qN:=Lh (oP.out.below hB)
   have qQ:=Lh (qC.out.below hB)
   have qH:=Lh (nP.out.below hB)
   have qB:=Lh (qK.out.below hB)
   have mO:=Lh (pX.out.below hB)
   clear hr hB
   refine sqC (.bool true) (dQ va1 (.slice (some ⟨Xs,0,none⟩) 3 3) [x2,x2,x2] [x2,x2,x2] (show 3≤1000 by decide) true ⟨fun _=>rfl,fun _=>rfl⟩ V15 nI.out Hs_15.out) ?_
   intro U16 q
   have qZ:=Lh (oG.out.trans (q.mono oG.out.size))
   have rE:=Lh (oD.out.below q oD.out.lt)
   have Hb_16:=Lh (Hb_15.out.below q Hb_15.out.lt)
   have Ho_16:=Lh (Ho_15.out.below q Ho_15.out.lt)
   have Ha1_16:=Lh (nI.out.below q)
   have Hb1_16:=Lh (qN.out.below q)
   have Ha2_16:=Lh (qQ.out.below q)
   have Hb2_16:=Lh (qH.out.below q)
   have Ha3_16:=Lh (qB.out.below q)
   have Hb3_16:=Lh (mO.out.below q)
   have Hs_16:=Lh (Hs_15.out.below q)
   clear q
   refine cZ ⟨List.toArray (u0::Value.pointer (some ⟨Xx,0,none⟩)::Value.pointer (some ⟨Xb,0,none⟩)::Value.pointer (some ⟨Xo,0,none⟩)::Value.slice (some ⟨Xl,0,none⟩) 6 6::va1::vb1::Value.slice pa2 0 ca2::Value.slice pb2 4 cb2::Value.slice (some ⟨Xr,0,none⟩) 10 10::Value.int .i64 10::Value.slice pa3 0 ca3::Value.slice pb3 0 cb3::Value.agg A4::Value.agg (ov xb)::Value.agg #[.int .u64 1]::Value.agg (ov xo)::Value.agg (ov xb)::Value.pointer (some ⟨Xx,76,none⟩)::Value.agg (ov x2)::Value.pointer (some ⟨Xx,76,none⟩)::Value.agg (ov x2)::Value.agg (ov xo)::Value.pointer (some ⟨Xx,76,none⟩)::Value.agg (ov x2)::Value.pointer (some ⟨Xx,76,none⟩)::Value.agg (ov x2)::Value.slice (some ⟨Xl,0,none⟩) 6 6::Value.tuple #[va1,vb1]::Value.slice (some ⟨Xl,0,none⟩) 6 6::Value.tuple #[va1,vb1]::va1::vb1::Value.tuple #[.slice pa2 0 ca2,.slice pb2 4 cb2]::Value.slice (some ⟨Xl,0,none⟩) 6 6::Value.tuple #[.slice pa2 0 ca2,.slice pb2 4 cb2]::Value.slice pa2 0 ca2::Value.slice pb2 4 cb2::Value.pointer (some ⟨Xx,38,none⟩)::Value.agg (ov x1)::Value.agg (ov (.none 1))::Value.agg (ov (.none 7))::Value.agg (ov (.none 6))::Value.agg (ov (.none 8))::Value.agg #[.bool true,.int .i64 0,.string ⟨#[]⟩,.bool false,.int .i64 0,.string ⟨#[]⟩]::Value.agg (ov qe)::Value.agg (ov (.none 3))::Value.agg (ov (.none 4))::Value.agg (ov (.none 5))::Value.agg (ov xb)::Value.slice (some ⟨Xr,0,none⟩) 10 10::Value.int .i64 10::Value.slice (some ⟨Xr,0,none⟩) 10 10::Value.int .i64 10::Value.bool false::u55::u56::u57::u58::u59::u60::u61::u62::u63::Value.tuple #[.slice pa3 0 ca3,.slice pb3 0 cb3]::Value.tuple #[.slice pa3 0 ca3,.slice pb3 0 cb3]::Value.slice pa3 0 ca3::Value.slice pb3 0 cb3::Value.bool true::Value.bool true::Value.agg (ov xb)::Value.int .i64 0::Value.bool true::Value.bool true::Value.bool true::Value.agg (ov xo)::Value.int .i64 0::Value.bool true::Value.bool true::Value.bool true::Value.agg (ov (.none 0))::Value.int .i64 0::Value.bool true::Value.bool true::Value.bool true::va1::Value.pointer (some ⟨Xx,76,none⟩)::Value.agg (ov x2)::Value.pointer (some ⟨Xx,76,none⟩)::Value.agg (ov x2)::Value.pointer (some ⟨Xx,76,none⟩)::Value.agg (ov x2)::Value.slice (some ⟨Xs,0,none⟩) 3 3::Value.bool true::undef::undef::undef::undef::undef::undef::undef::undef::undef::undef::undef::undef::undef::undef::undef::undef::undef::undef::undef::undef::undef::undef::undef::undef::undef::undef::undef::undef::[]),[]⟩ ?_
   refine sqF (.bool true) ?_
   refine sqF (.bool true) ?_
   refine sqF vb1 ?_
   refine sqG (.pointer (some ⟨Xx,76,none⟩)) (by exact lG 1 Xx) ?_
   refine cZ ⟨List.toArray (u0::Value.pointer (some ⟨Xx,0,none⟩)::Value.pointer (some ⟨Xb,0,none⟩)::Value.pointer (some ⟨Xo,0,none⟩)::Value.slice (some ⟨Xl,0,none⟩) 6 6::va1::vb1::Value.slice pa2 0 ca2::Value.slice pb2 4 cb2::Value.slice (some ⟨Xr,0,none⟩) 10 10::Value.int .i64 10::Value.slice pa3 0 ca3::Value.slice pb3 0 cb3::Value.agg A4::Value.agg (ov xb)::Value.agg #[.int .u64 1]::Value.agg (ov xo)::Value.agg (ov xb)::Value.pointer (some ⟨Xx,76,none⟩)::Value.agg (ov x2)::Value.pointer (some ⟨Xx,76,none⟩)::Value.agg (ov x2)::Value.agg (ov xo)::Value.pointer (some ⟨Xx,76,none⟩)::Value.agg (ov x2)::Value.pointer (some ⟨Xx,76,none⟩)::Value.agg (ov x2)::Value.slice (some ⟨Xl,0,none⟩) 6 6::Value.tuple #[va1,vb1]::Value.slice (some ⟨Xl,0,none⟩) 6 6::Value.tuple #[va1,vb1]::va1::vb1::Value.tuple #[.slice pa2 0 ca2,.slice pb2 4 cb2]::Value.slice (some ⟨Xl,0,none⟩) 6 6::Value.tuple #[.slice pa2 0 ca2,.slice pb2 4 cb2]::Value.slice pa2 0 ca2::Value.slice pb2 4 cb2::Value.pointer (some ⟨Xx,38,none⟩)::Value.agg (ov x1)::Value.agg (ov (.none 1))::Value.agg (ov (.none 7))::Value.agg (ov (.none 6))::Value.agg (ov (.none 8))::Value.agg #[.bool true,.int .i64 0,.string ⟨#[]⟩,.bool false,.int .i64 0,.string ⟨#[]⟩]::Value.agg (ov qe)::Value.agg (ov (.none 3))::Value.agg (ov (.none 4))::Value.agg (ov (.none 5))::Value.agg (ov xb)::Value.slice (some ⟨Xr,0,none⟩) 10 10::Value.int .i64 10::Value.slice (some ⟨Xr,0,none⟩) 10 10::Value.int .i64 10::Value.bool false::u55::u56::u57::u58::u59::u60::u61::u62::u63::Value.tuple #[.slice pa3 0 ca3,.slice pb3 0 cb3]::Value.tuple #[.slice pa3 0 ca3,.slice pb3 0 cb3]::Value.slice pa3 0 ca3::Value.slice pb3 0 cb3::Value.bool true::Value.bool true::Value.agg (ov xb)::Value.int .i64 0::Value.bool true::Value.bool true::Value.bool true::Value.agg (ov xo)::Value.int .i64 0::Value.bool true::Value.bool true::Value.bool true::Value.agg (ov (.none 0))::Value.int .i64 0::Value.bool true::Value.bool true::Value.bool true::va1::Value.pointer (some ⟨Xx,76,none⟩)::Value.agg (ov x2)::Value.pointer (some ⟨Xx,76,none⟩)::Value.agg (ov x2)::Value.pointer (some ⟨Xx,76,none⟩)::Value.agg (ov x2)::Value.slice (some ⟨Xs,0,none⟩) 3 3::Value.bool true::Value.bool true::Value.bool true::vb1::Value.pointer (some ⟨Xx,76,none⟩)::undef::undef::undef::undef::undef::undef::undef::undef::undef::undef::undef::undef::undef::undef::undef::undef::undef::undef::undef::undef::undef::undef::undef::undef::[]),[]⟩ ?_
   refine sqG (.agg (ov x2)) (by exact lM 97 Xx A4 x2 rE.out HA4.out HQ2.out) ?_
   refine sqO 1 #[(0,.tmp 98)] [x2] (show 0 < 1 by decide) (show 1≤1000 by decide) rfl ?_
   intro V17 Xt hr hB
   have Ht_17:=Lh hr
   have HB_17:=Lh (qZ.out.trans (hB.mono qZ.out.size))
   have Hx_17:=Lh (rE.out.below hB rE.out.lt)
   have Hb_17:=Lh (Hb_16.out.below hB Hb_16.out.lt)
   have Ho_17:=Lh (Ho_16.out.below hB Ho_16.out.lt)
   have Ha1_17:=Lh (Ha1_16.out.below hB)
   have Hb1_17:=Lh (Hb1_16.out.below hB)
   have Ha2_17:=Lh (Ha2_16.out.below hB)
   have Hb2_17:=Lh (Hb2_16.out.below hB)
   have Ha3_17:=Lh (Ha3_16.out.below hB)
   have Hb3_17:=Lh (Hb3_16.out.below hB)
   clear hr hB
   refine sqC (.bool true) (dQ vb1 (.slice (some ⟨Xt,0,none⟩) 1 1) [x2] [x2] (show 1≤1000 by decide) true ⟨fun _=>rfl,fun _=>rfl⟩ V17 Hb1_17.out Ht_17.out) ?_
   intro U18 q
   have HB_18:=Lh (HB_17.out.trans (q.mono HB_17.out.size))
   have Hx_18:=Lh (Hx_17.out.below q Hx_17.out.lt)
   have Hb_18:=Lh (Hb_17.out.below q Hb_17.out.lt)
   have Ho_18:=Lh (Ho_17.out.below q Ho_17.out.lt)
   have Ha1_18:=Lh (Ha1_17.out.below q)
   have Hb1_18:=Lh (Hb1_17.out.below q)
   have Ha2_18:=Lh (Ha2_17.out.below q)
   have Hb2_18:=Lh (Hb2_17.out.below q)
   have Ha3_18:=Lh (Ha3_17.out.below q)
   have Hb3_18:=Lh (Hb3_17.out.below q)
   have Ht_18:=Lh (Ht_17.out.below q)
   clear q
   refine sqF (.bool true) ?_
   refine cZ ⟨List.toArray (u0::Value.pointer (some ⟨Xx,0,none⟩)::Value.pointer (some ⟨Xb,0,none⟩)::Value.pointer (some ⟨Xo,0,none⟩)::Value.slice (some ⟨Xl,0,none⟩) 6 6::va1::vb1::Value.slice pa2 0 ca2::Value.slice pb2 4 cb2::Value.slice (some ⟨Xr,0,none⟩) 10 10::Value.int .i64 10::Value.slice pa3 0 ca3::Value.slice pb3 0 cb3::Value.agg A4::Value.agg (ov xb)::Value.agg #[.int .u64 1]::Value.agg (ov xo)::Value.agg (ov xb)::Value.pointer (some ⟨Xx,76,none⟩)::Value.agg (ov x2)::Value.pointer (some ⟨Xx,76,none⟩)::Value.agg (ov x2)::Value.agg (ov xo)::Value.pointer (some ⟨Xx,76,none⟩)::Value.agg (ov x2)::Value.pointer (some ⟨Xx,76,none⟩)::Value.agg (ov x2)::Value.slice (some ⟨Xl,0,none⟩) 6 6::Value.tuple #[va1,vb1]::Value.slice (some ⟨Xl,0,none⟩) 6 6::Value.tuple #[va1,vb1]::va1::vb1::Value.tuple #[.slice pa2 0 ca2,.slice pb2 4 cb2]::Value.slice (some ⟨Xl,0,none⟩) 6 6::Value.tuple #[.slice pa2 0 ca2,.slice pb2 4 cb2]::Value.slice pa2 0 ca2::Value.slice pb2 4 cb2::Value.pointer (some ⟨Xx,38,none⟩)::Value.agg (ov x1)::Value.agg (ov (.none 1))::Value.agg (ov (.none 7))::Value.agg (ov (.none 6))::Value.agg (ov (.none 8))::Value.agg #[.bool true,.int .i64 0,.string ⟨#[]⟩,.bool false,.int .i64 0,.string ⟨#[]⟩]::Value.agg (ov qe)::Value.agg (ov (.none 3))::Value.agg (ov (.none 4))::Value.agg (ov (.none 5))::Value.agg (ov xb)::Value.slice (some ⟨Xr,0,none⟩) 10 10::Value.int .i64 10::Value.slice (some ⟨Xr,0,none⟩) 10 10::Value.int .i64 10::Value.bool false::u55::u56::u57::u58::u59::u60::u61::u62::u63::Value.tuple #[.slice pa3 0 ca3,.slice pb3 0 cb3]::Value.tuple #[.slice pa3 0 ca3,.slice pb3 0 cb3]::Value.slice pa3 0 ca3::Value.slice pb3 0 cb3::Value.bool true::Value.bool true::Value.agg (ov xb)::Value.int .i64 0::Value.bool true::Value.bool true::Value.bool true::Value.agg (ov xo)::Value.int .i64 0::Value.bool true::Value.bool true::Value.bool true::Value.agg (ov (.none 0))::Value.int .i64 0::Value.bool true::Value.bool true::Value.bool true::va1::Value.pointer (some ⟨Xx,76,none⟩)::Value.agg (ov x2)::Value.pointer (some ⟨Xx,76,none⟩)::Value.agg (ov x2)::Value.pointer (some ⟨Xx,76,none⟩)::Value.agg (ov x2)::Value.slice (some ⟨Xs,0,none⟩) 3 3::Value.bool true::Value.bool true::Value.bool true::vb1::Value.pointer (some ⟨Xx,76,none⟩)::Value.agg (ov x2)::Value.slice (some ⟨Xt,0,none⟩) 1 1::Value.bool true::Value.bool true::undef::undef::undef::undef::undef::undef::undef::undef::undef::undef::undef::undef::undef::undef::undef::undef::undef::undef::undef::undef::[]),[]⟩ ?_
   refine sqF (.bool true) ?_
   refine sqF (.slice pa2 0 ca2) ?_
   refine sqF (.int .i64 0) ?_
   refine sqF (.bool true) ?_
   refine cZ ⟨List.toArray (u0::Value.pointer (some ⟨Xx,0,none⟩)::Value.pointer (some ⟨Xb,0,none⟩)::Value.pointer (some ⟨Xo,0,none⟩)::Value.slice (some ⟨Xl,0,none⟩) 6 6::va1::vb1::Value.slice pa2 0 ca2::Value.slice pb2 4 cb2::Value.slice (some ⟨Xr,0,none⟩) 10 10::Value.int .i64 10::Value.slice pa3 0 ca3::Value.slice pb3 0 cb3::Value.agg A4::Value.agg (ov xb)::Value.agg #[.int .u64 1]::Value.agg (ov xo)::Value.agg (ov xb)::Value.pointer (some ⟨Xx,76,none⟩)::Value.agg (ov x2)::Value.pointer (some ⟨Xx,76,none⟩)::Value.agg (ov x2)::Value.agg (ov xo)::Value.pointer (some ⟨Xx,76,none⟩)::Value.agg (ov x2)::Value.pointer (some ⟨Xx,76,none⟩)::Value.agg (ov x2)::Value.slice (some ⟨Xl,0,none⟩) 6 6::Value.tuple #[va1,vb1]::Value.slice (some ⟨Xl,0,none⟩) 6 6::Value.tuple #[va1,vb1]::va1::vb1::Value.tuple #[.slice pa2 0 ca2,.slice pb2 4 cb2]::Value.slice (some ⟨Xl,0,none⟩) 6 6::Value.tuple #[.slice pa2 0 ca2,.slice pb2 4 cb2]::Value.slice pa2 0 ca2::Value.slice pb2 4 cb2::Value.pointer (some ⟨Xx,38,none⟩)::Value.agg (ov x1)::Value.agg (ov (.none 1))::Value.agg (ov (.none 7))::Value.agg (ov (.none 6))::Value.agg (ov (.none 8))::Value.agg #[.bool true,.int .i64 0,.string ⟨#[]⟩,.bool false,.int .i64 0,.string ⟨#[]⟩]::Value.agg (ov qe)::Value.agg (ov (.none 3))::Value.agg (ov (.none 4))::Value.agg (ov (.none 5))::Value.agg (ov xb)::Value.slice (some ⟨Xr,0,none⟩) 10 10::Value.int .i64 10::Value.slice (some ⟨Xr,0,none⟩) 10 10::Value.int .i64 10::Value.bool false::u55::u56::u57::u58::u59::u60::u61::u62::u63::Value.tuple #[.slice pa3 0 ca3,.slice pb3 0 cb3]::Value.tuple #[.slice pa3 0 ca3,.slice pb3 0 cb3]::Value.slice pa3 0 ca3::Value.slice pb3 0 cb3::Value.bool true::Value.bool true::Value.agg (ov xb)::Value.int .i64 0::Value.bool true::Value.bool true::Value.bool true::Value.agg (ov xo)::Value.int .i64 0::Value.bool true::Value.bool true::Value.bool true::Value.agg (ov (.none 0))::Value.int .i64 0::Value.bool true::Value.bool true::Value.bool true::va1::Value.pointer (some ⟨Xx,76,none⟩)::Value.agg (ov x2)::Value.pointer (some ⟨Xx,76,none⟩)::Value.agg (ov x2)::Value.pointer (some ⟨Xx,76,none⟩)::Value.agg (ov x2)::Value.slice (some ⟨Xs,0,none⟩) 3 3::Value.bool true::Value.bool true::Value.bool true::vb1::Value.pointer (some ⟨Xx,76,none⟩)::Value.agg (ov x2)::Value.slice (some ⟨Xt,0,none⟩) 1 1::Value.bool true::Value.bool true::Value.bool true::Value.slice pa2 0 ca2::Value.int .i64 0::Value.bool true::undef::undef::undef::undef::undef::undef::undef::undef::undef::undef::undef::undef::undef::undef::undef::undef::[]),[]⟩ ?_
   refine sqF (.bool true) ?_
   refine sqF (.bool true) ?_
   refine sqF (.slice pb2 4 cb2) ?_
   refine sqF (.int .i64 4) ?_
   refine cZ ⟨List.toArray (u0::Value.pointer (some ⟨Xx,0,none⟩)::Value.pointer (some ⟨Xb,0,none⟩)::Value.pointer (some ⟨Xo,0,none⟩)::Value.slice (some ⟨Xl,0,none⟩) 6 6::va1::vb1::Value.slice pa2 0 ca2::Value.slice pb2 4 cb2::Value.slice (some ⟨Xr,0,none⟩) 10 10::Value.int .i64 10::Value.slice pa3 0 ca3::Value.slice pb3 0 cb3::Value.agg A4::Value.agg (ov xb)::Value.agg #[.int .u64 1]::Value.agg (ov xo)::Value.agg (ov xb)::Value.pointer (some ⟨Xx,76,none⟩)::Value.agg (ov x2)::Value.pointer (some ⟨Xx,76,none⟩)::Value.agg (ov x2)::Value.agg (ov xo)::Value.pointer (some ⟨Xx,76,none⟩)::Value.agg (ov x2)::Value.pointer (some ⟨Xx,76,none⟩)::Value.agg (ov x2)::Value.slice (some ⟨Xl,0,none⟩) 6 6::Value.tuple #[va1,vb1]::Value.slice (some ⟨Xl,0,none⟩) 6 6::Value.tuple #[va1,vb1]::va1::vb1::Value.tuple #[.slice pa2 0 ca2,.slice pb2 4 cb2]::Value.slice (some ⟨Xl,0,none⟩) 6 6::Value.tuple #[.slice pa2 0 ca2,.slice pb2 4 cb2]::Value.slice pa2 0 ca2::Value.slice pb2 4 cb2::Value.pointer (some ⟨Xx,38,none⟩)::Value.agg (ov x1)::Value.agg (ov (.none 1))::Value.agg (ov (.none 7))::Value.agg (ov (.none 6))::Value.agg (ov (.none 8))::Value.agg #[.bool true,.int .i64 0,.string ⟨#[]⟩,.bool false,.int .i64 0,.string ⟨#[]⟩]::Value.agg (ov qe)::Value.agg (ov (.none 3))::Value.agg (ov (.none 4))::Value.agg (ov (.none 5))::Value.agg (ov xb)::Value.slice (some ⟨Xr,0,none⟩) 10 10::Value.int .i64 10::Value.slice (some ⟨Xr,0,none⟩) 10 10::Value.int .i64 10::Value.bool false::u55::u56::u57::u58::u59::u60::u61::u62::u63::Value.tuple #[.slice pa3 0 ca3,.slice pb3 0 cb3]::Value.tuple #[.slice pa3 0 ca3,.slice pb3 0 cb3]::Value.slice pa3 0 ca3::Value.slice pb3 0 cb3::Value.bool true::Value.bool true::Value.agg (ov xb)::Value.int .i64 0::Value.bool true::Value.bool true::Value.bool true::Value.agg (ov xo)::Value.int .i64 0::Value.bool true::Value.bool true::Value.bool true::Value.agg (ov (.none 0))::Value.int .i64 0::Value.bool true::Value.bool true::Value.bool true::va1::Value.pointer (some ⟨Xx,76,none⟩)::Value.agg (ov x2)::Value.pointer (some ⟨Xx,76,none⟩)::Value.agg (ov x2)::Value.pointer (some ⟨Xx,76,none⟩)::Value.agg (ov x2)::Value.slice (some ⟨Xs,0,none⟩) 3 3::Value.bool true::Value.bool true::Value.bool true::vb1::Value.pointer (some ⟨Xx,76,none⟩)::Value.agg (ov x2)::Value.slice (some ⟨Xt,0,none⟩) 1 1::Value.bool true::Value.bool true::Value.bool true::Value.slice pa2 0 ca2::Value.int .i64 0::Value.bool true::Value.bool true::Value.bool true::Value.slice pb2 4 cb2::Value.int .i64 4::undef::undef::undef::undef::undef::undef::undef::undef::undef::undef::undef::undef::[]),[]⟩ ?_
   refine sqF (.bool true) ?_
   refine sqF (.bool true) ?_
   refine sqF (.bool true) ?_
   refine sqF (.slice pa3 0 ca3) ?_
   refine cZ ⟨List.toArray (u0::Value.pointer (some ⟨Xx,0,none⟩)::Value.pointer (some ⟨Xb,0,none⟩)::Value.pointer (some ⟨Xo,0,none⟩)::Value.slice (some ⟨Xl,0,none⟩) 6 6::va1::vb1::Value.slice pa2 0 ca2::Value.slice pb2 4 cb2::Value.slice (some ⟨Xr,0,none⟩) 10 10::Value.int .i64 10::Value.slice pa3 0 ca3::Value.slice pb3 0 cb3::Value.agg A4::Value.agg (ov xb)::Value.agg #[.int .u64 1]::Value.agg (ov xo)::Value.agg (ov xb)::Value.pointer (some ⟨Xx,76,none⟩)::Value.agg (ov x2)::Value.pointer (some ⟨Xx,76,none⟩)::Value.agg (ov x2)::Value.agg (ov xo)::Value.pointer (some ⟨Xx,76,none⟩)::Value.agg (ov x2)::Value.pointer (some ⟨Xx,76,none⟩)::Value.agg (ov x2)::Value.slice (some ⟨Xl,0,none⟩) 6 6::Value.tuple #[va1,vb1]::Value.slice (some ⟨Xl,0,none⟩) 6 6::Value.tuple #[va1,vb1]::va1::vb1::Value.tuple #[.slice pa2 0 ca2,.slice pb2 4 cb2]::Value.slice (some ⟨Xl,0,none⟩) 6 6::Value.tuple #[.slice pa2 0 ca2,.slice pb2 4 cb2]::Value.slice pa2 0 ca2::Value.slice pb2 4 cb2::Value.pointer (some ⟨Xx,38,none⟩)::Value.agg (ov x1)::Value.agg (ov (.none 1))::Value.agg (ov (.none 7))::Value.agg (ov (.none 6))::Value.agg (ov (.none 8))::Value.agg #[.bool true,.int .i64 0,.string ⟨#[]⟩,.bool false,.int .i64 0,.string ⟨#[]⟩]::Value.agg (ov qe)::Value.agg (ov (.none 3))::Value.agg (ov (.none 4))::Value.agg (ov (.none 5))::Value.agg (ov xb)::Value.slice (some ⟨Xr,0,none⟩) 10 10::Value.int .i64 10::Value.slice (some ⟨Xr,0,none⟩) 10 10::Value.int .i64 10::Value.bool false::u55::u56::u57::u58::u59::u60::u61::u62::u63::Value.tuple #[.slice pa3 0 ca3,.slice pb3 0 cb3]::Value.tuple #[.slice pa3 0 ca3,.slice pb3 0 cb3]::Value.slice pa3 0 ca3::Value.slice pb3 0 cb3::Value.bool true::Value.bool true::Value.agg (ov xb)::Value.int .i64 0::Value.bool true::Value.bool true::Value.bool true::Value.agg (ov xo)::Value.int .i64 0::Value.bool true::Value.bool true::Value.bool true::Value.agg (ov (.none 0))::Value.int .i64 0::Value.bool true::Value.bool true::Value.bool true::va1::Value.pointer (some ⟨Xx,76,none⟩)::Value.agg (ov x2)::Value.pointer (some ⟨Xx,76,none⟩)::Value.agg (ov x2)::Value.pointer (some ⟨Xx,76,none⟩)::Value.agg (ov x2)::Value.slice (some ⟨Xs,0,none⟩) 3 3::Value.bool true::Value.bool true::Value.bool true::vb1::Value.pointer (some ⟨Xx,76,none⟩)::Value.agg (ov x2)::Value.slice (some ⟨Xt,0,none⟩) 1 1::Value.bool true::Value.bool true::Value.bool true::Value.slice pa2 0 ca2::Value.int .i64 0::Value.bool true::Value.bool true::Value.bool true::Value.slice pb2 4 cb2::Value.int .i64 4::Value.bool true::Value.bool true::Value.bool true::Value.slice pa3 0 ca3::undef::undef::undef::undef::undef::undef::undef::undef::[]),[]⟩ ?_
   refine sqF (.int .i64 0) ?_
   refine sqF (.bool true) ?_
   refine sqF (.bool true) ?_
   refine sqF (.bool true) ?_
   refine cZ ⟨List.toArray (u0::Value.pointer (some ⟨Xx,0,none⟩)::Value.pointer (some ⟨Xb,0,none⟩)::Value.pointer (some ⟨Xo,0,none⟩)::Value.slice (some ⟨Xl,0,none⟩) 6 6::va1::vb1::Value.slice pa2 0 ca2::Value.slice pb2 4 cb2::Value.slice (some ⟨Xr,0,none⟩) 10 10::Value.int .i64 10::Value.slice pa3 0 ca3::Value.slice pb3 0 cb3::Value.agg A4::Value.agg (ov xb)::Value.agg #[.int .u64 1]::Value.agg (ov xo)::Value.agg (ov xb)::Value.pointer (some ⟨Xx,76,none⟩)::Value.agg (ov x2)::Value.pointer (some ⟨Xx,76,none⟩)::Value.agg (ov x2)::Value.agg (ov xo)::Value.pointer (some ⟨Xx,76,none⟩)::Value.agg (ov x2)::Value.pointer (some ⟨Xx,76,none⟩)::Value.agg (ov x2)::Value.slice (some ⟨Xl,0,none⟩) 6 6::Value.tuple #[va1,vb1]::Value.slice (some ⟨Xl,0,none⟩) 6 6::Value.tuple #[va1,vb1]::va1::vb1::Value.tuple #[.slice pa2 0 ca2,.slice pb2 4 cb2]::Value.slice (some ⟨Xl,0,none⟩) 6 6::Value.tuple #[.slice pa2 0 ca2,.slice pb2 4 cb2]::Value.slice pa2 0 ca2::Value.slice pb2 4 cb2::Value.pointer (some ⟨Xx,38,none⟩)::Value.agg (ov x1)::Value.agg (ov (.none 1))::Value.agg (ov (.none 7))::Value.agg (ov (.none 6))::Value.agg (ov (.none 8))::Value.agg #[.bool true,.int .i64 0,.string ⟨#[]⟩,.bool false,.int .i64 0,.string ⟨#[]⟩]::Value.agg (ov qe)::Value.agg (ov (.none 3))::Value.agg (ov (.none 4))::Value.agg (ov (.none 5))::Value.agg (ov xb)::Value.slice (some ⟨Xr,0,none⟩) 10 10::Value.int .i64 10::Value.slice (some ⟨Xr,0,none⟩) 10 10::Value.int .i64 10::Value.bool false::u55::u56::u57::u58::u59::u60::u61::u62::u63::Value.tuple #[.slice pa3 0 ca3,.slice pb3 0 cb3]::Value.tuple #[.slice pa3 0 ca3,.slice pb3 0 cb3]::Value.slice pa3 0 ca3::Value.slice pb3 0 cb3::Value.bool true::Value.bool true::Value.agg (ov xb)::Value.int .i64 0::Value.bool true::Value.bool true::Value.bool true::Value.agg (ov xo)::Value.int .i64 0::Value.bool true::Value.bool true::Value.bool true::Value.agg (ov (.none 0))::Value.int .i64 0::Value.bool true::Value.bool true::Value.bool true::va1::Value.pointer (some ⟨Xx,76,none⟩)::Value.agg (ov x2)::Value.pointer (some ⟨Xx,76,none⟩)::Value.agg (ov x2)::Value.pointer (some ⟨Xx,76,none⟩)::Value.agg (ov x2)::Value.slice (some ⟨Xs,0,none⟩) 3 3::Value.bool true::Value.bool true::Value.bool true::vb1::Value.pointer (some ⟨Xx,76,none⟩)::Value.agg (ov x2)::Value.slice (some ⟨Xt,0,none⟩) 1 1::Value.bool true::Value.bool true::Value.bool true::Value.slice pa2 0 ca2::Value.int .i64 0::Value.bool true::Value.bool true::Value.bool true::Value.slice pb2 4 cb2::Value.int .i64 4::Value.bool true::Value.bool true::Value.bool true::Value.slice pa3 0 ca3::Value.int .i64 0::Value.bool true::Value.bool true::Value.bool true::undef::undef::undef::undef::[]),[]⟩ ?_
   refine sqF (.slice pb3 0 cb3) ?_
   refine sqF (.int .i64 0) ?_
   refine sqF (.bool true) ?_
   refine sqF (.bool true) ?_
   refine cZ ⟨List.toArray (u0::Value.pointer (some ⟨Xx,0,none⟩)::Value.pointer (some ⟨Xb,0,none⟩)::Value.pointer (some ⟨Xo,0,none⟩)::Value.slice (some ⟨Xl,0,none⟩) 6 6::va1::vb1::Value.slice pa2 0 ca2::Value.slice pb2 4 cb2::Value.slice (some ⟨Xr,0,none⟩) 10 10::Value.int .i64 10::Value.slice pa3 0 ca3::Value.slice pb3 0 cb3::Value.agg A4::Value.agg (ov xb)::Value.agg #[.int .u64 1]::Value.agg (ov xo)::Value.agg (ov xb)::Value.pointer (some ⟨Xx,76,none⟩)::Value.agg (ov x2)::Value.pointer (some ⟨Xx,76,none⟩)::Value.agg (ov x2)::Value.agg (ov xo)::Value.pointer (some ⟨Xx,76,none⟩)::Value.agg (ov x2)::Value.pointer (some ⟨Xx,76,none⟩)::Value.agg (ov x2)::Value.slice (some ⟨Xl,0,none⟩) 6 6::Value.tuple #[va1,vb1]::Value.slice (some ⟨Xl,0,none⟩) 6 6::Value.tuple #[va1,vb1]::va1::vb1::Value.tuple #[.slice pa2 0 ca2,.slice pb2 4 cb2]::Value.slice (some ⟨Xl,0,none⟩) 6 6::Value.tuple #[.slice pa2 0 ca2,.slice pb2 4 cb2]::Value.slice pa2 0 ca2::Value.slice pb2 4 cb2::Value.pointer (some ⟨Xx,38,none⟩)::Value.agg (ov x1)::Value.agg (ov (.none 1))::Value.agg (ov (.none 7))::Value.agg (ov (.none 6))::Value.agg (ov (.none 8))::Value.agg #[.bool true,.int .i64 0,.string ⟨#[]⟩,.bool false,.int .i64 0,.string ⟨#[]⟩]::Value.agg (ov qe)::Value.agg (ov (.none 3))::Value.agg (ov (.none 4))::Value.agg (ov (.none 5))::Value.agg (ov xb)::Value.slice (some ⟨Xr,0,none⟩) 10 10::Value.int .i64 10::Value.slice (some ⟨Xr,0,none⟩) 10 10::Value.int .i64 10::Value.bool false::u55::u56::u57::u58::u59::u60::u61::u62::u63::Value.tuple #[.slice pa3 0 ca3,.slice pb3 0 cb3]::Value.tuple #[.slice pa3 0 ca3,.slice pb3 0 cb3]::Value.slice pa3 0 ca3::Value.slice pb3 0 cb3::Value.bool true::Value.bool true::Value.agg (ov xb)::Value.int .i64 0::Value.bool true::Value.bool true::Value.bool true::Value.agg (ov xo)::Value.int .i64 0::Value.bool true::Value.bool true::Value.bool true::Value.agg (ov (.none 0))::Value.int .i64 0::Value.bool true::Value.bool true::Value.bool true::va1::Value.pointer (some ⟨Xx,76,none⟩)::Value.agg (ov x2)::Value.pointer (some ⟨Xx,76,none⟩)::Value.agg (ov x2)::Value.pointer (some ⟨Xx,76,none⟩)::Value.agg (ov x2)::Value.slice (some ⟨Xs,0,none⟩) 3 3::Value.bool true::Value.bool true::Value.bool true::vb1::Value.pointer (some ⟨Xx,76,none⟩)::Value.agg (ov x2)::Value.slice (some ⟨Xt,0,none⟩) 1 1::Value.bool true::Value.bool true::Value.bool true::Value.slice pa2 0 ca2::Value.int .i64 0::Value.bool true::Value.bool true::Value.bool true::Value.slice pb2 4 cb2::Value.int .i64 4::Value.bool true::Value.bool true::Value.bool true::Value.slice pa3 0 ca3::Value.int .i64 0::Value.bool true::Value.bool true::Value.bool true::Value.slice pb3 0 cb3::Value.int .i64 0::Value.bool true::Value.bool true::[]),[]⟩ ?_
   refine sqF (.bool true) ?_
   refine oI ⟨List.toArray (Value.bool true::Value.pointer (some ⟨Xx,0,none⟩)::Value.pointer (some ⟨Xb,0,none⟩)::Value.pointer (some ⟨Xo,0,none⟩)::Value.slice (some ⟨Xl,0,none⟩) 6 6::va1::vb1::Value.slice pa2 0 ca2::Value.slice pb2 4 cb2::Value.slice (some ⟨Xr,0,none⟩) 10 10::Value.int .i64 10::Value.slice pa3 0 ca3::Value.slice pb3 0 cb3::Value.agg A4::Value.agg (ov xb)::Value.agg #[.int .u64 1]::Value.agg (ov xo)::Value.agg (ov xb)::Value.pointer (some ⟨Xx,76,none⟩)::Value.agg (ov x2)::Value.pointer (some ⟨Xx,76,none⟩)::Value.agg (ov x2)::Value.agg (ov xo)::Value.pointer (some ⟨Xx,76,none⟩)::Value.agg (ov x2)::Value.pointer (some ⟨Xx,76,none⟩)::Value.agg (ov x2)::Value.slice (some ⟨Xl,0,none⟩) 6 6::Value.tuple #[va1,vb1]::Value.slice (some ⟨Xl,0,none⟩) 6 6::Value.tuple #[va1,vb1]::va1::vb1::Value.tuple #[.slice pa2 0 ca2,.slice pb2 4 cb2]::Value.slice (some ⟨Xl,0,none⟩) 6 6::Value.tuple #[.slice pa2 0 ca2,.slice pb2 4 cb2]::Value.slice pa2 0 ca2::Value.slice pb2 4 cb2::Value.pointer (some ⟨Xx,38,none⟩)::Value.agg (ov x1)::Value.agg (ov (.none 1))::Value.agg (ov (.none 7))::Value.agg (ov (.none 6))::Value.agg (ov (.none 8))::Value.agg #[.bool true,.int .i64 0,.string ⟨#[]⟩,.bool false,.int .i64 0,.string ⟨#[]⟩]::Value.agg (ov qe)::Value.agg (ov (.none 3))::Value.agg (ov (.none 4))::Value.agg (ov (.none 5))::Value.agg (ov xb)::Value.slice (some ⟨Xr,0,none⟩) 10 10::Value.int .i64 10::Value.slice (some ⟨Xr,0,none⟩) 10 10::Value.int .i64 10::Value.bool false::u55::u56::u57::u58::u59::u60::u61::u62::u63::Value.tuple #[.slice pa3 0 ca3,.slice pb3 0 cb3]::Value.tuple #[.slice pa3 0 ca3,.slice pb3 0 cb3]::Value.slice pa3 0 ca3::Value.slice pb3 0 cb3::Value.bool true::Value.bool true::Value.agg (ov xb)::Value.int .i64 0::Value.bool true::Value.bool true::Value.bool true::Value.agg (ov xo)::Value.int .i64 0::Value.bool true::Value.bool true::Value.bool true::Value.agg (ov (.none 0))::Value.int .i64 0::Value.bool true::Value.bool true::Value.bool true::va1::Value.pointer (some ⟨Xx,76,none⟩)::Value.agg (ov x2)::Value.pointer (some ⟨Xx,76,none⟩)::Value.agg (ov x2)::Value.pointer (some ⟨Xx,76,none⟩)::Value.agg (ov x2)::Value.slice (some ⟨Xs,0,none⟩) 3 3::Value.bool true::Value.bool true::Value.bool true::vb1::Value.pointer (some ⟨Xx,76,none⟩)::Value.agg (ov x2)::Value.slice (some ⟨Xt,0,none⟩) 1 1::Value.bool true::Value.bool true::Value.bool true::Value.slice pa2 0 ca2::Value.int .i64 0::Value.bool true::Value.bool true::Value.bool true::Value.slice pb2 4 cb2::Value.int .i64 4::Value.bool true::Value.bool true::Value.bool true::Value.slice pa3 0 ca3::Value.int .i64 0::Value.bool true::Value.bool true::Value.bool true::Value.slice pb3 0 cb3::Value.int .i64 0::Value.bool true::Value.bool true::[]),[]⟩ ?_
   go_wp2_with fail
   go_ret
   exact ⟨rfl,HB_18.out⟩
theorem lifted (os:Os) (started:os.Started) (H:Type) (enc:TypeId×Value→H):
  ReturnsInHanded {} Tryz.checked os 7 .any (fun w args=>(Rows.packKnownSpec.pre enc Tryz.prog Tryz.f7 [] false w args∧laidMetH Tryz.prog laid1 w)∧sizedMet enc Tryz.prog Tryz.f7 (OpenSpec.ofChange Rows.packKnownSpec) false w args)
   (Rows.packKnownSpec.post enc Tryz.prog Tryz.f7 false true false false):=by
 refine returnsInHanded_of_change_and (C:=Tryz.checked) (X:=fun w _=>laidMetH Tryz.prog laid1 w) (fun _ _ _ hh h=>h.of_heap hh) own started (by kernel_rfl) Tryz.func7
  (ChangeSpec.witness_shaped (enc:=enc) (C:=Tryz.checked) (os:=os) (X:=fun w _=>laidMetH Tryz.prog laid1 w) false (World.doorLaid Tryz.prog 400 os) #[] 8 rfl (World.shaped_of_RefB (by kernel_rfl) (by kernel_rfl)) (by kernel_rfl) (by kernel_rfl) (by kernel_rfl) (door_met os _)) ?_
 intro W base args ds gs before hval0 hW hcnd hsz0 hL _
 have hsz:(DataW.weightsEach Tryz.prog (Tryz.f7.params.toList++Rows.packKnownSpec.plain.varTypes Tryz.prog) (ds++gs)).all (·≤reachBytes)=true:=hsz0
 have ht:=table_of hL
 have hval:∀(j:Nat) t v,Tryz.f7.params[j]?=some t→args[j]?=some v→Value.okWide Tryz.prog W .any base t v:=hval0
 have hW':=hW
 obtain ⟨p,q,hA0,hV,rfl,hfz,hnd⟩:=hW
 have hA:DataW.TrodAll enc Tryz.prog W 0 (fun _=>true) true Tryz.f7.params.toList args.toList ds p:=hA0
 rw [Tryz.params7] at hA hval hsz
 obtain ⟨rfl,rfl,rfl⟩:=trodAll_none hA
 obtain ⟨rfl,rfl⟩:=trodVars_none hV
 clear hA0 hval0
 simp only [List.append_nil] at hW'
 refine (walk  W ht).mono fun e W' ⟨he,bel⟩=>?_
 subst he
 exact ⟨_,rfl,_,_,_,[],_,[],hW',trodAll_mk1 (shut_bool Tryz.underlying4 _),rfl,rfl,bel.frame _,fun h=>by cases h⟩
theorem over:Rows.PackKnownSaid:=
 OpenClaim.holds_of_wide 7 Tryz.f7 rfl rfl rfl rfl rfl rfl rfl ⟨rfl,rfl,rfl,rfl,rfl⟩ rfl rfl rfl rfl rfl (by kernel_rfl) Tryz.func7 (by kernel_rfl)
  (of_decide_eq_true (by kernel_rfl)) (by unfold Func.isWrapper;first | (rw [if_pos (by decide+kernel)];kernel_rfl) | (rw [if_neg (by decide+kernel)];exact ⟨rfl,rfl⟩))
  (fun os started H enc _=>lifted os started H enc)
theorem proved:Rows.PackKnownCardSaid:=
 Claim7.holds_tied_plain_at .later [] [.handle,.data] true _ true
  over (fun _ h=>by cases h) (by kernel_rfl) (fun _ h=>by cases h) packKnown_row_tie rfl ⟨rfl,rfl⟩ (by kernel_rfl) rfl
  (fun f fn hf hfn=>by
   obtain rfl:f=7:=Option.some.inj ((show Tryz.prog.funcNamed "plait/plaitlaw15.PackKnown"=some 7 by kernel_rfl).symm.trans hf) |>.symm
   obtain rfl:fn=Tryz.f7:=(Option.some.inj (Tryz.func7.symm.trans hfn)).symm
   exact ⟨by kernel_rfl,fun j t ht=>by
    rw [Tryz.params7] at ht
    simp at ht⟩)
  (by kernel_rfl)
#print axioms proved
end Go.Proofs.YtklakghlliihkaaGreatDoor.L14.packKnown
