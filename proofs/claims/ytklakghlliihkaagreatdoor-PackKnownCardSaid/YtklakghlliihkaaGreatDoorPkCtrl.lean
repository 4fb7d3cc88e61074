/- PkCtrl. -/
import Derived.Test.YtklakghlliihkaaGreatDoorPkBase
import Derived.Laws.Tables
import Derived.Laws.Rows
import Derived.WalkLawsBesides
set_option maxHeartbeats 4000000
set_option maxRecDepth 100000
set_option linter.unusedVariables false
set_option linter.unusedSimpArgs false
namespace Go.Proofs.YtklakghlliihkaaGreatDoor.L13
theorem eG (a:ByteArray):(⟨#[]⟩:ByteArray)++a=a:=by apply ByteArray.ext;rw [ByteArray.data_append];simp
theorem kC (m n:Nat):(txt (be m n)).size=m:=by rw [aO,aI]
def fit (n m:Nat):Int:=if m < n then 4 else if n < m then 5 else 0
def wrong (k n:Nat) (s:ByteArray):Int:=if s.size=0 then 4 else if byteAt s 0 / 16=k then fit n s.size else 7
def fU (b:Bool):ByteArray:=txt [if b then 81 else 80]
def fO (k n:Nat):ByteArray:=txt (UInt8.ofNat (k * 16)::0::be 8 n)
def lN (f r:Nat):ByteArray:=txt [UInt8.ofNat (128+f),UInt8.ofNat r]
abbrev May (f r:Int):Prop:=(0≤f∧f≤15)∧(0≤r∧r≤255)
def lT (f r:Int):ByteArray×Int:=if May f r then (lN f.toNat r.toNat,0) else (⟨#[]⟩,2)
theorem encT_t (f r:Int) (h:May f r):lT f r=(lN f.toNat r.toNat,0):=if_pos h
theorem encT_f (f r:Int) (h:¬May f r):lT f r=(⟨#[]⟩,2):=if_neg h
theorem prioT_size (b:Bool):(fU b).size=1:=by rw [fU,aO];rfl
theorem numT_size (k n:Nat):(fO k n).size=10:=by rw [fO,aO];simp [aI]
theorem rstT_size (f r:Nat):(lN f r).size=2:=by rw [lN,aO];rfl
def gotP (s:ByteArray):Bool:=byteAt s 0%2==1
def decP (s:ByteArray):Bool:=if wrong 5 1 s=0 then gotP s else false
def decN (k:Nat) (s:ByteArray):Nat:=if wrong k 10 s=0 then num s 2 8 else 0
def decF (s:ByteArray):Nat:=if wrong 8 2 s=0 then byteAt s 0%16 else 0
def uM (s:ByteArray):Nat:=if wrong 8 2 s=0 then byteAt s 1 else 0
open Go.ChangeShapes Go.WideShapes Go.ChangeAt Go.RowKit
abbrev prv (b:Bool):Array Value:=#[.bool b]
abbrev nuv (n:Nat):Array Value:=#[.int .u64 (n:Int)]
abbrev rsv (f r:Int):Array Value:=#[.int .i64 f,.int .i64 r]
theorem mJ:(Tryz.prog.info? 37).map (·.size)=some 1:=by kernel_rfl
theorem nR:(Tryz.prog.info? 39).map (·.size)=some 1:=by kernel_rfl
theorem mP:(Tryz.prog.info? 41).map (·.size)=some 1:=by kernel_rfl
theorem jG:(Tryz.prog.info? 43).map (·.size)=some 2:=by kernel_rfl
def encPV (b:Bool):Value:=.tuple #[.string (fU b),.int .i64 0]
def encNV (k n:Nat):Value:=.tuple #[.string (fO k n),.int .i64 0]
def jO (f r:Int):Value:=.tuple #[.string (lT f r).1,.int .i64 (lT f r).2]
theorem aP {P:Program} {fn:Func} {R:Ending→World→Prop} {a:Act} {w:World} (t u:Tmp) (v z:Value) (hf:fn.results=#[.tmp t,.tmp u]) (ht:a.tmps.getD t undef=v) (hu:a.tmps.getD u undef=z) (hd:a.defers=[]) (hR:R (.returned (.tuple #[v,z])) w):bodyPost P fn R .ret a w:=
 bodyPost_ret (by rw [results_tmp2 hf,ht,hu]) hd hR
theorem EncodePrio_any (b:Bool) (w:World):
  Calls Tryz.prog 88 #[.agg (prv b)] w (Rt w (encPV b)):=by
 have HB:=Lh ((Below.refl _ w).alloc (Nat.le_refl _) (.cells (prv b) 37))
 cases b
 ·go_enter Tryz.func88,Tryz.ntmps88
  go_wp2_with fail
  refine (answer (bG ⟨#[]⟩ 80 _ (by decide) (by decide)) (v':=.string (fU false)) (by kernel_rfl)).mono ?_
  rintro e w1 ⟨rfl,b1⟩
  go_wp2_with fail
  exact aP 2 3 (.string (fU false)) (.int .i64 0) (by kernel_rfl) (by kernel_rfl) (by kernel_rfl) (by kernel_rfl) ⟨rfl,aU HB.out b1⟩
 ·go_enter Tryz.func88,Tryz.ntmps88
  go_wp2_with fail
  refine (answer (bG ⟨#[]⟩ 81 _ (by decide) (by decide)) (v':=.string (fU true)) (by kernel_rfl)).mono ?_
  rintro e w1 ⟨rfl,b1⟩
  go_wp2_with fail
  exact aP 2 3 (.string (fU true)) (.int .i64 0) (by kernel_rfl) (by kernel_rfl) (by kernel_rfl) (by kernel_rfl) ⟨rfl,aU HB.out b1⟩
theorem one_byte (n:Nat):(⟨#[]⟩:ByteArray)++⟨(be 1 n).toArray⟩=txt [UInt8.ofNat n]:=by rw [eG];apply ByteArray.ext;simp [be,txt]
theorem encodeNumber_any (k n:Nat) (hk:k < 16) (hn:n≤18446744073709551615) (w:World):
  Calls Tryz.prog 158 #[.int .u8 (k:Int),.int .u64 (n:Int)] w (Rt w (.string (fO k n))):=by
 obtain ⟨m,hm⟩:=eqx (k * 16)
 have hc:(k:Int) * 16%256=(m:Int):=by omega
 have HK:=Lh (show m≤255 by omega)
 have HN:=Lh hn
 obtain ⟨A,hA⟩:=eqx (txt [UInt8.ofNat m])
 obtain ⟨C,hC⟩:=eqx (txt [UInt8.ofNat m,0])
 have HA:=Lh (show (⟨#[]⟩:ByteArray)++⟨(be 1 m).toArray⟩=A by rw [hA];exact one_byte _)
 have HC:=Lh (show A++⟨(be 1 0).toArray⟩=C by rw [hA,hC];exact bP [UInt8.ofNat m] [0])
 have HT:=Lh (show C++⟨(be 8 n).toArray⟩=fO k n by rw [hC,fO,←hm];exact bP [UInt8.ofNat m,0] (be 8 n))
 have HS:=Lh (show A.size≤10∧C.size≤10 by rw [hA,hC,aO,aO];exact ⟨by simp,by simp⟩)
 clear hA hC hk hn hm
 go_enter Tryz.func158,Tryz.ntmps158
 go_wp2_with fail
 refine (answer (bG ⟨#[]⟩ m _ (by decide) HK.out) (congrArg Value.string HA.out)).mono ?_
 rintro e w1 ⟨rfl,b1⟩
 have HB1:=Lh b1
 clear b1
 go_wp2_with fail
 refine (answer (bG A 0 _ (by have:=HS.out;omega) (by decide)) (congrArg Value.string HC.out)).mono ?_
 rintro e w2 ⟨rfl,b2⟩
 have HB2:=Lh (aU HB1.out b2)
 clear b2
 go_wp2_with fail
 refine (answer (kH C n _ (by have:=HS.out;omega) HN.out) (congrArg Value.string HT.out)).mono ?_
 rintro e w3 ⟨rfl,b3⟩
 have HB3:=Lh (aU HB2.out b3)
 clear b3
 go_wp2_with fail
 go_ret;exact ⟨rfl,HB3.out⟩
theorem EncodeFail_any (n:Nat) (hn:n≤18446744073709551615) (w:World):
  Calls Tryz.prog 92 #[.agg (nuv n)] w (Rt w (encNV 6 n)):=by
 have HB:=Lh ((Below.refl _ w).alloc (Nat.le_refl _) (.cells (nuv n) 39))
 have HN:=Lh hn
 clear hn
 go_enter Tryz.func92,Tryz.ntmps92
 go_wp2_with fail
 refine (encodeNumber_any 6 n (by decide) HN.out _).mono ?_
 rintro e w1 ⟨rfl,b1⟩
 go_wp2_with fail
 exact aP 2 3 (.string (fO 6 n)) (.int .i64 0) (by kernel_rfl) (by kernel_rfl) (by kernel_rfl) (by kernel_rfl) ⟨rfl,aU HB.out b1⟩
theorem EncodeFast_any (n:Nat) (hn:n≤18446744073709551615) (w:World):
  Calls Tryz.prog 96 #[.agg (nuv n)] w (Rt w (encNV 7 n)):=by
 have HB:=Lh ((Below.refl _ w).alloc (Nat.le_refl _) (.cells (nuv n) 41))
 have HN:=Lh hn
 clear hn
 go_enter Tryz.func96,Tryz.ntmps96
 go_wp2_with fail
 refine (encodeNumber_any 7 n (by decide) HN.out _).mono ?_
 rintro e w1 ⟨rfl,b1⟩
 go_wp2_with fail
 exact aP 2 3 (.string (fO 7 n)) (.int .i64 0) (by kernel_rfl) (by kernel_rfl) (by kernel_rfl) (by kernel_rfl) ⟨rfl,aU HB.out b1⟩
theorem validRst_any (f r:Int) (w:World):
  Calls Tryz.prog 164 #[.agg (rsv f r)] w (Rt w (.bool (decide (May f r)))):=by
 have HB:=Lh ((Below.refl _ w).alloc (Nat.le_refl _) (.cells (rsv f r) 43))
 by_cases h1:0≤f
 ·by_cases h2:f < 16
  ·by_cases h3:0≤r
   ·by_cases h4:r≤255
    ·rw [decide_eq_true (show May f r by unfold May;omega)]
     go_enter Tryz.func164,Tryz.ntmps164
     go_wp2
     go_ret;exact ⟨rfl,HB.out⟩
    ·rw [decide_eq_false (show¬May f r by unfold May;omega)]
     go_enter Tryz.func164,Tryz.ntmps164
     go_wp2
     go_ret;exact ⟨rfl,HB.out⟩
   ·rw [decide_eq_false (show¬May f r by unfold May;omega)]
    go_enter Tryz.func164,Tryz.ntmps164
    go_wp2
    go_ret;exact ⟨rfl,HB.out⟩
  ·rw [decide_eq_false (show¬May f r by unfold May;omega)]
   go_enter Tryz.func164,Tryz.ntmps164
   go_wp2
   go_ret;exact ⟨rfl,HB.out⟩
 ·rw [decide_eq_false (show¬May f r by unfold May;omega)]
  go_enter Tryz.func164,Tryz.ntmps164
  go_wp2
  go_ret;exact ⟨rfl,HB.out⟩
open Go.ChangeShapes Go.WideShapes Go.ChangeAt Go.RowKit
theorem encTV_t (f r:Nat) (h:May (f:Int) (r:Int)):jO (f:Int) (r:Int)= .tuple #[.string (lN f r),.int .i64 0]:=by unfold jO;rw [encT_t _ _ h];rfl
theorem encTV_f (f r:Int) (h:¬May f r):jO f r= .tuple #[.string ⟨#[]⟩,.int .i64 2]:=by unfold jO;rw [encT_f _ _ h]
theorem ex_add8 {ρ:Operand→Value} {o:Oper} {w:World} (t u:TypeId) (x y:Operand) (ho:o.op= .binOp .add t x y u) (a b c:Nat) (hx:ρ x= .int .u8 (a:Int)) (hy:ρ y= .int .u8 (b:Int)) (ht:Tryz.prog.underlying t=some (.int .u8)) (h:a+b=c) (hc:c≤255):
  (execOp ρ o).run Tryz.prog w= .ok (.value (.int .u8 (c:Int))) w:=by
 have e:IntKind.u8.wrap ((a:Int)+(b:Int))=(c:Int):=by rw [IntKind.wrap_u8];omega
 unfold execOp
 rw [ho]
 simp [hx,hy,go_sem,e]
theorem ex_add_i64 {ρ:Operand→Value} {o:Oper} {w:World} (t u:TypeId) (x y:Operand) (ho:o.op= .binOp .add t x y u) (a b c:Nat) (hx:ρ x= .int .i64 (a:Int)) (hy:ρ y= .int .i64 (b:Int)) (ht:Tryz.prog.underlying t=some (.int .i64)) (h:a+b=c) (hc:c≤255):
  (execOp ρ o).run Tryz.prog w= .ok (.value (.int .i64 (c:Int))) w:=by
 have e:IntKind.i64.wrap ((a:Int)+(b:Int))=(c:Int):=by rw [IntKind.wrap_i64];omega
 unfold execOp
 rw [ho]
 simp [hx,hy,go_sem,e]
theorem conv_i64_u64 (n:Nat) (h:n≤9223372036854775807) (w:World):(convert 3 23 (.int .i64 (n:Int))).run Tryz.prog w= .ok (.int .u64 (n:Int)) w:=by
 rw [run_convert_int w 3 23 .i64 _ (by kernel_rfl) (by kernel_rfl),show Tryz.prog.intKind 23= .u64 by kernel_rfl,IntKind.wrap_u64,show (n:Int)%18446744073709551616=(n:Int) by omega]
theorem EncodeRst_t (f r:Nat) (hm:May (f:Int) (r:Int)) (w:World):
  Calls Tryz.prog 100 #[.agg (rsv (f:Int) (r:Int))] w (Rt w (jO (f:Int) (r:Int))):=by
 rw [encTV_t f r hm]
 have HF:=Lh (show f≤15 by unfold May at hm;omega)
 have HR:=Lh (show r≤255 by unfold May at hm;omega)
 have HD:=Lh (show decide (May (f:Int) (r:Int))=true from decide_eq_true hm)
 obtain ⟨m,hmf⟩:∃m,128+f=m:=⟨_,rfl⟩
 have HM:=Lh (show m≤255 by have:=HF.out;omega)
 have HMF:=Lh hmf
 obtain ⟨T,hT⟩:=eqx (lN f r)
 rw [←hT]
 obtain ⟨A,hA⟩:=eqx (txt [UInt8.ofNat m])
 have HA:=Lh (show (⟨#[]⟩:ByteArray)++⟨(be 1 m).toArray⟩=A by rw [hA];exact one_byte _)
 have HT:=Lh (show A++⟨(be 1 r).toArray⟩=T by rw [hA,hT,lN,hmf,show (be 1 r)=[UInt8.ofNat r] by simp [be]];exact bP [UInt8.ofNat m] [UInt8.ofNat r])
 have HS:=Lh (show A.size≤1∧T.size≤2 by rw [hA,hT,aO,rstT_size];exact ⟨by simp,by omega⟩)
 obtain ⟨w0,hw0⟩:=eqx (w.alloc (.cells (rsv (f:Int) (r:Int)) 43))
 obtain ⟨b0,hb0⟩:=eqx w.heap.size
 have hc0:Blk w0 b0 43 (rsv (f:Int) (r:Int)):=by rw [hw0,hb0];exact Blk.new _ _ _
 have HBW:=Lh (mX hw0)
 have HCC:=Lh (show Blk (w.alloc (.cells (rsv (f:Int) (r:Int)) 43)) w.heap.size 43 (rsv (f:Int) (r:Int)) from Blk.new _ _ _)
 have HC0:=Lh hc0
 have HW0:=Lh hw0
 have HB0:=Lh hb0
 clear hm hmf hT hA hw0 hb0 hc0
 go_enter Tryz.func100,Tryz.ntmps100
 go_wp2_with (refine wpList_load_row rfl 43 _ rfl w.heap.size rfl 43 (rsv (f:Int) (r:Int)) (0,0) _ ?_ Tryz.underlying43 rfl jG ?_;exact HCC.out)
 refine (validRst_any (f:Int) (r:Int) _).mono ?_
 rintro e V ⟨rfl,bv⟩
 rw [HD.out]
 have bv0:Below w0.heap.size w0 V:=by rw [HW0.out];exact bv
 have HC:=Lh (HC0.out.below bv0 HC0.out.lt)
 have HBV:=Lh (HBW.out.trans (bv0.mono HBW.out.size))
 clear bv bv0 HCC
 go_upto_region 3 with fail
 rw [←HB0.out]
 refine bI (n:=11) rfl fun W0 B0=>?_
 refine stF 0 (.pointer (some ⟨b0,0,none⟩)) rfl B0 (stG 1 (.int .i64 (f:Int)) rfl B0 (fun W b=>xLd 3 (.tmp 7) ⟨b0,0,none⟩ ((HC.out.below b HC.out.lt).cell 0)) (stG 2 (.int .u8 (f:Int)) rfl B0 (fun W _=>cO (v:=.int .i64 (f:Int)) 3 5 (.tmp 8) (by kernel_rfl) (by kernel_rfl) (fD (f:Int) f (by have:=HF.out;have:=HR.out;omega) W)) (stG 3 (.int .u8 (m:Int)) rfl B0 (fun _ _=>ex_add8 5 5 (.const (.int .u8 128)) (.tmp 9) (by kernel_rfl) 128 f m (by kernel_rfl) (by kernel_rfl) (by kernel_rfl) HMF.out HM.out) (stF 5 (.pointer (some ⟨b0,1,none⟩)) rfl B0 (stG 6 (.int .i64 (r:Int)) rfl B0 (fun W b=>xLd 3 (.tmp 12) ⟨b0,1,none⟩ ((HC.out.below b HC.out.lt).cell 1)) (stG 7 (.int .u8 (r:Int)) rfl B0 (fun W _=>cO (v:=.int .i64 (r:Int)) 3 5 (.tmp 13) (by kernel_rfl) (by kernel_rfl) (fD (r:Int) r (by have:=HF.out;have:=HR.out;omega) W)) ?_))))))
 refine stB 4 rfl (answer (bG ⟨#[]⟩ m _ (by decide) HM.out) (congrArg Value.string HA.out)) B0 fun W1 B1=>?_
 clear B0
 refine stB 8 rfl (answer (bG A r _ (by have:=HS.out.1;omega) HR.out) (congrArg Value.string HT.out)) B1 fun W2 B2=>?_
 clear B1
 refine stF 9 (.string T) rfl B2 (stF 10 (.int .i64 0) rfl B2 ?_)
 refine aG (by kernel_rfl) ?_
 have HE:=Lh (HBV.out.trans (B2.mono HBV.out.size))
 go_wp2_with fail
 exact aP 2 3 (.string T) (.int .i64 0) (by kernel_rfl) (by kernel_rfl) (by kernel_rfl) (by kernel_rfl) ⟨rfl,HE.out⟩
theorem EncodeRst_f (f r:Int) (hm:¬May f r) (w:World):
  Calls Tryz.prog 100 #[.agg (rsv f r)] w (Rt w (jO f r)):=by
 rw [encTV_f f r hm]
 have HD:=Lh (show decide (May f r)=false from decide_eq_false hm)
 have HCC:=Lh (Blk.new w 43 (rsv f r))
 have HB:=Lh ((Below.refl _ w).alloc (Nat.le_refl _) (.cells (rsv f r) 43))
 clear hm
 go_enter Tryz.func100,Tryz.ntmps100
 go_wp2_with (refine wpList_load_row rfl 43 _ rfl w.heap.size rfl 43 (rsv f r) (0,0) _ ?_ Tryz.underlying43 rfl jG ?_;exact HCC.out)
 refine (validRst_any f r _).mono ?_
 rintro e V ⟨rfl,bv⟩
 rw [HD.out]
 go_wp2_with fail
 exact aP 2 3 (.string ⟨#[]⟩) (.int .i64 2) (by kernel_rfl) (by kernel_rfl) (by kernel_rfl) (by kernel_rfl) ⟨rfl,aU HB.out bv⟩
theorem EncodeRst_any (f r:Int) (w:World):
  Calls Tryz.prog 100 #[.agg (rsv f r)] w (Rt w (jO f r)):=by
 by_cases hm:May f r
 ·obtain ⟨n,rfl⟩:=Int.eq_ofNat_of_zero_le hm.1.1
  obtain ⟨k,rfl⟩:=Int.eq_ofNat_of_zero_le hm.2.1
  exact EncodeRst_t n k hm w
 ·exact EncodeRst_f f r hm w
theorem pU (f r:Nat) (hm:May (f:Int) (r:Int)) (w:World):
  Calls Tryz.prog 113 #[.agg (rsv (f:Int) (r:Int))] w (Rt w (jO (f:Int) (r:Int))):=by
 rw [encTV_t f r hm]
 have l0:¬(f:Int) < 0:=by omega
 have l1:(f:Int)≤15:=hm.1.2
 have l2:¬(r:Int) < 0:=by omega
 have l3:(r:Int)≤255:=hm.2.2
 have HF:=Lh (show f≤15 by unfold May at hm;omega)
 have HR:=Lh (show r≤255 by unfold May at hm;omega)
 have HD:=Lh (show decide (May (f:Int) (r:Int))=true from decide_eq_true hm)
 obtain ⟨m,hmf⟩:∃m,128+f=m:=⟨_,rfl⟩
 have HM:=Lh (show m≤255 by have:=HF.out;omega)
 have HMF:=Lh hmf
 obtain ⟨T,hT⟩:=eqx (lN f r)
 rw [←hT]
 obtain ⟨A,hA⟩:=eqx (txt (be 1 m))
 obtain ⟨R,hR⟩:=eqx (txt (be 1 r))
 have HA:=Lh hA.symm
 have HRR:=Lh hR.symm
 have HT:=Lh (show A++R=T by rw [hA,hR,hT,lN,hmf,show be 1 m=[UInt8.ofNat m] by simp [be],show be 1 r=[UInt8.ofNat r] by simp [be]];exact bP [UInt8.ofNat m] [UInt8.ofNat r])
 have HS:=Lh (show A.size≤1∧R.size≤1 by rw [hA,hR,kC,kC];omega)
 obtain ⟨V,hV⟩:=eqx (w.alloc (.cells (rsv (f:Int) (r:Int)) 43))
 obtain ⟨b0,hb0⟩:=eqx w.heap.size
 have HC:=Lh (show Blk V b0 43 (rsv (f:Int) (r:Int)) by rw [hV,hb0];exact Blk.new _ _ _)
 have HBV:=Lh (mX hV)
 have HB0:=Lh hb0
 have HV:=Lh hV
 clear hm hmf hT hA hR hV hb0
 go_enter Tryz.func113,Tryz.ntmps113
 go_upto_region 3 with fail
 rw [←HV.out,←HB0.out]
 clear l0 l1 l2 l3
 refine bI (n:=12) rfl fun W0 B0=>?_
 refine stF 0 (.pointer (some ⟨b0,0,none⟩)) rfl B0 (stG 1 (.int .i64 (f:Int)) rfl B0 (fun W b=>xLd 3 (.tmp 22) ⟨b0,0,none⟩ ((HC.out.below b HC.out.lt).cell 0)) (stG 2 (.int .i64 (m:Int)) rfl B0 (fun _ _=>ex_add_i64 3 3 (.const (.int .i64 128)) (.tmp 23) (by kernel_rfl) 128 f m (by kernel_rfl) (by kernel_rfl) (by kernel_rfl) HMF.out HM.out) (stG 3 (.int .u64 (m:Int)) rfl B0 (fun W _=>cO (v:=.int .i64 (m:Int)) 3 23 (.tmp 24) (by kernel_rfl) (by kernel_rfl) (conv_i64_u64 m (by have:=HM.out;have:=HR.out;omega) W)) (stF 5 (.pointer (some ⟨b0,1,none⟩)) rfl B0 (stG 6 (.int .i64 (r:Int)) rfl B0 (fun W b=>xLd 3 (.tmp 27) ⟨b0,1,none⟩ ((HC.out.below b HC.out.lt).cell 1)) (stG 7 (.int .u64 (r:Int)) rfl B0 (fun W _=>cO (v:=.int .i64 (r:Int)) 3 23 (.tmp 28) (by kernel_rfl) (by kernel_rfl) (conv_i64_u64 r (by have:=HM.out;have:=HR.out;omega) W)) ?_))))))
 refine stB 4 rfl (Laid_t m 1 A _ (by have:=HM.out;omega) (by decide) (by decide) HA.out) B0 fun W1 B1=>?_
 clear B0
 refine stB 8 rfl (Laid_t r 1 R _ (by have:=HR.out;omega) (by decide) (by decide) HRR.out) B1 fun W2 B2=>?_
 clear B1
 refine stG 9 (.string T) rfl B2 (fun _ _=>ex_strcat 9 9 (.tmp 26) (.tmp 30) (by kernel_rfl) (A) (R) T (by kernel_rfl) (by kernel_rfl) (by have:=HS.out.1;omega) (by have:=HS.out.2;omega) HT.out.symm) (stF 10 (.string T) rfl B2 (stF 11 (.int .i64 0) rfl B2 ?_))
 refine aG (by kernel_rfl) ?_
 have HE:=Lh (HBV.out.trans (B2.mono HBV.out.size))
 go_wp2_with fail
 exact aP 2 3 (.string T) (.int .i64 0) (by kernel_rfl) (by kernel_rfl) (by kernel_rfl) (by kernel_rfl) ⟨rfl,HE.out⟩
theorem pJ (f r:Int) (hm:¬May f r) (w:World):
  Calls Tryz.prog 113 #[.agg (rsv f r)] w (Rt w (jO f r)):=by
 rw [encTV_f f r hm]
 have HB:=Lh ((Below.refl _ w).alloc (Nat.le_refl _) (.cells (rsv f r) 43))
 have HM:=Lh hm
 clear hm
 by_cases h1:f < 0
 ·skip
  go_enter Tryz.func113,Tryz.ntmps113
  go_wp2
  exact aP 2 3 (.string ⟨#[]⟩) (.int .i64 2) (by kernel_rfl) (by kernel_rfl) (by kernel_rfl) (by kernel_rfl) ⟨rfl,HB.out⟩
 by_cases h2:15 < f
 ·skip
  go_enter Tryz.func113,Tryz.ntmps113
  go_wp2
  exact aP 2 3 (.string ⟨#[]⟩) (.int .i64 2) (by kernel_rfl) (by kernel_rfl) (by kernel_rfl) (by kernel_rfl) ⟨rfl,HB.out⟩
 by_cases h3:r < 0
 ·skip
  go_enter Tryz.func113,Tryz.ntmps113
  go_wp2
  exact aP 2 3 (.string ⟨#[]⟩) (.int .i64 2) (by kernel_rfl) (by kernel_rfl) (by kernel_rfl) (by kernel_rfl) ⟨rfl,HB.out⟩
 have h4:255 < r:=by have:=HM.out;unfold May at this;omega
 go_enter Tryz.func113,Tryz.ntmps113
 go_wp2
 exact aP 2 3 (.string ⟨#[]⟩) (.int .i64 2) (by kernel_rfl) (by kernel_rfl) (by kernel_rfl) (by kernel_rfl) ⟨rfl,HB.out⟩
open Go.ChangeShapes Go.WideShapes Go.ChangeAt Go.RowKit
def Fin (m:Nat) (s:ByteArray) (k:Nat) (br:Bool):Prop:=k≤s.size∧uA s k br=fit m s.size
theorem below_setRow {B:Nat} {w W:World} {g:Nat} (h:Below B w W) (hg:B≤g) (cs:Array Value):Below B w (W.setRow g cs):=
 h.trans ⟨rfl,rfl,rfl,by simp,fun k hk=>setRow_other W g k cs fun e=>by omega⟩
open Go.ChangeShapes Go.WideShapes Go.ChangeAt Go.RowKit
theorem aY {P:Program} {fn:Func} {p t:Tmp} {ty:TypeId} (h:fn.results=#[.cell p ty,.tmp t]) (tmps:Array Value) (w:World) (g:Nat) (t':TypeId) (cs:Array Value) (fr:Nat×Nat) (d:TypeDesc)
  (hp:tmps.getD p undef= .pointer (some ⟨g,0,none⟩)) (hg:w.heap[g]?=some (.cells cs t' fr))
  (hu:P.underlying ty=some d) (hd:(match d with | .struct _ | .array _ _=>true | _=>false)=true) (hi:(P.info? ty).map (·.size)=some cs.size):
  (results fn tmps).run P w= .ok (.tuple #[.agg cs,tmps.getD t undef]) w:=by
 have hp':tmps[p]?.getD undef= .pointer (some ⟨g,0,none⟩):=by simpa using hp
 simp [results,h,hp',asAddr,run_loadVar_row w g t' ty cs fr d hg hu hd hi]
structure St (b:Nat) (s:ByteArray) (r q:Nat) (T:TypeId) (zs:Array Value) (w W:World) (k:Nat) (br:Bool):Prop where
 ret:Blk W r T zs
 err:Blk W q 55 #[.int .i64 0]
 cur:Cur W b s k br
 grown:w.grownBy W (some b)
 ne:r≠q
 nb:r≠b∧q≠b
 le:w.heap.size≤r∧w.heap.size≤q
namespace St
variable {b:Nat} {s:ByteArray} {r q:Nat} {T:TypeId} {zs:Array Value} {w W W':World} {k k':Nat} {br br':Bool}
theorem start (w:World) (b:Nat) (s:ByteArray) (k:Nat) (br:Bool) (h:Cur w b s k br) (T:TypeId) (zs:Array Value):St b s w.heap.size (w.heap.size+1) T zs w ((w.alloc (.cells zs T)).alloc (.cells #[.int .i64 0] 55)) k br:=by
 have hl:=Blk.lt h
 refine ⟨(Blk.new w T zs).alloc _,?_,Blk.alloc (Blk.alloc h _) _,bM (bM (.refl _ _) _) _,by omega,by omega,by omega⟩
 have:=Blk.new (w.alloc (.cells zs T)) 55 #[.int .i64 0]
 simpa using this
theorem drewN (h:St b s r q T zs w W k br) (n:Nat):St b s r q T zs w (W.drewN n) k br:=⟨h.ret.drewN n,h.err.drewN n,Blk.drewN h.cur n,only_drewN h.grown n,h.ne,h.nb,h.le⟩
theorem alloc (h:St b s r q T zs w W k br) (o:Obj):St b s r q T zs w (W.alloc o) k br:=⟨h.ret.alloc o,h.err.alloc o,Blk.alloc h.cur o,bM h.grown o,h.ne,h.nb,h.le⟩
end St
end Go.Proofs.YtklakghlliihkaaGreatDoor.L13
