/- AllCtrl. -/
import Derived.Test.YtnlhhjhidkjlbaaGreatDoorAllBase
import Derived.Laws.Tables
import Derived.Laws.Rows
import Derived.WalkLawsBesides
set_option maxHeartbeats 4000000
set_option maxRecDepth 100000
set_option linter.unusedVariables false
set_option linter.unusedSimpArgs false
namespace Go.Proofs.YtnlhhjhidkjlbaaGreatDoor.L13
theorem iE (a:ByteArray):(⟨#[]⟩:ByteArray)++a=a:=by apply ByteArray.ext;rw [ByteArray.data_append];simp
theorem iP (m n:Nat):(txt (be m n)).size=m:=by rw [aU,aS]
theorem byte_of (n:Nat) (h:n < 256):(UInt8.ofNat n).toNat=n:=by rw [UInt8.toNat_ofNat'];exact Nat.mod_eq_of_lt h
theorem empty_of (s:ByteArray) (h:s.size=0):s=⟨#[]⟩:=ByteArray.ext (Array.eq_empty_of_size_eq_zero h)
theorem qB (l:List UInt8) (i:Nat):byteAt (txt l) i=(l.getD i 0).toNat:=rfl
def fit (n m:Nat):Int:=if m < n then 4 else if n < m then 5 else 0
theorem fit_iff (n m:Nat):fit n m=0↔m=n:=by unfold fit;(repeat' split)<;>omega
def wrong (k n:Nat) (s:ByteArray):Int:=if s.size=0 then 4 else if byteAt s 0 / 16=k then fit n s.size else 7
theorem uC (k n:Nat) (s:ByteArray) (h:s.size=0):wrong k n s=4:=by unfold wrong;rw [if_pos h]
theorem uH (k n:Nat) (s:ByteArray) (h:s.size≠0) (hk:byteAt s 0 / 16≠k):wrong k n s=7:=by unfold wrong;rw [if_neg h,if_neg hk]
theorem lC (k n:Nat) (s:ByteArray) (h:s.size≠0) (hk:byteAt s 0 / 16=k):wrong k n s=fit n s.size:=by unfold wrong;rw [if_neg h,if_pos hk]
theorem lX (k n:Nat) (s:ByteArray) (hn:n≠0):wrong k n s=0↔s.size=n∧byteAt s 0 / 16=k:=by
 unfold wrong
 split
 ·constructor
  ·intro h;exact absurd h (by decide)
  ·rintro ⟨h,_⟩;omega
 ·split
  ·rw [fit_iff]
   constructor
   ·intro h;exact ⟨h,by assumption⟩
   ·exact fun h=>h.1
  ·constructor
   ·intro h;exact absurd h (by decide)
   ·rintro ⟨_,h⟩;contradiction
def eX (b:Bool):ByteArray:=txt [if b then 81 else 80]
def iO (k n:Nat):ByteArray:=txt (UInt8.ofNat (k * 16)::0::be 8 n)
def pO (f r:Nat):ByteArray:=txt [UInt8.ofNat (128+f),UInt8.ofNat r]
abbrev May (f r:Int):Prop:=(0≤f∧f≤15)∧(0≤r∧r≤255)
def vC (f r:Int):ByteArray×Int:=if May f r then (pO f.toNat r.toNat,0) else (⟨#[]⟩,2)
theorem encT_t (f r:Int) (h:May f r):vC f r=(pO f.toNat r.toNat,0):=if_pos h
theorem encT_f (f r:Int) (h:¬May f r):vC f r=(⟨#[]⟩,2):=if_neg h
theorem prioT_size (b:Bool):(eX b).size=1:=by rw [eX,aU];rfl
theorem wV (k n:Nat):(iO k n).size=10:=by rw [iO,aU];simp [aS]
theorem xP (f r:Nat):(pO f r).size=2:=by rw [pO,aU];rfl
def gotP (s:ByteArray):Bool:=byteAt s 0%2==1
def uJ (s:ByteArray):Bool:=if wrong 5 1 s=0 then gotP s else false
def kR (k:Nat) (s:ByteArray):Nat:=if wrong k 10 s=0 then num s 2 8 else 0
def uK (s:ByteArray):Nat:=if wrong 8 2 s=0 then byteAt s 0%16 else 0
def fF (s:ByteArray):Nat:=if wrong 8 2 s=0 then byteAt s 1 else 0
theorem prio_wrong (b:Bool):wrong 5 1 (eX b)=0:=by
 rw [lX _ _ _ (by decide)]
 exact ⟨prioT_size b,by cases b<;>rfl⟩
theorem prio_got (b:Bool):uJ (eX b)=b:=by
 unfold uJ;rw [if_pos (prio_wrong b)];cases b<;>rfl
theorem xQ (k n:Nat) (hk:k < 16):wrong k 10 (iO k n)=0:=by
 rw [lX _ _ _ (by decide)]
 refine ⟨wV k n,?_⟩
 rw [iO,qB,List.getD_cons_zero,byte_of _ (by omega)]
 omega
theorem num_got (k n:Nat) (hk:k < 16) (hn:n≤18446744073709551615):kR k (iO k n)=n:=by
 unfold kR;rw [if_pos (xQ k n hk)]
 have h:=dY [UInt8.ofNat (k * 16),0] [] 2 8 n rfl
 rw [List.append_nil] at h
 show num (txt ([UInt8.ofNat (k * 16),0]++be 8 n)) 2 8=n
 rw [h]
 exact Nat.mod_eq_of_lt (by omega)
theorem wP (f r:Nat) (hf:f≤15):wrong 8 2 (pO f r)=0:=by
 rw [lX _ _ _ (by decide)]
 refine ⟨xP f r,?_⟩
 rw [pO,qB,List.getD_cons_zero,byte_of _ (by omega)]
 omega
theorem rst_gotF (f r:Nat) (hf:f≤15):uK (pO f r)=f:=by
 unfold uK;rw [if_pos (wP f r hf),pO,qB,List.getD_cons_zero,byte_of _ (by omega)]
 omega
theorem rst_gotR (f r:Nat) (hf:f≤15) (hr:r≤255):fF (pO f r)=r:=by
 unfold fF;rw [if_pos (wP f r hf),pO,qB]
 show (UInt8.ofNat r).toNat=r
 exact byte_of _ (by omega)
open Go.ChangeShapes Go.WideShapes Go.ChangeAt Go.RowKit
abbrev prv (b:Bool):Array Value:=#[.bool b]
abbrev nuv (n:Nat):Array Value:=#[.int .u64 (n:Int)]
abbrev rsv (f r:Int):Array Value:=#[.int .i64 f,.int .i64 r]
theorem dU:(Tryz.prog.info? 36).map (·.size)=some 1:=by kernel_rfl
theorem dW:(Tryz.prog.info? 38).map (·.size)=some 1:=by kernel_rfl
theorem dV:(Tryz.prog.info? 40).map (·.size)=some 1:=by kernel_rfl
theorem dP:(Tryz.prog.info? 42).map (·.size)=some 2:=by kernel_rfl
def encPV (b:Bool):Value:=.tuple #[.string (eX b),.int .i64 0]
def encNV (k n:Nat):Value:=.tuple #[.string (iO k n),.int .i64 0]
def rF (f r:Int):Value:=.tuple #[.string (vC f r).1,.int .i64 (vC f r).2]
theorem bJ {P:Program} {fn:Func} {R:Ending→World→Prop} {a:Act} {w:World} (t u:Tmp) (v z:Value) (hf:fn.results=#[.tmp t,.tmp u]) (ht:a.tmps.getD t undef=v) (hu:a.tmps.getD u undef=z) (hd:a.defers=[]) (hR:R (.returned (.tuple #[v,z])) w):bodyPost P fn R .ret a w:=
 bodyPost_ret (by rw [results_tmp2 hf,ht,hu]) hd hR
theorem EncodePrio_any (b:Bool) (w:World):
  Calls Tryz.prog 74 #[.agg (prv b)] w (Rt w (encPV b)):=by
 have HB:=Lh ((Below.refl _ w).alloc (Nat.le_refl _) (.cells (prv b) 36))
 cases b
 ·go_enter Tryz.func74,Tryz.ntmps74
  go_wp2_with fail
  refine (answer (eU ⟨#[]⟩ 80 _ (by decide) (by decide)) (v':=.string (eX false)) (by kernel_rfl)).mono ?_
  rintro e w1 ⟨rfl,b1⟩
  go_wp2_with fail
  exact bJ 2 3 (.string (eX false)) (.int .i64 0) (by kernel_rfl) (by kernel_rfl) (by kernel_rfl) (by kernel_rfl) ⟨rfl,bM HB.out b1⟩
 ·go_enter Tryz.func74,Tryz.ntmps74
  go_wp2_with fail
  refine (answer (eU ⟨#[]⟩ 81 _ (by decide) (by decide)) (v':=.string (eX true)) (by kernel_rfl)).mono ?_
  rintro e w1 ⟨rfl,b1⟩
  go_wp2_with fail
  exact bJ 2 3 (.string (eX true)) (.int .i64 0) (by kernel_rfl) (by kernel_rfl) (by kernel_rfl) (by kernel_rfl) ⟨rfl,bM HB.out b1⟩
theorem one_byte (n:Nat):(⟨#[]⟩:ByteArray)++⟨(be 1 n).toArray⟩=txt [UInt8.ofNat n]:=by rw [iE];apply ByteArray.ext;simp [be,txt]
theorem encodeNumber_any (k n:Nat) (hk:k < 16) (hn:n≤18446744073709551615) (w:World):
  Calls Tryz.prog 142 #[.int .u8 (k:Int),.int .u64 (n:Int)] w (Rt w (.string (iO k n))):=by
 obtain ⟨m,hm⟩:=eqx (k * 16)
 have hc:(k:Int) * 16%256=(m:Int):=by omega
 have HK:=Lh (show m≤255 by omega)
 have HN:=Lh hn
 obtain ⟨A,hA⟩:=eqx (txt [UInt8.ofNat m])
 obtain ⟨C,hC⟩:=eqx (txt [UInt8.ofNat m,0])
 have HA:=Lh (show (⟨#[]⟩:ByteArray)++⟨(be 1 m).toArray⟩=A by rw [hA];exact one_byte _)
 have HC:=Lh (show A++⟨(be 1 0).toArray⟩=C by rw [hA,hC];exact dK [UInt8.ofNat m] [0])
 have HT:=Lh (show C++⟨(be 8 n).toArray⟩=iO k n by rw [hC,iO,←hm];exact dK [UInt8.ofNat m,0] (be 8 n))
 have HS:=Lh (show A.size≤10∧C.size≤10 by rw [hA,hC,aU,aU];exact ⟨by simp,by simp⟩)
 clear hA hC hk hn hm
 go_enter Tryz.func142,Tryz.ntmps142
 go_wp2_with fail
 refine (answer (eU ⟨#[]⟩ m _ (by decide) HK.out) (congrArg Value.string HA.out)).mono ?_
 rintro e w1 ⟨rfl,b1⟩
 have HB1:=Lh b1
 clear b1
 go_wp2_with fail
 refine (answer (eU A 0 _ (by have:=HS.out;omega) (by decide)) (congrArg Value.string HC.out)).mono ?_
 rintro e w2 ⟨rfl,b2⟩
 have HB2:=Lh (bM HB1.out b2)
 clear b2
 go_wp2_with fail
 refine (answer (wW C n _ (by have:=HS.out;omega) HN.out) (congrArg Value.string HT.out)).mono ?_
 rintro e w3 ⟨rfl,b3⟩
 have HB3:=Lh (bM HB2.out b3)
 clear b3
 go_wp2_with fail
 go_ret;exact ⟨rfl,HB3.out⟩
theorem EncodeFail_any (n:Nat) (hn:n≤18446744073709551615) (w:World):
  Calls Tryz.prog 78 #[.agg (nuv n)] w (Rt w (encNV 6 n)):=by
 have HB:=Lh ((Below.refl _ w).alloc (Nat.le_refl _) (.cells (nuv n) 38))
 have HN:=Lh hn
 clear hn
 go_enter Tryz.func78,Tryz.ntmps78
 go_wp2_with fail
 refine (encodeNumber_any 6 n (by decide) HN.out _).mono ?_
 rintro e w1 ⟨rfl,b1⟩
 go_wp2_with fail
 exact bJ 2 3 (.string (iO 6 n)) (.int .i64 0) (by kernel_rfl) (by kernel_rfl) (by kernel_rfl) (by kernel_rfl) ⟨rfl,bM HB.out b1⟩
theorem EncodeFast_any (n:Nat) (hn:n≤18446744073709551615) (w:World):
  Calls Tryz.prog 82 #[.agg (nuv n)] w (Rt w (encNV 7 n)):=by
 have HB:=Lh ((Below.refl _ w).alloc (Nat.le_refl _) (.cells (nuv n) 40))
 have HN:=Lh hn
 clear hn
 go_enter Tryz.func82,Tryz.ntmps82
 go_wp2_with fail
 refine (encodeNumber_any 7 n (by decide) HN.out _).mono ?_
 rintro e w1 ⟨rfl,b1⟩
 go_wp2_with fail
 exact bJ 2 3 (.string (iO 7 n)) (.int .i64 0) (by kernel_rfl) (by kernel_rfl) (by kernel_rfl) (by kernel_rfl) ⟨rfl,bM HB.out b1⟩
theorem validRst_any (f r:Int) (w:World):
  Calls Tryz.prog 148 #[.agg (rsv f r)] w (Rt w (.bool (decide (May f r)))):=by
 have HB:=Lh ((Below.refl _ w).alloc (Nat.le_refl _) (.cells (rsv f r) 42))
 by_cases h1:0≤f
 ·by_cases h2:f < 16
  ·by_cases h3:0≤r
   ·by_cases h4:r≤255
    ·rw [decide_eq_true (show May f r by unfold May;omega)]
     go_enter Tryz.func148,Tryz.ntmps148
     go_wp2
     go_ret;exact ⟨rfl,HB.out⟩
    ·rw [decide_eq_false (show¬May f r by unfold May;omega)]
     go_enter Tryz.func148,Tryz.ntmps148
     go_wp2
     go_ret;exact ⟨rfl,HB.out⟩
   ·rw [decide_eq_false (show¬May f r by unfold May;omega)]
    go_enter Tryz.func148,Tryz.ntmps148
    go_wp2
    go_ret;exact ⟨rfl,HB.out⟩
  ·rw [decide_eq_false (show¬May f r by unfold May;omega)]
   go_enter Tryz.func148,Tryz.ntmps148
   go_wp2
   go_ret;exact ⟨rfl,HB.out⟩
 ·rw [decide_eq_false (show¬May f r by unfold May;omega)]
  go_enter Tryz.func148,Tryz.ntmps148
  go_wp2
  go_ret;exact ⟨rfl,HB.out⟩
open Go.ChangeShapes Go.WideShapes Go.ChangeAt Go.RowKit
theorem encTV_t (f r:Nat) (h:May (f:Int) (r:Int)):rF (f:Int) (r:Int)= .tuple #[.string (pO f r),.int .i64 0]:=by unfold rF;rw [encT_t _ _ h];rfl
theorem encTV_f (f r:Int) (h:¬May f r):rF f r= .tuple #[.string ⟨#[]⟩,.int .i64 2]:=by unfold rF;rw [encT_f _ _ h]
theorem ex_add8 {ρ:Operand→Value} {o:Oper} {w:World} (t u:TypeId) (x y:Operand) (ho:o.op= .binOp .add t x y u) (a b c:Nat) (hx:ρ x= .int .u8 (a:Int)) (hy:ρ y= .int .u8 (b:Int)) (ht:Tryz.prog.underlying t=some (.int .u8)) (h:a+b=c) (hc:c≤255):
  (execOp ρ o).run Tryz.prog w= .ok (.value (.int .u8 (c:Int))) w:=by
 have e:IntKind.u8.wrap ((a:Int)+(b:Int))=(c:Int):=by rw [IntKind.wrap_u8];omega
 unfold execOp
 rw [ho]
 simp [hx,hy,go_sem,e]
theorem ex_add_i64 {ρ:Operand→Value} {o:Oper} {w:World} (t u:TypeId) (x y:Operand) (ho:o.op= .binOp .add t x y u) (a b c:Nat) (hx:ρ x= .int .i64 (a:Int)) (hy:ρ y= .int .i64 (b:Int)) (ht:Tryz.prog.underlying t=some (.int .i64)) (h:a+b=c) (hc:c≤255):
  (execOp ρ o).run Tryz.prog w= .ok (.value (.int .i64 (c:Int))) w:=by
 have e:IntKind.i64.wrap ((a:Int)+(b:Int))=(c:Int):=by rw [IntKind.wrap_i64];omega
 unfold execOp
 rw [ho]
 simp [hx,hy,go_sem,e]
theorem dG (n:Nat) (h:n≤9223372036854775807) (w:World):(convert 3 22 (.int .i64 (n:Int))).run Tryz.prog w= .ok (.int .u64 (n:Int)) w:=by
 rw [run_convert_int w 3 22 .i64 _ (by kernel_rfl) (by kernel_rfl),show Tryz.prog.intKind 22= .u64 by kernel_rfl,IntKind.wrap_u64,show (n:Int)%18446744073709551616=(n:Int) by omega]
theorem EncodeRst_t (f r:Nat) (hm:May (f:Int) (r:Int)) (w:World):
  Calls Tryz.prog 86 #[.agg (rsv (f:Int) (r:Int))] w (Rt w (rF (f:Int) (r:Int))):=by
 rw [encTV_t f r hm]
 have HF:=Lh (show f≤15 by unfold May at hm;omega)
 have HR:=Lh (show r≤255 by unfold May at hm;omega)
 have HD:=Lh (show decide (May (f:Int) (r:Int))=true from decide_eq_true hm)
 obtain ⟨m,hmf⟩:∃m,128+f=m:=⟨_,rfl⟩
 have HM:=Lh (show m≤255 by have:=HF.out;omega)
 have HMF:=Lh hmf
 obtain ⟨T,hT⟩:=eqx (pO f r)
 rw [←hT]
 obtain ⟨A,hA⟩:=eqx (txt [UInt8.ofNat m])
 have HA:=Lh (show (⟨#[]⟩:ByteArray)++⟨(be 1 m).toArray⟩=A by rw [hA];exact one_byte _)
 have HT:=Lh (show A++⟨(be 1 r).toArray⟩=T by rw [hA,hT,pO,hmf,show (be 1 r)=[UInt8.ofNat r] by simp [be]];exact dK [UInt8.ofNat m] [UInt8.ofNat r])
 have HS:=Lh (show A.size≤1∧T.size≤2 by rw [hA,hT,aU,xP];exact ⟨by simp,by omega⟩)
 obtain ⟨w0,hw0⟩:=eqx (w.alloc (.cells (rsv (f:Int) (r:Int)) 42))
 obtain ⟨b0,hb0⟩:=eqx w.heap.size
 have hc0:Blk w0 b0 42 (rsv (f:Int) (r:Int)):=by rw [hw0,hb0];exact Blk.new _ _ _
 have HBW:=Lh (kD hw0)
 have HCC:=Lh (show Blk (w.alloc (.cells (rsv (f:Int) (r:Int)) 42)) w.heap.size 42 (rsv (f:Int) (r:Int)) from Blk.new _ _ _)
 have HC0:=Lh hc0
 have HW0:=Lh hw0
 have HB0:=Lh hb0
 clear hm hmf hT hA hw0 hb0 hc0
 go_enter Tryz.func86,Tryz.ntmps86
 go_wp2_with (refine wpList_load_row rfl 42 _ rfl w.heap.size rfl 42 (rsv (f:Int) (r:Int)) (0,0) _ ?_ Tryz.underlying42 rfl dP ?_;exact HCC.out)
 refine (validRst_any (f:Int) (r:Int) _).mono ?_
 rintro e V ⟨rfl,bv⟩
 rw [HD.out]
 have bv0:Below w0.heap.size w0 V:=by rw [HW0.out];exact bv
 have HC:=Lh (HC0.out.below bv0 HC0.out.lt)
 have HBV:=Lh (HBW.out.trans (bv0.mono HBW.out.size))
 clear bv bv0 HCC
 go_upto_region 3 with fail
 rw [←HB0.out]
 refine bZ (n:=11) rfl fun W0 B0=>?_
 refine stF 0 (.pointer (some ⟨b0,0,none⟩)) rfl B0 (stG 1 (.int .i64 (f:Int)) rfl B0 (fun W b=>xLd 3 (.tmp 7) ⟨b0,0,none⟩ ((HC.out.below b HC.out.lt).cell 0)) (stG 2 (.int .u8 (f:Int)) rfl B0 (fun W _=>aH (v:=.int .i64 (f:Int)) 3 5 (.tmp 8) (by kernel_rfl) (by kernel_rfl) (oU (f:Int) f (by have:=HF.out;have:=HR.out;omega) W)) (stG 3 (.int .u8 (m:Int)) rfl B0 (fun _ _=>ex_add8 5 5 (.const (.int .u8 128)) (.tmp 9) (by kernel_rfl) 128 f m (by kernel_rfl) (by kernel_rfl) (by kernel_rfl) HMF.out HM.out) (stF 5 (.pointer (some ⟨b0,1,none⟩)) rfl B0 (stG 6 (.int .i64 (r:Int)) rfl B0 (fun W b=>xLd 3 (.tmp 12) ⟨b0,1,none⟩ ((HC.out.below b HC.out.lt).cell 1)) (stG 7 (.int .u8 (r:Int)) rfl B0 (fun W _=>aH (v:=.int .i64 (r:Int)) 3 5 (.tmp 13) (by kernel_rfl) (by kernel_rfl) (oU (r:Int) r (by have:=HF.out;have:=HR.out;omega) W)) ?_))))))
 refine stB 4 rfl (answer (eU ⟨#[]⟩ m _ (by decide) HM.out) (congrArg Value.string HA.out)) B0 fun W1 B1=>?_
 clear B0
 refine stB 8 rfl (answer (eU A r _ (by have:=HS.out.1;omega) HR.out) (congrArg Value.string HT.out)) B1 fun W2 B2=>?_
 clear B1
 refine stF 9 (.string T) rfl B2 (stF 10 (.int .i64 0) rfl B2 ?_)
 refine aI (by kernel_rfl) ?_
 have HE:=Lh (HBV.out.trans (B2.mono HBV.out.size))
 go_wp2_with fail
 exact bJ 2 3 (.string T) (.int .i64 0) (by kernel_rfl) (by kernel_rfl) (by kernel_rfl) (by kernel_rfl) ⟨rfl,HE.out⟩
theorem EncodeRst_f (f r:Int) (hm:¬May f r) (w:World):
  Calls Tryz.prog 86 #[.agg (rsv f r)] w (Rt w (rF f r)):=by
 rw [encTV_f f r hm]
 have HD:=Lh (show decide (May f r)=false from decide_eq_false hm)
 have HCC:=Lh (Blk.new w 42 (rsv f r))
 have HB:=Lh ((Below.refl _ w).alloc (Nat.le_refl _) (.cells (rsv f r) 42))
 clear hm
 go_enter Tryz.func86,Tryz.ntmps86
 go_wp2_with (refine wpList_load_row rfl 42 _ rfl w.heap.size rfl 42 (rsv f r) (0,0) _ ?_ Tryz.underlying42 rfl dP ?_;exact HCC.out)
 refine (validRst_any f r _).mono ?_
 rintro e V ⟨rfl,bv⟩
 rw [HD.out]
 go_wp2_with fail
 exact bJ 2 3 (.string ⟨#[]⟩) (.int .i64 2) (by kernel_rfl) (by kernel_rfl) (by kernel_rfl) (by kernel_rfl) ⟨rfl,bM HB.out bv⟩
theorem EncodeRst_any (f r:Int) (w:World):
  Calls Tryz.prog 86 #[.agg (rsv f r)] w (Rt w (rF f r)):=by
 by_cases hm:May f r
 ·obtain ⟨n,rfl⟩:=Int.eq_ofNat_of_zero_le hm.1.1
  obtain ⟨k,rfl⟩:=Int.eq_ofNat_of_zero_le hm.2.1
  exact EncodeRst_t n k hm w
 ·exact EncodeRst_f f r hm w
theorem rY (f r:Nat) (hm:May (f:Int) (r:Int)) (w:World):
  Calls Tryz.prog 98 #[.agg (rsv (f:Int) (r:Int))] w (Rt w (rF (f:Int) (r:Int))):=by
 rw [encTV_t f r hm]
 have l0:¬(f:Int) < 0:=by omega
 have l1:(f:Int)≤15:=hm.1.2
 have l2:¬(r:Int) < 0:=by omega
 have l3:(r:Int)≤255:=hm.2.2
 have HF:=Lh (show f≤15 by unfold May at hm;omega)
 have HR:=Lh (show r≤255 by unfold May at hm;omega)
 have HD:=Lh (show decide (May (f:Int) (r:Int))=true from decide_eq_true hm)
 obtain ⟨m,hmf⟩:∃m,128+f=m:=⟨_,rfl⟩
 have HM:=Lh (show m≤255 by have:=HF.out;omega)
 have HMF:=Lh hmf
 obtain ⟨T,hT⟩:=eqx (pO f r)
 rw [←hT]
 obtain ⟨A,hA⟩:=eqx (txt (be 1 m))
 obtain ⟨R,hR⟩:=eqx (txt (be 1 r))
 have HA:=Lh hA.symm
 have HRR:=Lh hR.symm
 have HT:=Lh (show A++R=T by rw [hA,hR,hT,pO,hmf,show be 1 m=[UInt8.ofNat m] by simp [be],show be 1 r=[UInt8.ofNat r] by simp [be]];exact dK [UInt8.ofNat m] [UInt8.ofNat r])
 have HS:=Lh (show A.size≤1∧R.size≤1 by rw [hA,hR,iP,iP];omega)
 obtain ⟨V,hV⟩:=eqx (w.alloc (.cells (rsv (f:Int) (r:Int)) 42))
 obtain ⟨b0,hb0⟩:=eqx w.heap.size
 have HC:=Lh (show Blk V b0 42 (rsv (f:Int) (r:Int)) by rw [hV,hb0];exact Blk.new _ _ _)
 have HBV:=Lh (kD hV)
 have HB0:=Lh hb0
 have HV:=Lh hV
 clear hm hmf hT hA hR hV hb0
 go_enter Tryz.func98,Tryz.ntmps98
 go_upto_region 3 with fail
 rw [←HV.out,←HB0.out]
 clear l0 l1 l2 l3
 refine bZ (n:=12) rfl fun W0 B0=>?_
 refine stF 0 (.pointer (some ⟨b0,0,none⟩)) rfl B0 (stG 1 (.int .i64 (f:Int)) rfl B0 (fun W b=>xLd 3 (.tmp 22) ⟨b0,0,none⟩ ((HC.out.below b HC.out.lt).cell 0)) (stG 2 (.int .i64 (m:Int)) rfl B0 (fun _ _=>ex_add_i64 3 3 (.const (.int .i64 128)) (.tmp 23) (by kernel_rfl) 128 f m (by kernel_rfl) (by kernel_rfl) (by kernel_rfl) HMF.out HM.out) (stG 3 (.int .u64 (m:Int)) rfl B0 (fun W _=>aH (v:=.int .i64 (m:Int)) 3 22 (.tmp 24) (by kernel_rfl) (by kernel_rfl) (dG m (by have:=HM.out;have:=HR.out;omega) W)) (stF 5 (.pointer (some ⟨b0,1,none⟩)) rfl B0 (stG 6 (.int .i64 (r:Int)) rfl B0 (fun W b=>xLd 3 (.tmp 27) ⟨b0,1,none⟩ ((HC.out.below b HC.out.lt).cell 1)) (stG 7 (.int .u64 (r:Int)) rfl B0 (fun W _=>aH (v:=.int .i64 (r:Int)) 3 22 (.tmp 28) (by kernel_rfl) (by kernel_rfl) (dG r (by have:=HM.out;have:=HR.out;omega) W)) ?_))))))
 refine stB 4 rfl (gB m 1 A _ (by have:=HM.out;omega) (by decide) (by decide) HA.out) B0 fun W1 B1=>?_
 clear B0
 refine stB 8 rfl (gB r 1 R _ (by have:=HR.out;omega) (by decide) (by decide) HRR.out) B1 fun W2 B2=>?_
 clear B1
 refine stG 9 (.string T) rfl B2 (fun _ _=>dH 9 9 (.tmp 26) (.tmp 30) (by kernel_rfl) (A) (R) T (by kernel_rfl) (by kernel_rfl) (by have:=HS.out.1;omega) (by have:=HS.out.2;omega) HT.out.symm) (stF 10 (.string T) rfl B2 (stF 11 (.int .i64 0) rfl B2 ?_))
 refine aI (by kernel_rfl) ?_
 have HE:=Lh (HBV.out.trans (B2.mono HBV.out.size))
 go_wp2_with fail
 exact bJ 2 3 (.string T) (.int .i64 0) (by kernel_rfl) (by kernel_rfl) (by kernel_rfl) (by kernel_rfl) ⟨rfl,HE.out⟩
theorem yQ (f r:Int) (hm:¬May f r) (w:World):
  Calls Tryz.prog 98 #[.agg (rsv f r)] w (Rt w (rF f r)):=by
 rw [encTV_f f r hm]
 have HB:=Lh ((Below.refl _ w).alloc (Nat.le_refl _) (.cells (rsv f r) 42))
 have HM:=Lh hm
 clear hm
 by_cases h1:f < 0
 ·skip
  go_enter Tryz.func98,Tryz.ntmps98
  go_wp2
  exact bJ 2 3 (.string ⟨#[]⟩) (.int .i64 2) (by kernel_rfl) (by kernel_rfl) (by kernel_rfl) (by kernel_rfl) ⟨rfl,HB.out⟩
 by_cases h2:15 < f
 ·skip
  go_enter Tryz.func98,Tryz.ntmps98
  go_wp2
  exact bJ 2 3 (.string ⟨#[]⟩) (.int .i64 2) (by kernel_rfl) (by kernel_rfl) (by kernel_rfl) (by kernel_rfl) ⟨rfl,HB.out⟩
 by_cases h3:r < 0
 ·skip
  go_enter Tryz.func98,Tryz.ntmps98
  go_wp2
  exact bJ 2 3 (.string ⟨#[]⟩) (.int .i64 2) (by kernel_rfl) (by kernel_rfl) (by kernel_rfl) (by kernel_rfl) ⟨rfl,HB.out⟩
 have h4:255 < r:=by have:=HM.out;unfold May at this;omega
 go_enter Tryz.func98,Tryz.ntmps98
 go_wp2
 exact bJ 2 3 (.string ⟨#[]⟩) (.int .i64 2) (by kernel_rfl) (by kernel_rfl) (by kernel_rfl) (by kernel_rfl) ⟨rfl,HB.out⟩
theorem EncodeRst_ref (f r:Int) (w:World):
  Calls Tryz.prog 98 #[.agg (rsv f r)] w (Rt w (rF f r)):=by
 by_cases hm:May f r
 ·obtain ⟨n,rfl⟩:=Int.eq_ofNat_of_zero_le hm.1.1
  obtain ⟨k,rfl⟩:=Int.eq_ofNat_of_zero_le hm.2.1
  exact rY n k hm w
 ·exact yQ f r hm w
open Go.ChangeShapes Go.WideShapes Go.ChangeAt Go.RowKit
theorem vU (b:Nat) (s:ByteArray) (w:World) (hs:s.size≤9223372036854775807) (h0:s.size≠0) (h:Cur w b s 0 false):
  Calls Tryz.prog 137 #[.pointer (some ⟨b,0,none⟩)] w fun e w'=>e= .returned (.int .u8 (byteAt s 0:Int))∧bW w w' b s 1 false:=by
 have q:=U8_t b s 0 w hs (by omega) h
 rw [lN] at q
 exact q
def Fin (m:Nat) (s:ByteArray) (k:Nat) (br:Bool):Prop:=k≤s.size∧oP s k br=fit m s.size
theorem fin_one (s:ByteArray) (h0:s.size≠0):Fin 1 s 1 false:=by
 refine ⟨by omega,?_⟩
 unfold oP fit
 (repeat' split)<;>first | rfl | omega | contradiction
theorem fin_two (s:ByteArray) (h0:s.size≠0):Fin 2 s (fC s 1 false (1:Nat)) (brO s 1 false (1:Nat)):=by
 refine ⟨nM s 1 false _ (by omega),?_⟩
 rcases gV s 1 false (1:Nat) with ⟨h,_⟩ | ⟨_,hn,hf⟩ | ⟨_,_,h1,hf⟩
 ·cases h
 ·rw [mM hf];unfold oP fit;rw [if_pos rfl,if_pos (by omega)]
 ·rw [kF hf,iF hf]
  unfold oP fit
  rw [if_neg (by decide),if_neg (show¬s.size < 2 by omega)]
  rfl
theorem fin_ten (s:ByteArray) (h0:s.size≠0):Fin 10 s (fC s (fC s 1 false (1:Nat)) (brO s 1 false (1:Nat)) (8:Nat)) (brO s (fC s 1 false (1:Nat)) (brO s 1 false (1:Nat)) (8:Nat)):=by
 have hp:=nM s 1 false (1:Nat) (by omega)
 refine ⟨nM s _ _ _ hp,?_⟩
 rcases gV s 1 false (1:Nat) with ⟨h,_⟩ | ⟨_,hn,hf⟩ | ⟨_,_,h1,hf⟩
 ·cases h
 ·rw [mM hf,mZ hf]
  rw [mM (by unfold fits;rfl)]
  unfold oP fit;rw [if_pos rfl,if_pos (by omega)]
 ·rw [kF hf,iF hf]
  rcases gV s (1+Int.toNat (1:Nat)) false (8:Nat) with ⟨h,_⟩ | ⟨_,hn,hf⟩ | ⟨_,_,h1,hf⟩
  ·cases h
  ·rw [mM hf];unfold oP fit;rw [if_pos rfl,if_pos (by have:(Int.toNat (1:Nat))=1:=rfl;omega)]
  ·rw [kF hf,iF hf]
   have e1:Int.toNat (1:Nat)=1:=rfl
   have e8:Int.toNat (8:Nat)=8:=rfl
   unfold oP fit
   rw [if_neg (by decide),if_neg (show¬s.size < 10 by omega)]
   rfl
theorem got_two (s:ByteArray) (h:fit 2 s.size=0):numO s 1 false 1=byteAt s 1:=by
 rw [fit_iff] at h
 rw [iG (by unfold fits;rw [h];rfl),lN]
theorem got_ten (s:ByteArray) (h:fit 10 s.size=0):numO s (fC s 1 false (1:Nat)) (brO s 1 false (1:Nat)) 8=num s 2 8:=by
 rw [fit_iff] at h
 have hf:fits s 1 false (1:Nat)=true:=by unfold fits;rw [h];rfl
 rw [iF hf,kF hf,iG (by unfold fits;rw [h];rfl)]
 rfl
theorem decodeNumber_any (b:Nat) (s:ByteArray) (w:World) (hs:s.size≤9223372036854775807) (h0:s.size≠0) (h:Cur w b s 1 false):
  Calls Tryz.prog 145 #[.pointer (some ⟨b,0,none⟩)] w fun e w'=>∃n k br,e= .returned (.int .u64 ((n:Nat):Int))∧bW w w' b s k br∧Fin 10 s k br∧(fit 10 s.size=0→n=num s 2 8):=by
 obtain ⟨p,hp⟩:=eqx (fC s 1 false (1:Nat))
 obtain ⟨q,hq⟩:=eqx (brO s 1 false (1:Nat))
 obtain ⟨n,hn⟩:=eqx (numO s p q 8)
 obtain ⟨m,hm⟩:=eqx (numO s 1 false 1)
 have H1:=Lh (sF b s 1 false w hs (by omega) h)
 have H8:=Lh (fun w1 (h1:Cur w1 b s p q)=>U64_any b s p q w1 hs (by rw [hp];exact nM s 1 false _ (by omega)) h1)
 have HF:=Lh (fin_ten s h0)
 have HG:=Lh (got_ten s)
 rw [←hm,←hp,←hq] at H1
 rw [←hn] at H8
 rw [←hp,←hq] at HF HG
 rw [←hn] at HG
 clear h hp hq hn hm hs h0
 go_enter Tryz.func145,Tryz.ntmps145
 go_wp2_with fail
 refine H1.out.mono ?_
 rintro e w1 ⟨rfl,m1⟩
 have HM:=Lh m1
 clear m1
 go_wp2_with fail
 refine (H8.out _ HM.out.2).mono ?_
 rintro e w2 ⟨rfl,m2⟩
 have HM2:=Lh (HM.out.trans m2)
 clear m2
 go_wp2_with fail
 go_ret
 exact ⟨n,_,_,rfl,HM2.out,HF.out,HG.out⟩
theorem nH {P:Program} {fn:Func} {p:Tmp} {ty:TypeId} (h:fn.results=#[.cell p ty]) (tmps:Array Value) (w:World) (g:Nat) (t':TypeId) (cs:Array Value) (fr:Nat×Nat) (d:TypeDesc)
  (hp:tmps.getD p undef= .pointer (some ⟨g,0,none⟩)) (hg:w.heap[g]?=some (.cells cs t' fr))
  (hu:P.underlying ty=some d) (hd:(match d with | .struct _ | .array _ _=>true | _=>false)=true) (hi:(P.info? ty).map (·.size)=some cs.size):
  (results fn tmps).run P w= .ok (.agg cs) w:=by
 have hp':tmps[p]?.getD undef= .pointer (some ⟨g,0,none⟩):=by simpa using hp
 simp [results,h,hp',asAddr,run_loadVar_row w g t' ty cs fr d hg hu hd hi]
theorem below_setRow {B:Nat} {w W:World} {g:Nat} (h:Below B w W) (hg:B≤g) (cs:Array Value):Below B w (W.setRow g cs):=
 h.trans ⟨rfl,rfl,rfl,by simp,fun k hk=>setRow_other W g k cs fun e=>by omega⟩
theorem jV:∀n:_root_.Fin 256,(bits .and .u8 (n.val:Int) 1 !=0)=(n.val%2==1):=by decide+kernel
theorem uA {w W:World} {b:Nat} {s:ByteArray} {k:Nat} {br:Bool} (h:bW w W b s k br) (r:Nat) (hr:w.heap.size≤r) (hb:b≠r) (cs:Array Value):bW w (W.setRow r cs) b s k br:=
 ⟨{ os:=h.1.os,tape:=h.1.tape,output:=h.1.output,size:=by have:=h.1.size;simpa using this,block:=fun i hi hn=>(setRow_other W r i cs fun e=>by omega).trans (h.1.block i hi hn) },Blk.same h.2 (setRow_other W r b cs hb)⟩
theorem zG (b:Bool):(prv b).all (·.oneCell')=true:=by simp [Value.oneCell']
theorem pF (n:Nat):(nuv n).all (·.oneCell')=true:=by simp [Value.oneCell']
theorem zQ (f r:Int):(rsv f r).all (·.oneCell')=true:=by simp [Value.oneCell']
theorem closP_any (c b:Nat) (s:ByteArray) (w:World) (hc:c < 256) (h0:s.size≠0) (h:Cur w b s 1 false):
  Calls Tryz.prog 141 #[.int .u8 (c:Int)] w fun e w'=>e= .returned (.agg (prv (c%2==1)))∧bW w w' b s 1 false:=by
 have hb:(bits .and .u8 (c:Int) 1 !=0)=(c%2==1):=jV ⟨c,hc⟩
 have HG:=Lh (Blk.new w 36 (prv false))
 have HM:=Lh (show bW w (w.alloc (.cells (prv false) 36)) b s 1 false from ⟨eG (.refl _ _) _,Blk.alloc h _⟩)
 have HN:=Lh (show b≠w.heap.size from Nat.ne_of_lt (Blk.lt h))
 clear h
 go_enter Tryz.func141,Tryz.ntmps141
 go_wp2_with (refine wpList_store_row rfl 36 _ _ rfl w.heap.size (prv (c%2==1)) rfl rfl 36 (prv false) ?_ dU rfl (zG _) ?_;exact HG.out)
 exact bodyPost_ret (nH (p:=2) rfl _ _ w.heap.size 36 (prv (c%2==1)) (0,0) _ (by kernel_rfl) (setRow_heap _ _ _ _ _ _ HG.out) Tryz.underlying36 rfl dU) rfl ⟨rfl,uA HM.out _ (Nat.le_refl _) HN.out _⟩
theorem closF_any (c g b:Nat) (s:ByteArray) (w:World) (hs:s.size≤9223372036854775807) (h0:s.size≠0) (h:Cur w b s 1 false) (hg:Blk w g 177 #[.pointer (some ⟨b,0,none⟩)]):
  Calls Tryz.prog 144 #[.int .u8 (c:Int),.pointer (some ⟨g,0,none⟩)] w fun e w'=>∃n k br,e= .returned (.agg (nuv n))∧bW w w' b s k br∧Fin 10 s k br∧(fit 10 s.size=0→n=num s 2 8):=by
 have cg:=(hg.alloc (.cells #[.int .u64 0] 38)).cell 0
 simp only [List.getElem?_toArray,List.getElem?_cons_zero] at cg
 have H1:=Lh (fun w1 (h1:Cur w1 b s 1 false)=>decodeNumber_any b s w1 hs h0 h1)
 obtain ⟨w0,hw0⟩:=eqx (w.alloc (.cells #[.int .u64 0] 38))
 have HZ:=Lh (show Blk w0 w.heap.size 38 #[.int .u64 0] by rw [hw0];exact Blk.new _ _ _)
 have HM:=Lh (show bW w w0 b s 1 false by rw [hw0];exact ⟨eG (.refl _ _) _,Blk.alloc h _⟩)
 have HN:=Lh (show b≠w.heap.size from Nat.ne_of_lt (Blk.lt h))
 have HW:=Lh hw0
 clear h hg hs hw0
 go_enter Tryz.func144,Tryz.ntmps144
 go_wp2_with fail
 rw [←HW.out]
 refine (H1.out _ HM.out.2).mono ?_
 rintro e w1 ⟨n,k,br,rfl,m1,hf,hn⟩
 have HM1:=Lh (HM.out.trans m1)
 have HZ1:=Lh (HZ.out.grown m1.1 (by intro e;injection e with e;exact HN.out e.symm))
 have HF:=Lh hf
 have HG:=Lh hn
 clear m1 cg hf hn
 go_wp2_with (refine wpList_store_row rfl 38 _ _ rfl w.heap.size (nuv n) rfl rfl 38 #[.int .u64 0] ?_ dW rfl (pF _) ?_;exact HZ1.out)
 exact bodyPost_ret (nH (p:=3) rfl _ _ w.heap.size 38 (nuv n) (0,0) _ (by kernel_rfl) (setRow_heap _ _ _ _ _ _ HZ1.out) Tryz.underlying38 rfl dW) rfl ⟨n,k,br,rfl,uA HM1.out _ (Nat.le_refl _) HN.out _,HF.out,HG.out⟩
theorem closS_any (c g b:Nat) (s:ByteArray) (w:World) (hs:s.size≤9223372036854775807) (h0:s.size≠0) (h:Cur w b s 1 false) (hg:Blk w g 177 #[.pointer (some ⟨b,0,none⟩)]):
  Calls Tryz.prog 147 #[.int .u8 (c:Int),.pointer (some ⟨g,0,none⟩)] w fun e w'=>∃n k br,e= .returned (.agg (nuv n))∧bW w w' b s k br∧Fin 10 s k br∧(fit 10 s.size=0→n=num s 2 8):=by
 have cg:=(hg.alloc (.cells #[.int .u64 0] 40)).cell 0
 simp only [List.getElem?_toArray,List.getElem?_cons_zero] at cg
 have H1:=Lh (fun w1 (h1:Cur w1 b s 1 false)=>decodeNumber_any b s w1 hs h0 h1)
 obtain ⟨w0,hw0⟩:=eqx (w.alloc (.cells #[.int .u64 0] 40))
 have HZ:=Lh (show Blk w0 w.heap.size 40 #[.int .u64 0] by rw [hw0];exact Blk.new _ _ _)
 have HM:=Lh (show bW w w0 b s 1 false by rw [hw0];exact ⟨eG (.refl _ _) _,Blk.alloc h _⟩)
 have HN:=Lh (show b≠w.heap.size from Nat.ne_of_lt (Blk.lt h))
 have HW:=Lh hw0
 clear h hg hs hw0
 go_enter Tryz.func147,Tryz.ntmps147
 go_wp2_with fail
 rw [←HW.out]
 refine (H1.out _ HM.out.2).mono ?_
 rintro e w1 ⟨n,k,br,rfl,m1,hf,hn⟩
 have HM1:=Lh (HM.out.trans m1)
 have HZ1:=Lh (HZ.out.grown m1.1 (by intro e;injection e with e;exact HN.out e.symm))
 have HF:=Lh hf
 have HG:=Lh hn
 clear m1 cg hf hn
 go_wp2_with (refine wpList_store_row rfl 40 _ _ rfl w.heap.size (nuv n) rfl rfl 40 #[.int .u64 0] ?_ dV rfl (pF _) ?_;exact HZ1.out)
 exact bodyPost_ret (nH (p:=3) rfl _ _ w.heap.size 40 (nuv n) (0,0) _ (by kernel_rfl) (setRow_heap _ _ _ _ _ _ HZ1.out) Tryz.underlying40 rfl dV) rfl ⟨n,k,br,rfl,uA HM1.out _ (Nat.le_refl _) HN.out _,HF.out,HG.out⟩
theorem jH (a:Int) (n:Nat) (h:a=(n:Int)) (hn:n≤255) (w:World):(convert 5 3 (.int .u8 a)).run Tryz.prog w= .ok (.int .i64 (n:Int)) w:=by
 have e:IntKind.i64.wrap a=(n:Int):=by rw [IntKind.wrap_i64];omega
 rw [run_convert_int w 5 3 .u8 _ (by kernel_rfl) (by kernel_rfl),show Tryz.prog.intKind 3= .i64 by kernel_rfl,e]
theorem closR_any (c g b:Nat) (s:ByteArray) (w:World) (hc:c < 256) (hs:s.size≤9223372036854775807) (h0:s.size≠0) (h:Cur w b s 1 false) (hg:Blk w g 177 #[.pointer (some ⟨b,0,none⟩)]):
  Calls Tryz.prog 150 #[.int .u8 (c:Int),.pointer (some ⟨g,0,none⟩)] w fun e w'=>∃f n k br,e= .returned (.agg (rsv ((f:Nat):Int) ((n:Nat):Int)))∧bW w w' b s k br∧Fin 2 s k br∧(fit 2 s.size=0→f=c%16∧n=byteAt s 1):=by
 obtain ⟨f,hf⟩:=eqx (c%16)
 have hm:(c:Int)%16=(f:Int):=by omega
 have hf2:f < 16:=by omega
 obtain ⟨p,hp⟩:=eqx (fC s 1 false (1:Nat))
 obtain ⟨q,hq⟩:=eqx (brO s 1 false (1:Nat))
 obtain ⟨n,hn⟩:=eqx (numO s 1 false 1)
 have hn2:n≤255:=by rw [hn];exact tY s 1 false
 have H1:=Lh (fun w1 (h1:Cur w1 b s 1 false)=>sF b s 1 false w1 hs (by omega) h1)
 have HF:=Lh (fin_two s h0)
 have HG:=Lh (got_two s)
 rw [←hn,←hp,←hq] at H1
 rw [←hp,←hq] at HF
 rw [←hn] at HG
 have cg:=(hg.alloc (.cells (rsv 0 0) 42)).cell 0
 simp only [List.getElem?_toArray,List.getElem?_cons_zero] at cg
 obtain ⟨w0,hw0⟩:=eqx (w.alloc (.cells (rsv 0 0) 42))
 have HZ:=Lh (show Blk w0 w.heap.size 42 (rsv 0 0) by rw [hw0];exact Blk.new _ _ _)
 have HM:=Lh (show bW w w0 b s 1 false by rw [hw0];exact ⟨eG (.refl _ _) _,Blk.alloc h _⟩)
 have HN:=Lh (show b≠w.heap.size from Nat.ne_of_lt (Blk.lt h))
 have HF3:=Lh hf
 have HN2:=Lh hn2
 have hcv:=fun W=>jH ((c:Int)%16) f hm (by omega) W
 have hcn:=fun W=>jH (n:Int) n rfl hn2 W
 have HW:=Lh hw0
 clear h hg hp hq hn hs hw0 hm hf2 hf
 go_enter Tryz.func150,Tryz.ntmps150
 go_wp2_with fail
 rw [←HW.out]
 refine (H1.out _ HM.out.2).mono ?_
 rintro e w1 ⟨rfl,m1⟩
 have HM1:=Lh (HM.out.trans m1)
 have HZ1:=Lh (HZ.out.grown m1.1 (by intro e;injection e with e;exact HN.out e.symm))
 clear m1 cg
 go_wp2_with (refine wpList_store_row rfl 42 _ _ rfl w.heap.size (rsv (f:Int) (n:Int)) rfl rfl 42 (rsv 0 0) ?_ dP rfl (zQ _ _) ?_;exact HZ1.out)
 exact bodyPost_ret (nH (p:=3) rfl _ _ w.heap.size 42 (rsv (f:Int) (n:Int)) (0,0) _ (by kernel_rfl) (setRow_heap _ _ _ _ _ _ HZ1.out) Tryz.underlying42 rfl dP) rfl ⟨f,n,p,q,rfl,uA HM1.out _ (Nat.le_refl _) HN.out _,HF.out,fun h=>⟨HF3.out,HG.out h⟩⟩
open Go.ChangeShapes Go.WideShapes Go.ChangeAt Go.RowKit
theorem assert_errno (v:Value) (w:World):(Instr.typeAssert (.iface 54 v) 20 54 true).run Tryz.prog w= .ok (.tuple #[v,.bool true]) w:=by kernel_rfl
theorem assert_none (w:World):(Instr.typeAssert .nilIface 20 54 true).run Tryz.prog w= .ok (.tuple #[.int .i64 0,.bool false]) w:=by kernel_rfl
theorem ex_assert {P:Program} {ρ:Operand→Value} {o:Oper} {w:World} (x:Operand) (t u:TypeId) (c:Bool) (ho:o.op= .typeAssert x t u c) {v r:Value} (hx:ρ x=v) (he:(Instr.typeAssert v t u c).run P w= .ok r w):(execOp ρ o).run P w= .ok (.value r) w:=by
 unfold execOp
 rw [ho]
 simp [hx,he]
theorem errno_store (w:World) (p:Addr) (x z:Int) (hc:w.cell? p=some (.int .i64 x)) (hz:w.frozen? p=false):(storeVar 54 p (.int .i64 z)).run Tryz.prog w= .ok () (w.setCell p (.int .i64 z)):=by
 simp [go_sem,hc,hz]
theorem errno_load (w:World) (p:Addr) (z:Int) (hc:w.cell? p=some (.int .i64 z)):(loadVar 54 p).run Tryz.prog w= .ok (.int .i64 z) w:=by
 simp [go_sem,hc]
theorem results_row_cell {P:Program} {fn:Func} {p t:Tmp} {ty ty2:TypeId} (h:fn.results=#[.cell p ty,.cell t ty2]) (tmps:Array Value) (w:World) (g:Nat) (t':TypeId) (cs:Array Value) (fr:Nat×Nat) (d:TypeDesc)
  (hp:tmps.getD p undef= .pointer (some ⟨g,0,none⟩)) (hg:w.heap[g]?=some (.cells cs t' fr))
  (hu:P.underlying ty=some d) (hd:(match d with | .struct _ | .array _ _=>true | _=>false)=true) (hi:(P.info? ty).map (·.size)=some cs.size)
  (q:Nat) (v:Value) (hq:tmps.getD t undef= .pointer (some ⟨q,0,none⟩)) (hv:(loadVar ty2 ⟨q,0,none⟩).run P w= .ok v w):
  (results fn tmps).run P w= .ok (.tuple #[.agg cs,v]) w:=by
 have hp':tmps[p]?.getD undef= .pointer (some ⟨g,0,none⟩):=by simpa using hp
 have hq':tmps[t]?.getD undef= .pointer (some ⟨q,0,none⟩):=by simpa using hq
 simp [results,h,hp',hq',asAddr,run_loadVar_row w g t' ty cs fr d hg hu hd hi,hv]
theorem aF {P:Program} {fn:Func} {p t:Tmp} {ty:TypeId} (h:fn.results=#[.cell p ty,.tmp t]) (tmps:Array Value) (w:World) (g:Nat) (t':TypeId) (cs:Array Value) (fr:Nat×Nat) (d:TypeDesc)
  (hp:tmps.getD p undef= .pointer (some ⟨g,0,none⟩)) (hg:w.heap[g]?=some (.cells cs t' fr))
  (hu:P.underlying ty=some d) (hd:(match d with | .struct _ | .array _ _=>true | _=>false)=true) (hi:(P.info? ty).map (·.size)=some cs.size):
  (results fn tmps).run P w= .ok (.tuple #[.agg cs,tmps.getD t undef]) w:=by
 have hp':tmps[p]?.getD undef= .pointer (some ⟨g,0,none⟩):=by simpa using hp
 simp [results,h,hp',asAddr,run_loadVar_row w g t' ty cs fr d hg hu hd hi]
structure St (b:Nat) (s:ByteArray) (r q:Nat) (T:TypeId) (zs:Array Value) (w W:World) (k:Nat) (br:Bool):Prop where
 ret:Blk W r T zs
 err:Blk W q 54 #[.int .i64 0]
 cur:Cur W b s k br
 grown:w.grownBy W (some b)
 ne:r≠q
 nb:r≠b∧q≠b
 le:w.heap.size≤r∧w.heap.size≤q
namespace St
variable {b:Nat} {s:ByteArray} {r q:Nat} {T:TypeId} {zs:Array Value} {w W W':World} {k k':Nat} {br br':Bool}
theorem start (w:World) (b:Nat) (s:ByteArray) (k:Nat) (br:Bool) (h:Cur w b s k br) (T:TypeId) (zs:Array Value):St b s w.heap.size (w.heap.size+1) T zs w ((w.alloc (.cells zs T)).alloc (.cells #[.int .i64 0] 54)) k br:=by
 have hl:=Blk.lt h
 refine ⟨(Blk.new w T zs).alloc _,?_,Blk.alloc (Blk.alloc h _) _,eG (eG (.refl _ _) _) _,by omega,by omega,by omega⟩
 have:=Blk.new (w.alloc (.cells zs T)) 54 #[.int .i64 0]
 simpa using this
theorem drewN (h:St b s r q T zs w W k br) (n:Nat):St b s r q T zs w (W.drewN n) k br:=⟨h.ret.drewN n,h.err.drewN n,Blk.drewN h.cur n,fE h.grown n,h.ne,h.nb,h.le⟩
theorem alloc (h:St b s r q T zs w W k br) (o:Obj):St b s r q T zs w (W.alloc o) k br:=⟨h.ret.alloc o,h.err.alloc o,Blk.alloc h.cur o,eG h.grown o,h.ne,h.nb,h.le⟩
theorem moved (h:St b s r q T zs w W k br) (m:bW W W' b s k' br'):St b s r q T zs w W' k' br':=
 ⟨h.ret.grown m.1 (by intro e;injection e with e;exact h.nb.1 e),h.err.grown m.1 (by intro e;injection e with e;exact h.nb.2 e),m.2,h.grown.trans m.1,h.ne,h.nb,h.le⟩
theorem only_new {a W:World} {b g:Nat} (h:a.grownBy W (some b)) (hg:a.heap.size≤g) (W':World) (ho:W'.os=W.os) (ht:W'.tape=W.tape) (hu:W'.output=W.output) (hz:W'.heap.size=W.heap.size) (hb:∀i,i≠g→W'.heap[i]?=W.heap[i]?):a.grownBy W' (some b):=
 { os:=ho.trans h.os,tape:=ht.trans h.tape,output:=hu.trans h.output,size:=by rw [hz];exact h.size,block:=fun i hi hn=>(hb i (by omega)).trans (h.block i hi hn) }
theorem uO (h:St b s r q T zs w W k br) (v:Value):w.grownBy (W.setCell ⟨q,0,none⟩ v) (some b):=
 only_new h.grown h.le.2 _ rfl rfl rfl (by simp [World.setCell]) fun i hi=>Below.heap_setCell W ⟨q,0,none⟩ v i hi
theorem setR (h:St b s r q T zs w W k br) (cs:Array Value):St b s r q T cs w (W.setRow r cs) k br:=
 ⟨setRow_heap _ _ _ _ _ _ h.ret,h.err.same (setRow_other W r q cs h.ne.symm),Blk.same h.cur (setRow_other W r b cs h.nb.1.symm),only_new h.grown h.le.1 _ rfl rfl rfl (by simp) fun i hi=>setRow_other W r i cs hi,h.ne,h.nb,h.le⟩
end St
theorem catch_in (f:Nat) (hf:f=194∨f=195∨f=196∨f=197) (p:Addr) (x z:Int) (older:List PanicEntry) (w:World) (hc:w.cell? p=some (.int .i64 x)) (hz:w.frozen? p=false):
  CallsD Tryz.prog f #[.pointer (some p)] (.panicking ({ v:=.iface 54 (.int .i64 z),recovered:=false }::older)) w fun e u' w'=>
   e= .returned (.tuple #[])∧u'= .panicking ({ v:=.iface 54 (.int .i64 z),recovered:=true }::older)∧w'=w.setCell p (.int .i64 z):=by
 rcases hf with rfl | rfl | rfl | rfl
 all_goals first | refine mV Tryz.func194 rfl ⟨#[.pointer (some p),undef,undef,undef,undef,undef,undef,undef,undef,undef],[]⟩ (by kernel_rfl) fun c₀ cs hu=>?_ | refine mV Tryz.func195 rfl ⟨#[.pointer (some p),undef,undef,undef,undef,undef,undef,undef,undef,undef],[]⟩ (by kernel_rfl) fun c₀ cs hu=>?_ | refine mV Tryz.func196 rfl ⟨#[.pointer (some p),undef,undef,undef,undef,undef,undef,undef,undef,undef],[]⟩ (by kernel_rfl) fun c₀ cs hu=>?_ | refine mV Tryz.func197 rfl ⟨#[.pointer (some p),undef,undef,undef,undef,undef,undef,undef,undef,undef],[]⟩ (by kernel_rfl) fun c₀ cs hu=>?_
 all_goals
  have hr:=recoverD_in (rest:=cs) hu
  apply wpS_seq
  refine rU [0,1,2,3,4,5,6] (by kernel_rfl) ?_
  refine opsS_recover 0 rfl (by kernel_rfl) (by kernel_rfl) hr ?_
  refine dS 1 (.tuple #[.int .i64 z,.bool true]) rfl (by kernel_rfl) (ex_assert (.tmp 4) 20 54 true (by kernel_rfl) (v:=.iface 54 (.int .i64 z)) (by kernel_rfl) (assert_errno _ _)) ?_
  refine dS 2 (.tuple #[.int .i64 z,.bool true]) rfl (by kernel_rfl) (by kernel_rfl) ?_
  refine dS 3 (.int .i64 z) rfl (by kernel_rfl) (by kernel_rfl) ?_
  refine dS 4 (.bool true) rfl (by kernel_rfl) (by kernel_rfl) ?_
  refine dS 5 (.int .i64 z) rfl (by kernel_rfl) (by kernel_rfl) ?_
  refine dS 6 (.bool true) rfl (by kernel_rfl) (by kernel_rfl) ?_
  refine rM ⟨#[.pointer (some p),.int .i64 z,.bool true,.tuple #[.int .i64 z,.bool true],.iface 54 (.int .i64 z),.tuple #[.int .i64 z,.bool true],.int .i64 z,.bool true,undef,undef],[]⟩ (by kernel_rfl) ?_
  refine wpS_seq ?_
  refine rU [0] (by kernel_rfl) ?_
  refine dS 0 (.bool true) rfl (by kernel_rfl) (by kernel_rfl) ?_
  refine rM ⟨#[.pointer (some p),.int .i64 z,.bool true,.tuple #[.int .i64 z,.bool true],.iface 54 (.int .i64 z),.tuple #[.int .i64 z,.bool true],.int .i64 z,.bool true,.bool true,undef],[]⟩ (by kernel_rfl) ?_
  refine wpS_cond (t:=true) (by kernel_rfl) ?_
  refine rU [0,1] (by kernel_rfl) ?_
  refine dS 0 (.int .i64 z) rfl (by kernel_rfl) (by kernel_rfl) ?_
  refine opsS_skip 1 rfl (by kernel_rfl) (fO 54 (.tmp 0) (.tmp 9) (by kernel_rfl) p (.int .i64 z) (by kernel_rfl) (by kernel_rfl) (errno_store w p x z hc hz)) ?_
  refine rM ⟨#[.pointer (some p),.int .i64 z,.bool true,.tuple #[.int .i64 z,.bool true],.iface 54 (.int .i64 z),.tuple #[.int .i64 z,.bool true],.int .i64 z,.bool true,.bool true,.int .i64 z],[]⟩ (by kernel_rfl) ?_
  exact ⟨rfl,_,rfl,_,by kernel_rfl,rfl,rfl,rfl⟩
theorem catch_idle (f:Nat) (hf:f=194∨f=195∨f=196∨f=197) (p:Addr) (w:World):
  CallsD Tryz.prog f #[.pointer (some p)] .returning w fun e u' w'=>e= .returned (.tuple #[])∧u'= .returning∧w'=w:=by
 rcases hf with rfl | rfl | rfl | rfl
 all_goals first | refine mV Tryz.func194 rfl ⟨#[.pointer (some p),undef,undef,undef,undef,undef,undef,undef,undef,undef],[]⟩ (by kernel_rfl) fun c₀ cs hu=>?_ | refine mV Tryz.func195 rfl ⟨#[.pointer (some p),undef,undef,undef,undef,undef,undef,undef,undef,undef],[]⟩ (by kernel_rfl) fun c₀ cs hu=>?_ | refine mV Tryz.func196 rfl ⟨#[.pointer (some p),undef,undef,undef,undef,undef,undef,undef,undef,undef],[]⟩ (by kernel_rfl) fun c₀ cs hu=>?_ | refine mV Tryz.func197 rfl ⟨#[.pointer (some p),undef,undef,undef,undef,undef,undef,undef,undef,undef],[]⟩ (by kernel_rfl) fun c₀ cs hu=>?_
 all_goals
  have hr:=recoverD_idle (rest:=cs) hu
  apply wpS_seq
  refine rU [0,1,2,3,4,5,6] (by kernel_rfl) ?_
  refine opsS_idle 0 rfl (by kernel_rfl) (by kernel_rfl) hr ?_
  refine dS 1 (.tuple #[.int .i64 0,.bool false]) rfl (by kernel_rfl) (ex_assert (.tmp 4) 20 54 true (by kernel_rfl) (v:=.nilIface) (by kernel_rfl) (assert_none _)) ?_
  refine dS 2 (.tuple #[.int .i64 0,.bool false]) rfl (by kernel_rfl) (by kernel_rfl) ?_
  refine dS 3 (.int .i64 0) rfl (by kernel_rfl) (by kernel_rfl) ?_
  refine dS 4 (.bool false) rfl (by kernel_rfl) (by kernel_rfl) ?_
  refine dS 5 (.int .i64 0) rfl (by kernel_rfl) (by kernel_rfl) ?_
  refine dS 6 (.bool false) rfl (by kernel_rfl) (by kernel_rfl) ?_
  refine rM ⟨#[.pointer (some p),.int .i64 0,.bool false,.tuple #[.int .i64 0,.bool false],.nilIface,.tuple #[.int .i64 0,.bool false],.int .i64 0,.bool false,undef,undef],[]⟩ (by kernel_rfl) ?_
  refine wpS_seq ?_
  refine rU [0] (by kernel_rfl) ?_
  refine dS 0 (.bool false) rfl (by kernel_rfl) (by kernel_rfl) ?_
  refine rM ⟨#[.pointer (some p),.int .i64 0,.bool false,.tuple #[.int .i64 0,.bool false],.nilIface,.tuple #[.int .i64 0,.bool false],.int .i64 0,.bool false,.bool false,undef],[]⟩ (by kernel_rfl) ?_
  refine wpS_cond (t:=false) (by kernel_rfl) ?_
  refine wpS_of_wp (wp_skip ?_)
  refine ⟨rfl,.returning,?_,_,by kernel_rfl,rfl,rfl,rfl⟩
  cases c₀
  simp_all
theorem fD (F:Func) (f:Nat) (hf:f=194∨f=195∨f=196∨f=197) (T:TypeId) (zs:Array Value) (fl) (hF:F.results=#[.cell 6 T,.cell 7 54]) (hu:Tryz.prog.underlying T=some (.struct fl)) (hcs:(Tryz.prog.info? T).map (·.size)=some zs.size) (r q:Nat) (z:Int) (tmps:Array Value) (R:Ending→World→Prop) (W:World) (h6:tmps.getD 6 undef= .pointer (some ⟨r,0,none⟩)) (h7:tmps.getD 7 undef= .pointer (some ⟨q,0,none⟩)) (hr:Blk W r T zs) (he:Blk W q 54 #[.int .i64 0]) (hne:r≠q) (hR:R (.returned (.tuple #[.agg zs,.int .i64 z])) (W.setCell ⟨q,0,none⟩ (.int .i64 z))):
  bodyPostD Tryz.prog F R (Exit.panic [{ v:=.iface 54 (.int .i64 z),recovered:=false }]) ⟨tmps,[{ target:=.fn (.func f) #[.pointer (some ⟨q,0,none⟩)],args:=#[] }]⟩ W:=by
 have c0:=he.cell 0
 simp only [List.getElem?_toArray,List.getElem?_cons_zero] at c0
 show Leaves Tryz.prog F tmps R _ _ W
 refine leaves_cons (f:=f) (args:=#[.pointer (some ⟨q,0,none⟩)]) (by simp) (by rcases hf with rfl | rfl | rfl | rfl<;>simp [go_sem]) ?_
 refine (catch_in f hf ⟨q,0,none⟩ 0 z [] W c0 (he.frozen 0)).mono ?_
 rintro e u' w'' ⟨rfl,rfl,rfl⟩
 exact ⟨_,results_row_cell hF tmps _ r T zs (0,0) _ h6 (hr.same (Below.heap_setCell W ⟨q,0,none⟩ _ r hne)) hu rfl hcs q (.int .i64 z) h7 (errno_load _ _ z ((he.gG 0 (.int .i64 z)).cell 0)),hR⟩
theorem vW (F:Func) (f:Nat) (hf:f=194∨f=195∨f=196∨f=197) (T:TypeId) (cs:Array Value) (fl) (hF:F.results=#[.cell 6 T,.cell 7 54]) (hu:Tryz.prog.underlying T=some (.struct fl)) (hcs:(Tryz.prog.info? T).map (·.size)=some cs.size) (r q:Nat) (z:Int) (tmps:Array Value) (R:Ending→World→Prop) (W:World) (h6:tmps.getD 6 undef= .pointer (some ⟨r,0,none⟩)) (h7:tmps.getD 7 undef= .pointer (some ⟨q,0,none⟩)) (hr:Blk W r T cs) (he:Blk W q 54 #[.int .i64 z]) (hR:R (.returned (.tuple #[.agg cs,.int .i64 z])) W):
  bodyPostD Tryz.prog F R Exit.ret ⟨tmps,[{ target:=.fn (.func f) #[.pointer (some ⟨q,0,none⟩)],args:=#[] }]⟩ W:=by
 have c0:=he.cell 0
 simp only [List.getElem?_toArray,List.getElem?_cons_zero] at c0
 show Leaves Tryz.prog F tmps R _ _ W
 refine leaves_cons (f:=f) (args:=#[.pointer (some ⟨q,0,none⟩)]) (by simp) (by rcases hf with rfl | rfl | rfl | rfl<;>simp [go_sem]) ?_
 refine (catch_idle f hf ⟨q,0,none⟩ W).mono ?_
 rintro e u' w'' ⟨rfl,rfl,rfl⟩
 exact ⟨_,results_row_cell hF tmps _ r T cs (0,0) _ h6 hr hu rfl hcs q (.int .i64 z) h7 (errno_load _ _ z c0),hR⟩
def sJ (s:ByteArray):Value:=.tuple #[.agg (prv (uJ s)),.int .i64 (wrong 5 1 s)]
theorem vT (s:ByteArray) (z:Int) (hz:wrong 5 1 s=z) (h0:z≠0):sJ s= .tuple #[.agg (prv false),.int .i64 z]:=by
 have h:¬wrong 5 1 s=0:=by rw [hz];exact h0
 unfold sJ
 rw [hz]
 unfold uJ
 rw [if_neg h]
 try rfl
theorem decPV_ok (s:ByteArray) (h:wrong 5 1 s=0):sJ s= .tuple #[.agg (prv (byteAt s 0%2==1)),.int .i64 0]:=by
 unfold sJ
 rw [h]
 unfold uJ
 rw [if_pos h]
 try rfl
theorem decP_any (b:Nat) (s:ByteArray) (w:World) (hs:s.size≤9223372036854775807) (h:Cur w b s 0 false):
  Calls Tryz.prog 140 #[.pointer (some ⟨b,0,none⟩),.int .u8 5,(.func (.func 141) #[] #[])] w fun e w'=>e= .returned (sJ s)∧w.grownBy w' (some b):=by
 obtain ⟨r,hr⟩:=eqx w.heap.size
 obtain ⟨q,hq⟩:=eqx (w.heap.size+1)
 obtain ⟨w0,hw0⟩:=eqx ((w.alloc (.cells (prv false) 36)).alloc (.cells #[.int .i64 0] 54))
 have st:St b s r q 36 (prv false) w w0 0 false:=by rw [hw0,hr,hq];exact St.start w b s 0 false h 36 (prv false)
 obtain ⟨m,hm⟩:=eqx s.size
 have HL:=Lh (show kV s 0 false=(m:Int) by unfold kV;rw [if_neg (by decide),hm];omega)
 obtain ⟨c,hc⟩:=eqx (byteAt s 0)
 have HC2:=Lh (show c < 256 by rw [hc];exact bK s 0)
 obtain ⟨z,hzz⟩:=eqx (fit 1 s.size)
 have HS:=Lh hs
 have HST:=Lh st
 have HR:=Lh hr
 have HQ:=Lh hq
 have HW:=Lh hw0
 have HM:=Lh hm
 have HC:=Lh hc
 have HZZ:=Lh hzz
 have hmf:∀(fn:Fn) (first cap:Array Value) (w:World),(Instr.makeFunc fn first cap).run Tryz.prog w= .ok (.func fn first cap) w:=fun _ _ _ _=>rfl
 clear h hr hq hw0 st hs hm hc hzz
 go_enter_defers Tryz.func140,Tryz.ntmps140
 go_wp2_with fail
 rw [←HW.out,←HQ.out,←HR.out]
 refine (answer (kN b s 0 false w0 HS.out (Nat.zero_le _) HST.out.cur) (congrArg (Value.int .i64) HL.out)).mono ?_
 rintro e W1 ⟨rfl,n1,rfl⟩
 have lW:=Lh (HST.out.drewN n1)
 by_cases hm0:(m:Int)=0
 ·go_wp2_with fail
  rw [vT s 4 (uC _ _ s (by have:=HM.out;omega)) (by decide)]
  exact fD _ _ (by decide) 36 (prv false) _ rfl Tryz.underlying36 dU r q 4 _ _ _ (by kernel_rfl) (by kernel_rfl) lW.out.ret lW.out.err lW.out.ne ⟨rfl,lW.out.uO _⟩
 have H0:=Lh (show s.size≠0 by have:=HM.out;omega)
 have h1:=vU b s _ HS.out H0.out lW.out.cur
 rw [←HC.out] at h1
 have H1:=Lh h1
 clear h1
 go_wp2_with fail
 refine H1.out.mono ?_
 rintro e W2 ⟨rfl,m2⟩
 have lY:=Lh (lW.out.moved m2)
 clear m2
 by_cases hq7:¬(c:Int) / 16%256=5
 ·go_wp2_with fail
  rw [vT s 7 (uH _ _ s H0.out (by rw [←HC.out];have:=HC2.out;omega)) (by decide)]
  exact fD _ _ (by decide) 36 (prv false) _ rfl Tryz.underlying36 dU r q 7 _ _ _ (by kernel_rfl) (by kernel_rfl) lY.out.ret lY.out.err lY.out.ne ⟨rfl,lY.out.uO _⟩
 have HK:=Lh (show byteAt s 0 / 16=5 by rw [←HC.out];have:=HC2.out;omega)
 have hq8:(c:Int) / 16%256=5:=Classical.not_not.1 hq7
 clear hq7
 go_wp2_with fail
 refine (closP_any c b s _ HC2.out H0.out lY.out.cur).mono ?_
 rintro e W3 ⟨rfl,m3⟩
 have HST3:=Lh (lY.out.moved m3)
 clear m3
 have HF:=Lh (fin_one s H0.out)
 obtain ⟨X,hX⟩:=eqx W3.heap.size
 obtain ⟨W4,hW4⟩:=eqx (W3.alloc (.cells (prv (c%2==1)) 36))
 have yY:=Lh (show St b s r q 36 (prv false) w W4 1 false by rw [hW4];exact HST3.out.alloc _)
 have HX4:=Lh (show Blk W4 X 36 (prv (c%2==1)) by rw [hW4,hX];exact Blk.new _ _ _)
 have HXX:=Lh hX
 have HW4:=Lh hW4
 clear hX hW4
 go_wp2_with fail
 rw [←HW4.out,←HXX.out]
 refine (answer (wC b s 1 false W4 HS.out HF.out.1 yY.out.cur) (congrArg (Value.int .i64) (HF.out.2.trans HZZ.out.symm))).mono ?_
 rintro e W5 ⟨rfl,n5,rfl⟩
 have lQ:=Lh (yY.out.drewN n5)
 by_cases hz1:¬z=0
 ·go_wp2_with fail
  rw [vT s z ((lC _ _ s H0.out HK.out).trans HZZ.out.symm) hz1]
  exact fD _ _ (by decide) 36 (prv false) _ rfl Tryz.underlying36 dU r q z _ _ _ (by kernel_rfl) (by kernel_rfl) lQ.out.ret lQ.out.err lQ.out.ne ⟨rfl,lQ.out.uO _⟩
 have hz0:z=0:=Classical.not_not.1 hz1
 clear hz1
 have HX5:=Lh (HX4.out.drewN n5)
 have st6:=lQ.out.setR (prv (c%2==1))
 have qN:=Lh st6
 have c0:=st6.err.cell 0
 have f0:=st6.err.frozen 0
 simp only [List.getElem?_toArray,List.getElem?_cons_zero] at c0
 clear st6
 go_wp2_with (first | (refine wpList_load_row rfl 36 _ rfl X rfl 36 (prv (c%2==1)) (0,0) _ ?_ Tryz.underlying36 rfl dU ?_;exact HX5.out) | (refine wpList_store_row rfl 36 _ _ rfl r (prv (c%2==1)) rfl rfl 36 (prv false) ?_ dU rfl (zG _) ?_;exact lQ.out.ret))
 refine vW _ _ (by decide) 36 (prv (c%2==1)) _ rfl Tryz.underlying36 dU r q 0 _ _ _ (by kernel_rfl) (by kernel_rfl) (qN.out.ret.same (Below.heap_setCell _ ⟨q,0,none⟩ _ r qN.out.ne)) (qN.out.err.gG 0 (.int .i64 0)) ⟨?_,qN.out.uO _⟩
 have hz:fit 1 s.size=0:=HZZ.out.symm.trans hz0
 rw [decPV_ok s ((lC _ _ s H0.out HK.out).trans hz)]
 rw [HC.out]
theorem DecodePrio_any (s:ByteArray) (hs:s.size≤9223372036854775807) (w:World):
  Calls Tryz.prog 76 #[.string s] w (Rt w (sJ s)):=by
 obtain ⟨P,hP⟩:=eqx (uJ s)
 obtain ⟨z,hz⟩:=eqx (wrong 5 1 s)
 have HV:=Lh (show sJ s= .tuple #[.agg (prv P),.int .i64 z] by rw [hP,hz];rfl)
 obtain ⟨r,hr⟩:=eqx w.heap.size
 obtain ⟨w0,hw0⟩:=eqx (w.alloc (.cells (prv false) 36))
 have HZ0:=Lh (show Blk w0 r 36 (prv false) by rw [hw0,hr];exact Blk.new _ _ _)
 have HB0:=Lh (kD hw0)
 have HS:=Lh hs
 have HR:=Lh hr
 have HW:=Lh hw0
 have hmf:∀(fn:Fn) (first cap:Array Value) (w:World),(Instr.makeFunc fn first cap).run Tryz.prog w= .ok (.func fn first cap) w:=fun _ _ _ _=>rfl
 clear hs hP hz hr hw0
 go_enter Tryz.func76,Tryz.ntmps76
 go_wp2_with fail
 rw [←HW.out,←HR.out]
 refine (jW s w0).mono ?_
 rintro e w1 ⟨b,rfl,hb,b1,hc⟩
 have HC1:=Lh hc
 have HBL:=Lh (show w.heap.size≤b from Nat.le_trans HB0.out.size hb)
 have HRB:=Lh (show r≠b from Nat.ne_of_lt (Nat.lt_of_lt_of_le HZ0.out.lt hb))
 have HZ1:=Lh (HZ0.out.below b1 HZ0.out.lt)
 have HB1:=Lh (HB0.out.trans (b1.mono HB0.out.size))
 clear hc hb b1
 go_wp2_with fail
 refine (decP_any b s w1 HS.out HC1.out).mono ?_
 rintro e W ⟨rfl,hgr⟩
 rw [HV.out]
 have HZ3:=Lh (HZ1.out.grown hgr (by intro e;injection e with e;exact HRB.out e))
 have HB3:=Lh (HB1.out.trans (aA hgr HBL.out HB1.out.size))
 clear hgr
 go_wp2_with (refine wpList_store_row rfl 36 _ _ rfl r (prv P) rfl rfl 36 (prv false) ?_ dU rfl (zG _) ?_;exact HZ3.out)
 exact bodyPost_ret (aF (p:=2) (t:=3) rfl _ _ r 36 (prv P) (0,0) _ (by kernel_rfl) (setRow_heap _ _ _ _ _ _ HZ3.out) Tryz.underlying36 rfl dU) rfl ⟨by rw [HV.out];rfl,below_setRow HB3.out (by rw [HR.out];exact Nat.le_refl _) _⟩
def sD (s:ByteArray):Value:=.tuple #[.agg (nuv (kR 6 s)),.int .i64 (wrong 6 10 s)]
theorem wO (s:ByteArray) (z:Int) (hz:wrong 6 10 s=z) (h0:z≠0):sD s= .tuple #[.agg #[.int .u64 0],.int .i64 z]:=by
 have h:¬wrong 6 10 s=0:=by rw [hz];exact h0
 unfold sD
 rw [hz]
 unfold kR
 rw [if_neg h]
 try rfl
theorem decFV_ok (s:ByteArray) (h:wrong 6 10 s=0):sD s= .tuple #[.agg (nuv (num s 2 8)),.int .i64 0]:=by
 unfold sD
 rw [h]
 unfold kR
 rw [if_pos h]
 try rfl
theorem decF_any (b g:Nat) (s:ByteArray) (w:World) (hs:s.size≤9223372036854775807) (h:Cur w b s 0 false) (hg:Blk w g 177 #[.pointer (some ⟨b,0,none⟩)]):
  Calls Tryz.prog 143 #[.pointer (some ⟨b,0,none⟩),.int .u8 6,(.func (.func 144) #[] #[.pointer (some ⟨g,0,none⟩)])] w fun e w'=>e= .returned (sD s)∧w.grownBy w' (some b):=by
 obtain ⟨r,hr⟩:=eqx w.heap.size
 obtain ⟨q,hq⟩:=eqx (w.heap.size+1)
 obtain ⟨w0,hw0⟩:=eqx ((w.alloc (.cells #[.int .u64 0] 38)).alloc (.cells #[.int .i64 0] 54))
 have st:St b s r q 38 #[.int .u64 0] w w0 0 false:=by rw [hw0,hr,hq];exact St.start w b s 0 false h 38 #[.int .u64 0]
 obtain ⟨m,hm⟩:=eqx s.size
 have HL:=Lh (show kV s 0 false=(m:Int) by unfold kV;rw [if_neg (by decide),hm];omega)
 obtain ⟨c,hc⟩:=eqx (byteAt s 0)
 have HC2:=Lh (show c < 256 by rw [hc];exact bK s 0)
 obtain ⟨z,hzz⟩:=eqx (fit 10 s.size)
 have HG0:=Lh (show Blk w0 g 177 #[.pointer (some ⟨b,0,none⟩)] by rw [hw0];exact (hg.alloc _).alloc _)
 have HGB:=Lh (show g≠b from hg.ne_ h (by decide))
 have HS:=Lh hs
 have HST:=Lh st
 have HR:=Lh hr
 have HQ:=Lh hq
 have HW:=Lh hw0
 have HM:=Lh hm
 have HC:=Lh hc
 have HZZ:=Lh hzz
 have hmf:∀(fn:Fn) (first cap:Array Value) (w:World),(Instr.makeFunc fn first cap).run Tryz.prog w= .ok (.func fn first cap) w:=fun _ _ _ _=>rfl
 clear h hr hq hw0 st hs hm hc hzz hg
 go_enter_defers Tryz.func143,Tryz.ntmps143
 go_wp2_with fail
 rw [←HW.out,←HQ.out,←HR.out]
 refine (answer (kN b s 0 false w0 HS.out (Nat.zero_le _) HST.out.cur) (congrArg (Value.int .i64) HL.out)).mono ?_
 rintro e W1 ⟨rfl,n1,rfl⟩
 have lW:=Lh (HST.out.drewN n1)
 by_cases hm0:(m:Int)=0
 ·go_wp2_with fail
  rw [wO s 4 (uC _ _ s (by have:=HM.out;omega)) (by decide)]
  exact fD _ _ (by decide) 38 #[.int .u64 0] _ rfl Tryz.underlying38 dW r q 4 _ _ _ (by kernel_rfl) (by kernel_rfl) lW.out.ret lW.out.err lW.out.ne ⟨rfl,lW.out.uO _⟩
 have H0:=Lh (show s.size≠0 by have:=HM.out;omega)
 have h1:=vU b s _ HS.out H0.out lW.out.cur
 rw [←HC.out] at h1
 have H1:=Lh h1
 clear h1
 go_wp2_with fail
 refine H1.out.mono ?_
 rintro e W2 ⟨rfl,m2⟩
 have lY:=Lh (lW.out.moved m2)
 have HG2:=Lh (show Blk W2 g 177 #[.pointer (some ⟨b,0,none⟩)] from (Blk.drewN HG0.out n1).grown m2.1 (by intro e;injection e with e;exact HGB.out e))
 clear m2
 by_cases hq7:¬(c:Int) / 16%256=6
 ·go_wp2_with fail
  rw [wO s 7 (uH _ _ s H0.out (by rw [←HC.out];have:=HC2.out;omega)) (by decide)]
  exact fD _ _ (by decide) 38 #[.int .u64 0] _ rfl Tryz.underlying38 dW r q 7 _ _ _ (by kernel_rfl) (by kernel_rfl) lY.out.ret lY.out.err lY.out.ne ⟨rfl,lY.out.uO _⟩
 have HK:=Lh (show byteAt s 0 / 16=6 by rw [←HC.out];have:=HC2.out;omega)
 have hq8:(c:Int) / 16%256=6:=Classical.not_not.1 hq7
 clear hq7
 go_wp2_with fail
 refine (closF_any c g b s _ HS.out H0.out lY.out.cur HG2.out).mono ?_
 rintro e W3 ⟨n,k,br,rfl,m3,hf,hn⟩
 have HST3:=Lh (lY.out.moved m3)
 clear m3
 have HF:=Lh hf
 have HN:=Lh hn
 clear hf hn
 obtain ⟨X,hX⟩:=eqx W3.heap.size
 obtain ⟨W4,hW4⟩:=eqx (W3.alloc (.cells (nuv n) 38))
 have yY:=Lh (show St b s r q 38 #[.int .u64 0] w W4 k br by rw [hW4];exact HST3.out.alloc _)
 have HX4:=Lh (show Blk W4 X 38 (nuv n) by rw [hW4,hX];exact Blk.new _ _ _)
 have HXX:=Lh hX
 have HW4:=Lh hW4
 clear hX hW4
 go_wp2_with fail
 rw [←HW4.out,←HXX.out]
 refine (answer (wC b s k br W4 HS.out HF.out.1 yY.out.cur) (congrArg (Value.int .i64) (HF.out.2.trans HZZ.out.symm))).mono ?_
 rintro e W5 ⟨rfl,n5,rfl⟩
 have lQ:=Lh (yY.out.drewN n5)
 by_cases hz1:¬z=0
 ·go_wp2_with fail
  rw [wO s z ((lC _ _ s H0.out HK.out).trans HZZ.out.symm) hz1]
  exact fD _ _ (by decide) 38 #[.int .u64 0] _ rfl Tryz.underlying38 dW r q z _ _ _ (by kernel_rfl) (by kernel_rfl) lQ.out.ret lQ.out.err lQ.out.ne ⟨rfl,lQ.out.uO _⟩
 have hz0:z=0:=Classical.not_not.1 hz1
 clear hz1
 have HX5:=Lh (HX4.out.drewN n5)
 have st6:=lQ.out.setR (nuv n)
 have qN:=Lh st6
 have c0:=st6.err.cell 0
 have f0:=st6.err.frozen 0
 simp only [List.getElem?_toArray,List.getElem?_cons_zero] at c0
 clear st6
 go_wp2_with (first | (refine wpList_load_row rfl 38 _ rfl X rfl 38 (nuv n) (0,0) _ ?_ Tryz.underlying38 rfl dW ?_;exact HX5.out) | (refine wpList_store_row rfl 38 _ _ rfl r (nuv n) rfl rfl 38 #[.int .u64 0] ?_ dW rfl (pF _) ?_;exact lQ.out.ret))
 refine vW _ _ (by decide) 38 (nuv n) _ rfl Tryz.underlying38 dW r q 0 _ _ _ (by kernel_rfl) (by kernel_rfl) (qN.out.ret.same (Below.heap_setCell _ ⟨q,0,none⟩ _ r qN.out.ne)) (qN.out.err.gG 0 (.int .i64 0)) ⟨?_,qN.out.uO _⟩
 have hz:fit 10 s.size=0:=HZZ.out.symm.trans hz0
 rw [decFV_ok s ((lC _ _ s H0.out HK.out).trans hz)]
 rw [HN.out hz]
theorem DecodeFail_any (s:ByteArray) (hs:s.size≤9223372036854775807) (w:World):
  Calls Tryz.prog 80 #[.string s] w (Rt w (sD s)):=by
 obtain ⟨N,hN⟩:=eqx (kR 6 s)
 obtain ⟨z,hz⟩:=eqx (wrong 6 10 s)
 have HV:=Lh (show sD s= .tuple #[.agg (nuv N),.int .i64 z] by rw [hN,hz];rfl)
 obtain ⟨r,hr⟩:=eqx w.heap.size
 obtain ⟨w0,hw0⟩:=eqx (w.alloc (.cells #[.int .u64 0] 38))
 have HZ0:=Lh (show Blk w0 r 38 #[.int .u64 0] by rw [hw0,hr];exact Blk.new _ _ _)
 have HB0:=Lh (kD hw0)
 have HS:=Lh hs
 have HR:=Lh hr
 have HW:=Lh hw0
 have hmf:∀(fn:Fn) (first cap:Array Value) (w:World),(Instr.makeFunc fn first cap).run Tryz.prog w= .ok (.func fn first cap) w:=fun _ _ _ _=>rfl
 clear hs hN hz hr hw0
 go_enter Tryz.func80,Tryz.ntmps80
 go_wp2_with fail
 rw [←HW.out,←HR.out]
 refine (jW s w0).mono ?_
 rintro e w1 ⟨b,rfl,hb,b1,hc⟩
 have HC1:=Lh hc
 have HBL:=Lh (show w.heap.size≤b from Nat.le_trans HB0.out.size hb)
 have HRB:=Lh (show r≠b from Nat.ne_of_lt (Nat.lt_of_lt_of_le HZ0.out.lt hb))
 have HZ1:=Lh (HZ0.out.below b1 HZ0.out.lt)
 have HB1:=Lh (HB0.out.trans (b1.mono HB0.out.size))
 clear hc hb b1
 obtain ⟨g,hg⟩:=eqx w1.heap.size
 obtain ⟨w2,hw2⟩:=eqx (w1.alloc (.cells #[.pointer (some ⟨b,0,none⟩)] 177))
 have HC2:=Lh (show Cur w2 b s 0 false by rw [hw2];exact Blk.alloc HC1.out _)
 have hg2:Blk w2 g 177 #[.pointer (some ⟨b,0,none⟩)]:=by rw [hw2,hg];exact Blk.new _ _ _
 have HG2:=Lh hg2
 have HZ2:=Lh (show Blk w2 r 38 #[.int .u64 0] by rw [hw2];exact HZ1.out.alloc _)
 have HB2:=Lh (show Below w.heap.size w w2 by rw [hw2];exact HB1.out.alloc HB1.out.size _)
 have HG:=Lh hg
 have HW2:=Lh hw2
 have c0:=hg2.cell 0
 simp only [List.getElem?_toArray,List.getElem?_cons_zero] at c0
 rw [hw2,hg] at c0
 clear hg hw2 hg2
 go_wp2_with fail
 rw [←HW2.out,←HG.out]
 refine (decF_any b g s w2 HS.out HC2.out HG2.out).mono ?_
 rintro e W ⟨rfl,hgr⟩
 rw [HV.out]
 have HZ3:=Lh (HZ2.out.grown hgr (by intro e;injection e with e;exact HRB.out e))
 have HB3:=Lh (HB2.out.trans (aA hgr HBL.out HB2.out.size))
 clear hgr c0
 go_wp2_with (refine wpList_store_row rfl 38 _ _ rfl r (nuv N) rfl rfl 38 #[.int .u64 0] ?_ dW rfl (pF _) ?_;exact HZ3.out)
 exact bodyPost_ret (aF (p:=2) (t:=3) rfl _ _ r 38 (nuv N) (0,0) _ (by kernel_rfl) (setRow_heap _ _ _ _ _ _ HZ3.out) Tryz.underlying38 rfl dW) rfl ⟨by rw [HV.out];rfl,below_setRow HB3.out (by rw [HR.out];exact Nat.le_refl _) _⟩
def sU (s:ByteArray):Value:=.tuple #[.agg (nuv (kR 7 s)),.int .i64 (wrong 7 10 s)]
theorem wI (s:ByteArray) (z:Int) (hz:wrong 7 10 s=z) (h0:z≠0):sU s= .tuple #[.agg #[.int .u64 0],.int .i64 z]:=by
 have h:¬wrong 7 10 s=0:=by rw [hz];exact h0
 unfold sU
 rw [hz]
 unfold kR
 rw [if_neg h]
 try rfl
theorem decSV_ok (s:ByteArray) (h:wrong 7 10 s=0):sU s= .tuple #[.agg (nuv (num s 2 8)),.int .i64 0]:=by
 unfold sU
 rw [h]
 unfold kR
 rw [if_pos h]
 try rfl
theorem decS_any (b g:Nat) (s:ByteArray) (w:World) (hs:s.size≤9223372036854775807) (h:Cur w b s 0 false) (hg:Blk w g 177 #[.pointer (some ⟨b,0,none⟩)]):
  Calls Tryz.prog 146 #[.pointer (some ⟨b,0,none⟩),.int .u8 7,(.func (.func 147) #[] #[.pointer (some ⟨g,0,none⟩)])] w fun e w'=>e= .returned (sU s)∧w.grownBy w' (some b):=by
 obtain ⟨r,hr⟩:=eqx w.heap.size
 obtain ⟨q,hq⟩:=eqx (w.heap.size+1)
 obtain ⟨w0,hw0⟩:=eqx ((w.alloc (.cells #[.int .u64 0] 40)).alloc (.cells #[.int .i64 0] 54))
 have st:St b s r q 40 #[.int .u64 0] w w0 0 false:=by rw [hw0,hr,hq];exact St.start w b s 0 false h 40 #[.int .u64 0]
 obtain ⟨m,hm⟩:=eqx s.size
 have HL:=Lh (show kV s 0 false=(m:Int) by unfold kV;rw [if_neg (by decide),hm];omega)
 obtain ⟨c,hc⟩:=eqx (byteAt s 0)
 have HC2:=Lh (show c < 256 by rw [hc];exact bK s 0)
 obtain ⟨z,hzz⟩:=eqx (fit 10 s.size)
 have HG0:=Lh (show Blk w0 g 177 #[.pointer (some ⟨b,0,none⟩)] by rw [hw0];exact (hg.alloc _).alloc _)
 have HGB:=Lh (show g≠b from hg.ne_ h (by decide))
 have HS:=Lh hs
 have HST:=Lh st
 have HR:=Lh hr
 have HQ:=Lh hq
 have HW:=Lh hw0
 have HM:=Lh hm
 have HC:=Lh hc
 have HZZ:=Lh hzz
 have hmf:∀(fn:Fn) (first cap:Array Value) (w:World),(Instr.makeFunc fn first cap).run Tryz.prog w= .ok (.func fn first cap) w:=fun _ _ _ _=>rfl
 clear h hr hq hw0 st hs hm hc hzz hg
 go_enter_defers Tryz.func146,Tryz.ntmps146
 go_wp2_with fail
 rw [←HW.out,←HQ.out,←HR.out]
 refine (answer (kN b s 0 false w0 HS.out (Nat.zero_le _) HST.out.cur) (congrArg (Value.int .i64) HL.out)).mono ?_
 rintro e W1 ⟨rfl,n1,rfl⟩
 have lW:=Lh (HST.out.drewN n1)
 by_cases hm0:(m:Int)=0
 ·go_wp2_with fail
  rw [wI s 4 (uC _ _ s (by have:=HM.out;omega)) (by decide)]
  exact fD _ _ (by decide) 40 #[.int .u64 0] _ rfl Tryz.underlying40 dV r q 4 _ _ _ (by kernel_rfl) (by kernel_rfl) lW.out.ret lW.out.err lW.out.ne ⟨rfl,lW.out.uO _⟩
 have H0:=Lh (show s.size≠0 by have:=HM.out;omega)
 have h1:=vU b s _ HS.out H0.out lW.out.cur
 rw [←HC.out] at h1
 have H1:=Lh h1
 clear h1
 go_wp2_with fail
 refine H1.out.mono ?_
 rintro e W2 ⟨rfl,m2⟩
 have lY:=Lh (lW.out.moved m2)
 have HG2:=Lh (show Blk W2 g 177 #[.pointer (some ⟨b,0,none⟩)] from (Blk.drewN HG0.out n1).grown m2.1 (by intro e;injection e with e;exact HGB.out e))
 clear m2
 by_cases hq7:¬(c:Int) / 16%256=7
 ·go_wp2_with fail
  rw [wI s 7 (uH _ _ s H0.out (by rw [←HC.out];have:=HC2.out;omega)) (by decide)]
  exact fD _ _ (by decide) 40 #[.int .u64 0] _ rfl Tryz.underlying40 dV r q 7 _ _ _ (by kernel_rfl) (by kernel_rfl) lY.out.ret lY.out.err lY.out.ne ⟨rfl,lY.out.uO _⟩
 have HK:=Lh (show byteAt s 0 / 16=7 by rw [←HC.out];have:=HC2.out;omega)
 have hq8:(c:Int) / 16%256=7:=Classical.not_not.1 hq7
 clear hq7
 go_wp2_with fail
 refine (closS_any c g b s _ HS.out H0.out lY.out.cur HG2.out).mono ?_
 rintro e W3 ⟨n,k,br,rfl,m3,hf,hn⟩
 have HST3:=Lh (lY.out.moved m3)
 clear m3
 have HF:=Lh hf
 have HN:=Lh hn
 clear hf hn
 obtain ⟨X,hX⟩:=eqx W3.heap.size
 obtain ⟨W4,hW4⟩:=eqx (W3.alloc (.cells (nuv n) 40))
 have yY:=Lh (show St b s r q 40 #[.int .u64 0] w W4 k br by rw [hW4];exact HST3.out.alloc _)
 have HX4:=Lh (show Blk W4 X 40 (nuv n) by rw [hW4,hX];exact Blk.new _ _ _)
 have HXX:=Lh hX
 have HW4:=Lh hW4
 clear hX hW4
 go_wp2_with fail
 rw [←HW4.out,←HXX.out]
 refine (answer (wC b s k br W4 HS.out HF.out.1 yY.out.cur) (congrArg (Value.int .i64) (HF.out.2.trans HZZ.out.symm))).mono ?_
 rintro e W5 ⟨rfl,n5,rfl⟩
 have lQ:=Lh (yY.out.drewN n5)
 by_cases hz1:¬z=0
 ·go_wp2_with fail
  rw [wI s z ((lC _ _ s H0.out HK.out).trans HZZ.out.symm) hz1]
  exact fD _ _ (by decide) 40 #[.int .u64 0] _ rfl Tryz.underlying40 dV r q z _ _ _ (by kernel_rfl) (by kernel_rfl) lQ.out.ret lQ.out.err lQ.out.ne ⟨rfl,lQ.out.uO _⟩
 have hz0:z=0:=Classical.not_not.1 hz1
 clear hz1
 have HX5:=Lh (HX4.out.drewN n5)
 have st6:=lQ.out.setR (nuv n)
 have qN:=Lh st6
 have c0:=st6.err.cell 0
 have f0:=st6.err.frozen 0
 simp only [List.getElem?_toArray,List.getElem?_cons_zero] at c0
 clear st6
 go_wp2_with (first | (refine wpList_load_row rfl 40 _ rfl X rfl 40 (nuv n) (0,0) _ ?_ Tryz.underlying40 rfl dV ?_;exact HX5.out) | (refine wpList_store_row rfl 40 _ _ rfl r (nuv n) rfl rfl 40 #[.int .u64 0] ?_ dV rfl (pF _) ?_;exact lQ.out.ret))
 refine vW _ _ (by decide) 40 (nuv n) _ rfl Tryz.underlying40 dV r q 0 _ _ _ (by kernel_rfl) (by kernel_rfl) (qN.out.ret.same (Below.heap_setCell _ ⟨q,0,none⟩ _ r qN.out.ne)) (qN.out.err.gG 0 (.int .i64 0)) ⟨?_,qN.out.uO _⟩
 have hz:fit 10 s.size=0:=HZZ.out.symm.trans hz0
 rw [decSV_ok s ((lC _ _ s H0.out HK.out).trans hz)]
 rw [HN.out hz]
theorem DecodeFast_any (s:ByteArray) (hs:s.size≤9223372036854775807) (w:World):
  Calls Tryz.prog 84 #[.string s] w (Rt w (sU s)):=by
 obtain ⟨N,hN⟩:=eqx (kR 7 s)
 obtain ⟨z,hz⟩:=eqx (wrong 7 10 s)
 have HV:=Lh (show sU s= .tuple #[.agg (nuv N),.int .i64 z] by rw [hN,hz];rfl)
 obtain ⟨r,hr⟩:=eqx w.heap.size
 obtain ⟨w0,hw0⟩:=eqx (w.alloc (.cells #[.int .u64 0] 40))
 have HZ0:=Lh (show Blk w0 r 40 #[.int .u64 0] by rw [hw0,hr];exact Blk.new _ _ _)
 have HB0:=Lh (kD hw0)
 have HS:=Lh hs
 have HR:=Lh hr
 have HW:=Lh hw0
 have hmf:∀(fn:Fn) (first cap:Array Value) (w:World),(Instr.makeFunc fn first cap).run Tryz.prog w= .ok (.func fn first cap) w:=fun _ _ _ _=>rfl
 clear hs hN hz hr hw0
 go_enter Tryz.func84,Tryz.ntmps84
 go_wp2_with fail
 rw [←HW.out,←HR.out]
 refine (jW s w0).mono ?_
 rintro e w1 ⟨b,rfl,hb,b1,hc⟩
 have HC1:=Lh hc
 have HBL:=Lh (show w.heap.size≤b from Nat.le_trans HB0.out.size hb)
 have HRB:=Lh (show r≠b from Nat.ne_of_lt (Nat.lt_of_lt_of_le HZ0.out.lt hb))
 have HZ1:=Lh (HZ0.out.below b1 HZ0.out.lt)
 have HB1:=Lh (HB0.out.trans (b1.mono HB0.out.size))
 clear hc hb b1
 obtain ⟨g,hg⟩:=eqx w1.heap.size
 obtain ⟨w2,hw2⟩:=eqx (w1.alloc (.cells #[.pointer (some ⟨b,0,none⟩)] 177))
 have HC2:=Lh (show Cur w2 b s 0 false by rw [hw2];exact Blk.alloc HC1.out _)
 have hg2:Blk w2 g 177 #[.pointer (some ⟨b,0,none⟩)]:=by rw [hw2,hg];exact Blk.new _ _ _
 have HG2:=Lh hg2
 have HZ2:=Lh (show Blk w2 r 40 #[.int .u64 0] by rw [hw2];exact HZ1.out.alloc _)
 have HB2:=Lh (show Below w.heap.size w w2 by rw [hw2];exact HB1.out.alloc HB1.out.size _)
 have HG:=Lh hg
 have HW2:=Lh hw2
 have c0:=hg2.cell 0
 simp only [List.getElem?_toArray,List.getElem?_cons_zero] at c0
 rw [hw2,hg] at c0
 clear hg hw2 hg2
 go_wp2_with fail
 rw [←HW2.out,←HG.out]
 refine (decS_any b g s w2 HS.out HC2.out HG2.out).mono ?_
 rintro e W ⟨rfl,hgr⟩
 rw [HV.out]
 have HZ3:=Lh (HZ2.out.grown hgr (by intro e;injection e with e;exact HRB.out e))
 have HB3:=Lh (HB2.out.trans (aA hgr HBL.out HB2.out.size))
 clear hgr c0
 go_wp2_with (refine wpList_store_row rfl 40 _ _ rfl r (nuv N) rfl rfl 40 #[.int .u64 0] ?_ dV rfl (pF _) ?_;exact HZ3.out)
 exact bodyPost_ret (aF (p:=2) (t:=3) rfl _ _ r 40 (nuv N) (0,0) _ (by kernel_rfl) (setRow_heap _ _ _ _ _ _ HZ3.out) Tryz.underlying40 rfl dV) rfl ⟨by rw [HV.out];rfl,below_setRow HB3.out (by rw [HR.out];exact Nat.le_refl _) _⟩
def iJ (s:ByteArray):Value:=.tuple #[.agg (rsv (uK s:Int) (fF s:Int)),.int .i64 (wrong 8 2 s)]
theorem wH (s:ByteArray) (z:Int) (hz:wrong 8 2 s=z) (h0:z≠0):iJ s= .tuple #[.agg (rsv 0 0),.int .i64 z]:=by
 have h:¬wrong 8 2 s=0:=by rw [hz];exact h0
 unfold iJ
 rw [hz]
 unfold uK fF
 rw [if_neg h,if_neg h]
 try rfl
theorem decRV_ok (s:ByteArray) (h:wrong 8 2 s=0):iJ s= .tuple #[.agg (rsv ((byteAt s 0%16:Nat):Int) (byteAt s 1:Int)),.int .i64 0]:=by
 unfold iJ
 rw [h]
 unfold uK fF
 rw [if_pos h,if_pos h]
 try rfl
theorem decR_any (b g:Nat) (s:ByteArray) (w:World) (hs:s.size≤9223372036854775807) (h:Cur w b s 0 false) (hg:Blk w g 177 #[.pointer (some ⟨b,0,none⟩)]):
  Calls Tryz.prog 149 #[.pointer (some ⟨b,0,none⟩),.int .u8 8,(.func (.func 150) #[] #[.pointer (some ⟨g,0,none⟩)])] w fun e w'=>e= .returned (iJ s)∧w.grownBy w' (some b):=by
 obtain ⟨r,hr⟩:=eqx w.heap.size
 obtain ⟨q,hq⟩:=eqx (w.heap.size+1)
 obtain ⟨w0,hw0⟩:=eqx ((w.alloc (.cells (rsv 0 0) 42)).alloc (.cells #[.int .i64 0] 54))
 have st:St b s r q 42 (rsv 0 0) w w0 0 false:=by rw [hw0,hr,hq];exact St.start w b s 0 false h 42 (rsv 0 0)
 obtain ⟨m,hm⟩:=eqx s.size
 have HL:=Lh (show kV s 0 false=(m:Int) by unfold kV;rw [if_neg (by decide),hm];omega)
 obtain ⟨c,hc⟩:=eqx (byteAt s 0)
 have HC2:=Lh (show c < 256 by rw [hc];exact bK s 0)
 obtain ⟨z,hzz⟩:=eqx (fit 2 s.size)
 have HG0:=Lh (show Blk w0 g 177 #[.pointer (some ⟨b,0,none⟩)] by rw [hw0];exact (hg.alloc _).alloc _)
 have HGB:=Lh (show g≠b from hg.ne_ h (by decide))
 have HS:=Lh hs
 have HST:=Lh st
 have HR:=Lh hr
 have HQ:=Lh hq
 have HW:=Lh hw0
 have HM:=Lh hm
 have HC:=Lh hc
 have HZZ:=Lh hzz
 have hmf:∀(fn:Fn) (first cap:Array Value) (w:World),(Instr.makeFunc fn first cap).run Tryz.prog w= .ok (.func fn first cap) w:=fun _ _ _ _=>rfl
 clear h hr hq hw0 st hs hm hc hzz hg
 go_enter_defers Tryz.func149,Tryz.ntmps149
 go_wp2_with fail
 rw [←HW.out,←HQ.out,←HR.out]
 refine (answer (kN b s 0 false w0 HS.out (Nat.zero_le _) HST.out.cur) (congrArg (Value.int .i64) HL.out)).mono ?_
 rintro e W1 ⟨rfl,n1,rfl⟩
 have lW:=Lh (HST.out.drewN n1)
 by_cases hm0:(m:Int)=0
 ·go_wp2_with fail
  rw [wH s 4 (uC _ _ s (by have:=HM.out;omega)) (by decide)]
  exact fD _ _ (by decide) 42 (rsv 0 0) _ rfl Tryz.underlying42 dP r q 4 _ _ _ (by kernel_rfl) (by kernel_rfl) lW.out.ret lW.out.err lW.out.ne ⟨rfl,lW.out.uO _⟩
 have H0:=Lh (show s.size≠0 by have:=HM.out;omega)
 have h1:=vU b s _ HS.out H0.out lW.out.cur
 rw [←HC.out] at h1
 have H1:=Lh h1
 clear h1
 go_wp2_with fail
 refine H1.out.mono ?_
 rintro e W2 ⟨rfl,m2⟩
 have lY:=Lh (lW.out.moved m2)
 have HG2:=Lh (show Blk W2 g 177 #[.pointer (some ⟨b,0,none⟩)] from (Blk.drewN HG0.out n1).grown m2.1 (by intro e;injection e with e;exact HGB.out e))
 clear m2
 by_cases hq7:¬(c:Int) / 16%256=8
 ·go_wp2_with fail
  rw [wH s 7 (uH _ _ s H0.out (by rw [←HC.out];have:=HC2.out;omega)) (by decide)]
  exact fD _ _ (by decide) 42 (rsv 0 0) _ rfl Tryz.underlying42 dP r q 7 _ _ _ (by kernel_rfl) (by kernel_rfl) lY.out.ret lY.out.err lY.out.ne ⟨rfl,lY.out.uO _⟩
 have HK:=Lh (show byteAt s 0 / 16=8 by rw [←HC.out];have:=HC2.out;omega)
 have hq8:(c:Int) / 16%256=8:=Classical.not_not.1 hq7
 clear hq7
 go_wp2_with fail
 refine (closR_any c g b s _ HC2.out HS.out H0.out lY.out.cur HG2.out).mono ?_
 rintro e W3 ⟨f,n,k,br,rfl,m3,hf,hn⟩
 have HST3:=Lh (lY.out.moved m3)
 clear m3
 have HF:=Lh hf
 have HN:=Lh hn
 clear hf hn
 obtain ⟨X,hX⟩:=eqx W3.heap.size
 obtain ⟨W4,hW4⟩:=eqx (W3.alloc (.cells (rsv (f:Int) (n:Int)) 42))
 have yY:=Lh (show St b s r q 42 (rsv 0 0) w W4 k br by rw [hW4];exact HST3.out.alloc _)
 have HX4:=Lh (show Blk W4 X 42 (rsv (f:Int) (n:Int)) by rw [hW4,hX];exact Blk.new _ _ _)
 have HXX:=Lh hX
 have HW4:=Lh hW4
 clear hX hW4
 go_wp2_with fail
 rw [←HW4.out,←HXX.out]
 refine (answer (wC b s k br W4 HS.out HF.out.1 yY.out.cur) (congrArg (Value.int .i64) (HF.out.2.trans HZZ.out.symm))).mono ?_
 rintro e W5 ⟨rfl,n5,rfl⟩
 have lQ:=Lh (yY.out.drewN n5)
 by_cases hz1:¬z=0
 ·go_wp2_with fail
  rw [wH s z ((lC _ _ s H0.out HK.out).trans HZZ.out.symm) hz1]
  exact fD _ _ (by decide) 42 (rsv 0 0) _ rfl Tryz.underlying42 dP r q z _ _ _ (by kernel_rfl) (by kernel_rfl) lQ.out.ret lQ.out.err lQ.out.ne ⟨rfl,lQ.out.uO _⟩
 have hz0:z=0:=Classical.not_not.1 hz1
 clear hz1
 have HX5:=Lh (HX4.out.drewN n5)
 have st6:=lQ.out.setR (rsv (f:Int) (n:Int))
 have qN:=Lh st6
 have c0:=st6.err.cell 0
 have f0:=st6.err.frozen 0
 simp only [List.getElem?_toArray,List.getElem?_cons_zero] at c0
 clear st6
 go_wp2_with (first | (refine wpList_load_row rfl 42 _ rfl X rfl 42 (rsv (f:Int) (n:Int)) (0,0) _ ?_ Tryz.underlying42 rfl dP ?_;exact HX5.out) | (refine wpList_store_row rfl 42 _ _ rfl r (rsv (f:Int) (n:Int)) rfl rfl 42 (rsv 0 0) ?_ dP rfl (zQ _ _) ?_;exact lQ.out.ret))
 refine vW _ _ (by decide) 42 (rsv (f:Int) (n:Int)) _ rfl Tryz.underlying42 dP r q 0 _ _ _ (by kernel_rfl) (by kernel_rfl) (qN.out.ret.same (Below.heap_setCell _ ⟨q,0,none⟩ _ r qN.out.ne)) (qN.out.err.gG 0 (.int .i64 0)) ⟨?_,qN.out.uO _⟩
 have hz:fit 2 s.size=0:=HZZ.out.symm.trans hz0
 rw [decRV_ok s ((lC _ _ s H0.out HK.out).trans hz)]
 rw [(HN.out hz).1,(HN.out hz).2,HC.out]
theorem DecodeRst_any (s:ByteArray) (hs:s.size≤9223372036854775807) (w:World):
  Calls Tryz.prog 88 #[.string s] w (Rt w (iJ s)):=by
 obtain ⟨F,hF⟩:=eqx (uK s)
 obtain ⟨R,hR⟩:=eqx (fF s)
 obtain ⟨z,hz⟩:=eqx (wrong 8 2 s)
 have HV:=Lh (show iJ s= .tuple #[.agg (rsv (F:Int) (R:Int)),.int .i64 z] by rw [hF,hR,hz];rfl)
 obtain ⟨r,hr⟩:=eqx w.heap.size
 obtain ⟨w0,hw0⟩:=eqx (w.alloc (.cells (rsv 0 0) 42))
 have HZ0:=Lh (show Blk w0 r 42 (rsv 0 0) by rw [hw0,hr];exact Blk.new _ _ _)
 have HB0:=Lh (kD hw0)
 have HS:=Lh hs
 have HR:=Lh hr
 have HW:=Lh hw0
 have hmf:∀(fn:Fn) (first cap:Array Value) (w:World),(Instr.makeFunc fn first cap).run Tryz.prog w= .ok (.func fn first cap) w:=fun _ _ _ _=>rfl
 clear hs hF hR hz hr hw0
 go_enter Tryz.func88,Tryz.ntmps88
 go_wp2_with fail
 rw [←HW.out,←HR.out]
 refine (jW s w0).mono ?_
 rintro e w1 ⟨b,rfl,hb,b1,hc⟩
 have HC1:=Lh hc
 have HBL:=Lh (show w.heap.size≤b from Nat.le_trans HB0.out.size hb)
 have HRB:=Lh (show r≠b from Nat.ne_of_lt (Nat.lt_of_lt_of_le HZ0.out.lt hb))
 have HZ1:=Lh (HZ0.out.below b1 HZ0.out.lt)
 have HB1:=Lh (HB0.out.trans (b1.mono HB0.out.size))
 clear hc hb b1
 obtain ⟨g,hg⟩:=eqx w1.heap.size
 obtain ⟨w2,hw2⟩:=eqx (w1.alloc (.cells #[.pointer (some ⟨b,0,none⟩)] 177))
 have HC2:=Lh (show Cur w2 b s 0 false by rw [hw2];exact Blk.alloc HC1.out _)
 have hg2:Blk w2 g 177 #[.pointer (some ⟨b,0,none⟩)]:=by rw [hw2,hg];exact Blk.new _ _ _
 have HG2:=Lh hg2
 have HZ2:=Lh (show Blk w2 r 42 (rsv 0 0) by rw [hw2];exact HZ1.out.alloc _)
 have HB2:=Lh (show Below w.heap.size w w2 by rw [hw2];exact HB1.out.alloc HB1.out.size _)
 have HG:=Lh hg
 have HW2:=Lh hw2
 have c0:=hg2.cell 0
 simp only [List.getElem?_toArray,List.getElem?_cons_zero] at c0
 rw [hw2,hg] at c0
 clear hg hw2 hg2
 go_wp2_with fail
 rw [←HW2.out,←HG.out]
 refine (decR_any b g s w2 HS.out HC2.out HG2.out).mono ?_
 rintro e W ⟨rfl,hgr⟩
 rw [HV.out]
 have HZ3:=Lh (HZ2.out.grown hgr (by intro e;injection e with e;exact HRB.out e))
 have HB3:=Lh (HB2.out.trans (aA hgr HBL.out HB2.out.size))
 clear hgr c0
 go_wp2_with (refine wpList_store_row rfl 42 _ _ rfl r (rsv (F:Int) (R:Int)) rfl rfl 42 (rsv 0 0) ?_ dP rfl (zQ _ _) ?_;exact HZ3.out)
 exact bodyPost_ret (aF (p:=2) (t:=3) rfl _ _ r 42 (rsv (F:Int) (R:Int)) (0,0) _ (by kernel_rfl) (setRow_heap _ _ _ _ _ _ HZ3.out) Tryz.underlying42 rfl dP) rfl ⟨by rw [HV.out];rfl,below_setRow HB3.out (by rw [HR.out];exact Nat.le_refl _) _⟩
open Go.ChangeShapes Go.WideShapes Go.ChangeAt Go.RowKit
theorem lG {ρ:Operand→Value} {o:Oper} {w:World} (t:TypeId) (x y:Operand) (ho:o.op= .index t x y) (s:ByteArray) (i c:Nat) (hx:ρ x= .string s) (hy:ρ y= .int .i64 (i:Int)) (ht:Tryz.prog.underlying t=some .string) (hi:i < s.size) (hc:byteAt s i=c):
  (execOp ρ o).run Tryz.prog w= .ok (.value (.int .u8 (c:Int))) w:=by
 have hg:=bD s i hi
 rw [hc] at hg
 have q:s[i]?=some s[i]:=by simp [hi]
 unfold execOp
 rw [ho]
 simp [hx,hy,Instr.index,run_underlying ht,asIntOf,q,hg]
theorem ex_rem_i64 {ρ:Operand→Value} {o:Oper} {w:World} (t u:TypeId) (x y:Operand) (ho:o.op= .binOp .rem t x y u) (a b c:Nat) (hx:ρ x= .int .i64 (a:Int)) (hy:ρ y= .int .i64 (b:Int)) (ht:Tryz.prog.underlying t=some (.int .i64)) (hb:b≠0) (h:a%b=c):
  (execOp ρ o).run Tryz.prog w= .ok (.value (.int .i64 (c:Int))) w:=by
 subst h
 unfold execOp
 rw [ho]
 have e:(a:Int).tmod (b:Int)=(a:Int)%(b:Int):=Int.tmod_eq_emod_of_nonneg (by omega)
 simp [hx,hy,go_sem,hb,e]
theorem prioR_any (b:Bool) (w:World):
  Calls Tryz.prog 95 #[.agg (prv b)] w (Rt w (.string (eX b))):=by
 have HB:=Lh ((Below.refl _ w).alloc (Nat.le_refl _) (.cells (prv b) 36))
 cases b
 all_goals
  go_enter Tryz.func95,Tryz.ntmps95
  go_wp2_with fail
  go_ret;exact ⟨rfl,HB.out⟩
theorem numFR_any (n:Nat) (hn:n≤18446744073709551615) (w:World):
  Calls Tryz.prog 96 #[.agg (nuv n)] w (Rt w (.string (iO 6 n))):=by
 have HB:=Lh ((Below.refl _ w).alloc (Nat.le_refl _) (.cells (nuv n) 38))
 obtain ⟨t,ht⟩:=eqx (txt (be 8 n))
 have HL:=Lh (fun W=>gB n 8 t W hn (by decide) (by decide) ht.symm)
 have hsz:t.size≤8:=by rw [ht,iP];omega
 have oO:=fun W=>run_string_add (P:=Tryz.prog) W ⟨#[96,0]⟩ t (by decide) (by omega)
 have HT:=Lh (show (⟨#[96,0]⟩:ByteArray)++t=iO 6 n by rw [ht];exact dK [96,0] (be 8 n))
 rw [HT.out] at oO
 clear ht hn hsz
 go_enter Tryz.func96,Tryz.ntmps96
 go_wp2_with fail
 refine (HL.out _).mono ?_
 rintro e w1 ⟨rfl,b1⟩
 go_wp2_with fail
 go_ret;exact ⟨rfl,bM HB.out b1⟩
theorem numSR_any (n:Nat) (hn:n≤18446744073709551615) (w:World):
  Calls Tryz.prog 97 #[.agg (nuv n)] w (Rt w (.string (iO 7 n))):=by
 have HB:=Lh ((Below.refl _ w).alloc (Nat.le_refl _) (.cells (nuv n) 40))
 obtain ⟨t,ht⟩:=eqx (txt (be 8 n))
 have HL:=Lh (fun W=>gB n 8 t W hn (by decide) (by decide) ht.symm)
 have hsz:t.size≤8:=by rw [ht,iP];omega
 have oO:=fun W=>run_string_add (P:=Tryz.prog) W ⟨#[112,0]⟩ t (by decide) (by omega)
 have HT:=Lh (show (⟨#[112,0]⟩:ByteArray)++t=iO 7 n by rw [ht];exact dK [112,0] (be 8 n))
 rw [HT.out] at oO
 clear ht hn hsz
 go_enter Tryz.func97,Tryz.ntmps97
 go_wp2_with fail
 refine (HL.out _).mono ?_
 rintro e w1 ⟨rfl,b1⟩
 go_wp2_with fail
 go_ret;exact ⟨rfl,bM HB.out b1⟩
theorem kM (k n:Nat) (s:ByteArray) (hs:s.size≤9223372036854775807) (w:World):
  Calls Tryz.prog 105 #[.string s,.int .i64 (k:Int),.int .i64 (n:Int)] w (Rt w (.int .i64 (wrong k n s))):=by
 by_cases h0:s.size=0
 ·have hd:=empty_of s h0
  subst hd
  rw [uC k n _ rfl]
  go_enter Tryz.func105,Tryz.ntmps105
  go_wp2
  go_ret;exact ⟨rfl,Below.refl _ _⟩
 ·have hne:s.toList.isEmpty=false:=by
   rw [Bool.eq_false_iff]
   intro e
   rw [List.isEmpty_iff,ByteArray.toList_eq] at e
   have:=congrArg List.length e
   simp at this
   exact h0 (by rw [this];rfl)
  have hg:=bD s 0 (by omega)
  have h0':0 < s.size:=by omega
  obtain ⟨c,hc⟩:∃c:Nat,c=s[0].toNat:=⟨_,rfl⟩
  rw [←hc] at hg
  have hb:c < 256:=by rw [hc];exact s[0].toNat_lt
  have hcv:=fun W=>jH (s[0].toNat:Int) c (by rw [hc]) (by omega) W
  have HW:=Lh (lC k n s h0)
  have HW7:=Lh (uH k n s h0)
  rw [hg] at HW HW7
  clear hg hc
  by_cases hk:c / 16=k
  ·rw [HW.out hk]
   have hq:(c:Int) / 16=(k:Int):=by omega
   by_cases h1:s.size < n
   ·rw [show fit n s.size=4 by unfold fit;rw [if_pos h1]]
    have h1':(s.size:Int) < (n:Int):=by omega
    go_enter Tryz.func105,Tryz.ntmps105
    go_wp2
    go_ret;exact ⟨rfl,Below.refl _ _⟩
   ·have h1':¬(s.size:Int) < (n:Int):=by omega
    by_cases h2:n < s.size
    ·rw [show fit n s.size=5 by unfold fit;rw [if_neg h1,if_pos h2]]
     have h2':(n:Int) < (s.size:Int):=by omega
     go_enter Tryz.func105,Tryz.ntmps105
     go_wp2
     go_ret;exact ⟨rfl,Below.refl _ _⟩
    ·rw [show fit n s.size=0 by unfold fit;rw [if_neg h1,if_neg h2]]
     have h2':¬(n:Int) < (s.size:Int):=by omega
     go_enter Tryz.func105,Tryz.ntmps105
     go_wp2
     go_ret;exact ⟨rfl,Below.refl _ _⟩
  ·rw [HW7.out hk]
   have hq:¬(c:Int) / 16=(k:Int):=by omega
   go_enter Tryz.func105,Tryz.ntmps105
   go_wp2
   go_ret;exact ⟨rfl,Below.refl _ _⟩
theorem refP_bad (s:ByteArray) (hs:s.size≤9223372036854775807) (hz:wrong 5 1 s≠0) (w:World):
  Calls Tryz.prog 44 #[.string s] w (Rt w (sJ s)):=by
 obtain ⟨z,hzz⟩:=eqx (wrong 5 1 s)
 have HV:=Lh (vT s z hzz.symm (by rw [hzz];exact hz))
 have hz0:¬z=0:=by rw [hzz];exact hz
 obtain ⟨r,hr⟩:=eqx w.heap.size
 obtain ⟨w0,hw0⟩:=eqx (w.alloc (.cells (prv false) 36))
 have HZ0:=Lh (show Blk w0 r 36 (prv false) by rw [hw0,hr];exact Blk.new _ _ _)
 have HB0:=Lh (kD hw0)
 have HX:=Lh (fun W=>answer (kM 5 1 s hs W) (congrArg (Value.int .i64) hzz.symm))
 have HR:=Lh hr
 have HW:=Lh hw0
 clear hs hzz hz hr hw0
 go_enter Tryz.func44,Tryz.ntmps44
 go_wp2_with fail
 rw [←HW.out,←HR.out]
 refine (HX.out _).mono ?_
 rintro e w1 ⟨rfl,b1⟩
 have HZ1:=Lh (HZ0.out.below b1 HZ0.out.lt)
 have HB1:=Lh (HB0.out.trans (b1.mono HB0.out.size))
 clear b1
 go_wp2_with (refine wpList_store_row rfl 36 _ _ rfl r (prv false) rfl rfl 36 (prv false) ?_ dU rfl (zG _) ?_;exact HZ1.out)
 exact bodyPost_ret (aF (p:=2) (t:=3) rfl _ _ r 36 (prv false) (0,0) _ (by kernel_rfl) (setRow_heap _ _ _ _ _ _ HZ1.out) Tryz.underlying36 rfl dU) rfl ⟨by rw [HV.out];rfl,below_setRow HB1.out (by rw [HR.out];exact Nat.le_refl _) _⟩
theorem refP_ok (s:ByteArray) (hs:s.size≤9223372036854775807) (hz:wrong 5 1 s=0) (w:World):
  Calls Tryz.prog 44 #[.string s] w (Rt w (sJ s)):=by
 obtain ⟨z,hzz⟩:=eqx (wrong 5 1 s)
 have hsz:s.size=1:=((lX 5 1 s (by decide)).1 hz).1
 have h0':0 < s.size:=by omega
 obtain ⟨c,hc⟩:∃c:Nat,c=s[0].toNat:=⟨_,rfl⟩
 have hg:byteAt s 0=c:=by rw [hc];exact bD s 0 h0'
 obtain ⟨B,hB⟩:∃B:Bool,B=(byteAt s 0%2==1):=⟨_,rfl⟩
 have hcB:((s[0].toNat:Int)%2==1)=B:=by
  rw [hB,hg,←hc,Bool.eq_iff_iff,beq_iff_eq,beq_iff_eq];omega
 have HV:=Lh (show sJ s= .tuple #[.agg (prv B),.int .i64 0] by rw [decPV_ok s hz,hB])
 have hz0:z=0:=by rw [hzz];exact hz
 obtain ⟨r,hr⟩:=eqx w.heap.size
 obtain ⟨w0,hw0⟩:=eqx (w.alloc (.cells (prv false) 36))
 have HZ0:=Lh (show Blk w0 r 36 (prv false) by rw [hw0,hr];exact Blk.new _ _ _)
 have HB0:=Lh (kD hw0)
 have HX:=Lh (fun W=>answer (kM 5 1 s hs W) (congrArg (Value.int .i64) hzz.symm))
 have HR:=Lh hr
 have HW:=Lh hw0
 clear hs hzz hz hr hw0 hc hg hB
 go_enter Tryz.func44,Tryz.ntmps44
 go_wp2_with fail
 rw [←HW.out,←HR.out]
 refine (HX.out _).mono ?_
 rintro e w1 ⟨rfl,b1⟩
 have HZ1:=Lh (HZ0.out.below b1 HZ0.out.lt)
 have HB1:=Lh (HB0.out.trans (b1.mono HB0.out.size))
 clear b1
 go_wp2_with (refine wpList_store_row rfl 36 _ _ rfl r (prv B) rfl rfl 36 (prv false) ?_ dU rfl (zG _) ?_;exact HZ1.out)
 exact bodyPost_ret (aF (p:=2) (t:=3) rfl _ _ r 36 (prv B) (0,0) _ (by kernel_rfl) (setRow_heap _ _ _ _ _ _ HZ1.out) Tryz.underlying36 rfl dU) rfl ⟨by rw [HV.out];rfl,below_setRow HB1.out (by rw [HR.out];exact Nat.le_refl _) _⟩
theorem refP_any (s:ByteArray) (hs:s.size≤9223372036854775807) (w:World):
  Calls Tryz.prog 44 #[.string s] w (Rt w (sJ s)):=by
 by_cases hz:wrong 5 1 s=0
 ·exact refP_ok s hs hz w
 ·exact refP_bad s hs hz w
theorem refF_bad (s:ByteArray) (hs:s.size≤9223372036854775807) (hz:wrong 6 10 s≠0) (w:World):
  Calls Tryz.prog 45 #[.string s] w (Rt w (sD s)):=by
 obtain ⟨z,hzz⟩:=eqx (wrong 6 10 s)
 have HV:=Lh (wO s z hzz.symm (by rw [hzz];exact hz))
 have hz0:¬z=0:=by rw [hzz];exact hz
 obtain ⟨r,hr⟩:=eqx w.heap.size
 obtain ⟨w0,hw0⟩:=eqx (w.alloc (.cells #[.int .u64 0] 38))
 have HZ0:=Lh (show Blk w0 r 38 #[.int .u64 0] by rw [hw0,hr];exact Blk.new _ _ _)
 have HB0:=Lh (kD hw0)
 have HX:=Lh (fun W=>answer (kM 6 10 s hs W) (congrArg (Value.int .i64) hzz.symm))
 have HR:=Lh hr
 have HW:=Lh hw0
 clear hs hzz hz hr hw0
 go_enter Tryz.func45,Tryz.ntmps45
 go_wp2_with fail
 rw [←HW.out,←HR.out]
 refine (HX.out _).mono ?_
 rintro e w1 ⟨rfl,b1⟩
 have HZ1:=Lh (HZ0.out.below b1 HZ0.out.lt)
 have HB1:=Lh (HB0.out.trans (b1.mono HB0.out.size))
 clear b1
 go_wp2_with (refine wpList_store_row rfl 38 _ _ rfl r #[.int .u64 0] rfl rfl 38 #[.int .u64 0] ?_ dW rfl (pF _) ?_;exact HZ1.out)
 exact bodyPost_ret (aF (p:=2) (t:=3) rfl _ _ r 38 #[.int .u64 0] (0,0) _ (by kernel_rfl) (setRow_heap _ _ _ _ _ _ HZ1.out) Tryz.underlying38 rfl dW) rfl ⟨by rw [HV.out];rfl,below_setRow HB1.out (by rw [HR.out];exact Nat.le_refl _) _⟩
theorem refF_ok (s:ByteArray) (hs:s.size≤9223372036854775807) (hz:wrong 6 10 s=0) (w:World):
  Calls Tryz.prog 45 #[.string s] w (Rt w (sD s)):=by
 obtain ⟨z,hzz⟩:=eqx (wrong 6 10 s)
 have hsz:s.size=10:=((lX 6 10 s (by decide)).1 hz).1
 have h0':0 < s.size:=by omega
 obtain ⟨N,hN⟩:=eqx (num s 2 8)
 have HV:=Lh (show sD s= .tuple #[.agg (nuv N),.int .i64 0] by rw [decFV_ok s hz,hN])
 obtain ⟨t,ht⟩:=eqx (s.extract 2 s.size)
 have HN:=Lh (fun W=>jF t N W (by rw [ht,ByteArray.size_extract];omega) (by rw [ht,hsz,num_cut s 2 10 8 rfl (by omega),hN]))
 have hsl:∀W,(Instr.sliceAt 9 (.string s) (some (.int .i64 2)) none none).run Tryz.prog W= .ok (.string t) W:=by
  intro W
  have l2:(2:Int)≤(s.size:Int):=by omega
  simp [go_sem,l2,ht]
 have hz0:z=0:=by rw [hzz];exact hz
 obtain ⟨r,hr⟩:=eqx w.heap.size
 obtain ⟨w0,hw0⟩:=eqx (w.alloc (.cells #[.int .u64 0] 38))
 have HZ0:=Lh (show Blk w0 r 38 #[.int .u64 0] by rw [hw0,hr];exact Blk.new _ _ _)
 have HB0:=Lh (kD hw0)
 have HX:=Lh (fun W=>answer (kM 6 10 s hs W) (congrArg (Value.int .i64) hzz.symm))
 have HR:=Lh hr
 have HW:=Lh hw0
 clear hs hzz hz hr hw0 hN ht
 go_enter Tryz.func45,Tryz.ntmps45
 go_wp2_with fail
 rw [←HW.out,←HR.out]
 refine (HX.out _).mono ?_
 rintro e w1 ⟨rfl,b1⟩
 have HZ1:=Lh (HZ0.out.below b1 HZ0.out.lt)
 have HB1:=Lh (HB0.out.trans (b1.mono HB0.out.size))
 clear b1
 go_wp2_with fail
 refine (HN.out _).mono ?_
 rintro e w2 ⟨rfl,rfl⟩
 go_wp2_with (refine wpList_store_row rfl 38 _ _ rfl r (nuv N) rfl rfl 38 #[.int .u64 0] ?_ dW rfl (pF _) ?_;exact HZ1.out)
 exact bodyPost_ret (aF (p:=2) (t:=3) rfl _ _ r 38 (nuv N) (0,0) _ (by kernel_rfl) (setRow_heap _ _ _ _ _ _ HZ1.out) Tryz.underlying38 rfl dW) rfl ⟨by rw [HV.out];rfl,below_setRow HB1.out (by rw [HR.out];exact Nat.le_refl _) _⟩
theorem refF_any (s:ByteArray) (hs:s.size≤9223372036854775807) (w:World):
  Calls Tryz.prog 45 #[.string s] w (Rt w (sD s)):=by
 by_cases hz:wrong 6 10 s=0
 ·exact refF_ok s hs hz w
 ·exact refF_bad s hs hz w
theorem refS_bad (s:ByteArray) (hs:s.size≤9223372036854775807) (hz:wrong 7 10 s≠0) (w:World):
  Calls Tryz.prog 46 #[.string s] w (Rt w (sU s)):=by
 obtain ⟨z,hzz⟩:=eqx (wrong 7 10 s)
 have HV:=Lh (wI s z hzz.symm (by rw [hzz];exact hz))
 have hz0:¬z=0:=by rw [hzz];exact hz
 obtain ⟨r,hr⟩:=eqx w.heap.size
 obtain ⟨w0,hw0⟩:=eqx (w.alloc (.cells #[.int .u64 0] 40))
 have HZ0:=Lh (show Blk w0 r 40 #[.int .u64 0] by rw [hw0,hr];exact Blk.new _ _ _)
 have HB0:=Lh (kD hw0)
 have HX:=Lh (fun W=>answer (kM 7 10 s hs W) (congrArg (Value.int .i64) hzz.symm))
 have HR:=Lh hr
 have HW:=Lh hw0
 clear hs hzz hz hr hw0
 go_enter Tryz.func46,Tryz.ntmps46
 go_wp2_with fail
 rw [←HW.out,←HR.out]
 refine (HX.out _).mono ?_
 rintro e w1 ⟨rfl,b1⟩
 have HZ1:=Lh (HZ0.out.below b1 HZ0.out.lt)
 have HB1:=Lh (HB0.out.trans (b1.mono HB0.out.size))
 clear b1
 go_wp2_with (refine wpList_store_row rfl 40 _ _ rfl r #[.int .u64 0] rfl rfl 40 #[.int .u64 0] ?_ dV rfl (pF _) ?_;exact HZ1.out)
 exact bodyPost_ret (aF (p:=2) (t:=3) rfl _ _ r 40 #[.int .u64 0] (0,0) _ (by kernel_rfl) (setRow_heap _ _ _ _ _ _ HZ1.out) Tryz.underlying40 rfl dV) rfl ⟨by rw [HV.out];rfl,below_setRow HB1.out (by rw [HR.out];exact Nat.le_refl _) _⟩
theorem refS_ok (s:ByteArray) (hs:s.size≤9223372036854775807) (hz:wrong 7 10 s=0) (w:World):
  Calls Tryz.prog 46 #[.string s] w (Rt w (sU s)):=by
 obtain ⟨z,hzz⟩:=eqx (wrong 7 10 s)
 have hsz:s.size=10:=((lX 7 10 s (by decide)).1 hz).1
 have h0':0 < s.size:=by omega
 obtain ⟨N,hN⟩:=eqx (num s 2 8)
 have HV:=Lh (show sU s= .tuple #[.agg (nuv N),.int .i64 0] by rw [decSV_ok s hz,hN])
 obtain ⟨t,ht⟩:=eqx (s.extract 2 s.size)
 have HN:=Lh (fun W=>jF t N W (by rw [ht,ByteArray.size_extract];omega) (by rw [ht,hsz,num_cut s 2 10 8 rfl (by omega),hN]))
 have hsl:∀W,(Instr.sliceAt 9 (.string s) (some (.int .i64 2)) none none).run Tryz.prog W= .ok (.string t) W:=by
  intro W
  have l2:(2:Int)≤(s.size:Int):=by omega
  simp [go_sem,l2,ht]
 have hz0:z=0:=by rw [hzz];exact hz
 obtain ⟨r,hr⟩:=eqx w.heap.size
 obtain ⟨w0,hw0⟩:=eqx (w.alloc (.cells #[.int .u64 0] 40))
 have HZ0:=Lh (show Blk w0 r 40 #[.int .u64 0] by rw [hw0,hr];exact Blk.new _ _ _)
 have HB0:=Lh (kD hw0)
 have HX:=Lh (fun W=>answer (kM 7 10 s hs W) (congrArg (Value.int .i64) hzz.symm))
 have HR:=Lh hr
 have HW:=Lh hw0
 clear hs hzz hz hr hw0 hN ht
 go_enter Tryz.func46,Tryz.ntmps46
 go_wp2_with fail
 rw [←HW.out,←HR.out]
 refine (HX.out _).mono ?_
 rintro e w1 ⟨rfl,b1⟩
 have HZ1:=Lh (HZ0.out.below b1 HZ0.out.lt)
 have HB1:=Lh (HB0.out.trans (b1.mono HB0.out.size))
 clear b1
 go_wp2_with fail
 refine (HN.out _).mono ?_
 rintro e w2 ⟨rfl,rfl⟩
 go_wp2_with (refine wpList_store_row rfl 40 _ _ rfl r (nuv N) rfl rfl 40 #[.int .u64 0] ?_ dV rfl (pF _) ?_;exact HZ1.out)
 exact bodyPost_ret (aF (p:=2) (t:=3) rfl _ _ r 40 (nuv N) (0,0) _ (by kernel_rfl) (setRow_heap _ _ _ _ _ _ HZ1.out) Tryz.underlying40 rfl dV) rfl ⟨by rw [HV.out];rfl,below_setRow HB1.out (by rw [HR.out];exact Nat.le_refl _) _⟩
theorem refS_any (s:ByteArray) (hs:s.size≤9223372036854775807) (w:World):
  Calls Tryz.prog 46 #[.string s] w (Rt w (sU s)):=by
 by_cases hz:wrong 7 10 s=0
 ·exact refS_ok s hs hz w
 ·exact refS_bad s hs hz w
theorem refR_bad (s:ByteArray) (hs:s.size≤9223372036854775807) (hz:wrong 8 2 s≠0) (w:World):
  Calls Tryz.prog 47 #[.string s] w (Rt w (iJ s)):=by
 obtain ⟨z,hzz⟩:=eqx (wrong 8 2 s)
 have HV:=Lh (wH s z hzz.symm (by rw [hzz];exact hz))
 have hz0:¬z=0:=by rw [hzz];exact hz
 obtain ⟨r,hr⟩:=eqx w.heap.size
 obtain ⟨w0,hw0⟩:=eqx (w.alloc (.cells (rsv 0 0) 42))
 have HZ0:=Lh (show Blk w0 r 42 (rsv 0 0) by rw [hw0,hr];exact Blk.new _ _ _)
 have HB0:=Lh (kD hw0)
 have HX:=Lh (fun W=>answer (kM 8 2 s hs W) (congrArg (Value.int .i64) hzz.symm))
 have HR:=Lh hr
 have HW:=Lh hw0
 clear hs hzz hz hr hw0
 go_enter Tryz.func47,Tryz.ntmps47
 go_wp2_with fail
 rw [←HW.out,←HR.out]
 refine (HX.out _).mono ?_
 rintro e w1 ⟨rfl,b1⟩
 have HZ1:=Lh (HZ0.out.below b1 HZ0.out.lt)
 have HB1:=Lh (HB0.out.trans (b1.mono HB0.out.size))
 clear b1
 go_wp2_with (refine wpList_store_row rfl 42 _ _ rfl r (rsv 0 0) rfl rfl 42 (rsv 0 0) ?_ dP rfl (zQ _ _) ?_;exact HZ1.out)
 exact bodyPost_ret (aF (p:=2) (t:=3) rfl _ _ r 42 (rsv 0 0) (0,0) _ (by kernel_rfl) (setRow_heap _ _ _ _ _ _ HZ1.out) Tryz.underlying42 rfl dP) rfl ⟨by rw [HV.out];rfl,below_setRow HB1.out (by rw [HR.out];exact Nat.le_refl _) _⟩
theorem refR_ok (s:ByteArray) (hs:s.size≤9223372036854775807) (hz:wrong 8 2 s=0) (w:World):
  Calls Tryz.prog 47 #[.string s] w (Rt w (iJ s)):=by
 obtain ⟨z,hzz⟩:=eqx (wrong 8 2 s)
 have hsz:s.size=2:=((lX 8 2 s (by decide)).1 hz).1
 have h0':0 < s.size:=by omega
 obtain ⟨F,hF⟩:=eqx (byteAt s 0%16)
 obtain ⟨R,hR⟩:=eqx (byteAt s 1)
 have HV:=Lh (show iJ s= .tuple #[.agg (rsv (F:Int) (R:Int)),.int .i64 0] by rw [decRV_ok s hz,hF,hR])
 obtain ⟨C,hC⟩:=eqx (byteAt s 0)
 have HI:=Lh (show 0 < s.size∧byteAt s 0=C∧C≤255∧C%16=F∧1 < s.size∧byteAt s 1=R∧R≤255 from ⟨h0',hC.symm,by rw [hC];have:=bK s 0;omega,by rw [hC,hF],by omega,hR.symm,by rw [hR];have:=bK s 1;omega⟩)
 have hz0:z=0:=by rw [hzz];exact hz
 obtain ⟨r,hr⟩:=eqx w.heap.size
 obtain ⟨w0,hw0⟩:=eqx (w.alloc (.cells (rsv 0 0) 42))
 have HZ0:=Lh (show Blk w0 r 42 (rsv 0 0) by rw [hw0,hr];exact Blk.new _ _ _)
 have HB0:=Lh (kD hw0)
 have HX:=Lh (fun W=>answer (kM 8 2 s hs W) (congrArg (Value.int .i64) hzz.symm))
 have HR:=Lh hr
 have HW:=Lh hw0
 clear hs hzz hz hr hw0 hF hR hC
 go_enter Tryz.func47,Tryz.ntmps47
 go_wp2_with fail
 rw [←HW.out,←HR.out]
 refine (HX.out _).mono ?_
 rintro e w1 ⟨rfl,b1⟩
 have HZ1:=Lh (HZ0.out.below b1 HZ0.out.lt)
 have HB1:=Lh (HB0.out.trans (b1.mono HB0.out.size))
 clear b1
 go_upto_region 4 with fail
 have B0:Below w1.heap.size w1 w1.drew:=(Below.refl _ w1).drew
 refine jL 8 (fun W=>Below w1.heap.size w1 W) (by kernel_rfl) (n:=10) rfl ?_
 obtain ⟨W0,hW0⟩:=eqx w1.drew
 rw [←hW0] at B0 ⊢
 clear hW0
 refine jR 0 (.string s) rfl (by kernel_rfl) (by kernel_rfl) (by kernel_rfl) (by decide) (by kernel_rfl) (.inr B0) (fun _=>by kernel_rfl) ?_
 refine jR 1 (.int .u8 (C:Int)) rfl (by kernel_rfl) (by kernel_rfl) (by kernel_rfl) (by decide) (by kernel_rfl) (.inr B0) (fun _=>lG 9 (.tmp 11) (.const (.int .i64 0)) (by kernel_rfl) s 0 C (by kernel_rfl) (by kernel_rfl) (by kernel_rfl) HI.out.1 HI.out.2.1) ?_
 refine jR 2 (.int .i64 (C:Int)) rfl (by kernel_rfl) (by kernel_rfl) (by kernel_rfl) (by decide) (by kernel_rfl) (.inr B0) (fun W=>aH (v:=.int .u8 (C:Int)) 5 3 (.tmp 12) (by kernel_rfl) (by kernel_rfl) (jH (C:Int) C rfl HI.out.2.2.1 W)) ?_
 refine jR 3 (.int .i64 (F:Int)) rfl (by kernel_rfl) (by kernel_rfl) (by kernel_rfl) (by decide) (by kernel_rfl) (.inr B0) (fun _=>ex_rem_i64 3 3 (.tmp 13) (.const (.int .i64 16)) (by kernel_rfl) C 16 F (by kernel_rfl) (by kernel_rfl) (by kernel_rfl) (by decide) HI.out.2.2.2.1) ?_
 refine jR 4 (.string s) rfl (by kernel_rfl) (by kernel_rfl) (by kernel_rfl) (by decide) (by kernel_rfl) (.inr B0) (fun _=>by kernel_rfl) ?_
 refine jR 5 (.int .u8 (R:Int)) rfl (by kernel_rfl) (by kernel_rfl) (by kernel_rfl) (by decide) (by kernel_rfl) (.inr B0) (fun _=>lG 9 (.tmp 15) (.const (.int .i64 1)) (by kernel_rfl) s 1 R (by kernel_rfl) (by kernel_rfl) (by kernel_rfl) HI.out.2.2.2.2.1 HI.out.2.2.2.2.2.1) ?_
 refine jR 6 (.int .i64 (R:Int)) rfl (by kernel_rfl) (by kernel_rfl) (by kernel_rfl) (by decide) (by kernel_rfl) (.inr B0) (fun W=>aH (v:=.int .u8 (R:Int)) 5 3 (.tmp 16) (by kernel_rfl) (by kernel_rfl) (jH (R:Int) R rfl HI.out.2.2.2.2.2.2 W)) ?_
 refine jR 7 (.agg (rsv (F:Int) (R:Int))) rfl (by kernel_rfl) (by kernel_rfl) (by kernel_rfl) (by decide) (by kernel_rfl) (.inr B0) (fun _=>by kernel_rfl) ?_
 have HZ2:=Lh (HZ1.out.below B0 HZ1.out.lt)
 have HB2:=Lh (HB1.out.trans (B0.mono HB1.out.size))
 refine bI 8 (by kernel_rfl) (oZ (w':=W0.setRow r (rsv (F:Int) (R:Int))) 8 rfl (by kernel_rfl) (bQ 42 (.tmp 2) (.tmp 18) (by kernel_rfl) r (rsv (F:Int) (R:Int)) (by kernel_rfl) (by kernel_rfl) 42 (rsv 0 0) HZ2.out dP rfl (zQ _ _)) (by kernel_rfl) ?_)
 refine jR 9 (.int .i64 0) rfl (by kernel_rfl) (by kernel_rfl) (by kernel_rfl) (by decide) (by kernel_rfl) (.inl (by kernel_rfl)) (fun _=>by kernel_rfl) ?_
 refine dI ⟨#[.string s,undef,.pointer (some ⟨r,0,none⟩),.int .i64 0,.int .i64 0,.string s,.int .i64 0,.int .i64 0,.bool false,undef,undef,.string s,.int .u8 (C:Int),.int .i64 (C:Int),.int .i64 (F:Int),.string s,.int .u8 (R:Int),.int .i64 (R:Int),.agg (rsv (F:Int) (R:Int))],[]⟩ (by kernel_rfl) (by kernel_rfl) ?_
 go_wp2_with fail
 exact bodyPost_ret (aF (p:=2) (t:=3) rfl _ _ r 42 (rsv (F:Int) (R:Int)) (0,0) _ (by kernel_rfl) (setRow_heap _ _ _ _ _ _ HZ2.out) Tryz.underlying42 rfl dP) rfl ⟨by rw [HV.out];rfl,below_setRow HB2.out (by rw [HR.out];exact Nat.le_refl _) _⟩
theorem refR_any (s:ByteArray) (hs:s.size≤9223372036854775807) (w:World):
  Calls Tryz.prog 47 #[.string s] w (Rt w (iJ s)):=by
 by_cases hz:wrong 8 2 s=0
 ·exact refR_ok s hs hz w
 ·exact refR_bad s hs hz w
end Go.Proofs.YtnlhhjhidkjlbaaGreatDoor.L13
