/- RedCtrl. -/
import Derived.Test.YtnlhhjhidkjlbaaGreatDoorRedBase
import Derived.Laws.Tables
import Derived.Laws.Rows
import Derived.WalkLawsBesides
set_option maxHeartbeats 4000000
set_option maxRecDepth 100000
set_option linter.unusedVariables false
set_option linter.unusedSimpArgs false
namespace Go.Proofs.YtnlhhjhidkjlbaaGreatDoor.L13
theorem jC (a:ByteArray):(⟨#[]⟩:ByteArray)++a=a:=by apply ByteArray.ext;rw [ByteArray.data_append];simp
theorem qR (m n:Nat):(txt (be m n)).size=m:=by rw [aN,aH]
theorem byte_of (n:Nat) (h:n < 256):(UInt8.ofNat n).toNat=n:=by rw [UInt8.toNat_ofNat'];exact Nat.mod_eq_of_lt h
theorem lQ (l:List UInt8) (i:Nat):byteAt (txt l) i=(l.getD i 0).toNat:=rfl
def fit (n m:Nat):Int:=if m < n then 4 else if n < m then 5 else 0
theorem wO (n m:Nat):fit n m=0↔m=n:=by unfold fit;(repeat' split)<;>omega
def wrong (k n:Nat) (s:ByteArray):Int:=if s.size=0 then 4 else if byteAt s 0 / 16=k then fit n s.size else 7
theorem qB (k n:Nat) (s:ByteArray) (h:s.size=0):wrong k n s=4:=by unfold wrong;rw [if_pos h]
theorem o8 (k n:Nat) (s:ByteArray) (h:s.size≠0) (hk:byteAt s 0 / 16≠k):wrong k n s=7:=by unfold wrong;rw [if_neg h,if_neg hk]
theorem jF (k n:Nat) (s:ByteArray) (h:s.size≠0) (hk:byteAt s 0 / 16=k):wrong k n s=fit n s.size:=by unfold wrong;rw [if_neg h,if_pos hk]
theorem rY (k n:Nat) (s:ByteArray) (hn:n≠0):wrong k n s=0↔s.size=n∧byteAt s 0 / 16=k:=by
 unfold wrong
 split
 ·constructor
  ·intro h;exact absurd h (by decide)
  ·rintro ⟨h,_⟩;omega
 ·split
  ·rw [wO]
   constructor
   ·intro h;exact ⟨h,by assumption⟩
   ·exact fun h=>h.1
  ·constructor
   ·intro h;exact absurd h (by decide)
   ·rintro ⟨_,h⟩;contradiction
def dN (b:Bool):ByteArray:=txt [if b then 81 else 80]
def iG (k n:Nat):ByteArray:=txt (UInt8.ofNat (k * 16)::0::be 8 n)
def lD (f r:Nat):ByteArray:=txt [UInt8.ofNat (128+f),UInt8.ofNat r]
abbrev May (f r:Int):Prop:=(0≤f∧f≤15)∧(0≤r∧r≤255)
def uY (f r:Int):ByteArray×Int:=if May f r then (lD f.toNat r.toNat,0) else (⟨#[]⟩,2)
theorem xY (f r:Int) (h:May f r):uY f r=(lD f.toNat r.toNat,0):=if_pos h
theorem xQ (f r:Int) (h:¬May f r):uY f r=(⟨#[]⟩,2):=if_neg h
theorem prioT_size (b:Bool):(dN b).size=1:=by rw [dN,aN];rfl
theorem rQ (k n:Nat):(iG k n).size=10:=by rw [iG,aN];simp [aH]
theorem qY (f r:Nat):(lD f r).size=2:=by rw [lD,aN];rfl
def gotP (s:ByteArray):Bool:=byteAt s 0%2==1
def qX (s:ByteArray):Bool:=if wrong 5 1 s=0 then gotP s else false
def jM (k:Nat) (s:ByteArray):Nat:=if wrong k 10 s=0 then num s 2 8 else 0
def rJ (s:ByteArray):Nat:=if wrong 8 2 s=0 then byteAt s 0%16 else 0
def eU (s:ByteArray):Nat:=if wrong 8 2 s=0 then byteAt s 1 else 0
theorem prio_wrong (b:Bool):wrong 5 1 (dN b)=0:=by
 rw [rY _ _ _ (by decide)]
 exact ⟨prioT_size b,by cases b<;>rfl⟩
theorem prio_got (b:Bool):qX (dN b)=b:=by
 unfold qX;rw [if_pos (prio_wrong b)];cases b<;>rfl
theorem qO (k n:Nat) (hk:k < 16):wrong k 10 (iG k n)=0:=by
 rw [rY _ _ _ (by decide)]
 refine ⟨rQ k n,?_⟩
 rw [iG,lQ,List.getD_cons_zero,byte_of _ (by omega)]
 omega
theorem num_got (k n:Nat) (hk:k < 16) (hn:n≤18446744073709551615):jM k (iG k n)=n:=by
 unfold jM;rw [if_pos (qO k n hk)]
 have h:=bU [UInt8.ofNat (k * 16),0] [] 2 8 n rfl
 rw [List.append_nil] at h
 show num (txt ([UInt8.ofNat (k * 16),0]++be 8 n)) 2 8=n
 rw [h]
 exact Nat.mod_eq_of_lt (by omega)
theorem qU (f r:Nat) (hf:f≤15):wrong 8 2 (lD f r)=0:=by
 rw [rY _ _ _ (by decide)]
 refine ⟨qY f r,?_⟩
 rw [lD,lQ,List.getD_cons_zero,byte_of _ (by omega)]
 omega
theorem rst_gotF (f r:Nat) (hf:f≤15):rJ (lD f r)=f:=by
 unfold rJ;rw [if_pos (qU f r hf),lD,lQ,List.getD_cons_zero,byte_of _ (by omega)]
 omega
theorem rst_gotR (f r:Nat) (hf:f≤15) (hr:r≤255):eU (lD f r)=r:=by
 unfold eU;rw [if_pos (qU f r hf),lD,lQ]
 show (UInt8.ofNat r).toNat=r
 exact byte_of _ (by omega)
open Go.ChangeShapes Go.WideShapes Go.ChangeAt Go.RowKit
abbrev prv (b:Bool):Array Value:=#[.bool b]
abbrev nuv (n:Nat):Array Value:=#[.int .u64 (n:Int)]
abbrev rsv (f r:Int):Array Value:=#[.int .i64 f,.int .i64 r]
theorem fJ:(Tryz.prog.info? 36).map (·.size)=some 1:=by kernel_rfl
theorem fG:(Tryz.prog.info? 38).map (·.size)=some 1:=by kernel_rfl
theorem fF:(Tryz.prog.info? 40).map (·.size)=some 1:=by kernel_rfl
theorem eF:(Tryz.prog.info? 42).map (·.size)=some 2:=by kernel_rfl
def encPV (b:Bool):Value:=.tuple #[.string (dN b),.int .i64 0]
def encNV (k n:Nat):Value:=.tuple #[.string (iG k n),.int .i64 0]
def pF (f r:Int):Value:=.tuple #[.string (uY f r).1,.int .i64 (uY f r).2]
theorem bC {P:Program} {fn:Func} {R:Ending→World→Prop} {a:Act} {w:World} (t u:Tmp) (v z:Value) (hf:fn.results=#[.tmp t,.tmp u]) (ht:a.tmps.getD t undef=v) (hu:a.tmps.getD u undef=z) (hd:a.defers=[]) (hR:R (.returned (.tuple #[v,z])) w):bodyPost P fn R .ret a w:=
 bodyPost_ret (by rw [results_tmp2 hf,ht,hu]) hd hR
theorem EncodePrio_any (b:Bool) (w:World):
  Calls Tryz.prog 74 #[.agg (prv b)] w (Rt w (encPV b)):=by
 have HB:=Lh ((Below.refl _ w).alloc (Nat.le_refl _) (.cells (prv b) 36))
 cases b
 ·go_enter Tryz.func74,Tryz.ntmps74
  go_wp2_with fail
  refine (answer (dB ⟨#[]⟩ 80 _ (by decide) (by decide)) (v':=.string (dN false)) (by kernel_rfl)).mono ?_
  rintro e w1 ⟨rfl,b1⟩
  go_wp2_with fail
  exact bC 2 3 (.string (dN false)) (.int .i64 0) (by kernel_rfl) (by kernel_rfl) (by kernel_rfl) (by kernel_rfl) ⟨rfl,aQ HB.out b1⟩
 ·go_enter Tryz.func74,Tryz.ntmps74
  go_wp2_with fail
  refine (answer (dB ⟨#[]⟩ 81 _ (by decide) (by decide)) (v':=.string (dN true)) (by kernel_rfl)).mono ?_
  rintro e w1 ⟨rfl,b1⟩
  go_wp2_with fail
  exact bC 2 3 (.string (dN true)) (.int .i64 0) (by kernel_rfl) (by kernel_rfl) (by kernel_rfl) (by kernel_rfl) ⟨rfl,aQ HB.out b1⟩
theorem one_byte (n:Nat):(⟨#[]⟩:ByteArray)++⟨(be 1 n).toArray⟩=txt [UInt8.ofNat n]:=by rw [jC];apply ByteArray.ext;simp [be,txt]
theorem encodeNumber_any (k n:Nat) (hk:k < 16) (hn:n≤18446744073709551615) (w:World):
  Calls Tryz.prog 142 #[.int .u8 (k:Int),.int .u64 (n:Int)] w (Rt w (.string (iG k n))):=by
 obtain ⟨m,hm⟩:=eqx (k * 16)
 have hc:(k:Int) * 16%256=(m:Int):=by omega
 have HK:=Lh (show m≤255 by omega)
 have HN:=Lh hn
 obtain ⟨A,hA⟩:=eqx (txt [UInt8.ofNat m])
 obtain ⟨C,hC⟩:=eqx (txt [UInt8.ofNat m,0])
 have HA:=Lh (show (⟨#[]⟩:ByteArray)++⟨(be 1 m).toArray⟩=A by rw [hA];exact one_byte _)
 have HC:=Lh (show A++⟨(be 1 0).toArray⟩=C by rw [hA,hC];exact dU [UInt8.ofNat m] [0])
 have HT:=Lh (show C++⟨(be 8 n).toArray⟩=iG k n by rw [hC,iG,←hm];exact dU [UInt8.ofNat m,0] (be 8 n))
 have HS:=Lh (show A.size≤10∧C.size≤10 by rw [hA,hC,aN,aN];exact ⟨by simp,by simp⟩)
 clear hA hC hk hn hm
 go_enter Tryz.func142,Tryz.ntmps142
 go_wp2_with fail
 refine (answer (dB ⟨#[]⟩ m _ (by decide) HK.out) (congrArg Value.string HA.out)).mono ?_
 rintro e w1 ⟨rfl,b1⟩
 have HB1:=Lh b1
 clear b1
 go_wp2_with fail
 refine (answer (dB A 0 _ (by have:=HS.out;omega) (by decide)) (congrArg Value.string HC.out)).mono ?_
 rintro e w2 ⟨rfl,b2⟩
 have HB2:=Lh (aQ HB1.out b2)
 clear b2
 go_wp2_with fail
 refine (answer (rG C n _ (by have:=HS.out;omega) HN.out) (congrArg Value.string HT.out)).mono ?_
 rintro e w3 ⟨rfl,b3⟩
 have HB3:=Lh (aQ HB2.out b3)
 clear b3
 go_wp2_with fail
 go_ret;exact ⟨rfl,HB3.out⟩
theorem EncodeFail_any (n:Nat) (hn:n≤18446744073709551615) (w:World):
  Calls Tryz.prog 78 #[.agg (nuv n)] w (Rt w (encNV 6 n)):=by
 have HB:=Lh ((Below.refl _ w).alloc (Nat.le_refl _) (.cells (nuv n) 38))
 have HN:=Lh hn
 clear hn
 go_enter Tryz.func78,Tryz.ntmps78
 go_wp2_with fail
 refine (encodeNumber_any 6 n (by decide) HN.out _).mono ?_
 rintro e w1 ⟨rfl,b1⟩
 go_wp2_with fail
 exact bC 2 3 (.string (iG 6 n)) (.int .i64 0) (by kernel_rfl) (by kernel_rfl) (by kernel_rfl) (by kernel_rfl) ⟨rfl,aQ HB.out b1⟩
theorem EncodeFast_any (n:Nat) (hn:n≤18446744073709551615) (w:World):
  Calls Tryz.prog 82 #[.agg (nuv n)] w (Rt w (encNV 7 n)):=by
 have HB:=Lh ((Below.refl _ w).alloc (Nat.le_refl _) (.cells (nuv n) 40))
 have HN:=Lh hn
 clear hn
 go_enter Tryz.func82,Tryz.ntmps82
 go_wp2_with fail
 refine (encodeNumber_any 7 n (by decide) HN.out _).mono ?_
 rintro e w1 ⟨rfl,b1⟩
 go_wp2_with fail
 exact bC 2 3 (.string (iG 7 n)) (.int .i64 0) (by kernel_rfl) (by kernel_rfl) (by kernel_rfl) (by kernel_rfl) ⟨rfl,aQ HB.out b1⟩
theorem validRst_any (f r:Int) (w:World):
  Calls Tryz.prog 148 #[.agg (rsv f r)] w (Rt w (.bool (decide (May f r)))):=by
 have HB:=Lh ((Below.refl _ w).alloc (Nat.le_refl _) (.cells (rsv f r) 42))
 by_cases h1:0≤f
 ·by_cases h2:f < 16
  ·by_cases h3:0≤r
   ·by_cases h4:r≤255
    ·rw [decide_eq_true (show May f r by unfold May;omega)]
     go_enter Tryz.func148,Tryz.ntmps148
     go_wp2
     go_ret;exact ⟨rfl,HB.out⟩
    ·rw [decide_eq_false (show¬May f r by unfold May;omega)]
     go_enter Tryz.func148,Tryz.ntmps148
     go_wp2
     go_ret;exact ⟨rfl,HB.out⟩
   ·rw [decide_eq_false (show¬May f r by unfold May;omega)]
    go_enter Tryz.func148,Tryz.ntmps148
    go_wp2
    go_ret;exact ⟨rfl,HB.out⟩
  ·rw [decide_eq_false (show¬May f r by unfold May;omega)]
   go_enter Tryz.func148,Tryz.ntmps148
   go_wp2
   go_ret;exact ⟨rfl,HB.out⟩
 ·rw [decide_eq_false (show¬May f r by unfold May;omega)]
  go_enter Tryz.func148,Tryz.ntmps148
  go_wp2
  go_ret;exact ⟨rfl,HB.out⟩
open Go.ChangeShapes Go.WideShapes Go.ChangeAt Go.RowKit
theorem encTV_t (f r:Nat) (h:May (f:Int) (r:Int)):pF (f:Int) (r:Int)= .tuple #[.string (lD f r),.int .i64 0]:=by unfold pF;rw [xY _ _ h];rfl
theorem encTV_f (f r:Int) (h:¬May f r):pF f r= .tuple #[.string ⟨#[]⟩,.int .i64 2]:=by unfold pF;rw [xQ _ _ h]
theorem sU {ρ:Operand→Value} {o:Oper} {w:World} (t u:TypeId) (x y:Operand) (ho:o.op= .binOp .add t x y u) (a b c:Nat) (hx:ρ x= .int .u8 (a:Int)) (hy:ρ y= .int .u8 (b:Int)) (ht:Tryz.prog.underlying t=some (.int .u8)) (h:a+b=c) (hc:c≤255):
  (execOp ρ o).run Tryz.prog w= .ok (.value (.int .u8 (c:Int))) w:=by
 have e:IntKind.u8.wrap ((a:Int)+(b:Int))=(c:Int):=by rw [IntKind.wrap_u8];omega
 unfold execOp
 rw [ho]
 simp [hx,hy,go_sem,e]
theorem ex_add_i64 {ρ:Operand→Value} {o:Oper} {w:World} (t u:TypeId) (x y:Operand) (ho:o.op= .binOp .add t x y u) (a b c:Nat) (hx:ρ x= .int .i64 (a:Int)) (hy:ρ y= .int .i64 (b:Int)) (ht:Tryz.prog.underlying t=some (.int .i64)) (h:a+b=c) (hc:c≤255):
  (execOp ρ o).run Tryz.prog w= .ok (.value (.int .i64 (c:Int))) w:=by
 have e:IntKind.i64.wrap ((a:Int)+(b:Int))=(c:Int):=by rw [IntKind.wrap_i64];omega
 unfold execOp
 rw [ho]
 simp [hx,hy,go_sem,e]
theorem conv_i64_u64 (n:Nat) (h:n≤9223372036854775807) (w:World):(convert 3 22 (.int .i64 (n:Int))).run Tryz.prog w= .ok (.int .u64 (n:Int)) w:=by
 rw [run_convert_int w 3 22 .i64 _ (by kernel_rfl) (by kernel_rfl),show Tryz.prog.intKind 22= .u64 by kernel_rfl,IntKind.wrap_u64,show (n:Int)%18446744073709551616=(n:Int) by omega]
theorem EncodeRst_t (f r:Nat) (hm:May (f:Int) (r:Int)) (w:World):
  Calls Tryz.prog 86 #[.agg (rsv (f:Int) (r:Int))] w (Rt w (pF (f:Int) (r:Int))):=by
 rw [encTV_t f r hm]
 have HF:=Lh (show f≤15 by unfold May at hm;omega)
 have HR:=Lh (show r≤255 by unfold May at hm;omega)
 have HD:=Lh (show decide (May (f:Int) (r:Int))=true from decide_eq_true hm)
 obtain ⟨m,hmf⟩:∃m,128+f=m:=⟨_,rfl⟩
 have HM:=Lh (show m≤255 by have:=HF.out;omega)
 have HMF:=Lh hmf
 obtain ⟨T,hT⟩:=eqx (lD f r)
 rw [←hT]
 obtain ⟨A,hA⟩:=eqx (txt [UInt8.ofNat m])
 have HA:=Lh (show (⟨#[]⟩:ByteArray)++⟨(be 1 m).toArray⟩=A by rw [hA];exact one_byte _)
 have HT:=Lh (show A++⟨(be 1 r).toArray⟩=T by rw [hA,hT,lD,hmf,show (be 1 r)=[UInt8.ofNat r] by simp [be]];exact dU [UInt8.ofNat m] [UInt8.ofNat r])
 have HS:=Lh (show A.size≤1∧T.size≤2 by rw [hA,hT,aN,qY];exact ⟨by simp,by omega⟩)
 obtain ⟨w0,hw0⟩:=eqx (w.alloc (.cells (rsv (f:Int) (r:Int)) 42))
 obtain ⟨b0,hb0⟩:=eqx w.heap.size
 have hc0:Blk w0 b0 42 (rsv (f:Int) (r:Int)):=by rw [hw0,hb0];exact Blk.new _ _ _
 have HBW:=Lh (qA hw0)
 have HCC:=Lh (show Blk (w.alloc (.cells (rsv (f:Int) (r:Int)) 42)) w.heap.size 42 (rsv (f:Int) (r:Int)) from Blk.new _ _ _)
 have HC0:=Lh hc0
 have HW0:=Lh hw0
 have HB0:=Lh hb0
 clear hm hmf hT hA hw0 hb0 hc0
 go_enter Tryz.func86,Tryz.ntmps86
 go_wp2_with (refine wpList_load_row rfl 42 _ rfl w.heap.size rfl 42 (rsv (f:Int) (r:Int)) (0,0) _ ?_ Tryz.underlying42 rfl eF ?_;exact HCC.out)
 refine (validRst_any (f:Int) (r:Int) _).mono ?_
 rintro e V ⟨rfl,bv⟩
 rw [HD.out]
 have bv0:Below w0.heap.size w0 V:=by rw [HW0.out];exact bv
 have HC:=Lh (HC0.out.below bv0 HC0.out.lt)
 have HBV:=Lh (HBW.out.trans (bv0.mono HBW.out.size))
 clear bv bv0 HCC
 go_upto_region 3 with fail
 rw [←HB0.out]
 refine dD (n:=11) rfl fun W0 B0=>?_
 refine stF 0 (.pointer (some ⟨b0,0,none⟩)) rfl B0 (stG 1 (.int .i64 (f:Int)) rfl B0 (fun W b=>xLd 3 (.tmp 7) ⟨b0,0,none⟩ ((HC.out.below b HC.out.lt).cell 0)) (stG 2 (.int .u8 (f:Int)) rfl B0 (fun W _=>bW (v:=.int .i64 (f:Int)) 3 5 (.tmp 8) (by kernel_rfl) (by kernel_rfl) (eP (f:Int) f (by have:=HF.out;have:=HR.out;omega) W)) (stG 3 (.int .u8 (m:Int)) rfl B0 (fun _ _=>sU 5 5 (.const (.int .u8 128)) (.tmp 9) (by kernel_rfl) 128 f m (by kernel_rfl) (by kernel_rfl) (by kernel_rfl) HMF.out HM.out) (stF 5 (.pointer (some ⟨b0,1,none⟩)) rfl B0 (stG 6 (.int .i64 (r:Int)) rfl B0 (fun W b=>xLd 3 (.tmp 12) ⟨b0,1,none⟩ ((HC.out.below b HC.out.lt).cell 1)) (stG 7 (.int .u8 (r:Int)) rfl B0 (fun W _=>bW (v:=.int .i64 (r:Int)) 3 5 (.tmp 13) (by kernel_rfl) (by kernel_rfl) (eP (r:Int) r (by have:=HF.out;have:=HR.out;omega) W)) ?_))))))
 refine stB 4 rfl (answer (dB ⟨#[]⟩ m _ (by decide) HM.out) (congrArg Value.string HA.out)) B0 fun W1 B1=>?_
 clear B0
 refine stB 8 rfl (answer (dB A r _ (by have:=HS.out.1;omega) HR.out) (congrArg Value.string HT.out)) B1 fun W2 B2=>?_
 clear B1
 refine stF 9 (.string T) rfl B2 (stF 10 (.int .i64 0) rfl B2 ?_)
 refine aJ (by kernel_rfl) ?_
 have HE:=Lh (HBV.out.trans (B2.mono HBV.out.size))
 go_wp2_with fail
 exact bC 2 3 (.string T) (.int .i64 0) (by kernel_rfl) (by kernel_rfl) (by kernel_rfl) (by kernel_rfl) ⟨rfl,HE.out⟩
theorem EncodeRst_f (f r:Int) (hm:¬May f r) (w:World):
  Calls Tryz.prog 86 #[.agg (rsv f r)] w (Rt w (pF f r)):=by
 rw [encTV_f f r hm]
 have HD:=Lh (show decide (May f r)=false from decide_eq_false hm)
 have HCC:=Lh (Blk.new w 42 (rsv f r))
 have HB:=Lh ((Below.refl _ w).alloc (Nat.le_refl _) (.cells (rsv f r) 42))
 clear hm
 go_enter Tryz.func86,Tryz.ntmps86
 go_wp2_with (refine wpList_load_row rfl 42 _ rfl w.heap.size rfl 42 (rsv f r) (0,0) _ ?_ Tryz.underlying42 rfl eF ?_;exact HCC.out)
 refine (validRst_any f r _).mono ?_
 rintro e V ⟨rfl,bv⟩
 rw [HD.out]
 go_wp2_with fail
 exact bC 2 3 (.string ⟨#[]⟩) (.int .i64 2) (by kernel_rfl) (by kernel_rfl) (by kernel_rfl) (by kernel_rfl) ⟨rfl,aQ HB.out bv⟩
theorem EncodeRst_any (f r:Int) (w:World):
  Calls Tryz.prog 86 #[.agg (rsv f r)] w (Rt w (pF f r)):=by
 by_cases hm:May f r
 ·obtain ⟨n,rfl⟩:=Int.eq_ofNat_of_zero_le hm.1.1
  obtain ⟨k,rfl⟩:=Int.eq_ofNat_of_zero_le hm.2.1
  exact EncodeRst_t n k hm w
 ·exact EncodeRst_f f r hm w
theorem wM (f r:Nat) (hm:May (f:Int) (r:Int)) (w:World):
  Calls Tryz.prog 98 #[.agg (rsv (f:Int) (r:Int))] w (Rt w (pF (f:Int) (r:Int))):=by
 rw [encTV_t f r hm]
 have l0:¬(f:Int) < 0:=by omega
 have l1:(f:Int)≤15:=hm.1.2
 have l2:¬(r:Int) < 0:=by omega
 have l3:(r:Int)≤255:=hm.2.2
 have HF:=Lh (show f≤15 by unfold May at hm;omega)
 have HR:=Lh (show r≤255 by unfold May at hm;omega)
 have HD:=Lh (show decide (May (f:Int) (r:Int))=true from decide_eq_true hm)
 obtain ⟨m,hmf⟩:∃m,128+f=m:=⟨_,rfl⟩
 have HM:=Lh (show m≤255 by have:=HF.out;omega)
 have HMF:=Lh hmf
 obtain ⟨T,hT⟩:=eqx (lD f r)
 rw [←hT]
 obtain ⟨A,hA⟩:=eqx (txt (be 1 m))
 obtain ⟨R,hR⟩:=eqx (txt (be 1 r))
 have HA:=Lh hA.symm
 have HRR:=Lh hR.symm
 have HT:=Lh (show A++R=T by rw [hA,hR,hT,lD,hmf,show be 1 m=[UInt8.ofNat m] by simp [be],show be 1 r=[UInt8.ofNat r] by simp [be]];exact dU [UInt8.ofNat m] [UInt8.ofNat r])
 have HS:=Lh (show A.size≤1∧R.size≤1 by rw [hA,hR,qR,qR];omega)
 obtain ⟨V,hV⟩:=eqx (w.alloc (.cells (rsv (f:Int) (r:Int)) 42))
 obtain ⟨b0,hb0⟩:=eqx w.heap.size
 have HC:=Lh (show Blk V b0 42 (rsv (f:Int) (r:Int)) by rw [hV,hb0];exact Blk.new _ _ _)
 have HBV:=Lh (qA hV)
 have HB0:=Lh hb0
 have HV:=Lh hV
 clear hm hmf hT hA hR hV hb0
 go_enter Tryz.func98,Tryz.ntmps98
 go_upto_region 3 with fail
 rw [←HV.out,←HB0.out]
 clear l0 l1 l2 l3
 refine dD (n:=12) rfl fun W0 B0=>?_
 refine stF 0 (.pointer (some ⟨b0,0,none⟩)) rfl B0 (stG 1 (.int .i64 (f:Int)) rfl B0 (fun W b=>xLd 3 (.tmp 22) ⟨b0,0,none⟩ ((HC.out.below b HC.out.lt).cell 0)) (stG 2 (.int .i64 (m:Int)) rfl B0 (fun _ _=>ex_add_i64 3 3 (.const (.int .i64 128)) (.tmp 23) (by kernel_rfl) 128 f m (by kernel_rfl) (by kernel_rfl) (by kernel_rfl) HMF.out HM.out) (stG 3 (.int .u64 (m:Int)) rfl B0 (fun W _=>bW (v:=.int .i64 (m:Int)) 3 22 (.tmp 24) (by kernel_rfl) (by kernel_rfl) (conv_i64_u64 m (by have:=HM.out;have:=HR.out;omega) W)) (stF 5 (.pointer (some ⟨b0,1,none⟩)) rfl B0 (stG 6 (.int .i64 (r:Int)) rfl B0 (fun W b=>xLd 3 (.tmp 27) ⟨b0,1,none⟩ ((HC.out.below b HC.out.lt).cell 1)) (stG 7 (.int .u64 (r:Int)) rfl B0 (fun W _=>bW (v:=.int .i64 (r:Int)) 3 22 (.tmp 28) (by kernel_rfl) (by kernel_rfl) (conv_i64_u64 r (by have:=HM.out;have:=HR.out;omega) W)) ?_))))))
 refine stB 4 rfl (Laid_t m 1 A _ (by have:=HM.out;omega) (by decide) (by decide) HA.out) B0 fun W1 B1=>?_
 clear B0
 refine stB 8 rfl (Laid_t r 1 R _ (by have:=HR.out;omega) (by decide) (by decide) HRR.out) B1 fun W2 B2=>?_
 clear B1
 refine stG 9 (.string T) rfl B2 (fun _ _=>ex_strcat 9 9 (.tmp 26) (.tmp 30) (by kernel_rfl) (A) (R) T (by kernel_rfl) (by kernel_rfl) (by have:=HS.out.1;omega) (by have:=HS.out.2;omega) HT.out.symm) (stF 10 (.string T) rfl B2 (stF 11 (.int .i64 0) rfl B2 ?_))
 refine aJ (by kernel_rfl) ?_
 have HE:=Lh (HBV.out.trans (B2.mono HBV.out.size))
 go_wp2_with fail
 exact bC 2 3 (.string T) (.int .i64 0) (by kernel_rfl) (by kernel_rfl) (by kernel_rfl) (by kernel_rfl) ⟨rfl,HE.out⟩
theorem wV (f r:Int) (hm:¬May f r) (w:World):
  Calls Tryz.prog 98 #[.agg (rsv f r)] w (Rt w (pF f r)):=by
 rw [encTV_f f r hm]
 have HB:=Lh ((Below.refl _ w).alloc (Nat.le_refl _) (.cells (rsv f r) 42))
 have HM:=Lh hm
 clear hm
 by_cases h1:f < 0
 ·skip
  go_enter Tryz.func98,Tryz.ntmps98
  go_wp2
  exact bC 2 3 (.string ⟨#[]⟩) (.int .i64 2) (by kernel_rfl) (by kernel_rfl) (by kernel_rfl) (by kernel_rfl) ⟨rfl,HB.out⟩
 by_cases h2:15 < f
 ·skip
  go_enter Tryz.func98,Tryz.ntmps98
  go_wp2
  exact bC 2 3 (.string ⟨#[]⟩) (.int .i64 2) (by kernel_rfl) (by kernel_rfl) (by kernel_rfl) (by kernel_rfl) ⟨rfl,HB.out⟩
 by_cases h3:r < 0
 ·skip
  go_enter Tryz.func98,Tryz.ntmps98
  go_wp2
  exact bC 2 3 (.string ⟨#[]⟩) (.int .i64 2) (by kernel_rfl) (by kernel_rfl) (by kernel_rfl) (by kernel_rfl) ⟨rfl,HB.out⟩
 have h4:255 < r:=by have:=HM.out;unfold May at this;omega
 go_enter Tryz.func98,Tryz.ntmps98
 go_wp2
 exact bC 2 3 (.string ⟨#[]⟩) (.int .i64 2) (by kernel_rfl) (by kernel_rfl) (by kernel_rfl) (by kernel_rfl) ⟨rfl,HB.out⟩
open Go.ChangeShapes Go.WideShapes Go.ChangeAt Go.RowKit
theorem pX (b:Nat) (s:ByteArray) (w:World) (hs:s.size≤9223372036854775807) (h0:s.size≠0) (h:Cur w b s 0 false):
  Calls Tryz.prog 137 #[.pointer (some ⟨b,0,none⟩)] w fun e w'=>e= .returned (.int .u8 (byteAt s 0:Int))∧aT w w' b s 1 false:=by
 have q:=xA b s 0 w hs (by omega) h
 rw [jI] at q
 exact q
def Fin (m:Nat) (s:ByteArray) (k:Nat) (br:Bool):Prop:=k≤s.size∧kK s k br=fit m s.size
theorem fin_one (s:ByteArray) (h0:s.size≠0):Fin 1 s 1 false:=by
 refine ⟨by omega,?_⟩
 unfold kK fit
 (repeat' split)<;>first | rfl | omega | contradiction
theorem fin_two (s:ByteArray) (h0:s.size≠0):Fin 2 s (dK s 1 false (1:Nat)) (brO s 1 false (1:Nat)):=by
 refine ⟨jL s 1 false _ (by omega),?_⟩
 rcases fU s 1 false (1:Nat) with ⟨h,_⟩ | ⟨_,hn,hf⟩ | ⟨_,_,h1,hf⟩
 ·cases h
 ·rw [jZ hf];unfold kK fit;rw [if_pos rfl,if_pos (by omega)]
 ·rw [iO hf,fD hf]
  unfold kK fit
  rw [if_neg (by decide),if_neg (show¬s.size < 2 by omega)]
  rfl
theorem fin_ten (s:ByteArray) (h0:s.size≠0):Fin 10 s (dK s (dK s 1 false (1:Nat)) (brO s 1 false (1:Nat)) (8:Nat)) (brO s (dK s 1 false (1:Nat)) (brO s 1 false (1:Nat)) (8:Nat)):=by
 have hp:=jL s 1 false (1:Nat) (by omega)
 refine ⟨jL s _ _ _ hp,?_⟩
 rcases fU s 1 false (1:Nat) with ⟨h,_⟩ | ⟨_,hn,hf⟩ | ⟨_,_,h1,hf⟩
 ·cases h
 ·rw [jZ hf,kT hf]
  rw [jZ (by unfold fits;rfl)]
  unfold kK fit;rw [if_pos rfl,if_pos (by omega)]
 ·rw [iO hf,fD hf]
  rcases fU s (1+Int.toNat (1:Nat)) false (8:Nat) with ⟨h,_⟩ | ⟨_,hn,hf⟩ | ⟨_,_,h1,hf⟩
  ·cases h
  ·rw [jZ hf];unfold kK fit;rw [if_pos rfl,if_pos (by have:(Int.toNat (1:Nat))=1:=rfl;omega)]
  ·rw [iO hf,fD hf]
   have e1:Int.toNat (1:Nat)=1:=rfl
   have e8:Int.toNat (8:Nat)=8:=rfl
   unfold kK fit
   rw [if_neg (by decide),if_neg (show¬s.size < 10 by omega)]
   rfl
theorem got_two (s:ByteArray) (h:fit 2 s.size=0):numO s 1 false 1=byteAt s 1:=by
 rw [wO] at h
 rw [fM (by unfold fits;rw [h];rfl),jI]
theorem got_ten (s:ByteArray) (h:fit 10 s.size=0):numO s (dK s 1 false (1:Nat)) (brO s 1 false (1:Nat)) 8=num s 2 8:=by
 rw [wO] at h
 have hf:fits s 1 false (1:Nat)=true:=by unfold fits;rw [h];rfl
 rw [fD hf,iO hf,fM (by unfold fits;rw [h];rfl)]
 rfl
theorem decodeNumber_any (b:Nat) (s:ByteArray) (w:World) (hs:s.size≤9223372036854775807) (h0:s.size≠0) (h:Cur w b s 1 false):
  Calls Tryz.prog 145 #[.pointer (some ⟨b,0,none⟩)] w fun e w'=>∃n k br,e= .returned (.int .u64 ((n:Nat):Int))∧aT w w' b s k br∧Fin 10 s k br∧(fit 10 s.size=0→n=num s 2 8):=by
 obtain ⟨p,hp⟩:=eqx (dK s 1 false (1:Nat))
 obtain ⟨q,hq⟩:=eqx (brO s 1 false (1:Nat))
 obtain ⟨n,hn⟩:=eqx (numO s p q 8)
 obtain ⟨m,hm⟩:=eqx (numO s 1 false 1)
 have H1:=Lh (mJ b s 1 false w hs (by omega) h)
 have H8:=Lh (fun w1 (h1:Cur w1 b s p q)=>wY b s p q w1 hs (by rw [hp];exact jL s 1 false _ (by omega)) h1)
 have HF:=Lh (fin_ten s h0)
 have HG:=Lh (got_ten s)
 rw [←hm,←hp,←hq] at H1
 rw [←hn] at H8
 rw [←hp,←hq] at HF HG
 rw [←hn] at HG
 clear h hp hq hn hm hs h0
 go_enter Tryz.func145,Tryz.ntmps145
 go_wp2_with fail
 refine H1.out.mono ?_
 rintro e w1 ⟨rfl,m1⟩
 have HM:=Lh m1
 clear m1
 go_wp2_with fail
 refine (H8.out _ HM.out.2).mono ?_
 rintro e w2 ⟨rfl,m2⟩
 have HM2:=Lh (HM.out.trans m2)
 clear m2
 go_wp2_with fail
 go_ret
 exact ⟨n,_,_,rfl,HM2.out,HF.out,HG.out⟩
theorem jO {P:Program} {fn:Func} {p:Tmp} {ty:TypeId} (h:fn.results=#[.cell p ty]) (tmps:Array Value) (w:World) (g:Nat) (t':TypeId) (cs:Array Value) (fr:Nat×Nat) (d:TypeDesc)
  (hp:tmps.getD p undef= .pointer (some ⟨g,0,none⟩)) (hg:w.heap[g]?=some (.cells cs t' fr))
  (hu:P.underlying ty=some d) (hd:(match d with | .struct _ | .array _ _=>true | _=>false)=true) (hi:(P.info? ty).map (·.size)=some cs.size):
  (results fn tmps).run P w= .ok (.agg cs) w:=by
 have hp':tmps[p]?.getD undef= .pointer (some ⟨g,0,none⟩):=by simpa using hp
 simp [results,h,hp',asAddr,run_loadVar_row w g t' ty cs fr d hg hu hd hi]
theorem below_setRow {B:Nat} {w W:World} {g:Nat} (h:Below B w W) (hg:B≤g) (cs:Array Value):Below B w (W.setRow g cs):=
 h.trans ⟨rfl,rfl,rfl,by simp,fun k hk=>setRow_other W g k cs fun e=>by omega⟩
theorem nK:∀n:_root_.Fin 256,(bits .and .u8 (n.val:Int) 1 !=0)=(n.val%2==1):=by decide+kernel
theorem nY {w W:World} {b:Nat} {s:ByteArray} {k:Nat} {br:Bool} (h:aT w W b s k br) (r:Nat) (hr:w.heap.size≤r) (hb:b≠r) (cs:Array Value):aT w (W.setRow r cs) b s k br:=
 ⟨{ os:=h.1.os,tape:=h.1.tape,output:=h.1.output,size:=by have:=h.1.size;simpa using this,block:=fun i hi hn=>(setRow_other W r i cs fun e=>by omega).trans (h.1.block i hi hn) },Blk.same h.2 (setRow_other W r b cs hb)⟩
theorem xK (b:Bool):(prv b).all (·.oneCell')=true:=by simp [Value.oneCell']
theorem qP (n:Nat):(nuv n).all (·.oneCell')=true:=by simp [Value.oneCell']
theorem xO (f r:Int):(rsv f r).all (·.oneCell')=true:=by simp [Value.oneCell']
theorem closP_any (c b:Nat) (s:ByteArray) (w:World) (hc:c < 256) (h0:s.size≠0) (h:Cur w b s 1 false):
  Calls Tryz.prog 141 #[.int .u8 (c:Int)] w fun e w'=>e= .returned (.agg (prv (c%2==1)))∧aT w w' b s 1 false:=by
 have hb:(bits .and .u8 (c:Int) 1 !=0)=(c%2==1):=nK ⟨c,hc⟩
 have HG:=Lh (Blk.new w 36 (prv false))
 have HM:=Lh (show aT w (w.alloc (.cells (prv false) 36)) b s 1 false from ⟨bZ (.refl _ _) _,Blk.alloc h _⟩)
 have HN:=Lh (show b≠w.heap.size from Nat.ne_of_lt (Blk.lt h))
 clear h
 go_enter Tryz.func141,Tryz.ntmps141
 go_wp2_with (refine wpList_store_row rfl 36 _ _ rfl w.heap.size (prv (c%2==1)) rfl rfl 36 (prv false) ?_ fJ rfl (xK _) ?_;exact HG.out)
 exact bodyPost_ret (jO (p:=2) rfl _ _ w.heap.size 36 (prv (c%2==1)) (0,0) _ (by kernel_rfl) (setRow_heap _ _ _ _ _ _ HG.out) Tryz.underlying36 rfl fJ) rfl ⟨rfl,nY HM.out _ (Nat.le_refl _) HN.out _⟩
theorem closF_any (c g b:Nat) (s:ByteArray) (w:World) (hs:s.size≤9223372036854775807) (h0:s.size≠0) (h:Cur w b s 1 false) (hg:Blk w g 177 #[.pointer (some ⟨b,0,none⟩)]):
  Calls Tryz.prog 144 #[.int .u8 (c:Int),.pointer (some ⟨g,0,none⟩)] w fun e w'=>∃n k br,e= .returned (.agg (nuv n))∧aT w w' b s k br∧Fin 10 s k br∧(fit 10 s.size=0→n=num s 2 8):=by
 have cg:=(hg.alloc (.cells #[.int .u64 0] 38)).cell 0
 simp only [List.getElem?_toArray,List.getElem?_cons_zero] at cg
 have H1:=Lh (fun w1 (h1:Cur w1 b s 1 false)=>decodeNumber_any b s w1 hs h0 h1)
 obtain ⟨w0,hw0⟩:=eqx (w.alloc (.cells #[.int .u64 0] 38))
 have HZ:=Lh (show Blk w0 w.heap.size 38 #[.int .u64 0] by rw [hw0];exact Blk.new _ _ _)
 have HM:=Lh (show aT w w0 b s 1 false by rw [hw0];exact ⟨bZ (.refl _ _) _,Blk.alloc h _⟩)
 have HN:=Lh (show b≠w.heap.size from Nat.ne_of_lt (Blk.lt h))
 have HW:=Lh hw0
 clear h hg hs hw0
 go_enter Tryz.func144,Tryz.ntmps144
 go_wp2_with fail
 rw [←HW.out]
 refine (H1.out _ HM.out.2).mono ?_
 rintro e w1 ⟨n,k,br,rfl,m1,hf,hn⟩
 have HM1:=Lh (HM.out.trans m1)
 have HZ1:=Lh (HZ.out.grown m1.1 (by intro e;injection e with e;exact HN.out e.symm))
 have HF:=Lh hf
 have HG:=Lh hn
 clear m1 cg hf hn
 go_wp2_with (refine wpList_store_row rfl 38 _ _ rfl w.heap.size (nuv n) rfl rfl 38 #[.int .u64 0] ?_ fG rfl (qP _) ?_;exact HZ1.out)
 exact bodyPost_ret (jO (p:=3) rfl _ _ w.heap.size 38 (nuv n) (0,0) _ (by kernel_rfl) (setRow_heap _ _ _ _ _ _ HZ1.out) Tryz.underlying38 rfl fG) rfl ⟨n,k,br,rfl,nY HM1.out _ (Nat.le_refl _) HN.out _,HF.out,HG.out⟩
theorem closS_any (c g b:Nat) (s:ByteArray) (w:World) (hs:s.size≤9223372036854775807) (h0:s.size≠0) (h:Cur w b s 1 false) (hg:Blk w g 177 #[.pointer (some ⟨b,0,none⟩)]):
  Calls Tryz.prog 147 #[.int .u8 (c:Int),.pointer (some ⟨g,0,none⟩)] w fun e w'=>∃n k br,e= .returned (.agg (nuv n))∧aT w w' b s k br∧Fin 10 s k br∧(fit 10 s.size=0→n=num s 2 8):=by
 have cg:=(hg.alloc (.cells #[.int .u64 0] 40)).cell 0
 simp only [List.getElem?_toArray,List.getElem?_cons_zero] at cg
 have H1:=Lh (fun w1 (h1:Cur w1 b s 1 false)=>decodeNumber_any b s w1 hs h0 h1)
 obtain ⟨w0,hw0⟩:=eqx (w.alloc (.cells #[.int .u64 0] 40))
 have HZ:=Lh (show Blk w0 w.heap.size 40 #[.int .u64 0] by rw [hw0];exact Blk.new _ _ _)
 have HM:=Lh (show aT w w0 b s 1 false by rw [hw0];exact ⟨bZ (.refl _ _) _,Blk.alloc h _⟩)
 have HN:=Lh (show b≠w.heap.size from Nat.ne_of_lt (Blk.lt h))
 have HW:=Lh hw0
 clear h hg hs hw0
 go_enter Tryz.func147,Tryz.ntmps147
 go_wp2_with fail
 rw [←HW.out]
 refine (H1.out _ HM.out.2).mono ?_
 rintro e w1 ⟨n,k,br,rfl,m1,hf,hn⟩
 have HM1:=Lh (HM.out.trans m1)
 have HZ1:=Lh (HZ.out.grown m1.1 (by intro e;injection e with e;exact HN.out e.symm))
 have HF:=Lh hf
 have HG:=Lh hn
 clear m1 cg hf hn
 go_wp2_with (refine wpList_store_row rfl 40 _ _ rfl w.heap.size (nuv n) rfl rfl 40 #[.int .u64 0] ?_ fF rfl (qP _) ?_;exact HZ1.out)
 exact bodyPost_ret (jO (p:=3) rfl _ _ w.heap.size 40 (nuv n) (0,0) _ (by kernel_rfl) (setRow_heap _ _ _ _ _ _ HZ1.out) Tryz.underlying40 rfl fF) rfl ⟨n,k,br,rfl,nY HM1.out _ (Nat.le_refl _) HN.out _,HF.out,HG.out⟩
theorem conv_u8_i64 (a:Int) (n:Nat) (h:a=(n:Int)) (hn:n≤255) (w:World):(convert 5 3 (.int .u8 a)).run Tryz.prog w= .ok (.int .i64 (n:Int)) w:=by
 have e:IntKind.i64.wrap a=(n:Int):=by rw [IntKind.wrap_i64];omega
 rw [run_convert_int w 5 3 .u8 _ (by kernel_rfl) (by kernel_rfl),show Tryz.prog.intKind 3= .i64 by kernel_rfl,e]
theorem closR_any (c g b:Nat) (s:ByteArray) (w:World) (hc:c < 256) (hs:s.size≤9223372036854775807) (h0:s.size≠0) (h:Cur w b s 1 false) (hg:Blk w g 177 #[.pointer (some ⟨b,0,none⟩)]):
  Calls Tryz.prog 150 #[.int .u8 (c:Int),.pointer (some ⟨g,0,none⟩)] w fun e w'=>∃f n k br,e= .returned (.agg (rsv ((f:Nat):Int) ((n:Nat):Int)))∧aT w w' b s k br∧Fin 2 s k br∧(fit 2 s.size=0→f=c%16∧n=byteAt s 1):=by
 obtain ⟨f,hf⟩:=eqx (c%16)
 have hm:(c:Int)%16=(f:Int):=by omega
 have hf2:f < 16:=by omega
 obtain ⟨p,hp⟩:=eqx (dK s 1 false (1:Nat))
 obtain ⟨q,hq⟩:=eqx (brO s 1 false (1:Nat))
 obtain ⟨n,hn⟩:=eqx (numO s 1 false 1)
 have hn2:n≤255:=by rw [hn];exact nU s 1 false
 have H1:=Lh (fun w1 (h1:Cur w1 b s 1 false)=>mJ b s 1 false w1 hs (by omega) h1)
 have HF:=Lh (fin_two s h0)
 have HG:=Lh (got_two s)
 rw [←hn,←hp,←hq] at H1
 rw [←hp,←hq] at HF
 rw [←hn] at HG
 have cg:=(hg.alloc (.cells (rsv 0 0) 42)).cell 0
 simp only [List.getElem?_toArray,List.getElem?_cons_zero] at cg
 obtain ⟨w0,hw0⟩:=eqx (w.alloc (.cells (rsv 0 0) 42))
 have HZ:=Lh (show Blk w0 w.heap.size 42 (rsv 0 0) by rw [hw0];exact Blk.new _ _ _)
 have HM:=Lh (show aT w w0 b s 1 false by rw [hw0];exact ⟨bZ (.refl _ _) _,Blk.alloc h _⟩)
 have HN:=Lh (show b≠w.heap.size from Nat.ne_of_lt (Blk.lt h))
 have HF3:=Lh hf
 have HN2:=Lh hn2
 have hcv:=fun W=>conv_u8_i64 ((c:Int)%16) f hm (by omega) W
 have hcn:=fun W=>conv_u8_i64 (n:Int) n rfl hn2 W
 have HW:=Lh hw0
 clear h hg hp hq hn hs hw0 hm hf2 hf
 go_enter Tryz.func150,Tryz.ntmps150
 go_wp2_with fail
 rw [←HW.out]
 refine (H1.out _ HM.out.2).mono ?_
 rintro e w1 ⟨rfl,m1⟩
 have HM1:=Lh (HM.out.trans m1)
 have HZ1:=Lh (HZ.out.grown m1.1 (by intro e;injection e with e;exact HN.out e.symm))
 clear m1 cg
 go_wp2_with (refine wpList_store_row rfl 42 _ _ rfl w.heap.size (rsv (f:Int) (n:Int)) rfl rfl 42 (rsv 0 0) ?_ eF rfl (xO _ _) ?_;exact HZ1.out)
 exact bodyPost_ret (jO (p:=3) rfl _ _ w.heap.size 42 (rsv (f:Int) (n:Int)) (0,0) _ (by kernel_rfl) (setRow_heap _ _ _ _ _ _ HZ1.out) Tryz.underlying42 rfl eF) rfl ⟨f,n,p,q,rfl,nY HM1.out _ (Nat.le_refl _) HN.out _,HF.out,fun h=>⟨HF3.out,HG.out h⟩⟩
open Go.ChangeShapes Go.WideShapes Go.ChangeAt Go.RowKit
theorem assert_errno (v:Value) (w:World):(Instr.typeAssert (.iface 54 v) 20 54 true).run Tryz.prog w= .ok (.tuple #[v,.bool true]) w:=by kernel_rfl
theorem assert_none (w:World):(Instr.typeAssert .nilIface 20 54 true).run Tryz.prog w= .ok (.tuple #[.int .i64 0,.bool false]) w:=by kernel_rfl
theorem ex_assert {P:Program} {ρ:Operand→Value} {o:Oper} {w:World} (x:Operand) (t u:TypeId) (c:Bool) (ho:o.op= .typeAssert x t u c) {v r:Value} (hx:ρ x=v) (he:(Instr.typeAssert v t u c).run P w= .ok r w):(execOp ρ o).run P w= .ok (.value r) w:=by
 unfold execOp
 rw [ho]
 simp [hx,he]
theorem errno_store (w:World) (p:Addr) (x z:Int) (hc:w.cell? p=some (.int .i64 x)) (hz:w.frozen? p=false):(storeVar 54 p (.int .i64 z)).run Tryz.prog w= .ok () (w.setCell p (.int .i64 z)):=by
 simp [go_sem,hc,hz]
theorem errno_load (w:World) (p:Addr) (z:Int) (hc:w.cell? p=some (.int .i64 z)):(loadVar 54 p).run Tryz.prog w= .ok (.int .i64 z) w:=by
 simp [go_sem,hc]
theorem results_row_cell {P:Program} {fn:Func} {p t:Tmp} {ty ty2:TypeId} (h:fn.results=#[.cell p ty,.cell t ty2]) (tmps:Array Value) (w:World) (g:Nat) (t':TypeId) (cs:Array Value) (fr:Nat×Nat) (d:TypeDesc)
  (hp:tmps.getD p undef= .pointer (some ⟨g,0,none⟩)) (hg:w.heap[g]?=some (.cells cs t' fr))
  (hu:P.underlying ty=some d) (hd:(match d with | .struct _ | .array _ _=>true | _=>false)=true) (hi:(P.info? ty).map (·.size)=some cs.size)
  (q:Nat) (v:Value) (hq:tmps.getD t undef= .pointer (some ⟨q,0,none⟩)) (hv:(loadVar ty2 ⟨q,0,none⟩).run P w= .ok v w):
  (results fn tmps).run P w= .ok (.tuple #[.agg cs,v]) w:=by
 have hp':tmps[p]?.getD undef= .pointer (some ⟨g,0,none⟩):=by simpa using hp
 have hq':tmps[t]?.getD undef= .pointer (some ⟨q,0,none⟩):=by simpa using hq
 simp [results,h,hp',hq',asAddr,run_loadVar_row w g t' ty cs fr d hg hu hd hi,hv]
theorem aC {P:Program} {fn:Func} {p t:Tmp} {ty:TypeId} (h:fn.results=#[.cell p ty,.tmp t]) (tmps:Array Value) (w:World) (g:Nat) (t':TypeId) (cs:Array Value) (fr:Nat×Nat) (d:TypeDesc)
  (hp:tmps.getD p undef= .pointer (some ⟨g,0,none⟩)) (hg:w.heap[g]?=some (.cells cs t' fr))
  (hu:P.underlying ty=some d) (hd:(match d with | .struct _ | .array _ _=>true | _=>false)=true) (hi:(P.info? ty).map (·.size)=some cs.size):
  (results fn tmps).run P w= .ok (.tuple #[.agg cs,tmps.getD t undef]) w:=by
 have hp':tmps[p]?.getD undef= .pointer (some ⟨g,0,none⟩):=by simpa using hp
 simp [results,h,hp',asAddr,run_loadVar_row w g t' ty cs fr d hg hu hd hi]
structure St (b:Nat) (s:ByteArray) (r q:Nat) (T:TypeId) (zs:Array Value) (w W:World) (k:Nat) (br:Bool):Prop where
 ret:Blk W r T zs
 err:Blk W q 54 #[.int .i64 0]
 cur:Cur W b s k br
 grown:w.grownBy W (some b)
 ne:r≠q
 nb:r≠b∧q≠b
 le:w.heap.size≤r∧w.heap.size≤q
namespace St
variable {b:Nat} {s:ByteArray} {r q:Nat} {T:TypeId} {zs:Array Value} {w W W':World} {k k':Nat} {br br':Bool}
theorem start (w:World) (b:Nat) (s:ByteArray) (k:Nat) (br:Bool) (h:Cur w b s k br) (T:TypeId) (zs:Array Value):St b s w.heap.size (w.heap.size+1) T zs w ((w.alloc (.cells zs T)).alloc (.cells #[.int .i64 0] 54)) k br:=by
 have hl:=Blk.lt h
 refine ⟨(Blk.new w T zs).alloc _,?_,Blk.alloc (Blk.alloc h _) _,bZ (bZ (.refl _ _) _) _,by omega,by omega,by omega⟩
 have:=Blk.new (w.alloc (.cells zs T)) 54 #[.int .i64 0]
 simpa using this
theorem drewN (h:St b s r q T zs w W k br) (n:Nat):St b s r q T zs w (W.drewN n) k br:=⟨h.ret.drewN n,h.err.drewN n,Blk.drewN h.cur n,gY h.grown n,h.ne,h.nb,h.le⟩
theorem alloc (h:St b s r q T zs w W k br) (o:Obj):St b s r q T zs w (W.alloc o) k br:=⟨h.ret.alloc o,h.err.alloc o,Blk.alloc h.cur o,bZ h.grown o,h.ne,h.nb,h.le⟩
theorem moved (h:St b s r q T zs w W k br) (m:aT W W' b s k' br'):St b s r q T zs w W' k' br':=
 ⟨h.ret.grown m.1 (by intro e;injection e with e;exact h.nb.1 e),h.err.grown m.1 (by intro e;injection e with e;exact h.nb.2 e),m.2,h.grown.trans m.1,h.ne,h.nb,h.le⟩
theorem only_new {a W:World} {b g:Nat} (h:a.grownBy W (some b)) (hg:a.heap.size≤g) (W':World) (ho:W'.os=W.os) (ht:W'.tape=W.tape) (hu:W'.output=W.output) (hz:W'.heap.size=W.heap.size) (hb:∀i,i≠g→W'.heap[i]?=W.heap[i]?):a.grownBy W' (some b):=
 { os:=ho.trans h.os,tape:=ht.trans h.tape,output:=hu.trans h.output,size:=by rw [hz];exact h.size,block:=fun i hi hn=>(hb i (by omega)).trans (h.block i hi hn) }
theorem oI (h:St b s r q T zs w W k br) (v:Value):w.grownBy (W.setCell ⟨q,0,none⟩ v) (some b):=
 only_new h.grown h.le.2 _ rfl rfl rfl (by simp [World.setCell]) fun i hi=>Below.heap_setCell W ⟨q,0,none⟩ v i hi
theorem zS (h:St b s r q T zs w W k br) (cs:Array Value):St b s r q T cs w (W.setRow r cs) k br:=
 ⟨setRow_heap _ _ _ _ _ _ h.ret,h.err.same (setRow_other W r q cs h.ne.symm),Blk.same h.cur (setRow_other W r b cs h.nb.1.symm),only_new h.grown h.le.1 _ rfl rfl rfl (by simp) fun i hi=>setRow_other W r i cs hi,h.ne,h.nb,h.le⟩
end St
theorem catch_in (f:Nat) (hf:f=194∨f=195∨f=196∨f=197) (p:Addr) (x z:Int) (older:List PanicEntry) (w:World) (hc:w.cell? p=some (.int .i64 x)) (hz:w.frozen? p=false):
  CallsD Tryz.prog f #[.pointer (some p)] (.panicking ({ v:=.iface 54 (.int .i64 z),recovered:=false }::older)) w fun e u' w'=>
   e= .returned (.tuple #[])∧u'= .panicking ({ v:=.iface 54 (.int .i64 z),recovered:=true }::older)∧w'=w.setCell p (.int .i64 z):=by
 rcases hf with rfl | rfl | rfl | rfl
 all_goals first | refine jE Tryz.func194 rfl ⟨#[.pointer (some p),undef,undef,undef,undef,undef,undef,undef,undef,undef],[]⟩ (by kernel_rfl) fun c₀ cs hu=>?_ | refine jE Tryz.func195 rfl ⟨#[.pointer (some p),undef,undef,undef,undef,undef,undef,undef,undef,undef],[]⟩ (by kernel_rfl) fun c₀ cs hu=>?_ | refine jE Tryz.func196 rfl ⟨#[.pointer (some p),undef,undef,undef,undef,undef,undef,undef,undef,undef],[]⟩ (by kernel_rfl) fun c₀ cs hu=>?_ | refine jE Tryz.func197 rfl ⟨#[.pointer (some p),undef,undef,undef,undef,undef,undef,undef,undef,undef],[]⟩ (by kernel_rfl) fun c₀ cs hu=>?_
 all_goals
  have hr:=recoverD_in (rest:=cs) hu
  apply wpS_seq
  refine nD [0,1,2,3,4,5,6] (by kernel_rfl) ?_
  refine opsS_recover 0 rfl (by kernel_rfl) (by kernel_rfl) hr ?_
  refine bT 1 (.tuple #[.int .i64 z,.bool true]) rfl (by kernel_rfl) (ex_assert (.tmp 4) 20 54 true (by kernel_rfl) (v:=.iface 54 (.int .i64 z)) (by kernel_rfl) (assert_errno _ _)) ?_
  refine bT 2 (.tuple #[.int .i64 z,.bool true]) rfl (by kernel_rfl) (by kernel_rfl) ?_
  refine bT 3 (.int .i64 z) rfl (by kernel_rfl) (by kernel_rfl) ?_
  refine bT 4 (.bool true) rfl (by kernel_rfl) (by kernel_rfl) ?_
  refine bT 5 (.int .i64 z) rfl (by kernel_rfl) (by kernel_rfl) ?_
  refine bT 6 (.bool true) rfl (by kernel_rfl) (by kernel_rfl) ?_
  refine mW ⟨#[.pointer (some p),.int .i64 z,.bool true,.tuple #[.int .i64 z,.bool true],.iface 54 (.int .i64 z),.tuple #[.int .i64 z,.bool true],.int .i64 z,.bool true,undef,undef],[]⟩ (by kernel_rfl) ?_
  refine wpS_seq ?_
  refine nD [0] (by kernel_rfl) ?_
  refine bT 0 (.bool true) rfl (by kernel_rfl) (by kernel_rfl) ?_
  refine mW ⟨#[.pointer (some p),.int .i64 z,.bool true,.tuple #[.int .i64 z,.bool true],.iface 54 (.int .i64 z),.tuple #[.int .i64 z,.bool true],.int .i64 z,.bool true,.bool true,undef],[]⟩ (by kernel_rfl) ?_
  refine wpS_cond (t:=true) (by kernel_rfl) ?_
  refine nD [0,1] (by kernel_rfl) ?_
  refine bT 0 (.int .i64 z) rfl (by kernel_rfl) (by kernel_rfl) ?_
  refine opsS_skip 1 rfl (by kernel_rfl) (gJ 54 (.tmp 0) (.tmp 9) (by kernel_rfl) p (.int .i64 z) (by kernel_rfl) (by kernel_rfl) (errno_store w p x z hc hz)) ?_
  refine mW ⟨#[.pointer (some p),.int .i64 z,.bool true,.tuple #[.int .i64 z,.bool true],.iface 54 (.int .i64 z),.tuple #[.int .i64 z,.bool true],.int .i64 z,.bool true,.bool true,.int .i64 z],[]⟩ (by kernel_rfl) ?_
  exact ⟨rfl,_,rfl,_,by kernel_rfl,rfl,rfl,rfl⟩
theorem catch_idle (f:Nat) (hf:f=194∨f=195∨f=196∨f=197) (p:Addr) (w:World):
  CallsD Tryz.prog f #[.pointer (some p)] .returning w fun e u' w'=>e= .returned (.tuple #[])∧u'= .returning∧w'=w:=by
 rcases hf with rfl | rfl | rfl | rfl
 all_goals first | refine jE Tryz.func194 rfl ⟨#[.pointer (some p),undef,undef,undef,undef,undef,undef,undef,undef,undef],[]⟩ (by kernel_rfl) fun c₀ cs hu=>?_ | refine jE Tryz.func195 rfl ⟨#[.pointer (some p),undef,undef,undef,undef,undef,undef,undef,undef,undef],[]⟩ (by kernel_rfl) fun c₀ cs hu=>?_ | refine jE Tryz.func196 rfl ⟨#[.pointer (some p),undef,undef,undef,undef,undef,undef,undef,undef,undef],[]⟩ (by kernel_rfl) fun c₀ cs hu=>?_ | refine jE Tryz.func197 rfl ⟨#[.pointer (some p),undef,undef,undef,undef,undef,undef,undef,undef,undef],[]⟩ (by kernel_rfl) fun c₀ cs hu=>?_
 all_goals
  have hr:=recoverD_idle (rest:=cs) hu
  apply wpS_seq
  refine nD [0,1,2,3,4,5,6] (by kernel_rfl) ?_
  refine opsS_idle 0 rfl (by kernel_rfl) (by kernel_rfl) hr ?_
  refine bT 1 (.tuple #[.int .i64 0,.bool false]) rfl (by kernel_rfl) (ex_assert (.tmp 4) 20 54 true (by kernel_rfl) (v:=.nilIface) (by kernel_rfl) (assert_none _)) ?_
  refine bT 2 (.tuple #[.int .i64 0,.bool false]) rfl (by kernel_rfl) (by kernel_rfl) ?_
  refine bT 3 (.int .i64 0) rfl (by kernel_rfl) (by kernel_rfl) ?_
  refine bT 4 (.bool false) rfl (by kernel_rfl) (by kernel_rfl) ?_
  refine bT 5 (.int .i64 0) rfl (by kernel_rfl) (by kernel_rfl) ?_
  refine bT 6 (.bool false) rfl (by kernel_rfl) (by kernel_rfl) ?_
  refine mW ⟨#[.pointer (some p),.int .i64 0,.bool false,.tuple #[.int .i64 0,.bool false],.nilIface,.tuple #[.int .i64 0,.bool false],.int .i64 0,.bool false,undef,undef],[]⟩ (by kernel_rfl) ?_
  refine wpS_seq ?_
  refine nD [0] (by kernel_rfl) ?_
  refine bT 0 (.bool false) rfl (by kernel_rfl) (by kernel_rfl) ?_
  refine mW ⟨#[.pointer (some p),.int .i64 0,.bool false,.tuple #[.int .i64 0,.bool false],.nilIface,.tuple #[.int .i64 0,.bool false],.int .i64 0,.bool false,.bool false,undef],[]⟩ (by kernel_rfl) ?_
  refine wpS_cond (t:=false) (by kernel_rfl) ?_
  refine wpS_of_wp (wp_skip ?_)
  refine ⟨rfl,.returning,?_,_,by kernel_rfl,rfl,rfl,rfl⟩
  cases c₀
  simp_all
theorem dH (F:Func) (f:Nat) (hf:f=194∨f=195∨f=196∨f=197) (T:TypeId) (zs:Array Value) (fl) (hF:F.results=#[.cell 6 T,.cell 7 54]) (hu:Tryz.prog.underlying T=some (.struct fl)) (hcs:(Tryz.prog.info? T).map (·.size)=some zs.size) (r q:Nat) (z:Int) (tmps:Array Value) (R:Ending→World→Prop) (W:World) (h6:tmps.getD 6 undef= .pointer (some ⟨r,0,none⟩)) (h7:tmps.getD 7 undef= .pointer (some ⟨q,0,none⟩)) (hr:Blk W r T zs) (he:Blk W q 54 #[.int .i64 0]) (hne:r≠q) (hR:R (.returned (.tuple #[.agg zs,.int .i64 z])) (W.setCell ⟨q,0,none⟩ (.int .i64 z))):
  bodyPostD Tryz.prog F R (Exit.panic [{ v:=.iface 54 (.int .i64 z),recovered:=false }]) ⟨tmps,[{ target:=.fn (.func f) #[.pointer (some ⟨q,0,none⟩)],args:=#[] }]⟩ W:=by
 have c0:=he.cell 0
 simp only [List.getElem?_toArray,List.getElem?_cons_zero] at c0
 show Leaves Tryz.prog F tmps R _ _ W
 refine leaves_cons (f:=f) (args:=#[.pointer (some ⟨q,0,none⟩)]) (by simp) (by rcases hf with rfl | rfl | rfl | rfl<;>simp [go_sem]) ?_
 refine (catch_in f hf ⟨q,0,none⟩ 0 z [] W c0 (he.frozen 0)).mono ?_
 rintro e u' w'' ⟨rfl,rfl,rfl⟩
 exact ⟨_,results_row_cell hF tmps _ r T zs (0,0) _ h6 (hr.same (Below.heap_setCell W ⟨q,0,none⟩ _ r hne)) hu rfl hcs q (.int .i64 z) h7 (errno_load _ _ z ((he.fV 0 (.int .i64 z)).cell 0)),hR⟩
theorem qE (F:Func) (f:Nat) (hf:f=194∨f=195∨f=196∨f=197) (T:TypeId) (cs:Array Value) (fl) (hF:F.results=#[.cell 6 T,.cell 7 54]) (hu:Tryz.prog.underlying T=some (.struct fl)) (hcs:(Tryz.prog.info? T).map (·.size)=some cs.size) (r q:Nat) (z:Int) (tmps:Array Value) (R:Ending→World→Prop) (W:World) (h6:tmps.getD 6 undef= .pointer (some ⟨r,0,none⟩)) (h7:tmps.getD 7 undef= .pointer (some ⟨q,0,none⟩)) (hr:Blk W r T cs) (he:Blk W q 54 #[.int .i64 z]) (hR:R (.returned (.tuple #[.agg cs,.int .i64 z])) W):
  bodyPostD Tryz.prog F R Exit.ret ⟨tmps,[{ target:=.fn (.func f) #[.pointer (some ⟨q,0,none⟩)],args:=#[] }]⟩ W:=by
 have c0:=he.cell 0
 simp only [List.getElem?_toArray,List.getElem?_cons_zero] at c0
 show Leaves Tryz.prog F tmps R _ _ W
 refine leaves_cons (f:=f) (args:=#[.pointer (some ⟨q,0,none⟩)]) (by simp) (by rcases hf with rfl | rfl | rfl | rfl<;>simp [go_sem]) ?_
 refine (catch_idle f hf ⟨q,0,none⟩ W).mono ?_
 rintro e u' w'' ⟨rfl,rfl,rfl⟩
 exact ⟨_,results_row_cell hF tmps _ r T cs (0,0) _ h6 hr hu rfl hcs q (.int .i64 z) h7 (errno_load _ _ z c0),hR⟩
def uT (s:ByteArray):Value:=.tuple #[.agg (prv (qX s)),.int .i64 (wrong 5 1 s)]
theorem tN (s:ByteArray) (z:Int) (hz:wrong 5 1 s=z) (h0:z≠0):uT s= .tuple #[.agg (prv false),.int .i64 z]:=by
 have h:¬wrong 5 1 s=0:=by rw [hz];exact h0
 unfold uT
 rw [hz]
 unfold qX
 rw [if_neg h]
 try rfl
theorem decPV_ok (s:ByteArray) (h:wrong 5 1 s=0):uT s= .tuple #[.agg (prv (byteAt s 0%2==1)),.int .i64 0]:=by
 unfold uT
 rw [h]
 unfold qX
 rw [if_pos h]
 try rfl
theorem decP_any (b:Nat) (s:ByteArray) (w:World) (hs:s.size≤9223372036854775807) (h:Cur w b s 0 false):
  Calls Tryz.prog 140 #[.pointer (some ⟨b,0,none⟩),.int .u8 5,(.func (.func 141) #[] #[])] w fun e w'=>e= .returned (uT s)∧w.grownBy w' (some b):=by
 obtain ⟨r,hr⟩:=eqx w.heap.size
 obtain ⟨q,hq⟩:=eqx (w.heap.size+1)
 obtain ⟨w0,hw0⟩:=eqx ((w.alloc (.cells (prv false) 36)).alloc (.cells #[.int .i64 0] 54))
 have st:St b s r q 36 (prv false) w w0 0 false:=by rw [hw0,hr,hq];exact St.start w b s 0 false h 36 (prv false)
 obtain ⟨m,hm⟩:=eqx s.size
 have HL:=Lh (show iE s 0 false=(m:Int) by unfold iE;rw [if_neg (by decide),hm];omega)
 obtain ⟨c,hc⟩:=eqx (byteAt s 0)
 have HC2:=Lh (show c < 256 by rw [hc];exact bJ s 0)
 obtain ⟨z,hzz⟩:=eqx (fit 1 s.size)
 have HS:=Lh hs
 have HST:=Lh st
 have HR:=Lh hr
 have HQ:=Lh hq
 have HW:=Lh hw0
 have HM:=Lh hm
 have HC:=Lh hc
 have HZZ:=Lh hzz
 have hmf:∀(fn:Fn) (first cap:Array Value) (w:World),(Instr.makeFunc fn first cap).run Tryz.prog w= .ok (.func fn first cap) w:=fun _ _ _ _=>rfl
 clear h hr hq hw0 st hs hm hc hzz
 go_enter_defers Tryz.func140,Tryz.ntmps140
 go_wp2_with fail
 rw [←HW.out,←HQ.out,←HR.out]
 refine (answer (gZ b s 0 false w0 HS.out (Nat.zero_le _) HST.out.cur) (congrArg (Value.int .i64) HL.out)).mono ?_
 rintro e W1 ⟨rfl,n1,rfl⟩
 have iU:=Lh (HST.out.drewN n1)
 by_cases hm0:(m:Int)=0
 ·go_wp2_with fail
  rw [tN s 4 (qB _ _ s (by have:=HM.out;omega)) (by decide)]
  exact dH _ _ (by decide) 36 (prv false) _ rfl Tryz.underlying36 fJ r q 4 _ _ _ (by kernel_rfl) (by kernel_rfl) iU.out.ret iU.out.err iU.out.ne ⟨rfl,iU.out.oI _⟩
 have H0:=Lh (show s.size≠0 by have:=HM.out;omega)
 have h1:=pX b s _ HS.out H0.out iU.out.cur
 rw [←HC.out] at h1
 have H1:=Lh h1
 clear h1
 go_wp2_with fail
 refine H1.out.mono ?_
 rintro e W2 ⟨rfl,m2⟩
 have iT:=Lh (iU.out.moved m2)
 clear m2
 by_cases hq7:¬(c:Int) / 16%256=5
 ·go_wp2_with fail
  rw [tN s 7 (o8 _ _ s H0.out (by rw [←HC.out];have:=HC2.out;omega)) (by decide)]
  exact dH _ _ (by decide) 36 (prv false) _ rfl Tryz.underlying36 fJ r q 7 _ _ _ (by kernel_rfl) (by kernel_rfl) iT.out.ret iT.out.err iT.out.ne ⟨rfl,iT.out.oI _⟩
 have HK:=Lh (show byteAt s 0 / 16=5 by rw [←HC.out];have:=HC2.out;omega)
 have hq8:(c:Int) / 16%256=5:=Classical.not_not.1 hq7
 clear hq7
 go_wp2_with fail
 refine (closP_any c b s _ HC2.out H0.out iT.out.cur).mono ?_
 rintro e W3 ⟨rfl,m3⟩
 have yA:=Lh (iT.out.moved m3)
 clear m3
 have HF:=Lh (fin_one s H0.out)
 obtain ⟨X,hX⟩:=eqx W3.heap.size
 obtain ⟨W4,hW4⟩:=eqx (W3.alloc (.cells (prv (c%2==1)) 36))
 have uS:=Lh (show St b s r q 36 (prv false) w W4 1 false by rw [hW4];exact yA.out.alloc _)
 have HX4:=Lh (show Blk W4 X 36 (prv (c%2==1)) by rw [hW4,hX];exact Blk.new _ _ _)
 have HXX:=Lh hX
 have HW4:=Lh hW4
 clear hX hW4
 go_wp2_with fail
 rw [←HW4.out,←HXX.out]
 refine (answer (pM b s 1 false W4 HS.out HF.out.1 uS.out.cur) (congrArg (Value.int .i64) (HF.out.2.trans HZZ.out.symm))).mono ?_
 rintro e W5 ⟨rfl,n5,rfl⟩
 have iZ:=Lh (uS.out.drewN n5)
 by_cases hz1:¬z=0
 ·go_wp2_with fail
  rw [tN s z ((jF _ _ s H0.out HK.out).trans HZZ.out.symm) hz1]
  exact dH _ _ (by decide) 36 (prv false) _ rfl Tryz.underlying36 fJ r q z _ _ _ (by kernel_rfl) (by kernel_rfl) iZ.out.ret iZ.out.err iZ.out.ne ⟨rfl,iZ.out.oI _⟩
 have hz0:z=0:=Classical.not_not.1 hz1
 clear hz1
 have HX5:=Lh (HX4.out.drewN n5)
 have st6:=iZ.out.zS (prv (c%2==1))
 have lI:=Lh st6
 have c0:=st6.err.cell 0
 have f0:=st6.err.frozen 0
 simp only [List.getElem?_toArray,List.getElem?_cons_zero] at c0
 clear st6
 go_wp2_with (first | (refine wpList_load_row rfl 36 _ rfl X rfl 36 (prv (c%2==1)) (0,0) _ ?_ Tryz.underlying36 rfl fJ ?_;exact HX5.out) | (refine wpList_store_row rfl 36 _ _ rfl r (prv (c%2==1)) rfl rfl 36 (prv false) ?_ fJ rfl (xK _) ?_;exact iZ.out.ret))
 refine qE _ _ (by decide) 36 (prv (c%2==1)) _ rfl Tryz.underlying36 fJ r q 0 _ _ _ (by kernel_rfl) (by kernel_rfl) (lI.out.ret.same (Below.heap_setCell _ ⟨q,0,none⟩ _ r lI.out.ne)) (lI.out.err.fV 0 (.int .i64 0)) ⟨?_,lI.out.oI _⟩
 have hz:fit 1 s.size=0:=HZZ.out.symm.trans hz0
 rw [decPV_ok s ((jF _ _ s H0.out HK.out).trans hz)]
 rw [HC.out]
theorem DecodePrio_any (s:ByteArray) (hs:s.size≤9223372036854775807) (w:World):
  Calls Tryz.prog 76 #[.string s] w (Rt w (uT s)):=by
 obtain ⟨P,hP⟩:=eqx (qX s)
 obtain ⟨z,hz⟩:=eqx (wrong 5 1 s)
 have HV:=Lh (show uT s= .tuple #[.agg (prv P),.int .i64 z] by rw [hP,hz];rfl)
 obtain ⟨r,hr⟩:=eqx w.heap.size
 obtain ⟨w0,hw0⟩:=eqx (w.alloc (.cells (prv false) 36))
 have HZ0:=Lh (show Blk w0 r 36 (prv false) by rw [hw0,hr];exact Blk.new _ _ _)
 have HB0:=Lh (qA hw0)
 have HS:=Lh hs
 have HR:=Lh hr
 have HW:=Lh hw0
 have hmf:∀(fn:Fn) (first cap:Array Value) (w:World),(Instr.makeFunc fn first cap).run Tryz.prog w= .ok (.func fn first cap) w:=fun _ _ _ _=>rfl
 clear hs hP hz hr hw0
 go_enter Tryz.func76,Tryz.ntmps76
 go_wp2_with fail
 rw [←HW.out,←HR.out]
 refine (gK s w0).mono ?_
 rintro e w1 ⟨b,rfl,hb,b1,hc⟩
 have HC1:=Lh hc
 have HBL:=Lh (show w.heap.size≤b from Nat.le_trans HB0.out.size hb)
 have HRB:=Lh (show r≠b from Nat.ne_of_lt (Nat.lt_of_lt_of_le HZ0.out.lt hb))
 have HZ1:=Lh (HZ0.out.below b1 HZ0.out.lt)
 have HB1:=Lh (HB0.out.trans (b1.mono HB0.out.size))
 clear hc hb b1
 go_wp2_with fail
 refine (decP_any b s w1 HS.out HC1.out).mono ?_
 rintro e W ⟨rfl,hgr⟩
 rw [HV.out]
 have HZ3:=Lh (HZ1.out.grown hgr (by intro e;injection e with e;exact HRB.out e))
 have HB3:=Lh (HB1.out.trans (aA hgr HBL.out HB1.out.size))
 clear hgr
 go_wp2_with (refine wpList_store_row rfl 36 _ _ rfl r (prv P) rfl rfl 36 (prv false) ?_ fJ rfl (xK _) ?_;exact HZ3.out)
 exact bodyPost_ret (aC (p:=2) (t:=3) rfl _ _ r 36 (prv P) (0,0) _ (by kernel_rfl) (setRow_heap _ _ _ _ _ _ HZ3.out) Tryz.underlying36 rfl fJ) rfl ⟨by rw [HV.out];rfl,below_setRow HB3.out (by rw [HR.out];exact Nat.le_refl _) _⟩
def uZ (s:ByteArray):Value:=.tuple #[.agg (nuv (jM 6 s)),.int .i64 (wrong 6 10 s)]
theorem vF (s:ByteArray) (z:Int) (hz:wrong 6 10 s=z) (h0:z≠0):uZ s= .tuple #[.agg #[.int .u64 0],.int .i64 z]:=by
 have h:¬wrong 6 10 s=0:=by rw [hz];exact h0
 unfold uZ
 rw [hz]
 unfold jM
 rw [if_neg h]
 try rfl
theorem decFV_ok (s:ByteArray) (h:wrong 6 10 s=0):uZ s= .tuple #[.agg (nuv (num s 2 8)),.int .i64 0]:=by
 unfold uZ
 rw [h]
 unfold jM
 rw [if_pos h]
 try rfl
theorem decF_any (b g:Nat) (s:ByteArray) (w:World) (hs:s.size≤9223372036854775807) (h:Cur w b s 0 false) (hg:Blk w g 177 #[.pointer (some ⟨b,0,none⟩)]):
  Calls Tryz.prog 143 #[.pointer (some ⟨b,0,none⟩),.int .u8 6,(.func (.func 144) #[] #[.pointer (some ⟨g,0,none⟩)])] w fun e w'=>e= .returned (uZ s)∧w.grownBy w' (some b):=by
 obtain ⟨r,hr⟩:=eqx w.heap.size
 obtain ⟨q,hq⟩:=eqx (w.heap.size+1)
 obtain ⟨w0,hw0⟩:=eqx ((w.alloc (.cells #[.int .u64 0] 38)).alloc (.cells #[.int .i64 0] 54))
 have st:St b s r q 38 #[.int .u64 0] w w0 0 false:=by rw [hw0,hr,hq];exact St.start w b s 0 false h 38 #[.int .u64 0]
 obtain ⟨m,hm⟩:=eqx s.size
 have HL:=Lh (show iE s 0 false=(m:Int) by unfold iE;rw [if_neg (by decide),hm];omega)
 obtain ⟨c,hc⟩:=eqx (byteAt s 0)
 have HC2:=Lh (show c < 256 by rw [hc];exact bJ s 0)
 obtain ⟨z,hzz⟩:=eqx (fit 10 s.size)
 have HG0:=Lh (show Blk w0 g 177 #[.pointer (some ⟨b,0,none⟩)] by rw [hw0];exact (hg.alloc _).alloc _)
 have HGB:=Lh (show g≠b from hg.ne_ h (by decide))
 have HS:=Lh hs
 have HST:=Lh st
 have HR:=Lh hr
 have HQ:=Lh hq
 have HW:=Lh hw0
 have HM:=Lh hm
 have HC:=Lh hc
 have HZZ:=Lh hzz
 have hmf:∀(fn:Fn) (first cap:Array Value) (w:World),(Instr.makeFunc fn first cap).run Tryz.prog w= .ok (.func fn first cap) w:=fun _ _ _ _=>rfl
 clear h hr hq hw0 st hs hm hc hzz hg
 go_enter_defers Tryz.func143,Tryz.ntmps143
 go_wp2_with fail
 rw [←HW.out,←HQ.out,←HR.out]
 refine (answer (gZ b s 0 false w0 HS.out (Nat.zero_le _) HST.out.cur) (congrArg (Value.int .i64) HL.out)).mono ?_
 rintro e W1 ⟨rfl,n1,rfl⟩
 have iU:=Lh (HST.out.drewN n1)
 by_cases hm0:(m:Int)=0
 ·go_wp2_with fail
  rw [vF s 4 (qB _ _ s (by have:=HM.out;omega)) (by decide)]
  exact dH _ _ (by decide) 38 #[.int .u64 0] _ rfl Tryz.underlying38 fG r q 4 _ _ _ (by kernel_rfl) (by kernel_rfl) iU.out.ret iU.out.err iU.out.ne ⟨rfl,iU.out.oI _⟩
 have H0:=Lh (show s.size≠0 by have:=HM.out;omega)
 have h1:=pX b s _ HS.out H0.out iU.out.cur
 rw [←HC.out] at h1
 have H1:=Lh h1
 clear h1
 go_wp2_with fail
 refine H1.out.mono ?_
 rintro e W2 ⟨rfl,m2⟩
 have iT:=Lh (iU.out.moved m2)
 have HG2:=Lh (show Blk W2 g 177 #[.pointer (some ⟨b,0,none⟩)] from (Blk.drewN HG0.out n1).grown m2.1 (by intro e;injection e with e;exact HGB.out e))
 clear m2
 by_cases hq7:¬(c:Int) / 16%256=6
 ·go_wp2_with fail
  rw [vF s 7 (o8 _ _ s H0.out (by rw [←HC.out];have:=HC2.out;omega)) (by decide)]
  exact dH _ _ (by decide) 38 #[.int .u64 0] _ rfl Tryz.underlying38 fG r q 7 _ _ _ (by kernel_rfl) (by kernel_rfl) iT.out.ret iT.out.err iT.out.ne ⟨rfl,iT.out.oI _⟩
 have HK:=Lh (show byteAt s 0 / 16=6 by rw [←HC.out];have:=HC2.out;omega)
 have hq8:(c:Int) / 16%256=6:=Classical.not_not.1 hq7
 clear hq7
 go_wp2_with fail
 refine (closF_any c g b s _ HS.out H0.out iT.out.cur HG2.out).mono ?_
 rintro e W3 ⟨n,k,br,rfl,m3,hf,hn⟩
 have yA:=Lh (iT.out.moved m3)
 clear m3
 have HF:=Lh hf
 have HN:=Lh hn
 clear hf hn
 obtain ⟨X,hX⟩:=eqx W3.heap.size
 obtain ⟨W4,hW4⟩:=eqx (W3.alloc (.cells (nuv n) 38))
 have uS:=Lh (show St b s r q 38 #[.int .u64 0] w W4 k br by rw [hW4];exact yA.out.alloc _)
 have HX4:=Lh (show Blk W4 X 38 (nuv n) by rw [hW4,hX];exact Blk.new _ _ _)
 have HXX:=Lh hX
 have HW4:=Lh hW4
 clear hX hW4
 go_wp2_with fail
 rw [←HW4.out,←HXX.out]
 refine (answer (pM b s k br W4 HS.out HF.out.1 uS.out.cur) (congrArg (Value.int .i64) (HF.out.2.trans HZZ.out.symm))).mono ?_
 rintro e W5 ⟨rfl,n5,rfl⟩
 have iZ:=Lh (uS.out.drewN n5)
 by_cases hz1:¬z=0
 ·go_wp2_with fail
  rw [vF s z ((jF _ _ s H0.out HK.out).trans HZZ.out.symm) hz1]
  exact dH _ _ (by decide) 38 #[.int .u64 0] _ rfl Tryz.underlying38 fG r q z _ _ _ (by kernel_rfl) (by kernel_rfl) iZ.out.ret iZ.out.err iZ.out.ne ⟨rfl,iZ.out.oI _⟩
 have hz0:z=0:=Classical.not_not.1 hz1
 clear hz1
 have HX5:=Lh (HX4.out.drewN n5)
 have st6:=iZ.out.zS (nuv n)
 have lI:=Lh st6
 have c0:=st6.err.cell 0
 have f0:=st6.err.frozen 0
 simp only [List.getElem?_toArray,List.getElem?_cons_zero] at c0
 clear st6
 go_wp2_with (first | (refine wpList_load_row rfl 38 _ rfl X rfl 38 (nuv n) (0,0) _ ?_ Tryz.underlying38 rfl fG ?_;exact HX5.out) | (refine wpList_store_row rfl 38 _ _ rfl r (nuv n) rfl rfl 38 #[.int .u64 0] ?_ fG rfl (qP _) ?_;exact iZ.out.ret))
 refine qE _ _ (by decide) 38 (nuv n) _ rfl Tryz.underlying38 fG r q 0 _ _ _ (by kernel_rfl) (by kernel_rfl) (lI.out.ret.same (Below.heap_setCell _ ⟨q,0,none⟩ _ r lI.out.ne)) (lI.out.err.fV 0 (.int .i64 0)) ⟨?_,lI.out.oI _⟩
 have hz:fit 10 s.size=0:=HZZ.out.symm.trans hz0
 rw [decFV_ok s ((jF _ _ s H0.out HK.out).trans hz)]
 rw [HN.out hz]
theorem DecodeFail_any (s:ByteArray) (hs:s.size≤9223372036854775807) (w:World):
  Calls Tryz.prog 80 #[.string s] w (Rt w (uZ s)):=by
 obtain ⟨N,hN⟩:=eqx (jM 6 s)
 obtain ⟨z,hz⟩:=eqx (wrong 6 10 s)
 have HV:=Lh (show uZ s= .tuple #[.agg (nuv N),.int .i64 z] by rw [hN,hz];rfl)
 obtain ⟨r,hr⟩:=eqx w.heap.size
 obtain ⟨w0,hw0⟩:=eqx (w.alloc (.cells #[.int .u64 0] 38))
 have HZ0:=Lh (show Blk w0 r 38 #[.int .u64 0] by rw [hw0,hr];exact Blk.new _ _ _)
 have HB0:=Lh (qA hw0)
 have HS:=Lh hs
 have HR:=Lh hr
 have HW:=Lh hw0
 have hmf:∀(fn:Fn) (first cap:Array Value) (w:World),(Instr.makeFunc fn first cap).run Tryz.prog w= .ok (.func fn first cap) w:=fun _ _ _ _=>rfl
 clear hs hN hz hr hw0
 go_enter Tryz.func80,Tryz.ntmps80
 go_wp2_with fail
 rw [←HW.out,←HR.out]
 refine (gK s w0).mono ?_
 rintro e w1 ⟨b,rfl,hb,b1,hc⟩
 have HC1:=Lh hc
 have HBL:=Lh (show w.heap.size≤b from Nat.le_trans HB0.out.size hb)
 have HRB:=Lh (show r≠b from Nat.ne_of_lt (Nat.lt_of_lt_of_le HZ0.out.lt hb))
 have HZ1:=Lh (HZ0.out.below b1 HZ0.out.lt)
 have HB1:=Lh (HB0.out.trans (b1.mono HB0.out.size))
 clear hc hb b1
 obtain ⟨g,hg⟩:=eqx w1.heap.size
 obtain ⟨w2,hw2⟩:=eqx (w1.alloc (.cells #[.pointer (some ⟨b,0,none⟩)] 177))
 have HC2:=Lh (show Cur w2 b s 0 false by rw [hw2];exact Blk.alloc HC1.out _)
 have hg2:Blk w2 g 177 #[.pointer (some ⟨b,0,none⟩)]:=by rw [hw2,hg];exact Blk.new _ _ _
 have HG2:=Lh hg2
 have HZ2:=Lh (show Blk w2 r 38 #[.int .u64 0] by rw [hw2];exact HZ1.out.alloc _)
 have HB2:=Lh (show Below w.heap.size w w2 by rw [hw2];exact HB1.out.alloc HB1.out.size _)
 have HG:=Lh hg
 have HW2:=Lh hw2
 have c0:=hg2.cell 0
 simp only [List.getElem?_toArray,List.getElem?_cons_zero] at c0
 rw [hw2,hg] at c0
 clear hg hw2 hg2
 go_wp2_with fail
 rw [←HW2.out,←HG.out]
 refine (decF_any b g s w2 HS.out HC2.out HG2.out).mono ?_
 rintro e W ⟨rfl,hgr⟩
 rw [HV.out]
 have HZ3:=Lh (HZ2.out.grown hgr (by intro e;injection e with e;exact HRB.out e))
 have HB3:=Lh (HB2.out.trans (aA hgr HBL.out HB2.out.size))
 clear hgr c0
 go_wp2_with (refine wpList_store_row rfl 38 _ _ rfl r (nuv N) rfl rfl 38 #[.int .u64 0] ?_ fG rfl (qP _) ?_;exact HZ3.out)
 exact bodyPost_ret (aC (p:=2) (t:=3) rfl _ _ r 38 (nuv N) (0,0) _ (by kernel_rfl) (setRow_heap _ _ _ _ _ _ HZ3.out) Tryz.underlying38 rfl fG) rfl ⟨by rw [HV.out];rfl,below_setRow HB3.out (by rw [HR.out];exact Nat.le_refl _) _⟩
def uP (s:ByteArray):Value:=.tuple #[.agg (nuv (jM 7 s)),.int .i64 (wrong 7 10 s)]
theorem uI (s:ByteArray) (z:Int) (hz:wrong 7 10 s=z) (h0:z≠0):uP s= .tuple #[.agg #[.int .u64 0],.int .i64 z]:=by
 have h:¬wrong 7 10 s=0:=by rw [hz];exact h0
 unfold uP
 rw [hz]
 unfold jM
 rw [if_neg h]
 try rfl
theorem decSV_ok (s:ByteArray) (h:wrong 7 10 s=0):uP s= .tuple #[.agg (nuv (num s 2 8)),.int .i64 0]:=by
 unfold uP
 rw [h]
 unfold jM
 rw [if_pos h]
 try rfl
theorem decS_any (b g:Nat) (s:ByteArray) (w:World) (hs:s.size≤9223372036854775807) (h:Cur w b s 0 false) (hg:Blk w g 177 #[.pointer (some ⟨b,0,none⟩)]):
  Calls Tryz.prog 146 #[.pointer (some ⟨b,0,none⟩),.int .u8 7,(.func (.func 147) #[] #[.pointer (some ⟨g,0,none⟩)])] w fun e w'=>e= .returned (uP s)∧w.grownBy w' (some b):=by
 obtain ⟨r,hr⟩:=eqx w.heap.size
 obtain ⟨q,hq⟩:=eqx (w.heap.size+1)
 obtain ⟨w0,hw0⟩:=eqx ((w.alloc (.cells #[.int .u64 0] 40)).alloc (.cells #[.int .i64 0] 54))
 have st:St b s r q 40 #[.int .u64 0] w w0 0 false:=by rw [hw0,hr,hq];exact St.start w b s 0 false h 40 #[.int .u64 0]
 obtain ⟨m,hm⟩:=eqx s.size
 have HL:=Lh (show iE s 0 false=(m:Int) by unfold iE;rw [if_neg (by decide),hm];omega)
 obtain ⟨c,hc⟩:=eqx (byteAt s 0)
 have HC2:=Lh (show c < 256 by rw [hc];exact bJ s 0)
 obtain ⟨z,hzz⟩:=eqx (fit 10 s.size)
 have HG0:=Lh (show Blk w0 g 177 #[.pointer (some ⟨b,0,none⟩)] by rw [hw0];exact (hg.alloc _).alloc _)
 have HGB:=Lh (show g≠b from hg.ne_ h (by decide))
 have HS:=Lh hs
 have HST:=Lh st
 have HR:=Lh hr
 have HQ:=Lh hq
 have HW:=Lh hw0
 have HM:=Lh hm
 have HC:=Lh hc
 have HZZ:=Lh hzz
 have hmf:∀(fn:Fn) (first cap:Array Value) (w:World),(Instr.makeFunc fn first cap).run Tryz.prog w= .ok (.func fn first cap) w:=fun _ _ _ _=>rfl
 clear h hr hq hw0 st hs hm hc hzz hg
 go_enter_defers Tryz.func146,Tryz.ntmps146
 go_wp2_with fail
 rw [←HW.out,←HQ.out,←HR.out]
 refine (answer (gZ b s 0 false w0 HS.out (Nat.zero_le _) HST.out.cur) (congrArg (Value.int .i64) HL.out)).mono ?_
 rintro e W1 ⟨rfl,n1,rfl⟩
 have iU:=Lh (HST.out.drewN n1)
 by_cases hm0:(m:Int)=0
 ·go_wp2_with fail
  rw [uI s 4 (qB _ _ s (by have:=HM.out;omega)) (by decide)]
  exact dH _ _ (by decide) 40 #[.int .u64 0] _ rfl Tryz.underlying40 fF r q 4 _ _ _ (by kernel_rfl) (by kernel_rfl) iU.out.ret iU.out.err iU.out.ne ⟨rfl,iU.out.oI _⟩
 have H0:=Lh (show s.size≠0 by have:=HM.out;omega)
 have h1:=pX b s _ HS.out H0.out iU.out.cur
 rw [←HC.out] at h1
 have H1:=Lh h1
 clear h1
 go_wp2_with fail
 refine H1.out.mono ?_
 rintro e W2 ⟨rfl,m2⟩
 have iT:=Lh (iU.out.moved m2)
 have HG2:=Lh (show Blk W2 g 177 #[.pointer (some ⟨b,0,none⟩)] from (Blk.drewN HG0.out n1).grown m2.1 (by intro e;injection e with e;exact HGB.out e))
 clear m2
 by_cases hq7:¬(c:Int) / 16%256=7
 ·go_wp2_with fail
  rw [uI s 7 (o8 _ _ s H0.out (by rw [←HC.out];have:=HC2.out;omega)) (by decide)]
  exact dH _ _ (by decide) 40 #[.int .u64 0] _ rfl Tryz.underlying40 fF r q 7 _ _ _ (by kernel_rfl) (by kernel_rfl) iT.out.ret iT.out.err iT.out.ne ⟨rfl,iT.out.oI _⟩
 have HK:=Lh (show byteAt s 0 / 16=7 by rw [←HC.out];have:=HC2.out;omega)
 have hq8:(c:Int) / 16%256=7:=Classical.not_not.1 hq7
 clear hq7
 go_wp2_with fail
 refine (closS_any c g b s _ HS.out H0.out iT.out.cur HG2.out).mono ?_
 rintro e W3 ⟨n,k,br,rfl,m3,hf,hn⟩
 have yA:=Lh (iT.out.moved m3)
 clear m3
 have HF:=Lh hf
 have HN:=Lh hn
 clear hf hn
 obtain ⟨X,hX⟩:=eqx W3.heap.size
 obtain ⟨W4,hW4⟩:=eqx (W3.alloc (.cells (nuv n) 40))
 have uS:=Lh (show St b s r q 40 #[.int .u64 0] w W4 k br by rw [hW4];exact yA.out.alloc _)
 have HX4:=Lh (show Blk W4 X 40 (nuv n) by rw [hW4,hX];exact Blk.new _ _ _)
 have HXX:=Lh hX
 have HW4:=Lh hW4
 clear hX hW4
 go_wp2_with fail
 rw [←HW4.out,←HXX.out]
 refine (answer (pM b s k br W4 HS.out HF.out.1 uS.out.cur) (congrArg (Value.int .i64) (HF.out.2.trans HZZ.out.symm))).mono ?_
 rintro e W5 ⟨rfl,n5,rfl⟩
 have iZ:=Lh (uS.out.drewN n5)
 by_cases hz1:¬z=0
 ·go_wp2_with fail
  rw [uI s z ((jF _ _ s H0.out HK.out).trans HZZ.out.symm) hz1]
  exact dH _ _ (by decide) 40 #[.int .u64 0] _ rfl Tryz.underlying40 fF r q z _ _ _ (by kernel_rfl) (by kernel_rfl) iZ.out.ret iZ.out.err iZ.out.ne ⟨rfl,iZ.out.oI _⟩
 have hz0:z=0:=Classical.not_not.1 hz1
 clear hz1
 have HX5:=Lh (HX4.out.drewN n5)
 have st6:=iZ.out.zS (nuv n)
 have lI:=Lh st6
 have c0:=st6.err.cell 0
 have f0:=st6.err.frozen 0
 simp only [List.getElem?_toArray,List.getElem?_cons_zero] at c0
 clear st6
 go_wp2_with (first | (refine wpList_load_row rfl 40 _ rfl X rfl 40 (nuv n) (0,0) _ ?_ Tryz.underlying40 rfl fF ?_;exact HX5.out) | (refine wpList_store_row rfl 40 _ _ rfl r (nuv n) rfl rfl 40 #[.int .u64 0] ?_ fF rfl (qP _) ?_;exact iZ.out.ret))
 refine qE _ _ (by decide) 40 (nuv n) _ rfl Tryz.underlying40 fF r q 0 _ _ _ (by kernel_rfl) (by kernel_rfl) (lI.out.ret.same (Below.heap_setCell _ ⟨q,0,none⟩ _ r lI.out.ne)) (lI.out.err.fV 0 (.int .i64 0)) ⟨?_,lI.out.oI _⟩
 have hz:fit 10 s.size=0:=HZZ.out.symm.trans hz0
 rw [decSV_ok s ((jF _ _ s H0.out HK.out).trans hz)]
 rw [HN.out hz]
theorem DecodeFast_any (s:ByteArray) (hs:s.size≤9223372036854775807) (w:World):
  Calls Tryz.prog 84 #[.string s] w (Rt w (uP s)):=by
 obtain ⟨N,hN⟩:=eqx (jM 7 s)
 obtain ⟨z,hz⟩:=eqx (wrong 7 10 s)
 have HV:=Lh (show uP s= .tuple #[.agg (nuv N),.int .i64 z] by rw [hN,hz];rfl)
 obtain ⟨r,hr⟩:=eqx w.heap.size
 obtain ⟨w0,hw0⟩:=eqx (w.alloc (.cells #[.int .u64 0] 40))
 have HZ0:=Lh (show Blk w0 r 40 #[.int .u64 0] by rw [hw0,hr];exact Blk.new _ _ _)
 have HB0:=Lh (qA hw0)
 have HS:=Lh hs
 have HR:=Lh hr
 have HW:=Lh hw0
 have hmf:∀(fn:Fn) (first cap:Array Value) (w:World),(Instr.makeFunc fn first cap).run Tryz.prog w= .ok (.func fn first cap) w:=fun _ _ _ _=>rfl
 clear hs hN hz hr hw0
 go_enter Tryz.func84,Tryz.ntmps84
 go_wp2_with fail
 rw [←HW.out,←HR.out]
 refine (gK s w0).mono ?_
 rintro e w1 ⟨b,rfl,hb,b1,hc⟩
 have HC1:=Lh hc
 have HBL:=Lh (show w.heap.size≤b from Nat.le_trans HB0.out.size hb)
 have HRB:=Lh (show r≠b from Nat.ne_of_lt (Nat.lt_of_lt_of_le HZ0.out.lt hb))
 have HZ1:=Lh (HZ0.out.below b1 HZ0.out.lt)
 have HB1:=Lh (HB0.out.trans (b1.mono HB0.out.size))
 clear hc hb b1
 obtain ⟨g,hg⟩:=eqx w1.heap.size
 obtain ⟨w2,hw2⟩:=eqx (w1.alloc (.cells #[.pointer (some ⟨b,0,none⟩)] 177))
 have HC2:=Lh (show Cur w2 b s 0 false by rw [hw2];exact Blk.alloc HC1.out _)
 have hg2:Blk w2 g 177 #[.pointer (some ⟨b,0,none⟩)]:=by rw [hw2,hg];exact Blk.new _ _ _
 have HG2:=Lh hg2
 have HZ2:=Lh (show Blk w2 r 40 #[.int .u64 0] by rw [hw2];exact HZ1.out.alloc _)
 have HB2:=Lh (show Below w.heap.size w w2 by rw [hw2];exact HB1.out.alloc HB1.out.size _)
 have HG:=Lh hg
 have HW2:=Lh hw2
 have c0:=hg2.cell 0
 simp only [List.getElem?_toArray,List.getElem?_cons_zero] at c0
 rw [hw2,hg] at c0
 clear hg hw2 hg2
 go_wp2_with fail
 rw [←HW2.out,←HG.out]
 refine (decS_any b g s w2 HS.out HC2.out HG2.out).mono ?_
 rintro e W ⟨rfl,hgr⟩
 rw [HV.out]
 have HZ3:=Lh (HZ2.out.grown hgr (by intro e;injection e with e;exact HRB.out e))
 have HB3:=Lh (HB2.out.trans (aA hgr HBL.out HB2.out.size))
 clear hgr c0
 go_wp2_with (refine wpList_store_row rfl 40 _ _ rfl r (nuv N) rfl rfl 40 #[.int .u64 0] ?_ fF rfl (qP _) ?_;exact HZ3.out)
 exact bodyPost_ret (aC (p:=2) (t:=3) rfl _ _ r 40 (nuv N) (0,0) _ (by kernel_rfl) (setRow_heap _ _ _ _ _ _ HZ3.out) Tryz.underlying40 rfl fF) rfl ⟨by rw [HV.out];rfl,below_setRow HB3.out (by rw [HR.out];exact Nat.le_refl _) _⟩
def kD (s:ByteArray):Value:=.tuple #[.agg (rsv (rJ s:Int) (eU s:Int)),.int .i64 (wrong 8 2 s)]
theorem vC (s:ByteArray) (z:Int) (hz:wrong 8 2 s=z) (h0:z≠0):kD s= .tuple #[.agg (rsv 0 0),.int .i64 z]:=by
 have h:¬wrong 8 2 s=0:=by rw [hz];exact h0
 unfold kD
 rw [hz]
 unfold rJ eU
 rw [if_neg h,if_neg h]
 try rfl
theorem decRV_ok (s:ByteArray) (h:wrong 8 2 s=0):kD s= .tuple #[.agg (rsv ((byteAt s 0%16:Nat):Int) (byteAt s 1:Int)),.int .i64 0]:=by
 unfold kD
 rw [h]
 unfold rJ eU
 rw [if_pos h,if_pos h]
 try rfl
theorem decR_any (b g:Nat) (s:ByteArray) (w:World) (hs:s.size≤9223372036854775807) (h:Cur w b s 0 false) (hg:Blk w g 177 #[.pointer (some ⟨b,0,none⟩)]):
  Calls Tryz.prog 149 #[.pointer (some ⟨b,0,none⟩),.int .u8 8,(.func (.func 150) #[] #[.pointer (some ⟨g,0,none⟩)])] w fun e w'=>e= .returned (kD s)∧w.grownBy w' (some b):=by
 obtain ⟨r,hr⟩:=eqx w.heap.size
 obtain ⟨q,hq⟩:=eqx (w.heap.size+1)
 obtain ⟨w0,hw0⟩:=eqx ((w.alloc (.cells (rsv 0 0) 42)).alloc (.cells #[.int .i64 0] 54))
 have st:St b s r q 42 (rsv 0 0) w w0 0 false:=by rw [hw0,hr,hq];exact St.start w b s 0 false h 42 (rsv 0 0)
 obtain ⟨m,hm⟩:=eqx s.size
 have HL:=Lh (show iE s 0 false=(m:Int) by unfold iE;rw [if_neg (by decide),hm];omega)
 obtain ⟨c,hc⟩:=eqx (byteAt s 0)
 have HC2:=Lh (show c < 256 by rw [hc];exact bJ s 0)
 obtain ⟨z,hzz⟩:=eqx (fit 2 s.size)
 have HG0:=Lh (show Blk w0 g 177 #[.pointer (some ⟨b,0,none⟩)] by rw [hw0];exact (hg.alloc _).alloc _)
 have HGB:=Lh (show g≠b from hg.ne_ h (by decide))
 have HS:=Lh hs
 have HST:=Lh st
 have HR:=Lh hr
 have HQ:=Lh hq
 have HW:=Lh hw0
 have HM:=Lh hm
 have HC:=Lh hc
 have HZZ:=Lh hzz
 have hmf:∀(fn:Fn) (first cap:Array Value) (w:World),(Instr.makeFunc fn first cap).run Tryz.prog w= .ok (.func fn first cap) w:=fun _ _ _ _=>rfl
 clear h hr hq hw0 st hs hm hc hzz hg
 go_enter_defers Tryz.func149,Tryz.ntmps149
 go_wp2_with fail
 rw [←HW.out,←HQ.out,←HR.out]
 refine (answer (gZ b s 0 false w0 HS.out (Nat.zero_le _) HST.out.cur) (congrArg (Value.int .i64) HL.out)).mono ?_
 rintro e W1 ⟨rfl,n1,rfl⟩
 have iU:=Lh (HST.out.drewN n1)
 by_cases hm0:(m:Int)=0
 ·go_wp2_with fail
  rw [vC s 4 (qB _ _ s (by have:=HM.out;omega)) (by decide)]
  exact dH _ _ (by decide) 42 (rsv 0 0) _ rfl Tryz.underlying42 eF r q 4 _ _ _ (by kernel_rfl) (by kernel_rfl) iU.out.ret iU.out.err iU.out.ne ⟨rfl,iU.out.oI _⟩
 have H0:=Lh (show s.size≠0 by have:=HM.out;omega)
 have h1:=pX b s _ HS.out H0.out iU.out.cur
 rw [←HC.out] at h1
 have H1:=Lh h1
 clear h1
 go_wp2_with fail
 refine H1.out.mono ?_
 rintro e W2 ⟨rfl,m2⟩
 have iT:=Lh (iU.out.moved m2)
 have HG2:=Lh (show Blk W2 g 177 #[.pointer (some ⟨b,0,none⟩)] from (Blk.drewN HG0.out n1).grown m2.1 (by intro e;injection e with e;exact HGB.out e))
 clear m2
 by_cases hq7:¬(c:Int) / 16%256=8
 ·go_wp2_with fail
  rw [vC s 7 (o8 _ _ s H0.out (by rw [←HC.out];have:=HC2.out;omega)) (by decide)]
  exact dH _ _ (by decide) 42 (rsv 0 0) _ rfl Tryz.underlying42 eF r q 7 _ _ _ (by kernel_rfl) (by kernel_rfl) iT.out.ret iT.out.err iT.out.ne ⟨rfl,iT.out.oI _⟩
 have HK:=Lh (show byteAt s 0 / 16=8 by rw [←HC.out];have:=HC2.out;omega)
 have hq8:(c:Int) / 16%256=8:=Classical.not_not.1 hq7
 clear hq7
 go_wp2_with fail
 refine (closR_any c g b s _ HC2.out HS.out H0.out iT.out.cur HG2.out).mono ?_
 rintro e W3 ⟨f,n,k,br,rfl,m3,hf,hn⟩
 have yA:=Lh (iT.out.moved m3)
 clear m3
 have HF:=Lh hf
 have HN:=Lh hn
 clear hf hn
 obtain ⟨X,hX⟩:=eqx W3.heap.size
 obtain ⟨W4,hW4⟩:=eqx (W3.alloc (.cells (rsv (f:Int) (n:Int)) 42))
 have uS:=Lh (show St b s r q 42 (rsv 0 0) w W4 k br by rw [hW4];exact yA.out.alloc _)
 have HX4:=Lh (show Blk W4 X 42 (rsv (f:Int) (n:Int)) by rw [hW4,hX];exact Blk.new _ _ _)
 have HXX:=Lh hX
 have HW4:=Lh hW4
 clear hX hW4
 go_wp2_with fail
 rw [←HW4.out,←HXX.out]
 refine (answer (pM b s k br W4 HS.out HF.out.1 uS.out.cur) (congrArg (Value.int .i64) (HF.out.2.trans HZZ.out.symm))).mono ?_
 rintro e W5 ⟨rfl,n5,rfl⟩
 have iZ:=Lh (uS.out.drewN n5)
 by_cases hz1:¬z=0
 ·go_wp2_with fail
  rw [vC s z ((jF _ _ s H0.out HK.out).trans HZZ.out.symm) hz1]
  exact dH _ _ (by decide) 42 (rsv 0 0) _ rfl Tryz.underlying42 eF r q z _ _ _ (by kernel_rfl) (by kernel_rfl) iZ.out.ret iZ.out.err iZ.out.ne ⟨rfl,iZ.out.oI _⟩
 have hz0:z=0:=Classical.not_not.1 hz1
 clear hz1
 have HX5:=Lh (HX4.out.drewN n5)
 have st6:=iZ.out.zS (rsv (f:Int) (n:Int))
 have lI:=Lh st6
 have c0:=st6.err.cell 0
 have f0:=st6.err.frozen 0
 simp only [List.getElem?_toArray,List.getElem?_cons_zero] at c0
 clear st6
 go_wp2_with (first | (refine wpList_load_row rfl 42 _ rfl X rfl 42 (rsv (f:Int) (n:Int)) (0,0) _ ?_ Tryz.underlying42 rfl eF ?_;exact HX5.out) | (refine wpList_store_row rfl 42 _ _ rfl r (rsv (f:Int) (n:Int)) rfl rfl 42 (rsv 0 0) ?_ eF rfl (xO _ _) ?_;exact iZ.out.ret))
 refine qE _ _ (by decide) 42 (rsv (f:Int) (n:Int)) _ rfl Tryz.underlying42 eF r q 0 _ _ _ (by kernel_rfl) (by kernel_rfl) (lI.out.ret.same (Below.heap_setCell _ ⟨q,0,none⟩ _ r lI.out.ne)) (lI.out.err.fV 0 (.int .i64 0)) ⟨?_,lI.out.oI _⟩
 have hz:fit 2 s.size=0:=HZZ.out.symm.trans hz0
 rw [decRV_ok s ((jF _ _ s H0.out HK.out).trans hz)]
 rw [(HN.out hz).1,(HN.out hz).2,HC.out]
theorem DecodeRst_any (s:ByteArray) (hs:s.size≤9223372036854775807) (w:World):
  Calls Tryz.prog 88 #[.string s] w (Rt w (kD s)):=by
 obtain ⟨F,hF⟩:=eqx (rJ s)
 obtain ⟨R,hR⟩:=eqx (eU s)
 obtain ⟨z,hz⟩:=eqx (wrong 8 2 s)
 have HV:=Lh (show kD s= .tuple #[.agg (rsv (F:Int) (R:Int)),.int .i64 z] by rw [hF,hR,hz];rfl)
 obtain ⟨r,hr⟩:=eqx w.heap.size
 obtain ⟨w0,hw0⟩:=eqx (w.alloc (.cells (rsv 0 0) 42))
 have HZ0:=Lh (show Blk w0 r 42 (rsv 0 0) by rw [hw0,hr];exact Blk.new _ _ _)
 have HB0:=Lh (qA hw0)
 have HS:=Lh hs
 have HR:=Lh hr
 have HW:=Lh hw0
 have hmf:∀(fn:Fn) (first cap:Array Value) (w:World),(Instr.makeFunc fn first cap).run Tryz.prog w= .ok (.func fn first cap) w:=fun _ _ _ _=>rfl
 clear hs hF hR hz hr hw0
 go_enter Tryz.func88,Tryz.ntmps88
 go_wp2_with fail
 rw [←HW.out,←HR.out]
 refine (gK s w0).mono ?_
 rintro e w1 ⟨b,rfl,hb,b1,hc⟩
 have HC1:=Lh hc
 have HBL:=Lh (show w.heap.size≤b from Nat.le_trans HB0.out.size hb)
 have HRB:=Lh (show r≠b from Nat.ne_of_lt (Nat.lt_of_lt_of_le HZ0.out.lt hb))
 have HZ1:=Lh (HZ0.out.below b1 HZ0.out.lt)
 have HB1:=Lh (HB0.out.trans (b1.mono HB0.out.size))
 clear hc hb b1
 obtain ⟨g,hg⟩:=eqx w1.heap.size
 obtain ⟨w2,hw2⟩:=eqx (w1.alloc (.cells #[.pointer (some ⟨b,0,none⟩)] 177))
 have HC2:=Lh (show Cur w2 b s 0 false by rw [hw2];exact Blk.alloc HC1.out _)
 have hg2:Blk w2 g 177 #[.pointer (some ⟨b,0,none⟩)]:=by rw [hw2,hg];exact Blk.new _ _ _
 have HG2:=Lh hg2
 have HZ2:=Lh (show Blk w2 r 42 (rsv 0 0) by rw [hw2];exact HZ1.out.alloc _)
 have HB2:=Lh (show Below w.heap.size w w2 by rw [hw2];exact HB1.out.alloc HB1.out.size _)
 have HG:=Lh hg
 have HW2:=Lh hw2
 have c0:=hg2.cell 0
 simp only [List.getElem?_toArray,List.getElem?_cons_zero] at c0
 rw [hw2,hg] at c0
 clear hg hw2 hg2
 go_wp2_with fail
 rw [←HW2.out,←HG.out]
 refine (decR_any b g s w2 HS.out HC2.out HG2.out).mono ?_
 rintro e W ⟨rfl,hgr⟩
 rw [HV.out]
 have HZ3:=Lh (HZ2.out.grown hgr (by intro e;injection e with e;exact HRB.out e))
 have HB3:=Lh (HB2.out.trans (aA hgr HBL.out HB2.out.size))
 clear hgr c0
 go_wp2_with (refine wpList_store_row rfl 42 _ _ rfl r (rsv (F:Int) (R:Int)) rfl rfl 42 (rsv 0 0) ?_ eF rfl (xO _ _) ?_;exact HZ3.out)
 exact bodyPost_ret (aC (p:=2) (t:=3) rfl _ _ r 42 (rsv (F:Int) (R:Int)) (0,0) _ (by kernel_rfl) (setRow_heap _ _ _ _ _ _ HZ3.out) Tryz.underlying42 rfl eF) rfl ⟨by rw [HV.out];rfl,below_setRow HB3.out (by rw [HR.out];exact Nat.le_refl _) _⟩
end Go.Proofs.YtnlhhjhidkjlbaaGreatDoor.L13
