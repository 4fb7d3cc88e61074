/- PkCap. -/
import Derived.Test.YtklakghlliihkaaGreatDoorPkBase
import Derived.Laws.Tables
import Derived.Laws.Rows
import Derived.Laws.CopyOwn
import Derived.Deep.RegionHeld3
set_option maxHeartbeats 4000000
set_option maxRecDepth 100000
set_option linter.unusedVariables false
set_option linter.unusedSimpArgs false
namespace Go.Proofs.YtklakghlliihkaaGreatDoor.L9
structure Cap where
 form:Int
 ver:Int
 sums:Bool
 alone:Bool
 own:Nat
 peer:Nat
 len:Int
 sum:Nat
namespace Cap
structure Ok (x:Cap):Prop where
 form: -9223372036854775808≤x.form∧x.form≤9223372036854775807
 ver: -9223372036854775808≤x.ver∧x.ver≤9223372036854775807
 len: -9223372036854775808≤x.len∧x.len≤9223372036854775807
 own:x.own≤18446744073709551615
 peer:x.peer≤18446744073709551615
 sum:x.sum≤65535
abbrev May (x:Cap):Prop:=(0≤x.form∧x.form < 5)∧(0≤x.ver∧x.ver≤15)∧(0≤x.len∧x.len≤65535)∧(x.form < 1→x.own=0)∧(x.form < 2→x.peer=0)∧(x.form < 3→x.len=0)∧(x.form < 4→x.sum=0)
def flags (x:Cap):Nat:=1+(if x.sums then 128 else 0)+(if x.alone then 32 else 0)
def all (x:Cap):List UInt8:=be 1 x.ver.toNat++be 1 x.flags++be 8 x.own++be 8 x.peer++be 2 x.len.toNat++be 2 x.sum
def size (f:Int):Nat:=if f=0 then 2 else if f=1 then 10 else (14+2 * f).toNat
def body (x:Cap):List UInt8:=x.all.take (size x.form)
def zero:Cap:=⟨0,0,false,false,0,0,0,0⟩
def enc (x:Cap):ByteArray×Int:=if x.May then (txt x.body,0) else (txt [],2)
theorem flags_lt (x:Cap):x.flags < 256:=by unfold flags;split<;>split<;>omega
theorem dD:zero.Ok:=⟨by decide,by decide,by decide,by decide,by decide,by decide⟩
end Cap
def formOf (n:Nat):Option Nat:=if n=2 then some 0 else if n=10 then some 1 else if n=18 then some 2 else if n=20 then some 3 else if n=22 then some 4 else none
def got (f:Nat) (s:ByteArray):Cap:=⟨(f:Int),(byteAt s 0:Int),decide (128≤byteAt s 1),decide (byteAt s 1 / 32%2=1),num s 2 8,num s 10 8,(num s 18 2:Int),num s 20 2⟩
def dec (s:ByteArray):Cap×Int:=
 if s.size=0 then (.zero,4) else if 16≤byteAt s 0 then (.zero,7) else match formOf s.size with
  | none=>(.zero,5)
  | some f=>if byteAt s 1%2=0 then (.zero,2) else (got f s,0)
namespace Cap
def front (x:Cap):List UInt8:=be 1 x.ver.toNat++be 1 x.flags
theorem front_length (x:Cap):x.front.length=2:=by simp [front,aI]
theorem front_drop (x:Cap) (r:List UInt8):(x.front++r).drop 2=r:=by rw [List.drop_append_of_le_length (by rw [front_length];omega),List.drop_of_length_le (by rw [front_length];omega),List.nil_append]
theorem rQ (x:Cap) (h:x.form=0):x.body=x.front:=by
 unfold body size all;rw [if_pos h,←front]
 simp only [List.append_assoc]
 rw [List.take_append_of_le_length (by rw [front_length];omega),List.take_of_length_le (by rw [front_length];omega)]
theorem sS (x:Cap) (h:x.form=1):x.body=x.front++be 8 x.own:=by
 unfold body size all;rw [if_neg (by omega),if_pos h,←front]
 have:(x.front++be 8 x.own).length=10:=by simp [front_length,aI]
 simp only [List.append_assoc] at this ⊢
 rw [←List.append_assoc,List.take_append_of_le_length (by simp [front_length,aI]),List.take_of_length_le (by simp [front_length,aI])]
theorem body2 (x:Cap) (h:x.form=2):x.body=x.front++be 8 x.own++be 8 x.peer:=by
 unfold body size all;rw [if_neg (by omega),if_neg (by omega),h,←front]
 rw [List.append_assoc _ (be 2 _) (be 2 _),List.take_append_of_le_length (by simp [front_length,aI]),List.take_of_length_le (by simp [front_length,aI])]
theorem body3 (x:Cap) (h:x.form=3):x.body=x.front++be 8 x.own++be 8 x.peer++be 2 x.len.toNat:=by
 unfold body size all;rw [if_neg (by omega),if_neg (by omega),h,←front]
 rw [List.take_append_of_le_length (by simp [front_length,aI]),List.take_of_length_le (by simp [front_length,aI])]
theorem body4 (x:Cap) (h:x.form=4):x.body=x.front++be 8 x.own++be 8 x.peer++be 2 x.len.toNat++be 2 x.sum:=by
 unfold body size all;rw [if_neg (by omega),if_neg (by omega),h,←front]
 rw [List.take_of_length_le (by simp [front_length,aI])]
theorem body_front (x:Cap) (h:0≤x.form) (h':x.form < 5):∃r,x.body=x.front++r:=by
 have:x.form=0∨x.form=1∨x.form=2∨x.form=3∨x.form=4:=by omega
 rcases this with h | h | h | h | h
 ·exact ⟨[],by rw [x.rQ h,List.append_nil]⟩
 ·exact ⟨_,x.sS h⟩
 ·exact ⟨_,by rw [x.body2 h,List.append_assoc]⟩
 ·exact ⟨_,by rw [x.body3 h,List.append_assoc,List.append_assoc]⟩
 ·exact ⟨_,by rw [x.body4 h,List.append_assoc,List.append_assoc,List.append_assoc]⟩
theorem dG (x:Cap) (h:0≤x.form) (h':x.form < 5):x.body.length=size x.form:=by
 have:x.form=0∨x.form=1∨x.form=2∨x.form=3∨x.form=4:=by omega
 rcases this with h | h | h | h | h
 ·rw [x.rQ h,h,front_length];rfl
 ·rw [x.sS h,h];simp [front_length,aI,size]
 ·rw [x.body2 h,h];simp [front_length,aI,size]
 ·rw [x.body3 h,h];simp [front_length,aI,size]
 ·rw [x.body4 h,h];simp [front_length,aI,size]
theorem body_parts (x:Cap) (h:0≤x.form) (h':x.form < 5):x.body=be 1 x.ver.toNat++be 1 x.flags++x.body.drop 2:=by
 obtain ⟨r,hr⟩:=x.body_front h h'
 rw [hr,front_drop,front]
end Cap
open Go.ChangeShapes Go.WideShapes Go.ChangeAt Go.RowKit
abbrev fA (x:Cap):Array Value:=#[.int .i64 x.form,.int .i64 x.ver,.bool x.sums,.bool x.alone,.int .u64 (x.own:Int),.int .u64 (x.peer:Int),.int .i64 x.len,.int .u16 (x.sum:Int)]
theorem fZ:(Tryz.prog.info? 26).map (·.size)=some 8:=by kernel_rfl
theorem cap_one (x:Cap):(fA x).all (·.oneCell')=true:=by simp [Value.oneCell']
theorem fits_any (n k:Nat) (hn:n≤18446744073709551615) (hk:k≤64) (w:World):
  Calls Tryz.prog 180 #[.int .u64 (n:Int),.int .i64 (k:Int)] w fun e w'=>e= .returned (.bool (decide (n / 2 ^ k=0)))∧w=w':=by
 go_enter Tryz.func180,Tryz.ntmps180
 go_wp2
 go_ret
 refine ⟨bV ?_,rfl⟩
 have e:((n:Int) / 2 ^ k)=((n / 2 ^ k:Nat):Int):=by norm_cast
 rw [e]
 by_cases h:n / 2 ^ k=0
 ·rw [h];rfl
 ·rw [decide_eq_false h,beq_eq_false_iff_ne];omega
theorem jD (n k:Nat) (b:Bool) (hn:n≤18446744073709551615) (hk:k≤64) (hb:decide (n / 2 ^ k=0)=b) (N K:Int) (hN:N=(n:Int)) (hK:K=(k:Int)) (w:World):
  Calls Tryz.prog 180 #[.int .u64 N,.int .i64 K] w fun e w'=>e= .returned (.bool b)∧w=w':=by subst hN hK hb;exact fits_any n k hn hk w
theorem flagsOf_any (x:Cap) (w:World):
  Calls Tryz.prog 127 #[.agg (fA x)] w (Rt w (.int .u64 (x.flags:Int))):=by
 obtain ⟨form,ver,sums,alone,own,peer,len,sum⟩:=x
 cases sums<;>cases alone
 all_goals
  go_enter Tryz.func127,Tryz.ntmps127
  go_wp2
  go_ret;exact ⟨ret_int (by simp [Cap.flags];try decide),(Below.refl _ _).alloc (Nat.le_refl _) _⟩
theorem put_0 (s:ByteArray) (n:Nat) (w:World):
  Calls Tryz.prog 126 #[.string s,.int .i64 0,.int .u64 (n:Int)] w (Rt w (.string s)):=by
 go_enter Tryz.func126,Tryz.ntmps126
 go_wp2
 go_ret;exact ⟨rfl,Below.refl _ _⟩
theorem put_1 (s:ByteArray) (n:Nat) (w:World) (hs:s.size≤9223372036854775000) (hn:n≤255):
  Calls Tryz.prog 126 #[.string s,.int .i64 1,.int .u64 (n:Int)] w (Rt w (.string (s++txt (be 1 n)))):=by
 have e:(n:Int)%256=(n:Int):=by omega
 go_enter Tryz.func126,Tryz.ntmps126
 go_wp2_with fail
 try rw [e]
 refine (bG s n w hs hn).mono ?_
 rintro e w' ⟨rfl,b⟩
 go_wp2
 go_ret;exact ⟨rfl,b⟩
theorem put_2 (s:ByteArray) (n:Nat) (w:World) (hs:s.size≤9223372036854775000) (hn:n≤65535):
  Calls Tryz.prog 126 #[.string s,.int .i64 2,.int .u64 (n:Int)] w (Rt w (.string (s++txt (be 2 n)))):=by
 have e:IntKind.u16.wrap (n:Int)=(n:Int):=by rw [IntKind.wrap_u16];omega
 go_enter Tryz.func126,Tryz.ntmps126
 go_wp2_with fail
 try rw [e]
 refine (kM s n w hs hn).mono ?_
 rintro e w' ⟨rfl,b⟩
 go_wp2
 go_ret;exact ⟨rfl,b⟩
theorem put_8 (s:ByteArray) (n:Nat) (w:World) (hs:s.size≤9223372036854775000) (hn:n≤18446744073709551615):
  Calls Tryz.prog 126 #[.string s,.int .i64 8,.int .u64 (n:Int)] w (Rt w (.string (s++txt (be 8 n)))):=by
 go_enter Tryz.func126,Tryz.ntmps126
 go_wp2_with fail
 refine (kH s n w hs hn).mono ?_
 rintro e w' ⟨rfl,b⟩
 go_wp2
 go_ret;exact ⟨rfl,b⟩
theorem put_any (s:ByteArray) (m n:Nat) (w:World) (hs:s.size≤9223372036854775000) (hm:m=0∨m=1∨m=2∨m=8) (hn:n < 256 ^ m) (t:ByteArray) (ht:s++txt (be m n)=t):
  Calls Tryz.prog 126 #[.string s,.int .i64 (m:Int),.int .u64 (n:Int)] w (Rt w (.string t)):=by
 subst ht
 rcases hm with rfl | rfl | rfl | rfl
 ·have:=put_0 s n w
  rwa [show be 0 n=[] from rfl,iM]
 ·exact put_1 s n w hs (by omega)
 ·exact put_2 s n w hs (by omega)
 ·exact put_8 s n w hs (by omega)
def dL (f:Int):Nat:=if 1≤f∧f≤4 then 8 else 0
def bT (f:Int):Nat:=if 2≤f∧f≤4 then 8 else 0
def dI (f:Int):Nat:=if 3≤f∧f≤4 then 2 else 0
def dN (f:Int):Nat:=if f=4 then 2 else 0
theorem c_own (f:Int):dL f=0∨dL f=1∨dL f=2∨dL f=8:=by unfold dL;split<;>omega
theorem c_peer (f:Int):bT f=0∨bT f=1∨bT f=2∨bT f=8:=by unfold bT;split<;>omega
theorem c_len (f:Int):dI f=0∨dI f=1∨dI f=2∨dI f=8:=by unfold dI;split<;>omega
theorem c_sum (f:Int):dN f=0∨dN f=1∨dN f=2∨dN f=8:=by unfold dN;split<;>omega
abbrev kR (f:Int):Array Value:=#[.int .i64 (dL f:Int),.int .i64 (bT f:Int),.int .i64 (dI f:Int),.int .i64 (dN f:Int)]
theorem wid_size:(Tryz.prog.info? 170).map (·.size)=some 4:=by kernel_rfl
theorem eY (f:Int) (w:World) (b:Bool) (tmps:Array Value) (W:World) (hW:W=(w.alloc (.cells (kR f) 170)).alloc (.cells (kR f) 170)) (ht:tmps.getD 2 undef= .pointer (some ⟨w.heap.size,0,none⟩)):
  (results Tryz.f125 tmps).run Tryz.prog W= .ok (.agg (kR f)) W:=by
 subst hW
 exact results_cell_row rfl _ _ w.heap.size 170 (kR f) (0,0) _ ht ((Blk.new w 170 (kR f)).alloc _) Tryz.underlying170 rfl wid_size
theorem widthsOf_any (f:Int) (w:World):
  Calls Tryz.prog 125 #[.int .i64 f] w (Rt w (.agg (kR f))):=by
 have hb:Below w.heap.size w ((w.alloc (.cells (kR f) 170)).alloc (.cells (kR f) 170)):=((Below.refl _ w).alloc (Nat.le_refl _) _).alloc (by simp) _
 have HB:=Lh hb
 clear hb
 have cs:f=4∨f=3∨f=2∨f=1∨(¬f=4∧¬f=3∧¬f=2∧¬f=1):=by omega
 rcases cs with rfl | rfl | rfl | rfl | ⟨n4,n3,n2,n1⟩
 ·go_enter Tryz.func125,Tryz.ntmps125
  go_wp2_with fail
  exact bodyPost_ret (eY 4 w true _ _ rfl rfl) rfl ⟨rfl,HB.out⟩
 ·go_enter Tryz.func125,Tryz.ntmps125
  go_wp2_with fail
  exact bodyPost_ret (eY 3 w true _ _ rfl rfl) rfl ⟨rfl,HB.out⟩
 ·go_enter Tryz.func125,Tryz.ntmps125
  go_wp2_with fail
  exact bodyPost_ret (eY 2 w true _ _ rfl rfl) rfl ⟨rfl,HB.out⟩
 ·go_enter Tryz.func125,Tryz.ntmps125
  go_wp2_with fail
  exact bodyPost_ret (eY 1 w true _ _ rfl rfl) rfl ⟨rfl,HB.out⟩
 ·have z1:dL f=0:=by unfold dL;rw [if_neg (by omega)]
  have z2:bT f=0:=by unfold bT;rw [if_neg (by omega)]
  have z3:dI f=0:=by unfold dI;rw [if_neg (by omega)]
  have z4:dN f=0:=by unfold dN;rw [if_neg (by omega)]
  have hv:kR f=#[.int .i64 0,.int .i64 0,.int .i64 0,.int .i64 0]:=by simp [z1,z2,z3,z4]
  have HV:=Lh hv
  clear hv z1 z2 z3 z4
  go_enter Tryz.func125,Tryz.ntmps125
  go_wp2_with fail
  exact bodyPost_ret (eY f w true _ _ (by rw [HV.out]) rfl) rfl ⟨rfl,by have:=HB.out;rwa [HV.out] at this⟩
open Go.ChangeShapes Go.WideShapes Go.ChangeAt Go.RowKit
def uns (z:Int):Nat:=(z%18446744073709551616).toNat
theorem uns_le (z:Int):uns z≤18446744073709551615:=by unfold uns;omega
theorem uns_of (z:Int):z%18446744073709551616=(uns z:Int):=by unfold uns;omega
theorem small (n k:Nat):n / 2 ^ k=0↔n < 2 ^ k:=by
 rw [Nat.div_eq_zero_iff]
 have:=Nat.two_pow_pos k
 omega
theorem may_fits (x:Cap) (hx:x.Ok):x.May↔(((((((0≤x.form)∧(x.form < 5))∧uns x.ver / 2 ^ 4=0)∧x.own / 2 ^ (8 * dL x.form)=0)∧x.peer / 2 ^ (8 * bT x.form)=0)∧uns x.len / 2 ^ (8 * dI x.form)=0)∧x.sum / 2 ^ (8 * dN x.form)=0):=by
 simp only [small]
 by_cases hf:0≤x.form∧x.form < 5
 ·obtain ⟨form,ver,sums,alone,own,peer,len,sum⟩:=x
  obtain ⟨_,h1,h2,h3,h4,h5⟩:=hx
  simp only [Cap.May] at *
  obtain ⟨f0,f5⟩:=hf
  have:form=0∨form=1∨form=2∨form=3∨form=4:=by omega
  rcases this with rfl | rfl | rfl | rfl | rfl<;>simp only [dL,bT,dI,dN,uns]<;>simp<;>omega
 ·constructor
  ·intro h;exact absurd h.1 hf
  ·intro h;exact absurd h.1.1.1.1.1 hf
theorem kOwn (f:Int):wrap64 (8 * (dL f:Int))=((8 * dL f:Nat):Int):=by unfold dL;split<;>kernel_rfl
theorem kPeer (f:Int):wrap64 (8 * (bT f:Int))=((8 * bT f:Nat):Int):=by unfold bT;split<;>kernel_rfl
theorem kLen (f:Int):wrap64 (8 * (dI f:Int))=((8 * dI f:Nat):Int):=by unfold dI;split<;>kernel_rfl
theorem kSum (f:Int):wrap64 (8 * (dN f:Int))=((8 * dN f:Nat):Int):=by unfold dN;split<;>kernel_rfl
theorem wOwn_le (f:Int):8 * dL f≤64:=by unfold dL;split<;>omega
theorem wPeer_le (f:Int):8 * bT f≤64:=by unfold bT;split<;>omega
theorem wLen_le (f:Int):8 * dI f≤64:=by unfold dI;split<;>omega
theorem wSum_le (f:Int):8 * dN f≤64:=by unfold dN;split<;>omega
theorem bW (x:Cap) (hx:x.Ok) (w:World):
  Calls Tryz.prog 124 #[.agg (fA x)] w (Rt w (.bool (decide x.May))):=by
 obtain ⟨M,hM⟩:=eqx (decide x.May)
 rw [←hM]
 obtain ⟨b1,hb1⟩:∃b,b=decide (uns x.ver / 2 ^ 4=0):=⟨_,rfl⟩
 obtain ⟨b2,hb2⟩:∃b,b=decide (x.own / 2 ^ (8 * dL x.form)=0):=⟨_,rfl⟩
 obtain ⟨b3,hb3⟩:∃b,b=decide (x.peer / 2 ^ (8 * bT x.form)=0):=⟨_,rfl⟩
 obtain ⟨b4,hb4⟩:∃b,b=decide (uns x.len / 2 ^ (8 * dI x.form)=0):=⟨_,rfl⟩
 obtain ⟨b5,hb5⟩:∃b,b=decide (x.sum / 2 ^ (8 * dN x.form)=0):=⟨_,rfl⟩
 have hm:M=(decide (0≤x.form) && decide (x.form < 5) && b1 && b2 && b3 && b4 && b5):=by
  subst hb1 hb2 hb3 hb4 hb5
  rw [hM,Bool.eq_iff_iff]
  simp only [Bool.and_eq_true,decide_eq_true_eq]
  exact may_fits x hx
 have HX:=Lh hx
 have HM:=Lh hm
 have H1:=Lh hb1.symm
 have H2:=Lh hb2.symm
 have H3:=Lh hb3.symm
 have H4:=Lh hb4.symm
 have H5:=Lh hb5.symm
 clear hx hM hm hb1 hb2 hb3 hb4 hb5
 go_enter Tryz.func124,Tryz.ntmps124
 go_wp2_with fail
 refine (widthsOf_any x.form _).mono ?_
 rintro e W ⟨rfl,b⟩
 have HB:=Lh (((Below.refl _ w).alloc (Nat.le_refl _) (.cells (fA x) 26)).trans (b.mono (by simp)))
 have hc:=(Blk.new w 26 (fA x)).below b (by simp)
 clear b
 obtain ⟨W2,hW2⟩:=eqx (W.alloc (.cells #[.int .i64 (dL x.form:Int),.int .i64 (bT x.form:Int),.int .i64 (dI x.form:Int),.int .i64 (dN x.form:Int)] 170))
 have HC:=Lh (show Blk W2 w.heap.size 26 (fA x) by rw [hW2];exact hc.alloc _)
 have HV:=Lh (show Blk W2 W.heap.size 170 (kR x.form) by rw [hW2];exact Blk.new _ _ _)
 have HB2:=Lh (show Below w.heap.size w W2 by rw [hW2];exact HB.out.alloc HB.out.size _)
 have HW2:=Lh hW2
 clear hW2 hc
 have c0:=HC.out.cell 0
 have c1:=HC.out.cell 1
 have c4:=HC.out.cell 4
 have c5:=HC.out.cell 5
 have c6:=HC.out.cell 6
 have c7:=HC.out.cell 7
 have v0:=HV.out.cell 0
 have v1:=HV.out.cell 1
 have v2:=HV.out.cell 2
 have v3:=HV.out.cell 3
 simp only [List.getElem?_toArray,List.getElem?_cons_zero,List.getElem?_cons_succ] at c0 c1 c4 c5 c6 c7 v0 v1 v2 v3
 have a0:=c0
 have a1:=c1
 rw [HW2.out] at a0 a1
 by_cases h0:0≤x.form
 ·by_cases h5:x.form < 5
  ·go_wp2_with fail
   rw [←HW2.out]
   clear a0 a1
   refine (jD (uns x.ver) 4 b1 (uns_le _) (by decide) H1.out _ _ (uns_of _) rfl W2).mono ?_
   rintro e w' ⟨rfl,rfl⟩
   cases b1
   ·go_wp2_with fail
    go_ret;exact ⟨bV (by rw [HM.out];simp),HB2.out⟩
   go_wp2_with fail
   refine (jD x.own (8 * dL x.form) b2 HX.out.own (wOwn_le _) H2.out _ _ rfl (kOwn _) W2).mono ?_
   rintro e w' ⟨rfl,rfl⟩
   cases b2
   ·go_wp2_with fail
    go_ret;exact ⟨bV (by rw [HM.out];simp),HB2.out⟩
   go_wp2_with fail
   refine (jD x.peer (8 * bT x.form) b3 HX.out.peer (wPeer_le _) H3.out _ _ rfl (kPeer _) W2).mono ?_
   rintro e w' ⟨rfl,rfl⟩
   cases b3
   ·go_wp2_with fail
    go_ret;exact ⟨bV (by rw [HM.out];simp),HB2.out⟩
   go_wp2_with fail
   refine (jD (uns x.len) (8 * dI x.form) b4 (uns_le _) (wLen_le _) H4.out _ _ (uns_of _) (kLen _) W2).mono ?_
   rintro e w' ⟨rfl,rfl⟩
   cases b4
   ·go_wp2_with fail
    go_ret;exact ⟨bV (by rw [HM.out];simp),HB2.out⟩
   go_wp2_with fail
   refine (jD x.sum (8 * dN x.form) b5 (by have:=HX.out.sum;omega) (wSum_le _) H5.out _ _ (by have:=HX.out.sum;rw [IntKind.wrap_u64];omega) (kSum _) W2).mono ?_
   rintro e w' ⟨rfl,rfl⟩
   cases b5
   ·go_wp2_with fail
    go_ret;exact ⟨bV (by rw [HM.out];simp),HB2.out⟩
   ·go_wp2_with fail
    go_ret;exact ⟨bV (by rw [HM.out];simp [h0,h5]),HB2.out⟩
  ·go_wp2_with fail
   rw [←HW2.out]
   go_ret;exact ⟨bV (by rw [HM.out,decide_eq_false (by omega:¬x.form < 5)];simp),HB2.out⟩
 ·go_wp2_with fail
  rw [←HW2.out]
  go_ret;exact ⟨bV (by rw [HM.out,decide_eq_false (by omega:¬0≤x.form)];simp),HB2.out⟩
theorem kG (s:ByteArray) (m n:Nat) (N M:Int) (w:World) (hs:s.size≤9223372036854775000) (hm:m=0∨m=1∨m=2∨m=8) (hn:n < 256 ^ m) (t:ByteArray) (ht:s++txt (be m n)=t) (hN:N=(n:Int)) (hM:M=(m:Int)):
  Calls Tryz.prog 126 #[.string s,.int .i64 M,.int .u64 N] w (Rt w (.string t)):=by
 subst hN hM;exact put_any s m n w hs hm hn t ht
def bJ (x:Cap):Value:=.tuple #[.string x.enc.1,.int .i64 x.enc.2]
theorem gQ (x:Cap) (h:x.May):bJ x= .tuple #[.string (txt x.body),.int .i64 0]:=by unfold bJ Cap.enc;rw [if_pos h]
theorem jA (x:Cap) (h:¬x.May):bJ x= .tuple #[.string ⟨#[]⟩,.int .i64 2]:=by unfold bJ Cap.enc;rw [if_neg h];rfl
theorem laid_body (x:Cap) (h:x.May):txt (be 1 x.ver.toNat)++txt (be 1 x.flags)++txt (be (dL x.form) x.own)++txt (be (bT x.form) x.peer)++txt (be (dI x.form) x.len.toNat)++txt (be (dN x.form) x.sum)=txt x.body:=by
 obtain ⟨⟨f0,f5⟩,_⟩:=h
 have:x.form=0∨x.form=1∨x.form=2∨x.form=3∨x.form=4:=by omega
 simp only [bP]
 rcases this with h | h | h | h | h
 ·rw [x.rQ h,h];simp [dL,bT,dI,dN,be,Cap.front]
 ·rw [x.sS h,h];simp [dL,bT,dI,dN,be,Cap.front]
 ·rw [x.body2 h,h];simp [dL,bT,dI,dN,be,Cap.front]
 ·rw [x.body3 h,h];simp [dL,bT,dI,dN,be,Cap.front]
 ·rw [x.body4 h,h];simp [dL,bT,dI,dN,Cap.front]
theorem w_own (x:Cap) (hx:x.Ok) (h:x.May):x.own < 256 ^ dL x.form:=by
 have:=hx.own;obtain ⟨⟨f0,f5⟩,_,_,ho,_⟩:=h
 unfold dL;split
 ·omega
 ·rw [ho (by omega)];decide
theorem w_peer (x:Cap) (hx:x.Ok) (h:x.May):x.peer < 256 ^ bT x.form:=by
 have:=hx.peer;obtain ⟨⟨f0,f5⟩,_,_,_,ho,_⟩:=h
 unfold bT;split
 ·omega
 ·rw [ho (by omega)];decide
theorem w_len (x:Cap) (h:x.May):x.len.toNat < 256 ^ dI x.form:=by
 obtain ⟨⟨f0,f5⟩,_,⟨l0,l1⟩,_,_,ho,_⟩:=h
 unfold dI;split
 ·omega
 ·rw [ho (by omega)];decide
theorem w_sum (x:Cap) (hx:x.Ok) (h:x.May):x.sum < 256 ^ dN x.form:=by
 have:=hx.sum;obtain ⟨⟨f0,f5⟩,_,_,_,_,_,ho⟩:=h
 unfold dN;split
 ·omega
 ·rw [ho (by omega)];decide
theorem dC (x:Cap) (hx:x.Ok) (w:World):
  Calls Tryz.prog 68 #[.agg (fA x)] w (Rt w (bJ x)):=by
 have HX:=Lh hx
 clear hx
 obtain ⟨V,hV⟩:=eqx (bJ x)
 rw [←hV]
 have HC:=Lh (Blk.new w 26 (fA x))
 have HB:=Lh ((Below.refl _ w).alloc (Nat.le_refl _) (.cells (fA x) 26))
 have hlt:w.heap.size < (w.alloc (.cells (fA x) 26)).heap.size:=by simp
 have HL:=Lh hlt
 clear hlt
 by_cases hm:x.May
 ·rw [gQ x hm,←laid_body x hm] at hV
  have HVV:=Lh hV
  have HM:=Lh hm
  clear hV hm
  go_enter Tryz.func68,Tryz.ntmps68
  go_wp2_with (refine wpList_load_row rfl 26 _ rfl w.heap.size rfl 26 (fA x) (0,0) _ ?_ Tryz.underlying26 rfl fZ ?_;exact HC.out)
  refine (bW x HX.out _).mono ?_
  rintro e W0 ⟨rfl,b⟩
  rw [decide_eq_true HM.out]
  have HC0:=Lh (HC.out.below b HL.out)
  have HB0:=Lh (HB.out.trans (b.mono HB.out.size))
  have c0:=HC0.out.cell 0
  simp only [List.getElem?_toArray,List.getElem?_cons_zero] at c0
  clear b
  go_wp2_with fail
  refine (widthsOf_any x.form W0).mono ?_
  rintro e W1 ⟨rfl,b⟩
  have HC1:=Lh (HC0.out.below b HC0.out.lt)
  have HB1:=Lh (HB0.out.trans (b.mono HB0.out.size))
  clear b c0
  obtain ⟨W2,hW2⟩:=eqx (W1.alloc (.cells #[.int .i64 (dL x.form:Int),.int .i64 (bT x.form:Int),.int .i64 (dI x.form:Int),.int .i64 (dN x.form:Int)] 170))
  obtain ⟨g,hg⟩:=eqx W1.heap.size
  have HC2:=Lh (show Blk W2 w.heap.size 26 (fA x) by rw [hW2];exact HC1.out.alloc _)
  have HV2:=Lh (show Blk W2 g 170 (kR x.form) by rw [hW2,hg];exact Blk.new _ _ _)
  have HB2:=Lh (show Below w.heap.size w W2 by rw [hW2];exact HB1.out.alloc HB1.out.size _)
  have HW2:=Lh hW2
  have HG:=Lh hg
  clear hW2 hg
  have c1:=HC2.out.cell 1
  simp only [List.getElem?_toArray,List.getElem?_cons_zero,List.getElem?_cons_succ] at c1
  rw [HW2.out] at c1
  go_wp2_with fail
  rw [←HW2.out]
  clear c1
  rw [←HG.out]
  obtain ⟨T1,hT1⟩:∃T,T=txt (be 1 x.ver.toNat):=⟨_,rfl⟩
  have HT1:=Lh hT1
  have HS1:=Lh (show T1.size≤100 by rw [hT1,aO,aI];omega)
  clear hT1
  refine (kG _ 1 x.ver.toNat _ _ W2 (by decide) (by omega) (by have:=HM.out.2.1;omega) T1 (by rw [HT1.out];exact (bP [] _)) ?N1 rfl).mono ?_
  case N1=>have:=HM.out.2.1;simp only [IntKind.wrap_u64];omega
  rintro e W3 ⟨rfl,b⟩
  have HC3:=Lh (HC2.out.below b HC2.out.lt)
  have HV3:=Lh (HV2.out.below b HV2.out.lt)
  have HB3:=Lh (HB2.out.trans (b.mono HB2.out.size))
  clear b
  go_wp2_with (refine wpList_load_row rfl 26 _ rfl w.heap.size rfl 26 (fA x) (0,0) _ ?_ Tryz.underlying26 rfl fZ ?_;exact HC3.out)
  refine (flagsOf_any x W3).mono ?_
  rintro e W4 ⟨rfl,b⟩
  have HC4:=Lh (HC3.out.below b HC3.out.lt)
  have HV4:=Lh (HV3.out.below b HV3.out.lt)
  have HB4:=Lh (HB3.out.trans (b.mono HB3.out.size))
  clear b
  go_wp2_with fail
  obtain ⟨T2,hT2⟩:∃T,T=T1++txt (be 1 x.flags):=⟨_,rfl⟩
  have HT2:=Lh hT2
  have HS2:=Lh (show T2.size≤200 by have:=HS1.out;rw [hT2,ByteArray.size_append,aO,aI];omega)
  clear hT2
  refine (kG T1 1 (x.flags) _ _ W4 (by have:=HS1.out;omega) (by omega) (by have:=x.flags_lt;omega) T2 HT2.out.symm ?N2 rfl).mono ?_
  case N2=>rfl
  rintro e W5 ⟨rfl,b⟩
  have HC5:=Lh (HC4.out.below b HC4.out.lt)
  have HV5:=Lh (HV4.out.below b HV4.out.lt)
  have HB5:=Lh (HB4.out.trans (b.mono HB4.out.size))
  clear b
  have v0:=HV5.out.cell 0
  have c4:=HC5.out.cell 4
  simp only [List.getElem?_toArray,List.getElem?_cons_zero,List.getElem?_cons_succ] at v0 c4
  go_wp2_with fail
  clear v0 c4
  obtain ⟨T3,hT3⟩:∃T,T=T2++txt (be (dL x.form) x.own):=⟨_,rfl⟩
  have HT3:=Lh hT3
  have HS3:=Lh (show T3.size≤300 by have:=HS2.out;rw [hT3,ByteArray.size_append,aO,aI];rcases c_own x.form with h | h | h | h<;>omega)
  clear hT3
  refine (kG T2 ((dL x.form)) (x.own) _ _ W5 (by have:=HS2.out;omega) (c_own x.form) (w_own x HX.out HM.out) T3 HT3.out.symm ?N3 rfl).mono ?_
  case N3=>rfl
  rintro e W6 ⟨rfl,b⟩
  have HC6:=Lh (HC5.out.below b HC5.out.lt)
  have HV6:=Lh (HV5.out.below b HV5.out.lt)
  have HB6:=Lh (HB5.out.trans (b.mono HB5.out.size))
  clear b
  have v1:=HV6.out.cell 1
  have c5:=HC6.out.cell 5
  simp only [List.getElem?_toArray,List.getElem?_cons_zero,List.getElem?_cons_succ] at v1 c5
  go_wp2_with fail
  clear v1 c5
  obtain ⟨T4,hT4⟩:∃T,T=T3++txt (be (bT x.form) x.peer):=⟨_,rfl⟩
  have HT4:=Lh hT4
  have HS4:=Lh (show T4.size≤400 by have:=HS3.out;rw [hT4,ByteArray.size_append,aO,aI];rcases c_peer x.form with h | h | h | h<;>omega)
  clear hT4
  refine (kG T3 ((bT x.form)) (x.peer) _ _ W6 (by have:=HS3.out;omega) (c_peer x.form) (w_peer x HX.out HM.out) T4 HT4.out.symm ?N4 rfl).mono ?_
  case N4=>rfl
  rintro e W7 ⟨rfl,b⟩
  have HC7:=Lh (HC6.out.below b HC6.out.lt)
  have HV7:=Lh (HV6.out.below b HV6.out.lt)
  have HB7:=Lh (HB6.out.trans (b.mono HB6.out.size))
  clear b
  have v2:=HV7.out.cell 2
  have c6:=HC7.out.cell 6
  simp only [List.getElem?_toArray,List.getElem?_cons_zero,List.getElem?_cons_succ] at v2 c6
  go_wp2_with fail
  clear v2 c6
  obtain ⟨T5,hT5⟩:∃T,T=T4++txt (be (dI x.form) x.len.toNat):=⟨_,rfl⟩
  have HT5:=Lh hT5
  have HS5:=Lh (show T5.size≤500 by have:=HS4.out;rw [hT5,ByteArray.size_append,aO,aI];rcases c_len x.form with h | h | h | h<;>omega)
  clear hT5
  refine (kG T4 ((dI x.form)) (x.len.toNat) _ _ W7 (by have:=HS4.out;omega) (c_len x.form) (w_len x HM.out) T5 HT5.out.symm ?N5 rfl).mono ?_
  case N5=>have:=HM.out.2.2.1;rw [IntKind.wrap_u64];omega
  rintro e W8 ⟨rfl,b⟩
  have HC8:=Lh (HC7.out.below b HC7.out.lt)
  have HV8:=Lh (HV7.out.below b HV7.out.lt)
  have HB8:=Lh (HB7.out.trans (b.mono HB7.out.size))
  clear b
  have v3:=HV8.out.cell 3
  have c7:=HC8.out.cell 7
  simp only [List.getElem?_toArray,List.getElem?_cons_zero,List.getElem?_cons_succ] at v3 c7
  go_wp2_with fail
  clear v3 c7
  obtain ⟨T6,hT6⟩:∃T,T=T5++txt (be (dN x.form) x.sum):=⟨_,rfl⟩
  have HT6:=Lh hT6
  have HS6:=Lh (show T6.size≤600 by have:=HS5.out;rw [hT6,ByteArray.size_append,aO,aI];rcases c_sum x.form with h | h | h | h<;>omega)
  clear hT6
  refine (kG T5 ((dN x.form)) (x.sum) _ _ W8 (by have:=HS5.out;omega) (c_sum x.form) (w_sum x HX.out HM.out) T6 HT6.out.symm ?N6 rfl).mono ?_
  case N6=>have:=HX.out.sum;rw [IntKind.wrap_u64];omega
  rintro e W9 ⟨rfl,b⟩
  have HC9:=Lh (HC8.out.below b HC8.out.lt)
  have HV9:=Lh (HV8.out.below b HV8.out.lt)
  have HB9:=Lh (HB8.out.trans (b.mono HB8.out.size))
  clear b
  go_wp2_with fail
  go_ret2
  refine ⟨?_,HB9.out⟩
  show Ending.returned (.tuple #[.string T6,.int .i64 0])=_
  rw [HVV.out,←HT1.out,←HT2.out,←HT3.out,←HT4.out,←HT5.out,←HT6.out]
 ·rw [jA x hm] at hV
  subst hV
  have HM:=Lh hm
  clear hm
  go_enter Tryz.func68,Tryz.ntmps68
  go_wp2_with (refine wpList_load_row rfl 26 _ rfl w.heap.size rfl 26 (fA x) (0,0) _ ?_ Tryz.underlying26 rfl fZ ?_;exact HC.out)
  refine (bW x HX.out _).mono ?_
  rintro e W0 ⟨rfl,b⟩
  rw [decide_eq_false HM.out]
  have HB0:=Lh (HB.out.trans (b.mono HB.out.size))
  clear b
  go_wp2_with fail
  go_ret2
  exact ⟨rfl,HB0.out⟩
open Go.ChangeShapes Go.WideShapes Go.ChangeAt Go.RowKit
structure Rdr (w:World) (g b:Nat) (s:ByteArray) (k:Nat) (br:Bool):Prop where
 box:Blk w g 186 #[.pointer (some ⟨b,0,none⟩)]
 cur:Cur w b s k br
 ne:g≠b
 at_:k≤s.size
theorem Rdr.below {w w':World} {g b:Nat} {s:ByteArray} {k:Nat} {br:Bool} (h:Rdr w g b s k br) (q:Below w.heap.size w w'):Rdr w' g b s k br:=⟨h.box.below q h.box.lt,Blk.below h.cur q (Blk.lt h.cur),h.ne,h.at_⟩
theorem Rdr.alloc {w:World} {g b:Nat} {s:ByteArray} {k:Nat} {br:Bool} (h:Rdr w g b s k br) (o:Obj):Rdr (w.alloc o) g b s k br:=⟨h.box.alloc o,Blk.alloc h.cur o,h.ne,h.at_⟩
theorem aY {P:Program} {fn:Func} {p t:Tmp} {ty:TypeId} (h:fn.results=#[.cell p ty,.tmp t]) (tmps:Array Value) (w:World) (g:Nat) (t':TypeId) (cs:Array Value) (fr:Nat×Nat) (d:TypeDesc)
  (hp:tmps.getD p undef= .pointer (some ⟨g,0,none⟩)) (hg:w.heap[g]?=some (.cells cs t' fr))
  (hu:P.underlying ty=some d) (hd:(match d with | .struct _ | .array _ _=>true | _=>false)=true) (hi:(P.info? ty).map (·.size)=some cs.size):
  (results fn tmps).run P w= .ok (.tuple #[.agg cs,tmps.getD t undef]) w:=by
 have hp':tmps[p]?.getD undef= .pointer (some ⟨g,0,none⟩):=by simpa using hp
 simp [results,h,hp',asAddr,run_loadVar_row w g t' ty cs fr d hg hu hd hi]
theorem _root_.Go.Proofs.YtklakghlliihkaaGreatDoor.Blk.setOther {w:World} {g:Nat} {t:TypeId} {cs:Array Value} (h:Blk w g t cs) {X:Nat} (hne:g≠X) (i:Nat) (u:Value):Blk (w.setCell ⟨X,i,none⟩ u) g t cs:=h.same (Below.heap_setCell w ⟨X,i,none⟩ u g hne)
structure Fill (w W:World) (g c X D:Nat) (s:ByteArray) (k:Nat) (f:Int) (cs:Array Value):Prop where
 rd:Rdr W g c s k false
 x:Blk W X 26 cs
 d:Blk W D 170 (kR f)
 z:Blk W w.heap.size 26 (fA Cap.zero)
 b:Below w.heap.size w W
 zc:w.heap.size < c
 cX:c≠X
 gX:g≠X
 cD:c≠D
 DX:D≠X
 zX:w.heap.size < X
namespace Fill
variable {w W W':World} {g c X D:Nat} {s:ByteArray} {k k':Nat} {f:Int} {cs:Array Value}
theorem set (h:Fill w W g c X D s k f cs) (i:Nat) (u:Value):Fill w (W.setCell ⟨X,i,none⟩ u) g c X D s k f (cs.setIfInBounds i u):=
 ⟨⟨h.rd.box.setOther h.gX i u,Blk.setOther h.rd.cur h.cX i u,h.rd.ne,h.rd.at_⟩,h.x.fJ i u,h.d.setOther h.DX i u,h.z.setOther (by have:=h.zX;omega) i u,h.b.trans (aB (aT (.refl _ _) rfl u) (Nat.le_of_lt h.zX) h.b.size),h.zc,h.cX,h.gX,h.cD,h.DX,h.zX⟩
end Fill
end Go.Proofs.YtklakghlliihkaaGreatDoor.L9
