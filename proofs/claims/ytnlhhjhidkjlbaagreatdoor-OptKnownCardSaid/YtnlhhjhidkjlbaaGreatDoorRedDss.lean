/- RedDss. -/
import Derived.Test.YtnlhhjhidkjlbaaGreatDoorRedBase
import Derived.Laws.Tables
import Derived.Laws.Rows
import Derived.Deep.MidRow
import Derived.Laws.CopyOwn
set_option maxHeartbeats 4000000
set_option maxRecDepth 100000
set_option linter.unusedVariables false
set_option linter.unusedSimpArgs false
namespace Go.Proofs.YtnlhhjhidkjlbaaGreatDoor.L11
def wA (h l:Bool):Nat:=if h then (if l then 8 else 4) else 0
def w4 (h:Bool):Nat:=if h then 4 else 0
def w2 (h:Bool):Nat:=if h then 2 else 0
structure Ds where
 fin:Bool
 ha:Bool
 la:Bool
 ack:Nat
 hm:Bool
 ld:Bool
 dsn:Nat
 ssn:Nat
 len:Int
 hs:Bool
 sum:Nat
def siz (ha la hm ld:Bool):Nat:=2+wA ha la+wA hm ld+w4 hm+w2 hm
namespace Ds
theorem oJ {x y:Ds} (h0:x.fin=y.fin) (h1:x.ha=y.ha) (h2:x.la=y.la) (h3:x.ack=y.ack) (h4:x.hm=y.hm) (h5:x.ld=y.ld) (h6:x.dsn=y.dsn) (h7:x.ssn=y.ssn) (h8:x.len=y.len) (h9:x.hs=y.hs) (h10:x.sum=y.sum):x=y:=by
 cases x;cases y;simp_all
structure Ok (x:Ds):Prop where
 ack:x.ack≤18446744073709551615
 dsn:x.dsn≤18446744073709551615
 ssn:x.ssn≤4294967295
 len: -9223372036854775808≤x.len∧x.len≤9223372036854775807
 sum:x.sum≤65535
abbrev Bare (x:Ds):Prop:=(x.ha=false→x.la=false∧x.ack=0)∧(x.hm=false→x.fin=false∧x.ld=false∧x.dsn=0∧x.ssn=0∧x.len=0∧x.hs=false)∧(x.hs=false→x.sum=0)
abbrev May (x:Ds):Prop:=(x.ha=true∨x.hm=true)∧x.Bare∧(x.la=true∨x.ack≤4294967295)∧(x.ld=true∨x.dsn≤4294967295)∧0≤x.len∧x.len≤65535
def bare (x:Ds):Ds:=⟨x.hm && x.fin,x.ha,x.ha && x.la,if x.ha then x.ack else 0,x.hm,x.hm && x.ld,if x.hm then x.dsn else 0,if x.hm then x.ssn else 0,if x.hm then x.len else 0,x.hm && x.hs,if x.hm && x.hs then x.sum else 0⟩
theorem bare_iff (x:Ds):x.bare=x↔x.Bare:=by
 obtain ⟨fin,ha,la,ack,hm,ld,dsn,ssn,len,hs,sum⟩:=x
 cases ha<;>cases hm<;>cases hs<;>simp [bare,Bare,eq_comm,and_assoc]<;>(constructor<;>(intro h;simp_all))
def bits (x:Ds):Nat:=(if x.ha then 1 else 0)+(if x.la then 2 else 0)+(if x.hm then 4 else 0)+(if x.ld then 8 else 0)+(if x.fin then 16 else 0)
theorem bits_lt (x:Ds):x.bits < 32:=by unfold bits;(repeat' split)<;>omega
def rest (x:Ds):List UInt8:=be (wA x.ha x.la) x.ack++be (wA x.hm x.ld) x.dsn++be (w4 x.hm) x.ssn++be (w2 x.hm) x.len.toNat++be (w2 x.hs) x.sum
def body (x:Ds):List UInt8:=32::UInt8.ofNat x.bits::x.rest
def size (x:Ds):Nat:=siz x.ha x.la x.hm x.ld
theorem iD (x:Ds):x.rest.length+2=x.size+w2 x.hs:=by
 unfold rest size siz;simp only [List.length_append,aH];omega
theorem gB (x:Ds):x.body.length=x.size+w2 x.hs:=by rw [←iD];rfl
def zero:Ds:=⟨false,false,false,0,false,false,0,0,0,false,0⟩
theorem dM:zero.Ok:=⟨by decide,by decide,by decide,by decide,by decide⟩
def enc (x:Ds):ByteArray×Int:=if x.May then (txt x.body,0) else (⟨#[]⟩,2)
theorem mM (x:Ds) (h:x.May):x.enc=(txt x.body,0):=if_pos h
theorem mZ (x:Ds) (h:¬x.May):x.enc=(⟨#[]⟩,2):=if_neg h
end Ds
theorem xG (h l:Bool):wA h l≤8:=by cases h<;>cases l<;>decide
theorem w4_le (h:Bool):w4 h≤4:=by cases h<;>decide
theorem zN (h:Bool):w2 h≤2:=by cases h<;>decide
theorem Ds.size_le (x:Ds):x.size≤26:=by
 unfold Ds.size siz;have:=xG x.ha x.la;have:=xG x.hm x.ld;have:=w4_le x.hm;have:=zN x.hm;omega
def fl (c k:Nat):Bool:=decide (c / k%2=1)
def sH (c:Nat) (s:ByteArray) (hs:Bool):Ds:=
 let a:=wA (fl c 1) (fl c 1 && fl c 2)
 let d:=wA (fl c 4) (fl c 4 && fl c 8)
 ⟨fl c 4 && fl c 16,fl c 1,fl c 1 && fl c 2,num s 2 a,fl c 4,fl c 4 && fl c 8,num s (2+a) d,num s (2+a+d) (w4 (fl c 4)),(num s (2+a+d+w4 (fl c 4)) (w2 (fl c 4)):Int),hs,num s (2+a+d+w4 (fl c 4)+w2 (fl c 4)) (w2 hs)⟩
def kJ (c:Nat):Nat:=siz (fl c 1) (fl c 1 && fl c 2) (fl c 4) (fl c 4 && fl c 8)
def x9 (c:Nat) (s:ByteArray):Ds×Int:=
 if fl c 1=false∧fl c 4=false then (.zero,5) else if s.size < kJ c then (.zero,4) else if s.size=kJ c then (sH c s false,0) else if fl c 4=true∧s.size=kJ c+2 then (sH c s true,0) else (.zero,5)
def dec (s:ByteArray):Ds×Int:=
 if s.size=0 then (.zero,4) else if byteAt s 0 / 16≠2 then (.zero,7) else if s.size < 2 then (.zero,4) else x9 (byteAt s 1) s
theorem dec_short (s:ByteArray) (h:s.size=0):dec s=(.zero,4):=if_pos h
theorem dec_kind (s:ByteArray) (h:s.size≠0) (k:byteAt s 0 / 16≠2):dec s=(.zero,7):=by unfold dec;rw [if_neg h,if_pos k]
theorem dec_one (s:ByteArray) (h:s.size=1) (k:byteAt s 0 / 16=2):dec s=(.zero,4):=by unfold dec;rw [if_neg (by omega),if_neg (fun n=>n k),if_pos (by omega)]
theorem pI (s:ByteArray) (h:2≤s.size) (k:byteAt s 0 / 16=2):dec s=x9 (byteAt s 1) s:=by unfold dec;rw [if_neg (by omega),if_neg (fun n=>n k),if_neg (by omega)]
theorem ack_lt (x:Ds) (hx:x.Ok) (hm:x.May):x.ack < 256 ^ wA x.ha x.la:=by
 have:=hx.ack
 obtain ⟨_,⟨h1,_,_⟩,h2,_⟩:=hm
 unfold wA
 cases ha:x.ha
 ·have:=(h1 ha).2;simp;omega
 ·cases hl:x.la
  ·rw [hl] at h2;simp at h2 ⊢;omega
  ·simp;omega
theorem dsn_lt (x:Ds) (hx:x.Ok) (hm:x.May):x.dsn < 256 ^ wA x.hm x.ld:=by
 have:=hx.dsn
 obtain ⟨_,⟨_,h1,_⟩,_,h2,_⟩:=hm
 unfold wA
 cases ha:x.hm
 ·have:=(h1 ha).2.2.1;simp;omega
 ·cases hl:x.ld
  ·rw [hl] at h2;simp at h2 ⊢;omega
  ·simp;omega
theorem ssn_lt (x:Ds) (hx:x.Ok) (hm:x.May):x.ssn < 256 ^ w4 x.hm:=by
 have:=hx.ssn
 obtain ⟨_,⟨_,h1,_⟩,_⟩:=hm
 unfold w4
 cases ha:x.hm
 ·have:=(h1 ha).2.2.2.1;simp;omega
 ·simp;omega
theorem len_lt (x:Ds) (hx:x.Ok) (hm:x.May):x.len.toNat < 256 ^ w2 x.hm:=by
 obtain ⟨_,⟨_,h1,_⟩,_,_,l0,l1⟩:=hm
 unfold w2
 cases ha:x.hm
 ·have:=(h1 ha).2.2.2.2.1;simp;omega
 ·simp;omega
theorem sum_lt (x:Ds) (hx:x.Ok) (hm:x.May):x.sum < 256 ^ w2 x.hs:=by
 have:=hx.sum
 obtain ⟨_,⟨_,_,h1⟩,_⟩:=hm
 unfold w2
 cases ha:x.hs
 ·have:=h1 ha;simp;omega
 ·simp;omega
abbrev vP (c:Nat) (x:Ds):Prop:=fl c 1=x.ha∧(fl c 1 && fl c 2)=x.la∧fl c 4=x.hm∧(fl c 4 && fl c 8)=x.ld∧(fl c 4 && fl c 16)=x.fin
theorem bits_tell (x:Ds) (h:x.Bare):vP x.bits x:=by
 obtain ⟨fin,ha,la,ack,hm,ld,dsn,ssn,len,hs,sum⟩:=x
 obtain ⟨h1,h2,_⟩:=h
 have t:∀f a l m d:Bool,(a=false→l=false)→(m=false→f=false∧d=false)→vP (Ds.bits ⟨f,a,l,0,m,d,0,0,0,false,0⟩) ⟨f,a,l,0,m,d,0,0,0,false,0⟩:=by decide
 exact t fin ha la hm ld (fun q=>(h1 q).1) (fun q=>⟨(h2 q).1,(h2 q).2.1⟩)
theorem gotc_of (x:Ds) (hx:x.Ok) (hm:x.May) (u v:UInt8) (c:Nat) (ht:vP c x) (more:List UInt8):sH c (txt (u::v::(x.rest++more))) x.hs=x:=by
 have e1:=ack_lt x hx hm
 have e2:=dsn_lt x hx hm
 have e3:=ssn_lt x hx hm
 have e4:=len_lt x hx hm
 have e5:=sum_lt x hx hm
 have l0:=hm.2.2.2.2.1
 obtain ⟨t1,t2,t3,t4,t5⟩:=ht
 unfold sH
 simp only []
 rw [t2,t4,t5,t1,t3]
 have hl:∀(m n:Nat),(be m n).length=m:=aH
 have n1:=bU [u,v] (be (wA x.hm x.ld) x.dsn++be (w4 x.hm) x.ssn++be (w2 x.hm) x.len.toNat++be (w2 x.hs) x.sum++more) 2 (wA x.ha x.la) x.ack rfl
 have n2:=bU ([u,v]++be (wA x.ha x.la) x.ack) (be (w4 x.hm) x.ssn++be (w2 x.hm) x.len.toNat++be (w2 x.hs) x.sum++more) (2+wA x.ha x.la) (wA x.hm x.ld) x.dsn (by simp only [List.length_append,hl,List.length_cons,List.length_nil])
 have n3:=bU ([u,v]++be (wA x.ha x.la) x.ack++be (wA x.hm x.ld) x.dsn) (be (w2 x.hm) x.len.toNat++be (w2 x.hs) x.sum++more) (2+wA x.ha x.la+wA x.hm x.ld) (w4 x.hm) x.ssn (by simp only [List.length_append,hl,List.length_cons,List.length_nil])
 have n4:=bU ([u,v]++be (wA x.ha x.la) x.ack++be (wA x.hm x.ld) x.dsn++be (w4 x.hm) x.ssn) (be (w2 x.hs) x.sum++more) (2+wA x.ha x.la+wA x.hm x.ld+w4 x.hm) (w2 x.hm) x.len.toNat (by simp only [List.length_append,hl,List.length_cons,List.length_nil])
 have n5:=bU ([u,v]++be (wA x.ha x.la) x.ack++be (wA x.hm x.ld) x.dsn++be (w4 x.hm) x.ssn++be (w2 x.hm) x.len.toNat) more (2+wA x.ha x.la+wA x.hm x.ld+w4 x.hm+w2 x.hm) (w2 x.hs) x.sum (by simp only [List.length_append,hl,List.length_cons,List.length_nil])
 rw [Nat.mod_eq_of_lt e1] at n1
 rw [Nat.mod_eq_of_lt e2] at n2
 rw [Nat.mod_eq_of_lt e3] at n3
 rw [Nat.mod_eq_of_lt e4] at n4
 rw [Nat.mod_eq_of_lt e5] at n5
 have hL:∀L,L=u::v::(x.rest++more)→[u,v]++be (wA x.ha x.la) x.ack++(be (wA x.hm x.ld) x.dsn++be (w4 x.hm) x.ssn++be (w2 x.hm) x.len.toNat++be (w2 x.hs) x.sum++more)=L:=by
  rintro L rfl;simp [Ds.rest]
 obtain ⟨L,hLe⟩:=eqx (u::v::(x.rest++more))
 have hL:=hL L hLe
 rw [←hLe]
 simp only [List.append_assoc] at n1 n2 n3 n4 n5 hL
 rw [hL] at n1 n2 n3 n4 n5
 rw [n1,n2,n3,n4,n5]
 exact Ds.oJ rfl rfl rfl rfl rfl rfl rfl rfl (by simp only [];omega) rfl rfl
theorem sizc_of (x:Ds) (c:Nat) (ht:vP c x):kJ c=x.size:=by
 obtain ⟨t1,t2,t3,t4,t5⟩:=ht
 unfold kJ Ds.size;rw [t2,t1,t4,t3]
theorem has_of (x:Ds) (hm:x.May) (c:Nat) (ht:vP c x):¬(fl c 1=false∧fl c 4=false):=by
 obtain ⟨t1,t2,t3,t4,t5⟩:=ht
 rw [t1,t3]
 rcases hm.1 with h | h<;>rw [h]<;>simp
theorem jH (u v:UInt8) (r:List UInt8):(txt (u::v::r)).size=r.length+2:=by rw [aN];rfl
theorem uF (u v:UInt8) (r:List UInt8):byteAt (txt (u::v::r)) 0=u.toNat:=rfl
theorem yI (u v:UInt8) (r:List UInt8):byteAt (txt (u::v::r)) 1=v.toNat:=rfl
theorem yD (x:Ds) (hx:x.Ok) (hm:x.May) (u v:UInt8) (hu:u.toNat / 16=2) (ht:vP v.toNat x):dec (txt (u::v::x.rest))=(x,0):=by
 have hr:=x.iD
 have hg:=gotc_of x hx hm u v v.toNat ht []
 rw [List.append_nil] at hg
 rw [pI _ (by rw [jH];omega) (by rw [uF];exact hu),yI,x9,if_neg (has_of x hm _ ht),jH,sizc_of x _ ht]
 have h2:=hm.2.1.2.1
 rw [if_neg (by omega)]
 cases hs:x.hs
 ·rw [hs] at hr hg
  rw [if_pos (by simpa [w2] using hr),hg]
 ·rw [hs] at hr hg
  have e4:fl v.toNat 4=true:=by
   rw [ht.2.2.1]
   cases h:x.hm
   ·have:=(h2 h).2.2.2.2.2;rw [hs] at this;cases this
   ·rfl
  have hr:x.rest.length+2=x.size+2:=hr
  rw [if_neg (by omega),if_pos ⟨e4,hr⟩,hg]
theorem u8_bits (x:Ds):(UInt8.ofNat x.bits).toNat=x.bits:=by have:=x.bits_lt;rw [UInt8.toNat_ofNat',show (2:Nat) ^ 8=256 from rfl];omega
theorem kE (x:Ds) (hx:x.Ok) (hm:x.May):dec (txt x.body)=(x,0):=
 yD x hx hm 32 (UInt8.ofNat x.bits) rfl (by rw [u8_bits];exact bits_tell x hm.2.1)
open Go.ChangeShapes Go.WideShapes Go.ChangeAt Go.RowKit
abbrev dsv (x:Ds):Array Value:=#[.bool x.fin,.bool x.ha,.bool x.la,.int .u64 (x.ack:Int),.bool x.hm,.bool x.ld,.int .u64 (x.dsn:Int),.int .u32 (x.ssn:Int),.int .i64 x.len,.bool x.hs,.int .u16 (x.sum:Int)]
theorem dG:(Tryz.prog.info? 30).map (·.size)=some 11:=by kernel_rfl
theorem rC (x:Ds):(dsv x).all (·.oneCell')=true:=by simp [Value.oneCell']
def deq (x y:Ds):Bool:=x.fin==y.fin && (x.ha==y.ha && (x.la==y.la && ((x.ack:Int)==(y.ack:Int) && (x.hm==y.hm && (x.ld==y.ld && ((x.dsn:Int)==(y.dsn:Int) && ((x.ssn:Int)==(y.ssn:Int) && (x.len==y.len && (x.hs==y.hs && ((x.sum:Int)==(y.sum:Int)))))))))))
theorem wQ (x y:Ds):deq x y=true↔x=y:=by
 unfold deq
 simp only [Bool.and_eq_true,beq_iff_eq]
 constructor
 ·rintro ⟨h0,h1,h2,h3,h4,h5,h6,h7,h8,h9,h10⟩
  exact Ds.oJ h0 h1 h2 (by omega) h4 h5 (by omega) (by omega) h8 h9 (by omega)
 ·rintro rfl
  exact ⟨rfl,rfl,rfl,rfl,rfl,rfl,rfl,rfl,rfl,rfl,rfl⟩
theorem deq_self (x:Ds):deq x x=true:=(wQ x x).2 rfl
theorem deq_ne {x y:Ds} (h:x≠y):deq x y=false:=by
 cases e:deq x y
 ·rfl
 ·exact absurd ((wQ x y).1 e) h
theorem ds_equal (x y:Ds) (w:World):(Op.equalIn 10000 30 (.agg (dsv x)) (.agg (dsv y))).run Tryz.prog w= .ok (deq x y) w:=by
 rw [show (10000:Nat)=9999+1 from rfl,run_equalIn_agg (P:=Tryz.prog) w 9999 30 _ _ (by kernel_rfl) (by kernel_rfl)]
 rw [show (9999:Nat)=9998+1 from rfl]
 simp only [Program.fieldsOf,Tryz.underlying30,Op.eqFields]
 simp [go_sem]
 by_cases h:x=y
 ·subst h;simp [deq_self]
 ·rw [deq_ne h]
  repeat' split
  all_goals first | rfl | (exfalso;apply h;apply Ds.oJ<;>first | assumption | omega)
theorem fits_any (n:Nat) (l:Bool) (w:World) (hn:n≤18446744073709551615):
  Calls Tryz.prog 179 #[.int .u64 (n:Int),.bool l] w (Rt w (.bool (l || decide (n≤4294967295)))):=by
 cases l
 ·by_cases h:n≤4294967295
  ·rw [decide_eq_true h]
   have h':(n:Int)≤4294967295:=by omega
   go_enter Tryz.func179,Tryz.ntmps179
   go_wp2
   go_ret;exact ⟨rfl,Below.refl _ _⟩
  ·rw [decide_eq_false h]
   have h':¬(n:Int)≤4294967295:=by omega
   go_enter Tryz.func179,Tryz.ntmps179
   go_wp2
   go_ret;exact ⟨rfl,Below.refl _ _⟩
 ·go_enter Tryz.func179,Tryz.ntmps179
  go_wp2
  go_ret;exact ⟨rfl,Below.refl _ _⟩
theorem bare_end (x:Ds) (w:World) (cs0 cs:Array Value) {a:Act} (ht:a.tmps.getD 2 undef= .pointer (some ⟨w.heap.size+1,0,none⟩)) (hc:cs=dsv x.bare) (hd:a.defers=[]) (hb:∀o1 o2:Obj,Below w.heap.size w ((w.alloc o1).alloc o2)):
  bodyPost Tryz.prog Tryz.f178 (fun e w'=>e= .returned (.agg (dsv x.bare))∧Below w.heap.size w w') .ret a ((w.alloc (.cells cs0 30)).alloc (.cells cs 30)):=by
 subst hc
 have hB:Blk ((w.alloc (.cells cs0 30)).alloc (.cells (dsv x.bare) 30)) (w.heap.size+1) 30 (dsv x.bare):=by
  have:=Blk.new (w.alloc (.cells cs0 30)) 30 (dsv x.bare)
  simpa using this
 exact bodyPost_ret (results_cell_row rfl _ _ (w.heap.size+1) 30 (dsv x.bare) (0,0) _ ht hB Tryz.underlying30 rfl dG) hd ⟨rfl,hb _ _⟩
theorem rF (x:Ds) (w:World):
  Calls Tryz.prog 178 #[.agg (dsv x)] w (Rt w (.agg (dsv x.bare))):=by
 have hb:∀o1 o2:Obj,Below w.heap.size w ((w.alloc o1).alloc o2):=fun o1 o2=>((Below.refl _ w).alloc (Nat.le_refl _) _).alloc (by simp) _
 have HB:=Lh hb
 clear hb
 obtain ⟨fin,ha,la,ack,hm,ld,dsn,ssn,len,hs,sum⟩:=x
 cases ha<;>cases hm<;>cases hs
 all_goals
  go_enter Tryz.func178,Tryz.ntmps178
  go_wp2_with fail
  exact bare_end _ w _ _ rfl (by simp [Ds.bare]) rfl HB.out
def bH (x:Ds) (j:Nat):Nat:=(if 0 < j∧x.ha=true then 1 else 0)+(if 1 < j∧x.la=true then 2 else 0)+(if 2 < j∧x.hm=true then 4 else 0)+(if 3 < j∧x.ld=true then 8 else 0)+(if 4 < j∧x.fin=true then 16 else 0)
theorem bitsTo_5 (x:Ds):bH x 5=x.bits:=by simp [bH,Ds.bits]
theorem bitsTo_lt (x:Ds):bH x 0 < 1∧bH x 1 < 2∧bH x 2 < 4∧bH x 3 < 8∧bH x 4 < 16:=by
 unfold bH;refine ⟨?_,?_,?_,?_,?_⟩<;>((repeat' split)<;>omega)
theorem or_1:∀n:Fin 1,bits .or .u8 (n.val:Int) 1=((n.val+1:Nat):Int):=by decide
theorem or_2:∀n:Fin 2,bits .or .u8 (n.val:Int) 2=((n.val+2:Nat):Int):=by decide
theorem or_4:∀n:Fin 4,bits .or .u8 (n.val:Int) 4=((n.val+4:Nat):Int):=by decide
theorem or_8:∀n:Fin 8,bits .or .u8 (n.val:Int) 8=((n.val+8:Nat):Int):=by decide
theorem or_16:∀n:Fin 16,bits .or .u8 (n.val:Int) 16=((n.val+16:Nat):Int):=by decide
theorem bitsOf_any (x:Ds) (w:World):
  Calls Tryz.prog 181 #[.agg (dsv x)] w (Rt w (.int .u8 (x.bits:Int))):=by
 rw [←bitsTo_5]
 obtain ⟨b,hb⟩:=eqx (w.heap.size+1)
 obtain ⟨W,hW⟩:=eqx ((w.alloc (.cells (dsv x) 30)).alloc (.cells #[.bool x.ha,.int .u8 1,.bool x.la,.int .u8 2,.bool x.hm,.int .u8 4,.bool x.ld,.int .u8 8,.bool x.fin,.int .u8 16] 280))
 have HL:=Lh (show Blk W b 280 #[.bool x.ha,.int .u8 1,.bool x.la,.int .u8 2,.bool x.hm,.int .u8 4,.bool x.ld,.int .u8 8,.bool x.fin,.int .u8 16] by
  rw [hW,hb]
  have:=Blk.new (w.alloc (.cells (dsv x) 30)) 280 #[.bool x.ha,.int .u8 1,.bool x.la,.int .u8 2,.bool x.hm,.int .u8 4,.bool x.ld,.int .u8 8,.bool x.fin,.int .u8 16]
  simpa using this)
 have HBW:=Lh (show Below w.heap.size w W by rw [hW];exact ((Below.refl _ w).alloc (Nat.le_refl _) _).alloc (by simp) _)
 have HWE:=Lh hW
 have HBE:=Lh hb
 clear hW hb
 go_enter Tryz.func181,Tryz.ntmps181
 go_wp2_with fail
 rw [←HWE.out,←HBE.out]
 clear HWE HBE
 go_loopw [3,23] (fun v i wr=>∃j:Nat,j≤5∧i= .int .i64 (j:Int)∧v= .int .u8 (bH x j:Int)∧Blk wr b 280 #[.bool x.ha,.int .u8 1,.bool x.la,.int .u8 2,.bool x.hm,.int .u8 4,.bool x.ld,.int .u8 8,.bool x.fin,.int .u8 16]∧Below w.heap.size w wr) (fun _ i _=>(5 - intOf i).toNat)
 case atStart=>exact ⟨0,by omega,rfl,rfl,HL.out,HBW.out⟩
 case round=>
  obtain ⟨j,hj,rfl,rfl,hL,hB⟩:=hrel
  have HL1:=Lh hL
  have HB1:=Lh hB
  clear hB HL HBW
  have yE:j=0∨j=1∨j=2∨j=3∨j=4∨j=5:=by omega
  clear hj
  have hlt:=bitsTo_lt x
  rcases yE with rfl | rfl | rfl | rfl | rfl | rfl
  ·obtain ⟨a,ha⟩:=eqx (bH x 0)
   have ho:bits .or .u8 (a:Int) 1=((a+1:Nat):Int):=or_1 ⟨a,by rw [ha];exact hlt.1⟩
   have HA:=Lh ha
   have c0:=hL.cell 0
   have c1:=hL.cell 1
   simp only [List.getElem?_toArray,List.getElem?_cons_zero,List.getElem?_cons_succ] at c0 c1
   rw [←ha]
   clear ha hL hlt
   by_cases hf:x.ha=true
   ·rw [hf] at c0
    have HF:=Lh (show a+1=bH x 1 by rw [HA.out];simp [bH,hf])
    go_wp2_with fail
    go_roundw
    case rel=>exact ⟨1,by omega,by go_num,bF (by have:=HF.out;omega),HL1.out.alloc _,HB1.out.alloc HB1.out.size _⟩
    case measure=>simp [intOf]
   ·rw [Bool.eq_false_iff.2 hf] at c0
    have HF:=Lh (show a=bH x 1 by rw [HA.out];simp [bH,hf])
    clear hf
    go_wp2_with fail
    go_roundw
    case rel=>exact ⟨1,by omega,by go_num,bF (by have:=HF.out;omega),HL1.out.alloc _,HB1.out.alloc HB1.out.size _⟩
    case measure=>simp [intOf]
  ·obtain ⟨a,ha⟩:=eqx (bH x 1)
   have ho:bits .or .u8 (a:Int) 2=((a+2:Nat):Int):=or_2 ⟨a,by rw [ha];exact hlt.2.1⟩
   have HA:=Lh ha
   have c0:=hL.cell 2
   have c1:=hL.cell 3
   simp only [List.getElem?_toArray,List.getElem?_cons_zero,List.getElem?_cons_succ] at c0 c1
   rw [←ha]
   clear ha hL hlt
   by_cases hf:x.la=true
   ·rw [hf] at c0
    have HF:=Lh (show a+2=bH x 2 by rw [HA.out];simp [bH,hf])
    go_wp2_with fail
    go_roundw
    case rel=>exact ⟨2,by omega,by go_num,bF (by have:=HF.out;omega),HL1.out.alloc _,HB1.out.alloc HB1.out.size _⟩
    case measure=>simp [intOf]
   ·rw [Bool.eq_false_iff.2 hf] at c0
    have HF:=Lh (show a=bH x 2 by rw [HA.out];simp [bH,hf])
    clear hf
    go_wp2_with fail
    go_roundw
    case rel=>exact ⟨2,by omega,by go_num,bF (by have:=HF.out;omega),HL1.out.alloc _,HB1.out.alloc HB1.out.size _⟩
    case measure=>simp [intOf]
  ·obtain ⟨a,ha⟩:=eqx (bH x 2)
   have ho:bits .or .u8 (a:Int) 4=((a+4:Nat):Int):=or_4 ⟨a,by rw [ha];exact hlt.2.2.1⟩
   have HA:=Lh ha
   have c0:=hL.cell 4
   have c1:=hL.cell 5
   simp only [List.getElem?_toArray,List.getElem?_cons_zero,List.getElem?_cons_succ] at c0 c1
   rw [←ha]
   clear ha hL hlt
   by_cases hf:x.hm=true
   ·rw [hf] at c0
    have HF:=Lh (show a+4=bH x 3 by rw [HA.out];simp [bH,hf])
    go_wp2_with fail
    go_roundw
    case rel=>exact ⟨3,by omega,by go_num,bF (by have:=HF.out;omega),HL1.out.alloc _,HB1.out.alloc HB1.out.size _⟩
    case measure=>simp [intOf]
   ·rw [Bool.eq_false_iff.2 hf] at c0
    have HF:=Lh (show a=bH x 3 by rw [HA.out];simp [bH,hf])
    clear hf
    go_wp2_with fail
    go_roundw
    case rel=>exact ⟨3,by omega,by go_num,bF (by have:=HF.out;omega),HL1.out.alloc _,HB1.out.alloc HB1.out.size _⟩
    case measure=>simp [intOf]
  ·obtain ⟨a,ha⟩:=eqx (bH x 3)
   have ho:bits .or .u8 (a:Int) 8=((a+8:Nat):Int):=or_8 ⟨a,by rw [ha];exact hlt.2.2.2.1⟩
   have HA:=Lh ha
   have c0:=hL.cell 6
   have c1:=hL.cell 7
   simp only [List.getElem?_toArray,List.getElem?_cons_zero,List.getElem?_cons_succ] at c0 c1
   rw [←ha]
   clear ha hL hlt
   by_cases hf:x.ld=true
   ·rw [hf] at c0
    have HF:=Lh (show a+8=bH x 4 by rw [HA.out];simp [bH,hf])
    go_wp2_with fail
    go_roundw
    case rel=>exact ⟨4,by omega,by go_num,bF (by have:=HF.out;omega),HL1.out.alloc _,HB1.out.alloc HB1.out.size _⟩
    case measure=>simp [intOf]
   ·rw [Bool.eq_false_iff.2 hf] at c0
    have HF:=Lh (show a=bH x 4 by rw [HA.out];simp [bH,hf])
    clear hf
    go_wp2_with fail
    go_roundw
    case rel=>exact ⟨4,by omega,by go_num,bF (by have:=HF.out;omega),HL1.out.alloc _,HB1.out.alloc HB1.out.size _⟩
    case measure=>simp [intOf]
  ·obtain ⟨a,ha⟩:=eqx (bH x 4)
   have ho:bits .or .u8 (a:Int) 16=((a+16:Nat):Int):=or_16 ⟨a,by rw [ha];exact hlt.2.2.2.2⟩
   have HA:=Lh ha
   have c0:=hL.cell 8
   have c1:=hL.cell 9
   simp only [List.getElem?_toArray,List.getElem?_cons_zero,List.getElem?_cons_succ] at c0 c1
   rw [←ha]
   clear ha hL hlt
   by_cases hf:x.fin=true
   ·rw [hf] at c0
    have HF:=Lh (show a+16=bH x 5 by rw [HA.out];simp [bH,hf])
    go_wp2_with fail
    go_roundw
    case rel=>exact ⟨5,by omega,by go_num,bF (by have:=HF.out;omega),HL1.out.alloc _,HB1.out.alloc HB1.out.size _⟩
    case measure=>simp [intOf]
   ·rw [Bool.eq_false_iff.2 hf] at c0
    have HF:=Lh (show a=bH x 5 by rw [HA.out];simp [bH,hf])
    clear hf
    go_wp2_with fail
    go_roundw
    case rel=>exact ⟨5,by omega,by go_num,bF (by have:=HF.out;omega),HL1.out.alloc _,HB1.out.alloc HB1.out.size _⟩
    case measure=>simp [intOf]
  ·clear hL hlt
   go_wp2_with fail
   go_ret;exact ⟨rfl,HB1.out⟩
open Go.ChangeShapes Go.WideShapes Go.ChangeAt Go.RowKit
abbrev bdv (c:Value) (x:Ds) (T:ByteArray):Array Value:=#[c,.bool x.fin,.bool x.ha,.bool x.la,.int .u64 (x.ack:Int),.bool x.hm,.bool x.ld,.int .u64 (x.dsn:Int),.int .u32 (x.ssn:Int),.int .i64 x.len,.bool x.hs,.int .u16 (x.sum:Int),.string T]
abbrev ptr (b:Nat):Value:=.pointer (some ⟨b,0,none⟩)
def Bd (w:World) (b:Nat) (c:Value) (x:Ds) (T:ByteArray):Prop:=Blk w b 179 (bdv c x T)
section
variable {w w':World} {b:Nat} {c:Value} {x:Ds} {T:ByteArray}
theorem Bd.blk (h:Bd w b c x T):Blk w b 179 (bdv c x T):=h
theorem Bd.cell (h:Bd w b c x T) (i:Nat):w.cell? ⟨b,i,none⟩=(bdv c x T)[i]?:=Blk.cell h i
theorem Bd.sK (h:Bd w b c x T) (S:ByteArray):Bd (w.setCell ⟨b,12,none⟩ (.string S)) b c x S:=Blk.fV h 12 _
theorem Bd.below (h:Bd w b c x T) {B:Nat} (hb:Below B w w') (hg:b < B):Bd w' b c x T:=Blk.below h hb hg
theorem Bd.lt (h:Bd w b c x T):b < w.heap.size:=Blk.lt h
theorem Bd.alloc (h:Bd w b c x T) (o:Obj):Bd (w.alloc o) b c x T:=Blk.alloc h o
theorem Bd.range (h:Bd w b c x T):w.rangeAt b 1 (dsv x).toList:=World.rangeAt_of_block h 1 11
end
theorem ds_size' (x:Ds):(Tryz.prog.info? 30).map (·.size)=some (dsv x).toList.length:=dG
theorem nS {ops:Array Oper} {rest:List Oper} {o:Oper} {a:Act} {w:World} {Q:Exit→Act→World→Prop} (hgd:o.guard=none) (v:Operand) (ho:o.op= .load 30 v) (b:Nat) (hx:a.eval v= .pointer (some ⟨b,1,none⟩)) (c:Value) (x:Ds) (T:ByteArray) (hb:Bd w b c x T)
  (h:wpList Tryz.prog ops Q rest (a.put o.dst (.agg (dsv x))) w):wpList Tryz.prog ops Q (o::rest) a w:=
 wpList_load_mid hgd 30 v ho b 1 hx (dsv x).toList _ hb.range Tryz.underlying30 rfl (ds_size' x) h
abbrev Wrote (w:World) (b:Nat) (c:Value) (x:Ds) (S:ByteArray) (e:Ending) (w':World):Prop:=e= .returned (.tuple #[])∧w.grownBy w' (some b)∧Bd w' b c x S
theorem put8_any (b n:Nat) (c:Value) (x:Ds) (T S:ByteArray) (w:World) (hT:T.size≤9223372036854775000) (hn:n≤255) (hS:T++txt (be 1 n)=S) (h:Bd w b c x T):
  Calls Tryz.prog 180 #[ptr b,.int .u8 (n:Int)] w (Wrote w b c x S):=by
 have H:=Lh h
 have HS:=Lh (show T++⟨(be 1 n).toArray⟩=S from hS)
 have c12:=h.cell 12
 simp only [List.getElem?_toArray,List.getElem?_cons_zero,List.getElem?_cons_succ] at c12
 clear h hS
 go_enter Tryz.func180,Tryz.ntmps180
 go_wp2_with fail
 refine (answer (dB T n w hT hn) (congrArg Value.string HS.out)).mono ?_
 rintro e W ⟨rfl,hb⟩
 have HW:=Lh (H.out.below hb H.out.lt)
 have HB:=Lh (bM hb (some b))
 have c':=HW.out.cell 12
 have fz:=HW.out.blk.frozen 12
 simp only [List.getElem?_toArray,List.getElem?_cons_zero,List.getElem?_cons_succ] at c'
 clear hb c12
 go_wp2_with fail
 go_end0;exact ⟨rfl,aZ HB.out rfl _,HW.out.sK _⟩
theorem put16_any (b n:Nat) (c:Value) (x:Ds) (T S:ByteArray) (w:World) (hT:T.size≤9223372036854775000) (hn:n≤65535) (hS:T++txt (be 2 n)=S) (h:Bd w b c x T):
  Calls Tryz.prog 185 #[ptr b,.int .u16 (n:Int)] w (Wrote w b c x S):=by
 have H:=Lh h
 have HS:=Lh (show T++⟨(be 2 n).toArray⟩=S from hS)
 have c12:=h.cell 12
 simp only [List.getElem?_toArray,List.getElem?_cons_zero,List.getElem?_cons_succ] at c12
 clear h hS
 go_enter Tryz.func185,Tryz.ntmps185
 go_wp2_with fail
 refine (answer (qV T n w hT hn) (congrArg Value.string HS.out)).mono ?_
 rintro e W ⟨rfl,hb⟩
 have HW:=Lh (H.out.below hb H.out.lt)
 have HB:=Lh (bM hb (some b))
 have c':=HW.out.cell 12
 have fz:=HW.out.blk.frozen 12
 simp only [List.getElem?_toArray,List.getElem?_cons_zero,List.getElem?_cons_succ] at c'
 clear hb c12
 go_wp2_with fail
 go_end0;exact ⟨rfl,aZ HB.out rfl _,HW.out.sK _⟩
theorem put32_any (b n:Nat) (c:Value) (x:Ds) (T S:ByteArray) (w:World) (hT:T.size≤9223372036854775000) (hn:n≤4294967295) (hS:T++txt (be 4 n)=S) (h:Bd w b c x T):
  Calls Tryz.prog 183 #[ptr b,.int .u32 (n:Int)] w (Wrote w b c x S):=by
 have H:=Lh h
 have HS:=Lh (show T++⟨(be 4 n).toArray⟩=S from hS)
 have c12:=h.cell 12
 simp only [List.getElem?_toArray,List.getElem?_cons_zero,List.getElem?_cons_succ] at c12
 clear h hS
 go_enter Tryz.func183,Tryz.ntmps183
 go_wp2_with fail
 refine (answer (nR T n w hT hn) (congrArg Value.string HS.out)).mono ?_
 rintro e W ⟨rfl,hb⟩
 have HW:=Lh (H.out.below hb H.out.lt)
 have HB:=Lh (bM hb (some b))
 have c':=HW.out.cell 12
 have fz:=HW.out.blk.frozen 12
 simp only [List.getElem?_toArray,List.getElem?_cons_zero,List.getElem?_cons_succ] at c'
 clear hb c12
 go_wp2_with fail
 go_end0;exact ⟨rfl,aZ HB.out rfl _,HW.out.sK _⟩
theorem put64_any (b n:Nat) (c:Value) (x:Ds) (T S:ByteArray) (w:World) (hT:T.size≤9223372036854775000) (hn:n≤18446744073709551615) (hS:T++txt (be 8 n)=S) (h:Bd w b c x T):
  Calls Tryz.prog 184 #[ptr b,.int .u64 (n:Int)] w (Wrote w b c x S):=by
 have H:=Lh h
 have HS:=Lh (show T++⟨(be 8 n).toArray⟩=S from hS)
 have c12:=h.cell 12
 simp only [List.getElem?_toArray,List.getElem?_cons_zero,List.getElem?_cons_succ] at c12
 clear h hS
 go_enter Tryz.func184,Tryz.ntmps184
 go_wp2_with fail
 refine (answer (rG T n w hT hn) (congrArg Value.string HS.out)).mono ?_
 rintro e W ⟨rfl,hb⟩
 have HW:=Lh (H.out.below hb H.out.lt)
 have HB:=Lh (bM hb (some b))
 have c':=HW.out.cell 12
 have fz:=HW.out.blk.frozen 12
 simp only [List.getElem?_toArray,List.getElem?_cons_zero,List.getElem?_cons_succ] at c'
 clear hb c12
 go_wp2_with fail
 go_end0;exact ⟨rfl,aZ HB.out rfl _,HW.out.sK _⟩
abbrev m32 (b:Nat):Value:=.func (.func 183) #[ptr b] #[]
abbrev m64 (b:Nat):Value:=.func (.func 184) #[ptr b] #[]
abbrev wclo (g:Nat):Value:=.func (.func 208) #[] #[ptr (g+1),ptr g]
structure Wcl (w:World) (g b:Nat):Prop where
 b32:Blk w g 244 #[m32 b]
 b64:Blk w (g+1) 245 #[m64 b]
theorem writer_any (b:Nat) (w:World):
  Calls Tryz.prog 182 #[m32 b,m64 b] w fun e w'=>e= .returned (wclo w.heap.size)∧Wcl w' w.heap.size b∧Below w.heap.size w w':=by
 have hb:Below w.heap.size w ((w.alloc (.cells #[m32 b] 244)).alloc (.cells #[m64 b] 245)):=((Below.refl _ w).alloc (Nat.le_refl _) _).alloc (by simp) _
 have h1:Blk ((w.alloc (.cells #[m32 b] 244)).alloc (.cells #[m64 b] 245)) w.heap.size 244 #[m32 b]:=(Blk.new _ _ _).alloc _
 have h2:Blk ((w.alloc (.cells #[m32 b] 244)).alloc (.cells #[m64 b] 245)) (w.heap.size+1) 245 #[m64 b]:=by
  have:=Blk.new (w.alloc (.cells #[m32 b] 244)) 245 #[m64 b]
  simpa using this
 have HE:=Lh (show Wcl ((w.alloc (.cells #[m32 b] 244)).alloc (.cells #[m64 b] 245)) w.heap.size b∧Below w.heap.size w ((w.alloc (.cells #[m32 b] 244)).alloc (.cells #[m64 b] 245)) from ⟨⟨h1,h2⟩,hb⟩)
 clear hb h1 h2
 go_enter Tryz.func182,Tryz.ntmps182
 go_wp2_with fail
 go_ret;exact ⟨rfl,HE.out⟩
theorem wclo_any (l:Bool) (n g b:Nat) (c:Value) (x:Ds) (T S:ByteArray) (w:World) (hT:T.size≤9223372036854775000) (hn:n < 256 ^ wA true l) (hS:T++txt (be (wA true l) n)=S) (h:Bd w b c x T) (hg:Wcl w g b):
  Calls Tryz.prog 208 #[.int .u64 (n:Int),.bool l,ptr (g+1),ptr g] w (Wrote w b c x S):=by
 have c0:=hg.b32.cell 0
 have c1:=hg.b64.cell 0
 simp only [List.getElem?_toArray,List.getElem?_cons_zero] at c0 c1
 cases l
 ·have HC:=Lh (put32_any b n c x T S w hT (by have:n < 256 ^ 4:=hn;omega) hS h)
  have hc:(n:Int)%4294967296=(n:Int):=by have:n < 256 ^ 4:=hn;omega
  clear hS h hg hn c1
  go_enter Tryz.func208,Tryz.ntmps208
  go_wp2_with fail
  refine HC.out.mono ?_
  rintro e W ⟨rfl,hb,hd⟩
  have HE:=Lh (And.intro hb hd)
  clear hb hd
  go_wp2_with fail
  go_end0;exact ⟨rfl,HE.out⟩
 ·have HC:=Lh (put64_any b n c x T S w hT (by have:n < 256 ^ 8:=hn;omega) hS h)
  clear hS h hg hn c0
  go_enter Tryz.func208,Tryz.ntmps208
  go_wp2_with fail
  refine HC.out.mono ?_
  rintro e W ⟨rfl,hb,hd⟩
  have HE:=Lh (And.intro hb hd)
  clear hb hd
  go_wp2_with fail
  go_end0;exact ⟨rfl,HE.out⟩
open Go.ChangeShapes Go.WideShapes Go.ChangeAt Go.RowKit
structure Two (w w':World) (b c:Nat):Prop where
 os:w'.os=w.os
 tape:w'.tape=w.tape
 output:w'.output=w.output
 size:w.heap.size≤w'.heap.size
 block:∀k,k < w.heap.size→k≠b→k≠c→w'.heap[k]?=w.heap[k]?
namespace Two
variable {w w' w'':World} {b c:Nat}
theorem refl (w:World) (b c:Nat):Two w w b c:=⟨rfl,rfl,rfl,Nat.le_refl _,fun _ _ _ _=>rfl⟩
theorem trans (h:Two w w' b c) (h':Two w' w'' b c):Two w w'' b c:=⟨h'.os.trans h.os,h'.tape.trans h.tape,h'.output.trans h.output,Nat.le_trans h.size h'.size,fun k hk hb hc=>(h'.block k (Nat.lt_of_lt_of_le hk h.size) hb hc).trans (h.block k hk hb hc)⟩
theorem left (h:w.grownBy w' (some b)):Two w w' b c:=⟨h.os,h.tape,h.output,h.size,fun k hk hb _=>h.block k hk (by intro q;injection q with q;exact hb q)⟩
theorem right (h:w.grownBy w' (some c)):Two w w' b c:=⟨h.os,h.tape,h.output,h.size,fun k hk _ hc=>h.block k hk (by intro q;injection q with q;exact hc q)⟩
theorem of_below (h:Below w.heap.size w w'):Two w w' b c:=⟨h.os,h.tape,h.output,h.size,fun k hk _ _=>h.block k hk⟩
theorem blk (h:Two w w' b c) {g:Nat} {t:TypeId} {cs:Array Value} (hg:Blk w g t cs) (hb:g≠b) (hc:g≠c):Blk w' g t cs:=hg.same (h.block g hg.lt hb hc)
theorem below (h:Two w w' b c) {B:Nat} (hb:B≤b) (hc:B≤c) (hs:B≤w.heap.size):Below B w w':=
 ⟨h.os,h.tape,h.output,h.size,fun k hk=>h.block k (Nat.lt_of_lt_of_le hk hs) (Nat.ne_of_lt (Nat.lt_of_lt_of_le hk hb)) (Nat.ne_of_lt (Nat.lt_of_lt_of_le hk hc))⟩
end Two
structure Rb (w:World) (b c:Nat) (s:ByteArray) (k:Nat) (br:Bool) (x:Ds):Prop where
 body:Bd w b (ptr c) x ⟨#[]⟩
 cur:Cur w c s k br
 at_:k≤s.size
 ne:b≠c
namespace Rb
variable {w w':World} {b c:Nat} {s:ByteArray} {k k':Nat} {br br':Bool} {x y:Ds}
theorem below (h:Rb w b c s k br x) (q:Below w.heap.size w w'):Rb w' b c s k br x:=⟨h.body.below q h.body.lt,Blk.below h.cur q (Blk.lt h.cur),h.at_,h.ne⟩
theorem alloc (h:Rb w b c s k br x) (o:Obj):Rb (w.alloc o) b c s k br x:=⟨h.body.alloc o,Blk.alloc h.cur o,h.at_,h.ne⟩
theorem moved (h:Rb w b c s k br x) {n:Int} (hm:aT w w' c s (dK s k br n) (brO s k br n)):Rb w' b c s (dK s k br n) (brO s k br n) x:=⟨Blk.grown h.body hm.1 (by intro q;injection q with q;exact h.ne q),hm.2,jL s k br n h.at_,h.ne⟩
theorem turned (h:Rb w b c s k br x) (hg:w.grownBy w' (some b)) (hd:Bd w' b (ptr c) y ⟨#[]⟩):Rb w' b c s k br y:=⟨hd,Blk.grown h.cur hg (by intro q;injection q with q;exact h.ne q.symm),h.at_,h.ne⟩
theorem drewN (h:Rb w b c s k br x) (n:Nat):Rb (w.drewN n) b c s k br x:=⟨Blk.drewN h.body n,Blk.drewN h.cur n,h.at_,h.ne⟩
end Rb
abbrev r32 (c:Nat):Value:=.func (.func 176) #[ptr c] #[]
abbrev r64 (c:Nat):Value:=.func (.func 168) #[ptr c] #[]
abbrev rclo (g:Nat):Value:=.func (.func 209) #[] #[ptr (g+1),ptr g]
structure Rcl (w:World) (g c:Nat):Prop where
 b32:Blk w g 237 #[r32 c]
 b64:Blk w (g+1) 230 #[r64 c]
theorem lK (c:Nat) (w:World):
  Calls Tryz.prog 187 #[r32 c,r64 c] w fun e w'=>e= .returned (rclo w.heap.size)∧Rcl w' w.heap.size c∧Below w.heap.size w w':=by
 have hb:Below w.heap.size w ((w.alloc (.cells #[r32 c] 237)).alloc (.cells #[r64 c] 230)):=((Below.refl _ w).alloc (Nat.le_refl _) _).alloc (by simp) _
 have h1:Blk ((w.alloc (.cells #[r32 c] 237)).alloc (.cells #[r64 c] 230)) w.heap.size 237 #[r32 c]:=(Blk.new _ _ _).alloc _
 have h2:Blk ((w.alloc (.cells #[r32 c] 237)).alloc (.cells #[r64 c] 230)) (w.heap.size+1) 230 #[r64 c]:=by
  have:=Blk.new (w.alloc (.cells #[r32 c] 237)) 230 #[r64 c]
  simpa using this
 have HE:=Lh (show Rcl ((w.alloc (.cells #[r32 c] 237)).alloc (.cells #[r64 c] 230)) w.heap.size c∧Below w.heap.size w ((w.alloc (.cells #[r32 c] 237)).alloc (.cells #[r64 c] 230)) from ⟨⟨h1,h2⟩,hb⟩)
 clear hb h1 h2
 go_enter Tryz.func187,Tryz.ntmps187
 go_wp2_with fail
 go_ret;exact ⟨rfl,HE.out⟩
theorem rclo_any (l:Bool) (g c:Nat) (s:ByteArray) (k:Nat) (br:Bool) (w:World) (hs:s.size≤9223372036854775807) (hk:k≤s.size) (h:Cur w c s k br) (hg:Rcl w g c):
  Calls Tryz.prog 209 #[.bool l,ptr (g+1),ptr g] w fun e w'=>e= .returned (.int .u64 (numO s k br (wA true l):Nat))∧aT w w' c s (dK s k br (wA true l:Nat)) (brO s k br (wA true l:Nat)):=by
 have c0:=hg.b32.cell 0
 have c1:=hg.b64.cell 0
 simp only [List.getElem?_toArray,List.getElem?_cons_zero] at c0 c1
 cases l
 ·have HC:=Lh (U32_any c s k br w hs hk h)
  have hn:=numO_le_4 s k br
  obtain ⟨n,hN⟩:=eqx (numO s k br 4)
  rw [show numO s k br (wA true false)=n from hN.symm,show (wA true false:Nat)=4 from rfl]
  rw [←hN] at HC hn
  have hc:(n:Int)%18446744073709551616=(n:Int):=by omega
  clear h hg c1 hN
  go_enter Tryz.func209,Tryz.ntmps209
  go_wp2_with fail
  refine HC.out.mono ?_
  rintro e W ⟨rfl,hm⟩
  have HE:=Lh hm
  clear hm
  go_wp2_with fail
  go_ret;exact ⟨rfl,HE.out⟩
 ·have HC:=Lh (wY c s k br w hs hk h)
  obtain ⟨n,hN⟩:=eqx (numO s k br 8)
  rw [show numO s k br (wA true true)=n from hN.symm,show (wA true true:Nat)=8 from rfl]
  rw [←hN] at HC
  clear h hg c0 hN
  go_enter Tryz.func209,Tryz.ntmps209
  go_wp2_with fail
  refine HC.out.mono ?_
  rintro e W ⟨rfl,hm⟩
  have HE:=Lh hm
  clear hm
  go_wp2_with fail
  go_ret;exact ⟨rfl,HE.out⟩
def rZ (g:Nat):Ds:=Ds.bare ⟨fl g 16,fl g 1,fl g 2,0,fl g 4,fl g 8,0,0,0,false,0⟩
def sF (cs:Array Value):Nat→List Value→Array Value
 | _,[]=>cs
 | o,v::r=>sF (cs.setIfInBounds o v) (o+1) r
theorem _root_.Go.Proofs.YtnlhhjhidkjlbaaGreatDoor.Blk.wW {g:Nat} {t:TypeId}:∀(vs:List Value) (o:Nat) (w:World) (cs:Array Value),Blk w g t cs→Blk (w.setCells g o vs) g t (sF cs o vs)
 | [],_,_,_,h=>h
 | v::r,o,w,cs,h=>Blk.wW r (o+1) _ _ (h.fV o v)
theorem kU {g:Nat}:∀(vs:List Value) (o:Nat) (a w:World),a.grownBy w (some g)→a.grownBy (w.setCells g o vs) (some g)
 | [],_,_,_,h=>h
 | v::r,o,a,w,h=>kU r (o+1) a _ (aZ h rfl v)
theorem bdv_set (c:Value) (x y:Ds) (T:ByteArray):sF (bdv c x T) 1 (dsv y).toList=bdv c y T:=by kernel_rfl
theorem store_ds {ops:Array Oper} {rest:List Oper} {o:Oper} {a:Act} {w:World} {Q:Exit→Act→World→Prop} (hgd:o.guard=none) (u v:Operand) (ho:o.op= .store 30 u v) (b:Nat) (hx:a.eval u= .pointer (some ⟨b,1,none⟩)) (c:Value) (x y:Ds) (T:ByteArray) (hy:a.eval v= .agg (dsv y)) (hb:Bd w b c x T)
  (h:∀w',w.grownBy w' (some b)→Bd w' b c y T→wpList Tryz.prog ops Q rest (a.put o.dst undef) w'):wpList Tryz.prog ops Q (o::rest) a w:=by
 refine wpList_store_mid hgd 30 u v ho b 1 (dsv y) hx hy ?_ dG (rC y) (h _ ?_ ?_)
 ·intro j hj
  have hj:j < 11:=hj
  refine ⟨?_,Blk.frozen hb _⟩
  rw [hb.cell]
  have:(1+j) < (bdv c x T).size:=by show 1+j < 13;omega
  rw [Array.getElem?_eq_getElem this];rfl
 ·exact kU _ _ _ _ (.refl _ _)
 ·have:=Blk.wW (dsv y).toList 1 w _ hb
  rw [bdv_set] at this
  exact this
def Fronted (w:World) (b c:Nat) (s:ByteArray) (e:Ending) (w':World):Prop:=∃v:Int,e= .returned (.int .i64 v)∧Two w w' b c∧((v≠0∧dec s=(.zero,v))∨(v=0∧2≤s.size∧byteAt s 0 / 16=2∧¬(fl (byteAt s 1) 1=false∧fl (byteAt s 1) 4=false)∧Rb w' b c s 2 false (rZ (byteAt s 1))))
theorem byte_16 (n:Nat) (h:n < 256):(n:Int).tdiv 16=((n / 16:Nat):Int):=by rw [Int.tdiv_eq_ediv_of_nonneg (by omega)];omega
theorem byte_and5:∀c:Fin 256,(bits .and .u8 (c.val:Int) 5==0)=(!(fl c.val 1) && !(fl c.val 4)):=by decide+kernel
theorem qN:∀c:Fin 256,(!(bits .and .u8 (c.val:Int) 1==0))=fl c.val 1:=by decide+kernel
theorem byte_and2:∀c:Fin 256,(!(bits .and .u8 (c.val:Int) 2==0))=fl c.val 2:=by decide+kernel
theorem byte_and4:∀c:Fin 256,(!(bits .and .u8 (c.val:Int) 4==0))=fl c.val 4:=by decide+kernel
theorem byte_and8:∀c:Fin 256,(!(bits .and .u8 (c.val:Int) 8==0))=fl c.val 8:=by decide+kernel
theorem byte_and16:∀c:Fin 256,(!(bits .and .u8 (c.val:Int) 16==0))=fl c.val 16:=by decide+kernel
open Go.ChangeShapes Go.WideShapes Go.ChangeAt Go.RowKit
theorem putFront_any (b:Nat) (c:Value) (x:Ds) (T S1 S:ByteArray) (w:World) (hT:T.size≤1000) (h1:T++txt (be 1 32)=S1) (hS:S1++txt (be 1 x.bits)=S) (h:Bd w b c x T):
  Calls Tryz.prog 118 #[ptr b] w (Wrote w b c x S):=by
 have hz1:S1.size≤1001:=by rw [←h1,ByteArray.size_append,aN,aH];omega
 have H:=Lh h
 have H1:=Lh h1
 have HS:=Lh hS
 clear h h1 hS
 go_enter Tryz.func118,Tryz.ntmps118
 go_wp2_with fail
 refine (put8_any b 32 c x T S1 w (by omega) (by omega) H1.out H.out).mono ?_
 rintro e W1 ⟨rfl,g1,d1⟩
 have HD1:=Lh d1
 have HG1:=Lh g1
 clear d1 g1 H
 go_wp2_with (refine nS rfl _ rfl b rfl c x S1 ?_ ?_;exact HD1.out)
 refine (bitsOf_any x W1).mono ?_
 rintro e W2 ⟨rfl,b2⟩
 have HD2:=Lh (HD1.out.below b2 HD1.out.lt)
 have HG2:=Lh (HG1.out.trans (bM b2 (some b)))
 clear b2 HD1 HG1
 go_wp2_with fail
 refine (put8_any b x.bits c x S1 S W2 (by omega) (by have:=x.bits_lt;omega) HS.out HD2.out).mono ?_
 rintro e W3 ⟨rfl,g3,d3⟩
 have HE:=Lh (And.intro (HG2.out.trans g3) d3)
 clear g3 d3 HD2 HG2
 go_wp2_with fail
 go_end0;exact ⟨rfl,HE.out⟩
theorem putAck_any (b:Nat) (c:Value) (x:Ds) (T S:ByteArray) (w:World) (hT:T.size≤1000) (hn:x.ack < 256 ^ wA x.ha x.la) (hS:T++txt (be (wA x.ha x.la) x.ack)=S) (h:Bd w b c x T):
  Calls Tryz.prog 119 #[ptr b] w (Wrote w b c x S):=by
 obtain ⟨fin,ha,la,ack,hm,ld,dsn,ssn,len,hs,sum⟩:=x
 cases ha
 ·have hS:T=S:=by rw [←hS];exact (nT T).symm
  subst hS
  have H:=Lh h
  obtain ⟨W1,hW1⟩:=eqx (w.alloc (.cells #[.bool fin,.bool false,.bool la,.int .u64 (ack:Int),.bool hm,.bool ld,.int .u64 (dsn:Int),.int .u32 (ssn:Int),.int .i64 len,.bool hs,.int .u16 (sum:Int)] 30))
  obtain ⟨g,hg⟩:=eqx w.heap.size
  have HX:=Lh (show Blk W1 g 30 (dsv (⟨fin,false,la,ack,hm,ld,dsn,ssn,len,hs,sum⟩:Ds)) by rw [hW1,hg];exact Blk.new _ _ _)
  have HD:=Lh (show Bd W1 b c (⟨fin,false,la,ack,hm,ld,dsn,ssn,len,hs,sum⟩:Ds) T by rw [hW1];exact h.alloc _)
  have HG:=Lh (show w.grownBy W1 (some b) by rw [hW1];exact bZ (.refl _ _) _)
  have hne:b≠g:=by rw [hg];exact Nat.ne_of_lt h.lt
  have HNE:=Lh (show some g≠some b by intro q;injection q with q;exact hne q.symm)
  have HW1:=Lh hW1
  have HGE:=Lh hg
  clear hW1 hg h hne
  go_enter Tryz.func119,Tryz.ntmps119
  go_wp2_with (refine nS rfl _ rfl b rfl c (⟨fin,false,la,ack,hm,ld,dsn,ssn,len,hs,sum⟩:Ds) T ?_ ?_;exact H.out)
  rw [←HW1.out]
  go_wp2_with fail
  go_end0;exact ⟨rfl,HG.out,HD.out⟩
 ·have HN:=Lh (show ack < 256 ^ wA true la from hn)
  have HS:=Lh (show T++txt (be (wA true la) ack)=S from hS)
  clear hn hS
  have H:=Lh h
  obtain ⟨W1,hW1⟩:=eqx (w.alloc (.cells #[.bool fin,.bool true,.bool la,.int .u64 (ack:Int),.bool hm,.bool ld,.int .u64 (dsn:Int),.int .u32 (ssn:Int),.int .i64 len,.bool hs,.int .u16 (sum:Int)] 30))
  obtain ⟨g,hg⟩:=eqx w.heap.size
  have HX:=Lh (show Blk W1 g 30 (dsv (⟨fin,true,la,ack,hm,ld,dsn,ssn,len,hs,sum⟩:Ds)) by rw [hW1,hg];exact Blk.new _ _ _)
  have HD:=Lh (show Bd W1 b c (⟨fin,true,la,ack,hm,ld,dsn,ssn,len,hs,sum⟩:Ds) T by rw [hW1];exact h.alloc _)
  have HG:=Lh (show w.grownBy W1 (some b) by rw [hW1];exact bZ (.refl _ _) _)
  have hne:b≠g:=by rw [hg];exact Nat.ne_of_lt h.lt
  have HNE:=Lh (show some g≠some b by intro q;injection q with q;exact hne q.symm)
  have HW1:=Lh hW1
  have HGE:=Lh hg
  clear hW1 hg h hne
  go_enter Tryz.func119,Tryz.ntmps119
  go_wp2_with (refine nS rfl _ rfl b rfl c (⟨fin,true,la,ack,hm,ld,dsn,ssn,len,hs,sum⟩:Ds) T ?_ ?_;exact H.out)
  rw [←HW1.out]
  refine (writer_any b W1).mono ?_
  rintro e W2 ⟨rfl,q,b2⟩
  have HQ:=Lh q
  have HX2:=Lh (HX.out.below b2 HX.out.lt)
  have HD2:=Lh (HD.out.below b2 HD.out.lt)
  have HG2:=Lh (HG.out.trans (bM b2 (some b)))
  clear q b2 HX HD HG
  rw [←HGE.out]
  have c3:=HX2.out.cell 3
  have c2:=HX2.out.cell 2
  simp only [List.getElem?_toArray,List.getElem?_cons_zero,List.getElem?_cons_succ] at c3 c2
  go_wp2_with fail
  refine (wclo_any la ack W1.heap.size b c (⟨fin,true,la,ack,hm,ld,dsn,ssn,len,hs,sum⟩:Ds) T S W2 (by omega) HN.out HS.out HD2.out HQ.out).mono ?_
  rintro e W3 ⟨rfl,g3,d3⟩
  have HD3:=Lh d3
  have HX3:=Lh (HX2.out.grown g3 HNE.out)
  have HG3:=Lh (HG2.out.trans g3)
  clear g3 d3 HD2 HX2 HG2 c3 c2
  go_wp2_with fail
  go_end0;exact ⟨rfl,HG3.out,HD3.out⟩
theorem putSum_any (b:Nat) (c:Value) (x:Ds) (T S:ByteArray) (w:World) (hT:T.size≤1000) (hn:x.sum≤65535) (hS:T++txt (be (w2 x.hs) x.sum)=S) (h:Bd w b c x T):
  Calls Tryz.prog 121 #[ptr b] w (Wrote w b c x S):=by
 obtain ⟨fin,ha,la,ack,hm,ld,dsn,ssn,len,hs,sum⟩:=x
 have H:=Lh h
 have c10:=H.out.cell 10
 have c11:=H.out.cell 11
 simp only [List.getElem?_toArray,List.getElem?_cons_zero,List.getElem?_cons_succ] at c10 c11
 cases hs
 ·have hS:T=S:=by rw [←hS];exact (nT T).symm
  subst hS
  clear h
  go_enter Tryz.func121,Tryz.ntmps121
  go_wp2_with fail
  go_end0;exact ⟨rfl,.refl _ _,H.out⟩
 ·have HS:=Lh (show T++txt (be 2 sum)=S from hS)
  clear hS h
  go_enter Tryz.func121,Tryz.ntmps121
  go_wp2_with fail
  refine (put16_any b sum c (⟨fin,ha,la,ack,hm,ld,dsn,ssn,len,true,sum⟩:Ds) T S w (by omega) hn HS.out H.out).mono ?_
  rintro e W1 ⟨rfl,g1,d1⟩
  have HD1:=Lh d1
  have HG1:=Lh g1
  clear g1 d1 H c10 c11
  go_wp2_with fail
  go_end0;exact ⟨rfl,HG1.out,HD1.out⟩
theorem putMap_any (b:Nat) (c:Value) (x:Ds) (T S:ByteArray) (w:World) (hT:T.size≤1000) (hn:x.dsn < 256 ^ wA x.hm x.ld) (hs4:x.ssn≤4294967295) (hl:0≤x.len∧x.len≤65535) (S1 S2:ByteArray) (h1:T++txt (be (wA x.hm x.ld) x.dsn)=S1) (h2:S1++txt (be (w4 x.hm) x.ssn)=S2) (hS:S2++txt (be (w2 x.hm) x.len.toNat)=S) (h:Bd w b c x T):
  Calls Tryz.prog 120 #[ptr b] w (Wrote w b c x S):=by
 obtain ⟨fin,ha,la,ack,hm,ld,dsn,ssn,len,hs,sum⟩:=x
 cases hm
 ·have h1:T=S1:=by rw [←h1];exact (nT T).symm
  subst h1
  have h2:T=S2:=by rw [←h2];exact (nT T).symm
  subst h2
  have hS:T=S:=by rw [←hS];exact (nT T).symm
  subst hS
  have H:=Lh h
  obtain ⟨W1,hW1⟩:=eqx (w.alloc (.cells #[.bool fin,.bool ha,.bool la,.int .u64 (ack:Int),.bool false,.bool ld,.int .u64 (dsn:Int),.int .u32 (ssn:Int),.int .i64 len,.bool hs,.int .u16 (sum:Int)] 30))
  obtain ⟨g,hg⟩:=eqx w.heap.size
  have HX:=Lh (show Blk W1 g 30 (dsv (⟨fin,ha,la,ack,false,ld,dsn,ssn,len,hs,sum⟩:Ds)) by rw [hW1,hg];exact Blk.new _ _ _)
  have HD:=Lh (show Bd W1 b c (⟨fin,ha,la,ack,false,ld,dsn,ssn,len,hs,sum⟩:Ds) T by rw [hW1];exact h.alloc _)
  have HG:=Lh (show w.grownBy W1 (some b) by rw [hW1];exact bZ (.refl _ _) _)
  have hne:b≠g:=by rw [hg];exact Nat.ne_of_lt h.lt
  have HNE:=Lh (show some g≠some b by intro q;injection q with q;exact hne q.symm)
  have HW1:=Lh hW1
  have HGE:=Lh hg
  clear hW1 hg h hne
  go_enter Tryz.func120,Tryz.ntmps120
  go_wp2_with (refine nS rfl _ rfl b rfl c (⟨fin,ha,la,ack,false,ld,dsn,ssn,len,hs,sum⟩:Ds) T ?_ ?_;exact H.out)
  rw [←HW1.out]
  go_wp2_with fail
  go_end0;exact ⟨rfl,HG.out,HD.out⟩
 ·have hz1:S1.size≤1008:=by rw [←h1,ByteArray.size_append,aN,aH];have:=xG true ld;show _+wA true ld≤_;omega
  have hz2:S2.size≤1012:=by rw [←h2,ByteArray.size_append,aN,aH];show _+4≤_;omega
  obtain ⟨n,hln⟩:∃n:Nat,len=(n:Int):=⟨len.toNat,by have:=hl.1;simp only [] at this;omega⟩
  subst hln
  have hn2:n≤65535:=by have:=hl.2;simp only [] at this;omega
  have hc:(n:Int)%65536=(n:Int):=by omega
  have HN:=Lh (show dsn < 256 ^ wA true ld from hn)
  have H4:=Lh (show ssn≤4294967295 from hs4)
  have H1:=Lh (show T++txt (be (wA true ld) dsn)=S1 from h1)
  have H2:=Lh (show S1++txt (be 4 ssn)=S2 from h2)
  have HS:=Lh (show S2++txt (be 2 n)=S from hS)
  clear hn h1 h2 hS hs4 hl
  have H:=Lh h
  obtain ⟨W1,hW1⟩:=eqx (w.alloc (.cells #[.bool fin,.bool ha,.bool la,.int .u64 (ack:Int),.bool true,.bool ld,.int .u64 (dsn:Int),.int .u32 (ssn:Int),.int .i64 (n:Int),.bool hs,.int .u16 (sum:Int)] 30))
  obtain ⟨g,hg⟩:=eqx w.heap.size
  have HX:=Lh (show Blk W1 g 30 (dsv (⟨fin,ha,la,ack,true,ld,dsn,ssn,(n:Int),hs,sum⟩:Ds)) by rw [hW1,hg];exact Blk.new _ _ _)
  have HD:=Lh (show Bd W1 b c (⟨fin,ha,la,ack,true,ld,dsn,ssn,(n:Int),hs,sum⟩:Ds) T by rw [hW1];exact h.alloc _)
  have HG:=Lh (show w.grownBy W1 (some b) by rw [hW1];exact bZ (.refl _ _) _)
  have hne:b≠g:=by rw [hg];exact Nat.ne_of_lt h.lt
  have HNE:=Lh (show some g≠some b by intro q;injection q with q;exact hne q.symm)
  have HW1:=Lh hW1
  have HGE:=Lh hg
  clear hW1 hg h hne
  go_enter Tryz.func120,Tryz.ntmps120
  go_wp2_with (refine nS rfl _ rfl b rfl c (⟨fin,ha,la,ack,true,ld,dsn,ssn,(n:Int),hs,sum⟩:Ds) T ?_ ?_;exact H.out)
  rw [←HW1.out]
  refine (writer_any b W1).mono ?_
  rintro e W2 ⟨rfl,q,b2⟩
  have HQ:=Lh q
  have HX2:=Lh (HX.out.below b2 HX.out.lt)
  have HD2:=Lh (HD.out.below b2 HD.out.lt)
  have HG2:=Lh (HG.out.trans (bM b2 (some b)))
  clear q b2 HX HD HG
  rw [←HGE.out]
  have c6:=HX2.out.cell 6
  have c5:=HX2.out.cell 5
  simp only [List.getElem?_toArray,List.getElem?_cons_zero,List.getElem?_cons_succ] at c6 c5
  go_wp2_with fail
  refine (wclo_any ld dsn W1.heap.size b c (⟨fin,ha,la,ack,true,ld,dsn,ssn,(n:Int),hs,sum⟩:Ds) T S1 W2 (by omega) HN.out H1.out HD2.out HQ.out).mono ?_
  rintro e W3 ⟨rfl,g3,d3⟩
  have HD3:=Lh d3
  have HX3:=Lh (HX2.out.grown g3 HNE.out)
  have HG3:=Lh (HG2.out.trans g3)
  clear g3 d3 HD2 HX2 HG2 c6 c5
  have c7:=HX3.out.cell 7
  simp only [List.getElem?_toArray,List.getElem?_cons_zero,List.getElem?_cons_succ] at c7
  go_wp2_with fail
  refine (put32_any b ssn c (⟨fin,ha,la,ack,true,ld,dsn,ssn,(n:Int),hs,sum⟩:Ds) S1 S2 W3 (by omega) H4.out H2.out HD3.out).mono ?_
  rintro e W4 ⟨rfl,g4,d4⟩
  have HD4:=Lh d4
  have HX4:=Lh (HX3.out.grown g4 HNE.out)
  have HG4:=Lh (HG3.out.trans g4)
  clear g4 d4 HD3 HX3 HG3 c7
  have c8:=HX4.out.cell 8
  simp only [List.getElem?_toArray,List.getElem?_cons_zero,List.getElem?_cons_succ] at c8
  go_wp2_with fail
  refine (put16_any b n c (⟨fin,ha,la,ack,true,ld,dsn,ssn,(n:Int),hs,sum⟩:Ds) S2 S W4 (by omega) hn2 HS.out HD4.out).mono ?_
  rintro e W5 ⟨rfl,g5,d5⟩
  have HD5:=Lh d5
  have HG5:=Lh (HG4.out.trans g5)
  clear g5 d5 HD4 HX4 HG4 c8
  go_wp2_with fail
  go_end0;exact ⟨rfl,HG5.out,HD5.out⟩
open Go.ChangeShapes Go.WideShapes Go.ChangeAt Go.RowKit
theorem lX (x y:Ds) (B:Bool) (h:deq x y=B) (w:World):(Op.equalIn 10000 30 (.agg (dsv x)) (.agg (dsv y))).run Tryz.prog w= .ok B w:=by rw [←h];exact ds_equal x y w
theorem nN (n:Nat) (l B:Bool) (h:(l || decide (n≤4294967295))=B) (hn:n≤18446744073709551615) (w:World):Calls Tryz.prog 179 #[.int .u64 (n:Int),.bool l] w (Rt w (.bool B)):=by rw [←h];exact fits_any n l w hn
def dC (x:Ds):Bool:=(x.ha || x.hm) && (deq x (Ds.bare x) && ((x.la || decide (x.ack≤4294967295)) && ((x.ld || decide (x.dsn≤4294967295)) && (decide ((0:Int)≤x.len) && decide (x.len≤(65535:Int))))))
theorem mF (x:Ds):dC x=decide x.May:=by
 have h1:deq x x.bare=decide x.Bare:=by
  rw [Bool.eq_iff_iff,decide_eq_true_iff,wQ,←Ds.bare_iff]
  exact eq_comm
 unfold dC
 rw [h1,Bool.eq_iff_iff]
 simp only [Bool.and_eq_true,Bool.or_eq_true,decide_eq_true_eq]
theorem valid_any_ (fin:Bool) (ha:Bool) (la:Bool) (ack:Nat) (hm:Bool) (ld:Bool) (dsn:Nat) (ssn:Nat) (len:Int) (hs:Bool) (sum:Nat) (hx:Ds.Ok (⟨fin,ha,la,ack,hm,ld,dsn,ssn,len,hs,sum⟩:Ds)) (w:World):
  Calls Tryz.prog 117 #[.agg (dsv (⟨fin,ha,la,ack,hm,ld,dsn,ssn,len,hs,sum⟩:Ds))] w (Rt w (.bool (dC (⟨fin,ha,la,ack,hm,ld,dsn,ssn,len,hs,sum⟩:Ds)))):=by
 obtain ⟨V,hV⟩:=eqx (w.alloc (.cells (dsv (⟨fin,ha,la,ack,hm,ld,dsn,ssn,len,hs,sum⟩:Ds)) 30))
 obtain ⟨b0,hb0⟩:=eqx w.heap.size
 obtain ⟨M,hM⟩:∃M,dC (⟨fin,ha,la,ack,hm,ld,dsn,ssn,len,hs,sum⟩:Ds)=M:=⟨_,rfl⟩
 have HM:=Lh hM
 rw [hM]
 have HX:=Lh (show Blk V b0 30 (dsv (⟨fin,ha,la,ack,hm,ld,dsn,ssn,len,hs,sum⟩:Ds)) by rw [hV,hb0];exact Blk.new _ _ _)
 have HBV:Below w.heap.size w V:=by rw [hV];exact (Below.refl _ w).alloc (Nat.le_refl _) _
 have HE:=Lh (fun (W:World) (b:Below V.heap.size V W)=>HBV.trans (b.mono HBV.size))
 have HV:=Lh hV
 have HB:=Lh hb0
 have HO:=Lh hx
 clear hV hb0 HBV hM
 go_enter Tryz.func117,Tryz.ntmps117
 go_upto_region 1 with fail
 rw [←HV.out,←HB.out]
 clear HV
 refine dD (n:=37) rfl fun W0 B0=>?_
 refine stF 0 (.pointer (some ⟨b0,1,none⟩)) rfl B0 ?_
 rcases ha with _ | _
 ·refine stG 1 (.bool false) rfl B0 (fun W b=>xLd 4 (.tmp 3) ⟨b0,1,none⟩ ((HX.out.below b HX.out.lt).cell 1)) (stF 2 (.bool false) rfl B0 (stF 3 (.pointer (some ⟨b0,4,none⟩)) rfl B0 ?_))
  rcases hm with _ | _
  ·refine stG 4 (.bool false) rfl B0 (fun W b=>xLd 4 (.tmp 6) ⟨b0,4,none⟩ ((HX.out.below b HX.out.lt).cell 4)) (stF 5 (.bool false) rfl B0 (stF 6 (.bool false) rfl B0 (stP 7 rfl B0 (stP 8 rfl B0 (stP 9 rfl B0 (stP 10 rfl B0 (stF 11 (.bool false) rfl B0 (stF 12 (.bool false) rfl B0 (stP 13 rfl B0 ?_)))))))))
   refine stP 14 rfl B0 (stP 15 rfl B0 (stP 16 rfl B0 (stP 17 rfl B0 (stF 18 (.bool false) rfl B0 (stF 19 (.bool false) rfl B0 (stP 20 rfl B0 (stP 21 rfl B0 (stP 22 rfl B0 (stP 23 rfl B0 ?_)))))))))
   refine stP 24 rfl B0 (stF 25 (.bool false) rfl B0 (stF 26 (.bool false) rfl B0 (stP 27 rfl B0 (stP 28 rfl B0 (stP 29 rfl B0 (stF 30 (.bool false) rfl B0 (stF 31 (.bool false) rfl B0 (stP 32 rfl B0 (stP 33 rfl B0 ?_)))))))))
   refine stP 34 rfl B0 (stF 35 (.bool false) rfl B0 (stF 36 (.bool false) rfl B0 ?_))
   refine aJ (by kernel_rfl) ?_
   go_wp2_with fail
   exact aP 2 (.bool false) (by kernel_rfl) (by kernel_rfl) (by kernel_rfl) ⟨by rw [←HM.out];unfold dC;simp [],HE.out _ B0⟩
  ·refine stG 4 (.bool true) rfl B0 (fun W b=>xLd 4 (.tmp 6) ⟨b0,4,none⟩ ((HX.out.below b HX.out.lt).cell 4)) (stF 5 (.bool true) rfl B0 (stF 6 (.bool true) rfl B0 (stG 7 (.agg (dsv (⟨fin,false,la,ack,true,ld,dsn,ssn,len,hs,sum⟩:Ds))) rfl B0 (fun W b=>xRw 30 (.tmp 1) b0 (HX.out.below b HX.out.lt) Tryz.underlying30 dG) (stG 8 (.agg (dsv (⟨fin,false,la,ack,true,ld,dsn,ssn,len,hs,sum⟩:Ds))) rfl B0 (fun W b=>xRw 30 (.tmp 1) b0 (HX.out.below b HX.out.lt) Tryz.underlying30 dG) ?_))))
   refine stB 9 rfl (rF (⟨fin,false,la,ack,true,ld,dsn,ssn,len,hs,sum⟩:Ds) _) B0 fun W1 B1=>?_
   clear B0
   rcases Bool.eq_false_or_eq_true (deq (⟨fin,false,la,ack,true,ld,dsn,ssn,len,hs,sum⟩:Ds) (Ds.bare (⟨fin,false,la,ack,true,ld,dsn,ssn,len,hs,sum⟩:Ds))) with k2 | k2
   ·refine stG 10 (.bool true) rfl B1 (fun W _=>xAb 30 30 (.tmp 10) (.tmp 12) ((dsv (⟨fin,false,la,ack,true,ld,dsn,ssn,len,hs,sum⟩:Ds))) ((dsv (Ds.bare (⟨fin,false,la,ack,true,ld,dsn,ssn,len,hs,sum⟩:Ds)))) true (lX _ _ true k2 W)) (stF 11 (.bool true) rfl B1 (stF 12 (.bool true) rfl B1 (stF 13 (.pointer (some ⟨b0,3,none⟩)) rfl B1 (stG 14 (.int .u64 (ack:Int)) rfl B1 (fun W b=>xLd 22 (.tmp 16) ⟨b0,3,none⟩ ((HX.out.below b HX.out.lt).cell 3)) (stF 15 (.pointer (some ⟨b0,2,none⟩)) rfl B1 (stG 16 (.bool la) rfl B1 (fun W b=>xLd 4 (.tmp 18) ⟨b0,2,none⟩ ((HX.out.below b HX.out.lt).cell 2)) ?_))))))
    rcases Bool.eq_false_or_eq_true ((la || decide (ack≤4294967295))) with k3 | k3
    ·refine stB 17 rfl (nN ack la true k3 HO.out.ack _) B1 fun W3 B3=>?_
     clear B1
     refine stF 18 (.bool true) rfl B3 (stF 19 (.bool true) rfl B3 (stF 20 (.pointer (some ⟨b0,6,none⟩)) rfl B3 (stG 21 (.int .u64 (dsn:Int)) rfl B3 (fun W b=>xLd 22 (.tmp 23) ⟨b0,6,none⟩ ((HX.out.below b HX.out.lt).cell 6)) (stF 22 (.pointer (some ⟨b0,5,none⟩)) rfl B3 (stG 23 (.bool ld) rfl B3 (fun W b=>xLd 4 (.tmp 25) ⟨b0,5,none⟩ ((HX.out.below b HX.out.lt).cell 5)) ?_)))))
     rcases Bool.eq_false_or_eq_true ((ld || decide (dsn≤4294967295))) with k4 | k4
     ·refine stB 24 rfl (nN dsn ld true k4 HO.out.dsn _) B3 fun W4 B4=>?_
      clear B3
      refine stF 25 (.bool true) rfl B4 (stF 26 (.bool true) rfl B4 (stF 27 (.pointer (some ⟨b0,8,none⟩)) rfl B4 (stG 28 (.int .i64 len) rfl B4 (fun W b=>xLd 3 (.tmp 30) ⟨b0,8,none⟩ ((HX.out.below b HX.out.lt).cell 8)) ?_)))
      rcases Bool.eq_false_or_eq_true (decide ((0:Int)≤(len:Int))) with k5 | k5
      ·refine stG 29 (.bool true) rfl B4 (fun W _=>xLb .i64 3 3 (.const (.int .i64 0)) (.tmp 31) (0) (len) true (k5)) (stF 30 (.bool true) rfl B4 (stF 31 (.bool true) rfl B4 (stF 32 (.pointer (some ⟨b0,8,none⟩)) rfl B4 (stG 33 (.int .i64 len) rfl B4 (fun W b=>xLd 3 (.tmp 35) ⟨b0,8,none⟩ ((HX.out.below b HX.out.lt).cell 8)) ?_))))
       rcases Bool.eq_false_or_eq_true (decide ((len:Int)≤(65535:Int))) with k6 | k6
       ·refine stG 34 (.bool true) rfl B4 (fun W _=>xLb .i64 3 3 (.tmp 36) (.const (.int .i64 65535)) (len) (65535) true (k6)) (stF 35 (.bool true) rfl B4 (stF 36 (.bool true) rfl B4 ?_))
        refine aJ (by kernel_rfl) ?_
        go_wp2_with fail
        exact aP 2 (.bool true) (by kernel_rfl) (by kernel_rfl) (by kernel_rfl) ⟨by rw [←HM.out];unfold dC;simp [k2,k3,k4,k5,k6],HE.out _ B4⟩
       ·refine stG 34 (.bool false) rfl B4 (fun W _=>xLb .i64 3 3 (.tmp 36) (.const (.int .i64 65535)) (len) (65535) false (k6)) (stF 35 (.bool false) rfl B4 (stF 36 (.bool false) rfl B4 ?_))
        refine aJ (by kernel_rfl) ?_
        go_wp2_with fail
        exact aP 2 (.bool false) (by kernel_rfl) (by kernel_rfl) (by kernel_rfl) ⟨by rw [←HM.out];unfold dC;simp [k2,k3,k4,k5,k6],HE.out _ B4⟩
      ·refine stG 29 (.bool false) rfl B4 (fun W _=>xLb .i64 3 3 (.const (.int .i64 0)) (.tmp 31) (0) (len) false (k5)) (stF 30 (.bool false) rfl B4 (stF 31 (.bool false) rfl B4 (stP 32 rfl B4 (stP 33 rfl B4 (stP 34 rfl B4 (stF 35 (.bool false) rfl B4 (stF 36 (.bool false) rfl B4 ?_)))))))
       refine aJ (by kernel_rfl) ?_
       go_wp2_with fail
       exact aP 2 (.bool false) (by kernel_rfl) (by kernel_rfl) (by kernel_rfl) ⟨by rw [←HM.out];unfold dC;simp [k2,k3,k4,k5],HE.out _ B4⟩
     ·refine stB 24 rfl (nN dsn ld false k4 HO.out.dsn _) B3 fun W4 B4=>?_
      clear B3
      refine stF 25 (.bool false) rfl B4 (stF 26 (.bool false) rfl B4 (stP 27 rfl B4 (stP 28 rfl B4 (stP 29 rfl B4 (stF 30 (.bool false) rfl B4 (stF 31 (.bool false) rfl B4 (stP 32 rfl B4 (stP 33 rfl B4 (stP 34 rfl B4 ?_)))))))))
      refine stF 35 (.bool false) rfl B4 (stF 36 (.bool false) rfl B4 ?_)
      refine aJ (by kernel_rfl) ?_
      go_wp2_with fail
      exact aP 2 (.bool false) (by kernel_rfl) (by kernel_rfl) (by kernel_rfl) ⟨by rw [←HM.out];unfold dC;simp [k2,k3,k4],HE.out _ B4⟩
    ·refine stB 17 rfl (nN ack la false k3 HO.out.ack _) B1 fun W3 B3=>?_
     clear B1
     refine stF 18 (.bool false) rfl B3 (stF 19 (.bool false) rfl B3 (stP 20 rfl B3 (stP 21 rfl B3 (stP 22 rfl B3 (stP 23 rfl B3 (stP 24 rfl B3 (stF 25 (.bool false) rfl B3 (stF 26 (.bool false) rfl B3 (stP 27 rfl B3 ?_)))))))))
     refine stP 28 rfl B3 (stP 29 rfl B3 (stF 30 (.bool false) rfl B3 (stF 31 (.bool false) rfl B3 (stP 32 rfl B3 (stP 33 rfl B3 (stP 34 rfl B3 (stF 35 (.bool false) rfl B3 (stF 36 (.bool false) rfl B3 ?_))))))))
     refine aJ (by kernel_rfl) ?_
     go_wp2_with fail
     exact aP 2 (.bool false) (by kernel_rfl) (by kernel_rfl) (by kernel_rfl) ⟨by rw [←HM.out];unfold dC;simp [k2,k3],HE.out _ B3⟩
   ·refine stG 10 (.bool false) rfl B1 (fun W _=>xAb 30 30 (.tmp 10) (.tmp 12) ((dsv (⟨fin,false,la,ack,true,ld,dsn,ssn,len,hs,sum⟩:Ds))) ((dsv (Ds.bare (⟨fin,false,la,ack,true,ld,dsn,ssn,len,hs,sum⟩:Ds)))) false (lX _ _ false k2 W)) (stF 11 (.bool false) rfl B1 (stF 12 (.bool false) rfl B1 (stP 13 rfl B1 (stP 14 rfl B1 (stP 15 rfl B1 (stP 16 rfl B1 (stP 17 rfl B1 (stF 18 (.bool false) rfl B1 (stF 19 (.bool false) rfl B1 ?_)))))))))
    refine stP 20 rfl B1 (stP 21 rfl B1 (stP 22 rfl B1 (stP 23 rfl B1 (stP 24 rfl B1 (stF 25 (.bool false) rfl B1 (stF 26 (.bool false) rfl B1 (stP 27 rfl B1 (stP 28 rfl B1 (stP 29 rfl B1 ?_)))))))))
    refine stF 30 (.bool false) rfl B1 (stF 31 (.bool false) rfl B1 (stP 32 rfl B1 (stP 33 rfl B1 (stP 34 rfl B1 (stF 35 (.bool false) rfl B1 (stF 36 (.bool false) rfl B1 ?_))))))
    refine aJ (by kernel_rfl) ?_
    go_wp2_with fail
    exact aP 2 (.bool false) (by kernel_rfl) (by kernel_rfl) (by kernel_rfl) ⟨by rw [←HM.out];unfold dC;simp [k2],HE.out _ B1⟩
 ·refine stG 1 (.bool true) rfl B0 (fun W b=>xLd 4 (.tmp 3) ⟨b0,1,none⟩ ((HX.out.below b HX.out.lt).cell 1)) (stF 2 (.bool true) rfl B0 (stP 3 rfl B0 (stP 4 rfl B0 (stF 5 (.bool true) rfl B0 (stF 6 (.bool true) rfl B0 (stG 7 (.agg (dsv (⟨fin,true,la,ack,hm,ld,dsn,ssn,len,hs,sum⟩:Ds))) rfl B0 (fun W b=>xRw 30 (.tmp 1) b0 (HX.out.below b HX.out.lt) Tryz.underlying30 dG) (stG 8 (.agg (dsv (⟨fin,true,la,ack,hm,ld,dsn,ssn,len,hs,sum⟩:Ds))) rfl B0 (fun W b=>xRw 30 (.tmp 1) b0 (HX.out.below b HX.out.lt) Tryz.underlying30 dG) ?_)))))))
  refine stB 9 rfl (rF (⟨fin,true,la,ack,hm,ld,dsn,ssn,len,hs,sum⟩:Ds) _) B0 fun W7 B7=>?_
  clear B0
  rcases Bool.eq_false_or_eq_true (deq (⟨fin,true,la,ack,hm,ld,dsn,ssn,len,hs,sum⟩:Ds) (Ds.bare (⟨fin,true,la,ack,hm,ld,dsn,ssn,len,hs,sum⟩:Ds))) with k8 | k8
  ·refine stG 10 (.bool true) rfl B7 (fun W _=>xAb 30 30 (.tmp 10) (.tmp 12) ((dsv (⟨fin,true,la,ack,hm,ld,dsn,ssn,len,hs,sum⟩:Ds))) ((dsv (Ds.bare (⟨fin,true,la,ack,hm,ld,dsn,ssn,len,hs,sum⟩:Ds)))) true (lX _ _ true k8 W)) (stF 11 (.bool true) rfl B7 (stF 12 (.bool true) rfl B7 (stF 13 (.pointer (some ⟨b0,3,none⟩)) rfl B7 (stG 14 (.int .u64 (ack:Int)) rfl B7 (fun W b=>xLd 22 (.tmp 16) ⟨b0,3,none⟩ ((HX.out.below b HX.out.lt).cell 3)) (stF 15 (.pointer (some ⟨b0,2,none⟩)) rfl B7 (stG 16 (.bool la) rfl B7 (fun W b=>xLd 4 (.tmp 18) ⟨b0,2,none⟩ ((HX.out.below b HX.out.lt).cell 2)) ?_))))))
   rcases Bool.eq_false_or_eq_true ((la || decide (ack≤4294967295))) with k9 | k9
   ·refine stB 17 rfl (nN ack la true k9 HO.out.ack _) B7 fun W9 B9=>?_
    clear B7
    refine stF 18 (.bool true) rfl B9 (stF 19 (.bool true) rfl B9 (stF 20 (.pointer (some ⟨b0,6,none⟩)) rfl B9 (stG 21 (.int .u64 (dsn:Int)) rfl B9 (fun W b=>xLd 22 (.tmp 23) ⟨b0,6,none⟩ ((HX.out.below b HX.out.lt).cell 6)) (stF 22 (.pointer (some ⟨b0,5,none⟩)) rfl B9 (stG 23 (.bool ld) rfl B9 (fun W b=>xLd 4 (.tmp 25) ⟨b0,5,none⟩ ((HX.out.below b HX.out.lt).cell 5)) ?_)))))
    rcases Bool.eq_false_or_eq_true ((ld || decide (dsn≤4294967295))) with k10 | k10
    ·refine stB 24 rfl (nN dsn ld true k10 HO.out.dsn _) B9 fun W10 B10=>?_
     clear B9
     refine stF 25 (.bool true) rfl B10 (stF 26 (.bool true) rfl B10 (stF 27 (.pointer (some ⟨b0,8,none⟩)) rfl B10 (stG 28 (.int .i64 len) rfl B10 (fun W b=>xLd 3 (.tmp 30) ⟨b0,8,none⟩ ((HX.out.below b HX.out.lt).cell 8)) ?_)))
     rcases Bool.eq_false_or_eq_true (decide ((0:Int)≤(len:Int))) with k11 | k11
     ·refine stG 29 (.bool true) rfl B10 (fun W _=>xLb .i64 3 3 (.const (.int .i64 0)) (.tmp 31) (0) (len) true (k11)) (stF 30 (.bool true) rfl B10 (stF 31 (.bool true) rfl B10 (stF 32 (.pointer (some ⟨b0,8,none⟩)) rfl B10 (stG 33 (.int .i64 len) rfl B10 (fun W b=>xLd 3 (.tmp 35) ⟨b0,8,none⟩ ((HX.out.below b HX.out.lt).cell 8)) ?_))))
      rcases Bool.eq_false_or_eq_true (decide ((len:Int)≤(65535:Int))) with k12 | k12
      ·refine stG 34 (.bool true) rfl B10 (fun W _=>xLb .i64 3 3 (.tmp 36) (.const (.int .i64 65535)) (len) (65535) true (k12)) (stF 35 (.bool true) rfl B10 (stF 36 (.bool true) rfl B10 ?_))
       refine aJ (by kernel_rfl) ?_
       go_wp2_with fail
       exact aP 2 (.bool true) (by kernel_rfl) (by kernel_rfl) (by kernel_rfl) ⟨by rw [←HM.out];unfold dC;simp [k8,k9,k10,k11,k12],HE.out _ B10⟩
      ·refine stG 34 (.bool false) rfl B10 (fun W _=>xLb .i64 3 3 (.tmp 36) (.const (.int .i64 65535)) (len) (65535) false (k12)) (stF 35 (.bool false) rfl B10 (stF 36 (.bool false) rfl B10 ?_))
       refine aJ (by kernel_rfl) ?_
       go_wp2_with fail
       exact aP 2 (.bool false) (by kernel_rfl) (by kernel_rfl) (by kernel_rfl) ⟨by rw [←HM.out];unfold dC;simp [k8,k9,k10,k11,k12],HE.out _ B10⟩
     ·refine stG 29 (.bool false) rfl B10 (fun W _=>xLb .i64 3 3 (.const (.int .i64 0)) (.tmp 31) (0) (len) false (k11)) (stF 30 (.bool false) rfl B10 (stF 31 (.bool false) rfl B10 (stP 32 rfl B10 (stP 33 rfl B10 (stP 34 rfl B10 (stF 35 (.bool false) rfl B10 (stF 36 (.bool false) rfl B10 ?_)))))))
      refine aJ (by kernel_rfl) ?_
      go_wp2_with fail
      exact aP 2 (.bool false) (by kernel_rfl) (by kernel_rfl) (by kernel_rfl) ⟨by rw [←HM.out];unfold dC;simp [k8,k9,k10,k11],HE.out _ B10⟩
    ·refine stB 24 rfl (nN dsn ld false k10 HO.out.dsn _) B9 fun W10 B10=>?_
     clear B9
     refine stF 25 (.bool false) rfl B10 (stF 26 (.bool false) rfl B10 (stP 27 rfl B10 (stP 28 rfl B10 (stP 29 rfl B10 (stF 30 (.bool false) rfl B10 (stF 31 (.bool false) rfl B10 (stP 32 rfl B10 (stP 33 rfl B10 (stP 34 rfl B10 ?_)))))))))
     refine stF 35 (.bool false) rfl B10 (stF 36 (.bool false) rfl B10 ?_)
     refine aJ (by kernel_rfl) ?_
     go_wp2_with fail
     exact aP 2 (.bool false) (by kernel_rfl) (by kernel_rfl) (by kernel_rfl) ⟨by rw [←HM.out];unfold dC;simp [k8,k9,k10],HE.out _ B10⟩
   ·refine stB 17 rfl (nN ack la false k9 HO.out.ack _) B7 fun W9 B9=>?_
    clear B7
    refine stF 18 (.bool false) rfl B9 (stF 19 (.bool false) rfl B9 (stP 20 rfl B9 (stP 21 rfl B9 (stP 22 rfl B9 (stP 23 rfl B9 (stP 24 rfl B9 (stF 25 (.bool false) rfl B9 (stF 26 (.bool false) rfl B9 (stP 27 rfl B9 ?_)))))))))
    refine stP 28 rfl B9 (stP 29 rfl B9 (stF 30 (.bool false) rfl B9 (stF 31 (.bool false) rfl B9 (stP 32 rfl B9 (stP 33 rfl B9 (stP 34 rfl B9 (stF 35 (.bool false) rfl B9 (stF 36 (.bool false) rfl B9 ?_))))))))
    refine aJ (by kernel_rfl) ?_
    go_wp2_with fail
    exact aP 2 (.bool false) (by kernel_rfl) (by kernel_rfl) (by kernel_rfl) ⟨by rw [←HM.out];unfold dC;simp [k8,k9],HE.out _ B9⟩
  ·refine stG 10 (.bool false) rfl B7 (fun W _=>xAb 30 30 (.tmp 10) (.tmp 12) ((dsv (⟨fin,true,la,ack,hm,ld,dsn,ssn,len,hs,sum⟩:Ds))) ((dsv (Ds.bare (⟨fin,true,la,ack,hm,ld,dsn,ssn,len,hs,sum⟩:Ds)))) false (lX _ _ false k8 W)) (stF 11 (.bool false) rfl B7 (stF 12 (.bool false) rfl B7 (stP 13 rfl B7 (stP 14 rfl B7 (stP 15 rfl B7 (stP 16 rfl B7 (stP 17 rfl B7 (stF 18 (.bool false) rfl B7 (stF 19 (.bool false) rfl B7 ?_)))))))))
   refine stP 20 rfl B7 (stP 21 rfl B7 (stP 22 rfl B7 (stP 23 rfl B7 (stP 24 rfl B7 (stF 25 (.bool false) rfl B7 (stF 26 (.bool false) rfl B7 (stP 27 rfl B7 (stP 28 rfl B7 (stP 29 rfl B7 ?_)))))))))
   refine stF 30 (.bool false) rfl B7 (stF 31 (.bool false) rfl B7 (stP 32 rfl B7 (stP 33 rfl B7 (stP 34 rfl B7 (stF 35 (.bool false) rfl B7 (stF 36 (.bool false) rfl B7 ?_))))))
   refine aJ (by kernel_rfl) ?_
   go_wp2_with fail
   exact aP 2 (.bool false) (by kernel_rfl) (by kernel_rfl) (by kernel_rfl) ⟨by rw [←HM.out];unfold dC;simp [k8],HE.out _ B7⟩
theorem dX (x:Ds) (hx:x.Ok) (w:World):
  Calls Tryz.prog 117 #[.agg (dsv x)] w (Rt w (.bool (decide x.May))):=by
 rw [←mF]
 obtain ⟨fin,ha,la,ack,hm,ld,dsn,ssn,len,hs,sum⟩:=x
 exact valid_any_ fin ha la ack hm ld dsn ssn len hs sum hx w
open Go.ChangeShapes Go.WideShapes Go.ChangeAt Go.RowKit
def dA (x:Ds):Value:=.tuple #[.string x.enc.1,.int .i64 x.enc.2]
theorem lS (x:Ds) (h:x.May):dA x= .tuple #[.string (txt x.body),.int .i64 0]:=by unfold dA;rw [Ds.mM x h]
theorem o6 (x:Ds) (h:¬x.May):dA x= .tuple #[.string ⟨#[]⟩,.int .i64 2]:=by unfold dA;rw [Ds.mZ x h]
def ta (x:Ds):List UInt8:=[32,UInt8.ofNat x.bits]++be (wA x.ha x.la) x.ack
def tb (x:Ds):List UInt8:=ta x++be (wA x.hm x.ld) x.dsn++be (w4 x.hm) x.ssn++be (w2 x.hm) x.len.toNat
theorem ta_len (x:Ds):(txt (ta x)).size≤10:=by rw [aN];unfold ta;simp only [List.length_append,aH,List.length_cons,List.length_nil];have:=xG x.ha x.la;omega
theorem tb_len (x:Ds):(txt (tb x)).size≤24:=by
 have h:=ta_len x
 rw [aN] at h ⊢
 unfold tb
 simp only [List.length_append,aH]
 have:=xG x.hm x.ld;have:=w4_le x.hm;have:=zN x.hm
 omega
theorem t_front (x:Ds):txt [32]++txt (be 1 x.bits)=txt [32,UInt8.ofNat x.bits]:=by rw [dU];simp [be]
theorem t_first:(⟨#[]⟩:ByteArray)++txt (be 1 32)=txt [32]:=by decide
theorem t_body (x:Ds):txt (tb x)++txt (be (w2 x.hs) x.sum)=txt x.body:=by rw [dU];simp [tb,ta,Ds.body,Ds.rest]
structure En (w:World) (b s:Nat) (x:Ds) (T:ByteArray):Prop where
 body:Bd w b (.pointer none) x T
 row:Blk w s 1 #[.func (.func 118) #[ptr b] #[],.func (.func 119) #[ptr b] #[],.func (.func 120) #[ptr b] #[],.func (.func 121) #[ptr b] #[]]
theorem En.wrote {w w':World} {b s:Nat} {x:Ds} {T S:ByteArray} (h:En w b s x T) (hne:s≠b) (hg:w.grownBy w' (some b)) (hd:Bd w' b (.pointer none) x S):En w' b s x S:=⟨hd,h.row.grown hg (fun q=>by injection q with q;exact hne q)⟩
theorem dI (x:Ds) (hx:x.Ok) (w:World):
  Calls Tryz.prog 62 #[.agg (dsv x)] w (Rt w (dA x)):=by
 have HX:=Lh hx
 obtain ⟨V,hV⟩:=eqx (dA x)
 rw [←hV]
 have HC:=Lh (Blk.new w 30 (dsv x))
 have HB:=Lh ((Below.refl _ w).alloc (Nat.le_refl _) (.cells (dsv x) 30))
 have hlt:w.heap.size < (w.alloc (.cells (dsv x) 30)).heap.size:=by simp
 have HL:=Lh hlt
 clear hlt hx
 by_cases hm:x.May
 ·rw [lS x hm] at hV
  have HVV:=Lh hV
  have HM:=Lh hm
  clear hV hm
  go_enter Tryz.func62,Tryz.ntmps62
  go_wp2_with (refine wpList_load_row rfl 30 _ rfl w.heap.size rfl 30 (dsv x) (0,0) _ ?_ Tryz.underlying30 rfl dG ?_;exact HC.out)
  refine (dX x HX.out _).mono ?_
  rintro e W0 ⟨rfl,bl⟩
  rw [decide_eq_true HM.out]
  have HC0:=Lh (HC.out.below bl HL.out)
  have HB0:=Lh (HB.out.trans (bl.mono HB.out.size))
  obtain ⟨b,hb⟩:=eqx W0.heap.size
  obtain ⟨s,hs⟩:=eqx (W0.heap.size+1)
  obtain ⟨U,hU⟩:=eqx ((W0.alloc (.cells (bdv (.pointer none) x ⟨#[]⟩) 179)).alloc (.cells #[.func (.func 118) #[ptr W0.heap.size] #[],.func (.func 119) #[ptr W0.heap.size] #[],.func (.func 120) #[ptr W0.heap.size] #[],.func (.func 121) #[ptr W0.heap.size] #[]] 1))
  have HE:=Lh (show En U b s x ⟨#[]⟩ by
   rw [hU,hb,hs]
   refine ⟨(Blk.new _ _ _).alloc _,?_⟩
   have:=Blk.new (W0.alloc (.cells (bdv (.pointer none) x ⟨#[]⟩) 179)) 1 #[.func (.func 118) #[ptr W0.heap.size] #[],.func (.func 119) #[ptr W0.heap.size] #[],.func (.func 120) #[ptr W0.heap.size] #[],.func (.func 121) #[ptr W0.heap.size] #[]]
   simpa using this)
  have HBU:=Lh (show Below w.heap.size w U by rw [hU];exact (HB0.out.alloc HB0.out.size _).alloc (by have:=HB0.out.size;simp;omega) _)
  have HN:=Lh (show s≠b∧w.heap.size≤b from ⟨by omega,by rw [hb];exact HB0.out.size⟩)
  have HUE:=Lh hU
  have HBE:=Lh hb
  have HSE:=Lh hs
  clear bl HC HB HL hU hb hs
  go_wp2_with (refine wpList_load_row rfl 30 _ rfl w.heap.size rfl 30 (dsv x) (0,0) _ ?_ Tryz.underlying30 rfl dG ?_;exact HC0.out)
  rw [←HUE.out,←HSE.out,←HBE.out]
  clear HUE HBE HSE HC0 HB0
  go_loopw [23] (fun i wr=>∃j:Nat,j≤4∧i= .int .i64 (j:Int)∧(∃T,En wr b s x T∧(j=0→T=⟨#[]⟩)∧(j=1→T=txt [32,UInt8.ofNat x.bits])∧(j=2→T=txt (ta x))∧(j=3→T=txt (tb x))∧(j=4→T=txt x.body))∧Below w.heap.size w wr) (fun i _=>(4 - intOf i).toNat)
  case atStart=>exact ⟨0,by omega,rfl,⟨_,HE.out,fun _=>rfl,by omega,by omega,by omega,by omega⟩,HBU.out⟩
  case round=>
   obtain ⟨j,hj,rfl,⟨T,hE,t0,t1,t2,t3,t4⟩,hB⟩:=hrel
   have HE1:=Lh hE
   have HB1:=Lh hB
   clear hB HE HBU hE
   have cases5:j=0∨j=1∨j=2∨j=3∨j=4:=by omega
   clear hj
   rcases cases5 with rfl | rfl | rfl | rfl | rfl
   ·obtain rfl:=t0 rfl
    have c0:=HE1.out.row.cell 0
    simp only [List.getElem?_toArray,List.getElem?_cons_zero] at c0
    have HW:=Lh (putFront_any b (.pointer none) x ⟨#[]⟩ (txt [32]) (txt [32,UInt8.ofNat x.bits]) wr (by decide) t_first (t_front x) HE1.out.body)
    clear t0 t1 t2 t3 t4
    go_wp2_with fail
    refine HW.out.mono ?_
    rintro e W2 ⟨rfl,g2,d2⟩
    have HE2:=Lh (HE1.out.wrote HN.out.1 g2 d2)
    have HB2:=Lh (HB1.out.trans (aA g2 HN.out.2 HB1.out.size))
    clear g2 d2 HW
    go_wp2_with fail
    go_roundw
    case rel=>exact ⟨1,by omega,by go_num,⟨_,HE2.out,by omega,fun _=>rfl,by omega,by omega,by omega⟩,HB2.out⟩
    case measure=>simp [intOf]
   ·obtain rfl:=t1 rfl
    have c1:=HE1.out.row.cell 1
    simp only [List.getElem?_toArray,List.getElem?_cons_zero,List.getElem?_cons_succ] at c1
    have HW:=Lh (putAck_any b (.pointer none) x (txt [32,UInt8.ofNat x.bits]) (txt (ta x)) wr (by rw [aN];simp) (ack_lt x HX.out HM.out) (by rw [dU];rfl) HE1.out.body)
    clear t0 t1 t2 t3 t4
    go_wp2_with fail
    refine HW.out.mono ?_
    rintro e W2 ⟨rfl,g2,d2⟩
    have HE2:=Lh (HE1.out.wrote HN.out.1 g2 d2)
    have HB2:=Lh (HB1.out.trans (aA g2 HN.out.2 HB1.out.size))
    clear g2 d2 HW
    go_wp2_with fail
    go_roundw
    case rel=>exact ⟨2,by omega,by go_num,⟨_,HE2.out,by omega,by omega,fun _=>rfl,by omega,by omega⟩,HB2.out⟩
    case measure=>simp [intOf]
   ·obtain rfl:=t2 rfl
    have c2:=HE1.out.row.cell 2
    simp only [List.getElem?_toArray,List.getElem?_cons_zero,List.getElem?_cons_succ] at c2
    have HW:=Lh (putMap_any b (.pointer none) x (txt (ta x)) (txt (tb x)) wr (by have:=ta_len x;omega) (dsn_lt x HX.out HM.out) HX.out.ssn HM.out.2.2.2.2 _ _ rfl rfl (by rw [dU,dU,dU];rfl) HE1.out.body)
    clear t0 t1 t2 t3 t4
    go_wp2_with fail
    refine HW.out.mono ?_
    rintro e W2 ⟨rfl,g2,d2⟩
    have HE2:=Lh (HE1.out.wrote HN.out.1 g2 d2)
    have HB2:=Lh (HB1.out.trans (aA g2 HN.out.2 HB1.out.size))
    clear g2 d2 HW
    go_wp2_with fail
    go_roundw
    case rel=>exact ⟨3,by omega,by go_num,⟨_,HE2.out,by omega,by omega,by omega,fun _=>rfl,by omega⟩,HB2.out⟩
    case measure=>simp [intOf]
   ·obtain rfl:=t3 rfl
    have c3:=HE1.out.row.cell 3
    simp only [List.getElem?_toArray,List.getElem?_cons_zero,List.getElem?_cons_succ] at c3
    have HW:=Lh (putSum_any b (.pointer none) x (txt (tb x)) (txt x.body) wr (by have:=tb_len x;omega) HX.out.sum (t_body x) HE1.out.body)
    clear t0 t1 t2 t3 t4
    go_wp2_with fail
    refine HW.out.mono ?_
    rintro e W2 ⟨rfl,g2,d2⟩
    have HE2:=Lh (HE1.out.wrote HN.out.1 g2 d2)
    have HB2:=Lh (HB1.out.trans (aA g2 HN.out.2 HB1.out.size))
    clear g2 d2 HW
    go_wp2_with fail
    go_roundw
    case rel=>exact ⟨4,by omega,by go_num,⟨_,HE2.out,by omega,by omega,by omega,by omega,fun _=>rfl⟩,HB2.out⟩
    case measure=>simp [intOf]
   ·obtain rfl:=t4 rfl
    have c12:=HE1.out.body.cell 12
    simp only [List.getElem?_toArray,List.getElem?_cons_zero,List.getElem?_cons_succ] at c12
    clear t0 t1 t2 t3 t4
    go_wp2_with fail
    go_ret2
    refine ⟨?_,HB1.out⟩
    rw [HVV.out];rfl
 ·rw [o6 x hm] at hV
  subst hV
  have HM:=Lh hm
  clear hm
  go_enter Tryz.func62,Tryz.ntmps62
  go_wp2_with (refine wpList_load_row rfl 30 _ rfl w.heap.size rfl 30 (dsv x) (0,0) _ ?_ Tryz.underlying30 rfl dG ?_;exact HC.out)
  refine (dX x HX.out _).mono ?_
  rintro e W0 ⟨rfl,b⟩
  rw [decide_eq_false HM.out]
  have HB0:=Lh (HB.out.trans (b.mono HB.out.size))
  clear b
  go_wp2_with fail
  go_ret2
  exact ⟨rfl,HB0.out⟩
open Go.ChangeShapes Go.WideShapes Go.ChangeAt Go.RowKit
theorem readFront_any (b c:Nat) (s:ByteArray) (w:World) (hs:s.size≤9223372036854775807) (h:Rb w b c s 0 false .zero):
  Calls Tryz.prog 123 #[ptr b] w (Fronted w b c s):=by
 have HS:=Lh hs
 have H:=Lh h
 have c0:=h.body.cell 0
 simp only [List.getElem?_toArray,List.getElem?_cons_zero] at c0
 clear h hs
 go_enter Tryz.func123,Tryz.ntmps123
 go_wp2_with fail
 refine (gZ c s 0 false w HS.out H.out.at_ H.out.cur).mono ?_
 rintro e W ⟨rfl,n,rfl⟩
 rw [show iE s 0 false=(s.size:Int) by simp [iE]]
 have HR1:=Lh (H.out.drewN n)
 have HT1:=Lh (show Two w (w.drewN n) b c from Two.left (fK w n (some b)))
 obtain ⟨W1,hW1⟩:=eqx (w.drewN n)
 rw [←hW1] at HR1 HT1 ⊢
 clear hW1 c0 H
 by_cases h0:s.size=0
 ·have e0:((s.size:Int)==0)=true:=by rw [h0];rfl
  have HF:=Lh (dec_short s h0)
  clear h0
  go_wp2_with fail
  go_ret;exact ⟨4,rfl,HT1.out,.inl ⟨by decide,HF.out⟩⟩
 have e0:((s.size:Int)==0)=false:=by rw [beq_eq_false_iff_ne];omega
 have HS0:=Lh h0
 clear h0
 have c0:=HR1.out.body.cell 0
 simp only [List.getElem?_toArray,List.getElem?_cons_zero] at c0
 go_wp2_with fail
 refine (mJ c s 0 false W1 HS.out HR1.out.at_ HR1.out.cur).mono ?_
 rintro e W2 ⟨rfl,hm⟩
 have hf:fits s 0 false ((1:Nat):Int)=true:=by have:=HS0.out;unfold fits;simp;omega
 have hr:=HR1.out.moved hm
 have HT2:=Lh (HT1.out.trans (Two.right hm.1))
 rw [fD hf,iO hf,show 0+((1:Nat):Int).toNat=1 from rfl] at hr
 rw [fM hf,jI]
 have HR2:=Lh hr
 have hF8:=bJ s 0
 obtain ⟨F,hF⟩:=eqx (byteAt s 0)
 rw [←hF] at hF8 ⊢
 have HF:=Lh hF
 have hq:=byte_16 F hF8
 clear hm hr hf hF HT1 HR1 c0 e0
 by_cases hk:F / 16=2
 case neg=>
  have ek:(((F / 16:Nat):Int)==2)=false:=by rw [beq_eq_false_iff_ne];omega
  have ek':((F:Int) / 16==2)=false:=by rw [beq_eq_false_iff_ne];omega
  have HD:=Lh (dec_kind s HS0.out (by rw [←HF.out];exact hk))
  clear hk
  go_wp2_with fail
  go_ret;exact ⟨7,rfl,HT2.out,.inl ⟨by decide,HD.out⟩⟩
 have ek:(((F / 16:Nat):Int)==2)=true:=by rw [hk];rfl
 have ek':((F:Int) / 16==2)=true:=by rw [beq_iff_eq];omega
 have HK:=Lh (show byteAt s 0 / 16=2 by rw [←HF.out];exact hk)
 clear hk
 have c0:=HR2.out.body.cell 0
 simp only [List.getElem?_toArray,List.getElem?_cons_zero] at c0
 go_wp2_with fail
 refine (gZ c s 1 false W2 HS.out HR2.out.at_ HR2.out.cur).mono ?_
 rintro e W ⟨rfl,n,rfl⟩
 rw [show iE s 1 false=(s.size:Int) - 1 by simp [iE]]
 have HR3:=Lh (HR2.out.drewN n)
 have HT3:=Lh (HT2.out.trans (Two.left (fK W2 n (some b))))
 obtain ⟨W3,hW3⟩:=eqx (W2.drewN n)
 rw [←hW3] at HR3 HT3 ⊢
 clear hW3 c0 HR2 HT2 ek ek'
 by_cases h1:s.size=1
 ·have e1:((s.size:Int) - 1==0)=true:=by rw [h1];rfl
  have HD:=Lh (dec_one s h1 HK.out)
  clear h1
  go_wp2_with fail
  go_ret;exact ⟨4,rfl,HT3.out,.inl ⟨by decide,HD.out⟩⟩
 have h2:2≤s.size:=by have:=HS0.out;omega
 have e1:((s.size:Int) - 1==0)=false:=by rw [beq_eq_false_iff_ne];omega
 have HS2:=Lh h2
 clear h1 h2
 have c0:=HR3.out.body.cell 0
 simp only [List.getElem?_toArray,List.getElem?_cons_zero] at c0
 go_wp2_with fail
 refine (mJ c s 1 false W3 HS.out HR3.out.at_ HR3.out.cur).mono ?_
 rintro e W4 ⟨rfl,hm⟩
 have hf:fits s 1 false ((1:Nat):Int)=true:=by have:=HS2.out;unfold fits;simp;omega
 have hr:=HR3.out.moved hm
 have HT4:=Lh (HT3.out.trans (Two.right hm.1))
 rw [fD hf,iO hf,show 1+((1:Nat):Int).toNat=2 from rfl] at hr
 rw [fM hf,jI]
 have HR4:=Lh hr
 have hG8:=bJ s 1
 obtain ⟨G,hG⟩:=eqx (byteAt s 1)
 rw [←hG] at hG8 ⊢
 have HG:=Lh hG
 clear hm hr hf hG HT3 HR3 c0 e1
 have a5:=byte_and5 ⟨G,hG8⟩
 simp only [] at a5
 by_cases hn:fl G 1=false∧fl G 4=false
 ·rw [hn.1,hn.2] at a5
  have HD:=Lh (show dec s=(.zero,5) by rw [pI s HS2.out HK.out,←HG.out,x9,if_pos hn])
  clear hn
  go_wp2_with fail
  go_ret;exact ⟨5,rfl,HT4.out,.inl ⟨by decide,HD.out⟩⟩
 have HN:=Lh hn
 have a6:(bits .and .u8 (G:Int) 5==0)=false:=by
  rw [a5]
  cases e1:fl G 1<;>cases e4:fl G 4<;>simp_all
 clear hn a5
 go_wp2_with fail
 have hx:Ds.bare ⟨bits .and .u8 (G:Int) 16 !=0,bits .and .u8 (G:Int) 1 !=0,bits .and .u8 (G:Int) 2 !=0,0,bits .and .u8 (G:Int) 4 !=0,bits .and .u8 (G:Int) 8 !=0,0,0,0,false,0⟩=rZ G:=by
  unfold rZ
  rw [←qN ⟨G,hG8⟩,←byte_and2 ⟨G,hG8⟩,←byte_and4 ⟨G,hG8⟩,←byte_and8 ⟨G,hG8⟩,←byte_and16 ⟨G,hG8⟩]
  rfl
 refine (answer (rF ⟨bits .and .u8 (G:Int) 16 !=0,bits .and .u8 (G:Int) 1 !=0,bits .and .u8 (G:Int) 2 !=0,0,bits .and .u8 (G:Int) 4 !=0,bits .and .u8 (G:Int) 8 !=0,0,0,0,false,0⟩ W4) (congrArg (fun y=>Value.agg (dsv y)) hx)).mono ?_
 rintro e W5 ⟨rfl,b5⟩
 have HR5:=Lh (HR4.out.below b5)
 have HT5:=Lh (HT4.out.trans (Two.of_below b5))
 clear hx b5 HR4 HT4 a6
 go_wp2_with (refine store_ds rfl _ _ rfl b rfl (ptr c) .zero (rZ G) ⟨#[]⟩ rfl ?_ ?_;exact HR5.out.body)
 intro W6 g6 d6
 have HR6:=Lh (HR5.out.turned g6 d6)
 have HT6:=Lh (HT5.out.trans (Two.left g6))
 clear g6 d6 HR5 HT5
 go_wp2_with fail
 go_ret;exact ⟨0,rfl,HT6.out,.inr ⟨rfl,HS2.out,HK.out,by rw [←HG.out];exact HN.out,by rw [←HG.out];exact HR6.out⟩⟩
open Go.ChangeShapes Go.WideShapes Go.ChangeAt Go.RowKit
section
variable {w:World} {b:Nat} {c:Value} {T:ByteArray} {fin ha la hm ld hs:Bool} {ack dsn ssn sum:Nat} {len:Int}
theorem Bd.setAck (h:Bd w b c (⟨fin,ha,la,ack,hm,ld,dsn,ssn,len,hs,sum⟩:Ds) T) (n:Nat):Bd (w.setCell ⟨b,4,none⟩ (.int .u64 (n:Int))) b c (⟨fin,ha,la,n,hm,ld,dsn,ssn,len,hs,sum⟩:Ds) T:=Blk.fV h 4 _
theorem Bd.setDsn (h:Bd w b c (⟨fin,ha,la,ack,hm,ld,dsn,ssn,len,hs,sum⟩:Ds) T) (n:Nat):Bd (w.setCell ⟨b,7,none⟩ (.int .u64 (n:Int))) b c (⟨fin,ha,la,ack,hm,ld,n,ssn,len,hs,sum⟩:Ds) T:=Blk.fV h 7 _
theorem Bd.setSsn (h:Bd w b c (⟨fin,ha,la,ack,hm,ld,dsn,ssn,len,hs,sum⟩:Ds) T) (n:Nat):Bd (w.setCell ⟨b,8,none⟩ (.int .u32 (n:Int))) b c (⟨fin,ha,la,ack,hm,ld,dsn,n,len,hs,sum⟩:Ds) T:=Blk.fV h 8 _
theorem Bd.setLen (h:Bd w b c (⟨fin,ha,la,ack,hm,ld,dsn,ssn,len,hs,sum⟩:Ds) T) (n:Int):Bd (w.setCell ⟨b,9,none⟩ (.int .i64 n)) b c (⟨fin,ha,la,ack,hm,ld,dsn,ssn,n,hs,sum⟩:Ds) T:=Blk.fV h 9 _
theorem Bd.setHas (h:Bd w b c (⟨fin,ha,la,ack,hm,ld,dsn,ssn,len,hs,sum⟩:Ds) T) (n:Bool):Bd (w.setCell ⟨b,10,none⟩ (.bool n)) b c (⟨fin,ha,la,ack,hm,ld,dsn,ssn,len,n,sum⟩:Ds) T:=Blk.fV h 10 _
theorem Bd.setSum (h:Bd w b c (⟨fin,ha,la,ack,hm,ld,dsn,ssn,len,hs,sum⟩:Ds) T) (n:Nat):Bd (w.setCell ⟨b,11,none⟩ (.int .u16 (n:Int))) b c (⟨fin,ha,la,ack,hm,ld,dsn,ssn,len,hs,n⟩:Ds) T:=Blk.fV h 11 _
end
theorem fB {w:World} {b:Nat} (k:Nat) (u:Value):w.grownBy (w.setCell ⟨b,k,none⟩ u) (some b):=aZ (.refl _ _) rfl u
theorem posO_0 (s:ByteArray) (k:Nat) (br:Bool) (h:k≤s.size):dK s k br ((0:Nat):Int)=k:=by
 cases br
 ·rw [fD (by unfold fits;simp;omega)];simp
 ·rw [kT (by simp [fits])]
theorem brO_0 (s:ByteArray) (k:Nat) (br:Bool) (h:k≤s.size):brO s k br ((0:Nat):Int)=br:=by
 cases br
 ·rw [iO (by unfold fits;simp;omega)]
 ·rw [jZ (by simp [fits])]
theorem numO_0 (s:ByteArray) (k:Nat) (br:Bool):numO s k br 0=0:=by unfold numO;split<;>rfl
def yX (s:ByteArray) (k:Nat) (br:Bool) (m1 m2:Nat):Nat:=dK s (dK s k br m1) (brO s k br m1) m2
def br2 (s:ByteArray) (k:Nat) (br:Bool) (m1 m2:Nat):Bool:=brO s (dK s k br m1) (brO s k br m1) m2
def yS (s:ByteArray) (k:Nat) (br:Bool) (m1 m2:Nat):Nat:=numO s (dK s k br m1) (brO s k br m1) m2
def yU (s:ByteArray) (k:Nat) (br:Bool) (m1 m2 m3:Nat):Nat:=dK s (yX s k br m1 m2) (br2 s k br m1 m2) m3
def br3 (s:ByteArray) (k:Nat) (br:Bool) (m1 m2 m3:Nat):Bool:=brO s (yX s k br m1 m2) (br2 s k br m1 m2) m3
def yY (s:ByteArray) (k:Nat) (br:Bool) (m1 m2 m3:Nat):Nat:=numO s (yX s k br m1 m2) (br2 s k br m1 m2) m3
abbrev Got (w:World) (b c:Nat) (s:ByteArray) (k:Nat) (br:Bool) (x:Ds) (e:Ending) (w':World):Prop:=e= .returned (.tuple #[])∧Two w w' b c∧Rb w' b c s k br x
theorem readAck_any (b c:Nat) (s:ByteArray) (k:Nat) (br:Bool) (fin ha la hm ld hsum:Bool) (ack dsn ssn sum:Nat) (len:Int) (w:World) (hs:s.size≤9223372036854775807) (h:Rb w b c s k br (⟨fin,ha,la,0,hm,ld,dsn,ssn,len,hsum,sum⟩:Ds)):
  Calls Tryz.prog 124 #[ptr b] w (Got w b c s (dK s k br (wA ha la:Nat)) (brO s k br (wA ha la:Nat)) (⟨fin,ha,la,(numO s k br (wA ha la)),hm,ld,dsn,ssn,len,hsum,sum⟩:Ds)):=by
 have HS:=Lh hs
 have H:=Lh h
 cases ha
 ·rw [show wA false la=0 from rfl,posO_0 s k br h.at_,brO_0 s k br h.at_,numO_0]
  clear hs h
  have c2:=H.out.body.cell 2
  simp only [List.getElem?_toArray,List.getElem?_cons_zero,List.getElem?_cons_succ] at c2
  go_enter Tryz.func124,Tryz.ntmps124
  go_wp2_with fail
  go_end0;exact ⟨rfl,.refl _ _ _,H.out⟩
 ·obtain ⟨R,hR⟩:=eqx (Got w b c s (dK s k br (wA true la:Nat)) (brO s k br (wA true la:Nat)) (⟨fin,true,la,(numO s k br (wA true la)),hm,ld,dsn,ssn,len,hsum,sum⟩:Ds))
  rw [←hR]
  have HRR:=Lh hR
  clear hs h hR
  have c2:=H.out.body.cell 2
  simp only [List.getElem?_toArray,List.getElem?_cons_zero,List.getElem?_cons_succ] at c2
  go_enter Tryz.func124,Tryz.ntmps124
  go_upto_region 2 with fail
  refine dD (n:=12) rfl fun W0 B0=>?_
  refine stF 0 (ptr b) rfl B0 (stF 1 (ptr b) rfl B0 (stF 2 (ptr b) rfl B0 (stG 3 (ptr c) rfl B0 (fun W q=>xLd 177 (.tmp 13) ⟨b,0,none⟩ ((H.out.below q).body.cell 0)) (stF 4 (r32 c) rfl B0 (stF 5 (ptr b) rfl B0 (stF 6 (ptr b) rfl B0 (stF 7 (ptr b) rfl B0 (stG 8 (ptr c) rfl B0 (fun W q=>xLd 177 (.tmp 18) ⟨b,0,none⟩ ((H.out.below q).body.cell 0)) (stF 9 (r64 c) rfl B0 ?_)))))))))
  refine stC 10 rfl (lK c W0) (fun w' h=>B0.trans (h.2.mono B0.size)) ?_
  rintro Wr ⟨hq,hb⟩
  have Br:=B0.trans (hb.mono B0.size)
  clear hb B0
  refine stF 11 (rclo W0.heap.size) rfl Br ?_
  refine aJ (by kernel_rfl) ?_
  have HQ:=Lh hq
  have HRr:=Lh (H.out.below Br)
  have HTr:=Lh (show Two w Wr b c from Two.of_below Br)
  clear hq Br
  have c3:=HRr.out.body.cell 3
  simp only [List.getElem?_toArray,List.getElem?_cons_zero,List.getElem?_cons_succ] at c3
  clear c2
  go_wp2_with fail
  refine (rclo_any la W0.heap.size c s k br Wr HS.out HRr.out.at_ HRr.out.cur HQ.out).mono ?_
  rintro e W1 ⟨rfl,hm1⟩
  obtain ⟨n,hn1⟩:=eqx (numO s k br (wA true la))
  rw [←hn1]
  have HRm:=Lh (HRr.out.moved hm1)
  have HTm:=Lh (HTr.out.trans (Two.right hm1.1))
  have HN1:=Lh hn1
  clear hm1 hn1 c3 HRr HTr HQ H
  obtain ⟨W2,hW2⟩:∃w',w'=W1.setCell ⟨b,4,none⟩ (.int .u64 (n:Int)):=⟨_,rfl⟩
  have HR1:=Lh (show Rb W2 b c s _ _ _ by rw [hW2];exact HRm.out.turned (fB 4 _) (HRm.out.body.setAck n))
  have HT1:=Lh (show Two w W2 b c by rw [hW2];exact HTm.out.trans (Two.left (fB 4 _)))
  have zH:=Lh hW2
  clear hW2
  have f4:=HRm.out.body.cell 4
  have z4:=HRm.out.body.blk.frozen 4
  have f0:=HRm.out.body.cell 0
  simp only [List.getElem?_toArray,List.getElem?_cons_zero,List.getElem?_cons_succ] at f0 f4
  go_wp2_with fail
  rw [←zH.out]
  clear zH HRm HTm f0 f4 z4
  go_end0
  rw [HRR.out]
  refine ⟨rfl,HT1.out,?_⟩
  have e1:=HN1.out
  subst e1
  exact HR1.out
theorem readMap_any (b c:Nat) (s:ByteArray) (k:Nat) (br:Bool) (fin ha la hm ld hsum:Bool) (ack sum:Nat) (w:World) (hs:s.size≤9223372036854775807) (h:Rb w b c s k br (⟨fin,ha,la,ack,hm,ld,0,0,0,hsum,sum⟩:Ds)):
  Calls Tryz.prog 125 #[ptr b] w (Got w b c s (yU s k br (wA hm ld) (w4 hm) (w2 hm)) (br3 s k br (wA hm ld) (w4 hm) (w2 hm)) (⟨fin,ha,la,ack,hm,ld,(numO s k br (wA hm ld)),(yS s k br (wA hm ld) (w4 hm)),((yY s k br (wA hm ld) (w4 hm) (w2 hm):Nat):Int),hsum,sum⟩:Ds)):=by
 have HS:=Lh hs
 have H:=Lh h
 cases hm
 ·rw [show wA false ld=0 from rfl,show w4 false=0 from rfl,show w2 false=0 from rfl]
  unfold yU br3 yY yS yX br2
  simp only [posO_0 s k br h.at_,brO_0 s k br h.at_,numO_0]
  clear hs h
  have c5:=H.out.body.cell 5
  simp only [List.getElem?_toArray,List.getElem?_cons_zero,List.getElem?_cons_succ] at c5
  go_enter Tryz.func125,Tryz.ntmps125
  go_wp2_with fail
  go_end0;exact ⟨rfl,.refl _ _ _,H.out⟩
 ·obtain ⟨R,hR⟩:=eqx (Got w b c s (yU s k br (wA true ld) (w4 true) (w2 true)) (br3 s k br (wA true ld) (w4 true) (w2 true)) (⟨fin,ha,la,ack,true,ld,(numO s k br (wA true ld)),(yS s k br (wA true ld) (w4 true)),((yY s k br (wA true ld) (w4 true) (w2 true):Nat):Int),hsum,sum⟩:Ds))
  rw [←hR]
  have HRR:=Lh hR
  clear hs h hR
  have c5:=H.out.body.cell 5
  simp only [List.getElem?_toArray,List.getElem?_cons_zero,List.getElem?_cons_succ] at c5
  go_enter Tryz.func125,Tryz.ntmps125
  go_upto_region 2 with fail
  refine dD (n:=12) rfl fun W0 B0=>?_
  refine stF 0 (ptr b) rfl B0 (stF 1 (ptr b) rfl B0 (stF 2 (ptr b) rfl B0 (stG 3 (ptr c) rfl B0 (fun W q=>xLd 177 (.tmp 13) ⟨b,0,none⟩ ((H.out.below q).body.cell 0)) (stF 4 (r32 c) rfl B0 (stF 5 (ptr b) rfl B0 (stF 6 (ptr b) rfl B0 (stF 7 (ptr b) rfl B0 (stG 8 (ptr c) rfl B0 (fun W q=>xLd 177 (.tmp 18) ⟨b,0,none⟩ ((H.out.below q).body.cell 0)) (stF 9 (r64 c) rfl B0 ?_)))))))))
  refine stC 10 rfl (lK c W0) (fun w' h=>B0.trans (h.2.mono B0.size)) ?_
  rintro Wr ⟨hq,hb⟩
  have Br:=B0.trans (hb.mono B0.size)
  clear hb B0
  refine stF 11 (rclo W0.heap.size) rfl Br ?_
  refine aJ (by kernel_rfl) ?_
  have HQ:=Lh hq
  have HRr:=Lh (H.out.below Br)
  have HTr:=Lh (show Two w Wr b c from Two.of_below Br)
  clear hq Br
  have c6:=HRr.out.body.cell 6
  simp only [List.getElem?_toArray,List.getElem?_cons_zero,List.getElem?_cons_succ] at c6
  clear c5
  go_wp2_with fail
  refine (rclo_any ld W0.heap.size c s k br Wr HS.out HRr.out.at_ HRr.out.cur HQ.out).mono ?_
  rintro e W1 ⟨rfl,hm1⟩
  obtain ⟨n,hn1⟩:=eqx (numO s k br (wA true ld))
  rw [←hn1]
  have HRm:=Lh (HRr.out.moved hm1)
  have HTm:=Lh (HTr.out.trans (Two.right hm1.1))
  have HN1:=Lh hn1
  clear hm1 hn1 c6 HRr HTr HQ H
  obtain ⟨W2,hW2⟩:∃w',w'=W1.setCell ⟨b,7,none⟩ (.int .u64 (n:Int)):=⟨_,rfl⟩
  have HR1:=Lh (show Rb W2 b c s _ _ _ by rw [hW2];exact HRm.out.turned (fB 7 _) (HRm.out.body.setDsn n))
  have HT1:=Lh (show Two w W2 b c by rw [hW2];exact HTm.out.trans (Two.left (fB 7 _)))
  have zH:=Lh hW2
  clear hW2
  have f7:=HRm.out.body.cell 7
  have z7:=HRm.out.body.blk.frozen 7
  have f0:=HRm.out.body.cell 0
  simp only [List.getElem?_toArray,List.getElem?_cons_zero,List.getElem?_cons_succ] at f0 f7
  go_wp2_with fail
  rw [←zH.out]
  clear zH HRm HTm f0 f7 z7
  obtain ⟨k1,hk1⟩:=eqx (dK s k br (wA true ld:Nat))
  obtain ⟨b1,hb1⟩:=eqx (brO s k br (wA true ld:Nat))
  rw [←hk1,←hb1] at HR1
  have HK1:=Lh hk1
  have HB1:=Lh hb1
  clear hk1 hb1
  refine (U32_any c s k1 b1 W2 HS.out HR1.out.at_ HR1.out.cur).mono ?_
  rintro e W3 ⟨rfl,hm3⟩
  obtain ⟨n2,hn2⟩:=eqx (numO s k1 b1 4)
  rw [←hn2]
  have HR3:=Lh (HR1.out.moved hm3)
  have HT3:=Lh (HT1.out.trans (Two.right hm3.1))
  have HN2:=Lh hn2
  clear hm3 hn2
  obtain ⟨W4,hW4⟩:∃w',w'=W3.setCell ⟨b,8,none⟩ (.int .u32 (n2:Int)):=⟨_,rfl⟩
  have HR4:=Lh (show Rb W4 b c s _ _ _ by rw [hW4];exact HR3.out.turned (fB 8 _) (HR3.out.body.setSsn n2))
  have HT4:=Lh (show Two w W4 b c by rw [hW4];exact HT3.out.trans (Two.left (fB 8 _)))
  have zF:=Lh hW4
  clear hW4
  have f8:=HR3.out.body.cell 8
  have z8:=HR3.out.body.blk.frozen 8
  have f0:=HR3.out.body.cell 0
  simp only [List.getElem?_toArray,List.getElem?_cons_zero,List.getElem?_cons_succ] at f0 f8
  go_wp2_with fail
  rw [←zF.out]
  clear zF HR3 HT3 f0 f8 z8
  obtain ⟨k2,hk2⟩:=eqx (dK s k1 b1 ((4:Nat):Int))
  obtain ⟨b2,hb2⟩:=eqx (brO s k1 b1 ((4:Nat):Int))
  rw [←hk2,←hb2] at HR4
  have HK2:=Lh hk2
  have HB2:=Lh hb2
  clear hk2 hb2
  refine (sQ c s k2 b2 W4 HS.out HR4.out.at_ HR4.out.cur).mono ?_
  rintro e W5 ⟨rfl,hm5⟩
  have hn8:=rH s k2 b2
  obtain ⟨n3,hn3⟩:=eqx (numO s k2 b2 2)
  rw [←hn3] at hn8 ⊢
  have HR5:=Lh (HR4.out.moved hm5)
  have HT5:=Lh (HT4.out.trans (Two.right hm5.1))
  have HN3:=Lh hn3
  clear hm5 hn3
  obtain ⟨W6,hW6⟩:∃w',w'=W5.setCell ⟨b,9,none⟩ (.int .i64 (n3:Int)):=⟨_,rfl⟩
  have HR6:=Lh (show Rb W6 b c s _ _ _ by rw [hW6];exact HR5.out.turned (fB 9 _) (HR5.out.body.setLen (n3:Int)))
  have HT6:=Lh (show Two w W6 b c by rw [hW6];exact HT5.out.trans (Two.left (fB 9 _)))
  have HEW6:=Lh hW6
  clear hW6
  have f9:=HR5.out.body.cell 9
  have z9:=HR5.out.body.blk.frozen 9
  have f0:=HR5.out.body.cell 0
  simp only [List.getElem?_toArray,List.getElem?_cons_zero,List.getElem?_cons_succ] at f0 f9
  go_wp2_with fail
  rw [←HEW6.out]
  clear HEW6 HR5 HT5 f0 f9 z9
  go_end0
  rw [HRR.out]
  refine ⟨rfl,HT6.out,?_⟩
  have e1:=HN1.out
  have e2:=HN2.out
  have e3:=HN3.out
  have e4:=HK1.out
  have e5:=HB1.out
  have e6:=HK2.out
  have e7:=HB2.out
  subst e1 e2 e3 e6 e7 e4 e5
  exact HR6.out
theorem readSum_no (b c:Nat) (s:ByteArray) (k:Nat) (fin ha la  ld:Bool) (ack dsn ssn:Nat) (len:Int) (w:World) (hs:s.size≤9223372036854775807) (br:Bool) (h:Rb w b c s k br (⟨fin,ha,la,ack,false,ld,dsn,ssn,len,false,0⟩:Ds)):
  Calls Tryz.prog 126 #[ptr b] w (Got w b c s k br (⟨fin,ha,la,ack,false,ld,dsn,ssn,len,false,0⟩:Ds)):=by
 have HS:=Lh hs
 have H:=Lh h
 clear hs h
 have c5:=H.out.body.cell 5
 simp only [List.getElem?_toArray,List.getElem?_cons_zero,List.getElem?_cons_succ] at c5
 go_enter Tryz.func126,Tryz.ntmps126
 go_wp2_with fail
 go_end0;exact ⟨rfl,.refl _ _ _,H.out⟩
theorem readSum_f (b c:Nat) (s:ByteArray) (k:Nat) (fin ha la  ld:Bool) (ack dsn ssn:Nat) (len:Int) (w:World) (hs:s.size≤9223372036854775807) (br:Bool) (hl:iE s k br≠2) (h:Rb w b c s k br (⟨fin,ha,la,ack,true,ld,dsn,ssn,len,false,0⟩:Ds)):
  Calls Tryz.prog 126 #[ptr b] w (Got w b c s k br (⟨fin,ha,la,ack,true,ld,dsn,ssn,len,false,0⟩:Ds)):=by
 have HS:=Lh hs
 have H:=Lh h
 have hl':(iE s k br==2)=false:=by rw [beq_eq_false_iff_ne];exact hl
 clear hs h hl
 have c0:=H.out.body.cell 0
 have c5:=H.out.body.cell 5
 simp only [List.getElem?_toArray,List.getElem?_cons_zero,List.getElem?_cons_succ] at c0 c5
 go_enter Tryz.func126,Tryz.ntmps126
 go_wp2_with fail
 refine (gZ c s k br w HS.out H.out.at_ H.out.cur).mono ?_
 rintro e W ⟨rfl,n,rfl⟩
 have HR1:=Lh (H.out.drewN n)
 have HT1:=Lh (show Two w (w.drewN n) b c from Two.left (fK w n (some b)))
 obtain ⟨W1,hW1⟩:=eqx (w.drewN n)
 rw [←hW1] at HR1 HT1 ⊢
 clear hW1 c0 c5 H
 go_wp2_with fail
 go_end0;exact ⟨rfl,HT1.out,HR1.out⟩
theorem readSum_t (b c:Nat) (s:ByteArray) (k:Nat) (fin ha la  ld:Bool) (ack dsn ssn:Nat) (len:Int) (w:World) (hs:s.size≤9223372036854775807) (hl:k+2=s.size) (h:Rb w b c s k false (⟨fin,ha,la,ack,true,ld,dsn,ssn,len,false,0⟩:Ds)):
  Calls Tryz.prog 126 #[ptr b] w (Got w b c s (k+2) false (⟨fin,ha,la,ack,true,ld,dsn,ssn,len,true,(num s k 2)⟩:Ds)):=by
 have HS:=Lh hs
 have H:=Lh h
 have hl':iE s k false=2:=by simp [iE];omega
 have HL:=Lh hl
 clear hs h hl
 have c0:=H.out.body.cell 0
 have c5:=H.out.body.cell 5
 simp only [List.getElem?_toArray,List.getElem?_cons_zero,List.getElem?_cons_succ] at c0 c5
 go_enter Tryz.func126,Tryz.ntmps126
 go_wp2_with fail
 refine (gZ c s k false w HS.out H.out.at_ H.out.cur).mono ?_
 rintro e W ⟨rfl,n,rfl⟩
 have HR1:=Lh (H.out.drewN n)
 have HT1:=Lh (show Two w (w.drewN n) b c from Two.left (fK w n (some b)))
 obtain ⟨W1,hW1⟩:=eqx (w.drewN n)
 rw [←hW1] at HR1 HT1 ⊢
 clear hW1 c0 c5 H
 rw [hl']
 clear hl'
 obtain ⟨W2,hW2⟩:∃w',w'=W1.setCell ⟨b,10,none⟩ (.bool true):=⟨_,rfl⟩
 have HR2:=Lh (show Rb W2 b c s _ _ _ by rw [hW2];exact HR1.out.turned (fB 10 _) (HR1.out.body.setHas true))
 have HT2:=Lh (show Two w W2 b c by rw [hW2];exact HT1.out.trans (Two.left (fB 10 _)))
 have HE2:=Lh hW2
 clear hW2
 have z10:=HR1.out.body.blk.frozen 10
 have f0:=HR1.out.body.cell 0
 have f10:=HR1.out.body.cell 10
 simp only [List.getElem?_toArray,List.getElem?_cons_zero,List.getElem?_cons_succ] at f0 f10
 go_wp2_with fail
 rw [←HE2.out]
 clear HE2 HR1 HT1 f0 f10 z10
 refine (sQ c s k false W2 HS.out HR2.out.at_ HR2.out.cur).mono ?_
 rintro e W3 ⟨rfl,hm⟩
 have hf:fits s k false ((2:Nat):Int)=true:=by have:=HL.out;unfold fits;simp;omega
 have hr:=HR2.out.moved hm
 have HT3:=Lh (HT2.out.trans (Two.right hm.1))
 rw [fD hf,iO hf,show ((2:Nat):Int).toNat=2 from rfl] at hr
 rw [fM hf]
 have HR3:=Lh hr
 obtain ⟨n3,hn3⟩:=eqx (num s k 2)
 rw [←hn3]
 have HN3:=Lh hn3
 clear hm hr hf hn3 HR2 HT2
 obtain ⟨W4,hW4⟩:∃w',w'=W3.setCell ⟨b,11,none⟩ (.int .u16 (n3:Int)):=⟨_,rfl⟩
 have HR4:=Lh (show Rb W4 b c s _ _ _ by rw [hW4];exact HR3.out.turned (fB 11 _) (HR3.out.body.setSum n3))
 have HT4:=Lh (show Two w W4 b c by rw [hW4];exact HT3.out.trans (Two.left (fB 11 _)))
 have zF:=Lh hW4
 clear hW4
 have f11:=HR3.out.body.cell 11
 have z11:=HR3.out.body.blk.frozen 11
 simp only [List.getElem?_toArray,List.getElem?_cons_zero,List.getElem?_cons_succ] at f11
 go_wp2_with fail
 rw [←zF.out]
 clear zF HR3 HT3 f11 z11
 go_end0;exact ⟨rfl,HT4.out,by have e:=HN3.out;subst e;exact HR4.out⟩
open Go.ChangeShapes Go.WideShapes Go.ChangeAt Go.RowKit
theorem wS {s:ByteArray} {k m:Nat} (h:k+m≤s.size):fits s k false (m:Int)=true:=by unfold fits;simp;omega
theorem fits_out {s:ByteArray} {k m:Nat} (hk:k≤s.size) (h:s.size < k+m):fits s k false (m:Int)=false:=by unfold fits;simp;omega
theorem kZ (s:ByteArray) (k:Nat) (n:Int):brO s k true n=true:=jZ (by simp [fits])
theorem l9 {s:ByteArray} {k m:Nat} (h:k+m≤s.size):dK s k false (m:Int)=k+m:=by rw [fD (wS h)];simp
theorem oP {s:ByteArray} {k m:Nat} (h:k+m≤s.size):brO s k false (m:Int)=false:=iO (wS h)
theorem tC {s:ByteArray} {k m:Nat} (h:k+m≤s.size):numO s k false m=num s k m:=fM (wS h)
theorem sV {s:ByteArray} {k m:Nat} (hk:k≤s.size) (h:s.size < k+m):brO s k false (m:Int)=true:=jZ (fits_out hk h)
theorem chain_in (s:ByteArray) (a d m l:Nat) (h:2+a+d+m+l≤s.size):
  yU s (dK s 2 false a) (brO s 2 false a) d m l=2+a+d+m+l∧br3 s (dK s 2 false a) (brO s 2 false a) d m l=false∧numO s 2 false a=num s 2 a∧numO s (dK s 2 false a) (brO s 2 false a) d=num s (2+a) d∧yS s (dK s 2 false a) (brO s 2 false a) d m=num s (2+a+d) m∧yY s (dK s 2 false a) (brO s 2 false a) d m l=num s (2+a+d+m) l:=by
 unfold yU br3 yS yY yX br2
 rw [l9 (show 2+a≤s.size by omega),oP (show 2+a≤s.size by omega),l9 (show 2+a+d≤s.size by omega),oP (show 2+a+d≤s.size by omega),l9 (show 2+a+d+m≤s.size by omega),oP (show 2+a+d+m≤s.size by omega),l9 (show 2+a+d+m+l≤s.size by omega),oP (show 2+a+d+m+l≤s.size by omega),tC (show 2+a≤s.size by omega),tC (show 2+a+d≤s.size by omega),tC (show 2+a+d+m≤s.size by omega),tC (show 2+a+d+m+l≤s.size by omega)]
 exact ⟨rfl,rfl,rfl,rfl,rfl,rfl⟩
theorem chain_out (s:ByteArray) (a d m l:Nat) (h2:2≤s.size) (h:s.size < 2+a+d+m+l):br3 s (dK s 2 false a) (brO s 2 false a) d m l=true:=by
 unfold br3 yX br2
 by_cases h1:2+a≤s.size
 ·rw [l9 h1,oP h1]
  by_cases h3:2+a+d≤s.size
  ·rw [l9 h3,oP h3]
   by_cases h4:2+a+d+m≤s.size
   ·rw [l9 h4,oP h4]
    exact sV h4 h
   ·rw [sV h3 (by omega),kZ]
  ·rw [sV h1 (by omega),kZ,kZ]
 ·rw [sV h2 (by omega),kZ,kZ,kZ]
theorem front_eq (g:Nat):rZ g=⟨fl g 4 && fl g 16,fl g 1,fl g 1 && fl g 2,0,fl g 4,fl g 4 && fl g 8,0,0,0,false,0⟩:=by
 unfold rZ Ds.bare
 simp
def xX (g:Nat) (s:ByteArray):Ds:=
 let a:=wA (fl g 1) (fl g 1 && fl g 2)
 let d:=wA (fl g 4) (fl g 4 && fl g 8)
 ⟨fl g 4 && fl g 16,fl g 1,fl g 1 && fl g 2,numO s 2 false a,fl g 4,fl g 4 && fl g 8,numO s (dK s 2 false a) (brO s 2 false a) d,yS s (dK s 2 false a) (brO s 2 false a) d (w4 (fl g 4)),(yY s (dK s 2 false a) (brO s 2 false a) d (w4 (fl g 4)) (w2 (fl g 4)):Int),false,0⟩
def zW (g:Nat) (s:ByteArray):Nat:=yU s (dK s 2 false (wA (fl g 1) (fl g 1 && fl g 2):Nat)) (brO s 2 false (wA (fl g 1) (fl g 1 && fl g 2):Nat)) (wA (fl g 4) (fl g 4 && fl g 8)) (w4 (fl g 4)) (w2 (fl g 4))
def zT (g:Nat) (s:ByteArray):Bool:=br3 s (dK s 2 false (wA (fl g 1) (fl g 1 && fl g 2):Nat)) (brO s 2 false (wA (fl g 1) (fl g 1 && fl g 2):Nat)) (wA (fl g 4) (fl g 4 && fl g 8)) (w4 (fl g 4)) (w2 (fl g 4))
def Fin (s:ByteArray) (k:Nat) (br:Bool) (x:Ds):Prop:=(kK s k br≠0∧dec s=(.zero,kK s k br))∨(kK s k br=0∧dec s=(x,0))
theorem mid_out (s:ByteArray) (g:Nat) (hg:byteAt s 1=g) (h2:2≤s.size) (hk:byteAt s 0 / 16=2) (hh:¬(fl g 1=false∧fl g 4=false)) (h:s.size < kJ g):zT g s=true∧Fin s (zW g s) true (xX g s):=by
 refine ⟨chain_out s _ _ _ _ h2 h,.inl ⟨by simp [kK],?_⟩⟩
 rw [pI s h2 hk,hg,x9,if_neg hh,if_pos h]
 simp [kK]
theorem mid_in (s:ByteArray) (g:Nat) (h:kJ g≤s.size):zW g s=kJ g∧zT g s=false∧xX g s=sH g s false:=by
 obtain ⟨e1,e2,e3,e4,e5,e6⟩:=chain_in s _ _ _ _ h
 refine ⟨e1,e2,?_⟩
 unfold xX sH
 simp only []
 rw [e3,e4,e5,e6]
 simp [w2,num]
theorem fin_no (s:ByteArray) (g:Nat) (hg:byteAt s 1=g) (h2:2≤s.size) (hk:byteAt s 0 / 16=2) (hh:¬(fl g 1=false∧fl g 4=false)) (h:kJ g≤s.size) (hs:¬(fl g 4=true∧s.size=kJ g+2)):Fin s (kJ g) false (sH g s false):=by
 unfold Fin
 rw [pI s h2 hk,hg,x9,if_neg hh,if_neg (by omega)]
 by_cases e:s.size=kJ g
 ·rw [if_pos e]
  exact .inr ⟨by simp [kK];omega,rfl⟩
 ·rw [if_neg e,if_neg hs]
  have:kK s (kJ g) false=5:=by simp [kK];omega
  rw [this]
  exact .inl ⟨by decide,rfl⟩
theorem fin_sum (s:ByteArray) (g:Nat) (hg:byteAt s 1=g) (h2:2≤s.size) (hk:byteAt s 0 / 16=2) (hh:¬(fl g 1=false∧fl g 4=false)) (h4:fl g 4=true) (hs:s.size=kJ g+2):Fin s (kJ g+2) false (sH g s true):=by
 unfold Fin
 rw [pI s h2 hk,hg,x9,if_neg hh,if_neg (by omega),if_neg (by omega),if_pos ⟨h4,hs⟩]
 exact .inr ⟨by simp [kK];omega,rfl⟩
theorem Ds.split (x:Ds) (B:Bool) (h:x.hm=B) (h1:x.hs=false) (h2:x.sum=0):x=⟨x.fin,x.ha,x.la,x.ack,B,x.ld,x.dsn,x.ssn,x.len,false,0⟩:=Ds.oJ rfl rfl rfl rfl h rfl rfl rfl rfl h1 h2
theorem last_any (b c:Nat) (s:ByteArray) (g:Nat) (hg:byteAt s 1=g) (h2:2≤s.size) (hk:byteAt s 0 / 16=2) (hh:¬(fl g 1=false∧fl g 4=false)) (w:World) (hs:s.size≤9223372036854775807) (h:Rb w b c s (zW g s) (zT g s) (xX g s)):
  Calls Tryz.prog 126 #[ptr b] w fun e w'=>e= .returned (.tuple #[])∧Two w w' b c∧∃k br x,Rb w' b c s k br x∧Fin s k br x:=by
 by_cases hz:kJ g≤s.size
 ·obtain ⟨e1,e2,e3⟩:=mid_in s g hz
  rw [e1,e2,e3] at h
  by_cases h4:fl g 4=true
  ·by_cases hl:s.size=kJ g+2
   ·have h':Rb w b c s (kJ g) false ⟨fl g 4 && fl g 16,fl g 1,fl g 1 && fl g 2,num s 2 (wA (fl g 1) (fl g 1 && fl g 2)),true,fl g 4 && fl g 8,num s (2+wA (fl g 1) (fl g 1 && fl g 2)) (wA (fl g 4) (fl g 4 && fl g 8)),num s (2+wA (fl g 1) (fl g 1 && fl g 2)+wA (fl g 4) (fl g 4 && fl g 8)) (w4 (fl g 4)),(num s (2+wA (fl g 1) (fl g 1 && fl g 2)+wA (fl g 4) (fl g 4 && fl g 8)+w4 (fl g 4)) (w2 (fl g 4)):Int),false,0⟩:=by
     have q:sH g s false=⟨fl g 4 && fl g 16,fl g 1,fl g 1 && fl g 2,num s 2 (wA (fl g 1) (fl g 1 && fl g 2)),true,fl g 4 && fl g 8,num s (2+wA (fl g 1) (fl g 1 && fl g 2)) (wA (fl g 4) (fl g 4 && fl g 8)),num s (2+wA (fl g 1) (fl g 1 && fl g 2)+wA (fl g 4) (fl g 4 && fl g 8)) (w4 (fl g 4)),(num s (2+wA (fl g 1) (fl g 1 && fl g 2)+wA (fl g 4) (fl g 4 && fl g 8)+w4 (fl g 4)) (w2 (fl g 4)):Int),false,0⟩:=Ds.oJ rfl rfl rfl rfl h4 rfl rfl rfl rfl rfl rfl
     rw [←q];exact h
    refine (readSum_t b c s (kJ g) _ _ _ _ _ _ _ _ w hs hl.symm h').mono ?_
    rintro e w' ⟨he,ht,hr⟩
    refine ⟨he,ht,_,_,_,hr,?_⟩
    have q:sH g s true=⟨fl g 4 && fl g 16,fl g 1,fl g 1 && fl g 2,num s 2 (wA (fl g 1) (fl g 1 && fl g 2)),true,fl g 4 && fl g 8,num s (2+wA (fl g 1) (fl g 1 && fl g 2)) (wA (fl g 4) (fl g 4 && fl g 8)),num s (2+wA (fl g 1) (fl g 1 && fl g 2)+wA (fl g 4) (fl g 4 && fl g 8)) (w4 (fl g 4)),(num s (2+wA (fl g 1) (fl g 1 && fl g 2)+wA (fl g 4) (fl g 4 && fl g 8)+w4 (fl g 4)) (w2 (fl g 4)):Int),true,num s (kJ g) 2⟩:=Ds.oJ rfl rfl rfl rfl h4 rfl rfl rfl rfl rfl rfl
    rw [←q]
    exact fin_sum s g hg h2 hk hh h4 hl
   ·have q:sH g s false=⟨fl g 4 && fl g 16,fl g 1,fl g 1 && fl g 2,num s 2 (wA (fl g 1) (fl g 1 && fl g 2)),true,fl g 4 && fl g 8,num s (2+wA (fl g 1) (fl g 1 && fl g 2)) (wA (fl g 4) (fl g 4 && fl g 8)),num s (2+wA (fl g 1) (fl g 1 && fl g 2)+wA (fl g 4) (fl g 4 && fl g 8)) (w4 (fl g 4)),(num s (2+wA (fl g 1) (fl g 1 && fl g 2)+wA (fl g 4) (fl g 4 && fl g 8)+w4 (fl g 4)) (w2 (fl g 4)):Int),false,0⟩:=Ds.oJ rfl rfl rfl rfl h4 rfl rfl rfl rfl rfl rfl
    have hf:=fin_no s g hg h2 hk hh hz (fun q=>hl q.2)
    rw [q] at h hf
    refine (readSum_f b c s (kJ g) _ _ _ _ _ _ _ _ w hs false (by simp [iE];omega) h).mono ?_
    rintro e w' ⟨he,ht,hr⟩
    exact ⟨he,ht,_,_,_,hr,hf⟩
  ·have h4':fl g 4=false:=Bool.eq_false_iff.2 h4
   have q:sH g s false=⟨fl g 4 && fl g 16,fl g 1,fl g 1 && fl g 2,num s 2 (wA (fl g 1) (fl g 1 && fl g 2)),false,fl g 4 && fl g 8,num s (2+wA (fl g 1) (fl g 1 && fl g 2)) (wA (fl g 4) (fl g 4 && fl g 8)),num s (2+wA (fl g 1) (fl g 1 && fl g 2)+wA (fl g 4) (fl g 4 && fl g 8)) (w4 (fl g 4)),(num s (2+wA (fl g 1) (fl g 1 && fl g 2)+wA (fl g 4) (fl g 4 && fl g 8)+w4 (fl g 4)) (w2 (fl g 4)):Int),false,0⟩:=Ds.oJ rfl rfl rfl rfl h4' rfl rfl rfl rfl rfl rfl
   have hf:=fin_no s g hg h2 hk hh hz (fun q=>h4 q.1)
   rw [q] at h hf
   refine (readSum_no b c s (kJ g) _ _ _ _ _ _ _ _ w hs false h).mono ?_
   rintro e w' ⟨he,ht,hr⟩
   exact ⟨he,ht,_,_,_,hr,hf⟩
 ·obtain ⟨e1,hf⟩:=mid_out s g hg h2 hk hh (by omega)
  rw [e1] at h
  by_cases h4:fl g 4=true
  ·have q:=Ds.split (xX g s) true h4 rfl rfl
   rw [q] at h hf
   refine (readSum_f b c s _ _ _ _ _ _ _ _ _ w hs true (by simp [iE]) h).mono ?_
   rintro e w' ⟨he,ht,hr⟩
   exact ⟨he,ht,_,_,_,hr,hf⟩
  ·have q:=Ds.split (xX g s) false (Bool.eq_false_iff.2 h4) rfl rfl
   rw [q] at h hf
   refine (readSum_no b c s _ _ _ _ _ _ _ _ _ w hs true h).mono ?_
   rintro e w' ⟨he,ht,hr⟩
   exact ⟨he,ht,_,_,_,hr,hf⟩
def iY (s:ByteArray):Value:=.tuple #[.agg (dsv (dec s).1),.int .i64 (dec s).2]
theorem aC {P:Program} {fn:Func} {p t:Tmp} {ty:TypeId} (h:fn.results=#[.cell p ty,.tmp t]) (tmps:Array Value) (w:World) (g:Nat) (t':TypeId) (cs:Array Value) (fr:Nat×Nat) (d:TypeDesc)
  (hp:tmps.getD p undef= .pointer (some ⟨g,0,none⟩)) (hg:w.heap[g]?=some (.cells cs t' fr))
  (hu:P.underlying ty=some d) (hd:(match d with | .struct _ | .array _ _=>true | _=>false)=true) (hi:(P.info? ty).map (·.size)=some cs.size):
  (results fn tmps).run P w= .ok (.tuple #[.agg cs,tmps.getD t undef]) w:=by
 have hp':tmps[p]?.getD undef= .pointer (some ⟨g,0,none⟩):=by simpa using hp
 simp [results,h,hp',asAddr,run_loadVar_row w g t' ty cs fr d hg hu hd hi]
abbrev rowR (b:Nat):Array Value:=#[.func (.func 124) #[ptr b] #[],.func (.func 125) #[ptr b] #[],.func (.func 126) #[ptr b] #[]]
structure De (w W:World) (r n b c:Nat):Prop where
 zero:Blk W r 30 (dsv .zero)
 row:Blk W n 1 (rowR b)
 rest:Below w.heap.size w W
theorem De.two {w W W':World} {r n b c:Nat} (h:De w W r n b c) (hr:w.heap.size=r) (hc:c=r+1) (hb:b=r+2) (hn:r+2 < n) (ht:Two W W' b c):De w W' r n b c:=
 ⟨ht.blk h.zero (by omega) (by omega),ht.blk h.row (by omega) (by omega),h.rest.trans (ht.below (by omega) (by omega) h.rest.size)⟩
def x0 (g:Nat):Ds:=⟨fl g 4 && fl g 16,fl g 1,fl g 1 && fl g 2,0,fl g 4,fl g 4 && fl g 8,0,0,0,false,0⟩
def x1 (g:Nat) (s:ByteArray):Ds:=⟨fl g 4 && fl g 16,fl g 1,fl g 1 && fl g 2,numO s 2 false (wA (fl g 1) (fl g 1 && fl g 2)),fl g 4,fl g 4 && fl g 8,0,0,0,false,0⟩
theorem eY (s:ByteArray) (w:World) (hs:s.size≤9223372036854775807):
  Calls Tryz.prog 64 #[.string s] w (Rt w (iY s)):=by
 have HS:=Lh hs
 obtain ⟨V,hV⟩:=eqx (iY s)
 rw [←hV]
 have HV:=Lh hV
 clear hs hV
 obtain ⟨c,hc⟩:=eqx (w.heap.size+1)
 obtain ⟨b,hb⟩:=eqx (w.heap.size+1+1)
 obtain ⟨U,hU⟩:=eqx (((w.alloc (.cells (dsv .zero) 30)).alloc (.cells #[.string s,.int .i64 0,.bool false] 248)).alloc (.cells (bdv (ptr (w.heap.size+1)) .zero ⟨#[]⟩) 179))
 have hsz:((w.alloc (.cells (dsv .zero) 30)).alloc (.cells #[.string s,.int .i64 0,.bool false] 248)).heap.size=w.heap.size+1+1:=by simp
 have hbd:Bd U b (ptr c) .zero ⟨#[]⟩:=by
  rw [hU,hb,hc]
  have q:=Blk.new ((w.alloc (.cells (dsv .zero) 30)).alloc (.cells #[.string s,.int .i64 0,.bool false] 248)) 179 (bdv (ptr (w.heap.size+1)) .zero ⟨#[]⟩)
  rw [hsz] at q
  exact q
 have hcu:Cur U c s 0 false:=by
  rw [hU,hc]
  have q:=(Blk.new (w.alloc (.cells (dsv .zero) 30)) 248 #[.string s,.int .i64 0,.bool false]).alloc (.cells (bdv (ptr (w.heap.size+1)) .zero ⟨#[]⟩) 179)
  rw [show (w.alloc (.cells (dsv .zero) 30)).heap.size=w.heap.size+1 by simp] at q
  exact q
 have hzu:Blk U w.heap.size 30 (dsv .zero):=by rw [hU];exact ((Blk.new w 30 (dsv .zero)).alloc _).alloc _
 have hbu:Below w.heap.size w U:=by rw [hU];exact (((Below.refl _ w).alloc (Nat.le_refl _) _).alloc (by simp) _).alloc (by rw [hsz];omega) _
 have HRB:=Lh (show Rb U b c s 0 false .zero from ⟨hbd,hcu,Nat.zero_le _,by omega⟩)
 have HZU:=Lh hzu
 have HBU:=Lh hbu
 have HUE:=Lh hU
 have zG:=Lh hb
 have HCE:=Lh hc
 clear hU hb hc hsz hbd hcu hzu hbu
 go_enter Tryz.func64,Tryz.ntmps64
 go_wp2_with fail
 refine (uN s _).mono ?_
 rintro e W ⟨rfl,rfl⟩
 go_wp2_with fail
 have hUE:U=((w.alloc (.cells #[.bool false,.bool false,.bool false,.int .u64 0,.bool false,.bool false,.int .u64 0,.int .u32 0,.int .i64 0,.bool false,.int .u16 0] 30)).alloc (.cells #[.string s,.int .i64 0,.bool false] 248)).alloc (.cells #[.pointer (some ⟨w.heap.size+1,0,none⟩),.bool false,.bool false,.bool false,.int .u64 0,.bool false,.bool false,.int .u64 0,.int .u32 0,.int .i64 0,.bool false,.int .u16 0,.string ⟨#[]⟩] 179):=HUE.out
 rw [←hUE,←zG.out,←HCE.out]
 clear hUE HUE
 refine (readFront_any b c s U HS.out HRB.out).mono ?_
 rintro e W1 ⟨v,rfl,ht,hcase⟩
 have hne:w.heap.size≠b∧w.heap.size≠c∧w.heap.size≤b∧w.heap.size≤c:=by have:=zG.out;have:=HCE.out;omega
 have HNE:=Lh hne
 have hz1:=ht.blk HZU.out hne.1 hne.2.1
 have hb1:=HBU.out.trans (ht.below hne.2.2.1 hne.2.2.2 HBU.out.size)
 have HZ1:=Lh hz1
 have HB1:=Lh hb1
 clear hne hz1 hb1 ht HRB HZU HBU
 rcases hcase with ⟨hv0,hd⟩ | ⟨rfl,h2,hk,hh,hrb⟩
 ·have hv:(v==0)=false:=by rw [beq_eq_false_iff_ne];exact hv0
  have HVZ:=Lh (show V= .tuple #[.agg (dsv .zero),.int .i64 v] by rw [HV.out,iY,hd])
  have HSE:=Lh (setRow_heap _ w.heap.size _ (dsv .zero) _ _ HZ1.out)
  have HBE:=Lh (below_setRow HB1.out (Nat.le_refl _) (dsv .zero))
  clear hv0 hd
  go_wp2_with (refine wpList_store_row rfl 30 _ _ rfl w.heap.size (dsv .zero) rfl rfl 30 _ HZ1.out dG rfl (rC _) ?_)
  exact bodyPost_ret (aC rfl _ _ w.heap.size 30 (dsv .zero) (0,0) _ rfl HSE.out Tryz.underlying30 rfl dG) rfl ⟨by rw [HVZ.out];rfl,HBE.out⟩
 ·have HRB:=Lh hrb
  have H2:=Lh h2
  have HK:=Lh hk
  have HH:=Lh hh
  obtain ⟨G,hG⟩:=eqx (byteAt s 1)
  rw [←hG,front_eq] at HRB
  rw [←hG] at HH
  have HG:=Lh hG
  obtain ⟨n,hn⟩:=eqx W1.heap.size
  obtain ⟨W2,hW2⟩:=eqx (W1.alloc (.cells (rowR b) 1))
  have HRB2:=Lh (show Rb W2 b c s 2 false _ by rw [hW2];exact HRB.out.alloc _)
  have hbn:b < n:=by rw [hn];exact HRB.out.body.lt
  have HDE:=Lh (show De w W2 w.heap.size n b c by
   rw [hW2,hn]
   exact ⟨HZ1.out.alloc _,Blk.new _ _ _,HB1.out.alloc HB1.out.size _⟩)
  have HTW:=Lh (show∀W W':World,De w W w.heap.size n b c→Two W W' b c→De w W' w.heap.size n b c from fun W W' h ht=>h.two rfl HCE.out zG.out (by have:=zG.out;omega) ht)
  have HWE:=Lh hW2
  have HNEQ:=Lh hn
  clear h2 hk hh hrb hG hn hW2 hbn HRB HZ1 HB1 HCE zG
  go_wp2_with fail
  have hWE:W2=W1.alloc (.cells #[.func (.func 124) #[.pointer (some ⟨b,0,none⟩)] #[],.func (.func 125) #[.pointer (some ⟨b,0,none⟩)] #[],.func (.func 126) #[.pointer (some ⟨b,0,none⟩)] #[]] 1):=HWE.out
  rw [←hWE,←HNEQ.out]
  clear hWE HWE HNEQ
  go_loopw [27] (fun i wr=>∃j:Nat,j≤3∧i= .int .i64 (j:Int)∧De w wr w.heap.size n b c∧∃k br x,Rb wr b c s k br x∧(j=0→k=2∧br=false∧x=x0 G)∧(j=1→k=dK s 2 false (wA (fl G 1) (fl G 1 && fl G 2):Nat)∧br=brO s 2 false (wA (fl G 1) (fl G 1 && fl G 2):Nat)∧x=x1 G s)∧(j=2→k=zW G s∧br=zT G s∧x=xX G s)∧(j=3→Fin s k br x)) (fun i _=>(3 - intOf i).toNat)
  case atStart=>exact ⟨0,by omega,rfl,HDE.out,_,_,_,HRB2.out,fun _=>⟨rfl,rfl,rfl⟩,by omega,by omega,by omega⟩
  case round=>
   obtain ⟨j,hj,rfl,hE,k,br,x,hR,t0,t1,t2,t3⟩:=hrel
   have HE1:=Lh hE
   have HR1:=Lh hR
   clear HDE HRB2 hE hR
   have cases4:j=0∨j=1∨j=2∨j=3:=by omega
   clear hj
   rcases cases4 with rfl | rfl | rfl | rfl
   ·obtain ⟨rfl,rfl,rfl⟩:=t0 rfl
    have c0:=HE1.out.row.cell 0
    simp only [List.getElem?_toArray,List.getElem?_cons_zero] at c0
    have HW:=Lh (readAck_any b c s 2 false _ _ _ _ _ _ 0 _ _ _ _ wr HS.out HR1.out)
    clear t0 t1 t2 t3
    go_wp2_with fail
    refine HW.out.mono ?_
    rintro e Wn ⟨rfl,ht,hr⟩
    have HE2:=Lh (HTW.out _ _ HE1.out ht)
    have HR2:=Lh hr
    clear ht hr HW
    go_wp2_with fail
    go_roundw
    case rel=>exact ⟨1,by omega,by go_num,HE2.out,_,_,_,HR2.out,by omega,fun _=>⟨rfl,rfl,rfl⟩,by omega,by omega⟩
    case measure=>simp [intOf]
   ·obtain ⟨rfl,rfl,rfl⟩:=t1 rfl
    have c1:=HE1.out.row.cell 1
    simp only [List.getElem?_toArray,List.getElem?_cons_zero,List.getElem?_cons_succ] at c1
    have HW:=Lh (readMap_any b c s _ _ _ _ _ _ _ _ _ _ wr HS.out HR1.out)
    clear t0 t1 t2 t3
    go_wp2_with fail
    refine HW.out.mono ?_
    rintro e Wn ⟨rfl,ht,hr⟩
    have HE2:=Lh (HTW.out _ _ HE1.out ht)
    have HR2:=Lh hr
    clear ht hr HW
    go_wp2_with fail
    go_roundw
    case rel=>exact ⟨2,by omega,by go_num,HE2.out,_,_,_,HR2.out,by omega,by omega,fun _=>⟨rfl,rfl,rfl⟩,by omega⟩
    case measure=>simp [intOf]
   ·obtain ⟨rfl,rfl,rfl⟩:=t2 rfl
    have c2:=HE1.out.row.cell 2
    simp only [List.getElem?_toArray,List.getElem?_cons_zero,List.getElem?_cons_succ] at c2
    have HW:=Lh (last_any b c s G HG.out.symm H2.out HK.out HH.out wr HS.out HR1.out)
    clear t0 t1 t2 t3
    go_wp2_with fail
    refine HW.out.mono ?_
    rintro e Wn ⟨rfl,ht,hr⟩
    have HE2:=Lh (HTW.out _ _ HE1.out ht)
    have HR2:=Lh hr
    clear ht hr HW
    go_wp2_with fail
    go_roundw
    case rel=>exact ⟨3,by omega,by go_num,HE2.out,(by obtain ⟨k,br,x,q1,q2⟩:=HR2.out;exact ⟨k,br,x,q1,by omega,by omega,by omega,fun _=>q2⟩)⟩
    case measure=>simp [intOf]
   ·have hF:=t3 rfl
    have HF:=Lh hF
    have c0:=HR1.out.body.cell 0
    simp only [List.getElem?_toArray,List.getElem?_cons_zero] at c0
    clear t0 t1 t2 t3 hF
    go_wp2_with fail
    refine (pM c s k br wr HS.out HR1.out.at_ HR1.out.cur).mono ?_
    rintro e Wn ⟨rfl,m,rfl⟩
    have HE2:=Lh (HTW.out _ _ HE1.out (Two.left (fK wr m (some b))))
    have HR2:=Lh (HR1.out.drewN m)
    obtain ⟨W3,hW3⟩:=eqx (wr.drewN m)
    rw [←hW3] at HE2 HR2 ⊢
    clear hW3 HE1 HR1 c0
    obtain ⟨v,hv⟩:=eqx (kK s k br)
    unfold Fin at HF
    rw [←hv] at HF ⊢
    clear hv
    rcases HF.out with ⟨hv0,hd⟩ | ⟨hv0,hd⟩
    ·have hv:(v==0)=false:=by rw [beq_eq_false_iff_ne];exact hv0
     have HVZ:=Lh (show V= .tuple #[.agg (dsv .zero),.int .i64 v] by rw [HV.out,iY,hd])
     have HSE:=Lh (setRow_heap _ w.heap.size _ (dsv .zero) _ _ HE2.out.zero)
     have HBE:=Lh (below_setRow HE2.out.rest (Nat.le_refl _) (dsv .zero))
     clear hv0 hd HF
     go_wp2_with (refine wpList_store_row rfl 30 _ _ rfl w.heap.size (dsv .zero) rfl rfl 30 _ HE2.out.zero dG rfl (rC _) ?_)
     exact bodyPost_ret (aC rfl _ _ w.heap.size 30 (dsv .zero) (0,0) _ rfl HSE.out Tryz.underlying30 rfl dG) rfl ⟨by rw [HVZ.out];rfl,HBE.out⟩
    ·subst hv0
     have HVZ:=Lh (show V= .tuple #[.agg (dsv x),.int .i64 0] by rw [HV.out,iY,hd])
     have HSE:=Lh (setRow_heap _ w.heap.size _ (dsv x) _ _ HE2.out.zero)
     have HBE:=Lh (below_setRow HE2.out.rest (Nat.le_refl _) (dsv x))
     clear hd HF
     go_wp2_with (first
      | (refine nS rfl _ rfl b rfl (ptr c) x ⟨#[]⟩ ?_ ?_;exact HR2.out.body)
      | (refine wpList_store_row rfl 30 _ _ rfl w.heap.size (dsv x) rfl rfl 30 _ HE2.out.zero dG rfl (rC _) ?_))
     exact bodyPost_ret (aC rfl _ _ w.heap.size 30 (dsv x) (0,0) _ rfl HSE.out Tryz.underlying30 rfl dG) rfl ⟨by rw [HVZ.out];rfl,HBE.out⟩
end Go.Proofs.YtnlhhjhidkjlbaaGreatDoor.L11
