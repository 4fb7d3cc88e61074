/- PkDss. -/
import Derived.Test.YtklakghlliihkaaGreatDoorPkBase
import Derived.Laws.Tables
import Derived.Laws.Rows
import Derived.Deep.MidRow
import Derived.Laws.CopyOwn
set_option maxHeartbeats 4000000
set_option maxRecDepth 100000
set_option linter.unusedVariables false
set_option linter.unusedSimpArgs false
namespace Go.Proofs.YtklakghlliihkaaGreatDoor.L11
def wA (h l:Bool):Nat:=if h then (if l then 8 else 4) else 0
def w4 (h:Bool):Nat:=if h then 4 else 0
def w2 (h:Bool):Nat:=if h then 2 else 0
structure Ds where
 fin:Bool
 ha:Bool
 la:Bool
 ack:Nat
 hm:Bool
 ld:Bool
 dsn:Nat
 ssn:Nat
 len:Int
 hs:Bool
 sum:Nat
def siz (ha la hm ld:Bool):Nat:=2+wA ha la+wA hm ld+w4 hm+w2 hm
namespace Ds
theorem oN {x y:Ds} (h0:x.fin=y.fin) (h1:x.ha=y.ha) (h2:x.la=y.la) (h3:x.ack=y.ack) (h4:x.hm=y.hm) (h5:x.ld=y.ld) (h6:x.dsn=y.dsn) (h7:x.ssn=y.ssn) (h8:x.len=y.len) (h9:x.hs=y.hs) (h10:x.sum=y.sum):x=y:=by
 cases x;cases y;simp_all
structure Ok (x:Ds):Prop where
 ack:x.ack≤18446744073709551615
 dsn:x.dsn≤18446744073709551615
 ssn:x.ssn≤4294967295
 len: -9223372036854775808≤x.len∧x.len≤9223372036854775807
 sum:x.sum≤65535
abbrev Bare (x:Ds):Prop:=(x.ha=false→x.la=false∧x.ack=0)∧(x.hm=false→x.fin=false∧x.ld=false∧x.dsn=0∧x.ssn=0∧x.len=0∧x.hs=false)∧(x.hs=false→x.sum=0)
abbrev May (x:Ds):Prop:=(x.ha=true∨x.hm=true)∧x.Bare∧(x.la=true∨x.ack≤4294967295)∧(x.ld=true∨x.dsn≤4294967295)∧0≤x.len∧x.len≤65535
def bare (x:Ds):Ds:=⟨x.hm && x.fin,x.ha,x.ha && x.la,if x.ha then x.ack else 0,x.hm,x.hm && x.ld,if x.hm then x.dsn else 0,if x.hm then x.ssn else 0,if x.hm then x.len else 0,x.hm && x.hs,if x.hm && x.hs then x.sum else 0⟩
theorem bare_iff (x:Ds):x.bare=x↔x.Bare:=by
 obtain ⟨fin,ha,la,ack,hm,ld,dsn,ssn,len,hs,sum⟩:=x
 cases ha<;>cases hm<;>cases hs<;>simp [bare,Bare,eq_comm,and_assoc]<;>(constructor<;>(intro h;simp_all))
def bits (x:Ds):Nat:=(if x.ha then 1 else 0)+(if x.la then 2 else 0)+(if x.hm then 4 else 0)+(if x.ld then 8 else 0)+(if x.fin then 16 else 0)
theorem bits_lt (x:Ds):x.bits < 32:=by unfold bits;(repeat' split)<;>omega
def rest (x:Ds):List UInt8:=be (wA x.ha x.la) x.ack++be (wA x.hm x.ld) x.dsn++be (w4 x.hm) x.ssn++be (w2 x.hm) x.len.toNat++be (w2 x.hs) x.sum
def body (x:Ds):List UInt8:=32::UInt8.ofNat x.bits::x.rest
def size (x:Ds):Nat:=siz x.ha x.la x.hm x.ld
theorem gB (x:Ds):x.rest.length+2=x.size+w2 x.hs:=by
 unfold rest size siz;simp only [List.length_append,aI];omega
theorem dG (x:Ds):x.body.length=x.size+w2 x.hs:=by rw [←gB];rfl
def zero:Ds:=⟨false,false,false,0,false,false,0,0,0,false,0⟩
theorem dD:zero.Ok:=⟨by decide,by decide,by decide,by decide,by decide⟩
def enc (x:Ds):ByteArray×Int:=if x.May then (txt x.body,0) else (⟨#[]⟩,2)
theorem kP (x:Ds) (h:x.May):x.enc=(txt x.body,0):=if_pos h
theorem kN (x:Ds) (h:¬x.May):x.enc=(⟨#[]⟩,2):=if_neg h
end Ds
theorem oL (h l:Bool):wA h l≤8:=by cases h<;>cases l<;>decide
theorem w4_le (h:Bool):w4 h≤4:=by cases h<;>decide
theorem sW (h:Bool):w2 h≤2:=by cases h<;>decide
theorem Ds.size_le (x:Ds):x.size≤26:=by
 unfold Ds.size siz;have:=oL x.ha x.la;have:=oL x.hm x.ld;have:=w4_le x.hm;have:=sW x.hm;omega
def fl (c k:Nat):Bool:=decide (c / k%2=1)
def gotc (c:Nat) (s:ByteArray) (hs:Bool):Ds:=
 let a:=wA (fl c 1) (fl c 1 && fl c 2)
 let d:=wA (fl c 4) (fl c 4 && fl c 8)
 ⟨fl c 4 && fl c 16,fl c 1,fl c 1 && fl c 2,num s 2 a,fl c 4,fl c 4 && fl c 8,num s (2+a) d,num s (2+a+d) (w4 (fl c 4)),(num s (2+a+d+w4 (fl c 4)) (w2 (fl c 4)):Int),hs,num s (2+a+d+w4 (fl c 4)+w2 (fl c 4)) (w2 hs)⟩
def uQ (c:Nat):Nat:=siz (fl c 1) (fl c 1 && fl c 2) (fl c 4) (fl c 4 && fl c 8)
def decc (c:Nat) (s:ByteArray):Ds×Int:=
 if fl c 1=false∧fl c 4=false then (.zero,5) else if s.size < uQ c then (.zero,4) else if s.size=uQ c then (gotc c s false,0) else if fl c 4=true∧s.size=uQ c+2 then (gotc c s true,0) else (.zero,5)
def dec (s:ByteArray):Ds×Int:=
 if s.size=0 then (.zero,4) else if byteAt s 0 / 16≠2 then (.zero,7) else if s.size < 2 then (.zero,4) else decc (byteAt s 1) s
theorem ack_lt (x:Ds) (hx:x.Ok) (hm:x.May):x.ack < 256 ^ wA x.ha x.la:=by
 have:=hx.ack
 obtain ⟨_,⟨h1,_,_⟩,h2,_⟩:=hm
 unfold wA
 cases ha:x.ha
 ·have:=(h1 ha).2;simp;omega
 ·cases hl:x.la
  ·rw [hl] at h2;simp at h2 ⊢;omega
  ·simp;omega
theorem dsn_lt (x:Ds) (hx:x.Ok) (hm:x.May):x.dsn < 256 ^ wA x.hm x.ld:=by
 have:=hx.dsn
 obtain ⟨_,⟨_,h1,_⟩,_,h2,_⟩:=hm
 unfold wA
 cases ha:x.hm
 ·have:=(h1 ha).2.2.1;simp;omega
 ·cases hl:x.ld
  ·rw [hl] at h2;simp at h2 ⊢;omega
  ·simp;omega
open Go.ChangeShapes Go.WideShapes Go.ChangeAt Go.RowKit
abbrev dsv (x:Ds):Array Value:=#[.bool x.fin,.bool x.ha,.bool x.la,.int .u64 (x.ack:Int),.bool x.hm,.bool x.ld,.int .u64 (x.dsn:Int),.int .u32 (x.ssn:Int),.int .i64 x.len,.bool x.hs,.int .u16 (x.sum:Int)]
theorem dE:(Tryz.prog.info? 31).map (·.size)=some 11:=by kernel_rfl
theorem ds_one (x:Ds):(dsv x).all (·.oneCell')=true:=by simp [Value.oneCell']
def deq (x y:Ds):Bool:=x.fin==y.fin && (x.ha==y.ha && (x.la==y.la && ((x.ack:Int)==(y.ack:Int) && (x.hm==y.hm && (x.ld==y.ld && ((x.dsn:Int)==(y.dsn:Int) && ((x.ssn:Int)==(y.ssn:Int) && (x.len==y.len && (x.hs==y.hs && ((x.sum:Int)==(y.sum:Int)))))))))))
theorem nM (x y:Ds):deq x y=true↔x=y:=by
 unfold deq
 simp only [Bool.and_eq_true,beq_iff_eq]
 constructor
 ·rintro ⟨h0,h1,h2,h3,h4,h5,h6,h7,h8,h9,h10⟩
  exact Ds.oN h0 h1 h2 (by omega) h4 h5 (by omega) (by omega) h8 h9 (by omega)
 ·rintro rfl
  exact ⟨rfl,rfl,rfl,rfl,rfl,rfl,rfl,rfl,rfl,rfl,rfl⟩
theorem deq_self (x:Ds):deq x x=true:=(nM x x).2 rfl
theorem deq_ne {x y:Ds} (h:x≠y):deq x y=false:=by
 cases e:deq x y
 ·rfl
 ·exact absurd ((nM x y).1 e) h
theorem ds_equal (x y:Ds) (w:World):(Op.equalIn 10000 31 (.agg (dsv x)) (.agg (dsv y))).run Tryz.prog w= .ok (deq x y) w:=by
 rw [show (10000:Nat)=9999+1 from rfl,run_equalIn_agg (P:=Tryz.prog) w 9999 31 _ _ (by kernel_rfl) (by kernel_rfl)]
 rw [show (9999:Nat)=9998+1 from rfl]
 simp only [Program.fieldsOf,Tryz.underlying31,Op.eqFields]
 simp [go_sem]
 by_cases h:x=y
 ·subst h;simp [deq_self]
 ·rw [deq_ne h]
  repeat' split
  all_goals first | rfl | (exfalso;apply h;apply Ds.oN<;>first | assumption | omega)
theorem fits_any (n:Nat) (l:Bool) (w:World) (hn:n≤18446744073709551615):
  Calls Tryz.prog 195 #[.int .u64 (n:Int),.bool l] w (Rt w (.bool (l || decide (n≤4294967295)))):=by
 cases l
 ·by_cases h:n≤4294967295
  ·rw [decide_eq_true h]
   have h':(n:Int)≤4294967295:=by omega
   go_enter Tryz.func195,Tryz.ntmps195
   go_wp2
   go_ret;exact ⟨rfl,Below.refl _ _⟩
  ·rw [decide_eq_false h]
   have h':¬(n:Int)≤4294967295:=by omega
   go_enter Tryz.func195,Tryz.ntmps195
   go_wp2
   go_ret;exact ⟨rfl,Below.refl _ _⟩
 ·go_enter Tryz.func195,Tryz.ntmps195
  go_wp2
  go_ret;exact ⟨rfl,Below.refl _ _⟩
theorem bare_end (x:Ds) (w:World) (cs0 cs:Array Value) {a:Act} (ht:a.tmps.getD 2 undef= .pointer (some ⟨w.heap.size+1,0,none⟩)) (hc:cs=dsv x.bare) (hd:a.defers=[]) (hb:∀o1 o2:Obj,Below w.heap.size w ((w.alloc o1).alloc o2)):
  bodyPost Tryz.prog Tryz.f194 (fun e w'=>e= .returned (.agg (dsv x.bare))∧Below w.heap.size w w') .ret a ((w.alloc (.cells cs0 31)).alloc (.cells cs 31)):=by
 subst hc
 have hB:Blk ((w.alloc (.cells cs0 31)).alloc (.cells (dsv x.bare) 31)) (w.heap.size+1) 31 (dsv x.bare):=by
  have:=Blk.new (w.alloc (.cells cs0 31)) 31 (dsv x.bare)
  simpa using this
 exact bodyPost_ret (results_cell_row rfl _ _ (w.heap.size+1) 31 (dsv x.bare) (0,0) _ ht hB Tryz.underlying31 rfl dE) hd ⟨rfl,hb _ _⟩
theorem owned_any (x:Ds) (w:World):
  Calls Tryz.prog 194 #[.agg (dsv x)] w (Rt w (.agg (dsv x.bare))):=by
 have hb:∀o1 o2:Obj,Below w.heap.size w ((w.alloc o1).alloc o2):=fun o1 o2=>((Below.refl _ w).alloc (Nat.le_refl _) _).alloc (by simp) _
 have HB:=Lh hb
 clear hb
 obtain ⟨fin,ha,la,ack,hm,ld,dsn,ssn,len,hs,sum⟩:=x
 cases ha<;>cases hm<;>cases hs
 all_goals
  go_enter Tryz.func194,Tryz.ntmps194
  go_wp2_with fail
  exact bare_end _ w _ _ rfl (by simp [Ds.bare]) rfl HB.out
def aS (x:Ds) (j:Nat):Nat:=(if 0 < j∧x.ha=true then 1 else 0)+(if 1 < j∧x.la=true then 2 else 0)+(if 2 < j∧x.hm=true then 4 else 0)+(if 3 < j∧x.ld=true then 8 else 0)+(if 4 < j∧x.fin=true then 16 else 0)
theorem bitsTo_5 (x:Ds):aS x 5=x.bits:=by simp [aS,Ds.bits]
theorem bitsTo_lt (x:Ds):aS x 0 < 1∧aS x 1 < 2∧aS x 2 < 4∧aS x 3 < 8∧aS x 4 < 16:=by
 unfold aS;refine ⟨?_,?_,?_,?_,?_⟩<;>((repeat' split)<;>omega)
theorem or_1:∀n:Fin 1,bits .or .u8 (n.val:Int) 1=((n.val+1:Nat):Int):=by decide
theorem or_2:∀n:Fin 2,bits .or .u8 (n.val:Int) 2=((n.val+2:Nat):Int):=by decide
theorem or_4:∀n:Fin 4,bits .or .u8 (n.val:Int) 4=((n.val+4:Nat):Int):=by decide
theorem or_8:∀n:Fin 8,bits .or .u8 (n.val:Int) 8=((n.val+8:Nat):Int):=by decide
theorem or_16:∀n:Fin 16,bits .or .u8 (n.val:Int) 16=((n.val+16:Nat):Int):=by decide
theorem bitsOf_any (x:Ds) (w:World):
  Calls Tryz.prog 197 #[.agg (dsv x)] w (Rt w (.int .u8 (x.bits:Int))):=by
 rw [←bitsTo_5]
 obtain ⟨b,hb⟩:=eqx (w.heap.size+1)
 obtain ⟨W,hW⟩:=eqx ((w.alloc (.cells (dsv x) 31)).alloc (.cells #[.bool x.ha,.int .u8 1,.bool x.la,.int .u8 2,.bool x.hm,.int .u8 4,.bool x.ld,.int .u8 8,.bool x.fin,.int .u8 16] 288))
 have HL:=Lh (show Blk W b 288 #[.bool x.ha,.int .u8 1,.bool x.la,.int .u8 2,.bool x.hm,.int .u8 4,.bool x.ld,.int .u8 8,.bool x.fin,.int .u8 16] by
  rw [hW,hb]
  have:=Blk.new (w.alloc (.cells (dsv x) 31)) 288 #[.bool x.ha,.int .u8 1,.bool x.la,.int .u8 2,.bool x.hm,.int .u8 4,.bool x.ld,.int .u8 8,.bool x.fin,.int .u8 16]
  simpa using this)
 have HBW:=Lh (show Below w.heap.size w W by rw [hW];exact ((Below.refl _ w).alloc (Nat.le_refl _) _).alloc (by simp) _)
 have HWE:=Lh hW
 have HBE:=Lh hb
 clear hW hb
 go_enter Tryz.func197,Tryz.ntmps197
 go_wp2_with fail
 rw [←HWE.out,←HBE.out]
 clear HWE HBE
 go_loopw [3,23] (fun v i wr=>∃j:Nat,j≤5∧i= .int .i64 (j:Int)∧v= .int .u8 (aS x j:Int)∧Blk wr b 288 #[.bool x.ha,.int .u8 1,.bool x.la,.int .u8 2,.bool x.hm,.int .u8 4,.bool x.ld,.int .u8 8,.bool x.fin,.int .u8 16]∧Below w.heap.size w wr) (fun _ i _=>(5 - intOf i).toNat)
 case atStart=>exact ⟨0,by omega,rfl,rfl,HL.out,HBW.out⟩
 case round=>
  obtain ⟨j,hj,rfl,rfl,hL,hB⟩:=hrel
  have HL1:=Lh hL
  have HB1:=Lh hB
  clear hB HL HBW
  have cases6:j=0∨j=1∨j=2∨j=3∨j=4∨j=5:=by omega
  clear hj
  have hlt:=bitsTo_lt x
  rcases cases6 with rfl | rfl | rfl | rfl | rfl | rfl
  ·obtain ⟨a,ha⟩:=eqx (aS x 0)
   have ho:bits .or .u8 (a:Int) 1=((a+1:Nat):Int):=or_1 ⟨a,by rw [ha];exact hlt.1⟩
   have HA:=Lh ha
   have c0:=hL.cell 0
   have c1:=hL.cell 1
   simp only [List.getElem?_toArray,List.getElem?_cons_zero,List.getElem?_cons_succ] at c0 c1
   rw [←ha]
   clear ha hL hlt
   by_cases hf:x.ha=true
   ·rw [hf] at c0
    have HF:=Lh (show a+1=aS x 1 by rw [HA.out];simp [aS,hf])
    go_wp2_with fail
    go_roundw
    case rel=>exact ⟨1,by omega,by go_num,aX (by have:=HF.out;omega),HL1.out.alloc _,HB1.out.alloc HB1.out.size _⟩
    case measure=>simp [intOf]
   ·rw [Bool.eq_false_iff.2 hf] at c0
    have HF:=Lh (show a=aS x 1 by rw [HA.out];simp [aS,hf])
    clear hf
    go_wp2_with fail
    go_roundw
    case rel=>exact ⟨1,by omega,by go_num,aX (by have:=HF.out;omega),HL1.out.alloc _,HB1.out.alloc HB1.out.size _⟩
    case measure=>simp [intOf]
  ·obtain ⟨a,ha⟩:=eqx (aS x 1)
   have ho:bits .or .u8 (a:Int) 2=((a+2:Nat):Int):=or_2 ⟨a,by rw [ha];exact hlt.2.1⟩
   have HA:=Lh ha
   have c0:=hL.cell 2
   have c1:=hL.cell 3
   simp only [List.getElem?_toArray,List.getElem?_cons_zero,List.getElem?_cons_succ] at c0 c1
   rw [←ha]
   clear ha hL hlt
   by_cases hf:x.la=true
   ·rw [hf] at c0
    have HF:=Lh (show a+2=aS x 2 by rw [HA.out];simp [aS,hf])
    go_wp2_with fail
    go_roundw
    case rel=>exact ⟨2,by omega,by go_num,aX (by have:=HF.out;omega),HL1.out.alloc _,HB1.out.alloc HB1.out.size _⟩
    case measure=>simp [intOf]
   ·rw [Bool.eq_false_iff.2 hf] at c0
    have HF:=Lh (show a=aS x 2 by rw [HA.out];simp [aS,hf])
    clear hf
    go_wp2_with fail
    go_roundw
    case rel=>exact ⟨2,by omega,by go_num,aX (by have:=HF.out;omega),HL1.out.alloc _,HB1.out.alloc HB1.out.size _⟩
    case measure=>simp [intOf]
  ·obtain ⟨a,ha⟩:=eqx (aS x 2)
   have ho:bits .or .u8 (a:Int) 4=((a+4:Nat):Int):=or_4 ⟨a,by rw [ha];exact hlt.2.2.1⟩
   have HA:=Lh ha
   have c0:=hL.cell 4
   have c1:=hL.cell 5
   simp only [List.getElem?_toArray,List.getElem?_cons_zero,List.getElem?_cons_succ] at c0 c1
   rw [←ha]
   clear ha hL hlt
   by_cases hf:x.hm=true
   ·rw [hf] at c0
    have HF:=Lh (show a+4=aS x 3 by rw [HA.out];simp [aS,hf])
    go_wp2_with fail
    go_roundw
    case rel=>exact ⟨3,by omega,by go_num,aX (by have:=HF.out;omega),HL1.out.alloc _,HB1.out.alloc HB1.out.size _⟩
    case measure=>simp [intOf]
   ·rw [Bool.eq_false_iff.2 hf] at c0
    have HF:=Lh (show a=aS x 3 by rw [HA.out];simp [aS,hf])
    clear hf
    go_wp2_with fail
    go_roundw
    case rel=>exact ⟨3,by omega,by go_num,aX (by have:=HF.out;omega),HL1.out.alloc _,HB1.out.alloc HB1.out.size _⟩
    case measure=>simp [intOf]
  ·obtain ⟨a,ha⟩:=eqx (aS x 3)
   have ho:bits .or .u8 (a:Int) 8=((a+8:Nat):Int):=or_8 ⟨a,by rw [ha];exact hlt.2.2.2.1⟩
   have HA:=Lh ha
   have c0:=hL.cell 6
   have c1:=hL.cell 7
   simp only [List.getElem?_toArray,List.getElem?_cons_zero,List.getElem?_cons_succ] at c0 c1
   rw [←ha]
   clear ha hL hlt
   by_cases hf:x.ld=true
   ·rw [hf] at c0
    have HF:=Lh (show a+8=aS x 4 by rw [HA.out];simp [aS,hf])
    go_wp2_with fail
    go_roundw
    case rel=>exact ⟨4,by omega,by go_num,aX (by have:=HF.out;omega),HL1.out.alloc _,HB1.out.alloc HB1.out.size _⟩
    case measure=>simp [intOf]
   ·rw [Bool.eq_false_iff.2 hf] at c0
    have HF:=Lh (show a=aS x 4 by rw [HA.out];simp [aS,hf])
    clear hf
    go_wp2_with fail
    go_roundw
    case rel=>exact ⟨4,by omega,by go_num,aX (by have:=HF.out;omega),HL1.out.alloc _,HB1.out.alloc HB1.out.size _⟩
    case measure=>simp [intOf]
  ·obtain ⟨a,ha⟩:=eqx (aS x 4)
   have ho:bits .or .u8 (a:Int) 16=((a+16:Nat):Int):=or_16 ⟨a,by rw [ha];exact hlt.2.2.2.2⟩
   have HA:=Lh ha
   have c0:=hL.cell 8
   have c1:=hL.cell 9
   simp only [List.getElem?_toArray,List.getElem?_cons_zero,List.getElem?_cons_succ] at c0 c1
   rw [←ha]
   clear ha hL hlt
   by_cases hf:x.fin=true
   ·rw [hf] at c0
    have HF:=Lh (show a+16=aS x 5 by rw [HA.out];simp [aS,hf])
    go_wp2_with fail
    go_roundw
    case rel=>exact ⟨5,by omega,by go_num,aX (by have:=HF.out;omega),HL1.out.alloc _,HB1.out.alloc HB1.out.size _⟩
    case measure=>simp [intOf]
   ·rw [Bool.eq_false_iff.2 hf] at c0
    have HF:=Lh (show a=aS x 5 by rw [HA.out];simp [aS,hf])
    clear hf
    go_wp2_with fail
    go_roundw
    case rel=>exact ⟨5,by omega,by go_num,aX (by have:=HF.out;omega),HL1.out.alloc _,HB1.out.alloc HB1.out.size _⟩
    case measure=>simp [intOf]
  ·clear hL hlt
   go_wp2_with fail
   go_ret;exact ⟨rfl,HB1.out⟩
open Go.ChangeShapes Go.WideShapes Go.ChangeAt Go.RowKit
abbrev bdv (c:Value) (x:Ds) (T:ByteArray):Array Value:=#[c,.bool x.fin,.bool x.ha,.bool x.la,.int .u64 (x.ack:Int),.bool x.hm,.bool x.ld,.int .u64 (x.dsn:Int),.int .u32 (x.ssn:Int),.int .i64 x.len,.bool x.hs,.int .u16 (x.sum:Int),.string T]
abbrev ptr (b:Nat):Value:=.pointer (some ⟨b,0,none⟩)
def Bd (w:World) (b:Nat) (c:Value) (x:Ds) (T:ByteArray):Prop:=Blk w b 188 (bdv c x T)
section
variable {w w':World} {b:Nat} {c:Value} {x:Ds} {T:ByteArray}
theorem Bd.blk (h:Bd w b c x T):Blk w b 188 (bdv c x T):=h
theorem Bd.cell (h:Bd w b c x T) (i:Nat):w.cell? ⟨b,i,none⟩=(bdv c x T)[i]?:=Blk.cell h i
theorem Bd.kW (h:Bd w b c x T) (S:ByteArray):Bd (w.setCell ⟨b,12,none⟩ (.string S)) b c x S:=Blk.fJ h 12 _
theorem Bd.below (h:Bd w b c x T) {B:Nat} (hb:Below B w w') (hg:b < B):Bd w' b c x T:=Blk.below h hb hg
theorem Bd.lt (h:Bd w b c x T):b < w.heap.size:=Blk.lt h
theorem Bd.alloc (h:Bd w b c x T) (o:Obj):Bd (w.alloc o) b c x T:=Blk.alloc h o
theorem Bd.range (h:Bd w b c x T):w.rangeAt b 1 (dsv x).toList:=World.rangeAt_of_block h 1 11
end
theorem ds_size' (x:Ds):(Tryz.prog.info? 31).map (·.size)=some (dsv x).toList.length:=dE
theorem jR {ops:Array Oper} {rest:List Oper} {o:Oper} {a:Act} {w:World} {Q:Exit→Act→World→Prop} (hgd:o.guard=none) (v:Operand) (ho:o.op= .load 31 v) (b:Nat) (hx:a.eval v= .pointer (some ⟨b,1,none⟩)) (c:Value) (x:Ds) (T:ByteArray) (hb:Bd w b c x T)
  (h:wpList Tryz.prog ops Q rest (a.put o.dst (.agg (dsv x))) w):wpList Tryz.prog ops Q (o::rest) a w:=
 wpList_load_mid hgd 31 v ho b 1 hx (dsv x).toList _ hb.range Tryz.underlying31 rfl (ds_size' x) h
abbrev Wrote (w:World) (b:Nat) (c:Value) (x:Ds) (S:ByteArray) (e:Ending) (w':World):Prop:=e= .returned (.tuple #[])∧w.grownBy w' (some b)∧Bd w' b c x S
theorem put8_any (b n:Nat) (c:Value) (x:Ds) (T S:ByteArray) (w:World) (hT:T.size≤9223372036854775000) (hn:n≤255) (hS:T++txt (be 1 n)=S) (h:Bd w b c x T):
  Calls Tryz.prog 196 #[ptr b,.int .u8 (n:Int)] w (Wrote w b c x S):=by
 have H:=Lh h
 have HS:=Lh (show T++⟨(be 1 n).toArray⟩=S from hS)
 have c12:=h.cell 12
 simp only [List.getElem?_toArray,List.getElem?_cons_zero,List.getElem?_cons_succ] at c12
 clear h hS
 go_enter Tryz.func196,Tryz.ntmps196
 go_wp2_with fail
 refine (answer (bG T n w hT hn) (congrArg Value.string HS.out)).mono ?_
 rintro e W ⟨rfl,hb⟩
 have HW:=Lh (H.out.below hb H.out.lt)
 have HB:=Lh (bH hb (some b))
 have c':=HW.out.cell 12
 have fz:=HW.out.blk.frozen 12
 simp only [List.getElem?_toArray,List.getElem?_cons_zero,List.getElem?_cons_succ] at c'
 clear hb c12
 go_wp2_with fail
 go_end0;exact ⟨rfl,aT HB.out rfl _,HW.out.kW _⟩
theorem put16_any (b n:Nat) (c:Value) (x:Ds) (T S:ByteArray) (w:World) (hT:T.size≤9223372036854775000) (hn:n≤65535) (hS:T++txt (be 2 n)=S) (h:Bd w b c x T):
  Calls Tryz.prog 201 #[ptr b,.int .u16 (n:Int)] w (Wrote w b c x S):=by
 have H:=Lh h
 have HS:=Lh (show T++⟨(be 2 n).toArray⟩=S from hS)
 have c12:=h.cell 12
 simp only [List.getElem?_toArray,List.getElem?_cons_zero,List.getElem?_cons_succ] at c12
 clear h hS
 go_enter Tryz.func201,Tryz.ntmps201
 go_wp2_with fail
 refine (answer (kM T n w hT hn) (congrArg Value.string HS.out)).mono ?_
 rintro e W ⟨rfl,hb⟩
 have HW:=Lh (H.out.below hb H.out.lt)
 have HB:=Lh (bH hb (some b))
 have c':=HW.out.cell 12
 have fz:=HW.out.blk.frozen 12
 simp only [List.getElem?_toArray,List.getElem?_cons_zero,List.getElem?_cons_succ] at c'
 clear hb c12
 go_wp2_with fail
 go_end0;exact ⟨rfl,aT HB.out rfl _,HW.out.kW _⟩
theorem put32_any (b n:Nat) (c:Value) (x:Ds) (T S:ByteArray) (w:World) (hT:T.size≤9223372036854775000) (hn:n≤4294967295) (hS:T++txt (be 4 n)=S) (h:Bd w b c x T):
  Calls Tryz.prog 199 #[ptr b,.int .u32 (n:Int)] w (Wrote w b c x S):=by
 have H:=Lh h
 have HS:=Lh (show T++⟨(be 4 n).toArray⟩=S from hS)
 have c12:=h.cell 12
 simp only [List.getElem?_toArray,List.getElem?_cons_zero,List.getElem?_cons_succ] at c12
 clear h hS
 go_enter Tryz.func199,Tryz.ntmps199
 go_wp2_with fail
 refine (answer (iL T n w hT hn) (congrArg Value.string HS.out)).mono ?_
 rintro e W ⟨rfl,hb⟩
 have HW:=Lh (H.out.below hb H.out.lt)
 have HB:=Lh (bH hb (some b))
 have c':=HW.out.cell 12
 have fz:=HW.out.blk.frozen 12
 simp only [List.getElem?_toArray,List.getElem?_cons_zero,List.getElem?_cons_succ] at c'
 clear hb c12
 go_wp2_with fail
 go_end0;exact ⟨rfl,aT HB.out rfl _,HW.out.kW _⟩
theorem put64_any (b n:Nat) (c:Value) (x:Ds) (T S:ByteArray) (w:World) (hT:T.size≤9223372036854775000) (hn:n≤18446744073709551615) (hS:T++txt (be 8 n)=S) (h:Bd w b c x T):
  Calls Tryz.prog 200 #[ptr b,.int .u64 (n:Int)] w (Wrote w b c x S):=by
 have H:=Lh h
 have HS:=Lh (show T++⟨(be 8 n).toArray⟩=S from hS)
 have c12:=h.cell 12
 simp only [List.getElem?_toArray,List.getElem?_cons_zero,List.getElem?_cons_succ] at c12
 clear h hS
 go_enter Tryz.func200,Tryz.ntmps200
 go_wp2_with fail
 refine (answer (kH T n w hT hn) (congrArg Value.string HS.out)).mono ?_
 rintro e W ⟨rfl,hb⟩
 have HW:=Lh (H.out.below hb H.out.lt)
 have HB:=Lh (bH hb (some b))
 have c':=HW.out.cell 12
 have fz:=HW.out.blk.frozen 12
 simp only [List.getElem?_toArray,List.getElem?_cons_zero,List.getElem?_cons_succ] at c'
 clear hb c12
 go_wp2_with fail
 go_end0;exact ⟨rfl,aT HB.out rfl _,HW.out.kW _⟩
abbrev m32 (b:Nat):Value:=.func (.func 199) #[ptr b] #[]
abbrev m64 (b:Nat):Value:=.func (.func 200) #[ptr b] #[]
abbrev wclo (g:Nat):Value:=.func (.func 225) #[] #[ptr (g+1),ptr g]
structure Wcl (w:World) (g b:Nat):Prop where
 b32:Blk w g 252 #[m32 b]
 b64:Blk w (g+1) 253 #[m64 b]
theorem writer_any (b:Nat) (w:World):
  Calls Tryz.prog 198 #[m32 b,m64 b] w fun e w'=>e= .returned (wclo w.heap.size)∧Wcl w' w.heap.size b∧Below w.heap.size w w':=by
 have hb:Below w.heap.size w ((w.alloc (.cells #[m32 b] 252)).alloc (.cells #[m64 b] 253)):=((Below.refl _ w).alloc (Nat.le_refl _) _).alloc (by simp) _
 have h1:Blk ((w.alloc (.cells #[m32 b] 252)).alloc (.cells #[m64 b] 253)) w.heap.size 252 #[m32 b]:=(Blk.new _ _ _).alloc _
 have h2:Blk ((w.alloc (.cells #[m32 b] 252)).alloc (.cells #[m64 b] 253)) (w.heap.size+1) 253 #[m64 b]:=by
  have:=Blk.new (w.alloc (.cells #[m32 b] 252)) 253 #[m64 b]
  simpa using this
 have HE:=Lh (show Wcl ((w.alloc (.cells #[m32 b] 252)).alloc (.cells #[m64 b] 253)) w.heap.size b∧Below w.heap.size w ((w.alloc (.cells #[m32 b] 252)).alloc (.cells #[m64 b] 253)) from ⟨⟨h1,h2⟩,hb⟩)
 clear hb h1 h2
 go_enter Tryz.func198,Tryz.ntmps198
 go_wp2_with fail
 go_ret;exact ⟨rfl,HE.out⟩
theorem wclo_any (l:Bool) (n g b:Nat) (c:Value) (x:Ds) (T S:ByteArray) (w:World) (hT:T.size≤9223372036854775000) (hn:n < 256 ^ wA true l) (hS:T++txt (be (wA true l) n)=S) (h:Bd w b c x T) (hg:Wcl w g b):
  Calls Tryz.prog 225 #[.int .u64 (n:Int),.bool l,ptr (g+1),ptr g] w (Wrote w b c x S):=by
 have c0:=hg.b32.cell 0
 have c1:=hg.b64.cell 0
 simp only [List.getElem?_toArray,List.getElem?_cons_zero] at c0 c1
 cases l
 ·have HC:=Lh (put32_any b n c x T S w hT (by have:n < 256 ^ 4:=hn;omega) hS h)
  have hc:(n:Int)%4294967296=(n:Int):=by have:n < 256 ^ 4:=hn;omega
  clear hS h hg hn c1
  go_enter Tryz.func225,Tryz.ntmps225
  go_wp2_with fail
  refine HC.out.mono ?_
  rintro e W ⟨rfl,hb,hd⟩
  have HE:=Lh (And.intro hb hd)
  clear hb hd
  go_wp2_with fail
  go_end0;exact ⟨rfl,HE.out⟩
 ·have HC:=Lh (put64_any b n c x T S w hT (by have:n < 256 ^ 8:=hn;omega) hS h)
  clear hS h hg hn c0
  go_enter Tryz.func225,Tryz.ntmps225
  go_wp2_with fail
  refine HC.out.mono ?_
  rintro e W ⟨rfl,hb,hd⟩
  have HE:=Lh (And.intro hb hd)
  clear hb hd
  go_wp2_with fail
  go_end0;exact ⟨rfl,HE.out⟩
open Go.ChangeShapes Go.WideShapes Go.ChangeAt Go.RowKit
structure Two (w w':World) (b c:Nat):Prop where
 os:w'.os=w.os
 tape:w'.tape=w.tape
 output:w'.output=w.output
 size:w.heap.size≤w'.heap.size
 block:∀k,k < w.heap.size→k≠b→k≠c→w'.heap[k]?=w.heap[k]?
namespace Two
variable {w w' w'':World} {b c:Nat}
theorem refl (w:World) (b c:Nat):Two w w b c:=⟨rfl,rfl,rfl,Nat.le_refl _,fun _ _ _ _=>rfl⟩
theorem trans (h:Two w w' b c) (h':Two w' w'' b c):Two w w'' b c:=⟨h'.os.trans h.os,h'.tape.trans h.tape,h'.output.trans h.output,Nat.le_trans h.size h'.size,fun k hk hb hc=>(h'.block k (Nat.lt_of_lt_of_le hk h.size) hb hc).trans (h.block k hk hb hc)⟩
theorem blk (h:Two w w' b c) {g:Nat} {t:TypeId} {cs:Array Value} (hg:Blk w g t cs) (hb:g≠b) (hc:g≠c):Blk w' g t cs:=hg.same (h.block g hg.lt hb hc)
theorem below (h:Two w w' b c) {B:Nat} (hb:B≤b) (hc:B≤c) (hs:B≤w.heap.size):Below B w w':=
 ⟨h.os,h.tape,h.output,h.size,fun k hk=>h.block k (Nat.lt_of_lt_of_le hk hs) (Nat.ne_of_lt (Nat.lt_of_lt_of_le hk hb)) (Nat.ne_of_lt (Nat.lt_of_lt_of_le hk hc))⟩
end Two
structure Rb (w:World) (b c:Nat) (s:ByteArray) (k:Nat) (br:Bool) (x:Ds):Prop where
 body:Bd w b (ptr c) x ⟨#[]⟩
 cur:Cur w c s k br
 at_:k≤s.size
 ne:b≠c
namespace Rb
variable {w w':World} {b c:Nat} {s:ByteArray} {k k':Nat} {br br':Bool} {x y:Ds}
theorem below (h:Rb w b c s k br x) (q:Below w.heap.size w w'):Rb w' b c s k br x:=⟨h.body.below q h.body.lt,Blk.below h.cur q (Blk.lt h.cur),h.at_,h.ne⟩
theorem alloc (h:Rb w b c s k br x) (o:Obj):Rb (w.alloc o) b c s k br x:=⟨h.body.alloc o,Blk.alloc h.cur o,h.at_,h.ne⟩
theorem drewN (h:Rb w b c s k br x) (n:Nat):Rb (w.drewN n) b c s k br x:=⟨Blk.drewN h.body n,Blk.drewN h.cur n,h.at_,h.ne⟩
end Rb
abbrev r32 (c:Nat):Value:=.func (.func 192) #[ptr c] #[]
abbrev r64 (c:Nat):Value:=.func (.func 184) #[ptr c] #[]
structure Rcl (w:World) (g c:Nat):Prop where
 b32:Blk w g 245 #[r32 c]
 b64:Blk w (g+1) 238 #[r64 c]
def lV (cs:Array Value):Nat→List Value→Array Value
 | _,[]=>cs
 | o,v::r=>lV (cs.setIfInBounds o v) (o+1) r
theorem _root_.Go.Proofs.YtklakghlliihkaaGreatDoor.Blk.setAll_ {g:Nat} {t:TypeId}:∀(vs:List Value) (o:Nat) (w:World) (cs:Array Value),Blk w g t cs→Blk (w.setCells g o vs) g t (lV cs o vs)
 | [],_,_,_,h=>h
 | v::r,o,w,cs,h=>Blk.setAll_ r (o+1) _ _ (h.fJ o v)
theorem only_setCells {g:Nat}:∀(vs:List Value) (o:Nat) (a w:World),a.grownBy w (some g)→a.grownBy (w.setCells g o vs) (some g)
 | [],_,_,_,h=>h
 | v::r,o,a,w,h=>only_setCells r (o+1) a _ (aT h rfl v)
open Go.ChangeShapes Go.WideShapes Go.ChangeAt Go.RowKit
theorem putFront_any (b:Nat) (c:Value) (x:Ds) (T S1 S:ByteArray) (w:World) (hT:T.size≤1000) (h1:T++txt (be 1 32)=S1) (hS:S1++txt (be 1 x.bits)=S) (h:Bd w b c x T):
  Calls Tryz.prog 134 #[ptr b] w (Wrote w b c x S):=by
 have hz1:S1.size≤1001:=by rw [←h1,ByteArray.size_append,aO,aI];omega
 have H:=Lh h
 have H1:=Lh h1
 have HS:=Lh hS
 clear h h1 hS
 go_enter Tryz.func134,Tryz.ntmps134
 go_wp2_with fail
 refine (put8_any b 32 c x T S1 w (by omega) (by omega) H1.out H.out).mono ?_
 rintro e W1 ⟨rfl,g1,d1⟩
 have HD1:=Lh d1
 have HG1:=Lh g1
 clear d1 g1 H
 go_wp2_with (refine jR rfl _ rfl b rfl c x S1 ?_ ?_;exact HD1.out)
 refine (bitsOf_any x W1).mono ?_
 rintro e W2 ⟨rfl,b2⟩
 have HD2:=Lh (HD1.out.below b2 HD1.out.lt)
 have HG2:=Lh (HG1.out.trans (bH b2 (some b)))
 clear b2 HD1 HG1
 go_wp2_with fail
 refine (put8_any b x.bits c x S1 S W2 (by omega) (by have:=x.bits_lt;omega) HS.out HD2.out).mono ?_
 rintro e W3 ⟨rfl,g3,d3⟩
 have HE:=Lh (And.intro (HG2.out.trans g3) d3)
 clear g3 d3 HD2 HG2
 go_wp2_with fail
 go_end0;exact ⟨rfl,HE.out⟩
theorem putAck_any (b:Nat) (c:Value) (x:Ds) (T S:ByteArray) (w:World) (hT:T.size≤1000) (hn:x.ack < 256 ^ wA x.ha x.la) (hS:T++txt (be (wA x.ha x.la) x.ack)=S) (h:Bd w b c x T):
  Calls Tryz.prog 135 #[ptr b] w (Wrote w b c x S):=by
 obtain ⟨fin,ha,la,ack,hm,ld,dsn,ssn,len,hs,sum⟩:=x
 cases ha
 ·have hS:T=S:=by rw [←hS];exact (iM T).symm
  subst hS
  have H:=Lh h
  obtain ⟨W1,hW1⟩:=eqx (w.alloc (.cells #[.bool fin,.bool false,.bool la,.int .u64 (ack:Int),.bool hm,.bool ld,.int .u64 (dsn:Int),.int .u32 (ssn:Int),.int .i64 len,.bool hs,.int .u16 (sum:Int)] 31))
  obtain ⟨g,hg⟩:=eqx w.heap.size
  have HX:=Lh (show Blk W1 g 31 (dsv (⟨fin,false,la,ack,hm,ld,dsn,ssn,len,hs,sum⟩:Ds)) by rw [hW1,hg];exact Blk.new _ _ _)
  have HD:=Lh (show Bd W1 b c (⟨fin,false,la,ack,hm,ld,dsn,ssn,len,hs,sum⟩:Ds) T by rw [hW1];exact h.alloc _)
  have HG:=Lh (show w.grownBy W1 (some b) by rw [hW1];exact bM (.refl _ _) _)
  have hne:b≠g:=by rw [hg];exact Nat.ne_of_lt h.lt
  have HNE:=Lh (show some g≠some b by intro q;injection q with q;exact hne q.symm)
  have HW1:=Lh hW1
  have HGE:=Lh hg
  clear hW1 hg h hne
  go_enter Tryz.func135,Tryz.ntmps135
  go_wp2_with (refine jR rfl _ rfl b rfl c (⟨fin,false,la,ack,hm,ld,dsn,ssn,len,hs,sum⟩:Ds) T ?_ ?_;exact H.out)
  rw [←HW1.out]
  go_wp2_with fail
  go_end0;exact ⟨rfl,HG.out,HD.out⟩
 ·have HN:=Lh (show ack < 256 ^ wA true la from hn)
  have HS:=Lh (show T++txt (be (wA true la) ack)=S from hS)
  clear hn hS
  have H:=Lh h
  obtain ⟨W1,hW1⟩:=eqx (w.alloc (.cells #[.bool fin,.bool true,.bool la,.int .u64 (ack:Int),.bool hm,.bool ld,.int .u64 (dsn:Int),.int .u32 (ssn:Int),.int .i64 len,.bool hs,.int .u16 (sum:Int)] 31))
  obtain ⟨g,hg⟩:=eqx w.heap.size
  have HX:=Lh (show Blk W1 g 31 (dsv (⟨fin,true,la,ack,hm,ld,dsn,ssn,len,hs,sum⟩:Ds)) by rw [hW1,hg];exact Blk.new _ _ _)
  have HD:=Lh (show Bd W1 b c (⟨fin,true,la,ack,hm,ld,dsn,ssn,len,hs,sum⟩:Ds) T by rw [hW1];exact h.alloc _)
  have HG:=Lh (show w.grownBy W1 (some b) by rw [hW1];exact bM (.refl _ _) _)
  have hne:b≠g:=by rw [hg];exact Nat.ne_of_lt h.lt
  have HNE:=Lh (show some g≠some b by intro q;injection q with q;exact hne q.symm)
  have HW1:=Lh hW1
  have HGE:=Lh hg
  clear hW1 hg h hne
  go_enter Tryz.func135,Tryz.ntmps135
  go_wp2_with (refine jR rfl _ rfl b rfl c (⟨fin,true,la,ack,hm,ld,dsn,ssn,len,hs,sum⟩:Ds) T ?_ ?_;exact H.out)
  rw [←HW1.out]
  refine (writer_any b W1).mono ?_
  rintro e W2 ⟨rfl,q,b2⟩
  have HQ:=Lh q
  have HX2:=Lh (HX.out.below b2 HX.out.lt)
  have HD2:=Lh (HD.out.below b2 HD.out.lt)
  have HG2:=Lh (HG.out.trans (bH b2 (some b)))
  clear q b2 HX HD HG
  rw [←HGE.out]
  have c3:=HX2.out.cell 3
  have c2:=HX2.out.cell 2
  simp only [List.getElem?_toArray,List.getElem?_cons_zero,List.getElem?_cons_succ] at c3 c2
  go_wp2_with fail
  refine (wclo_any la ack W1.heap.size b c (⟨fin,true,la,ack,hm,ld,dsn,ssn,len,hs,sum⟩:Ds) T S W2 (by omega) HN.out HS.out HD2.out HQ.out).mono ?_
  rintro e W3 ⟨rfl,g3,d3⟩
  have HD3:=Lh d3
  have HX3:=Lh (HX2.out.grown g3 HNE.out)
  have HG3:=Lh (HG2.out.trans g3)
  clear g3 d3 HD2 HX2 HG2 c3 c2
  go_wp2_with fail
  go_end0;exact ⟨rfl,HG3.out,HD3.out⟩
theorem putSum_any (b:Nat) (c:Value) (x:Ds) (T S:ByteArray) (w:World) (hT:T.size≤1000) (hn:x.sum≤65535) (hS:T++txt (be (w2 x.hs) x.sum)=S) (h:Bd w b c x T):
  Calls Tryz.prog 137 #[ptr b] w (Wrote w b c x S):=by
 obtain ⟨fin,ha,la,ack,hm,ld,dsn,ssn,len,hs,sum⟩:=x
 have H:=Lh h
 have c10:=H.out.cell 10
 have c11:=H.out.cell 11
 simp only [List.getElem?_toArray,List.getElem?_cons_zero,List.getElem?_cons_succ] at c10 c11
 cases hs
 ·have hS:T=S:=by rw [←hS];exact (iM T).symm
  subst hS
  clear h
  go_enter Tryz.func137,Tryz.ntmps137
  go_wp2_with fail
  go_end0;exact ⟨rfl,.refl _ _,H.out⟩
 ·have HS:=Lh (show T++txt (be 2 sum)=S from hS)
  clear hS h
  go_enter Tryz.func137,Tryz.ntmps137
  go_wp2_with fail
  refine (put16_any b sum c (⟨fin,ha,la,ack,hm,ld,dsn,ssn,len,true,sum⟩:Ds) T S w (by omega) hn HS.out H.out).mono ?_
  rintro e W1 ⟨rfl,g1,d1⟩
  have HD1:=Lh d1
  have HG1:=Lh g1
  clear g1 d1 H c10 c11
  go_wp2_with fail
  go_end0;exact ⟨rfl,HG1.out,HD1.out⟩
theorem putMap_any (b:Nat) (c:Value) (x:Ds) (T S:ByteArray) (w:World) (hT:T.size≤1000) (hn:x.dsn < 256 ^ wA x.hm x.ld) (hs4:x.ssn≤4294967295) (hl:0≤x.len∧x.len≤65535) (S1 S2:ByteArray) (h1:T++txt (be (wA x.hm x.ld) x.dsn)=S1) (h2:S1++txt (be (w4 x.hm) x.ssn)=S2) (hS:S2++txt (be (w2 x.hm) x.len.toNat)=S) (h:Bd w b c x T):
  Calls Tryz.prog 136 #[ptr b] w (Wrote w b c x S):=by
 obtain ⟨fin,ha,la,ack,hm,ld,dsn,ssn,len,hs,sum⟩:=x
 cases hm
 ·have h1:T=S1:=by rw [←h1];exact (iM T).symm
  subst h1
  have h2:T=S2:=by rw [←h2];exact (iM T).symm
  subst h2
  have hS:T=S:=by rw [←hS];exact (iM T).symm
  subst hS
  have H:=Lh h
  obtain ⟨W1,hW1⟩:=eqx (w.alloc (.cells #[.bool fin,.bool ha,.bool la,.int .u64 (ack:Int),.bool false,.bool ld,.int .u64 (dsn:Int),.int .u32 (ssn:Int),.int .i64 len,.bool hs,.int .u16 (sum:Int)] 31))
  obtain ⟨g,hg⟩:=eqx w.heap.size
  have HX:=Lh (show Blk W1 g 31 (dsv (⟨fin,ha,la,ack,false,ld,dsn,ssn,len,hs,sum⟩:Ds)) by rw [hW1,hg];exact Blk.new _ _ _)
  have HD:=Lh (show Bd W1 b c (⟨fin,ha,la,ack,false,ld,dsn,ssn,len,hs,sum⟩:Ds) T by rw [hW1];exact h.alloc _)
  have HG:=Lh (show w.grownBy W1 (some b) by rw [hW1];exact bM (.refl _ _) _)
  have hne:b≠g:=by rw [hg];exact Nat.ne_of_lt h.lt
  have HNE:=Lh (show some g≠some b by intro q;injection q with q;exact hne q.symm)
  have HW1:=Lh hW1
  have HGE:=Lh hg
  clear hW1 hg h hne
  go_enter Tryz.func136,Tryz.ntmps136
  go_wp2_with (refine jR rfl _ rfl b rfl c (⟨fin,ha,la,ack,false,ld,dsn,ssn,len,hs,sum⟩:Ds) T ?_ ?_;exact H.out)
  rw [←HW1.out]
  go_wp2_with fail
  go_end0;exact ⟨rfl,HG.out,HD.out⟩
 ·have hz1:S1.size≤1008:=by rw [←h1,ByteArray.size_append,aO,aI];have:=oL true ld;show _+wA true ld≤_;omega
  have hz2:S2.size≤1012:=by rw [←h2,ByteArray.size_append,aO,aI];show _+4≤_;omega
  obtain ⟨n,hln⟩:∃n:Nat,len=(n:Int):=⟨len.toNat,by have:=hl.1;simp only [] at this;omega⟩
  subst hln
  have hn2:n≤65535:=by have:=hl.2;simp only [] at this;omega
  have hc:(n:Int)%65536=(n:Int):=by omega
  have HN:=Lh (show dsn < 256 ^ wA true ld from hn)
  have H4:=Lh (show ssn≤4294967295 from hs4)
  have H1:=Lh (show T++txt (be (wA true ld) dsn)=S1 from h1)
  have H2:=Lh (show S1++txt (be 4 ssn)=S2 from h2)
  have HS:=Lh (show S2++txt (be 2 n)=S from hS)
  clear hn h1 h2 hS hs4 hl
  have H:=Lh h
  obtain ⟨W1,hW1⟩:=eqx (w.alloc (.cells #[.bool fin,.bool ha,.bool la,.int .u64 (ack:Int),.bool true,.bool ld,.int .u64 (dsn:Int),.int .u32 (ssn:Int),.int .i64 (n:Int),.bool hs,.int .u16 (sum:Int)] 31))
  obtain ⟨g,hg⟩:=eqx w.heap.size
  have HX:=Lh (show Blk W1 g 31 (dsv (⟨fin,ha,la,ack,true,ld,dsn,ssn,(n:Int),hs,sum⟩:Ds)) by rw [hW1,hg];exact Blk.new _ _ _)
  have HD:=Lh (show Bd W1 b c (⟨fin,ha,la,ack,true,ld,dsn,ssn,(n:Int),hs,sum⟩:Ds) T by rw [hW1];exact h.alloc _)
  have HG:=Lh (show w.grownBy W1 (some b) by rw [hW1];exact bM (.refl _ _) _)
  have hne:b≠g:=by rw [hg];exact Nat.ne_of_lt h.lt
  have HNE:=Lh (show some g≠some b by intro q;injection q with q;exact hne q.symm)
  have HW1:=Lh hW1
  have HGE:=Lh hg
  clear hW1 hg h hne
  go_enter Tryz.func136,Tryz.ntmps136
  go_wp2_with (refine jR rfl _ rfl b rfl c (⟨fin,ha,la,ack,true,ld,dsn,ssn,(n:Int),hs,sum⟩:Ds) T ?_ ?_;exact H.out)
  rw [←HW1.out]
  refine (writer_any b W1).mono ?_
  rintro e W2 ⟨rfl,q,b2⟩
  have HQ:=Lh q
  have HX2:=Lh (HX.out.below b2 HX.out.lt)
  have HD2:=Lh (HD.out.below b2 HD.out.lt)
  have HG2:=Lh (HG.out.trans (bH b2 (some b)))
  clear q b2 HX HD HG
  rw [←HGE.out]
  have c6:=HX2.out.cell 6
  have c5:=HX2.out.cell 5
  simp only [List.getElem?_toArray,List.getElem?_cons_zero,List.getElem?_cons_succ] at c6 c5
  go_wp2_with fail
  refine (wclo_any ld dsn W1.heap.size b c (⟨fin,ha,la,ack,true,ld,dsn,ssn,(n:Int),hs,sum⟩:Ds) T S1 W2 (by omega) HN.out H1.out HD2.out HQ.out).mono ?_
  rintro e W3 ⟨rfl,g3,d3⟩
  have HD3:=Lh d3
  have HX3:=Lh (HX2.out.grown g3 HNE.out)
  have HG3:=Lh (HG2.out.trans g3)
  clear g3 d3 HD2 HX2 HG2 c6 c5
  have c7:=HX3.out.cell 7
  simp only [List.getElem?_toArray,List.getElem?_cons_zero,List.getElem?_cons_succ] at c7
  go_wp2_with fail
  refine (put32_any b ssn c (⟨fin,ha,la,ack,true,ld,dsn,ssn,(n:Int),hs,sum⟩:Ds) S1 S2 W3 (by omega) H4.out H2.out HD3.out).mono ?_
  rintro e W4 ⟨rfl,g4,d4⟩
  have HD4:=Lh d4
  have HX4:=Lh (HX3.out.grown g4 HNE.out)
  have HG4:=Lh (HG3.out.trans g4)
  clear g4 d4 HD3 HX3 HG3 c7
  have c8:=HX4.out.cell 8
  simp only [List.getElem?_toArray,List.getElem?_cons_zero,List.getElem?_cons_succ] at c8
  go_wp2_with fail
  refine (put16_any b n c (⟨fin,ha,la,ack,true,ld,dsn,ssn,(n:Int),hs,sum⟩:Ds) S2 S W4 (by omega) hn2 HS.out HD4.out).mono ?_
  rintro e W5 ⟨rfl,g5,d5⟩
  have HD5:=Lh d5
  have HG5:=Lh (HG4.out.trans g5)
  clear g5 d5 HD4 HX4 HG4 c8
  go_wp2_with fail
  go_end0;exact ⟨rfl,HG5.out,HD5.out⟩
open Go.ChangeShapes Go.WideShapes Go.ChangeAt Go.RowKit
theorem gG (x y:Ds) (B:Bool) (h:deq x y=B) (w:World):(Op.equalIn 10000 31 (.agg (dsv x)) (.agg (dsv y))).run Tryz.prog w= .ok B w:=by rw [←h];exact ds_equal x y w
theorem iJ (n:Nat) (l B:Bool) (h:(l || decide (n≤4294967295))=B) (hn:n≤18446744073709551615) (w:World):Calls Tryz.prog 195 #[.int .u64 (n:Int),.bool l] w (Rt w (.bool B)):=by rw [←h];exact fits_any n l w hn
def bF (x:Ds):Bool:=(x.ha || x.hm) && (deq x (Ds.bare x) && ((x.la || decide (x.ack≤4294967295)) && ((x.ld || decide (x.dsn≤4294967295)) && (decide ((0:Int)≤x.len) && decide (x.len≤(65535:Int))))))
theorem iF (x:Ds):bF x=decide x.May:=by
 have h1:deq x x.bare=decide x.Bare:=by
  rw [Bool.eq_iff_iff,decide_eq_true_iff,nM,←Ds.bare_iff]
  exact eq_comm
 unfold bF
 rw [h1,Bool.eq_iff_iff]
 simp only [Bool.and_eq_true,Bool.or_eq_true,decide_eq_true_eq]
theorem valid_any_ (fin:Bool) (ha:Bool) (la:Bool) (ack:Nat) (hm:Bool) (ld:Bool) (dsn:Nat) (ssn:Nat) (len:Int) (hs:Bool) (sum:Nat) (hx:Ds.Ok (⟨fin,ha,la,ack,hm,ld,dsn,ssn,len,hs,sum⟩:Ds)) (w:World):
  Calls Tryz.prog 133 #[.agg (dsv (⟨fin,ha,la,ack,hm,ld,dsn,ssn,len,hs,sum⟩:Ds))] w (Rt w (.bool (bF (⟨fin,ha,la,ack,hm,ld,dsn,ssn,len,hs,sum⟩:Ds)))):=by
 obtain ⟨V,hV⟩:=eqx (w.alloc (.cells (dsv (⟨fin,ha,la,ack,hm,ld,dsn,ssn,len,hs,sum⟩:Ds)) 31))
 obtain ⟨b0,hb0⟩:=eqx w.heap.size
 obtain ⟨M,hM⟩:∃M,bF (⟨fin,ha,la,ack,hm,ld,dsn,ssn,len,hs,sum⟩:Ds)=M:=⟨_,rfl⟩
 have HM:=Lh hM
 rw [hM]
 have HX:=Lh (show Blk V b0 31 (dsv (⟨fin,ha,la,ack,hm,ld,dsn,ssn,len,hs,sum⟩:Ds)) by rw [hV,hb0];exact Blk.new _ _ _)
 have HBV:Below w.heap.size w V:=by rw [hV];exact (Below.refl _ w).alloc (Nat.le_refl _) _
 have HE:=Lh (fun (W:World) (b:Below V.heap.size V W)=>HBV.trans (b.mono HBV.size))
 have HV:=Lh hV
 have HB:=Lh hb0
 have HO:=Lh hx
 clear hV hb0 HBV hM
 go_enter Tryz.func133,Tryz.ntmps133
 go_upto_region 1 with fail
 rw [←HV.out,←HB.out]
 clear HV
 refine bI (n:=37) rfl fun W0 B0=>?_
 refine stF 0 (.pointer (some ⟨b0,1,none⟩)) rfl B0 ?_
 rcases ha with _ | _
 ·refine stG 1 (.bool false) rfl B0 (fun W b=>xLd 4 (.tmp 3) ⟨b0,1,none⟩ ((HX.out.below b HX.out.lt).cell 1)) (stF 2 (.bool false) rfl B0 (stF 3 (.pointer (some ⟨b0,4,none⟩)) rfl B0 ?_))
  rcases hm with _ | _
  ·refine stG 4 (.bool false) rfl B0 (fun W b=>xLd 4 (.tmp 6) ⟨b0,4,none⟩ ((HX.out.below b HX.out.lt).cell 4)) (stF 5 (.bool false) rfl B0 (stF 6 (.bool false) rfl B0 (stP 7 rfl B0 (stP 8 rfl B0 (stP 9 rfl B0 (stP 10 rfl B0 (stF 11 (.bool false) rfl B0 (stF 12 (.bool false) rfl B0 (stP 13 rfl B0 ?_)))))))))
   refine stP 14 rfl B0 (stP 15 rfl B0 (stP 16 rfl B0 (stP 17 rfl B0 (stF 18 (.bool false) rfl B0 (stF 19 (.bool false) rfl B0 (stP 20 rfl B0 (stP 21 rfl B0 (stP 22 rfl B0 (stP 23 rfl B0 ?_)))))))))
   refine stP 24 rfl B0 (stF 25 (.bool false) rfl B0 (stF 26 (.bool false) rfl B0 (stP 27 rfl B0 (stP 28 rfl B0 (stP 29 rfl B0 (stF 30 (.bool false) rfl B0 (stF 31 (.bool false) rfl B0 (stP 32 rfl B0 (stP 33 rfl B0 ?_)))))))))
   refine stP 34 rfl B0 (stF 35 (.bool false) rfl B0 (stF 36 (.bool false) rfl B0 ?_))
   refine aG (by kernel_rfl) ?_
   go_wp2_with fail
   exact aK 2 (.bool false) (by kernel_rfl) (by kernel_rfl) (by kernel_rfl) ⟨by rw [←HM.out];unfold bF;simp [],HE.out _ B0⟩
  ·refine stG 4 (.bool true) rfl B0 (fun W b=>xLd 4 (.tmp 6) ⟨b0,4,none⟩ ((HX.out.below b HX.out.lt).cell 4)) (stF 5 (.bool true) rfl B0 (stF 6 (.bool true) rfl B0 (stG 7 (.agg (dsv (⟨fin,false,la,ack,true,ld,dsn,ssn,len,hs,sum⟩:Ds))) rfl B0 (fun W b=>xRw 31 (.tmp 1) b0 (HX.out.below b HX.out.lt) Tryz.underlying31 dE) (stG 8 (.agg (dsv (⟨fin,false,la,ack,true,ld,dsn,ssn,len,hs,sum⟩:Ds))) rfl B0 (fun W b=>xRw 31 (.tmp 1) b0 (HX.out.below b HX.out.lt) Tryz.underlying31 dE) ?_))))
   refine stB 9 rfl (owned_any (⟨fin,false,la,ack,true,ld,dsn,ssn,len,hs,sum⟩:Ds) _) B0 fun W1 B1=>?_
   clear B0
   rcases Bool.eq_false_or_eq_true (deq (⟨fin,false,la,ack,true,ld,dsn,ssn,len,hs,sum⟩:Ds) (Ds.bare (⟨fin,false,la,ack,true,ld,dsn,ssn,len,hs,sum⟩:Ds))) with k2 | k2
   ·refine stG 10 (.bool true) rfl B1 (fun W _=>xAb 31 31 (.tmp 10) (.tmp 12) ((dsv (⟨fin,false,la,ack,true,ld,dsn,ssn,len,hs,sum⟩:Ds))) ((dsv (Ds.bare (⟨fin,false,la,ack,true,ld,dsn,ssn,len,hs,sum⟩:Ds)))) true (gG _ _ true k2 W)) (stF 11 (.bool true) rfl B1 (stF 12 (.bool true) rfl B1 (stF 13 (.pointer (some ⟨b0,3,none⟩)) rfl B1 (stG 14 (.int .u64 (ack:Int)) rfl B1 (fun W b=>xLd 23 (.tmp 16) ⟨b0,3,none⟩ ((HX.out.below b HX.out.lt).cell 3)) (stF 15 (.pointer (some ⟨b0,2,none⟩)) rfl B1 (stG 16 (.bool la) rfl B1 (fun W b=>xLd 4 (.tmp 18) ⟨b0,2,none⟩ ((HX.out.below b HX.out.lt).cell 2)) ?_))))))
    rcases Bool.eq_false_or_eq_true ((la || decide (ack≤4294967295))) with k3 | k3
    ·refine stB 17 rfl (iJ ack la true k3 HO.out.ack _) B1 fun W3 B3=>?_
     clear B1
     refine stF 18 (.bool true) rfl B3 (stF 19 (.bool true) rfl B3 (stF 20 (.pointer (some ⟨b0,6,none⟩)) rfl B3 (stG 21 (.int .u64 (dsn:Int)) rfl B3 (fun W b=>xLd 23 (.tmp 23) ⟨b0,6,none⟩ ((HX.out.below b HX.out.lt).cell 6)) (stF 22 (.pointer (some ⟨b0,5,none⟩)) rfl B3 (stG 23 (.bool ld) rfl B3 (fun W b=>xLd 4 (.tmp 25) ⟨b0,5,none⟩ ((HX.out.below b HX.out.lt).cell 5)) ?_)))))
     rcases Bool.eq_false_or_eq_true ((ld || decide (dsn≤4294967295))) with k4 | k4
     ·refine stB 24 rfl (iJ dsn ld true k4 HO.out.dsn _) B3 fun W4 B4=>?_
      clear B3
      refine stF 25 (.bool true) rfl B4 (stF 26 (.bool true) rfl B4 (stF 27 (.pointer (some ⟨b0,8,none⟩)) rfl B4 (stG 28 (.int .i64 len) rfl B4 (fun W b=>xLd 3 (.tmp 30) ⟨b0,8,none⟩ ((HX.out.below b HX.out.lt).cell 8)) ?_)))
      rcases Bool.eq_false_or_eq_true (decide ((0:Int)≤(len:Int))) with k5 | k5
      ·refine stG 29 (.bool true) rfl B4 (fun W _=>xLb .i64 3 3 (.const (.int .i64 0)) (.tmp 31) (0) (len) true (k5)) (stF 30 (.bool true) rfl B4 (stF 31 (.bool true) rfl B4 (stF 32 (.pointer (some ⟨b0,8,none⟩)) rfl B4 (stG 33 (.int .i64 len) rfl B4 (fun W b=>xLd 3 (.tmp 35) ⟨b0,8,none⟩ ((HX.out.below b HX.out.lt).cell 8)) ?_))))
       rcases Bool.eq_false_or_eq_true (decide ((len:Int)≤(65535:Int))) with k6 | k6
       ·refine stG 34 (.bool true) rfl B4 (fun W _=>xLb .i64 3 3 (.tmp 36) (.const (.int .i64 65535)) (len) (65535) true (k6)) (stF 35 (.bool true) rfl B4 (stF 36 (.bool true) rfl B4 ?_))
        refine aG (by kernel_rfl) ?_
        go_wp2_with fail
        exact aK 2 (.bool true) (by kernel_rfl) (by kernel_rfl) (by kernel_rfl) ⟨by rw [←HM.out];unfold bF;simp [k2,k3,k4,k5,k6],HE.out _ B4⟩
       ·refine stG 34 (.bool false) rfl B4 (fun W _=>xLb .i64 3 3 (.tmp 36) (.const (.int .i64 65535)) (len) (65535) false (k6)) (stF 35 (.bool false) rfl B4 (stF 36 (.bool false) rfl B4 ?_))
        refine aG (by kernel_rfl) ?_
        go_wp2_with fail
        exact aK 2 (.bool false) (by kernel_rfl) (by kernel_rfl) (by kernel_rfl) ⟨by rw [←HM.out];unfold bF;simp [k2,k3,k4,k5,k6],HE.out _ B4⟩
      ·refine stG 29 (.bool false) rfl B4 (fun W _=>xLb .i64 3 3 (.const (.int .i64 0)) (.tmp 31) (0) (len) false (k5)) (stF 30 (.bool false) rfl B4 (stF 31 (.bool false) rfl B4 (stP 32 rfl B4 (stP 33 rfl B4 (stP 34 rfl B4 (stF 35 (.bool false) rfl B4 (stF 36 (.bool false) rfl B4 ?_)))))))
       refine aG (by kernel_rfl) ?_
       go_wp2_with fail
       exact aK 2 (.bool false) (by kernel_rfl) (by kernel_rfl) (by kernel_rfl) ⟨by rw [←HM.out];unfold bF;simp [k2,k3,k4,k5],HE.out _ B4⟩
     ·refine stB 24 rfl (iJ dsn ld false k4 HO.out.dsn _) B3 fun W4 B4=>?_
      clear B3
      refine stF 25 (.bool false) rfl B4 (stF 26 (.bool false) rfl B4 (stP 27 rfl B4 (stP 28 rfl B4 (stP 29 rfl B4 (stF 30 (.bool false) rfl B4 (stF 31 (.bool false) rfl B4 (stP 32 rfl B4 (stP 33 rfl B4 (stP 34 rfl B4 ?_)))))))))
      refine stF 35 (.bool false) rfl B4 (stF 36 (.bool false) rfl B4 ?_)
      refine aG (by kernel_rfl) ?_
      go_wp2_with fail
      exact aK 2 (.bool false) (by kernel_rfl) (by kernel_rfl) (by kernel_rfl) ⟨by rw [←HM.out];unfold bF;simp [k2,k3,k4],HE.out _ B4⟩
    ·refine stB 17 rfl (iJ ack la false k3 HO.out.ack _) B1 fun W3 B3=>?_
     clear B1
     refine stF 18 (.bool false) rfl B3 (stF 19 (.bool false) rfl B3 (stP 20 rfl B3 (stP 21 rfl B3 (stP 22 rfl B3 (stP 23 rfl B3 (stP 24 rfl B3 (stF 25 (.bool false) rfl B3 (stF 26 (.bool false) rfl B3 (stP 27 rfl B3 ?_)))))))))
     refine stP 28 rfl B3 (stP 29 rfl B3 (stF 30 (.bool false) rfl B3 (stF 31 (.bool false) rfl B3 (stP 32 rfl B3 (stP 33 rfl B3 (stP 34 rfl B3 (stF 35 (.bool false) rfl B3 (stF 36 (.bool false) rfl B3 ?_))))))))
     refine aG (by kernel_rfl) ?_
     go_wp2_with fail
     exact aK 2 (.bool false) (by kernel_rfl) (by kernel_rfl) (by kernel_rfl) ⟨by rw [←HM.out];unfold bF;simp [k2,k3],HE.out _ B3⟩
   ·refine stG 10 (.bool false) rfl B1 (fun W _=>xAb 31 31 (.tmp 10) (.tmp 12) ((dsv (⟨fin,false,la,ack,true,ld,dsn,ssn,len,hs,sum⟩:Ds))) ((dsv (Ds.bare (⟨fin,false,la,ack,true,ld,dsn,ssn,len,hs,sum⟩:Ds)))) false (gG _ _ false k2 W)) (stF 11 (.bool false) rfl B1 (stF 12 (.bool false) rfl B1 (stP 13 rfl B1 (stP 14 rfl B1 (stP 15 rfl B1 (stP 16 rfl B1 (stP 17 rfl B1 (stF 18 (.bool false) rfl B1 (stF 19 (.bool false) rfl B1 ?_)))))))))
    refine stP 20 rfl B1 (stP 21 rfl B1 (stP 22 rfl B1 (stP 23 rfl B1 (stP 24 rfl B1 (stF 25 (.bool false) rfl B1 (stF 26 (.bool false) rfl B1 (stP 27 rfl B1 (stP 28 rfl B1 (stP 29 rfl B1 ?_)))))))))
    refine stF 30 (.bool false) rfl B1 (stF 31 (.bool false) rfl B1 (stP 32 rfl B1 (stP 33 rfl B1 (stP 34 rfl B1 (stF 35 (.bool false) rfl B1 (stF 36 (.bool false) rfl B1 ?_))))))
    refine aG (by kernel_rfl) ?_
    go_wp2_with fail
    exact aK 2 (.bool false) (by kernel_rfl) (by kernel_rfl) (by kernel_rfl) ⟨by rw [←HM.out];unfold bF;simp [k2],HE.out _ B1⟩
 ·refine stG 1 (.bool true) rfl B0 (fun W b=>xLd 4 (.tmp 3) ⟨b0,1,none⟩ ((HX.out.below b HX.out.lt).cell 1)) (stF 2 (.bool true) rfl B0 (stP 3 rfl B0 (stP 4 rfl B0 (stF 5 (.bool true) rfl B0 (stF 6 (.bool true) rfl B0 (stG 7 (.agg (dsv (⟨fin,true,la,ack,hm,ld,dsn,ssn,len,hs,sum⟩:Ds))) rfl B0 (fun W b=>xRw 31 (.tmp 1) b0 (HX.out.below b HX.out.lt) Tryz.underlying31 dE) (stG 8 (.agg (dsv (⟨fin,true,la,ack,hm,ld,dsn,ssn,len,hs,sum⟩:Ds))) rfl B0 (fun W b=>xRw 31 (.tmp 1) b0 (HX.out.below b HX.out.lt) Tryz.underlying31 dE) ?_)))))))
  refine stB 9 rfl (owned_any (⟨fin,true,la,ack,hm,ld,dsn,ssn,len,hs,sum⟩:Ds) _) B0 fun W7 B7=>?_
  clear B0
  rcases Bool.eq_false_or_eq_true (deq (⟨fin,true,la,ack,hm,ld,dsn,ssn,len,hs,sum⟩:Ds) (Ds.bare (⟨fin,true,la,ack,hm,ld,dsn,ssn,len,hs,sum⟩:Ds))) with k8 | k8
  ·refine stG 10 (.bool true) rfl B7 (fun W _=>xAb 31 31 (.tmp 10) (.tmp 12) ((dsv (⟨fin,true,la,ack,hm,ld,dsn,ssn,len,hs,sum⟩:Ds))) ((dsv (Ds.bare (⟨fin,true,la,ack,hm,ld,dsn,ssn,len,hs,sum⟩:Ds)))) true (gG _ _ true k8 W)) (stF 11 (.bool true) rfl B7 (stF 12 (.bool true) rfl B7 (stF 13 (.pointer (some ⟨b0,3,none⟩)) rfl B7 (stG 14 (.int .u64 (ack:Int)) rfl B7 (fun W b=>xLd 23 (.tmp 16) ⟨b0,3,none⟩ ((HX.out.below b HX.out.lt).cell 3)) (stF 15 (.pointer (some ⟨b0,2,none⟩)) rfl B7 (stG 16 (.bool la) rfl B7 (fun W b=>xLd 4 (.tmp 18) ⟨b0,2,none⟩ ((HX.out.below b HX.out.lt).cell 2)) ?_))))))
   rcases Bool.eq_false_or_eq_true ((la || decide (ack≤4294967295))) with k9 | k9
   ·refine stB 17 rfl (iJ ack la true k9 HO.out.ack _) B7 fun W9 B9=>?_
    clear B7
    refine stF 18 (.bool true) rfl B9 (stF 19 (.bool true) rfl B9 (stF 20 (.pointer (some ⟨b0,6,none⟩)) rfl B9 (stG 21 (.int .u64 (dsn:Int)) rfl B9 (fun W b=>xLd 23 (.tmp 23) ⟨b0,6,none⟩ ((HX.out.below b HX.out.lt).cell 6)) (stF 22 (.pointer (some ⟨b0,5,none⟩)) rfl B9 (stG 23 (.bool ld) rfl B9 (fun W b=>xLd 4 (.tmp 25) ⟨b0,5,none⟩ ((HX.out.below b HX.out.lt).cell 5)) ?_)))))
    rcases Bool.eq_false_or_eq_true ((ld || decide (dsn≤4294967295))) with k10 | k10
    ·refine stB 24 rfl (iJ dsn ld true k10 HO.out.dsn _) B9 fun W10 B10=>?_
     clear B9
     refine stF 25 (.bool true) rfl B10 (stF 26 (.bool true) rfl B10 (stF 27 (.pointer (some ⟨b0,8,none⟩)) rfl B10 (stG 28 (.int .i64 len) rfl B10 (fun W b=>xLd 3 (.tmp 30) ⟨b0,8,none⟩ ((HX.out.below b HX.out.lt).cell 8)) ?_)))
     rcases Bool.eq_false_or_eq_true (decide ((0:Int)≤(len:Int))) with k11 | k11
     ·refine stG 29 (.bool true) rfl B10 (fun W _=>xLb .i64 3 3 (.const (.int .i64 0)) (.tmp 31) (0) (len) true (k11)) (stF 30 (.bool true) rfl B10 (stF 31 (.bool true) rfl B10 (stF 32 (.pointer (some ⟨b0,8,none⟩)) rfl B10 (stG 33 (.int .i64 len) rfl B10 (fun W b=>xLd 3 (.tmp 35) ⟨b0,8,none⟩ ((HX.out.below b HX.out.lt).cell 8)) ?_))))
      rcases Bool.eq_false_or_eq_true (decide ((len:Int)≤(65535:Int))) with k12 | k12
      ·refine stG 34 (.bool true) rfl B10 (fun W _=>xLb .i64 3 3 (.tmp 36) (.const (.int .i64 65535)) (len) (65535) true (k12)) (stF 35 (.bool true) rfl B10 (stF 36 (.bool true) rfl B10 ?_))
       refine aG (by kernel_rfl) ?_
       go_wp2_with fail
       exact aK 2 (.bool true) (by kernel_rfl) (by kernel_rfl) (by kernel_rfl) ⟨by rw [←HM.out];unfold bF;simp [k8,k9,k10,k11,k12],HE.out _ B10⟩
      ·refine stG 34 (.bool false) rfl B10 (fun W _=>xLb .i64 3 3 (.tmp 36) (.const (.int .i64 65535)) (len) (65535) false (k12)) (stF 35 (.bool false) rfl B10 (stF 36 (.bool false) rfl B10 ?_))
       refine aG (by kernel_rfl) ?_
       go_wp2_with fail
       exact aK 2 (.bool false) (by kernel_rfl) (by kernel_rfl) (by kernel_rfl) ⟨by rw [←HM.out];unfold bF;simp [k8,k9,k10,k11,k12],HE.out _ B10⟩
     ·refine stG 29 (.bool false) rfl B10 (fun W _=>xLb .i64 3 3 (.const (.int .i64 0)) (.tmp 31) (0) (len) false (k11)) (stF 30 (.bool false) rfl B10 (stF 31 (.bool false) rfl B10 (stP 32 rfl B10 (stP 33 rfl B10 (stP 34 rfl B10 (stF 35 (.bool false) rfl B10 (stF 36 (.bool false) rfl B10 ?_)))))))
      refine aG (by kernel_rfl) ?_
      go_wp2_with fail
      exact aK 2 (.bool false) (by kernel_rfl) (by kernel_rfl) (by kernel_rfl) ⟨by rw [←HM.out];unfold bF;simp [k8,k9,k10,k11],HE.out _ B10⟩
    ·refine stB 24 rfl (iJ dsn ld false k10 HO.out.dsn _) B9 fun W10 B10=>?_
     clear B9
     refine stF 25 (.bool false) rfl B10 (stF 26 (.bool false) rfl B10 (stP 27 rfl B10 (stP 28 rfl B10 (stP 29 rfl B10 (stF 30 (.bool false) rfl B10 (stF 31 (.bool false) rfl B10 (stP 32 rfl B10 (stP 33 rfl B10 (stP 34 rfl B10 ?_)))))))))
     refine stF 35 (.bool false) rfl B10 (stF 36 (.bool false) rfl B10 ?_)
     refine aG (by kernel_rfl) ?_
     go_wp2_with fail
     exact aK 2 (.bool false) (by kernel_rfl) (by kernel_rfl) (by kernel_rfl) ⟨by rw [←HM.out];unfold bF;simp [k8,k9,k10],HE.out _ B10⟩
   ·refine stB 17 rfl (iJ ack la false k9 HO.out.ack _) B7 fun W9 B9=>?_
    clear B7
    refine stF 18 (.bool false) rfl B9 (stF 19 (.bool false) rfl B9 (stP 20 rfl B9 (stP 21 rfl B9 (stP 22 rfl B9 (stP 23 rfl B9 (stP 24 rfl B9 (stF 25 (.bool false) rfl B9 (stF 26 (.bool false) rfl B9 (stP 27 rfl B9 ?_)))))))))
    refine stP 28 rfl B9 (stP 29 rfl B9 (stF 30 (.bool false) rfl B9 (stF 31 (.bool false) rfl B9 (stP 32 rfl B9 (stP 33 rfl B9 (stP 34 rfl B9 (stF 35 (.bool false) rfl B9 (stF 36 (.bool false) rfl B9 ?_))))))))
    refine aG (by kernel_rfl) ?_
    go_wp2_with fail
    exact aK 2 (.bool false) (by kernel_rfl) (by kernel_rfl) (by kernel_rfl) ⟨by rw [←HM.out];unfold bF;simp [k8,k9],HE.out _ B9⟩
  ·refine stG 10 (.bool false) rfl B7 (fun W _=>xAb 31 31 (.tmp 10) (.tmp 12) ((dsv (⟨fin,true,la,ack,hm,ld,dsn,ssn,len,hs,sum⟩:Ds))) ((dsv (Ds.bare (⟨fin,true,la,ack,hm,ld,dsn,ssn,len,hs,sum⟩:Ds)))) false (gG _ _ false k8 W)) (stF 11 (.bool false) rfl B7 (stF 12 (.bool false) rfl B7 (stP 13 rfl B7 (stP 14 rfl B7 (stP 15 rfl B7 (stP 16 rfl B7 (stP 17 rfl B7 (stF 18 (.bool false) rfl B7 (stF 19 (.bool false) rfl B7 ?_)))))))))
   refine stP 20 rfl B7 (stP 21 rfl B7 (stP 22 rfl B7 (stP 23 rfl B7 (stP 24 rfl B7 (stF 25 (.bool false) rfl B7 (stF 26 (.bool false) rfl B7 (stP 27 rfl B7 (stP 28 rfl B7 (stP 29 rfl B7 ?_)))))))))
   refine stF 30 (.bool false) rfl B7 (stF 31 (.bool false) rfl B7 (stP 32 rfl B7 (stP 33 rfl B7 (stP 34 rfl B7 (stF 35 (.bool false) rfl B7 (stF 36 (.bool false) rfl B7 ?_))))))
   refine aG (by kernel_rfl) ?_
   go_wp2_with fail
   exact aK 2 (.bool false) (by kernel_rfl) (by kernel_rfl) (by kernel_rfl) ⟨by rw [←HM.out];unfold bF;simp [k8],HE.out _ B7⟩
theorem bW (x:Ds) (hx:x.Ok) (w:World):
  Calls Tryz.prog 133 #[.agg (dsv x)] w (Rt w (.bool (decide x.May))):=by
 rw [←iF]
 obtain ⟨fin,ha,la,ack,hm,ld,dsn,ssn,len,hs,sum⟩:=x
 exact valid_any_ fin ha la ack hm ld dsn ssn len hs sum hx w
open Go.ChangeShapes Go.WideShapes Go.ChangeAt Go.RowKit
def bJ (x:Ds):Value:=.tuple #[.string x.enc.1,.int .i64 x.enc.2]
theorem gQ (x:Ds) (h:x.May):bJ x= .tuple #[.string (txt x.body),.int .i64 0]:=by unfold bJ;rw [Ds.kP x h]
theorem jA (x:Ds) (h:¬x.May):bJ x= .tuple #[.string ⟨#[]⟩,.int .i64 2]:=by unfold bJ;rw [Ds.kN x h]
def ta (x:Ds):List UInt8:=[32,UInt8.ofNat x.bits]++be (wA x.ha x.la) x.ack
def tb (x:Ds):List UInt8:=ta x++be (wA x.hm x.ld) x.dsn++be (w4 x.hm) x.ssn++be (w2 x.hm) x.len.toNat
theorem ta_len (x:Ds):(txt (ta x)).size≤10:=by rw [aO];unfold ta;simp only [List.length_append,aI,List.length_cons,List.length_nil];have:=oL x.ha x.la;omega
theorem tb_len (x:Ds):(txt (tb x)).size≤24:=by
 have h:=ta_len x
 rw [aO] at h ⊢
 unfold tb
 simp only [List.length_append,aI]
 have:=oL x.hm x.ld;have:=w4_le x.hm;have:=sW x.hm
 omega
theorem t_front (x:Ds):txt [32]++txt (be 1 x.bits)=txt [32,UInt8.ofNat x.bits]:=by rw [bP];simp [be]
theorem t_first:(⟨#[]⟩:ByteArray)++txt (be 1 32)=txt [32]:=by decide
theorem t_body (x:Ds):txt (tb x)++txt (be (w2 x.hs) x.sum)=txt x.body:=by rw [bP];simp [tb,ta,Ds.body,Ds.rest]
structure En (w:World) (b s:Nat) (x:Ds) (T:ByteArray):Prop where
 body:Bd w b (.pointer none) x T
 row:Blk w s 1 #[.func (.func 134) #[ptr b] #[],.func (.func 135) #[ptr b] #[],.func (.func 136) #[ptr b] #[],.func (.func 137) #[ptr b] #[]]
theorem En.wrote {w w':World} {b s:Nat} {x:Ds} {T S:ByteArray} (h:En w b s x T) (hne:s≠b) (hg:w.grownBy w' (some b)) (hd:Bd w' b (.pointer none) x S):En w' b s x S:=⟨hd,h.row.grown hg (fun q=>by injection q with q;exact hne q)⟩
theorem dC (x:Ds) (hx:x.Ok) (w:World):
  Calls Tryz.prog 76 #[.agg (dsv x)] w (Rt w (bJ x)):=by
 have HX:=Lh hx
 obtain ⟨V,hV⟩:=eqx (bJ x)
 rw [←hV]
 have HC:=Lh (Blk.new w 31 (dsv x))
 have HB:=Lh ((Below.refl _ w).alloc (Nat.le_refl _) (.cells (dsv x) 31))
 have hlt:w.heap.size < (w.alloc (.cells (dsv x) 31)).heap.size:=by simp
 have HL:=Lh hlt
 clear hlt hx
 by_cases hm:x.May
 ·rw [gQ x hm] at hV
  have HVV:=Lh hV
  have HM:=Lh hm
  clear hV hm
  go_enter Tryz.func76,Tryz.ntmps76
  go_wp2_with (refine wpList_load_row rfl 31 _ rfl w.heap.size rfl 31 (dsv x) (0,0) _ ?_ Tryz.underlying31 rfl dE ?_;exact HC.out)
  refine (bW x HX.out _).mono ?_
  rintro e W0 ⟨rfl,bl⟩
  rw [decide_eq_true HM.out]
  have HC0:=Lh (HC.out.below bl HL.out)
  have HB0:=Lh (HB.out.trans (bl.mono HB.out.size))
  obtain ⟨b,hb⟩:=eqx W0.heap.size
  obtain ⟨s,hs⟩:=eqx (W0.heap.size+1)
  obtain ⟨U,hU⟩:=eqx ((W0.alloc (.cells (bdv (.pointer none) x ⟨#[]⟩) 188)).alloc (.cells #[.func (.func 134) #[ptr W0.heap.size] #[],.func (.func 135) #[ptr W0.heap.size] #[],.func (.func 136) #[ptr W0.heap.size] #[],.func (.func 137) #[ptr W0.heap.size] #[]] 1))
  have HE:=Lh (show En U b s x ⟨#[]⟩ by
   rw [hU,hb,hs]
   refine ⟨(Blk.new _ _ _).alloc _,?_⟩
   have:=Blk.new (W0.alloc (.cells (bdv (.pointer none) x ⟨#[]⟩) 188)) 1 #[.func (.func 134) #[ptr W0.heap.size] #[],.func (.func 135) #[ptr W0.heap.size] #[],.func (.func 136) #[ptr W0.heap.size] #[],.func (.func 137) #[ptr W0.heap.size] #[]]
   simpa using this)
  have HBU:=Lh (show Below w.heap.size w U by rw [hU];exact (HB0.out.alloc HB0.out.size _).alloc (by have:=HB0.out.size;simp;omega) _)
  have HN:=Lh (show s≠b∧w.heap.size≤b from ⟨by omega,by rw [hb];exact HB0.out.size⟩)
  have HUE:=Lh hU
  have HBE:=Lh hb
  have HSE:=Lh hs
  clear bl HC HB HL hU hb hs
  go_wp2_with (refine wpList_load_row rfl 31 _ rfl w.heap.size rfl 31 (dsv x) (0,0) _ ?_ Tryz.underlying31 rfl dE ?_;exact HC0.out)
  rw [←HUE.out,←HSE.out,←HBE.out]
  clear HUE HBE HSE HC0 HB0
  go_loopw [23] (fun i wr=>∃j:Nat,j≤4∧i= .int .i64 (j:Int)∧(∃T,En wr b s x T∧(j=0→T=⟨#[]⟩)∧(j=1→T=txt [32,UInt8.ofNat x.bits])∧(j=2→T=txt (ta x))∧(j=3→T=txt (tb x))∧(j=4→T=txt x.body))∧Below w.heap.size w wr) (fun i _=>(4 - intOf i).toNat)
  case atStart=>exact ⟨0,by omega,rfl,⟨_,HE.out,fun _=>rfl,by omega,by omega,by omega,by omega⟩,HBU.out⟩
  case round=>
   obtain ⟨j,hj,rfl,⟨T,hE,t0,t1,t2,t3,t4⟩,hB⟩:=hrel
   have HE1:=Lh hE
   have HB1:=Lh hB
   clear hB HE HBU hE
   have cases5:j=0∨j=1∨j=2∨j=3∨j=4:=by omega
   clear hj
   rcases cases5 with rfl | rfl | rfl | rfl | rfl
   ·obtain rfl:=t0 rfl
    have c0:=HE1.out.row.cell 0
    simp only [List.getElem?_toArray,List.getElem?_cons_zero] at c0
    have HW:=Lh (putFront_any b (.pointer none) x ⟨#[]⟩ (txt [32]) (txt [32,UInt8.ofNat x.bits]) wr (by decide) t_first (t_front x) HE1.out.body)
    clear t0 t1 t2 t3 t4
    go_wp2_with fail
    refine HW.out.mono ?_
    rintro e W2 ⟨rfl,g2,d2⟩
    have HE2:=Lh (HE1.out.wrote HN.out.1 g2 d2)
    have HB2:=Lh (HB1.out.trans (aB g2 HN.out.2 HB1.out.size))
    clear g2 d2 HW
    go_wp2_with fail
    go_roundw
    case rel=>exact ⟨1,by omega,by go_num,⟨_,HE2.out,by omega,fun _=>rfl,by omega,by omega,by omega⟩,HB2.out⟩
    case measure=>simp [intOf]
   ·obtain rfl:=t1 rfl
    have c1:=HE1.out.row.cell 1
    simp only [List.getElem?_toArray,List.getElem?_cons_zero,List.getElem?_cons_succ] at c1
    have HW:=Lh (putAck_any b (.pointer none) x (txt [32,UInt8.ofNat x.bits]) (txt (ta x)) wr (by rw [aO];simp) (ack_lt x HX.out HM.out) (by rw [bP];rfl) HE1.out.body)
    clear t0 t1 t2 t3 t4
    go_wp2_with fail
    refine HW.out.mono ?_
    rintro e W2 ⟨rfl,g2,d2⟩
    have HE2:=Lh (HE1.out.wrote HN.out.1 g2 d2)
    have HB2:=Lh (HB1.out.trans (aB g2 HN.out.2 HB1.out.size))
    clear g2 d2 HW
    go_wp2_with fail
    go_roundw
    case rel=>exact ⟨2,by omega,by go_num,⟨_,HE2.out,by omega,by omega,fun _=>rfl,by omega,by omega⟩,HB2.out⟩
    case measure=>simp [intOf]
   ·obtain rfl:=t2 rfl
    have c2:=HE1.out.row.cell 2
    simp only [List.getElem?_toArray,List.getElem?_cons_zero,List.getElem?_cons_succ] at c2
    have HW:=Lh (putMap_any b (.pointer none) x (txt (ta x)) (txt (tb x)) wr (by have:=ta_len x;omega) (dsn_lt x HX.out HM.out) HX.out.ssn HM.out.2.2.2.2 _ _ rfl rfl (by rw [bP,bP,bP];rfl) HE1.out.body)
    clear t0 t1 t2 t3 t4
    go_wp2_with fail
    refine HW.out.mono ?_
    rintro e W2 ⟨rfl,g2,d2⟩
    have HE2:=Lh (HE1.out.wrote HN.out.1 g2 d2)
    have HB2:=Lh (HB1.out.trans (aB g2 HN.out.2 HB1.out.size))
    clear g2 d2 HW
    go_wp2_with fail
    go_roundw
    case rel=>exact ⟨3,by omega,by go_num,⟨_,HE2.out,by omega,by omega,by omega,fun _=>rfl,by omega⟩,HB2.out⟩
    case measure=>simp [intOf]
   ·obtain rfl:=t3 rfl
    have c3:=HE1.out.row.cell 3
    simp only [List.getElem?_toArray,List.getElem?_cons_zero,List.getElem?_cons_succ] at c3
    have HW:=Lh (putSum_any b (.pointer none) x (txt (tb x)) (txt x.body) wr (by have:=tb_len x;omega) HX.out.sum (t_body x) HE1.out.body)
    clear t0 t1 t2 t3 t4
    go_wp2_with fail
    refine HW.out.mono ?_
    rintro e W2 ⟨rfl,g2,d2⟩
    have HE2:=Lh (HE1.out.wrote HN.out.1 g2 d2)
    have HB2:=Lh (HB1.out.trans (aB g2 HN.out.2 HB1.out.size))
    clear g2 d2 HW
    go_wp2_with fail
    go_roundw
    case rel=>exact ⟨4,by omega,by go_num,⟨_,HE2.out,by omega,by omega,by omega,by omega,fun _=>rfl⟩,HB2.out⟩
    case measure=>simp [intOf]
   ·obtain rfl:=t4 rfl
    have c12:=HE1.out.body.cell 12
    simp only [List.getElem?_toArray,List.getElem?_cons_zero,List.getElem?_cons_succ] at c12
    clear t0 t1 t2 t3 t4
    go_wp2_with fail
    go_ret2
    refine ⟨?_,HB1.out⟩
    rw [HVV.out];rfl
 ·rw [jA x hm] at hV
  subst hV
  have HM:=Lh hm
  clear hm
  go_enter Tryz.func76,Tryz.ntmps76
  go_wp2_with (refine wpList_load_row rfl 31 _ rfl w.heap.size rfl 31 (dsv x) (0,0) _ ?_ Tryz.underlying31 rfl dE ?_;exact HC.out)
  refine (bW x HX.out _).mono ?_
  rintro e W0 ⟨rfl,b⟩
  rw [decide_eq_false HM.out]
  have HB0:=Lh (HB.out.trans (b.mono HB.out.size))
  clear b
  go_wp2_with fail
  go_ret2
  exact ⟨rfl,HB0.out⟩
open Go.ChangeShapes Go.WideShapes Go.ChangeAt Go.RowKit
open Go.ChangeShapes Go.WideShapes Go.ChangeAt Go.RowKit
section
variable {w:World} {b:Nat} {c:Value} {T:ByteArray} {fin ha la hm ld hs:Bool} {ack dsn ssn sum:Nat} {len:Int}
end
open Go.ChangeShapes Go.WideShapes Go.ChangeAt Go.RowKit
def Fin (s:ByteArray) (k:Nat) (br:Bool) (x:Ds):Prop:=(uA s k br≠0∧dec s=(.zero,uA s k br))∨(uA s k br=0∧dec s=(x,0))
theorem Ds.split (x:Ds) (B:Bool) (h:x.hm=B) (h1:x.hs=false) (h2:x.sum=0):x=⟨x.fin,x.ha,x.la,x.ack,B,x.ld,x.dsn,x.ssn,x.len,false,0⟩:=Ds.oN rfl rfl rfl rfl h rfl rfl rfl rfl h1 h2
theorem aY {P:Program} {fn:Func} {p t:Tmp} {ty:TypeId} (h:fn.results=#[.cell p ty,.tmp t]) (tmps:Array Value) (w:World) (g:Nat) (t':TypeId) (cs:Array Value) (fr:Nat×Nat) (d:TypeDesc)
  (hp:tmps.getD p undef= .pointer (some ⟨g,0,none⟩)) (hg:w.heap[g]?=some (.cells cs t' fr))
  (hu:P.underlying ty=some d) (hd:(match d with | .struct _ | .array _ _=>true | _=>false)=true) (hi:(P.info? ty).map (·.size)=some cs.size):
  (results fn tmps).run P w= .ok (.tuple #[.agg cs,tmps.getD t undef]) w:=by
 have hp':tmps[p]?.getD undef= .pointer (some ⟨g,0,none⟩):=by simpa using hp
 simp [results,h,hp',asAddr,run_loadVar_row w g t' ty cs fr d hg hu hd hi]
abbrev rowR (b:Nat):Array Value:=#[.func (.func 140) #[ptr b] #[],.func (.func 141) #[ptr b] #[],.func (.func 142) #[ptr b] #[]]
structure De (w W:World) (r n b c:Nat):Prop where
 zero:Blk W r 31 (dsv .zero)
 row:Blk W n 1 (rowR b)
 rest:Below w.heap.size w W
def x0 (g:Nat):Ds:=⟨fl g 4 && fl g 16,fl g 1,fl g 1 && fl g 2,0,fl g 4,fl g 4 && fl g 8,0,0,0,false,0⟩
def x1 (g:Nat) (s:ByteArray):Ds:=⟨fl g 4 && fl g 16,fl g 1,fl g 1 && fl g 2,numO s 2 false (wA (fl g 1) (fl g 1 && fl g 2)),fl g 4,fl g 4 && fl g 8,0,0,0,false,0⟩
end Go.Proofs.YtklakghlliihkaaGreatDoor.L11
