/- PkAddr. -/
import Derived.Test.YtklakghlliihkaaGreatDoorPkBase
import Derived.Test.YtklakghlliihkaaGreatDoorJoin
import Derived.Great.BuildSlice
import Derived.Laws.Rows
import Derived.Maps.OwnSet
set_option maxHeartbeats 4000000
set_option maxRecDepth 100000
set_option linter.unusedVariables false
set_option linter.unusedSimpArgs false
namespace Go.Proofs.YtklakghlliihkaaGreatDoor.L12
theorem eG (a:ByteArray):(⟨#[]⟩:ByteArray)++a=a:=by apply ByteArray.ext;rw [ByteArray.data_append];simp
theorem kC (m n:Nat):(txt (be m n)).size=m:=by rw [aO,aI]
def dH (e:Bool):Nat:=if e then 0 else 8
def portOf (h:Bool):Nat:=if h then 2 else 0
def fst (e:Bool):Nat:=if e then 49 else 48
theorem fst_le (e:Bool):fst e≤255:=by cases e<;>decide
structure Ad where
 echo:Bool
 id:Int
 ip:ByteArray
 hp:Bool
 port:Int
 mac:ByteArray
namespace Ad
theorem oN {x y:Ad} (h0:x.echo=y.echo) (h1:x.id=y.id) (h2:x.ip=y.ip) (h3:x.hp=y.hp) (h4:x.port=y.port) (h5:x.mac=y.mac):x=y:=by
 cases x;cases y;simp_all
structure Ok (x:Ad):Prop where
 id: -9223372036854775808≤x.id∧x.id≤9223372036854775807
 ip:x.ip.size≤9223372036854775000
 port: -9223372036854775808≤x.port∧x.port≤9223372036854775807
 mac:x.mac.size≤9223372036854775000
abbrev May (x:Ad):Prop:=(0≤x.id∧x.id≤255)∧(x.ip.size=4∨x.ip.size=16)∧(0≤x.port∧x.port≤65535)∧(x.hp=true∨x.port=0)∧x.mac.size=dH x.echo
def l7 (x:Ad):List UInt8:=if x.hp then be 2 x.port.toNat else []
theorem ports_length (x:Ad):x.l7.length=portOf x.hp:=by unfold l7 portOf;split<;>simp [aI]
def rest (x:Ad):List UInt8:=x.ip.data.toList++x.l7++x.mac.data.toList
def body (x:Ad):List UInt8:=UInt8.ofNat (fst x.echo)::UInt8.ofNat x.id.toNat::x.rest
def size (x:Ad):Nat:=2+x.ip.size+portOf x.hp+x.mac.size
theorem gB (x:Ad):x.rest.length+2=x.size:=by
 unfold rest size
 simp only [List.length_append,iI,ports_length];omega
theorem dG (x:Ad):x.body.length=x.size:=by rw [←gB];rfl
def zero:Ad:=⟨false,0,⟨#[]⟩,false,0,⟨#[]⟩⟩
theorem dD:zero.Ok:=⟨by decide,by decide,by decide,by decide⟩
def enc (x:Ad):ByteArray×Int:=if x.May then (txt x.body,0) else (⟨#[]⟩,2)
theorem kP (x:Ad) (h:x.May):x.enc=(txt x.body,0):=if_pos h
theorem kN (x:Ad) (h:¬x.May):x.enc=(⟨#[]⟩,2):=if_neg h
theorem size_le (x:Ad) (h:x.May):x.size≤28:=by
 obtain ⟨_,h2,_,_,h5⟩:=h
 unfold size;rw [h5]
 have:portOf x.hp≤2:=by cases x.hp<;>decide
 have:dH x.echo≤8:=by cases x.echo<;>decide
 omega
end Ad
def shape (n:Nat) (e:Bool):Option (Nat×Bool):=if n=6+dH e then some (4,false) else if n=8+dH e then some (4,true) else if n=18+dH e then some (16,false) else if n=20+dH e then some (16,true) else none
def gotA (e:Bool) (d:Nat) (r:List UInt8) (k:Nat) (h:Bool):Ad:=⟨e,(d:Int),txt (r.take k),h,(num (txt r) k (portOf h):Int),txt (r.drop (k+portOf h))⟩
abbrev qL (s:ByteArray):List UInt8:=s.data.toList.drop 2
def odd (c:Nat):Bool:=decide (c%2=1)
def decA (s:ByteArray):Ad×Int:=if s.size=0 then (.zero,4) else if byteAt s 0 / 16≠3 then (.zero,7) else match shape s.size (odd (byteAt s 0)) with
 | none=>(.zero,5)
 | some (k,h)=>(gotA (odd (byteAt s 0)) (byteAt s 1) (qL s) k h,0)
def encR (ids:ByteArray):ByteArray×Int:=if 1≤ids.size∧ids.size≤37 then (txt (64::ids.data.toList),0) else (⟨#[]⟩,2)
theorem pU (ids:ByteArray) (h:1≤ids.size∧ids.size≤37):encR ids=(txt (64::ids.data.toList),0):=if_pos h
theorem pJ (ids:ByteArray) (h:¬(1≤ids.size∧ids.size≤37)):encR ids=(⟨#[]⟩,2):=if_neg h
abbrev after1 (s:ByteArray):ByteArray:=txt (s.data.toList.drop 1)
def uM (s:ByteArray):ByteArray×Int:=if s.size=0 then (⟨#[]⟩,4) else if byteAt s 0 / 16≠4 then (⟨#[]⟩,7) else if 2≤s.size∧s.size≤38 then (after1 s,0) else (⟨#[]⟩,5)
theorem one_size (u:UInt8) (l:List UInt8):(txt (u::l)).size=l.length+1:=by rw [aO];rfl
open Go.ChangeShapes Go.WideShapes Go.ChangeAt Go.RowKit
abbrev adv (x:Ad):Array Value:=#[.bool x.echo,.int .i64 x.id,.string x.ip,.bool x.hp,.int .i64 x.port,.string x.mac]
abbrev rmv (s:ByteArray):Array Value:=#[.string s]
theorem gU:(Tryz.prog.info? 33).map (·.size)=some 6:=by kernel_rfl
theorem ad_one (x:Ad):(adv x).all (·.oneCell')=true:=by simp [Value.oneCell']
theorem jW:(Tryz.prog.info? 35).map (·.size)=some 1:=by kernel_rfl
theorem rm_one (s:ByteArray):(rmv s).all (·.oneCell')=true:=by simp [Value.oneCell']
def aeq (x y:Ad):Bool:=x.echo==y.echo && (x.id==y.id && (x.ip.toList==y.ip.toList && (x.hp==y.hp && (x.port==y.port && (x.mac.toList==y.mac.toList)))))
theorem nN (a b:ByteArray):a.toList=b.toList↔a=b:=by
 rw [ByteArray.toList_eq,ByteArray.toList_eq]
 exact ⟨fun h=>ByteArray.ext (Array.toList_inj.1 h),fun h=>by rw [h]⟩
theorem aeq_iff (x y:Ad):aeq x y=true↔x=y:=by
 unfold aeq
 simp only [Bool.and_eq_true,beq_iff_eq]
 constructor
 ·rintro ⟨h0,h1,h2,h3,h4,h5⟩
  exact Ad.oN h0 h1 ((nN _ _).1 h2) h3 h4 ((nN _ _).1 h5)
 ·rintro rfl
  exact ⟨rfl,rfl,rfl,rfl,rfl,rfl⟩
instance : DecidableEq Ad:=fun x y=>decidable_of_iff (aeq x y=true) (aeq_iff x y)
theorem dU (e:Bool) (w:World):
  Calls Tryz.prog 151 #[.bool e] w fun e' w'=>e'= .returned (.int .i64 (dH e:Int))∧Below w.heap.size w w':=by
 cases e
 all_goals
  go_enter Tryz.func151,Tryz.ntmps151
  go_wp2
  go_ret;exact ⟨rfl,Below.refl _ _⟩
theorem fC (x:Ad) (w:World):
  Calls Tryz.prog 147 #[.agg (adv x)] w (Rt w (.int .u8 (fst x.echo:Int))):=by
 obtain ⟨echo,id,ip,hp,port,mac⟩:=x
 cases echo
 all_goals
  go_enter Tryz.func147,Tryz.ntmps147
  go_wp2
  go_ret;exact ⟨rfl,(Below.refl _ _).alloc (Nat.le_refl _) _⟩
theorem conv_i64_u16 (n:Int) (u:Nat) (h:n%65536=(u:Int)) (w:World):(convert 3 24 (.int .i64 n)).run Tryz.prog w= .ok (.int .u16 (u:Int)) w:=by
 rw [run_convert_int w 3 24 .i64 _ (by kernel_rfl) (by kernel_rfl),show Tryz.prog.intKind 24= .u16 by kernel_rfl,show IntKind.u16.wrap n=n%65536 by simp [IntKind.wrap,IntKind.bits,IntKind.signed],h]
theorem portOf_any (x:Ad) (hm:0≤x.port∧x.port≤65535) (T:ByteArray) (hT:T=txt x.l7) (w:World):
  Calls Tryz.prog 148 #[.agg (adv x)] w (Rt w (.string T)):=by
 obtain ⟨echo,id,ip,hp,port,mac⟩:=x
 have HB:=Lh ((Below.refl _ w).alloc (Nat.le_refl _) (.cells (adv ⟨echo,id,ip,hp,port,mac⟩) 33))
 cases hp
 ·have HT:=Lh (show T=⟨#[]⟩ from hT)
  clear hT
  go_enter Tryz.func148,Tryz.ntmps148
  go_wp2_with fail
  go_ret;exact ⟨by rw [HT.out];rfl,HB.out⟩
 ·obtain ⟨n,rfl⟩:=Int.eq_ofNat_of_zero_le hm.1
  have HT:=Lh (show (⟨#[]⟩:ByteArray)++⟨(be 2 n).toArray⟩=T by rw [eG,hT];rfl)
  have hn:n≤65535:=by have:=hm.2;simp only at this;omega
  have hc:=conv_i64_u16 (n:Int) n (by omega)
  clear hT hm
  go_enter Tryz.func148,Tryz.ntmps148
  go_wp2_with fail
  refine (answer (kM ⟨#[]⟩ n _ (by decide) hn) (congrArg Value.string HT.out)).mono ?_
  rintro e w1 ⟨rfl,b1⟩
  go_wp2_with fail
  go_ret;exact ⟨rfl,aU HB.out b1⟩
theorem validRemove_any (s:ByteArray) (w:World) (hs:s.size≤9223372036854775807):
  Calls Tryz.prog 155 #[.agg (rmv s)] w (Rt w (.bool (decide (1≤s.size∧s.size≤37)))):=by
 by_cases h1:(1:Int)≤(s.size:Int)
 ·by_cases h2:(s.size:Int)≤37
  ·rw [decide_eq_true (p:=1≤s.size∧s.size≤37) (by omega)]
   go_enter Tryz.func155,Tryz.ntmps155
   go_wp2
   go_ret;exact ⟨rfl,(Below.refl _ _).alloc (Nat.le_refl _) _⟩
  ·rw [decide_eq_false (p:=1≤s.size∧s.size≤37) (by omega)]
   go_enter Tryz.func155,Tryz.ntmps155
   go_wp2
   go_ret;exact ⟨rfl,(Below.refl _ _).alloc (Nat.le_refl _) _⟩
 ·rw [decide_eq_false (p:=1≤s.size∧s.size≤37) (by omega)]
  go_enter Tryz.func155,Tryz.ntmps155
  go_wp2
  go_ret;exact ⟨rfl,(Below.refl _ _).alloc (Nat.le_refl _) _⟩
theorem join_none (xs:List (List UInt8)):Lib.join xs []=xs.flatten:=by
 cases xs with
 | nil=>rfl
 | cons x r=>rw [Lib.join_cons,Lib.joinTail];simp
theorem concat_any (xs:List ByteArray) (T:ByteArray) (hT:T.data.toList=(xs.map (·.data.toList)).flatten) (bk n:Nat) (hn:n=xs.length) (w:World) (hb:Blk w bk 9 (xs.map Value.string).toArray) (hx:xs.length≤140737488355328) (hz:T.size≤140737488355328):
  Calls Tryz.prog 145 #[.slice (some ⟨bk,0,none⟩) n n] w (Rt w (.string T)):=by
 subst hn
 have hj:Lib.join (xs.map (·.data.toList)) (⟨#[]⟩:ByteArray).data.toList=T.data.toList:=(join_none _).trans hT.symm
 have c:=Tryz.strings_Join bk 0 xs.length xs ⟨#[]⟩ w (fun j x h=>by rw [Nat.zero_add,hb.cell j];simp [h]) hb.lt hx (Nat.le_refl _) (by rw [hj,iI];exact hz)
 rw [hj,show (⟨T.data.toList.toArray⟩:ByteArray)=T by apply ByteArray.ext;simp] at c
 have HC:=Lh c
 clear c hb hj hT
 go_enter Tryz.func145,Tryz.ntmps145
 go_wp2_with fail
 refine HC.out.mono ?_
 rintro e w1 ⟨rfl,b1⟩
 go_wp2_with fail
 go_ret;exact ⟨rfl,b1⟩
theorem texts_built (xs:List ByteArray) (h0:0 < xs.length) (h1:xs.length≤100) (parts:Array (Nat×Value)) (hp:parts.toList=((xs.map Value.string).zipIdx 0).map fun x=>(x.2,x.1)) (w:World):
  (Instr.buildSlice 261 xs.length parts).run Tryz.prog w= .ok (.slice (some ⟨w.heap.size,0,none⟩) xs.length xs.length) (w.alloc (.cells (xs.map Value.string).toArray 9)):=by
 have sz:(Tryz.prog.info? 9).map (·.size)=some 1:=by kernel_rfl
 have ze:(Tryz.prog.info? 9).map (·.zero.isSome)=some true:=by kernel_rfl
 obtain ⟨ie,hi⟩:∃ie,Tryz.prog.info? 9=some ie:=(Option.map_eq_some_iff.1 sz).imp fun _ h=>h.1
 rw [hi] at sz ze
 have s1:ie.size=1:=Option.some.inj sz
 obtain ⟨z,hz⟩:=Option.isSome_iff_exists.1 (Option.some.inj ze)
 have flat:=Great.fill_flat (xs.map Value.string) ((Array.range (xs.length * 1)).map (z.cells[·%z.cells.size]!)) (fun v hv=>by obtain ⟨x,_,rfl⟩:=List.mem_map.1 hv;rfl) (by simp)
 exact run_buildSlice w _ _ xs.length parts _ ie z (by kernel_rfl) hi hz (by rw [s1];omega) (by rw [s1];omega) (by rw [hp,s1];exact flat)
theorem ex_build2 {ρ:Operand→Value} {o:Oper} {w:World} (x y:Operand) (ho:o.op= .buildSlice 261 2 #[(0,x),(1,y)]) (a b:ByteArray) (hx:ρ x= .string a) (hy:ρ y= .string b):
  (execOp ρ o).run Tryz.prog w= .ok (.value (.slice (some ⟨w.heap.size,0,none⟩) 2 2)) (w.alloc (.cells ([a,b].map Value.string).toArray 9)):=by
 have h:=texts_built [a,b] (by simp) (by simp) #[(0,.string a),(1,.string b)] (by simp [List.zipIdx]) w
 simp only [List.length_cons,List.length_nil] at h
 unfold execOp
 rw [ho]
 simp [hx,hy,h]
theorem ex_build5 {ρ:Operand→Value} {o:Oper} {w:World} (x y z u v:Operand) (ho:o.op= .buildSlice 261 5 #[(0,x),(1,y),(2,z),(3,u),(4,v)]) (a b c d e:ByteArray) (hx:ρ x= .string a) (hy:ρ y= .string b) (hz:ρ z= .string c) (hu:ρ u= .string d) (hv:ρ v= .string e):
  (execOp ρ o).run Tryz.prog w= .ok (.value (.slice (some ⟨w.heap.size,0,none⟩) 5 5)) (w.alloc (.cells ([a,b,c,d,e].map Value.string).toArray 9)):=by
 have h:=texts_built [a,b,c,d,e] (by simp) (by simp) #[(0,.string a),(1,.string b),(2,.string c),(3,.string d),(4,.string e)] (by simp [List.zipIdx]) w
 simp only [List.length_cons,List.length_nil] at h
 unfold execOp
 rw [ho]
 simp [hx,hy,hz,hu,hv,h]
open Go.ChangeShapes Go.WideShapes Go.ChangeAt Go.RowKit Go.Maps
abbrev part (a p m:Int):Value:=.agg #[.int .i64 a,.int .i64 p,.int .i64 m]
def sizes (n:Nat):(Nat×Nat×Nat)×Bool:=if n=6 then ((4,0,0),true) else if n=8 then ((4,2,0),true) else if n=14 then ((4,0,8),true) else if n=16 then ((4,2,8),true) else if n=18 then ((16,0,0),true) else if n=20 then ((16,2,0),true) else if n=26 then ((16,0,8),true) else if n=28 then ((16,2,8),true) else ((0,0,0),false)
open Go.ChangeShapes Go.WideShapes Go.ChangeAt Go.RowKit
def bF (x:Ad):Bool:=decide ((0:Int)≤x.id) && (decide (x.id≤(255:Int)) && ((decide ((x.ip.size:Int)=(4:Int)) || decide ((x.ip.size:Int)=(16:Int))) && (decide ((0:Int)≤x.port) && (decide (x.port≤(65535:Int)) && ((x.hp || decide (x.port=(0:Int))) && decide ((x.mac.size:Int)=(dH x.echo:Int)))))))
theorem iF (x:Ad):bF x=decide x.May:=by
 unfold bF
 rw [Bool.eq_iff_iff]
 simp only [Bool.and_eq_true,Bool.or_eq_true,decide_eq_true_eq]
 unfold Ad.May
 constructor
 ·rintro ⟨a,b,c,d,e,f,g⟩;exact ⟨⟨a,b⟩,c.imp (by omega) (by omega),⟨d,e⟩,f,by omega⟩
 ·rintro ⟨⟨a,b⟩,c,⟨d,e⟩,f,g⟩;exact ⟨a,b,c.imp (by omega) (by omega),d,e,f,by omega⟩
theorem validAdd_any_ (echo:Bool) (id:Int) (ip:ByteArray) (hp:Bool) (port:Int) (mac:ByteArray) (w:World):
  Calls Tryz.prog 144 #[.agg (adv (⟨echo,id,ip,hp,port,mac⟩:Ad))] w (Rt w (.bool (bF (⟨echo,id,ip,hp,port,mac⟩:Ad)))):=by
 obtain ⟨V,hV⟩:=eqx (w.alloc (.cells (adv (⟨echo,id,ip,hp,port,mac⟩:Ad)) 33))
 obtain ⟨b0,hb0⟩:=eqx w.heap.size
 obtain ⟨M,hM⟩:∃M,bF (⟨echo,id,ip,hp,port,mac⟩:Ad)=M:=⟨_,rfl⟩
 have HM:=Lh hM
 rw [hM]
 have HX:=Lh (show Blk V b0 33 (adv (⟨echo,id,ip,hp,port,mac⟩:Ad)) by rw [hV,hb0];exact Blk.new _ _ _)
 have HBV:Below w.heap.size w V:=by rw [hV];exact (Below.refl _ w).alloc (Nat.le_refl _) _
 have HE:=Lh (fun (W:World) (b:Below V.heap.size V W)=>HBV.trans (b.mono HBV.size))
 have HV:=Lh hV
 have HB:=Lh hb0
 clear hV hb0 HBV hM
 go_enter Tryz.func144,Tryz.ntmps144
 go_upto_region 1 with fail
 rw [←HV.out,←HB.out]
 clear HV
 refine bI (n:=49) rfl fun W0 B0=>?_
 refine stF 0 (.pointer (some ⟨b0,1,none⟩)) rfl B0 (stG 1 (.int .i64 id) rfl B0 (fun W b=>xLd 3 (.tmp 3) ⟨b0,1,none⟩ ((HX.out.below b HX.out.lt).cell 1)) ?_)
 rcases Bool.eq_false_or_eq_true (decide ((0:Int)≤(id:Int))) with k1 | k1
 ·refine stG 2 (.bool true) rfl B0 (fun W _=>xLb .i64 3 3 (.const (.int .i64 0)) (.tmp 4) (0) (id) true (k1)) (stF 3 (.bool true) rfl B0 (stF 4 (.pointer (some ⟨b0,1,none⟩)) rfl B0 (stG 5 (.int .i64 id) rfl B0 (fun W b=>xLd 3 (.tmp 7) ⟨b0,1,none⟩ ((HX.out.below b HX.out.lt).cell 1)) ?_)))
  rcases Bool.eq_false_or_eq_true (decide ((id:Int)≤(255:Int))) with k2 | k2
  ·refine stG 6 (.bool true) rfl B0 (fun W _=>xLb .i64 3 3 (.tmp 8) (.const (.int .i64 255)) (id) (255) true (k2)) (stF 7 (.bool true) rfl B0 (stF 8 (.bool true) rfl B0 (stF 9 (.pointer (some ⟨b0,2,none⟩)) rfl B0 (stG 10 (.string ip) rfl B0 (fun W b=>xLd 9 (.tmp 12) ⟨b0,2,none⟩ ((HX.out.below b HX.out.lt).cell 2)) (stF 11 (.int .i64 (ip.size:Int)) rfl B0 ?_)))))
   rcases Bool.eq_false_or_eq_true (decide ((ip.size:Int)=(4:Int))) with k3 | k3
   ·refine stG 12 (.bool true) rfl B0 (fun W _=>xEb .i64 3 3 (.tmp 14) (.const (.int .i64 4)) ((ip.size:Int)) (4) true (k3)) (stF 13 (.bool true) rfl B0 (stP 14 rfl B0 (stP 15 rfl B0 (stP 16 rfl B0 (stP 17 rfl B0 (stF 18 (.bool true) rfl B0 (stF 19 (.bool true) rfl B0 (stF 20 (.bool true) rfl B0 (stF 21 (.pointer (some ⟨b0,4,none⟩)) rfl B0 ?_)))))))))
    refine stG 22 (.int .i64 port) rfl B0 (fun W b=>xLd 3 (.tmp 24) ⟨b0,4,none⟩ ((HX.out.below b HX.out.lt).cell 4)) ?_
    rcases Bool.eq_false_or_eq_true (decide ((0:Int)≤(port:Int))) with k4 | k4
    ·refine stG 23 (.bool true) rfl B0 (fun W _=>xLb .i64 3 3 (.const (.int .i64 0)) (.tmp 25) (0) (port) true (k4)) (stF 24 (.bool true) rfl B0 (stF 25 (.bool true) rfl B0 (stF 26 (.pointer (some ⟨b0,4,none⟩)) rfl B0 (stG 27 (.int .i64 port) rfl B0 (fun W b=>xLd 3 (.tmp 29) ⟨b0,4,none⟩ ((HX.out.below b HX.out.lt).cell 4)) ?_))))
     rcases Bool.eq_false_or_eq_true (decide ((port:Int)≤(65535:Int))) with k5 | k5
     ·refine stG 28 (.bool true) rfl B0 (fun W _=>xLb .i64 3 3 (.tmp 30) (.const (.int .i64 65535)) (port) (65535) true (k5)) (stF 29 (.bool true) rfl B0 (stF 30 (.bool true) rfl B0 (stF 31 (.pointer (some ⟨b0,3,none⟩)) rfl B0 ?_)))
      rcases hp with _ | _
      ·refine stG 32 (.bool false) rfl B0 (fun W b=>xLd 4 (.tmp 34) ⟨b0,3,none⟩ ((HX.out.below b HX.out.lt).cell 3)) (stF 33 (.bool false) rfl B0 (stF 34 (.pointer (some ⟨b0,4,none⟩)) rfl B0 (stG 35 (.int .i64 port) rfl B0 (fun W b=>xLd 3 (.tmp 37) ⟨b0,4,none⟩ ((HX.out.below b HX.out.lt).cell 4)) ?_)))
       rcases Bool.eq_false_or_eq_true (decide ((port:Int)=(0:Int))) with k6 | k6
       ·refine stG 36 (.bool true) rfl B0 (fun W _=>xEb .i64 3 3 (.tmp 38) (.const (.int .i64 0)) (port) (0) true (k6)) (stF 37 (.bool true) rfl B0 (stF 38 (.bool true) rfl B0 (stF 39 (.bool true) rfl B0 (stF 40 (.pointer (some ⟨b0,5,none⟩)) rfl B0 (stG 41 (.string mac) rfl B0 (fun W b=>xLd 9 (.tmp 43) ⟨b0,5,none⟩ ((HX.out.below b HX.out.lt).cell 5)) (stF 42 (.int .i64 (mac.size:Int)) rfl B0 (stF 43 (.pointer (some ⟨b0,0,none⟩)) rfl B0 (stG 44 (.bool echo) rfl B0 (fun W b=>xLd 4 (.tmp 46) ⟨b0,0,none⟩ ((HX.out.below b HX.out.lt).cell 0)) ?_))))))))
        refine stB 45 rfl (dU echo _) B0 fun W7 B7=>?_
        clear B0
        rcases Bool.eq_false_or_eq_true (decide ((mac.size:Int)=(dH echo:Int))) with k8 | k8
        ·refine stG 46 (.bool true) rfl B7 (fun W _=>xEb .i64 3 3 (.tmp 45) (.tmp 48) ((mac.size:Int)) ((dH echo:Int)) true (k8)) (stF 47 (.bool true) rfl B7 (stF 48 (.bool true) rfl B7 ?_))
         refine aG (by kernel_rfl) ?_
         go_wp2_with fail
         exact aK 2 (.bool true) (by kernel_rfl) (by kernel_rfl) (by kernel_rfl) ⟨by rw [←HM.out];unfold bF;simp [k1,k2,k3,k4,k5,k6,k8],HE.out _ B7⟩
        ·refine stG 46 (.bool false) rfl B7 (fun W _=>xEb .i64 3 3 (.tmp 45) (.tmp 48) ((mac.size:Int)) ((dH echo:Int)) false (k8)) (stF 47 (.bool false) rfl B7 (stF 48 (.bool false) rfl B7 ?_))
         refine aG (by kernel_rfl) ?_
         go_wp2_with fail
         exact aK 2 (.bool false) (by kernel_rfl) (by kernel_rfl) (by kernel_rfl) ⟨by rw [←HM.out];unfold bF;simp [k1,k2,k3,k4,k5,k6,k8],HE.out _ B7⟩
       ·refine stG 36 (.bool false) rfl B0 (fun W _=>xEb .i64 3 3 (.tmp 38) (.const (.int .i64 0)) (port) (0) false (k6)) (stF 37 (.bool false) rfl B0 (stF 38 (.bool false) rfl B0 (stF 39 (.bool false) rfl B0 (stP 40 rfl B0 (stP 41 rfl B0 (stP 42 rfl B0 (stP 43 rfl B0 (stP 44 rfl B0 (stP 45 rfl B0 ?_)))))))))
        refine stP 46 rfl B0 (stF 47 (.bool false) rfl B0 (stF 48 (.bool false) rfl B0 ?_))
        refine aG (by kernel_rfl) ?_
        go_wp2_with fail
        exact aK 2 (.bool false) (by kernel_rfl) (by kernel_rfl) (by kernel_rfl) ⟨by rw [←HM.out];unfold bF;simp [k1,k2,k3,k4,k5,k6],HE.out _ B0⟩
      ·refine stG 32 (.bool true) rfl B0 (fun W b=>xLd 4 (.tmp 34) ⟨b0,3,none⟩ ((HX.out.below b HX.out.lt).cell 3)) (stF 33 (.bool true) rfl B0 (stP 34 rfl B0 (stP 35 rfl B0 (stP 36 rfl B0 (stF 37 (.bool true) rfl B0 (stF 38 (.bool true) rfl B0 (stF 39 (.bool true) rfl B0 (stF 40 (.pointer (some ⟨b0,5,none⟩)) rfl B0 (stG 41 (.string mac) rfl B0 (fun W b=>xLd 9 (.tmp 43) ⟨b0,5,none⟩ ((HX.out.below b HX.out.lt).cell 5)) ?_)))))))))
       refine stF 42 (.int .i64 (mac.size:Int)) rfl B0 (stF 43 (.pointer (some ⟨b0,0,none⟩)) rfl B0 (stG 44 (.bool echo) rfl B0 (fun W b=>xLd 4 (.tmp 46) ⟨b0,0,none⟩ ((HX.out.below b HX.out.lt).cell 0)) ?_))
       refine stB 45 rfl (dU echo _) B0 fun W9 B9=>?_
       clear B0
       rcases Bool.eq_false_or_eq_true (decide ((mac.size:Int)=(dH echo:Int))) with k10 | k10
       ·refine stG 46 (.bool true) rfl B9 (fun W _=>xEb .i64 3 3 (.tmp 45) (.tmp 48) ((mac.size:Int)) ((dH echo:Int)) true (k10)) (stF 47 (.bool true) rfl B9 (stF 48 (.bool true) rfl B9 ?_))
        refine aG (by kernel_rfl) ?_
        go_wp2_with fail
        exact aK 2 (.bool true) (by kernel_rfl) (by kernel_rfl) (by kernel_rfl) ⟨by rw [←HM.out];unfold bF;simp [k1,k2,k3,k4,k5,k10],HE.out _ B9⟩
       ·refine stG 46 (.bool false) rfl B9 (fun W _=>xEb .i64 3 3 (.tmp 45) (.tmp 48) ((mac.size:Int)) ((dH echo:Int)) false (k10)) (stF 47 (.bool false) rfl B9 (stF 48 (.bool false) rfl B9 ?_))
        refine aG (by kernel_rfl) ?_
        go_wp2_with fail
        exact aK 2 (.bool false) (by kernel_rfl) (by kernel_rfl) (by kernel_rfl) ⟨by rw [←HM.out];unfold bF;simp [k1,k2,k3,k4,k5,k10],HE.out _ B9⟩
     ·refine stG 28 (.bool false) rfl B0 (fun W _=>xLb .i64 3 3 (.tmp 30) (.const (.int .i64 65535)) (port) (65535) false (k5)) (stF 29 (.bool false) rfl B0 (stF 30 (.bool false) rfl B0 (stP 31 rfl B0 (stP 32 rfl B0 (stP 33 rfl B0 (stP 34 rfl B0 (stP 35 rfl B0 (stP 36 rfl B0 (stP 37 rfl B0 ?_)))))))))
      refine stF 38 (.bool false) rfl B0 (stF 39 (.bool false) rfl B0 (stP 40 rfl B0 (stP 41 rfl B0 (stP 42 rfl B0 (stP 43 rfl B0 (stP 44 rfl B0 (stP 45 rfl B0 (stP 46 rfl B0 (stF 47 (.bool false) rfl B0 ?_)))))))))
      refine stF 48 (.bool false) rfl B0 ?_
      refine aG (by kernel_rfl) ?_
      go_wp2_with fail
      exact aK 2 (.bool false) (by kernel_rfl) (by kernel_rfl) (by kernel_rfl) ⟨by rw [←HM.out];unfold bF;simp [k1,k2,k3,k4,k5],HE.out _ B0⟩
    ·refine stG 23 (.bool false) rfl B0 (fun W _=>xLb .i64 3 3 (.const (.int .i64 0)) (.tmp 25) (0) (port) false (k4)) (stF 24 (.bool false) rfl B0 (stF 25 (.bool false) rfl B0 (stP 26 rfl B0 (stP 27 rfl B0 (stP 28 rfl B0 (stF 29 (.bool false) rfl B0 (stF 30 (.bool false) rfl B0 (stP 31 rfl B0 (stP 32 rfl B0 ?_)))))))))
     refine stP 33 rfl B0 (stP 34 rfl B0 (stP 35 rfl B0 (stP 36 rfl B0 (stP 37 rfl B0 (stF 38 (.bool false) rfl B0 (stF 39 (.bool false) rfl B0 (stP 40 rfl B0 (stP 41 rfl B0 (stP 42 rfl B0 ?_)))))))))
     refine stP 43 rfl B0 (stP 44 rfl B0 (stP 45 rfl B0 (stP 46 rfl B0 (stF 47 (.bool false) rfl B0 (stF 48 (.bool false) rfl B0 ?_)))))
     refine aG (by kernel_rfl) ?_
     go_wp2_with fail
     exact aK 2 (.bool false) (by kernel_rfl) (by kernel_rfl) (by kernel_rfl) ⟨by rw [←HM.out];unfold bF;simp [k1,k2,k3,k4],HE.out _ B0⟩
   ·refine stG 12 (.bool false) rfl B0 (fun W _=>xEb .i64 3 3 (.tmp 14) (.const (.int .i64 4)) ((ip.size:Int)) (4) false (k3)) (stF 13 (.bool false) rfl B0 (stF 14 (.pointer (some ⟨b0,2,none⟩)) rfl B0 (stG 15 (.string ip) rfl B0 (fun W b=>xLd 9 (.tmp 17) ⟨b0,2,none⟩ ((HX.out.below b HX.out.lt).cell 2)) (stF 16 (.int .i64 (ip.size:Int)) rfl B0 ?_))))
    rcases Bool.eq_false_or_eq_true (decide ((ip.size:Int)=(16:Int))) with k11 | k11
    ·refine stG 17 (.bool true) rfl B0 (fun W _=>xEb .i64 3 3 (.tmp 19) (.const (.int .i64 16)) ((ip.size:Int)) (16) true (k11)) (stF 18 (.bool true) rfl B0 (stF 19 (.bool true) rfl B0 (stF 20 (.bool true) rfl B0 (stF 21 (.pointer (some ⟨b0,4,none⟩)) rfl B0 (stG 22 (.int .i64 port) rfl B0 (fun W b=>xLd 3 (.tmp 24) ⟨b0,4,none⟩ ((HX.out.below b HX.out.lt).cell 4)) ?_)))))
     rcases Bool.eq_false_or_eq_true (decide ((0:Int)≤(port:Int))) with k12 | k12
     ·refine stG 23 (.bool true) rfl B0 (fun W _=>xLb .i64 3 3 (.const (.int .i64 0)) (.tmp 25) (0) (port) true (k12)) (stF 24 (.bool true) rfl B0 (stF 25 (.bool true) rfl B0 (stF 26 (.pointer (some ⟨b0,4,none⟩)) rfl B0 (stG 27 (.int .i64 port) rfl B0 (fun W b=>xLd 3 (.tmp 29) ⟨b0,4,none⟩ ((HX.out.below b HX.out.lt).cell 4)) ?_))))
      rcases Bool.eq_false_or_eq_true (decide ((port:Int)≤(65535:Int))) with k13 | k13
      ·refine stG 28 (.bool true) rfl B0 (fun W _=>xLb .i64 3 3 (.tmp 30) (.const (.int .i64 65535)) (port) (65535) true (k13)) (stF 29 (.bool true) rfl B0 (stF 30 (.bool true) rfl B0 (stF 31 (.pointer (some ⟨b0,3,none⟩)) rfl B0 ?_)))
       rcases hp with _ | _
       ·refine stG 32 (.bool false) rfl B0 (fun W b=>xLd 4 (.tmp 34) ⟨b0,3,none⟩ ((HX.out.below b HX.out.lt).cell 3)) (stF 33 (.bool false) rfl B0 (stF 34 (.pointer (some ⟨b0,4,none⟩)) rfl B0 (stG 35 (.int .i64 port) rfl B0 (fun W b=>xLd 3 (.tmp 37) ⟨b0,4,none⟩ ((HX.out.below b HX.out.lt).cell 4)) ?_)))
        rcases Bool.eq_false_or_eq_true (decide ((port:Int)=(0:Int))) with k14 | k14
        ·refine stG 36 (.bool true) rfl B0 (fun W _=>xEb .i64 3 3 (.tmp 38) (.const (.int .i64 0)) (port) (0) true (k14)) (stF 37 (.bool true) rfl B0 (stF 38 (.bool true) rfl B0 (stF 39 (.bool true) rfl B0 (stF 40 (.pointer (some ⟨b0,5,none⟩)) rfl B0 (stG 41 (.string mac) rfl B0 (fun W b=>xLd 9 (.tmp 43) ⟨b0,5,none⟩ ((HX.out.below b HX.out.lt).cell 5)) (stF 42 (.int .i64 (mac.size:Int)) rfl B0 (stF 43 (.pointer (some ⟨b0,0,none⟩)) rfl B0 (stG 44 (.bool echo) rfl B0 (fun W b=>xLd 4 (.tmp 46) ⟨b0,0,none⟩ ((HX.out.below b HX.out.lt).cell 0)) ?_))))))))
         refine stB 45 rfl (dU echo _) B0 fun W15 B15=>?_
         clear B0
         rcases Bool.eq_false_or_eq_true (decide ((mac.size:Int)=(dH echo:Int))) with k16 | k16
         ·refine stG 46 (.bool true) rfl B15 (fun W _=>xEb .i64 3 3 (.tmp 45) (.tmp 48) ((mac.size:Int)) ((dH echo:Int)) true (k16)) (stF 47 (.bool true) rfl B15 (stF 48 (.bool true) rfl B15 ?_))
          refine aG (by kernel_rfl) ?_
          go_wp2_with fail
          exact aK 2 (.bool true) (by kernel_rfl) (by kernel_rfl) (by kernel_rfl) ⟨by rw [←HM.out];unfold bF;simp [k1,k2,k3,k11,k12,k13,k14,k16],HE.out _ B15⟩
         ·refine stG 46 (.bool false) rfl B15 (fun W _=>xEb .i64 3 3 (.tmp 45) (.tmp 48) ((mac.size:Int)) ((dH echo:Int)) false (k16)) (stF 47 (.bool false) rfl B15 (stF 48 (.bool false) rfl B15 ?_))
          refine aG (by kernel_rfl) ?_
          go_wp2_with fail
          exact aK 2 (.bool false) (by kernel_rfl) (by kernel_rfl) (by kernel_rfl) ⟨by rw [←HM.out];unfold bF;simp [k1,k2,k3,k11,k12,k13,k14,k16],HE.out _ B15⟩
        ·refine stG 36 (.bool false) rfl B0 (fun W _=>xEb .i64 3 3 (.tmp 38) (.const (.int .i64 0)) (port) (0) false (k14)) (stF 37 (.bool false) rfl B0 (stF 38 (.bool false) rfl B0 (stF 39 (.bool false) rfl B0 (stP 40 rfl B0 (stP 41 rfl B0 (stP 42 rfl B0 (stP 43 rfl B0 (stP 44 rfl B0 (stP 45 rfl B0 ?_)))))))))
         refine stP 46 rfl B0 (stF 47 (.bool false) rfl B0 (stF 48 (.bool false) rfl B0 ?_))
         refine aG (by kernel_rfl) ?_
         go_wp2_with fail
         exact aK 2 (.bool false) (by kernel_rfl) (by kernel_rfl) (by kernel_rfl) ⟨by rw [←HM.out];unfold bF;simp [k1,k2,k3,k11,k12,k13,k14],HE.out _ B0⟩
       ·refine stG 32 (.bool true) rfl B0 (fun W b=>xLd 4 (.tmp 34) ⟨b0,3,none⟩ ((HX.out.below b HX.out.lt).cell 3)) (stF 33 (.bool true) rfl B0 (stP 34 rfl B0 (stP 35 rfl B0 (stP 36 rfl B0 (stF 37 (.bool true) rfl B0 (stF 38 (.bool true) rfl B0 (stF 39 (.bool true) rfl B0 (stF 40 (.pointer (some ⟨b0,5,none⟩)) rfl B0 (stG 41 (.string mac) rfl B0 (fun W b=>xLd 9 (.tmp 43) ⟨b0,5,none⟩ ((HX.out.below b HX.out.lt).cell 5)) ?_)))))))))
        refine stF 42 (.int .i64 (mac.size:Int)) rfl B0 (stF 43 (.pointer (some ⟨b0,0,none⟩)) rfl B0 (stG 44 (.bool echo) rfl B0 (fun W b=>xLd 4 (.tmp 46) ⟨b0,0,none⟩ ((HX.out.below b HX.out.lt).cell 0)) ?_))
        refine stB 45 rfl (dU echo _) B0 fun W17 B17=>?_
        clear B0
        rcases Bool.eq_false_or_eq_true (decide ((mac.size:Int)=(dH echo:Int))) with k18 | k18
        ·refine stG 46 (.bool true) rfl B17 (fun W _=>xEb .i64 3 3 (.tmp 45) (.tmp 48) ((mac.size:Int)) ((dH echo:Int)) true (k18)) (stF 47 (.bool true) rfl B17 (stF 48 (.bool true) rfl B17 ?_))
         refine aG (by kernel_rfl) ?_
         go_wp2_with fail
         exact aK 2 (.bool true) (by kernel_rfl) (by kernel_rfl) (by kernel_rfl) ⟨by rw [←HM.out];unfold bF;simp [k1,k2,k3,k11,k12,k13,k18],HE.out _ B17⟩
        ·refine stG 46 (.bool false) rfl B17 (fun W _=>xEb .i64 3 3 (.tmp 45) (.tmp 48) ((mac.size:Int)) ((dH echo:Int)) false (k18)) (stF 47 (.bool false) rfl B17 (stF 48 (.bool false) rfl B17 ?_))
         refine aG (by kernel_rfl) ?_
         go_wp2_with fail
         exact aK 2 (.bool false) (by kernel_rfl) (by kernel_rfl) (by kernel_rfl) ⟨by rw [←HM.out];unfold bF;simp [k1,k2,k3,k11,k12,k13,k18],HE.out _ B17⟩
      ·refine stG 28 (.bool false) rfl B0 (fun W _=>xLb .i64 3 3 (.tmp 30) (.const (.int .i64 65535)) (port) (65535) false (k13)) (stF 29 (.bool false) rfl B0 (stF 30 (.bool false) rfl B0 (stP 31 rfl B0 (stP 32 rfl B0 (stP 33 rfl B0 (stP 34 rfl B0 (stP 35 rfl B0 (stP 36 rfl B0 (stP 37 rfl B0 ?_)))))))))
       refine stF 38 (.bool false) rfl B0 (stF 39 (.bool false) rfl B0 (stP 40 rfl B0 (stP 41 rfl B0 (stP 42 rfl B0 (stP 43 rfl B0 (stP 44 rfl B0 (stP 45 rfl B0 (stP 46 rfl B0 (stF 47 (.bool false) rfl B0 ?_)))))))))
       refine stF 48 (.bool false) rfl B0 ?_
       refine aG (by kernel_rfl) ?_
       go_wp2_with fail
       exact aK 2 (.bool false) (by kernel_rfl) (by kernel_rfl) (by kernel_rfl) ⟨by rw [←HM.out];unfold bF;simp [k1,k2,k3,k11,k12,k13],HE.out _ B0⟩
     ·refine stG 23 (.bool false) rfl B0 (fun W _=>xLb .i64 3 3 (.const (.int .i64 0)) (.tmp 25) (0) (port) false (k12)) (stF 24 (.bool false) rfl B0 (stF 25 (.bool false) rfl B0 (stP 26 rfl B0 (stP 27 rfl B0 (stP 28 rfl B0 (stF 29 (.bool false) rfl B0 (stF 30 (.bool false) rfl B0 (stP 31 rfl B0 (stP 32 rfl B0 ?_)))))))))
      refine stP 33 rfl B0 (stP 34 rfl B0 (stP 35 rfl B0 (stP 36 rfl B0 (stP 37 rfl B0 (stF 38 (.bool false) rfl B0 (stF 39 (.bool false) rfl B0 (stP 40 rfl B0 (stP 41 rfl B0 (stP 42 rfl B0 ?_)))))))))
      refine stP 43 rfl B0 (stP 44 rfl B0 (stP 45 rfl B0 (stP 46 rfl B0 (stF 47 (.bool false) rfl B0 (stF 48 (.bool false) rfl B0 ?_)))))
      refine aG (by kernel_rfl) ?_
      go_wp2_with fail
      exact aK 2 (.bool false) (by kernel_rfl) (by kernel_rfl) (by kernel_rfl) ⟨by rw [←HM.out];unfold bF;simp [k1,k2,k3,k11,k12],HE.out _ B0⟩
    ·refine stG 17 (.bool false) rfl B0 (fun W _=>xEb .i64 3 3 (.tmp 19) (.const (.int .i64 16)) ((ip.size:Int)) (16) false (k11)) (stF 18 (.bool false) rfl B0 (stF 19 (.bool false) rfl B0 (stF 20 (.bool false) rfl B0 (stP 21 rfl B0 (stP 22 rfl B0 (stP 23 rfl B0 (stF 24 (.bool false) rfl B0 (stF 25 (.bool false) rfl B0 (stP 26 rfl B0 ?_)))))))))
     refine stP 27 rfl B0 (stP 28 rfl B0 (stF 29 (.bool false) rfl B0 (stF 30 (.bool false) rfl B0 (stP 31 rfl B0 (stP 32 rfl B0 (stP 33 rfl B0 (stP 34 rfl B0 (stP 35 rfl B0 (stP 36 rfl B0 ?_)))))))))
     refine stP 37 rfl B0 (stF 38 (.bool false) rfl B0 (stF 39 (.bool false) rfl B0 (stP 40 rfl B0 (stP 41 rfl B0 (stP 42 rfl B0 (stP 43 rfl B0 (stP 44 rfl B0 (stP 45 rfl B0 (stP 46 rfl B0 ?_)))))))))
     refine stF 47 (.bool false) rfl B0 (stF 48 (.bool false) rfl B0 ?_)
     refine aG (by kernel_rfl) ?_
     go_wp2_with fail
     exact aK 2 (.bool false) (by kernel_rfl) (by kernel_rfl) (by kernel_rfl) ⟨by rw [←HM.out];unfold bF;simp [k1,k2,k3,k11],HE.out _ B0⟩
  ·refine stG 6 (.bool false) rfl B0 (fun W _=>xLb .i64 3 3 (.tmp 8) (.const (.int .i64 255)) (id) (255) false (k2)) (stF 7 (.bool false) rfl B0 (stF 8 (.bool false) rfl B0 (stP 9 rfl B0 (stP 10 rfl B0 (stP 11 rfl B0 (stP 12 rfl B0 (stP 13 rfl B0 (stP 14 rfl B0 (stP 15 rfl B0 ?_)))))))))
   refine stP 16 rfl B0 (stP 17 rfl B0 (stP 18 rfl B0 (stF 19 (.bool false) rfl B0 (stF 20 (.bool false) rfl B0 (stP 21 rfl B0 (stP 22 rfl B0 (stP 23 rfl B0 (stF 24 (.bool false) rfl B0 (stF 25 (.bool false) rfl B0 ?_)))))))))
   refine stP 26 rfl B0 (stP 27 rfl B0 (stP 28 rfl B0 (stF 29 (.bool false) rfl B0 (stF 30 (.bool false) rfl B0 (stP 31 rfl B0 (stP 32 rfl B0 (stP 33 rfl B0 (stP 34 rfl B0 (stP 35 rfl B0 ?_)))))))))
   refine stP 36 rfl B0 (stP 37 rfl B0 (stF 38 (.bool false) rfl B0 (stF 39 (.bool false) rfl B0 (stP 40 rfl B0 (stP 41 rfl B0 (stP 42 rfl B0 (stP 43 rfl B0 (stP 44 rfl B0 (stP 45 rfl B0 ?_)))))))))
   refine stP 46 rfl B0 (stF 47 (.bool false) rfl B0 (stF 48 (.bool false) rfl B0 ?_))
   refine aG (by kernel_rfl) ?_
   go_wp2_with fail
   exact aK 2 (.bool false) (by kernel_rfl) (by kernel_rfl) (by kernel_rfl) ⟨by rw [←HM.out];unfold bF;simp [k1,k2],HE.out _ B0⟩
 ·refine stG 2 (.bool false) rfl B0 (fun W _=>xLb .i64 3 3 (.const (.int .i64 0)) (.tmp 4) (0) (id) false (k1)) (stF 3 (.bool false) rfl B0 (stP 4 rfl B0 (stP 5 rfl B0 (stP 6 rfl B0 (stF 7 (.bool false) rfl B0 (stF 8 (.bool false) rfl B0 (stP 9 rfl B0 (stP 10 rfl B0 (stP 11 rfl B0 ?_)))))))))
  refine stP 12 rfl B0 (stP 13 rfl B0 (stP 14 rfl B0 (stP 15 rfl B0 (stP 16 rfl B0 (stP 17 rfl B0 (stP 18 rfl B0 (stF 19 (.bool false) rfl B0 (stF 20 (.bool false) rfl B0 (stP 21 rfl B0 ?_)))))))))
  refine stP 22 rfl B0 (stP 23 rfl B0 (stF 24 (.bool false) rfl B0 (stF 25 (.bool false) rfl B0 (stP 26 rfl B0 (stP 27 rfl B0 (stP 28 rfl B0 (stF 29 (.bool false) rfl B0 (stF 30 (.bool false) rfl B0 (stP 31 rfl B0 ?_)))))))))
  refine stP 32 rfl B0 (stP 33 rfl B0 (stP 34 rfl B0 (stP 35 rfl B0 (stP 36 rfl B0 (stP 37 rfl B0 (stF 38 (.bool false) rfl B0 (stF 39 (.bool false) rfl B0 (stP 40 rfl B0 (stP 41 rfl B0 ?_)))))))))
  refine stP 42 rfl B0 (stP 43 rfl B0 (stP 44 rfl B0 (stP 45 rfl B0 (stP 46 rfl B0 (stF 47 (.bool false) rfl B0 (stF 48 (.bool false) rfl B0 ?_))))))
  refine aG (by kernel_rfl) ?_
  go_wp2_with fail
  exact aK 2 (.bool false) (by kernel_rfl) (by kernel_rfl) (by kernel_rfl) ⟨by rw [←HM.out];unfold bF;simp [k1],HE.out _ B0⟩
theorem validAdd_any (x:Ad) (w:World):
  Calls Tryz.prog 144 #[.agg (adv x)] w (Rt w (.bool (decide x.May))):=by
 rw [←iF]
 obtain ⟨echo,id,ip,hp,port,mac⟩:=x
 exact validAdd_any_ echo id ip hp port mac w
open Go.ChangeShapes Go.WideShapes Go.ChangeAt Go.RowKit
def bJ (x:Ad):Value:=.tuple #[.string x.enc.1,.int .i64 x.enc.2]
theorem gQ (x:Ad) (h:x.May):bJ x= .tuple #[.string (txt x.body),.int .i64 0]:=by unfold bJ;rw [Ad.kP x h]
theorem jA (x:Ad) (h:¬x.May):bJ x= .tuple #[.string ⟨#[]⟩,.int .i64 2]:=by unfold bJ;rw [Ad.kN x h]
def lU (s:ByteArray):Value:=.tuple #[.string (encR s).1,.int .i64 (encR s).2]
theorem encRV_t (s:ByteArray) (h:1≤s.size∧s.size≤37):lU s= .tuple #[.string (txt (64::s.data.toList)),.int .i64 0]:=by unfold lU;rw [pU s h]
theorem encRV_f (s:ByteArray) (h:¬(1≤s.size∧s.size≤37)):lU s= .tuple #[.string ⟨#[]⟩,.int .i64 2]:=by unfold lU;rw [pJ s h]
theorem aP {P:Program} {fn:Func} {R:Ending→World→Prop} {a:Act} {w:World} (t u:Tmp) (v z:Value) (hf:fn.results=#[.tmp t,.tmp u]) (ht:a.tmps.getD t undef=v) (hu:a.tmps.getD u undef=z) (hd:a.defers=[]) (hR:R (.returned (.tuple #[v,z])) w):bodyPost P fn R .ret a w:=
 bodyPost_ret (by rw [results_tmp2 hf,ht,hu]) hd hR
theorem body_parts (x:Ad) (i:Nat) (hi:x.id=(i:Int)):(txt x.body).data.toList=([txt (be 1 (fst x.echo)),txt (be 1 i),x.ip,txt x.l7,x.mac].map (·.data.toList)).flatten:=by
 obtain ⟨echo,id,ip,hp,port,mac⟩:=x
 have hi:id=(i:Int):=hi
 subst hi
 simp [txt_list,Ad.body,Ad.rest,be]
theorem kZ (x:Ad) (h:x.May):(txt x.body).size≤28:=by rw [aO,x.dG];exact x.size_le h
theorem EncodeAdd_t (x:Ad) (hm:x.May) (w:World):
  Calls Tryz.prog 80 #[.agg (adv x)] w (Rt w (bJ x)):=by
 rw [gQ x hm]
 obtain ⟨T,hT⟩:=eqx (txt x.body)
 rw [←hT]
 have i0:=hm.1
 obtain ⟨i,hi⟩:∃i:Nat,x.id=(i:Int):=⟨x.id.toNat,by omega⟩
 have nK:i≤255:=by omega
 obtain ⟨A,hA⟩:=eqx (txt (be 1 (fst x.echo)))
 obtain ⟨C,hC⟩:=eqx (txt (be 1 i))
 obtain ⟨P,hP⟩:=eqx (txt x.l7)
 have HTT:=Lh (show T.data.toList=([A,C,x.ip,P,x.mac].map (·.data.toList)).flatten by rw [hT,hA,hC,hP];exact body_parts x i hi)
 have HTS:=Lh (show T.size≤28 by rw [hT];exact kZ x hm)
 have HA:=Lh (show (⟨#[]⟩:ByteArray)++⟨(be 1 (fst x.echo)).toArray⟩=A by rw [eG,hA];rfl)
 have HCC:=Lh (show (⟨#[]⟩:ByteArray)++⟨(be 1 i).toArray⟩=C by rw [eG,hC];rfl)
 have HP:=Lh hP
 have HPT:=Lh hm.2.2.1
 have HI:=Lh (show x.id%256=(i:Int) by omega)
 have HI2:=Lh nK
 have HM:=Lh hm
 obtain ⟨w0,hw0⟩:=eqx (w.alloc (.cells (adv x) 33))
 obtain ⟨b0,hb0⟩:=eqx w.heap.size
 have hc0:Blk w0 b0 33 (adv x):=by rw [hw0,hb0];exact Blk.new _ _ _
 have HC0:=Lh hc0
 have HBW:=Lh (mX hw0)
 have HW0:=Lh hw0
 have HB0:=Lh hb0
 have HC1:=hc0
 rw [hw0,hb0] at HC1
 have jQ:=Lh HC1
 clear hT hi hA hC hP hw0 hb0 hc0 i0 HC1 hm nK
 go_enter Tryz.func80,Tryz.ntmps80
 go_wp2_with (refine wpList_load_row rfl 33 _ rfl w.heap.size rfl 33 (adv x) (0,0) _ ?_ Tryz.underlying33 rfl gU ?_;exact jQ.out)
 rw [←HW0.out,←HB0.out]
 refine (validAdd_any x _).mono ?_
 rintro e V ⟨rfl,bv⟩
 rw [decide_eq_true HM.out]
 have HC:=Lh (HC0.out.below bv HC0.out.lt)
 have HBV:=Lh (HBW.out.trans (bv.mono HBW.out.size))
 clear bv HC0 HBW HW0 jQ
 go_upto_region 3 with fail
 refine bI (n:=17) rfl fun W0 B0=>?_
 refine stG 0 (.agg (adv x)) rfl B0 (fun W b=>xRw 33 (.tmp 1) b0 (HC.out.below b HC.out.lt) Tryz.underlying33 gU) (stF 3 (.pointer (some ⟨b0,1,none⟩)) rfl B0 (stG 4 (.int .i64 x.id) rfl B0 (fun W b=>xLd 3 (.tmp 10) ⟨b0,1,none⟩ ((HC.out.below b HC.out.lt).cell 1)) (stG 5 (.int .u8 (i:Int)) rfl B0 (fun W _=>cO (v:=.int .i64 x.id) 3 5 (.tmp 11) (by kernel_rfl) (by kernel_rfl) (fD x.id i HI.out W)) (stF 7 (.pointer (some ⟨b0,2,none⟩)) rfl B0 (stG 8 (.string x.ip) rfl B0 (fun W b=>xLd 9 (.tmp 14) ⟨b0,2,none⟩ ((HC.out.below b HC.out.lt).cell 2)) (stG 9 (.agg (adv x)) rfl B0 (fun W b=>xRw 33 (.tmp 1) b0 (HC.out.below b HC.out.lt) Tryz.underlying33 gU) (stF 11 (.pointer (some ⟨b0,5,none⟩)) rfl B0 (stG 12 (.string x.mac) rfl B0 (fun W b=>xLd 9 (.tmp 18) ⟨b0,5,none⟩ ((HC.out.below b HC.out.lt).cell 5)) ?_))))))))
 refine stB 1 rfl (fC x _) B0 fun W1 B1=>?_
 clear B0
 refine stB 2 rfl (answer (bG ⟨#[]⟩ (fst x.echo) _ (by decide) (fst_le _)) (congrArg Value.string HA.out)) B1 fun W2 B2=>?_
 clear B1
 refine stB 6 rfl (answer (bG ⟨#[]⟩ i _ (by decide) HI2.out) (congrArg Value.string HCC.out)) B2 fun W3 B3=>?_
 clear B2
 refine stB 10 rfl (portOf_any x HPT.out P HP.out _) B3 fun W4 B4=>?_
 clear B3
 obtain ⟨W5,hW5⟩:∃w',w'=W4.alloc (.cells ([A,C,x.ip,P,x.mac].map Value.string).toArray 9):=⟨_,rfl⟩
 have NB:Blk W5 W4.heap.size 9 ([A,C,x.ip,P,x.mac].map Value.string).toArray:=by rw [hW5];exact Blk.new _ _ _
 have B5:Below V.heap.size V W5:=by rw [hW5];exact B4.alloc B4.size _
 refine held_lone (v:=.slice (some ⟨W4.heap.size,0,none⟩) 5 5) (w':=W5) 13 rfl (by kernel_rfl) (by kernel_rfl) (by rw [hW5];exact ex_build5 (.tmp 9) (.tmp 13) (.tmp 15) (.tmp 17) (.tmp 19) (by kernel_rfl) A C x.ip P x.mac (by kernel_rfl) (by kernel_rfl) (by kernel_rfl) (by kernel_rfl) (by kernel_rfl)) B5 ?_
 clear hW5
 refine stB 14 rfl (concat_any [A,C,x.ip,P,x.mac] T HTT.out _ 5 rfl _ NB (by simp) (by have:=HTS.out;omega)) B5 fun W6 B6=>?_
 clear B5
 refine stF 15 (.string T) rfl B6 (stF 16 (.int .i64 0) rfl B6 ?_)
 refine aG (by kernel_rfl) ?_
 go_wp2_with fail
 exact aP 2 3 (.string T) (.int .i64 0) (by kernel_rfl) (by kernel_rfl) (by kernel_rfl) (by kernel_rfl) ⟨rfl,by have q:=HBV.out.trans (B6.mono HBV.out.size);first | exact q | (rw [HB0.out];exact q)⟩
theorem EncodeAdd_f (x:Ad) (hm:¬x.May) (w:World):
  Calls Tryz.prog 80 #[.agg (adv x)] w (Rt w (bJ x)):=by
 rw [jA x hm]
 have HC:=Lh (Blk.new w 33 (adv x))
 have HB:=Lh ((Below.refl _ w).alloc (Nat.le_refl _) (.cells (adv x) 33))
 have HM:=Lh hm
 clear hm
 go_enter Tryz.func80,Tryz.ntmps80
 go_wp2_with (refine wpList_load_row rfl 33 _ rfl w.heap.size rfl 33 (adv x) (0,0) _ ?_ Tryz.underlying33 rfl gU ?_;exact HC.out)
 refine (validAdd_any x _).mono ?_
 rintro e V ⟨rfl,bv⟩
 rw [decide_eq_false HM.out]
 have HBV:=Lh (HB.out.trans (bv.mono HB.out.size))
 clear bv
 go_wp2_with fail
 exact aP 2 3 (.string ⟨#[]⟩) (.int .i64 2) rfl rfl rfl rfl ⟨rfl,HBV.out⟩
theorem EncodeAdd_any (x:Ad) (w:World):
  Calls Tryz.prog 80 #[.agg (adv x)] w (Rt w (bJ x)):=by
 by_cases hm:x.May
 ·exact EncodeAdd_t x hm w
 ·exact EncodeAdd_f x hm w
theorem EncodeRemove_t (s:ByteArray) (hm:1≤s.size∧s.size≤37) (w:World):
  Calls Tryz.prog 84 #[.agg (rmv s)] w (Rt w (lU s)):=by
 rw [encRV_t s hm]
 obtain ⟨T,hT⟩:=eqx (txt (64::s.data.toList))
 rw [←hT]
 obtain ⟨A,hA⟩:=eqx (txt [64])
 have HTT:=Lh (show T.data.toList=([A,s].map (·.data.toList)).flatten by rw [hT,hA];simp [txt_list])
 have HTS:=Lh (show T.size≤38 by rw [hT,one_size,iI];omega)
 have HA:=Lh (show (⟨#[]⟩:ByteArray)++⟨(be 1 64).toArray⟩=A by rw [eG,hA];rfl)
 have HM:=Lh hm
 obtain ⟨w0,hw0⟩:=eqx (w.alloc (.cells (rmv s) 35))
 obtain ⟨b0,hb0⟩:=eqx w.heap.size
 have hc0:Blk w0 b0 35 (rmv s):=by rw [hw0,hb0];exact Blk.new _ _ _
 have HC0:=Lh hc0
 have HBW:=Lh (mX hw0)
 have HW0:=Lh hw0
 have HB0:=Lh hb0
 have HC1:=hc0
 rw [hw0,hb0] at HC1
 have jQ:=Lh HC1
 clear hT hA hw0 hb0 hc0 HC1 hm
 go_enter Tryz.func84,Tryz.ntmps84
 go_wp2_with (refine wpList_load_row rfl 35 _ rfl w.heap.size rfl 35 (rmv s) (0,0) _ ?_ Tryz.underlying35 rfl jW ?_;exact jQ.out)
 rw [←HW0.out,←HB0.out]
 refine (validRemove_any s _ (by have:=HM.out;omega)).mono ?_
 rintro e V ⟨rfl,bv⟩
 rw [decide_eq_true HM.out]
 have HC:=Lh (HC0.out.below bv HC0.out.lt)
 have HBV:=Lh (HBW.out.trans (bv.mono HBW.out.size))
 clear bv HC0 HBW HW0 jQ
 go_upto_region 3 with fail
 refine bI (n:=7) rfl fun W0 B0=>?_
 refine stF 1 (.pointer (some ⟨b0,0,none⟩)) rfl B0 (stG 2 (.string s) rfl B0 (fun W b=>xLd 9 (.tmp 8) ⟨b0,0,none⟩ ((HC.out.below b HC.out.lt).cell 0)) ?_)
 refine stB 0 rfl (answer (bG ⟨#[]⟩ 64 _ (by decide) (by decide)) (congrArg Value.string HA.out)) B0 fun W1 B1=>?_
 clear B0
 obtain ⟨W2,hW2⟩:∃w',w'=W1.alloc (.cells ([A,s].map Value.string).toArray 9):=⟨_,rfl⟩
 have NB:Blk W2 W1.heap.size 9 ([A,s].map Value.string).toArray:=by rw [hW2];exact Blk.new _ _ _
 have B2:Below V.heap.size V W2:=by rw [hW2];exact B1.alloc B1.size _
 refine held_lone (v:=.slice (some ⟨W1.heap.size,0,none⟩) 2 2) (w':=W2) 3 rfl (by kernel_rfl) (by kernel_rfl) (by rw [hW2];exact ex_build2 (.tmp 7) (.tmp 9) (by kernel_rfl) A s (by kernel_rfl) (by kernel_rfl)) B2 ?_
 clear hW2
 refine stB 4 rfl (concat_any [A,s] T HTT.out _ 2 rfl _ NB (by simp) (by have:=HTS.out;omega)) B2 fun W3 B3=>?_
 clear B2
 refine stF 5 (.string T) rfl B3 (stF 6 (.int .i64 0) rfl B3 ?_)
 refine aG (by kernel_rfl) ?_
 go_wp2_with fail
 exact aP 2 3 (.string T) (.int .i64 0) (by kernel_rfl) (by kernel_rfl) (by kernel_rfl) (by kernel_rfl) ⟨rfl,by have q:=HBV.out.trans (B3.mono HBV.out.size);first | exact q | (rw [HB0.out];exact q)⟩
theorem EncodeRemove_f (s:ByteArray) (hs:s.size≤9223372036854775807) (hm:¬(1≤s.size∧s.size≤37)) (w:World):
  Calls Tryz.prog 84 #[.agg (rmv s)] w (Rt w (lU s)):=by
 rw [encRV_f s hm]
 have HC:=Lh (Blk.new w 35 (rmv s))
 have HB:=Lh ((Below.refl _ w).alloc (Nat.le_refl _) (.cells (rmv s) 35))
 have HM:=Lh hm
 clear hm
 go_enter Tryz.func84,Tryz.ntmps84
 go_wp2_with (refine wpList_load_row rfl 35 _ rfl w.heap.size rfl 35 (rmv s) (0,0) _ ?_ Tryz.underlying35 rfl jW ?_;exact HC.out)
 refine (validRemove_any s _ hs).mono ?_
 rintro e V ⟨rfl,bv⟩
 rw [decide_eq_false HM.out]
 have HBV:=Lh (HB.out.trans (bv.mono HB.out.size))
 clear bv
 go_wp2_with fail
 exact aP 2 3 (.string ⟨#[]⟩) (.int .i64 2) rfl rfl rfl rfl ⟨rfl,HBV.out⟩
theorem EncodeRemove_any (s:ByteArray) (hs:s.size≤9223372036854775807) (w:World):
  Calls Tryz.prog 84 #[.agg (rmv s)] w (Rt w (lU s)):=by
 by_cases hm:1≤s.size∧s.size≤37
 ·exact EncodeRemove_t s hm w
 ·exact EncodeRemove_f s hs hm w
open Go.ChangeShapes Go.WideShapes Go.ChangeAt Go.RowKit
open Go.ChangeShapes Go.WideShapes Go.ChangeAt Go.RowKit
theorem aY {P:Program} {fn:Func} {p t:Tmp} {ty:TypeId} (h:fn.results=#[.cell p ty,.tmp t]) (tmps:Array Value) (w:World) (g:Nat) (t':TypeId) (cs:Array Value) (fr:Nat×Nat) (d:TypeDesc)
  (hp:tmps.getD p undef= .pointer (some ⟨g,0,none⟩)) (hg:w.heap[g]?=some (.cells cs t' fr))
  (hu:P.underlying ty=some d) (hd:(match d with | .struct _ | .array _ _=>true | _=>false)=true) (hi:(P.info? ty).map (·.size)=some cs.size):
  (results fn tmps).run P w= .ok (.tuple #[.agg cs,tmps.getD t undef]) w:=by
 have hp':tmps[p]?.getD undef= .pointer (some ⟨g,0,none⟩):=by simpa using hp
 simp [results,h,hp',asAddr,run_loadVar_row w g t' ty cs fr d hg hu hd hi]
theorem below_setRow {B:Nat} {w W:World} {g:Nat} (h:Below B w W) (hg:B≤g) (cs:Array Value):Below B w (W.setRow g cs):=
 h.trans ⟨rfl,rfl,rfl,by simp,fun k hk=>setRow_other W g k cs fun e=>by omega⟩
structure Fl (w W:World) (r d g X:Nat) (k p m:Nat) (T:ByteArray) (cs:Array Value):Prop where
 z:Blk W r 33 (adv .zero)
 pd:Blk W d 199 #[.int .i64 (k:Int),.int .i64 (p:Int),.int .i64 (m:Int)]
 box:Blk W g 9 #[.string T]
 x:Blk W X 33 cs
 b:Below w.heap.size w W
 le:w.heap.size≤r∧w.heap.size≤g∧w.heap.size≤X
 ne:r≠g∧r≠X∧d≠g∧d≠X∧g≠X
namespace Fl
variable {w W W':World} {r d g X k p m:Nat} {T T':ByteArray} {cs:Array Value}
theorem below (h:Fl w W r d g X k p m T cs) (q:Below W.heap.size W W'):Fl w W' r d g X k p m T cs:=⟨h.z.below q h.z.lt,h.pd.below q h.pd.lt,h.box.below q h.box.lt,h.x.below q h.x.lt,h.b.trans (q.mono h.b.size),h.le,h.ne⟩
theorem take (h:Fl w W r d g X k p m T cs) (q:W.grownBy W' (some g)) (hT:Blk W' g 9 #[.string T']):Fl w W' r d g X k p m T' cs:=
 ⟨h.z.grown q (by have:=h.ne.1;simpa using this),h.pd.grown q (by have:=h.ne.2.2.1;simpa using this),hT,h.x.grown q (by have:=h.ne.2.2.2.2;simpa using this.symm),h.b.trans (aB q h.le.2.1 h.b.size),h.le,h.ne⟩
theorem set (h:Fl w W r d g X k p m T cs) (i:Nat) (v:Value):Fl w (W.setCell ⟨X,i,none⟩ v) r d g X k p m T (cs.setIfInBounds i v):=
 ⟨h.z.same (Below.heap_setCell W ⟨X,i,none⟩ v r h.ne.2.1),h.pd.same (Below.heap_setCell W ⟨X,i,none⟩ v d h.ne.2.2.2.1),h.box.same (Below.heap_setCell W ⟨X,i,none⟩ v g h.ne.2.2.2.2),h.x.fJ i v,h.b.setCell h.le.2.2 _,h.le,h.ne⟩
end Fl
end Go.Proofs.YtklakghlliihkaaGreatDoor.L12
