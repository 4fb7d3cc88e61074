/- AllAddr. -/
import Derived.Test.YtnlhhjhidkjlbaaGreatDoorAllBase
import Derived.Test.YtnlhhjhidkjlbaaGreatDoorJoin
import Derived.Great.BuildSlice
import Derived.Laws.Rows
import Derived.Maps.OwnSet
import Derived.LoopN
set_option maxHeartbeats 4000000
set_option maxRecDepth 100000
set_option linter.unusedVariables false
set_option linter.unusedSimpArgs false
namespace Go.Proofs.YtnlhhjhidkjlbaaGreatDoor.L12
theorem iE (a:ByteArray):(⟨#[]⟩:ByteArray)++a=a:=by apply ByteArray.ext;rw [ByteArray.data_append];simp
theorem iP (m n:Nat):(txt (be m n)).size=m:=by rw [aU,aS]
theorem byte_of (n:Nat) (h:n < 256):(UInt8.ofNat n).toNat=n:=by rw [UInt8.toNat_ofNat'];exact Nat.mod_eq_of_lt h
theorem empty_of (s:ByteArray) (h:s.size=0):s=⟨#[]⟩:=ByteArray.ext (Array.eq_empty_of_size_eq_zero h)
def dN (e:Bool):Nat:=if e then 0 else 8
def portOf (h:Bool):Nat:=if h then 2 else 0
def fst (e:Bool):Nat:=if e then 49 else 48
theorem fst_le (e:Bool):fst e≤255:=by cases e<;>decide
structure Ad where
 echo:Bool
 id:Int
 ip:ByteArray
 hp:Bool
 port:Int
 mac:ByteArray
namespace Ad
theorem uM {x y:Ad} (h0:x.echo=y.echo) (h1:x.id=y.id) (h2:x.ip=y.ip) (h3:x.hp=y.hp) (h4:x.port=y.port) (h5:x.mac=y.mac):x=y:=by
 cases x;cases y;simp_all
structure Ok (x:Ad):Prop where
 id: -9223372036854775808≤x.id∧x.id≤9223372036854775807
 ip:x.ip.size≤9223372036854775000
 port: -9223372036854775808≤x.port∧x.port≤9223372036854775807
 mac:x.mac.size≤9223372036854775000
abbrev May (x:Ad):Prop:=(0≤x.id∧x.id≤255)∧(x.ip.size=4∨x.ip.size=16)∧(0≤x.port∧x.port≤65535)∧(x.hp=true∨x.port=0)∧x.mac.size=dN x.echo
def qW (x:Ad):List UInt8:=if x.hp then be 2 x.port.toNat else []
theorem iK (x:Ad):x.qW.length=portOf x.hp:=by unfold qW portOf;split<;>simp [aS]
def rest (x:Ad):List UInt8:=x.ip.data.toList++x.qW++x.mac.data.toList
def body (x:Ad):List UInt8:=UInt8.ofNat (fst x.echo)::UInt8.ofNat x.id.toNat::x.rest
def size (x:Ad):Nat:=2+x.ip.size+portOf x.hp+x.mac.size
theorem kL (x:Ad):x.rest.length+2=x.size:=by
 unfold rest size
 simp only [List.length_append,bG,iK];omega
theorem jQ (x:Ad):x.body.length=x.size:=by rw [←kL];rfl
def zero:Ad:=⟨false,0,⟨#[]⟩,false,0,⟨#[]⟩⟩
theorem jT:zero.Ok:=⟨by decide,by decide,by decide,by decide⟩
def enc (x:Ad):ByteArray×Int:=if x.May then (txt x.body,0) else (⟨#[]⟩,2)
theorem o6 (x:Ad) (h:x.May):x.enc=(txt x.body,0):=if_pos h
theorem rH (x:Ad) (h:¬x.May):x.enc=(⟨#[]⟩,2):=if_neg h
theorem size_le (x:Ad) (h:x.May):x.size≤28:=by
 obtain ⟨_,h2,_,_,h5⟩:=h
 unfold size;rw [h5]
 have:portOf x.hp≤2:=by cases x.hp<;>decide
 have:dN x.echo≤8:=by cases x.echo<;>decide
 omega
end Ad
def shape (n:Nat) (e:Bool):Option (Nat×Bool):=if n=6+dN e then some (4,false) else if n=8+dN e then some (4,true) else if n=18+dN e then some (16,false) else if n=20+dN e then some (16,true) else none
theorem shape_of (k:Nat) (h:Bool) (e:Bool) (hk:k=4∨k=16):shape (2+k+portOf h+dN e) e=some (k,h):=by
 rcases hk with rfl | rfl<;>cases h<;>cases e<;>rfl
theorem shape_cases (n:Nat) (e:Bool) (k:Nat) (h:Bool) (hs:shape n e=some (k,h)):(k=4∨k=16)∧n=2+k+portOf h+dN e:=by
 unfold shape at hs
 split at hs
 ·cases hs;exact ⟨.inl rfl,by simp [portOf];omega⟩
 split at hs
 ·cases hs;exact ⟨.inl rfl,by simp [portOf];omega⟩
 split at hs
 ·cases hs;exact ⟨.inr rfl,by simp [portOf];omega⟩
 split at hs
 ·cases hs;exact ⟨.inr rfl,by simp [portOf];omega⟩
 ·cases hs
def nJ (e:Bool) (d:Nat) (r:List UInt8) (k:Nat) (h:Bool):Ad:=⟨e,(d:Int),txt (r.take k),h,(num (txt r) k (portOf h):Int),txt (r.drop (k+portOf h))⟩
abbrev dB (s:ByteArray):List UInt8:=s.data.toList.drop 2
def odd (c:Nat):Bool:=decide (c%2=1)
def gQ (s:ByteArray):Ad×Int:=if s.size=0 then (.zero,4) else if byteAt s 0 / 16≠3 then (.zero,7) else match shape s.size (odd (byteAt s 0)) with
 | none=>(.zero,5)
 | some (k,h)=>(nJ (odd (byteAt s 0)) (byteAt s 1) (dB s) k h,0)
theorem vN (s:ByteArray) (h:s.size=0):gQ s=(.zero,4):=if_pos h
theorem xY (s:ByteArray) (h:s.size≠0) (k:byteAt s 0 / 16≠3):gQ s=(.zero,7):=by unfold gQ;rw [if_neg h,if_pos k]
theorem uG (s:ByteArray) (h:s.size≠0) (k:byteAt s 0 / 16=3) (g:shape s.size (odd (byteAt s 0))=none):gQ s=(.zero,5):=by unfold gQ;rw [if_neg h,if_neg (fun n=>n k),g]
theorem jA (s:ByteArray) (m:Nat) (p:Bool) (h:s.size≠0) (k:byteAt s 0 / 16=3) (g:shape s.size (odd (byteAt s 0))=some (m,p)):gQ s=(nJ (odd (byteAt s 0)) (byteAt s 1) (dB s) m p,0):=by unfold gQ;rw [if_neg h,if_neg (fun n=>n k),g]
def encR (ids:ByteArray):ByteArray×Int:=if 1≤ids.size∧ids.size≤37 then (txt (64::ids.data.toList),0) else (⟨#[]⟩,2)
theorem rY (ids:ByteArray) (h:1≤ids.size∧ids.size≤37):encR ids=(txt (64::ids.data.toList),0):=if_pos h
theorem yQ (ids:ByteArray) (h:¬(1≤ids.size∧ids.size≤37)):encR ids=(⟨#[]⟩,2):=if_neg h
abbrev zH (s:ByteArray):ByteArray:=txt (s.data.toList.drop 1)
def fF (s:ByteArray):ByteArray×Int:=if s.size=0 then (⟨#[]⟩,4) else if byteAt s 0 / 16≠4 then (⟨#[]⟩,7) else if 2≤s.size∧s.size≤38 then (zH s,0) else (⟨#[]⟩,5)
theorem oC (s:ByteArray) (h:s.size=0):fF s=(⟨#[]⟩,4):=if_pos h
theorem pI (s:ByteArray) (h:s.size≠0) (k:byteAt s 0 / 16≠4):fF s=(⟨#[]⟩,7):=by unfold fF;rw [if_neg h,if_pos k]
theorem decR_t (s:ByteArray) (k:byteAt s 0 / 16=4) (g:2≤s.size∧s.size≤38):fF s=(zH s,0):=by unfold fF;rw [if_neg (by omega),if_neg (fun n=>n k),if_pos g]
theorem decR_f (s:ByteArray) (h:s.size≠0) (k:byteAt s 0 / 16=4) (g:¬(2≤s.size∧s.size≤38)):fF s=(⟨#[]⟩,5):=by unfold fF;rw [if_neg h,if_neg (fun n=>n k),if_neg g]
theorem one_size (u:UInt8) (l:List UInt8):(txt (u::l)).size=l.length+1:=by rw [aU];rfl
theorem one_after (u:UInt8) (l:List UInt8):zH (txt (u::l))=txt l:=rfl
theorem decR_first (ids:ByteArray) (u:UInt8) (hu:u.toNat / 16=4) (h:1≤ids.size∧ids.size≤37):fF (txt (u::ids.data.toList))=(ids,0):=by
 have:=decR_t (txt (u::ids.data.toList)) hu (by rw [one_size,bG];omega)
 rw [this,one_after];rfl
theorem mW (u v:UInt8) (r:List UInt8):(txt (u::v::r)).size=r.length+2:=by rw [aU];rfl
theorem yR (u v:UInt8) (r:List UInt8):byteAt (txt (u::v::r)) 0=u.toNat:=rfl
theorem two_1 (u v:UInt8) (r:List UInt8):byteAt (txt (u::v::r)) 1=v.toNat:=rfl
theorem two_after (u v:UInt8) (r:List UInt8):dB (txt (u::v::r))=r:=rfl
theorem two_dec (u v:UInt8) (r:List UInt8) (h:u.toNat / 16=3) (m:Nat) (p:Bool) (g:shape (r.length+2) (odd u.toNat)=some (m,p)):gQ (txt (u::v::r))=(nJ (odd u.toNat) v.toNat r m p,0):=
 jA _ m p (by rw [mW];omega) (by rw [yR];exact h) (by rw [mW,yR];exact g)
theorem two_of (s:ByteArray) (h:2≤s.size):∃u v r,s=txt (u::v::r)∧r.length+2=s.size:=by
 have hl:s.data.toList.length=s.size:=bG s
 match e:s.data.toList,hl with
 | u::v::r,hl=>exact ⟨u,v,r,by rw [←e];rfl,hl⟩
 | [],hl=>simp at hl;omega
 | [u],hl=>simp at hl;omega
theorem fst_byte (e:Bool):(UInt8.ofNat (fst e)).toNat=fst e:=by cases e<;>rfl
theorem fst_kind (e:Bool):fst e / 16=3:=by cases e<;>rfl
theorem fst_odd (e:Bool):odd (fst e)=e:=by cases e<;>rfl
theorem zS (x : Ad) (hm : x.May) (d : Nat) (hd : (d : Int) = x.id) : nJ x.echo d x.rest x.ip.size x.hp = x := by
  obtain ⟨_, _, hp, hz, _⟩ := hm
  have hl : x.ip.data.toList.length = x.ip.size := bG _
  refine Ad.uM rfl hd ?_ rfl ?_ ?_
  · show txt (x.rest.take x.ip.size) = x.ip
    unfold Ad.rest
    rw [List.append_assoc, List.take_append_of_le_length (by omega), List.take_of_length_le (by omega)]; rfl
  · show (num (txt x.rest) x.ip.size (portOf x.hp) : Int) = x.port
    cases e : x.hp
    · have h0 : x.port = 0 := by rcases hz with h | h
                                 · rw [e] at h; cases h
                                 · exact h
      rw [h0]; rfl
    · have hr : x.rest = x.ip.data.toList ++ be 2 x.port.toNat ++ x.mac.data.toList := by unfold Ad.rest Ad.qW; rw [e]; rfl
      rw [hr, show portOf true = 2 from rfl, dY _ _ _ _ _ hl]
      omega
  · show txt (x.rest.drop (x.ip.size + portOf x.hp)) = x.mac
    unfold Ad.rest
    rw [List.drop_append_of_le_length (by rw [List.length_append, hl, x.iK]; omega), List.drop_of_length_le (by rw [List.length_append, hl, x.iK]; omega)]; rfl
theorem wY (x:Ad) (hm:x.May) (u v:UInt8) (hu:u.toNat / 16=3) (ho:odd u.toNat=x.echo) (hv:(v.toNat:Int)=x.id):gQ (txt (u::v::x.rest))=(x,0):=by
 have hs:shape (x.rest.length+2) (odd u.toNat)=some (x.ip.size,x.hp):=by
  rw [x.kL,ho,←shape_of x.ip.size x.hp x.echo hm.2.1,←hm.2.2.2.2];rfl
 rw [two_dec u v x.rest hu _ _ hs,ho,zS x hm _ hv]
theorem oK (x:Ad) (hm:x.May):gQ (txt x.body)=(x,0):=by
 have:=hm.1
 exact wY x hm _ _ (by rw [fst_byte];exact fst_kind _) (by rw [fst_byte];exact fst_odd _) (by rw [byte_of _ (by omega)];omega)
open Go.ChangeShapes Go.WideShapes Go.ChangeAt Go.RowKit
abbrev adv (x:Ad):Array Value:=#[.bool x.echo,.int .i64 x.id,.string x.ip,.bool x.hp,.int .i64 x.port,.string x.mac]
abbrev rmv (s:ByteArray):Array Value:=#[.string s]
theorem aW:(Tryz.prog.info? 32).map (·.size)=some 6:=by kernel_rfl
theorem lV (x:Ad):(adv x).all (·.oneCell')=true:=by simp [Value.oneCell']
theorem dQ:(Tryz.prog.info? 34).map (·.size)=some 1:=by kernel_rfl
theorem kZ (s:ByteArray):(rmv s).all (·.oneCell')=true:=by simp [Value.oneCell']
def aeq (x y:Ad):Bool:=x.echo==y.echo && (x.id==y.id && (x.ip.toList==y.ip.toList && (x.hp==y.hp && (x.port==y.port && (x.mac.toList==y.mac.toList)))))
theorem str_iff (a b:ByteArray):a.toList=b.toList↔a=b:=by
 rw [ByteArray.toList_eq,ByteArray.toList_eq]
 exact ⟨fun h=>ByteArray.ext (Array.toList_inj.1 h),fun h=>by rw [h]⟩
theorem aeq_iff (x y:Ad):aeq x y=true↔x=y:=by
 unfold aeq
 simp only [Bool.and_eq_true,beq_iff_eq]
 constructor
 ·rintro ⟨h0,h1,h2,h3,h4,h5⟩
  exact Ad.uM h0 h1 ((str_iff _ _).1 h2) h3 h4 ((str_iff _ _).1 h5)
 ·rintro rfl
  exact ⟨rfl,rfl,rfl,rfl,rfl,rfl⟩
instance : DecidableEq Ad:=fun x y=>decidable_of_iff (aeq x y=true) (aeq_iff x y)
theorem iZ (e:Bool) (w:World):
  Calls Tryz.prog 135 #[.bool e] w fun e' w'=>e'= .returned (.int .i64 (dN e:Int))∧Below w.heap.size w w':=by
 cases e
 all_goals
  go_enter Tryz.func135,Tryz.ntmps135
  go_wp2
  go_ret;exact ⟨rfl,Below.refl _ _⟩
theorem oQ (x:Ad) (w:World):
  Calls Tryz.prog 131 #[.agg (adv x)] w (Rt w (.int .u8 (fst x.echo:Int))):=by
 obtain ⟨echo,id,ip,hp,port,mac⟩:=x
 cases echo
 all_goals
  go_enter Tryz.func131,Tryz.ntmps131
  go_wp2
  go_ret;exact ⟨rfl,(Below.refl _ _).alloc (Nat.le_refl _) _⟩
theorem conv_i64_u16 (n:Int) (u:Nat) (h:n%65536=(u:Int)) (w:World):(convert 3 23 (.int .i64 n)).run Tryz.prog w= .ok (.int .u16 (u:Int)) w:=by
 rw [run_convert_int w 3 23 .i64 _ (by kernel_rfl) (by kernel_rfl),show Tryz.prog.intKind 23= .u16 by kernel_rfl,show IntKind.u16.wrap n=n%65536 by simp [IntKind.wrap,IntKind.bits,IntKind.signed],h]
theorem portOf_any (x:Ad) (hm:0≤x.port∧x.port≤65535) (T:ByteArray) (hT:T=txt x.qW) (w:World):
  Calls Tryz.prog 132 #[.agg (adv x)] w (Rt w (.string T)):=by
 obtain ⟨echo,id,ip,hp,port,mac⟩:=x
 have HB:=Lh ((Below.refl _ w).alloc (Nat.le_refl _) (.cells (adv ⟨echo,id,ip,hp,port,mac⟩) 32))
 cases hp
 ·have HT:=Lh (show T=⟨#[]⟩ from hT)
  clear hT
  go_enter Tryz.func132,Tryz.ntmps132
  go_wp2_with fail
  go_ret;exact ⟨by rw [HT.out];rfl,HB.out⟩
 ·obtain ⟨n,rfl⟩:=Int.eq_ofNat_of_zero_le hm.1
  have HT:=Lh (show (⟨#[]⟩:ByteArray)++⟨(be 2 n).toArray⟩=T by rw [iE,hT];rfl)
  have hn:n≤65535:=by have:=hm.2;simp only at this;omega
  have hc:=conv_i64_u16 (n:Int) n (by omega)
  clear hT hm
  go_enter Tryz.func132,Tryz.ntmps132
  go_wp2_with fail
  refine (answer (xJ ⟨#[]⟩ n _ (by decide) hn) (congrArg Value.string HT.out)).mono ?_
  rintro e w1 ⟨rfl,b1⟩
  go_wp2_with fail
  go_ret;exact ⟨rfl,bM HB.out b1⟩
def chk (s:ByteArray) (k:Nat):Int:=if s.size=0 then 4 else if byteAt s 0 / 16=k then 0 else 7
theorem fP (s:ByteArray) (k:Nat) (hk:k≤255) (w:World) (hs:s.size≤9223372036854775807):
  Calls Tryz.prog 133 #[.string s,.int .u8 (k:Int)] w (Rt w (.int .i64 (chk s k))):=by
 by_cases h0:s.size=0
 ·rw [show chk s k=4 by unfold chk;rw [if_pos h0]]
  go_enter Tryz.func133,Tryz.ntmps133
  go_wp2
  go_ret;exact ⟨rfl,Below.refl _ _⟩
 ·have hg:=bD s 0 (by omega)
  have h0':0 < s.size:=by omega
  obtain ⟨c,hc⟩:∃c:Nat,c=s[0].toNat:=⟨_,rfl⟩
  have hb:c < 256:=by rw [hc];exact s[0].toNat_lt
  rw [←hc] at hg
  by_cases h:c / 16=k
  ·rw [show chk s k=0 by unfold chk;rw [if_neg h0,hg,if_pos h]]
   have hq:(s[0].toNat:Int) / 16=(k:Int):=by rw [←hc];omega
   clear hg
   go_enter Tryz.func133,Tryz.ntmps133
   go_wp2
   go_ret;exact ⟨rfl,Below.refl _ _⟩
  ·rw [show chk s k=7 by unfold chk;rw [if_neg h0,hg,if_neg h]]
   have hq:¬(s[0].toNat:Int) / 16=(k:Int):=by rw [←hc];omega
   clear hg
   go_enter Tryz.func133,Tryz.ntmps133
   go_wp2
   go_ret;exact ⟨rfl,Below.refl _ _⟩
theorem jY (s:ByteArray) (w:World) (hs:s.size≤9223372036854775807):
  Calls Tryz.prog 139 #[.agg (rmv s)] w (Rt w (.bool (decide (1≤s.size∧s.size≤37)))):=by
 by_cases h1:(1:Int)≤(s.size:Int)
 ·by_cases h2:(s.size:Int)≤37
  ·rw [decide_eq_true (p:=1≤s.size∧s.size≤37) (by omega)]
   go_enter Tryz.func139,Tryz.ntmps139
   go_wp2
   go_ret;exact ⟨rfl,(Below.refl _ _).alloc (Nat.le_refl _) _⟩
  ·rw [decide_eq_false (p:=1≤s.size∧s.size≤37) (by omega)]
   go_enter Tryz.func139,Tryz.ntmps139
   go_wp2
   go_ret;exact ⟨rfl,(Below.refl _ _).alloc (Nat.le_refl _) _⟩
 ·rw [decide_eq_false (p:=1≤s.size∧s.size≤37) (by omega)]
  go_enter Tryz.func139,Tryz.ntmps139
  go_wp2
  go_ret;exact ⟨rfl,(Below.refl _ _).alloc (Nat.le_refl _) _⟩
theorem join_none (xs:List (List UInt8)):Lib.join xs []=xs.flatten:=by
 cases xs with
 | nil=>rfl
 | cons x r=>rw [Lib.join_cons,Lib.joinTail];simp
theorem concat_any (xs:List ByteArray) (T:ByteArray) (hT:T.data.toList=(xs.map (·.data.toList)).flatten) (bk n:Nat) (hn:n=xs.length) (w:World) (hb:Blk w bk 9 (xs.map Value.string).toArray) (hx:xs.length≤140737488355328) (hz:T.size≤140737488355328):
  Calls Tryz.prog 129 #[.slice (some ⟨bk,0,none⟩) n n] w (Rt w (.string T)):=by
 subst hn
 have hj:Lib.join (xs.map (·.data.toList)) (⟨#[]⟩:ByteArray).data.toList=T.data.toList:=(join_none _).trans hT.symm
 have c:=Tryz.strings_Join bk 0 xs.length xs ⟨#[]⟩ w (fun j x h=>by rw [Nat.zero_add,hb.cell j];simp [h]) hb.lt hx (Nat.le_refl _) (by rw [hj,bG];exact hz)
 rw [hj,show (⟨T.data.toList.toArray⟩:ByteArray)=T by apply ByteArray.ext;simp] at c
 have HC:=Lh c
 clear c hb hj hT
 go_enter Tryz.func129,Tryz.ntmps129
 go_wp2_with fail
 refine HC.out.mono ?_
 rintro e w1 ⟨rfl,b1⟩
 go_wp2_with fail
 go_ret;exact ⟨rfl,b1⟩
theorem texts_built (xs:List ByteArray) (h0:0 < xs.length) (h1:xs.length≤100) (parts:Array (Nat×Value)) (hp:parts.toList=((xs.map Value.string).zipIdx 0).map fun x=>(x.2,x.1)) (w:World):
  (Instr.buildSlice 253 xs.length parts).run Tryz.prog w= .ok (.slice (some ⟨w.heap.size,0,none⟩) xs.length xs.length) (w.alloc (.cells (xs.map Value.string).toArray 9)):=by
 have sz:(Tryz.prog.info? 9).map (·.size)=some 1:=by kernel_rfl
 have ze:(Tryz.prog.info? 9).map (·.zero.isSome)=some true:=by kernel_rfl
 obtain ⟨ie,hi⟩:∃ie,Tryz.prog.info? 9=some ie:=(Option.map_eq_some_iff.1 sz).imp fun _ h=>h.1
 rw [hi] at sz ze
 have s1:ie.size=1:=Option.some.inj sz
 obtain ⟨z,hz⟩:=Option.isSome_iff_exists.1 (Option.some.inj ze)
 have flat:=Great.fill_flat (xs.map Value.string) ((Array.range (xs.length * 1)).map (z.cells[·%z.cells.size]!)) (fun v hv=>by obtain ⟨x,_,rfl⟩:=List.mem_map.1 hv;rfl) (by simp)
 exact run_buildSlice w _ _ xs.length parts _ ie z (by kernel_rfl) hi hz (by rw [s1];omega) (by rw [s1];omega) (by rw [hp,s1];exact flat)
theorem ex_build2 {ρ:Operand→Value} {o:Oper} {w:World} (x y:Operand) (ho:o.op= .buildSlice 253 2 #[(0,x),(1,y)]) (a b:ByteArray) (hx:ρ x= .string a) (hy:ρ y= .string b):
  (execOp ρ o).run Tryz.prog w= .ok (.value (.slice (some ⟨w.heap.size,0,none⟩) 2 2)) (w.alloc (.cells ([a,b].map Value.string).toArray 9)):=by
 have h:=texts_built [a,b] (by simp) (by simp) #[(0,.string a),(1,.string b)] (by simp [List.zipIdx]) w
 simp only [List.length_cons,List.length_nil] at h
 unfold execOp
 rw [ho]
 simp [hx,hy,h]
theorem ex_build5 {ρ:Operand→Value} {o:Oper} {w:World} (x y z u v:Operand) (ho:o.op= .buildSlice 253 5 #[(0,x),(1,y),(2,z),(3,u),(4,v)]) (a b c d e:ByteArray) (hx:ρ x= .string a) (hy:ρ y= .string b) (hz:ρ z= .string c) (hu:ρ u= .string d) (hv:ρ v= .string e):
  (execOp ρ o).run Tryz.prog w= .ok (.value (.slice (some ⟨w.heap.size,0,none⟩) 5 5)) (w.alloc (.cells ([a,b,c,d,e].map Value.string).toArray 9)):=by
 have h:=texts_built [a,b,c,d,e] (by simp) (by simp) #[(0,.string a),(1,.string b),(2,.string c),(3,.string d),(4,.string e)] (by simp [List.zipIdx]) w
 simp only [List.length_cons,List.length_nil] at h
 unfold execOp
 rw [ho]
 simp [hx,hy,hz,hu,hv,h]
open Go.ChangeShapes Go.WideShapes Go.ChangeAt Go.RowKit Go.Maps
theorem insert_as {P:Program} {w:World} {ops:Array Oper} {rest:List Oper} {o:Oper} {a:Act} {Q:Exit→Act→World→Prop} (t:TypeId) (m x v:Operand) (hop:o.op=Op.insert t m x v) (h:wpList P ops Q ({ o with op:=Op.mapUpdate t m x v }::rest) a w):wpList P ops Q (o::rest) a w:=by
 obtain ⟨dst,op,type,pos,after,guard⟩:=o
 have hop:op=Op.insert t m x v:=hop
 subst hop
 exact h
abbrev part (a p m:Int):Value:=.agg #[.int .i64 a,.int .i64 p,.int .i64 m]
abbrev partD (a p m:Int):DataW Unit:=.agg [.lit (.int .i64 a),.lit (.int .i64 p),.lit (.int .i64 m)]
def partR:Value→Option (DataW Unit×List MemPlace)
 | .agg ⟨[.int .i64 a,.int .i64 p,.int .i64 m]⟩=>some (partD a p m,[])
 | _=>none
theorem partR_mk (a p m:Int):partR (part a p m)=some (partD a p m,[]):=rfl
theorem partR_inv {v:Value} {z:DataW Unit×List MemPlace} (h:partR v=some z):∃a p m,v=part a p m∧z=(partD a p m,[]):=by
 unfold partR at h
 split at h
 ·rename_i a p m
  cases h;exact ⟨a,p,m,rfl,rfl⟩
 ·cases h
theorem keys_int:Keyed Tryz.prog 3:=int_keyed Tryz.underlying3
theorem zero_parts (w:World):(zeroValue 190).run Tryz.prog w= .ok (part 0 0 0) w:=by kernel_rfl
abbrev ent (n a p m:Int) (D:DataW Unit):DataW Unit:=D.put (.int .i64 n) (partD a p m)
def tableD:DataW Unit:=ent 28 16 2 8 (ent 26 16 0 8 (ent 20 16 2 0 (ent 18 16 0 0 (ent 16 4 2 8 (ent 14 4 0 8 (ent 8 4 2 0 (ent 6 4 0 0 (.map []))))))))
def sizes (n:Nat):(Nat×Nat×Nat)×Bool:=if n=6 then ((4,0,0),true) else if n=8 then ((4,2,0),true) else if n=14 then ((4,0,8),true) else if n=16 then ((4,2,8),true) else if n=18 then ((16,0,0),true) else if n=20 then ((16,2,0),true) else if n=26 then ((16,0,8),true) else if n=28 then ((16,2,8),true) else ((0,0,0),false)
theorem table_at (n:Nat):tableD.atKey (.int .i64 (n:Int)) (partD 0 0 0)=partD ((sizes n).1.1:Int) ((sizes n).1.2.1:Int) ((sizes n).1.2.2:Int)∧Maps.has tableD (.int .i64 (n:Int))=(sizes n).2:=by
 by_cases h6:n=6
 ·subst h6;exact ⟨rfl,rfl⟩
 by_cases h8:n=8
 ·subst h8;exact ⟨rfl,rfl⟩
 by_cases h14:n=14
 ·subst h14;exact ⟨rfl,rfl⟩
 by_cases h16:n=16
 ·subst h16;exact ⟨rfl,rfl⟩
 by_cases h18:n=18
 ·subst h18;exact ⟨rfl,rfl⟩
 by_cases h20:n=20
 ·subst h20;exact ⟨rfl,rfl⟩
 by_cases h26:n=26
 ·subst h26;exact ⟨rfl,rfl⟩
 by_cases h28:n=28
 ·subst h28;exact ⟨rfl,rfl⟩
 have hs:sizes n=((0,0,0),false):=by unfold sizes;simp only [h6,h8,h14,h16,h18,h20,h26,h28,if_false]
 have ne:∀k:Int,(n:Int)≠k→(Lit.int .i64 (n:Int))≠ .int .i64 k:=fun k h e=>by
  injection e with _ e;exact h e
 rw [hs]
 unfold tableD ent
 constructor
 ·rw [atKey_put_other (ne 28 (by omega)),atKey_put_other (ne 26 (by omega)),atKey_put_other (ne 20 (by omega)),atKey_put_other (ne 18 (by omega)),atKey_put_other (ne 16 (by omega)),atKey_put_other (ne 14 (by omega)),atKey_put_other (ne 8 (by omega)),atKey_put_other (ne 6 (by omega))];rfl
 ·rw [has_put_other (ne 28 (by omega)),has_put_other (ne 26 (by omega)),has_put_other (ne 20 (by omega)),has_put_other (ne 18 (by omega)),has_put_other (ne 16 (by omega)),has_put_other (ne 14 (by omega)),has_put_other (ne 8 (by omega)),has_put_other (ne 6 (by omega))];rfl
def TabB (w:World) (b:Nat):Prop:=w.ownsMap Tryz.prog 3 partR b 8 tableD
theorem TabB.look {w:World} {b:Nat} (h:TabB w b) (n:Nat) (hn:n≤9223372036854775807):
  (Instr.lookup 192 (.map (some b)) (.int .i64 (n:Int)) true).run Tryz.prog w= .ok (.tuple #[part ((sizes n).1.1:Int) ((sizes n).1.2.1:Int) ((sizes n).1.2.2:Int),.bool (sizes n).2]) w:=by
 obtain ⟨v,ps,hrun,hv⟩:=World.ownsMap.look_ok h keys_int Tryz.underlying192 (zero_parts w) (partR_mk 0 0 0) (keyOf_int_mk Tryz.underlying3 (a:=(n:Int)) (WalkArith.wf_i64 (by omega)))
 obtain ⟨a,p,m,rfl,hz⟩:=partR_inv hv
 obtain ⟨t1,t2⟩:=table_at n
 rw [t1] at hz
 rw [hrun,t2]
 simp only [Prod.mk.injEq,DataW.agg.injEq,List.cons.injEq,DataW.lit.injEq,Lit.int.injEq,true_and,and_true] at hz
 obtain ⟨⟨e0,e1,e2⟩,_⟩:=hz
 rw [e0,e1,e2]
theorem nC (w:World):
  Calls Tryz.prog 134 #[] w fun e w'=>e= .returned (.map (some w.heap.size))∧TabB w' w.heap.size∧Below w.heap.size w w':=by
 have hmm:=@run_makeMap Tryz.prog
 have keys:=keys_int
 have hown:=World.ownsMap_made w Tryz.prog 3 partR
 have hbel:=(Below.refl _ w).alloc (Nat.le_refl _) (.map #[] 0)
 go_enter Tryz.func134,Tryz.ntmps134
 go_wp2_with (refine insert_as _ _ _ _ rfl ?_;refine wpList_mapUpdate_own _ rfl _ _ _ 192 rfl 3 190 keys Tryz.underlying192 partR w.heap.size _ _ rfl hown (by unfold maxLen;omega) _ _ _ rfl rfl (keyOf_int_mk Tryz.underlying3 (by decide)) _ [] (partR_mk _ _ _) ?_;intro w1 hown1 hgrow1;replace hbel:=hbel.grown hgrow1 hbel.size (fun j hj=>by cases hj;exact Nat.le_refl _);replace hown:=hown1;clear hown1 hgrow1)
 go_ret
 exact ⟨rfl,hown,hbel⟩
open Go.ChangeShapes Go.WideShapes Go.ChangeAt Go.RowKit
def eQ (x:Ad):Bool:=decide ((0:Int)≤x.id) && (decide (x.id≤(255:Int)) && ((decide ((x.ip.size:Int)=(4:Int)) || decide ((x.ip.size:Int)=(16:Int))) && (decide ((0:Int)≤x.port) && (decide (x.port≤(65535:Int)) && ((x.hp || decide (x.port=(0:Int))) && decide ((x.mac.size:Int)=(dN x.echo:Int)))))))
theorem rZ (x:Ad):eQ x=decide x.May:=by
 unfold eQ
 rw [Bool.eq_iff_iff]
 simp only [Bool.and_eq_true,Bool.or_eq_true,decide_eq_true_eq]
 unfold Ad.May
 constructor
 ·rintro ⟨a,b,c,d,e,f,g⟩;exact ⟨⟨a,b⟩,c.imp (by omega) (by omega),⟨d,e⟩,f,by omega⟩
 ·rintro ⟨⟨a,b⟩,c,⟨d,e⟩,f,g⟩;exact ⟨a,b,c.imp (by omega) (by omega),d,e,f,by omega⟩
theorem validAdd_any_ (echo:Bool) (id:Int) (ip:ByteArray) (hp:Bool) (port:Int) (mac:ByteArray) (w:World):
  Calls Tryz.prog 128 #[.agg (adv (⟨echo,id,ip,hp,port,mac⟩:Ad))] w (Rt w (.bool (eQ (⟨echo,id,ip,hp,port,mac⟩:Ad)))):=by
 obtain ⟨V,hV⟩:=eqx (w.alloc (.cells (adv (⟨echo,id,ip,hp,port,mac⟩:Ad)) 32))
 obtain ⟨b0,hb0⟩:=eqx w.heap.size
 obtain ⟨M,hM⟩:∃M,eQ (⟨echo,id,ip,hp,port,mac⟩:Ad)=M:=⟨_,rfl⟩
 have HM:=Lh hM
 rw [hM]
 have HX:=Lh (show Blk V b0 32 (adv (⟨echo,id,ip,hp,port,mac⟩:Ad)) by rw [hV,hb0];exact Blk.new _ _ _)
 have HBV:Below w.heap.size w V:=by rw [hV];exact (Below.refl _ w).alloc (Nat.le_refl _) _
 have HE:=Lh (fun (W:World) (b:Below V.heap.size V W)=>HBV.trans (b.mono HBV.size))
 have HV:=Lh hV
 have HB:=Lh hb0
 clear hV hb0 HBV hM
 go_enter Tryz.func128,Tryz.ntmps128
 go_upto_region 1 with fail
 rw [←HV.out,←HB.out]
 clear HV
 refine bZ (n:=49) rfl fun W0 B0=>?_
 refine stF 0 (.pointer (some ⟨b0,1,none⟩)) rfl B0 (stG 1 (.int .i64 id) rfl B0 (fun W b=>xLd 3 (.tmp 3) ⟨b0,1,none⟩ ((HX.out.below b HX.out.lt).cell 1)) ?_)
 rcases Bool.eq_false_or_eq_true (decide ((0:Int)≤(id:Int))) with k1 | k1
 ·refine stG 2 (.bool true) rfl B0 (fun W _=>xLb .i64 3 3 (.const (.int .i64 0)) (.tmp 4) (0) (id) true (k1)) (stF 3 (.bool true) rfl B0 (stF 4 (.pointer (some ⟨b0,1,none⟩)) rfl B0 (stG 5 (.int .i64 id) rfl B0 (fun W b=>xLd 3 (.tmp 7) ⟨b0,1,none⟩ ((HX.out.below b HX.out.lt).cell 1)) ?_)))
  rcases Bool.eq_false_or_eq_true (decide ((id:Int)≤(255:Int))) with k2 | k2
  ·refine stG 6 (.bool true) rfl B0 (fun W _=>xLb .i64 3 3 (.tmp 8) (.const (.int .i64 255)) (id) (255) true (k2)) (stF 7 (.bool true) rfl B0 (stF 8 (.bool true) rfl B0 (stF 9 (.pointer (some ⟨b0,2,none⟩)) rfl B0 (stG 10 (.string ip) rfl B0 (fun W b=>xLd 9 (.tmp 12) ⟨b0,2,none⟩ ((HX.out.below b HX.out.lt).cell 2)) (stF 11 (.int .i64 (ip.size:Int)) rfl B0 ?_)))))
   rcases Bool.eq_false_or_eq_true (decide ((ip.size:Int)=(4:Int))) with k3 | k3
   ·refine stG 12 (.bool true) rfl B0 (fun W _=>xEb .i64 3 3 (.tmp 14) (.const (.int .i64 4)) ((ip.size:Int)) (4) true (k3)) (stF 13 (.bool true) rfl B0 (stP 14 rfl B0 (stP 15 rfl B0 (stP 16 rfl B0 (stP 17 rfl B0 (stF 18 (.bool true) rfl B0 (stF 19 (.bool true) rfl B0 (stF 20 (.bool true) rfl B0 (stF 21 (.pointer (some ⟨b0,4,none⟩)) rfl B0 ?_)))))))))
    refine stG 22 (.int .i64 port) rfl B0 (fun W b=>xLd 3 (.tmp 24) ⟨b0,4,none⟩ ((HX.out.below b HX.out.lt).cell 4)) ?_
    rcases Bool.eq_false_or_eq_true (decide ((0:Int)≤(port:Int))) with k4 | k4
    ·refine stG 23 (.bool true) rfl B0 (fun W _=>xLb .i64 3 3 (.const (.int .i64 0)) (.tmp 25) (0) (port) true (k4)) (stF 24 (.bool true) rfl B0 (stF 25 (.bool true) rfl B0 (stF 26 (.pointer (some ⟨b0,4,none⟩)) rfl B0 (stG 27 (.int .i64 port) rfl B0 (fun W b=>xLd 3 (.tmp 29) ⟨b0,4,none⟩ ((HX.out.below b HX.out.lt).cell 4)) ?_))))
     rcases Bool.eq_false_or_eq_true (decide ((port:Int)≤(65535:Int))) with k5 | k5
     ·refine stG 28 (.bool true) rfl B0 (fun W _=>xLb .i64 3 3 (.tmp 30) (.const (.int .i64 65535)) (port) (65535) true (k5)) (stF 29 (.bool true) rfl B0 (stF 30 (.bool true) rfl B0 (stF 31 (.pointer (some ⟨b0,3,none⟩)) rfl B0 ?_)))
      rcases hp with _ | _
      ·refine stG 32 (.bool false) rfl B0 (fun W b=>xLd 4 (.tmp 34) ⟨b0,3,none⟩ ((HX.out.below b HX.out.lt).cell 3)) (stF 33 (.bool false) rfl B0 (stF 34 (.pointer (some ⟨b0,4,none⟩)) rfl B0 (stG 35 (.int .i64 port) rfl B0 (fun W b=>xLd 3 (.tmp 37) ⟨b0,4,none⟩ ((HX.out.below b HX.out.lt).cell 4)) ?_)))
       rcases Bool.eq_false_or_eq_true (decide ((port:Int)=(0:Int))) with k6 | k6
       ·refine stG 36 (.bool true) rfl B0 (fun W _=>xEb .i64 3 3 (.tmp 38) (.const (.int .i64 0)) (port) (0) true (k6)) (stF 37 (.bool true) rfl B0 (stF 38 (.bool true) rfl B0 (stF 39 (.bool true) rfl B0 (stF 40 (.pointer (some ⟨b0,5,none⟩)) rfl B0 (stG 41 (.string mac) rfl B0 (fun W b=>xLd 9 (.tmp 43) ⟨b0,5,none⟩ ((HX.out.below b HX.out.lt).cell 5)) (stF 42 (.int .i64 (mac.size:Int)) rfl B0 (stF 43 (.pointer (some ⟨b0,0,none⟩)) rfl B0 (stG 44 (.bool echo) rfl B0 (fun W b=>xLd 4 (.tmp 46) ⟨b0,0,none⟩ ((HX.out.below b HX.out.lt).cell 0)) ?_))))))))
        refine stB 45 rfl (iZ echo _) B0 fun W7 B7=>?_
        clear B0
        rcases Bool.eq_false_or_eq_true (decide ((mac.size:Int)=(dN echo:Int))) with k8 | k8
        ·refine stG 46 (.bool true) rfl B7 (fun W _=>xEb .i64 3 3 (.tmp 45) (.tmp 48) ((mac.size:Int)) ((dN echo:Int)) true (k8)) (stF 47 (.bool true) rfl B7 (stF 48 (.bool true) rfl B7 ?_))
         refine aI (by kernel_rfl) ?_
         go_wp2_with fail
         exact aT 2 (.bool true) (by kernel_rfl) (by kernel_rfl) (by kernel_rfl) ⟨by rw [←HM.out];unfold eQ;simp [k1,k2,k3,k4,k5,k6,k8],HE.out _ B7⟩
        ·refine stG 46 (.bool false) rfl B7 (fun W _=>xEb .i64 3 3 (.tmp 45) (.tmp 48) ((mac.size:Int)) ((dN echo:Int)) false (k8)) (stF 47 (.bool false) rfl B7 (stF 48 (.bool false) rfl B7 ?_))
         refine aI (by kernel_rfl) ?_
         go_wp2_with fail
         exact aT 2 (.bool false) (by kernel_rfl) (by kernel_rfl) (by kernel_rfl) ⟨by rw [←HM.out];unfold eQ;simp [k1,k2,k3,k4,k5,k6,k8],HE.out _ B7⟩
       ·refine stG 36 (.bool false) rfl B0 (fun W _=>xEb .i64 3 3 (.tmp 38) (.const (.int .i64 0)) (port) (0) false (k6)) (stF 37 (.bool false) rfl B0 (stF 38 (.bool false) rfl B0 (stF 39 (.bool false) rfl B0 (stP 40 rfl B0 (stP 41 rfl B0 (stP 42 rfl B0 (stP 43 rfl B0 (stP 44 rfl B0 (stP 45 rfl B0 ?_)))))))))
        refine stP 46 rfl B0 (stF 47 (.bool false) rfl B0 (stF 48 (.bool false) rfl B0 ?_))
        refine aI (by kernel_rfl) ?_
        go_wp2_with fail
        exact aT 2 (.bool false) (by kernel_rfl) (by kernel_rfl) (by kernel_rfl) ⟨by rw [←HM.out];unfold eQ;simp [k1,k2,k3,k4,k5,k6],HE.out _ B0⟩
      ·refine stG 32 (.bool true) rfl B0 (fun W b=>xLd 4 (.tmp 34) ⟨b0,3,none⟩ ((HX.out.below b HX.out.lt).cell 3)) (stF 33 (.bool true) rfl B0 (stP 34 rfl B0 (stP 35 rfl B0 (stP 36 rfl B0 (stF 37 (.bool true) rfl B0 (stF 38 (.bool true) rfl B0 (stF 39 (.bool true) rfl B0 (stF 40 (.pointer (some ⟨b0,5,none⟩)) rfl B0 (stG 41 (.string mac) rfl B0 (fun W b=>xLd 9 (.tmp 43) ⟨b0,5,none⟩ ((HX.out.below b HX.out.lt).cell 5)) ?_)))))))))
       refine stF 42 (.int .i64 (mac.size:Int)) rfl B0 (stF 43 (.pointer (some ⟨b0,0,none⟩)) rfl B0 (stG 44 (.bool echo) rfl B0 (fun W b=>xLd 4 (.tmp 46) ⟨b0,0,none⟩ ((HX.out.below b HX.out.lt).cell 0)) ?_))
       refine stB 45 rfl (iZ echo _) B0 fun W9 B9=>?_
       clear B0
       rcases Bool.eq_false_or_eq_true (decide ((mac.size:Int)=(dN echo:Int))) with k10 | k10
       ·refine stG 46 (.bool true) rfl B9 (fun W _=>xEb .i64 3 3 (.tmp 45) (.tmp 48) ((mac.size:Int)) ((dN echo:Int)) true (k10)) (stF 47 (.bool true) rfl B9 (stF 48 (.bool true) rfl B9 ?_))
        refine aI (by kernel_rfl) ?_
        go_wp2_with fail
        exact aT 2 (.bool true) (by kernel_rfl) (by kernel_rfl) (by kernel_rfl) ⟨by rw [←HM.out];unfold eQ;simp [k1,k2,k3,k4,k5,k10],HE.out _ B9⟩
       ·refine stG 46 (.bool false) rfl B9 (fun W _=>xEb .i64 3 3 (.tmp 45) (.tmp 48) ((mac.size:Int)) ((dN echo:Int)) false (k10)) (stF 47 (.bool false) rfl B9 (stF 48 (.bool false) rfl B9 ?_))
        refine aI (by kernel_rfl) ?_
        go_wp2_with fail
        exact aT 2 (.bool false) (by kernel_rfl) (by kernel_rfl) (by kernel_rfl) ⟨by rw [←HM.out];unfold eQ;simp [k1,k2,k3,k4,k5,k10],HE.out _ B9⟩
     ·refine stG 28 (.bool false) rfl B0 (fun W _=>xLb .i64 3 3 (.tmp 30) (.const (.int .i64 65535)) (port) (65535) false (k5)) (stF 29 (.bool false) rfl B0 (stF 30 (.bool false) rfl B0 (stP 31 rfl B0 (stP 32 rfl B0 (stP 33 rfl B0 (stP 34 rfl B0 (stP 35 rfl B0 (stP 36 rfl B0 (stP 37 rfl B0 ?_)))))))))
      refine stF 38 (.bool false) rfl B0 (stF 39 (.bool false) rfl B0 (stP 40 rfl B0 (stP 41 rfl B0 (stP 42 rfl B0 (stP 43 rfl B0 (stP 44 rfl B0 (stP 45 rfl B0 (stP 46 rfl B0 (stF 47 (.bool false) rfl B0 ?_)))))))))
      refine stF 48 (.bool false) rfl B0 ?_
      refine aI (by kernel_rfl) ?_
      go_wp2_with fail
      exact aT 2 (.bool false) (by kernel_rfl) (by kernel_rfl) (by kernel_rfl) ⟨by rw [←HM.out];unfold eQ;simp [k1,k2,k3,k4,k5],HE.out _ B0⟩
    ·refine stG 23 (.bool false) rfl B0 (fun W _=>xLb .i64 3 3 (.const (.int .i64 0)) (.tmp 25) (0) (port) false (k4)) (stF 24 (.bool false) rfl B0 (stF 25 (.bool false) rfl B0 (stP 26 rfl B0 (stP 27 rfl B0 (stP 28 rfl B0 (stF 29 (.bool false) rfl B0 (stF 30 (.bool false) rfl B0 (stP 31 rfl B0 (stP 32 rfl B0 ?_)))))))))
     refine stP 33 rfl B0 (stP 34 rfl B0 (stP 35 rfl B0 (stP 36 rfl B0 (stP 37 rfl B0 (stF 38 (.bool false) rfl B0 (stF 39 (.bool false) rfl B0 (stP 40 rfl B0 (stP 41 rfl B0 (stP 42 rfl B0 ?_)))))))))
     refine stP 43 rfl B0 (stP 44 rfl B0 (stP 45 rfl B0 (stP 46 rfl B0 (stF 47 (.bool false) rfl B0 (stF 48 (.bool false) rfl B0 ?_)))))
     refine aI (by kernel_rfl) ?_
     go_wp2_with fail
     exact aT 2 (.bool false) (by kernel_rfl) (by kernel_rfl) (by kernel_rfl) ⟨by rw [←HM.out];unfold eQ;simp [k1,k2,k3,k4],HE.out _ B0⟩
   ·refine stG 12 (.bool false) rfl B0 (fun W _=>xEb .i64 3 3 (.tmp 14) (.const (.int .i64 4)) ((ip.size:Int)) (4) false (k3)) (stF 13 (.bool false) rfl B0 (stF 14 (.pointer (some ⟨b0,2,none⟩)) rfl B0 (stG 15 (.string ip) rfl B0 (fun W b=>xLd 9 (.tmp 17) ⟨b0,2,none⟩ ((HX.out.below b HX.out.lt).cell 2)) (stF 16 (.int .i64 (ip.size:Int)) rfl B0 ?_))))
    rcases Bool.eq_false_or_eq_true (decide ((ip.size:Int)=(16:Int))) with k11 | k11
    ·refine stG 17 (.bool true) rfl B0 (fun W _=>xEb .i64 3 3 (.tmp 19) (.const (.int .i64 16)) ((ip.size:Int)) (16) true (k11)) (stF 18 (.bool true) rfl B0 (stF 19 (.bool true) rfl B0 (stF 20 (.bool true) rfl B0 (stF 21 (.pointer (some ⟨b0,4,none⟩)) rfl B0 (stG 22 (.int .i64 port) rfl B0 (fun W b=>xLd 3 (.tmp 24) ⟨b0,4,none⟩ ((HX.out.below b HX.out.lt).cell 4)) ?_)))))
     rcases Bool.eq_false_or_eq_true (decide ((0:Int)≤(port:Int))) with k12 | k12
     ·refine stG 23 (.bool true) rfl B0 (fun W _=>xLb .i64 3 3 (.const (.int .i64 0)) (.tmp 25) (0) (port) true (k12)) (stF 24 (.bool true) rfl B0 (stF 25 (.bool true) rfl B0 (stF 26 (.pointer (some ⟨b0,4,none⟩)) rfl B0 (stG 27 (.int .i64 port) rfl B0 (fun W b=>xLd 3 (.tmp 29) ⟨b0,4,none⟩ ((HX.out.below b HX.out.lt).cell 4)) ?_))))
      rcases Bool.eq_false_or_eq_true (decide ((port:Int)≤(65535:Int))) with k13 | k13
      ·refine stG 28 (.bool true) rfl B0 (fun W _=>xLb .i64 3 3 (.tmp 30) (.const (.int .i64 65535)) (port) (65535) true (k13)) (stF 29 (.bool true) rfl B0 (stF 30 (.bool true) rfl B0 (stF 31 (.pointer (some ⟨b0,3,none⟩)) rfl B0 ?_)))
       rcases hp with _ | _
       ·refine stG 32 (.bool false) rfl B0 (fun W b=>xLd 4 (.tmp 34) ⟨b0,3,none⟩ ((HX.out.below b HX.out.lt).cell 3)) (stF 33 (.bool false) rfl B0 (stF 34 (.pointer (some ⟨b0,4,none⟩)) rfl B0 (stG 35 (.int .i64 port) rfl B0 (fun W b=>xLd 3 (.tmp 37) ⟨b0,4,none⟩ ((HX.out.below b HX.out.lt).cell 4)) ?_)))
        rcases Bool.eq_false_or_eq_true (decide ((port:Int)=(0:Int))) with k14 | k14
        ·refine stG 36 (.bool true) rfl B0 (fun W _=>xEb .i64 3 3 (.tmp 38) (.const (.int .i64 0)) (port) (0) true (k14)) (stF 37 (.bool true) rfl B0 (stF 38 (.bool true) rfl B0 (stF 39 (.bool true) rfl B0 (stF 40 (.pointer (some ⟨b0,5,none⟩)) rfl B0 (stG 41 (.string mac) rfl B0 (fun W b=>xLd 9 (.tmp 43) ⟨b0,5,none⟩ ((HX.out.below b HX.out.lt).cell 5)) (stF 42 (.int .i64 (mac.size:Int)) rfl B0 (stF 43 (.pointer (some ⟨b0,0,none⟩)) rfl B0 (stG 44 (.bool echo) rfl B0 (fun W b=>xLd 4 (.tmp 46) ⟨b0,0,none⟩ ((HX.out.below b HX.out.lt).cell 0)) ?_))))))))
         refine stB 45 rfl (iZ echo _) B0 fun W15 B15=>?_
         clear B0
         rcases Bool.eq_false_or_eq_true (decide ((mac.size:Int)=(dN echo:Int))) with k16 | k16
         ·refine stG 46 (.bool true) rfl B15 (fun W _=>xEb .i64 3 3 (.tmp 45) (.tmp 48) ((mac.size:Int)) ((dN echo:Int)) true (k16)) (stF 47 (.bool true) rfl B15 (stF 48 (.bool true) rfl B15 ?_))
          refine aI (by kernel_rfl) ?_
          go_wp2_with fail
          exact aT 2 (.bool true) (by kernel_rfl) (by kernel_rfl) (by kernel_rfl) ⟨by rw [←HM.out];unfold eQ;simp [k1,k2,k3,k11,k12,k13,k14,k16],HE.out _ B15⟩
         ·refine stG 46 (.bool false) rfl B15 (fun W _=>xEb .i64 3 3 (.tmp 45) (.tmp 48) ((mac.size:Int)) ((dN echo:Int)) false (k16)) (stF 47 (.bool false) rfl B15 (stF 48 (.bool false) rfl B15 ?_))
          refine aI (by kernel_rfl) ?_
          go_wp2_with fail
          exact aT 2 (.bool false) (by kernel_rfl) (by kernel_rfl) (by kernel_rfl) ⟨by rw [←HM.out];unfold eQ;simp [k1,k2,k3,k11,k12,k13,k14,k16],HE.out _ B15⟩
        ·refine stG 36 (.bool false) rfl B0 (fun W _=>xEb .i64 3 3 (.tmp 38) (.const (.int .i64 0)) (port) (0) false (k14)) (stF 37 (.bool false) rfl B0 (stF 38 (.bool false) rfl B0 (stF 39 (.bool false) rfl B0 (stP 40 rfl B0 (stP 41 rfl B0 (stP 42 rfl B0 (stP 43 rfl B0 (stP 44 rfl B0 (stP 45 rfl B0 ?_)))))))))
         refine stP 46 rfl B0 (stF 47 (.bool false) rfl B0 (stF 48 (.bool false) rfl B0 ?_))
         refine aI (by kernel_rfl) ?_
         go_wp2_with fail
         exact aT 2 (.bool false) (by kernel_rfl) (by kernel_rfl) (by kernel_rfl) ⟨by rw [←HM.out];unfold eQ;simp [k1,k2,k3,k11,k12,k13,k14],HE.out _ B0⟩
       ·refine stG 32 (.bool true) rfl B0 (fun W b=>xLd 4 (.tmp 34) ⟨b0,3,none⟩ ((HX.out.below b HX.out.lt).cell 3)) (stF 33 (.bool true) rfl B0 (stP 34 rfl B0 (stP 35 rfl B0 (stP 36 rfl B0 (stF 37 (.bool true) rfl B0 (stF 38 (.bool true) rfl B0 (stF 39 (.bool true) rfl B0 (stF 40 (.pointer (some ⟨b0,5,none⟩)) rfl B0 (stG 41 (.string mac) rfl B0 (fun W b=>xLd 9 (.tmp 43) ⟨b0,5,none⟩ ((HX.out.below b HX.out.lt).cell 5)) ?_)))))))))
        refine stF 42 (.int .i64 (mac.size:Int)) rfl B0 (stF 43 (.pointer (some ⟨b0,0,none⟩)) rfl B0 (stG 44 (.bool echo) rfl B0 (fun W b=>xLd 4 (.tmp 46) ⟨b0,0,none⟩ ((HX.out.below b HX.out.lt).cell 0)) ?_))
        refine stB 45 rfl (iZ echo _) B0 fun W17 B17=>?_
        clear B0
        rcases Bool.eq_false_or_eq_true (decide ((mac.size:Int)=(dN echo:Int))) with k18 | k18
        ·refine stG 46 (.bool true) rfl B17 (fun W _=>xEb .i64 3 3 (.tmp 45) (.tmp 48) ((mac.size:Int)) ((dN echo:Int)) true (k18)) (stF 47 (.bool true) rfl B17 (stF 48 (.bool true) rfl B17 ?_))
         refine aI (by kernel_rfl) ?_
         go_wp2_with fail
         exact aT 2 (.bool true) (by kernel_rfl) (by kernel_rfl) (by kernel_rfl) ⟨by rw [←HM.out];unfold eQ;simp [k1,k2,k3,k11,k12,k13,k18],HE.out _ B17⟩
        ·refine stG 46 (.bool false) rfl B17 (fun W _=>xEb .i64 3 3 (.tmp 45) (.tmp 48) ((mac.size:Int)) ((dN echo:Int)) false (k18)) (stF 47 (.bool false) rfl B17 (stF 48 (.bool false) rfl B17 ?_))
         refine aI (by kernel_rfl) ?_
         go_wp2_with fail
         exact aT 2 (.bool false) (by kernel_rfl) (by kernel_rfl) (by kernel_rfl) ⟨by rw [←HM.out];unfold eQ;simp [k1,k2,k3,k11,k12,k13,k18],HE.out _ B17⟩
      ·refine stG 28 (.bool false) rfl B0 (fun W _=>xLb .i64 3 3 (.tmp 30) (.const (.int .i64 65535)) (port) (65535) false (k13)) (stF 29 (.bool false) rfl B0 (stF 30 (.bool false) rfl B0 (stP 31 rfl B0 (stP 32 rfl B0 (stP 33 rfl B0 (stP 34 rfl B0 (stP 35 rfl B0 (stP 36 rfl B0 (stP 37 rfl B0 ?_)))))))))
       refine stF 38 (.bool false) rfl B0 (stF 39 (.bool false) rfl B0 (stP 40 rfl B0 (stP 41 rfl B0 (stP 42 rfl B0 (stP 43 rfl B0 (stP 44 rfl B0 (stP 45 rfl B0 (stP 46 rfl B0 (stF 47 (.bool false) rfl B0 ?_)))))))))
       refine stF 48 (.bool false) rfl B0 ?_
       refine aI (by kernel_rfl) ?_
       go_wp2_with fail
       exact aT 2 (.bool false) (by kernel_rfl) (by kernel_rfl) (by kernel_rfl) ⟨by rw [←HM.out];unfold eQ;simp [k1,k2,k3,k11,k12,k13],HE.out _ B0⟩
     ·refine stG 23 (.bool false) rfl B0 (fun W _=>xLb .i64 3 3 (.const (.int .i64 0)) (.tmp 25) (0) (port) false (k12)) (stF 24 (.bool false) rfl B0 (stF 25 (.bool false) rfl B0 (stP 26 rfl B0 (stP 27 rfl B0 (stP 28 rfl B0 (stF 29 (.bool false) rfl B0 (stF 30 (.bool false) rfl B0 (stP 31 rfl B0 (stP 32 rfl B0 ?_)))))))))
      refine stP 33 rfl B0 (stP 34 rfl B0 (stP 35 rfl B0 (stP 36 rfl B0 (stP 37 rfl B0 (stF 38 (.bool false) rfl B0 (stF 39 (.bool false) rfl B0 (stP 40 rfl B0 (stP 41 rfl B0 (stP 42 rfl B0 ?_)))))))))
      refine stP 43 rfl B0 (stP 44 rfl B0 (stP 45 rfl B0 (stP 46 rfl B0 (stF 47 (.bool false) rfl B0 (stF 48 (.bool false) rfl B0 ?_)))))
      refine aI (by kernel_rfl) ?_
      go_wp2_with fail
      exact aT 2 (.bool false) (by kernel_rfl) (by kernel_rfl) (by kernel_rfl) ⟨by rw [←HM.out];unfold eQ;simp [k1,k2,k3,k11,k12],HE.out _ B0⟩
    ·refine stG 17 (.bool false) rfl B0 (fun W _=>xEb .i64 3 3 (.tmp 19) (.const (.int .i64 16)) ((ip.size:Int)) (16) false (k11)) (stF 18 (.bool false) rfl B0 (stF 19 (.bool false) rfl B0 (stF 20 (.bool false) rfl B0 (stP 21 rfl B0 (stP 22 rfl B0 (stP 23 rfl B0 (stF 24 (.bool false) rfl B0 (stF 25 (.bool false) rfl B0 (stP 26 rfl B0 ?_)))))))))
     refine stP 27 rfl B0 (stP 28 rfl B0 (stF 29 (.bool false) rfl B0 (stF 30 (.bool false) rfl B0 (stP 31 rfl B0 (stP 32 rfl B0 (stP 33 rfl B0 (stP 34 rfl B0 (stP 35 rfl B0 (stP 36 rfl B0 ?_)))))))))
     refine stP 37 rfl B0 (stF 38 (.bool false) rfl B0 (stF 39 (.bool false) rfl B0 (stP 40 rfl B0 (stP 41 rfl B0 (stP 42 rfl B0 (stP 43 rfl B0 (stP 44 rfl B0 (stP 45 rfl B0 (stP 46 rfl B0 ?_)))))))))
     refine stF 47 (.bool false) rfl B0 (stF 48 (.bool false) rfl B0 ?_)
     refine aI (by kernel_rfl) ?_
     go_wp2_with fail
     exact aT 2 (.bool false) (by kernel_rfl) (by kernel_rfl) (by kernel_rfl) ⟨by rw [←HM.out];unfold eQ;simp [k1,k2,k3,k11],HE.out _ B0⟩
  ·refine stG 6 (.bool false) rfl B0 (fun W _=>xLb .i64 3 3 (.tmp 8) (.const (.int .i64 255)) (id) (255) false (k2)) (stF 7 (.bool false) rfl B0 (stF 8 (.bool false) rfl B0 (stP 9 rfl B0 (stP 10 rfl B0 (stP 11 rfl B0 (stP 12 rfl B0 (stP 13 rfl B0 (stP 14 rfl B0 (stP 15 rfl B0 ?_)))))))))
   refine stP 16 rfl B0 (stP 17 rfl B0 (stP 18 rfl B0 (stF 19 (.bool false) rfl B0 (stF 20 (.bool false) rfl B0 (stP 21 rfl B0 (stP 22 rfl B0 (stP 23 rfl B0 (stF 24 (.bool false) rfl B0 (stF 25 (.bool false) rfl B0 ?_)))))))))
   refine stP 26 rfl B0 (stP 27 rfl B0 (stP 28 rfl B0 (stF 29 (.bool false) rfl B0 (stF 30 (.bool false) rfl B0 (stP 31 rfl B0 (stP 32 rfl B0 (stP 33 rfl B0 (stP 34 rfl B0 (stP 35 rfl B0 ?_)))))))))
   refine stP 36 rfl B0 (stP 37 rfl B0 (stF 38 (.bool false) rfl B0 (stF 39 (.bool false) rfl B0 (stP 40 rfl B0 (stP 41 rfl B0 (stP 42 rfl B0 (stP 43 rfl B0 (stP 44 rfl B0 (stP 45 rfl B0 ?_)))))))))
   refine stP 46 rfl B0 (stF 47 (.bool false) rfl B0 (stF 48 (.bool false) rfl B0 ?_))
   refine aI (by kernel_rfl) ?_
   go_wp2_with fail
   exact aT 2 (.bool false) (by kernel_rfl) (by kernel_rfl) (by kernel_rfl) ⟨by rw [←HM.out];unfold eQ;simp [k1,k2],HE.out _ B0⟩
 ·refine stG 2 (.bool false) rfl B0 (fun W _=>xLb .i64 3 3 (.const (.int .i64 0)) (.tmp 4) (0) (id) false (k1)) (stF 3 (.bool false) rfl B0 (stP 4 rfl B0 (stP 5 rfl B0 (stP 6 rfl B0 (stF 7 (.bool false) rfl B0 (stF 8 (.bool false) rfl B0 (stP 9 rfl B0 (stP 10 rfl B0 (stP 11 rfl B0 ?_)))))))))
  refine stP 12 rfl B0 (stP 13 rfl B0 (stP 14 rfl B0 (stP 15 rfl B0 (stP 16 rfl B0 (stP 17 rfl B0 (stP 18 rfl B0 (stF 19 (.bool false) rfl B0 (stF 20 (.bool false) rfl B0 (stP 21 rfl B0 ?_)))))))))
  refine stP 22 rfl B0 (stP 23 rfl B0 (stF 24 (.bool false) rfl B0 (stF 25 (.bool false) rfl B0 (stP 26 rfl B0 (stP 27 rfl B0 (stP 28 rfl B0 (stF 29 (.bool false) rfl B0 (stF 30 (.bool false) rfl B0 (stP 31 rfl B0 ?_)))))))))
  refine stP 32 rfl B0 (stP 33 rfl B0 (stP 34 rfl B0 (stP 35 rfl B0 (stP 36 rfl B0 (stP 37 rfl B0 (stF 38 (.bool false) rfl B0 (stF 39 (.bool false) rfl B0 (stP 40 rfl B0 (stP 41 rfl B0 ?_)))))))))
  refine stP 42 rfl B0 (stP 43 rfl B0 (stP 44 rfl B0 (stP 45 rfl B0 (stP 46 rfl B0 (stF 47 (.bool false) rfl B0 (stF 48 (.bool false) rfl B0 ?_))))))
  refine aI (by kernel_rfl) ?_
  go_wp2_with fail
  exact aT 2 (.bool false) (by kernel_rfl) (by kernel_rfl) (by kernel_rfl) ⟨by rw [←HM.out];unfold eQ;simp [k1],HE.out _ B0⟩
theorem validAdd_any (x:Ad) (w:World):
  Calls Tryz.prog 128 #[.agg (adv x)] w (Rt w (.bool (decide x.May))):=by
 rw [←rZ]
 obtain ⟨echo,id,ip,hp,port,mac⟩:=x
 exact validAdd_any_ echo id ip hp port mac w
open Go.ChangeShapes Go.WideShapes Go.ChangeAt Go.RowKit
def dC (x:Ad):Value:=.tuple #[.string x.enc.1,.int .i64 x.enc.2]
theorem iD (x:Ad) (h:x.May):dC x= .tuple #[.string (txt x.body),.int .i64 0]:=by unfold dC;rw [Ad.o6 x h]
theorem oM (x:Ad) (h:¬x.May):dC x= .tuple #[.string ⟨#[]⟩,.int .i64 2]:=by unfold dC;rw [Ad.rH x h]
def vS (s:ByteArray):Value:=.tuple #[.string (encR s).1,.int .i64 (encR s).2]
theorem encRV_t (s:ByteArray) (h:1≤s.size∧s.size≤37):vS s= .tuple #[.string (txt (64::s.data.toList)),.int .i64 0]:=by unfold vS;rw [rY s h]
theorem encRV_f (s:ByteArray) (h:¬(1≤s.size∧s.size≤37)):vS s= .tuple #[.string ⟨#[]⟩,.int .i64 2]:=by unfold vS;rw [yQ s h]
theorem bJ {P:Program} {fn:Func} {R:Ending→World→Prop} {a:Act} {w:World} (t u:Tmp) (v z:Value) (hf:fn.results=#[.tmp t,.tmp u]) (ht:a.tmps.getD t undef=v) (hu:a.tmps.getD u undef=z) (hd:a.defers=[]) (hR:R (.returned (.tuple #[v,z])) w):bodyPost P fn R .ret a w:=
 bodyPost_ret (by rw [results_tmp2 hf,ht,hu]) hd hR
theorem uQ (x:Ad) (i:Nat) (hi:x.id=(i:Int)):(txt x.body).data.toList=([txt (be 1 (fst x.echo)),txt (be 1 i),x.ip,txt x.qW,x.mac].map (·.data.toList)).flatten:=by
 obtain ⟨echo,id,ip,hp,port,mac⟩:=x
 have hi:id=(i:Int):=hi
 subst hi
 simp [lH,Ad.body,Ad.rest,be]
theorem yJ (x:Ad) (h:x.May):(txt x.body).size≤28:=by rw [aU,x.jQ];exact x.size_le h
theorem EncodeAdd_t (x:Ad) (hm:x.May) (w:World):
  Calls Tryz.prog 66 #[.agg (adv x)] w (Rt w (dC x)):=by
 rw [iD x hm]
 obtain ⟨T,hT⟩:=eqx (txt x.body)
 rw [←hT]
 have i0:=hm.1
 obtain ⟨i,hi⟩:∃i:Nat,x.id=(i:Int):=⟨x.id.toNat,by omega⟩
 have mP:i≤255:=by omega
 obtain ⟨A,hA⟩:=eqx (txt (be 1 (fst x.echo)))
 obtain ⟨C,hC⟩:=eqx (txt (be 1 i))
 obtain ⟨P,hP⟩:=eqx (txt x.qW)
 have HTT:=Lh (show T.data.toList=([A,C,x.ip,P,x.mac].map (·.data.toList)).flatten by rw [hT,hA,hC,hP];exact uQ x i hi)
 have HTS:=Lh (show T.size≤28 by rw [hT];exact yJ x hm)
 have HA:=Lh (show (⟨#[]⟩:ByteArray)++⟨(be 1 (fst x.echo)).toArray⟩=A by rw [iE,hA];rfl)
 have HCC:=Lh (show (⟨#[]⟩:ByteArray)++⟨(be 1 i).toArray⟩=C by rw [iE,hC];rfl)
 have HP:=Lh hP
 have HPT:=Lh hm.2.2.1
 have HI:=Lh (show x.id%256=(i:Int) by omega)
 have HI2:=Lh mP
 have HM:=Lh hm
 obtain ⟨w0,hw0⟩:=eqx (w.alloc (.cells (adv x) 32))
 obtain ⟨b0,hb0⟩:=eqx w.heap.size
 have hc0:Blk w0 b0 32 (adv x):=by rw [hw0,hb0];exact Blk.new _ _ _
 have HC0:=Lh hc0
 have HBW:=Lh (kD hw0)
 have HW0:=Lh hw0
 have HB0:=Lh hb0
 have HC1:=hc0
 rw [hw0,hb0] at HC1
 have gY:=Lh HC1
 clear hT hi hA hC hP hw0 hb0 hc0 i0 HC1 hm mP
 go_enter Tryz.func66,Tryz.ntmps66
 go_wp2_with (refine wpList_load_row rfl 32 _ rfl w.heap.size rfl 32 (adv x) (0,0) _ ?_ Tryz.underlying32 rfl aW ?_;exact gY.out)
 rw [←HW0.out,←HB0.out]
 refine (validAdd_any x _).mono ?_
 rintro e V ⟨rfl,bv⟩
 rw [decide_eq_true HM.out]
 have HC:=Lh (HC0.out.below bv HC0.out.lt)
 have HBV:=Lh (HBW.out.trans (bv.mono HBW.out.size))
 clear bv HC0 HBW HW0 gY
 go_upto_region 3 with fail
 refine bZ (n:=17) rfl fun W0 B0=>?_
 refine stG 0 (.agg (adv x)) rfl B0 (fun W b=>xRw 32 (.tmp 1) b0 (HC.out.below b HC.out.lt) Tryz.underlying32 aW) (stF 3 (.pointer (some ⟨b0,1,none⟩)) rfl B0 (stG 4 (.int .i64 x.id) rfl B0 (fun W b=>xLd 3 (.tmp 10) ⟨b0,1,none⟩ ((HC.out.below b HC.out.lt).cell 1)) (stG 5 (.int .u8 (i:Int)) rfl B0 (fun W _=>aH (v:=.int .i64 x.id) 3 5 (.tmp 11) (by kernel_rfl) (by kernel_rfl) (oU x.id i HI.out W)) (stF 7 (.pointer (some ⟨b0,2,none⟩)) rfl B0 (stG 8 (.string x.ip) rfl B0 (fun W b=>xLd 9 (.tmp 14) ⟨b0,2,none⟩ ((HC.out.below b HC.out.lt).cell 2)) (stG 9 (.agg (adv x)) rfl B0 (fun W b=>xRw 32 (.tmp 1) b0 (HC.out.below b HC.out.lt) Tryz.underlying32 aW) (stF 11 (.pointer (some ⟨b0,5,none⟩)) rfl B0 (stG 12 (.string x.mac) rfl B0 (fun W b=>xLd 9 (.tmp 18) ⟨b0,5,none⟩ ((HC.out.below b HC.out.lt).cell 5)) ?_))))))))
 refine stB 1 rfl (oQ x _) B0 fun W1 B1=>?_
 clear B0
 refine stB 2 rfl (answer (eU ⟨#[]⟩ (fst x.echo) _ (by decide) (fst_le _)) (congrArg Value.string HA.out)) B1 fun W2 B2=>?_
 clear B1
 refine stB 6 rfl (answer (eU ⟨#[]⟩ i _ (by decide) HI2.out) (congrArg Value.string HCC.out)) B2 fun W3 B3=>?_
 clear B2
 refine stB 10 rfl (portOf_any x HPT.out P HP.out _) B3 fun W4 B4=>?_
 clear B3
 obtain ⟨W5,hW5⟩:∃w',w'=W4.alloc (.cells ([A,C,x.ip,P,x.mac].map Value.string).toArray 9):=⟨_,rfl⟩
 have NB:Blk W5 W4.heap.size 9 ([A,C,x.ip,P,x.mac].map Value.string).toArray:=by rw [hW5];exact Blk.new _ _ _
 have B5:Below V.heap.size V W5:=by rw [hW5];exact B4.alloc B4.size _
 refine held_lone (v:=.slice (some ⟨W4.heap.size,0,none⟩) 5 5) (w':=W5) 13 rfl (by kernel_rfl) (by kernel_rfl) (by rw [hW5];exact ex_build5 (.tmp 9) (.tmp 13) (.tmp 15) (.tmp 17) (.tmp 19) (by kernel_rfl) A C x.ip P x.mac (by kernel_rfl) (by kernel_rfl) (by kernel_rfl) (by kernel_rfl) (by kernel_rfl)) B5 ?_
 clear hW5
 refine stB 14 rfl (concat_any [A,C,x.ip,P,x.mac] T HTT.out _ 5 rfl _ NB (by simp) (by have:=HTS.out;omega)) B5 fun W6 B6=>?_
 clear B5
 refine stF 15 (.string T) rfl B6 (stF 16 (.int .i64 0) rfl B6 ?_)
 refine aI (by kernel_rfl) ?_
 go_wp2_with fail
 exact bJ 2 3 (.string T) (.int .i64 0) (by kernel_rfl) (by kernel_rfl) (by kernel_rfl) (by kernel_rfl) ⟨rfl,by have q:=HBV.out.trans (B6.mono HBV.out.size);first | exact q | (rw [HB0.out];exact q)⟩
theorem EncodeAdd_f (x:Ad) (hm:¬x.May) (w:World):
  Calls Tryz.prog 66 #[.agg (adv x)] w (Rt w (dC x)):=by
 rw [oM x hm]
 have HC:=Lh (Blk.new w 32 (adv x))
 have HB:=Lh ((Below.refl _ w).alloc (Nat.le_refl _) (.cells (adv x) 32))
 have HM:=Lh hm
 clear hm
 go_enter Tryz.func66,Tryz.ntmps66
 go_wp2_with (refine wpList_load_row rfl 32 _ rfl w.heap.size rfl 32 (adv x) (0,0) _ ?_ Tryz.underlying32 rfl aW ?_;exact HC.out)
 refine (validAdd_any x _).mono ?_
 rintro e V ⟨rfl,bv⟩
 rw [decide_eq_false HM.out]
 have HBV:=Lh (HB.out.trans (bv.mono HB.out.size))
 clear bv
 go_wp2_with fail
 exact bJ 2 3 (.string ⟨#[]⟩) (.int .i64 2) rfl rfl rfl rfl ⟨rfl,HBV.out⟩
theorem EncodeAdd_any (x:Ad) (w:World):
  Calls Tryz.prog 66 #[.agg (adv x)] w (Rt w (dC x)):=by
 by_cases hm:x.May
 ·exact EncodeAdd_t x hm w
 ·exact EncodeAdd_f x hm w
theorem EncodeRemove_t (s:ByteArray) (hm:1≤s.size∧s.size≤37) (w:World):
  Calls Tryz.prog 70 #[.agg (rmv s)] w (Rt w (vS s)):=by
 rw [encRV_t s hm]
 obtain ⟨T,hT⟩:=eqx (txt (64::s.data.toList))
 rw [←hT]
 obtain ⟨A,hA⟩:=eqx (txt [64])
 have HTT:=Lh (show T.data.toList=([A,s].map (·.data.toList)).flatten by rw [hT,hA];simp [lH])
 have HTS:=Lh (show T.size≤38 by rw [hT,one_size,bG];omega)
 have HA:=Lh (show (⟨#[]⟩:ByteArray)++⟨(be 1 64).toArray⟩=A by rw [iE,hA];rfl)
 have HM:=Lh hm
 obtain ⟨w0,hw0⟩:=eqx (w.alloc (.cells (rmv s) 34))
 obtain ⟨b0,hb0⟩:=eqx w.heap.size
 have hc0:Blk w0 b0 34 (rmv s):=by rw [hw0,hb0];exact Blk.new _ _ _
 have HC0:=Lh hc0
 have HBW:=Lh (kD hw0)
 have HW0:=Lh hw0
 have HB0:=Lh hb0
 have HC1:=hc0
 rw [hw0,hb0] at HC1
 have gY:=Lh HC1
 clear hT hA hw0 hb0 hc0 HC1 hm
 go_enter Tryz.func70,Tryz.ntmps70
 go_wp2_with (refine wpList_load_row rfl 34 _ rfl w.heap.size rfl 34 (rmv s) (0,0) _ ?_ Tryz.underlying34 rfl dQ ?_;exact gY.out)
 rw [←HW0.out,←HB0.out]
 refine (jY s _ (by have:=HM.out;omega)).mono ?_
 rintro e V ⟨rfl,bv⟩
 rw [decide_eq_true HM.out]
 have HC:=Lh (HC0.out.below bv HC0.out.lt)
 have HBV:=Lh (HBW.out.trans (bv.mono HBW.out.size))
 clear bv HC0 HBW HW0 gY
 go_upto_region 3 with fail
 refine bZ (n:=7) rfl fun W0 B0=>?_
 refine stF 1 (.pointer (some ⟨b0,0,none⟩)) rfl B0 (stG 2 (.string s) rfl B0 (fun W b=>xLd 9 (.tmp 8) ⟨b0,0,none⟩ ((HC.out.below b HC.out.lt).cell 0)) ?_)
 refine stB 0 rfl (answer (eU ⟨#[]⟩ 64 _ (by decide) (by decide)) (congrArg Value.string HA.out)) B0 fun W1 B1=>?_
 clear B0
 obtain ⟨W2,hW2⟩:∃w',w'=W1.alloc (.cells ([A,s].map Value.string).toArray 9):=⟨_,rfl⟩
 have NB:Blk W2 W1.heap.size 9 ([A,s].map Value.string).toArray:=by rw [hW2];exact Blk.new _ _ _
 have B2:Below V.heap.size V W2:=by rw [hW2];exact B1.alloc B1.size _
 refine held_lone (v:=.slice (some ⟨W1.heap.size,0,none⟩) 2 2) (w':=W2) 3 rfl (by kernel_rfl) (by kernel_rfl) (by rw [hW2];exact ex_build2 (.tmp 7) (.tmp 9) (by kernel_rfl) A s (by kernel_rfl) (by kernel_rfl)) B2 ?_
 clear hW2
 refine stB 4 rfl (concat_any [A,s] T HTT.out _ 2 rfl _ NB (by simp) (by have:=HTS.out;omega)) B2 fun W3 B3=>?_
 clear B2
 refine stF 5 (.string T) rfl B3 (stF 6 (.int .i64 0) rfl B3 ?_)
 refine aI (by kernel_rfl) ?_
 go_wp2_with fail
 exact bJ 2 3 (.string T) (.int .i64 0) (by kernel_rfl) (by kernel_rfl) (by kernel_rfl) (by kernel_rfl) ⟨rfl,by have q:=HBV.out.trans (B3.mono HBV.out.size);first | exact q | (rw [HB0.out];exact q)⟩
theorem EncodeRemove_f (s:ByteArray) (hs:s.size≤9223372036854775807) (hm:¬(1≤s.size∧s.size≤37)) (w:World):
  Calls Tryz.prog 70 #[.agg (rmv s)] w (Rt w (vS s)):=by
 rw [encRV_f s hm]
 have HC:=Lh (Blk.new w 34 (rmv s))
 have HB:=Lh ((Below.refl _ w).alloc (Nat.le_refl _) (.cells (rmv s) 34))
 have HM:=Lh hm
 clear hm
 go_enter Tryz.func70,Tryz.ntmps70
 go_wp2_with (refine wpList_load_row rfl 34 _ rfl w.heap.size rfl 34 (rmv s) (0,0) _ ?_ Tryz.underlying34 rfl dQ ?_;exact HC.out)
 refine (jY s _ hs).mono ?_
 rintro e V ⟨rfl,bv⟩
 rw [decide_eq_false HM.out]
 have HBV:=Lh (HB.out.trans (bv.mono HB.out.size))
 clear bv
 go_wp2_with fail
 exact bJ 2 3 (.string ⟨#[]⟩) (.int .i64 2) rfl rfl rfl rfl ⟨rfl,HBV.out⟩
theorem EncodeRemove_any (s:ByteArray) (hs:s.size≤9223372036854775807) (w:World):
  Calls Tryz.prog 70 #[.agg (rmv s)] w (Rt w (vS s)):=by
 by_cases hm:1≤s.size∧s.size≤37
 ·exact EncodeRemove_t s hm w
 ·exact EncodeRemove_f s hs hm w
open Go.ChangeShapes Go.WideShapes Go.ChangeAt Go.RowKit
abbrev takeF (g:Nat):Value:=.func (.func 191) #[] #[.pointer (some ⟨g,0,none⟩)]
theorem taker_any (s:ByteArray) (w:World):
  Calls Tryz.prog 136 #[.string s] w fun e w'=>e= .returned (takeF w.heap.size)∧Blk w' w.heap.size 9 #[.string s]∧Below w.heap.size w w':=by
 go_enter Tryz.func136,Tryz.ntmps136
 go_wp2_with fail
 go_ret
 exact ⟨rfl,Blk.new _ _ _,(Below.refl _ _).alloc (Nat.le_refl _) _⟩
theorem str_front (s:ByteArray) (k:Nat) (hk:k≤s.size) (w:World):(Instr.sliceAt 9 (.string s) none (some (.int .i64 (k:Int))) none).run Tryz.prog w= .ok (.string (s.extract 0 k)) w:=by
 have l2:(k:Int)≤(s.size:Int):=by omega
 simp [go_sem,l2]
theorem take_any (g n:Nat) (s A B:ByteArray) (hs:s.size≤9223372036854775807) (hn:n≤s.size) (hA:s.extract 0 n=A) (hB:s.extract n s.size=B) (w:World) (h:Blk w g 9 #[.string s]):
  Calls Tryz.prog 191 #[.int .i64 (n:Int),.pointer (some ⟨g,0,none⟩)] w fun e w'=>e= .returned (.string A)∧w.grownBy w' (some g)∧Blk w' g 9 #[.string B]:=by
 have c0:=h.cell 0
 have f0:=h.frozen 0
 simp only [List.getElem?_toArray,List.getElem?_cons_zero] at c0
 have n0:(n:Int)≤(s.size:Int):=by omega
 have HH:=Lh h
 have HA:=Lh hA
 have HB:=Lh hB
 clear h hA hB
 go_enter Tryz.func191,Tryz.ntmps191
 go_wp2_with fail
 rw [HA.out,HB.out]
 go_ret
 refine ⟨rfl,bV (.refl _ _) rfl _,?_⟩
 have:=HH.out.gG 0 (.string B)
 simpa using this
open Go.ChangeShapes Go.WideShapes Go.ChangeAt Go.RowKit
def dO (s:ByteArray):Value:=.tuple #[.agg (adv (gQ s).1),.int .i64 (gQ s).2]
def iJ (s:ByteArray):Value:=.tuple #[.agg (rmv (fF s).1),.int .i64 (fF s).2]
theorem vX (s:ByteArray) (x:Ad) (e:Int) (h:gQ s=(x,e)):dO s= .tuple #[.agg (adv x),.int .i64 e]:=by unfold dO;rw [h]
theorem decRV_eq (s:ByteArray) (x:ByteArray) (e:Int) (h:fF s=(x,e)):iJ s= .tuple #[.agg (rmv x),.int .i64 e]:=by unfold iJ;rw [h]
theorem aF {P:Program} {fn:Func} {p t:Tmp} {ty:TypeId} (h:fn.results=#[.cell p ty,.tmp t]) (tmps:Array Value) (w:World) (g:Nat) (t':TypeId) (cs:Array Value) (fr:Nat×Nat) (d:TypeDesc)
  (hp:tmps.getD p undef= .pointer (some ⟨g,0,none⟩)) (hg:w.heap[g]?=some (.cells cs t' fr))
  (hu:P.underlying ty=some d) (hd:(match d with | .struct _ | .array _ _=>true | _=>false)=true) (hi:(P.info? ty).map (·.size)=some cs.size):
  (results fn tmps).run P w= .ok (.tuple #[.agg cs,tmps.getD t undef]) w:=by
 have hp':tmps[p]?.getD undef= .pointer (some ⟨g,0,none⟩):=by simpa using hp
 simp [results,h,hp',asAddr,run_loadVar_row w g t' ty cs fr d hg hu hd hi]
theorem below_setRow {B:Nat} {w W:World} {g:Nat} (h:Below B w W) (hg:B≤g) (cs:Array Value):Below B w (W.setRow g cs):=
 h.trans ⟨rfl,rfl,rfl,by simp,fun k hk=>setRow_other W g k cs fun e=>by omega⟩
theorem nG (s:ByteArray) (w W:World) (r:Nat) (x:Ad) (z:Int) {a:Act} (ht:a.tmps.getD 2 undef= .pointer (some ⟨r,0,none⟩)) (hz:a.tmps.getD 3 undef= .int .i64 z) (hd:a.defers=[]) (cs:Array Value) (hc:cs=adv x) (old:Array Value) (hr:Blk W r 32 old) (hb:Below w.heap.size w W) (hwr:w.heap.size≤r) (hq:gQ s=(x,z)):
  bodyPost Tryz.prog Tryz.f68 (fun e w'=>e= .returned (dO s)∧Below w.heap.size w w') .ret a (W.setRow r cs):=by
 subst hc
 have h:=aF (fn:=Tryz.f68) rfl a.tmps (W.setRow r (adv x)) r 32 (adv x) (0,0) _ ht (setRow_heap _ _ _ _ _ _ hr) Tryz.underlying32 rfl aW
 rw [hz] at h
 exact bodyPost_ret h hd ⟨by rw [vX s x z hq],below_setRow hb hwr _⟩
theorem dM (s:ByteArray) (w W:World) (r:Nat) (x:ByteArray) (z:Int) {a:Act} (ht:a.tmps.getD 2 undef= .pointer (some ⟨r,0,none⟩)) (hz:a.tmps.getD 3 undef= .int .i64 z) (hd:a.defers=[]) (cs:Array Value) (hc:cs=rmv x) (old:Array Value) (hr:Blk W r 34 old) (hb:Below w.heap.size w W) (hwr:w.heap.size≤r) (hq:fF s=(x,z)):
  bodyPost Tryz.prog Tryz.f72 (fun e w'=>e= .returned (iJ s)∧Below w.heap.size w w') .ret a (W.setRow r cs):=by
 subst hc
 have h:=aF (fn:=Tryz.f72) rfl a.tmps (W.setRow r (rmv x)) r 34 (rmv x) (0,0) _ ht (setRow_heap _ _ _ _ _ _ hr) Tryz.underlying34 rfl dQ
 rw [hz] at h
 exact bodyPost_ret h hd ⟨by rw [decRV_eq s x z hq],below_setRow hb hwr _⟩
theorem sizes_shape (n:Nat) (e:Bool):(∃k h,shape n e=some (k,h)∧sizes n=((k,portOf h,dN e),true))∨(shape n e=none∧(sizes n).2=false)∨(shape n e=none∧(sizes n).2=true∧(sizes n).1.2.2≠dN e):=by
 by_cases h6:n=6
 ·subst h6;cases e
  ·exact .inr (.inr ⟨rfl,rfl,by decide⟩)
  ·exact .inl ⟨4,false,rfl,rfl⟩
 by_cases h8:n=8
 ·subst h8;cases e
  ·exact .inr (.inr ⟨rfl,rfl,by decide⟩)
  ·exact .inl ⟨4,true,rfl,rfl⟩
 by_cases h14:n=14
 ·subst h14;cases e
  ·exact .inl ⟨4,false,rfl,rfl⟩
  ·exact .inr (.inr ⟨rfl,rfl,by decide⟩)
 by_cases h16:n=16
 ·subst h16;cases e
  ·exact .inl ⟨4,true,rfl,rfl⟩
  ·exact .inr (.inr ⟨rfl,rfl,by decide⟩)
 by_cases h18:n=18
 ·subst h18;cases e
  ·exact .inr (.inr ⟨rfl,rfl,by decide⟩)
  ·exact .inl ⟨16,false,rfl,rfl⟩
 by_cases h20:n=20
 ·subst h20;cases e
  ·exact .inr (.inr ⟨rfl,rfl,by decide⟩)
  ·exact .inl ⟨16,true,rfl,rfl⟩
 by_cases h26:n=26
 ·subst h26;cases e
  ·exact .inl ⟨16,false,rfl,rfl⟩
  ·exact .inr (.inr ⟨rfl,rfl,by decide⟩)
 by_cases h28:n=28
 ·subst h28;cases e
  ·exact .inl ⟨16,true,rfl,rfl⟩
  ·exact .inr (.inr ⟨rfl,rfl,by decide⟩)
 refine .inr (.inl ⟨?_,?_⟩)
 ·have m0:dN e=0∨dN e=8:=by cases e<;>decide
  unfold shape;rw [if_neg (by omega),if_neg (by omega),if_neg (by omega),if_neg (by omega)]
 ·unfold sizes;simp only [h6,h8,h14,h16,h18,h20,h26,h28,if_false]
theorem jV:∀n:_root_.Fin 256,(bits .and .u8 (n.val:Int) 1 !=0)=odd n.val:=by decide+kernel
theorem uS {P:Program} {w:World} {ops:Array Oper} {rest:List Oper} {o:Oper} {a:Act} {Q:Exit→Act→World→Prop} (hg:o.guard=none) (t:TypeId) (m x:Operand) (hop:o.op=Op.lookup t m x true) {M K v:Value} (hm:a.eval m=M) (hx:a.eval x=K)
  (hrun:(Instr.lookup t M K true).run P w= .ok v w) (h:wpList P ops Q rest (a.put o.dst v) w):wpList P ops Q (o::rest) a w:=by
 refine wpList_plain hg fun L hL=>?_
 have he:(execOp a.eval o).run P w= .ok (.value v) w:=by
  unfold execOp
  rw [hop]
  simp [hm,hx,hrun]
 unfold Oper.wp
 rw [he]
 exact hL _ _ h
structure Fl (w W:World) (r d g X:Nat) (k p m:Nat) (T:ByteArray) (cs:Array Value):Prop where
 z:Blk W r 32 (adv .zero)
 pd:Blk W d 190 #[.int .i64 (k:Int),.int .i64 (p:Int),.int .i64 (m:Int)]
 box:Blk W g 9 #[.string T]
 x:Blk W X 32 cs
 b:Below w.heap.size w W
 le:w.heap.size≤r∧w.heap.size≤g∧w.heap.size≤X
 ne:r≠g∧r≠X∧d≠g∧d≠X∧g≠X
namespace Fl
variable {w W W':World} {r d g X k p m:Nat} {T T':ByteArray} {cs:Array Value}
theorem below (h:Fl w W r d g X k p m T cs) (q:Below W.heap.size W W'):Fl w W' r d g X k p m T cs:=⟨h.z.below q h.z.lt,h.pd.below q h.pd.lt,h.box.below q h.box.lt,h.x.below q h.x.lt,h.b.trans (q.mono h.b.size),h.le,h.ne⟩
theorem take (h:Fl w W r d g X k p m T cs) (q:W.grownBy W' (some g)) (hT:Blk W' g 9 #[.string T']):Fl w W' r d g X k p m T' cs:=
 ⟨h.z.grown q (by have:=h.ne.1;simpa using this),h.pd.grown q (by have:=h.ne.2.2.1;simpa using this),hT,h.x.grown q (by have:=h.ne.2.2.2.2;simpa using this.symm),h.b.trans (aA q h.le.2.1 h.b.size),h.le,h.ne⟩
theorem set (h:Fl w W r d g X k p m T cs) (i:Nat) (v:Value):Fl w (W.setCell ⟨X,i,none⟩ v) r d g X k p m T (cs.setIfInBounds i v):=
 ⟨h.z.same (Below.heap_setCell W ⟨X,i,none⟩ v r h.ne.2.1),h.pd.same (Below.heap_setCell W ⟨X,i,none⟩ v d h.ne.2.2.2.1),h.box.same (Below.heap_setCell W ⟨X,i,none⟩ v g h.ne.2.2.2.2),h.x.gG i v,h.b.setCell h.le.2.2 _,h.le,h.ne⟩
end Fl
theorem u16_part (l:List UInt8) (k:Nat) (h:Bool) (hl:k+portOf h≤l.length):numO (txt ((l.drop k).take (portOf h))) 0 false 2=num (txt l) k (portOf h):=by
 cases h
 ·rw [nY (by rfl)];rfl
 ·have hl:k+2≤l.length:=hl
  have hz:(txt ((l.drop k).take 2)).size=2:=by rw [aU,List.length_take,List.length_drop];omega
  show numO (txt ((l.drop k).take 2)) 0 false 2=num (txt l) k 2
  rw [iG (by unfold fits;rw [hz];rfl)]
  apply nN
  intro j hj
  rw [lH,lH,List.getD_eq_getElem?_getD,List.getD_eq_getElem?_getD,List.getElem?_take_of_lt (by omega),List.getElem?_drop,Nat.zero_add]
theorem txt_front (l:List UInt8) (n:Nat):(txt l).extract 0 n=txt (l.take n):=by
 apply ByteArray.ext
 apply Array.toList_inj.1
 rw [ByteArray.data_extract,Array.toList_extract,List.extract_eq_take_drop]
 rfl
theorem rX (l:List UInt8) (n:Nat):(txt l).extract n (txt l).size=txt (l.drop n):=by
 apply ByteArray.ext
 apply Array.toList_inj.1
 rw [ByteArray.data_extract,Array.toList_extract,List.extract_eq_take_drop,aU,lH]
 rw [List.take_of_length_le (by rw [List.length_drop];omega)]
 rfl
theorem wM (g n:Nat) (l:List UInt8) (A B:ByteArray) (hl:l.length≤100) (hn:n≤l.length) (hA:A=txt (l.take n)) (hB:B=txt (l.drop n)) (w:World) (h:Blk w g 9 #[.string (txt l)]):
  Calls Tryz.prog 191 #[.int .i64 (n:Int),.pointer (some ⟨g,0,none⟩)] w fun e w'=>e= .returned (.string A)∧w.grownBy w' (some g)∧Blk w' g 9 #[.string B]:=
 take_any g n (txt l) A B (by rw [aU];omega) (by rw [aU];exact hn) (by rw [hA];exact txt_front l n) (by rw [hB];exact rX l n) w h
theorem u8_one (v:UInt8):numO (txt [v]) 0 false 1=v.toNat:=by rw [iG (by rfl),lN];rfl
theorem dec_bad (s:ByteArray) (hs:s.size≤9223372036854775807) (z:Int) (hz:z=4∨z=7) (hk:chk s 3=z) (hd:gQ s=(.zero,z)) (w:World):
  Calls Tryz.prog 68 #[.string s] w (Rt w (dO s)):=by
 have HS:=Lh hs
 have HK:=Lh hk
 have HD:=Lh hd
 have e0:(z !=0)=true:=by rw [bne_iff_ne];omega
 clear hk hd hz
 obtain ⟨r,w0,HR2,HW0,HZ,HB0,HR⟩:=kQ w ((adv Ad.zero)) ((adv Ad.zero)) 32 rfl
 go_enter Tryz.func68,Tryz.ntmps68
 go_wp2_with fail
 rw [←HR2.out]
 refine (fP s 3 (by decide) _ HS.out).mono ?_
 rintro e U1 ⟨rfl,b⟩
 rw [HK.out]
 have HZ1:=Lh (show Blk U1 r 32 (adv Ad.zero) by have q:=HZ.out.below (B:=w0.heap.size) (w':=U1) (by rw [HW0.out];exact b) HZ.out.lt;exact q)
 have HB1:=Lh (show Below w.heap.size w U1 by have q:=HB0.out;rw [HW0.out] at q;exact q.trans (b.mono q.size))
 clear b HZ HB0 HW0
 go_wp2_with (refine wpList_store_row rfl 32 _ _ rfl r (adv Ad.zero) rfl rfl 32 (adv Ad.zero) ?_ aW rfl (lV _) ?_;exact HZ1.out)
 exact nG s w U1 r Ad.zero z rfl rfl rfl _ rfl _ HZ1.out HB1.out HR.out HD.out
theorem kH (s:ByteArray) (hs:s.size≤9223372036854775807) (hk:chk s 3=0) (h0:0 < s.size) (E:Bool) (hE:odd (byteAt s 0)=E) (k p m:Nat) (hsz:sizes s.size=((k,p,m),false)) (hd:gQ s=(.zero,5)) (w:World):
  Calls Tryz.prog 68 #[.string s] w (Rt w (dO s)):=by
 have HS:=Lh hs
 have HK:=Lh hk
 have HD:=Lh hd
 have HSZ:=Lh hsz
 have l0:(0:Int) < (s.size:Int):=by omega
 have e0:(bits .and .u8 (s[0].toNat:Int) 1 !=0)=E:=by rw [←hE,bD s 0 h0];exact jV ⟨s[0].toNat,s[0].toNat_lt⟩
 clear hk hd hsz hE
 obtain ⟨r,w0,HR2,HW0,HZ,HB0,HR⟩:=kQ w ((adv Ad.zero)) ((adv Ad.zero)) 32 rfl
 go_enter Tryz.func68,Tryz.ntmps68
 go_wp2_with fail
 rw [←HR2.out]
 refine (fP s 3 (by decide) _ HS.out).mono ?_
 rintro e U1 ⟨rfl,b⟩
 rw [HK.out]
 have HZ1:=Lh (show Blk U1 r 32 (adv Ad.zero) by have q:=HZ.out.below (B:=w0.heap.size) (w':=U1) (by rw [HW0.out];exact b) HZ.out.lt;exact q)
 have HB1:=Lh (show Below w.heap.size w U1 by have q:=HB0.out;rw [HW0.out] at q;exact q.trans (b.mono q.size))
 clear b HZ HB0 HW0
 go_wp2_with fail
 refine (nC _).mono ?_
 rintro e U2 ⟨rfl,htab,b⟩
 have HZ2:=Lh (HZ1.out.below b HZ1.out.lt)
 have HB2:=Lh (HB1.out.trans (b.mono HB1.out.size))
 have hlook:=TabB.look htab s.size HS.out
 rw [HSZ.out] at hlook
 obtain ⟨W3,hW3⟩:=eqx (U2.alloc (.cells #[.int .i64 (k:Int),.int .i64 (p:Int),.int .i64 (m:Int)] 190))
 obtain ⟨d,hd⟩:=eqx U2.heap.size
 have HP3:=Lh (show Blk W3 d 190 #[.int .i64 (k:Int),.int .i64 (p:Int),.int .i64 (m:Int)] by rw [hW3,hd];exact Blk.new _ _ _)
 have HZ3:=Lh (show Blk W3 r 32 (adv Ad.zero) by rw [hW3];exact HZ2.out.alloc _)
 have HB3:=Lh (show Below w.heap.size w W3 by rw [hW3];exact HB2.out.alloc HB2.out.size _)
 have HW3:=Lh hW3
 have HDD:=Lh hd
 clear b htab HZ1 HB1 HZ2 HB2 hW3 hd
 have HLOOK:=Lh hlook
 clear hlook
 go_upto_region 6 with (at_lookup;refine uS rfl _ _ _ rfl rfl rfl HLOOK.out ?_)
 rw [←HW3.out,←HDD.out]
 refine bZ (n:=9) rfl fun W0 B0=>?_
 refine stF 0 (.bool false) rfl B0 (stF 1 (.bool true) rfl B0 (stF 2 (.bool true) rfl B0 (stP 3 rfl B0 (stP 4 rfl B0 (stP 5 rfl B0 (stP 6 rfl B0 (stP 7 rfl B0 (stF 8 (.bool true) rfl B0 ?_))))))))
 refine aZ ⟨#[.string s,undef,.pointer (some ⟨r,0,none⟩),.int .i64 0,.int .i64 0,.bool E,.pointer (some ⟨d,0,none⟩),.bool false,undef,undef,.string s,.int .i64 0,.int .i64 0,.bool false,undef,undef,.string s,.int .u8 (s[0].toNat:Int),.int .u8 (bits .and .u8 (s[0].toNat:Int) 1),.bool E,.tuple #[part (k:Int) (p:Int) (m:Int),.bool false],.map (some U1.heap.size),.string s,.int .i64 (s.size:Int),.tuple #[part (k:Int) (p:Int) (m:Int),.bool false],part (k:Int) (p:Int) (m:Int),.bool false,.bool false,.bool true,.bool true,undef,undef,undef,undef,undef,.bool true,undef,undef,undef,undef,undef,undef,undef,undef,undef,undef,undef,undef,undef,undef,undef,undef,undef,undef,undef,undef,undef,undef,undef,undef,undef,undef,undef,undef,undef,undef,undef,undef,undef,undef],[]⟩ (by kernel_rfl) (by kernel_rfl) ?_
 have HZ4:=Lh (HZ3.out.below B0 HZ3.out.lt)
 have HB4:=Lh (HB3.out.trans (B0.mono HB3.out.size))
 clear B0
 go_wp2_with (refine wpList_store_row rfl 32 _ _ rfl r (adv Ad.zero) rfl rfl 32 (adv Ad.zero) ?_ aW rfl (lV _) ?_;exact HZ4.out)
 exact nG s w W0 r Ad.zero 5 (by kernel_rfl) (by kernel_rfl) (by kernel_rfl) _ rfl _ HZ4.out HB4.out HR.out HD.out
theorem dec_mac (s:ByteArray) (hs:s.size≤9223372036854775807) (hk:chk s 3=0) (h0:0 < s.size) (E:Bool) (hE:odd (byteAt s 0)=E) (k p m:Nat) (hsz:sizes s.size=((k,p,m),true)) (hm:m≠dN E) (hd:gQ s=(.zero,5)) (w:World):
  Calls Tryz.prog 68 #[.string s] w (Rt w (dO s)):=by
 have HS:=Lh hs
 have HK:=Lh hk
 have HD:=Lh hd
 have HSZ:=Lh hsz
 have HM:=Lh (show (m:Int)≠(dN E:Int) by omega)
 clear hm
 have l0:(0:Int) < (s.size:Int):=by omega
 have e0:(bits .and .u8 (s[0].toNat:Int) 1 !=0)=E:=by rw [←hE,bD s 0 h0];exact jV ⟨s[0].toNat,s[0].toNat_lt⟩
 clear hk hd hsz hE
 obtain ⟨r,w0,HR2,HW0,HZ,HB0,HR⟩:=kQ w ((adv Ad.zero)) ((adv Ad.zero)) 32 rfl
 go_enter Tryz.func68,Tryz.ntmps68
 go_wp2_with fail
 rw [←HR2.out]
 refine (fP s 3 (by decide) _ HS.out).mono ?_
 rintro e U1 ⟨rfl,b⟩
 rw [HK.out]
 have HZ1:=Lh (show Blk U1 r 32 (adv Ad.zero) by have q:=HZ.out.below (B:=w0.heap.size) (w':=U1) (by rw [HW0.out];exact b) HZ.out.lt;exact q)
 have HB1:=Lh (show Below w.heap.size w U1 by have q:=HB0.out;rw [HW0.out] at q;exact q.trans (b.mono q.size))
 clear b HZ HB0 HW0
 go_wp2_with fail
 refine (nC _).mono ?_
 rintro e U2 ⟨rfl,htab,b⟩
 have HZ2:=Lh (HZ1.out.below b HZ1.out.lt)
 have HB2:=Lh (HB1.out.trans (b.mono HB1.out.size))
 have hlook:=TabB.look htab s.size HS.out
 rw [HSZ.out] at hlook
 obtain ⟨W3,hW3⟩:=eqx (U2.alloc (.cells #[.int .i64 (k:Int),.int .i64 (p:Int),.int .i64 (m:Int)] 190))
 obtain ⟨d,hd⟩:=eqx U2.heap.size
 have HP3:=Lh (show Blk W3 d 190 #[.int .i64 (k:Int),.int .i64 (p:Int),.int .i64 (m:Int)] by rw [hW3,hd];exact Blk.new _ _ _)
 have HZ3:=Lh (show Blk W3 r 32 (adv Ad.zero) by rw [hW3];exact HZ2.out.alloc _)
 have HB3:=Lh (show Below w.heap.size w W3 by rw [hW3];exact HB2.out.alloc HB2.out.size _)
 have HW3:=Lh hW3
 have HDD:=Lh hd
 clear b htab HZ1 HB1 HZ2 HB2 hW3 hd
 have HLOOK:=Lh hlook
 clear hlook
 go_upto_region 6 with (at_lookup;refine uS rfl _ _ _ rfl rfl rfl HLOOK.out ?_)
 rw [←HW3.out,←HDD.out]
 refine bZ (n:=9) rfl fun W0 B0=>?_
 refine stF 0 (.bool true) rfl B0 (stF 1 (.bool false) rfl B0 (stF 2 (.bool false) rfl B0 (stF 3 (.pointer (some ⟨d,2,none⟩)) rfl B0 (stG 4 (.int .i64 (m:Int)) rfl B0 (fun W b=>xLd 3 (.tmp 30) ⟨d,2,none⟩ ((HP3.out.below b HP3.out.lt).cell 2)) (stF 5 (.bool E) rfl B0 ?_)))))
 refine stB 6 rfl (iZ E _) B0 fun W1 B1=>?_
 clear B0
 refine stG 7 (.bool true) rfl B1 (fun _ _=>ex_intne .i64 3 3 (.tmp 31) (.tmp 33) (by kernel_rfl) ((m:Int)) ((dN E:Int)) (by kernel_rfl) (by kernel_rfl) (by kernel_rfl) HM.out) (stF 8 (.bool true) rfl B1 ?_)
 refine aZ ⟨#[.string s,undef,.pointer (some ⟨r,0,none⟩),.int .i64 0,.int .i64 0,.bool E,.pointer (some ⟨d,0,none⟩),.bool true,undef,undef,.string s,.int .i64 0,.int .i64 0,.bool false,undef,undef,.string s,.int .u8 (s[0].toNat:Int),.int .u8 (bits .and .u8 (s[0].toNat:Int) 1),.bool E,.tuple #[part (k:Int) (p:Int) (m:Int),.bool true],.map (some U1.heap.size),.string s,.int .i64 (s.size:Int),.tuple #[part (k:Int) (p:Int) (m:Int),.bool true],part (k:Int) (p:Int) (m:Int),.bool true,.bool true,.bool false,.bool false,.pointer (some ⟨d,2,none⟩),.int .i64 (m:Int),.bool E,.int .i64 (dN E:Int),.bool true,.bool true,undef,undef,undef,undef,undef,undef,undef,undef,undef,undef,undef,undef,undef,undef,undef,undef,undef,undef,undef,undef,undef,undef,undef,undef,undef,undef,undef,undef,undef,undef,undef,undef,undef,undef],[]⟩ (by kernel_rfl) (by kernel_rfl) ?_
 have HZ4:=Lh (HZ3.out.below B1 HZ3.out.lt)
 have HB4:=Lh (HB3.out.trans (B1.mono HB3.out.size))
 clear B1
 go_wp2_with (refine wpList_store_row rfl 32 _ _ rfl r (adv Ad.zero) rfl rfl 32 (adv Ad.zero) ?_ aW rfl (lV _) ?_;exact HZ4.out)
 exact nG s w W1 r Ad.zero 5 (by kernel_rfl) (by kernel_rfl) (by kernel_rfl) _ rfl _ HZ4.out HB4.out HR.out HD.out
theorem dec_good (s:ByteArray) (v:UInt8) (l:List UInt8) (hs:s.size≤9223372036854775807) (hs1:s.extract 1 s.size=txt (v::l)) (hk:chk s 3=0) (h0:1≤s.size) (E:Bool) (hE:odd (byteAt s 0)=E) (k p m:Nat) (h:Bool) (hp:p=portOf h) (hm:m=dN E) (hsz:sizes s.size=((k,p,m),true)) (hl:l.length=k+p+m) (hd:gQ s=(nJ E v.toNat l k h,0)) (w:World):
  Calls Tryz.prog 68 #[.string s] w (Rt w (dO s)):=by
 have HS:=Lh hs
 have HK:=Lh hk
 have HD:=Lh hd
 have HSZ:=Lh hsz
 have HS1:=Lh hs1
 have HLL:=Lh hl
 have HPP:=Lh hp
 have HM:=Lh (show (m:Int)=(dN E:Int) by omega)
 have HL28:=Lh (show l.length≤28 by
  have:=HSZ.out
  rcases sizes_shape s.size E with ⟨k',h',q1,q2⟩ | ⟨_,q⟩ | ⟨_,_,q⟩
  ·obtain ⟨q3,q4⟩:=shape_cases _ _ _ _ q1
   rw [this] at q2
   simp only [Prod.mk.injEq,and_true] at q2
   have:portOf h'≤2:=by cases h'<;>decide
   have:dN E≤8:=by cases E<;>decide
   omega
  ·rw [this] at q;cases q
  ·rw [this] at q;exact absurd hm q)
 have l0:(0:Int) < (s.size:Int):=by omega
 have l1:(1:Int)≤(s.size:Int):=by omega
 have EP:=Lh (show decide (0 < p)=h by rw [hp];cases h<;>rfl)
 have e0:(bits .and .u8 (s[0].toNat:Int) 1 !=0)=E:=by rw [←hE,bD s 0 h0];exact jV ⟨s[0].toNat,s[0].toNat_lt⟩
 clear hk hd hsz hE hl hp hm hs1
 obtain ⟨r,w0,HR2,HW0,HZ,HB0,HR⟩:=kQ w ((adv Ad.zero)) ((adv Ad.zero)) 32 rfl
 go_enter Tryz.func68,Tryz.ntmps68
 go_wp2_with fail
 rw [←HR2.out]
 refine (fP s 3 (by decide) _ HS.out).mono ?_
 rintro e U1 ⟨rfl,b⟩
 rw [HK.out]
 have HZ1:=Lh (show Blk U1 r 32 (adv Ad.zero) by have q:=HZ.out.below (B:=w0.heap.size) (w':=U1) (by rw [HW0.out];exact b) HZ.out.lt;exact q)
 have HB1:=Lh (show Below w.heap.size w U1 by have q:=HB0.out;rw [HW0.out] at q;exact q.trans (b.mono q.size))
 clear b HZ HB0 HW0
 go_wp2_with fail
 refine (nC _).mono ?_
 rintro e U2 ⟨rfl,htab,b⟩
 have HZ2:=Lh (HZ1.out.below b HZ1.out.lt)
 have HB2:=Lh (HB1.out.trans (b.mono HB1.out.size))
 have hlook:=TabB.look htab s.size HS.out
 rw [HSZ.out] at hlook
 obtain ⟨W3,hW3⟩:=eqx (U2.alloc (.cells #[.int .i64 (k:Int),.int .i64 (p:Int),.int .i64 (m:Int)] 190))
 obtain ⟨d,hd⟩:=eqx U2.heap.size
 have HP3:=Lh (show Blk W3 d 190 #[.int .i64 (k:Int),.int .i64 (p:Int),.int .i64 (m:Int)] by rw [hW3,hd];exact Blk.new _ _ _)
 have HZ3:=Lh (show Blk W3 r 32 (adv Ad.zero) by rw [hW3];exact HZ2.out.alloc _)
 have HB3:=Lh (show Below w.heap.size w W3 by rw [hW3];exact HB2.out.alloc HB2.out.size _)
 have HW3:=Lh hW3
 have HDD:=Lh hd
 clear b htab HZ1 HB1 HZ2 HB2 hW3 hd
 have HLOOK:=Lh hlook
 clear hlook
 go_upto_region 6 with (at_lookup;refine uS rfl _ _ _ rfl rfl rfl HLOOK.out ?_)
 rw [←HW3.out,←HDD.out]
 refine bZ (n:=9) rfl fun W0 B0=>?_
 refine stF 0 (.bool true) rfl B0 (stF 1 (.bool false) rfl B0 (stF 2 (.bool false) rfl B0 (stF 3 (.pointer (some ⟨d,2,none⟩)) rfl B0 (stG 4 (.int .i64 (m:Int)) rfl B0 (fun W b=>xLd 3 (.tmp 30) ⟨d,2,none⟩ ((HP3.out.below b HP3.out.lt).cell 2)) (stF 5 (.bool E) rfl B0 ?_)))))
 refine stB 6 rfl (iZ E _) B0 fun W1 B1=>?_
 clear B0
 refine stG 7 (.bool false) rfl B1 (fun _ _=>ex_intneq .i64 3 3 (.tmp 31) (.tmp 33) (by kernel_rfl) ((m:Int)) ((dN E:Int)) (by kernel_rfl) (by kernel_rfl) (by kernel_rfl) HM.out) (stF 8 (.bool false) rfl B1 ?_)
 refine aZ ⟨#[.string s,undef,.pointer (some ⟨r,0,none⟩),.int .i64 0,.int .i64 0,.bool E,.pointer (some ⟨d,0,none⟩),.bool true,undef,undef,.string s,.int .i64 0,.int .i64 0,.bool false,undef,undef,.string s,.int .u8 (s[0].toNat:Int),.int .u8 (bits .and .u8 (s[0].toNat:Int) 1),.bool E,.tuple #[part (k:Int) (p:Int) (m:Int),.bool true],.map (some U1.heap.size),.string s,.int .i64 (s.size:Int),.tuple #[part (k:Int) (p:Int) (m:Int),.bool true],part (k:Int) (p:Int) (m:Int),.bool true,.bool true,.bool false,.bool false,.pointer (some ⟨d,2,none⟩),.int .i64 (m:Int),.bool E,.int .i64 (dN E:Int),.bool false,.bool false,undef,undef,undef,undef,undef,undef,undef,undef,undef,undef,undef,undef,undef,undef,undef,undef,undef,undef,undef,undef,undef,undef,undef,undef,undef,undef,undef,undef,undef,undef,undef,undef,undef,undef],[]⟩ (by kernel_rfl) (by kernel_rfl) ?_
 have HZ4:=Lh (HZ3.out.below B1 HZ3.out.lt)
 have HP4:=Lh (HP3.out.below B1 HP3.out.lt)
 have HB4:=Lh (HB3.out.trans (B1.mono HB3.out.size))
 clear B1 HZ3 HP3 HB3 HLOOK e0
 go_wp2_with fail
 rw [HS1.out]
 refine (taker_any (txt (v::l)) _).mono ?_
 rintro e U4 ⟨rfl,hg,b⟩
 obtain ⟨g,hgg⟩:=eqx W1.heap.size
 rw [←hgg] at hg ⊢
 obtain ⟨X,hX⟩:=eqx U4.heap.size
 obtain ⟨U5,hU5⟩:∃U,U=U4.alloc (.cells #[.bool E,.int .i64 0,.string ⟨#[]⟩,.bool h,.int .i64 0,.string ⟨#[]⟩] 32):=⟨_,rfl⟩
 have HF5:=Lh (show Fl w U5 r d g X k p m (txt (v::l)) #[.bool E,.int .i64 0,.string ⟨#[]⟩,.bool h,.int .i64 0,.string ⟨#[]⟩] by
  have q1:=HZ4.out.lt
  have q2:=HP4.out.lt
  have q3:=hg.lt
  have q4:=HR.out
  have q5:=HB4.out.size
  have q6:=b.size
  rw [hU5,hX]
  exact ⟨(HZ4.out.below b q1).alloc _,(HP4.out.below b q2).alloc _,hg.alloc _,Blk.new _ _ _,(HB4.out.trans (b.mono q5)).alloc (by omega) _,⟨by omega,by omega,by omega⟩,⟨by omega,by omega,by omega,by omega,by omega⟩⟩)
 have HP5:=Lh (HP4.out.below b HP4.out.lt)
 have HU5:=Lh hU5
 have HX:=Lh hX
 have c1:=HP5.out.cell 1
 simp only [List.getElem?_toArray,List.getElem?_cons_zero,List.getElem?_cons_succ] at c1
 clear hU5 hX b hg hgg HZ4 HP4 HB4
 go_wp2_with fail
 rw [EP.out,←HU5.out,←HX.out]
 clear c1 HU5 HX EP HP5
 refine (wM g 1 (v::l) (txt [v]) (txt l) (by have:=HL28.out;simp only [List.length_cons];omega) (by simp) rfl rfl U5 HF5.out.box).mono ?_
 rintro e U6 ⟨rfl,q,hb⟩
 have HF6:=Lh (HF5.out.take q hb)
 clear q hb
 go_wp2_with fail
 refine (jW (txt [v]) U6).mono ?_
 rintro e U7 ⟨c,rfl,hc,b,qV⟩
 have HB7:=Lh b
 clear b
 go_wp2_with fail
 refine (answer (sF c (txt [v]) 0 false U7 (by rw [aU];simp only [List.length_cons,List.length_nil];omega) (Nat.zero_le _) qV) (congrArg (fun z:Nat=>Value.int .u8 (z:Int)) (u8_one v))).mono ?_
 rintro e U8 ⟨rfl,mv⟩
 have HF8:=Lh (HF6.out.below (below_move HB7.out mv hc (Nat.le_refl _)))
 clear hc qV mv HB7
 obtain ⟨N8,hN8⟩:∃n:Nat,n=v.toNat:=⟨_,rfl⟩
 have l8:N8 < 256:=by rw [hN8];exact v.toNat_lt
 rw [←hN8]
 have HN8:=Lh hN8
 clear hN8
 have fz:=HF8.out.x.frozen 1
 have xc:=HF8.out.x.cell 1
 simp only [List.getElem?_toArray,List.getElem?_cons_zero,List.getElem?_cons_succ] at xc
 obtain ⟨U9,hU9⟩:∃U,U=U8.setCell ⟨X,1,none⟩ (.int .i64 (N8:Int)):=⟨_,rfl⟩
 have HF9:=Lh (show Fl w U9 r d g X k p m (txt l) #[.bool E,.int .i64 (N8:Int),.string ⟨#[]⟩,.bool h,.int .i64 0,.string ⟨#[]⟩] by rw [hU9];exact HF8.out.set 1 (.int .i64 (N8:Int)))
 have HU9:=Lh hU9
 clear hU9
 have v0:=HF9.out.pd.cell 0
 simp only [List.getElem?_toArray,List.getElem?_cons_zero] at v0
 rw [HU9.out] at v0
 go_wp2_with fail
 rw [←HU9.out]
 clear v0 fz xc HU9
 obtain ⟨TI,hTI⟩:∃T,T=txt (l.take k):=⟨_,rfl⟩
 refine (wM g k l TI (txt (l.drop k)) (by have:=HL28.out;omega) (by have:=HLL.out;omega) hTI rfl U9 HF9.out.box).mono ?_
 rintro e U10 ⟨rfl,q,hb⟩
 have HF10:=Lh (HF9.out.take q hb)
 have HTI:=Lh hTI
 clear q hb hTI
 have fz:=HF10.out.x.frozen 2
 have xc:=HF10.out.x.cell 2
 simp only [List.getElem?_toArray,List.getElem?_cons_zero,List.getElem?_cons_succ] at xc
 obtain ⟨U11,hU11⟩:∃U,U=U10.setCell ⟨X,2,none⟩ (.string TI):=⟨_,rfl⟩
 have HF11:=Lh (show Fl w U11 r d g X k p m (txt (l.drop k)) #[.bool E,.int .i64 (N8:Int),.string TI,.bool h,.int .i64 0,.string ⟨#[]⟩] by rw [hU11];exact HF10.out.set 2 (.string TI))
 have HU11:=Lh hU11
 clear hU11
 have v0:=HF11.out.pd.cell 1
 simp only [List.getElem?_toArray,List.getElem?_cons_zero,List.getElem?_cons_succ] at v0
 rw [HU11.out] at v0
 go_wp2_with fail
 rw [←HU11.out]
 clear v0 fz xc HU11
 obtain ⟨TP,hTP⟩:∃T,T=txt ((l.drop k).take p):=⟨_,rfl⟩
 refine (wM g p (l.drop k) TP (txt ((l.drop k).drop p)) (by have:=HL28.out;rw [List.length_drop];omega) (by have:=HLL.out;rw [List.length_drop];omega) hTP rfl U11 HF11.out.box).mono ?_
 rintro e U12 ⟨rfl,q,hb⟩
 have HF12:=Lh (HF11.out.take q hb)
 have HTP:=Lh hTP
 clear q hb hTP
 obtain ⟨N16,hN16⟩:∃n:Nat,n=numO TP 0 false 2:=⟨_,rfl⟩
 have l16:N16≤65535:=by rw [hN16];exact wZ _ _ _
 have HN0:=Lh hN16
 have HN:=Lh (show (N16:Int)=(num (txt l) k (portOf h):Int) by rw [hN16,HTP.out,HPP.out,u16_part l k h (by have:=HLL.out;have:=HPP.out;omega)])
 have HTPS:=Lh (show TP.size≤28 by rw [HTP.out,aU,List.length_take,List.length_drop];have:=HL28.out;omega)
 clear hN16
 go_wp2_with fail
 refine (jW TP U12).mono ?_
 rintro e U13 ⟨c,rfl,hc,b,qV⟩
 have HB13:=Lh b
 clear b
 go_wp2_with fail
 refine (answer (yL c TP 0 false U13 (by have:=HTPS.out;omega) (Nat.zero_le _) qV) (congrArg (fun z:Nat=>Value.int .u16 (z:Int)) (show numO TP 0 false 2=N16 from HN0.out.symm))).mono ?_
 rintro e U14 ⟨rfl,mv⟩
 have HF14:=Lh (HF12.out.below (below_move HB13.out mv hc (Nat.le_refl _)))
 clear hc qV mv HB13
 have fz:=HF14.out.x.frozen 4
 have xc:=HF14.out.x.cell 4
 simp only [List.getElem?_toArray,List.getElem?_cons_zero,List.getElem?_cons_succ] at xc
 obtain ⟨U15,hU15⟩:∃U,U=U14.setCell ⟨X,4,none⟩ (.int .i64 (N16:Int)):=⟨_,rfl⟩
 have HF15:=Lh (show Fl w U15 r d g X k p m (txt ((l.drop k).drop p)) #[.bool E,.int .i64 (N8:Int),.string TI,.bool h,.int .i64 (N16:Int),.string ⟨#[]⟩] by rw [hU15];exact HF14.out.set 4 (.int .i64 (N16:Int)))
 have HU15:=Lh hU15
 clear hU15
 have v0:=HF15.out.pd.cell 2
 simp only [List.getElem?_toArray,List.getElem?_cons_zero,List.getElem?_cons_succ] at v0
 rw [HU15.out] at v0
 go_wp2_with fail
 rw [←HU15.out]
 clear v0 fz xc HU15
 obtain ⟨TM,hTM⟩:∃T,T=txt (((l.drop k).drop p).take m):=⟨_,rfl⟩
 refine (wM g m ((l.drop k).drop p) TM (txt (((l.drop k).drop p).drop m)) (by have:=HL28.out;rw [List.length_drop,List.length_drop];omega) (by have:=HLL.out;rw [List.length_drop,List.length_drop];omega) hTM rfl U15 HF15.out.box).mono ?_
 rintro e U16 ⟨rfl,q,hb⟩
 have x8:=Lh (HF15.out.take q hb)
 have HTM:=Lh hTM
 clear q hb hTM
 have fz:=x8.out.x.frozen 5
 have xc:=x8.out.x.cell 5
 simp only [List.getElem?_toArray,List.getElem?_cons_zero,List.getElem?_cons_succ] at xc
 obtain ⟨U17,hU17⟩:∃U,U=U16.setCell ⟨X,5,none⟩ (.string TM):=⟨_,rfl⟩
 have HF17:=Lh (show Fl w U17 r d g X k p m (txt (((l.drop k).drop p).drop m)) #[.bool E,.int .i64 (N8:Int),.string TI,.bool h,.int .i64 (N16:Int),.string TM] by rw [hU17];exact x8.out.set 5 (.string TM))
 have HU17:=Lh hU17
 clear hU17
 have eM:TM=txt (l.drop (k+portOf h)):=by rw [HTM.out,List.drop_drop,←HPP.out,List.take_of_length_le (by have:=HLL.out;rw [List.length_drop];omega)]
 have HEQ:=Lh (show #[.bool E,.int .i64 (N8:Int),.string TI,.bool h,.int .i64 (N16:Int),.string TM]=adv (nJ E v.toNat l k h) by
  show _=(#[.bool E,.int .i64 ((v.toNat:Nat):Int),.string (txt (l.take k)),.bool h,.int .i64 (num (txt l) k (portOf h):Int),.string (txt (l.drop (k+portOf h)))]:Array Value)
  rw [eM,HN8.out,HTI.out,HN.out])
 clear eM
 have HXX:=HF17.out.x
 have HZZ:=HF17.out.z
 rw [HU17.out] at HXX HZZ
 have HX2:=Lh HXX
 have HZ2:=Lh HZZ
 clear HXX HZZ
 go_wp2_with (first
  | (refine wpList_load_row rfl 32 _ rfl X rfl 32 #[.bool E,.int .i64 (N8:Int),.string TI,.bool h,.int .i64 (N16:Int),.string TM] (0,0) _ ?_ Tryz.underlying32 rfl aW ?_;exact HX2.out)
  | (refine wpList_store_row rfl 32 _ _ rfl r #[.bool E,.int .i64 (N8:Int),.string TI,.bool h,.int .i64 (N16:Int),.string TM] rfl rfl 32 (adv Ad.zero) ?_ aW rfl (by simp [Value.oneCell']) ?_;exact HZ2.out))
 rw [←HU17.out]
 exact nG s w U17 r (nJ E v.toNat l k h) 0 (by kernel_rfl) (by kernel_rfl) (by kernel_rfl) _ HEQ.out _ HF17.out.z HF17.out.b HR.out HD.out
theorem chk_cases (s:ByteArray) (k:Nat):(s.size=0∧chk s k=4)∨(s.size≠0∧byteAt s 0 / 16≠k∧chk s k=7)∨(s.size≠0∧byteAt s 0 / 16=k∧chk s k=0):=by
 by_cases h0:s.size=0
 ·exact .inl ⟨h0,by unfold chk;rw [if_pos h0]⟩
 by_cases h:byteAt s 0 / 16=k
 ·exact .inr (.inr ⟨h0,h,by unfold chk;rw [if_neg h0,if_pos h]⟩)
 ·exact .inr (.inl ⟨h0,h,by unfold chk;rw [if_neg h0,if_neg h]⟩)
theorem DecodeAdd_any (s:ByteArray) (hs:s.size≤9223372036854775807) (w:World):
  Calls Tryz.prog 68 #[.string s] w (Rt w (dO s)):=by
 rcases chk_cases s 3 with ⟨h0,hk⟩ | ⟨h0,h1,hk⟩ | ⟨h0,h1,hk⟩
 ·exact dec_bad s hs 4 (.inl rfl) hk (vN s h0) w
 ·exact dec_bad s hs 7 (.inr rfl) hk (xY s h0 h1) w
 rcases sizes_shape s.size (odd (byteAt s 0)) with ⟨k,h,q1,q2⟩ | ⟨q1,q2⟩ | ⟨q1,q2,q3⟩
 ·obtain ⟨q3,q4⟩:=shape_cases _ _ _ _ q1
  obtain ⟨u,v,l,rfl,hl⟩:=two_of s (by omega)
  exact dec_good _ v l hs (rX (u::v::l) 1) hk (by omega) _ rfl k (portOf h) (dN (odd (byteAt (txt (u::v::l)) 0))) h rfl rfl q2 (by omega) (jA _ k h h0 h1 q1) w
 ·obtain ⟨⟨⟨k,p,m⟩,b⟩,hb⟩:∃x,x=sizes s.size:=⟨_,rfl⟩
  rw [←hb] at q2
  have q2:b=false:=q2
  subst q2
  exact kH s hs hk (by omega) _ rfl k p m hb.symm (uG s h0 h1 q1) w
 ·obtain ⟨⟨⟨k,p,m⟩,b⟩,hb⟩:∃x,x=sizes s.size:=⟨_,rfl⟩
  rw [←hb] at q2 q3
  have q2:b=true:=q2
  subst q2
  exact dec_mac s hs hk (by omega) _ rfl k p m hb.symm q3 (uG s h0 h1 q1) w
theorem decR_bad (s:ByteArray) (hs:s.size≤9223372036854775807) (z:Int) (hz:z=4∨z=7) (hk:chk s 4=z) (hd:fF s=(⟨#[]⟩,z)) (w:World):
  Calls Tryz.prog 72 #[.string s] w (Rt w (iJ s)):=by
 have HS:=Lh hs
 have HK:=Lh hk
 have HD:=Lh hd
 have e0:(z !=0)=true:=by rw [bne_iff_ne];omega
 clear hk hd hz
 obtain ⟨r,w0,HR2,HW0,HZ,HB0,HR⟩:=kQ w ((rmv ⟨#[]⟩)) ((rmv ⟨#[]⟩)) 34 rfl
 go_enter Tryz.func72,Tryz.ntmps72
 go_wp2_with fail
 rw [←HR2.out]
 refine (fP s 4 (by decide) _ HS.out).mono ?_
 rintro e U1 ⟨rfl,b⟩
 rw [HK.out]
 have HZ1:=Lh (show Blk U1 r 34 (rmv ⟨#[]⟩) by have q:=HZ.out.below (B:=w0.heap.size) (w':=U1) (by rw [HW0.out];exact b) HZ.out.lt;exact q)
 have HB1:=Lh (show Below w.heap.size w U1 by have q:=HB0.out;rw [HW0.out] at q;exact q.trans (b.mono q.size))
 clear b HZ HB0 HW0
 go_wp2_with (refine wpList_store_row rfl 34 _ _ rfl r (rmv ⟨#[]⟩) rfl rfl 34 (rmv ⟨#[]⟩) ?_ dQ rfl (kZ _) ?_;exact HZ1.out)
 exact dM s w U1 r ⟨#[]⟩ z rfl rfl rfl _ rfl _ HZ1.out HB1.out HR.out HD.out
theorem decR_good (s T:ByteArray) (hs:s.size≤9223372036854775807) (h0:1≤s.size) (hT:s.extract 1 s.size=T) (hTs:T.size≤9223372036854775807) (hk:chk s 4=0) (hv:decide (1≤T.size∧T.size≤37)=true) (hd:fF s=(T,0)) (w:World):
  Calls Tryz.prog 72 #[.string s] w (Rt w (iJ s)):=by
 have HS:=Lh hs
 have HK:=Lh hk
 have HD:=Lh hd
 have HT:=Lh hT
 have HV:=Lh hv
 have HTS:=Lh hTs
 have l1:(1:Int)≤(s.size:Int):=by omega
 clear hk hd hT hv hTs
 obtain ⟨r,w0,HR2,HW0,HZ,HB0,HR⟩:=kQ w ((rmv ⟨#[]⟩)) ((rmv ⟨#[]⟩)) 34 rfl
 go_enter Tryz.func72,Tryz.ntmps72
 go_wp2_with fail
 rw [←HR2.out]
 refine (fP s 4 (by decide) _ HS.out).mono ?_
 rintro e U1 ⟨rfl,b⟩
 rw [HK.out]
 have HZ1:=Lh (show Blk U1 r 34 (rmv ⟨#[]⟩) by have q:=HZ.out.below (B:=w0.heap.size) (w':=U1) (by rw [HW0.out];exact b) HZ.out.lt;exact q)
 have HB1:=Lh (show Below w.heap.size w U1 by have q:=HB0.out;rw [HW0.out] at q;exact q.trans (b.mono q.size))
 clear b HZ HB0 HW0
 obtain ⟨X,hX⟩:=eqx U1.heap.size
 obtain ⟨U2,hU2⟩:∃U,U=U1.alloc (.cells (rmv T) 34):=⟨_,rfl⟩
 have hx2:Blk U2 X 34 (rmv T):=by rw [hU2,hX];exact Blk.new _ _ _
 have HX2:=Lh hx2
 have HZ2:=Lh (show Blk U2 r 34 (rmv ⟨#[]⟩) by rw [hU2];exact HZ1.out.alloc _)
 have HB2:=Lh (show Below w.heap.size w U2 by rw [hU2];exact HB1.out.alloc HB1.out.size _)
 have HU2:=Lh hU2
 have HX:=Lh hX
 clear hU2 hX hx2 HZ1 HB1
 go_upto_region 5 with fail
 rw [HT.out,←HU2.out,←HX.out]
 clear HT HU2 HX
 go_wp2_with (refine wpList_load_row rfl 34 _ rfl X rfl 34 (rmv T) (0,0) _ ?_ Tryz.underlying34 rfl dQ ?_;exact HX2.out)
 refine (jY T _ HTS.out).mono ?_
 rintro e U3 ⟨rfl,b⟩
 rw [HV.out]
 have HX3:=Lh (HX2.out.below b HX2.out.lt)
 have HZ3:=Lh (HZ2.out.below b HZ2.out.lt)
 have HB3:=Lh (HB2.out.trans (b.mono HB2.out.size))
 clear b HX2 HZ2 HB2
 go_wp2_with (first
  | (refine wpList_load_row rfl 34 _ rfl X rfl 34 (rmv T) (0,0) _ ?_ Tryz.underlying34 rfl dQ ?_;exact HX3.out)
  | (refine wpList_store_row rfl 34 _ _ rfl r (rmv T) rfl rfl 34 (rmv ⟨#[]⟩) ?_ dQ rfl (kZ _) ?_;exact HZ3.out))
 exact dM s w U3 r T 0 rfl rfl rfl _ rfl _ HZ3.out HB3.out HR.out HD.out
theorem decR_no (s T:ByteArray) (hs:s.size≤9223372036854775807) (h0:1≤s.size) (hT:s.extract 1 s.size=T) (hTs:T.size≤9223372036854775807) (hk:chk s 4=0) (hv:decide (1≤T.size∧T.size≤37)=false) (hd:fF s=(⟨#[]⟩,5)) (w:World):
  Calls Tryz.prog 72 #[.string s] w (Rt w (iJ s)):=by
 have HS:=Lh hs
 have HK:=Lh hk
 have HD:=Lh hd
 have HT:=Lh hT
 have HV:=Lh hv
 have HTS:=Lh hTs
 have l1:(1:Int)≤(s.size:Int):=by omega
 clear hk hd hT hv hTs
 obtain ⟨r,w0,HR2,HW0,HZ,HB0,HR⟩:=kQ w ((rmv ⟨#[]⟩)) ((rmv ⟨#[]⟩)) 34 rfl
 go_enter Tryz.func72,Tryz.ntmps72
 go_wp2_with fail
 rw [←HR2.out]
 refine (fP s 4 (by decide) _ HS.out).mono ?_
 rintro e U1 ⟨rfl,b⟩
 rw [HK.out]
 have HZ1:=Lh (show Blk U1 r 34 (rmv ⟨#[]⟩) by have q:=HZ.out.below (B:=w0.heap.size) (w':=U1) (by rw [HW0.out];exact b) HZ.out.lt;exact q)
 have HB1:=Lh (show Below w.heap.size w U1 by have q:=HB0.out;rw [HW0.out] at q;exact q.trans (b.mono q.size))
 clear b HZ HB0 HW0
 obtain ⟨X,hX⟩:=eqx U1.heap.size
 obtain ⟨U2,hU2⟩:∃U,U=U1.alloc (.cells (rmv T) 34):=⟨_,rfl⟩
 have hx2:Blk U2 X 34 (rmv T):=by rw [hU2,hX];exact Blk.new _ _ _
 have HX2:=Lh hx2
 have HZ2:=Lh (show Blk U2 r 34 (rmv ⟨#[]⟩) by rw [hU2];exact HZ1.out.alloc _)
 have HB2:=Lh (show Below w.heap.size w U2 by rw [hU2];exact HB1.out.alloc HB1.out.size _)
 have HU2:=Lh hU2
 have HX:=Lh hX
 clear hU2 hX hx2 HZ1 HB1
 go_upto_region 5 with fail
 rw [HT.out,←HU2.out,←HX.out]
 clear HT HU2 HX
 go_wp2_with (refine wpList_load_row rfl 34 _ rfl X rfl 34 (rmv T) (0,0) _ ?_ Tryz.underlying34 rfl dQ ?_;exact HX2.out)
 refine (jY T _ HTS.out).mono ?_
 rintro e U3 ⟨rfl,b⟩
 rw [HV.out]
 have HX3:=Lh (HX2.out.below b HX2.out.lt)
 have HZ3:=Lh (HZ2.out.below b HZ2.out.lt)
 have HB3:=Lh (HB2.out.trans (b.mono HB2.out.size))
 clear b HX2 HZ2 HB2
 go_wp2_with (first
  | (refine wpList_load_row rfl 34 _ rfl X rfl 34 (rmv T) (0,0) _ ?_ Tryz.underlying34 rfl dQ ?_;exact HX3.out)
  | (refine wpList_store_row rfl 34 _ _ rfl r (rmv ⟨#[]⟩) rfl rfl 34 (rmv ⟨#[]⟩) ?_ dQ rfl (kZ _) ?_;exact HZ3.out))
 exact dM s w U3 r ⟨#[]⟩ 5 rfl rfl rfl _ rfl _ HZ3.out HB3.out HR.out HD.out
theorem DecodeRemove_any (s:ByteArray) (hs:s.size≤9223372036854775807) (w:World):
  Calls Tryz.prog 72 #[.string s] w (Rt w (iJ s)):=by
 rcases chk_cases s 4 with ⟨h0,hk⟩ | ⟨h0,h1,hk⟩ | ⟨h0,h1,hk⟩
 ·exact decR_bad s hs 4 (.inl rfl) hk (oC s h0) w
 ·exact decR_bad s hs 7 (.inr rfl) hk (pI s h0 h1) w
 have hT:s.extract 1 s.size=zH s:=rX s.data.toList 1
 have hz:(zH s).size=s.size - 1:=by rw [aU,List.length_drop,bG]
 by_cases h:2≤s.size∧s.size≤38
 ·exact decR_good s _ hs (by omega) hT (by omega) hk (decide_eq_true (by omega)) (decR_t s h1 h) w
 ·exact decR_no s _ hs (by omega) hT (by omega) hk (decide_eq_false (by omega)) (decR_f s h0 h1 h) w
open Go.ChangeShapes Go.WideShapes Go.ChangeAt Go.RowKit
theorem may_tt (id:Int) (ip:ByteArray) (port:Int) (mac:ByteArray) (w:World):
  Calls Tryz.prog 161 #[.agg (adv ⟨true,id,ip,true,port,mac⟩)] w (Rt w (.bool (decide (Ad.May ⟨true,id,ip,true,port,mac⟩)))):=by
 obtain ⟨M,hM⟩:=eqx (decide (Ad.May ⟨true,id,ip,true,port,mac⟩))
 rw [←hM]
 by_cases uU:0≤id
 ·by_cases vM:id≤255
  ·by_cases h_s4:(ip.size:Int)=4
   ·by_cases nV:0≤port
    ·by_cases nX:port≤65535
     ·by_cases h_mc:(mac.size:Int)=0
      ·have HMM:=Lh (show M=true from hM.trans (decide_eq_true ⟨⟨uU,vM⟩,.inl (show ip.size=4 by omega),⟨nV,nX⟩,.inl rfl,by show mac.size=0;omega⟩))
       clear hM
       have iM:((ip.size:Int)==4)=true:=by rw [beq_iff_eq];exact h_s4
       have vH:((mac.size:Int)==0)=true:=by rw [beq_iff_eq];exact h_mc
       clear h_s4 h_mc
       go_enter Tryz.func161,Tryz.ntmps161
       go_wp2
       rw [HMM.out]
       go_ret;exact ⟨rfl,(Below.refl _ _).alloc (Nat.le_refl _) _⟩
      ·have HMM:=Lh (show M=false from hM.trans (decide_eq_false fun m=>h_mc (by have q:mac.size=0:=m.2.2.2.2;omega)))
       clear hM
       have iM:((ip.size:Int)==4)=true:=by rw [beq_iff_eq];exact h_s4
       have vH:((mac.size:Int)==0)=false:=by rw [beq_eq_false_iff_ne];exact h_mc
       clear h_s4 h_mc
       go_enter Tryz.func161,Tryz.ntmps161
       go_wp2
       rw [HMM.out]
       go_ret;exact ⟨rfl,(Below.refl _ _).alloc (Nat.le_refl _) _⟩
     ·have HMM:=Lh (show M=false from hM.trans (decide_eq_false fun m=>nX m.2.2.1.2))
      clear hM
      have iM:((ip.size:Int)==4)=true:=by rw [beq_iff_eq];exact h_s4
      clear h_s4
      go_enter Tryz.func161,Tryz.ntmps161
      go_wp2
      rw [HMM.out]
      go_ret;exact ⟨rfl,(Below.refl _ _).alloc (Nat.le_refl _) _⟩
    ·have HMM:=Lh (show M=false from hM.trans (decide_eq_false fun m=>nV m.2.2.1.1))
     clear hM
     have iM:((ip.size:Int)==4)=true:=by rw [beq_iff_eq];exact h_s4
     clear h_s4
     go_enter Tryz.func161,Tryz.ntmps161
     go_wp2
     rw [HMM.out]
     go_ret;exact ⟨rfl,(Below.refl _ _).alloc (Nat.le_refl _) _⟩
   ·by_cases h_s16:(ip.size:Int)=16
    ·by_cases nV:0≤port
     ·by_cases nX:port≤65535
      ·by_cases h_mc:(mac.size:Int)=0
       ·have HMM:=Lh (show M=true from hM.trans (decide_eq_true ⟨⟨uU,vM⟩,.inr (show ip.size=16 by omega),⟨nV,nX⟩,.inl rfl,by show mac.size=0;omega⟩))
        clear hM
        have iM:((ip.size:Int)==4)=false:=by rw [beq_eq_false_iff_ne];exact h_s4
        have jU:((ip.size:Int)==16)=true:=by rw [beq_iff_eq];exact h_s16
        have vH:((mac.size:Int)==0)=true:=by rw [beq_iff_eq];exact h_mc
        clear h_s4 h_s16 h_mc
        go_enter Tryz.func161,Tryz.ntmps161
        go_wp2
        rw [HMM.out]
        go_ret;exact ⟨rfl,(Below.refl _ _).alloc (Nat.le_refl _) _⟩
       ·have HMM:=Lh (show M=false from hM.trans (decide_eq_false fun m=>h_mc (by have q:mac.size=0:=m.2.2.2.2;omega)))
        clear hM
        have iM:((ip.size:Int)==4)=false:=by rw [beq_eq_false_iff_ne];exact h_s4
        have jU:((ip.size:Int)==16)=true:=by rw [beq_iff_eq];exact h_s16
        have vH:((mac.size:Int)==0)=false:=by rw [beq_eq_false_iff_ne];exact h_mc
        clear h_s4 h_s16 h_mc
        go_enter Tryz.func161,Tryz.ntmps161
        go_wp2
        rw [HMM.out]
        go_ret;exact ⟨rfl,(Below.refl _ _).alloc (Nat.le_refl _) _⟩
      ·have HMM:=Lh (show M=false from hM.trans (decide_eq_false fun m=>nX m.2.2.1.2))
       clear hM
       have iM:((ip.size:Int)==4)=false:=by rw [beq_eq_false_iff_ne];exact h_s4
       have jU:((ip.size:Int)==16)=true:=by rw [beq_iff_eq];exact h_s16
       clear h_s4 h_s16
       go_enter Tryz.func161,Tryz.ntmps161
       go_wp2
       rw [HMM.out]
       go_ret;exact ⟨rfl,(Below.refl _ _).alloc (Nat.le_refl _) _⟩
     ·have HMM:=Lh (show M=false from hM.trans (decide_eq_false fun m=>nV m.2.2.1.1))
      clear hM
      have iM:((ip.size:Int)==4)=false:=by rw [beq_eq_false_iff_ne];exact h_s4
      have jU:((ip.size:Int)==16)=true:=by rw [beq_iff_eq];exact h_s16
      clear h_s4 h_s16
      go_enter Tryz.func161,Tryz.ntmps161
      go_wp2
      rw [HMM.out]
      go_ret;exact ⟨rfl,(Below.refl _ _).alloc (Nat.le_refl _) _⟩
    ·have HMM:=Lh (show M=false from hM.trans (decide_eq_false fun m=>by have q:ip.size=4∨ip.size=16:=m.2.1;omega))
     clear hM
     have iM:((ip.size:Int)==4)=false:=by rw [beq_eq_false_iff_ne];exact h_s4
     have jU:((ip.size:Int)==16)=false:=by rw [beq_eq_false_iff_ne];exact h_s16
     clear h_s4 h_s16
     go_enter Tryz.func161,Tryz.ntmps161
     go_wp2
     rw [HMM.out]
     go_ret;exact ⟨rfl,(Below.refl _ _).alloc (Nat.le_refl _) _⟩
  ·have HMM:=Lh (show M=false from hM.trans (decide_eq_false fun m=>vM m.1.2))
   clear hM
   go_enter Tryz.func161,Tryz.ntmps161
   go_wp2
   rw [HMM.out]
   go_ret;exact ⟨rfl,(Below.refl _ _).alloc (Nat.le_refl _) _⟩
 ·have HMM:=Lh (show M=false from hM.trans (decide_eq_false fun m=>uU m.1.1))
  clear hM
  go_enter Tryz.func161,Tryz.ntmps161
  go_wp2
  rw [HMM.out]
  go_ret;exact ⟨rfl,(Below.refl _ _).alloc (Nat.le_refl _) _⟩
theorem may_tf (id:Int) (ip:ByteArray) (port:Int) (mac:ByteArray) (w:World):
  Calls Tryz.prog 161 #[.agg (adv ⟨true,id,ip,false,port,mac⟩)] w (Rt w (.bool (decide (Ad.May ⟨true,id,ip,false,port,mac⟩)))):=by
 obtain ⟨M,hM⟩:=eqx (decide (Ad.May ⟨true,id,ip,false,port,mac⟩))
 rw [←hM]
 by_cases uU:0≤id
 ·by_cases vM:id≤255
  ·by_cases h_s4:(ip.size:Int)=4
   ·by_cases nV:0≤port
    ·by_cases nX:port≤65535
     ·by_cases jJ:port=0
      ·by_cases h_mc:(mac.size:Int)=0
       ·have HMM:=Lh (show M=true from hM.trans (decide_eq_true ⟨⟨uU,vM⟩,.inl (show ip.size=4 by omega),⟨nV,nX⟩,.inr jJ,by show mac.size=0;omega⟩))
        clear hM
        have iM:((ip.size:Int)==4)=true:=by rw [beq_iff_eq];exact h_s4
        have zC:(port==0)=true:=by rw [beq_iff_eq];exact jJ
        have vH:((mac.size:Int)==0)=true:=by rw [beq_iff_eq];exact h_mc
        clear h_s4 jJ h_mc
        go_enter Tryz.func161,Tryz.ntmps161
        go_wp2
        rw [HMM.out]
        go_ret;exact ⟨rfl,(Below.refl _ _).alloc (Nat.le_refl _) _⟩
       ·have HMM:=Lh (show M=false from hM.trans (decide_eq_false fun m=>h_mc (by have q:mac.size=0:=m.2.2.2.2;omega)))
        clear hM
        have iM:((ip.size:Int)==4)=true:=by rw [beq_iff_eq];exact h_s4
        have zC:(port==0)=true:=by rw [beq_iff_eq];exact jJ
        have vH:((mac.size:Int)==0)=false:=by rw [beq_eq_false_iff_ne];exact h_mc
        clear h_s4 jJ h_mc
        go_enter Tryz.func161,Tryz.ntmps161
        go_wp2
        rw [HMM.out]
        go_ret;exact ⟨rfl,(Below.refl _ _).alloc (Nat.le_refl _) _⟩
      ·have HMM:=Lh (show M=false from hM.trans (decide_eq_false fun m=>by have q:(false=true)∨port=0:=m.2.2.2.1;rcases q with q | q;cases q;exact jJ q))
       clear hM
       have iM:((ip.size:Int)==4)=true:=by rw [beq_iff_eq];exact h_s4
       have zC:(port==0)=false:=by rw [beq_eq_false_iff_ne];exact jJ
       clear h_s4 jJ
       go_enter Tryz.func161,Tryz.ntmps161
       go_wp2
       rw [HMM.out]
       go_ret;exact ⟨rfl,(Below.refl _ _).alloc (Nat.le_refl _) _⟩
     ·have HMM:=Lh (show M=false from hM.trans (decide_eq_false fun m=>nX m.2.2.1.2))
      clear hM
      have iM:((ip.size:Int)==4)=true:=by rw [beq_iff_eq];exact h_s4
      clear h_s4
      go_enter Tryz.func161,Tryz.ntmps161
      go_wp2
      rw [HMM.out]
      go_ret;exact ⟨rfl,(Below.refl _ _).alloc (Nat.le_refl _) _⟩
    ·have HMM:=Lh (show M=false from hM.trans (decide_eq_false fun m=>nV m.2.2.1.1))
     clear hM
     have iM:((ip.size:Int)==4)=true:=by rw [beq_iff_eq];exact h_s4
     clear h_s4
     go_enter Tryz.func161,Tryz.ntmps161
     go_wp2
     rw [HMM.out]
     go_ret;exact ⟨rfl,(Below.refl _ _).alloc (Nat.le_refl _) _⟩
   ·by_cases h_s16:(ip.size:Int)=16
    ·by_cases nV:0≤port
     ·by_cases nX:port≤65535
      ·by_cases jJ:port=0
       ·by_cases h_mc:(mac.size:Int)=0
        ·have HMM:=Lh (show M=true from hM.trans (decide_eq_true ⟨⟨uU,vM⟩,.inr (show ip.size=16 by omega),⟨nV,nX⟩,.inr jJ,by show mac.size=0;omega⟩))
         clear hM
         have iM:((ip.size:Int)==4)=false:=by rw [beq_eq_false_iff_ne];exact h_s4
         have jU:((ip.size:Int)==16)=true:=by rw [beq_iff_eq];exact h_s16
         have zC:(port==0)=true:=by rw [beq_iff_eq];exact jJ
         have vH:((mac.size:Int)==0)=true:=by rw [beq_iff_eq];exact h_mc
         clear h_s4 h_s16 jJ h_mc
         go_enter Tryz.func161,Tryz.ntmps161
         go_wp2
         rw [HMM.out]
         go_ret;exact ⟨rfl,(Below.refl _ _).alloc (Nat.le_refl _) _⟩
        ·have HMM:=Lh (show M=false from hM.trans (decide_eq_false fun m=>h_mc (by have q:mac.size=0:=m.2.2.2.2;omega)))
         clear hM
         have iM:((ip.size:Int)==4)=false:=by rw [beq_eq_false_iff_ne];exact h_s4
         have jU:((ip.size:Int)==16)=true:=by rw [beq_iff_eq];exact h_s16
         have zC:(port==0)=true:=by rw [beq_iff_eq];exact jJ
         have vH:((mac.size:Int)==0)=false:=by rw [beq_eq_false_iff_ne];exact h_mc
         clear h_s4 h_s16 jJ h_mc
         go_enter Tryz.func161,Tryz.ntmps161
         go_wp2
         rw [HMM.out]
         go_ret;exact ⟨rfl,(Below.refl _ _).alloc (Nat.le_refl _) _⟩
       ·have HMM:=Lh (show M=false from hM.trans (decide_eq_false fun m=>by have q:(false=true)∨port=0:=m.2.2.2.1;rcases q with q | q;cases q;exact jJ q))
        clear hM
        have iM:((ip.size:Int)==4)=false:=by rw [beq_eq_false_iff_ne];exact h_s4
        have jU:((ip.size:Int)==16)=true:=by rw [beq_iff_eq];exact h_s16
        have zC:(port==0)=false:=by rw [beq_eq_false_iff_ne];exact jJ
        clear h_s4 h_s16 jJ
        go_enter Tryz.func161,Tryz.ntmps161
        go_wp2
        rw [HMM.out]
        go_ret;exact ⟨rfl,(Below.refl _ _).alloc (Nat.le_refl _) _⟩
      ·have HMM:=Lh (show M=false from hM.trans (decide_eq_false fun m=>nX m.2.2.1.2))
       clear hM
       have iM:((ip.size:Int)==4)=false:=by rw [beq_eq_false_iff_ne];exact h_s4
       have jU:((ip.size:Int)==16)=true:=by rw [beq_iff_eq];exact h_s16
       clear h_s4 h_s16
       go_enter Tryz.func161,Tryz.ntmps161
       go_wp2
       rw [HMM.out]
       go_ret;exact ⟨rfl,(Below.refl _ _).alloc (Nat.le_refl _) _⟩
     ·have HMM:=Lh (show M=false from hM.trans (decide_eq_false fun m=>nV m.2.2.1.1))
      clear hM
      have iM:((ip.size:Int)==4)=false:=by rw [beq_eq_false_iff_ne];exact h_s4
      have jU:((ip.size:Int)==16)=true:=by rw [beq_iff_eq];exact h_s16
      clear h_s4 h_s16
      go_enter Tryz.func161,Tryz.ntmps161
      go_wp2
      rw [HMM.out]
      go_ret;exact ⟨rfl,(Below.refl _ _).alloc (Nat.le_refl _) _⟩
    ·have HMM:=Lh (show M=false from hM.trans (decide_eq_false fun m=>by have q:ip.size=4∨ip.size=16:=m.2.1;omega))
     clear hM
     have iM:((ip.size:Int)==4)=false:=by rw [beq_eq_false_iff_ne];exact h_s4
     have jU:((ip.size:Int)==16)=false:=by rw [beq_eq_false_iff_ne];exact h_s16
     clear h_s4 h_s16
     go_enter Tryz.func161,Tryz.ntmps161
     go_wp2
     rw [HMM.out]
     go_ret;exact ⟨rfl,(Below.refl _ _).alloc (Nat.le_refl _) _⟩
  ·have HMM:=Lh (show M=false from hM.trans (decide_eq_false fun m=>vM m.1.2))
   clear hM
   go_enter Tryz.func161,Tryz.ntmps161
   go_wp2
   rw [HMM.out]
   go_ret;exact ⟨rfl,(Below.refl _ _).alloc (Nat.le_refl _) _⟩
 ·have HMM:=Lh (show M=false from hM.trans (decide_eq_false fun m=>uU m.1.1))
  clear hM
  go_enter Tryz.func161,Tryz.ntmps161
  go_wp2
  rw [HMM.out]
  go_ret;exact ⟨rfl,(Below.refl _ _).alloc (Nat.le_refl _) _⟩
theorem may_ft (id:Int) (ip:ByteArray) (port:Int) (mac:ByteArray) (w:World):
  Calls Tryz.prog 161 #[.agg (adv ⟨false,id,ip,true,port,mac⟩)] w (Rt w (.bool (decide (Ad.May ⟨false,id,ip,true,port,mac⟩)))):=by
 obtain ⟨M,hM⟩:=eqx (decide (Ad.May ⟨false,id,ip,true,port,mac⟩))
 rw [←hM]
 by_cases uU:0≤id
 ·by_cases vM:id≤255
  ·by_cases h_s4:(ip.size:Int)=4
   ·by_cases nV:0≤port
    ·by_cases nX:port≤65535
     ·by_cases h_mc:(mac.size:Int)=8
      ·have HMM:=Lh (show M=true from hM.trans (decide_eq_true ⟨⟨uU,vM⟩,.inl (show ip.size=4 by omega),⟨nV,nX⟩,.inl rfl,by show mac.size=8;omega⟩))
       clear hM
       have iM:((ip.size:Int)==4)=true:=by rw [beq_iff_eq];exact h_s4
       have vH:((mac.size:Int)==8)=true:=by rw [beq_iff_eq];exact h_mc
       clear h_s4 h_mc
       go_enter Tryz.func161,Tryz.ntmps161
       go_wp2
       rw [HMM.out]
       go_ret;exact ⟨rfl,(Below.refl _ _).alloc (Nat.le_refl _) _⟩
      ·have HMM:=Lh (show M=false from hM.trans (decide_eq_false fun m=>h_mc (by have q:mac.size=8:=m.2.2.2.2;omega)))
       clear hM
       have iM:((ip.size:Int)==4)=true:=by rw [beq_iff_eq];exact h_s4
       have vH:((mac.size:Int)==8)=false:=by rw [beq_eq_false_iff_ne];exact h_mc
       clear h_s4 h_mc
       go_enter Tryz.func161,Tryz.ntmps161
       go_wp2
       rw [HMM.out]
       go_ret;exact ⟨rfl,(Below.refl _ _).alloc (Nat.le_refl _) _⟩
     ·have HMM:=Lh (show M=false from hM.trans (decide_eq_false fun m=>nX m.2.2.1.2))
      clear hM
      have iM:((ip.size:Int)==4)=true:=by rw [beq_iff_eq];exact h_s4
      clear h_s4
      go_enter Tryz.func161,Tryz.ntmps161
      go_wp2
      rw [HMM.out]
      go_ret;exact ⟨rfl,(Below.refl _ _).alloc (Nat.le_refl _) _⟩
    ·have HMM:=Lh (show M=false from hM.trans (decide_eq_false fun m=>nV m.2.2.1.1))
     clear hM
     have iM:((ip.size:Int)==4)=true:=by rw [beq_iff_eq];exact h_s4
     clear h_s4
     go_enter Tryz.func161,Tryz.ntmps161
     go_wp2
     rw [HMM.out]
     go_ret;exact ⟨rfl,(Below.refl _ _).alloc (Nat.le_refl _) _⟩
   ·by_cases h_s16:(ip.size:Int)=16
    ·by_cases nV:0≤port
     ·by_cases nX:port≤65535
      ·by_cases h_mc:(mac.size:Int)=8
       ·have HMM:=Lh (show M=true from hM.trans (decide_eq_true ⟨⟨uU,vM⟩,.inr (show ip.size=16 by omega),⟨nV,nX⟩,.inl rfl,by show mac.size=8;omega⟩))
        clear hM
        have iM:((ip.size:Int)==4)=false:=by rw [beq_eq_false_iff_ne];exact h_s4
        have jU:((ip.size:Int)==16)=true:=by rw [beq_iff_eq];exact h_s16
        have vH:((mac.size:Int)==8)=true:=by rw [beq_iff_eq];exact h_mc
        clear h_s4 h_s16 h_mc
        go_enter Tryz.func161,Tryz.ntmps161
        go_wp2
        rw [HMM.out]
        go_ret;exact ⟨rfl,(Below.refl _ _).alloc (Nat.le_refl _) _⟩
       ·have HMM:=Lh (show M=false from hM.trans (decide_eq_false fun m=>h_mc (by have q:mac.size=8:=m.2.2.2.2;omega)))
        clear hM
        have iM:((ip.size:Int)==4)=false:=by rw [beq_eq_false_iff_ne];exact h_s4
        have jU:((ip.size:Int)==16)=true:=by rw [beq_iff_eq];exact h_s16
        have vH:((mac.size:Int)==8)=false:=by rw [beq_eq_false_iff_ne];exact h_mc
        clear h_s4 h_s16 h_mc
        go_enter Tryz.func161,Tryz.ntmps161
        go_wp2
        rw [HMM.out]
        go_ret;exact ⟨rfl,(Below.refl _ _).alloc (Nat.le_refl _) _⟩
      ·have HMM:=Lh (show M=false from hM.trans (decide_eq_false fun m=>nX m.2.2.1.2))
       clear hM
       have iM:((ip.size:Int)==4)=false:=by rw [beq_eq_false_iff_ne];exact h_s4
       have jU:((ip.size:Int)==16)=true:=by rw [beq_iff_eq];exact h_s16
       clear h_s4 h_s16
       go_enter Tryz.func161,Tryz.ntmps161
       go_wp2
       rw [HMM.out]
       go_ret;exact ⟨rfl,(Below.refl _ _).alloc (Nat.le_refl _) _⟩
     ·have HMM:=Lh (show M=false from hM.trans (decide_eq_false fun m=>nV m.2.2.1.1))
      clear hM
      have iM:((ip.size:Int)==4)=false:=by rw [beq_eq_false_iff_ne];exact h_s4
      have jU:((ip.size:Int)==16)=true:=by rw [beq_iff_eq];exact h_s16
      clear h_s4 h_s16
      go_enter Tryz.func161,Tryz.ntmps161
      go_wp2
      rw [HMM.out]
      go_ret;exact ⟨rfl,(Below.refl _ _).alloc (Nat.le_refl _) _⟩
    ·have HMM:=Lh (show M=false from hM.trans (decide_eq_false fun m=>by have q:ip.size=4∨ip.size=16:=m.2.1;omega))
     clear hM
     have iM:((ip.size:Int)==4)=false:=by rw [beq_eq_false_iff_ne];exact h_s4
     have jU:((ip.size:Int)==16)=false:=by rw [beq_eq_false_iff_ne];exact h_s16
     clear h_s4 h_s16
     go_enter Tryz.func161,Tryz.ntmps161
     go_wp2
     rw [HMM.out]
     go_ret;exact ⟨rfl,(Below.refl _ _).alloc (Nat.le_refl _) _⟩
  ·have HMM:=Lh (show M=false from hM.trans (decide_eq_false fun m=>vM m.1.2))
   clear hM
   go_enter Tryz.func161,Tryz.ntmps161
   go_wp2
   rw [HMM.out]
   go_ret;exact ⟨rfl,(Below.refl _ _).alloc (Nat.le_refl _) _⟩
 ·have HMM:=Lh (show M=false from hM.trans (decide_eq_false fun m=>uU m.1.1))
  clear hM
  go_enter Tryz.func161,Tryz.ntmps161
  go_wp2
  rw [HMM.out]
  go_ret;exact ⟨rfl,(Below.refl _ _).alloc (Nat.le_refl _) _⟩
theorem may_ff (id:Int) (ip:ByteArray) (port:Int) (mac:ByteArray) (w:World):
  Calls Tryz.prog 161 #[.agg (adv ⟨false,id,ip,false,port,mac⟩)] w (Rt w (.bool (decide (Ad.May ⟨false,id,ip,false,port,mac⟩)))):=by
 obtain ⟨M,hM⟩:=eqx (decide (Ad.May ⟨false,id,ip,false,port,mac⟩))
 rw [←hM]
 by_cases uU:0≤id
 ·by_cases vM:id≤255
  ·by_cases h_s4:(ip.size:Int)=4
   ·by_cases nV:0≤port
    ·by_cases nX:port≤65535
     ·by_cases jJ:port=0
      ·by_cases h_mc:(mac.size:Int)=8
       ·have HMM:=Lh (show M=true from hM.trans (decide_eq_true ⟨⟨uU,vM⟩,.inl (show ip.size=4 by omega),⟨nV,nX⟩,.inr jJ,by show mac.size=8;omega⟩))
        clear hM
        have iM:((ip.size:Int)==4)=true:=by rw [beq_iff_eq];exact h_s4
        have zC:(port==0)=true:=by rw [beq_iff_eq];exact jJ
        have vH:((mac.size:Int)==8)=true:=by rw [beq_iff_eq];exact h_mc
        clear h_s4 jJ h_mc
        go_enter Tryz.func161,Tryz.ntmps161
        go_wp2
        rw [HMM.out]
        go_ret;exact ⟨rfl,(Below.refl _ _).alloc (Nat.le_refl _) _⟩
       ·have HMM:=Lh (show M=false from hM.trans (decide_eq_false fun m=>h_mc (by have q:mac.size=8:=m.2.2.2.2;omega)))
        clear hM
        have iM:((ip.size:Int)==4)=true:=by rw [beq_iff_eq];exact h_s4
        have zC:(port==0)=true:=by rw [beq_iff_eq];exact jJ
        have vH:((mac.size:Int)==8)=false:=by rw [beq_eq_false_iff_ne];exact h_mc
        clear h_s4 jJ h_mc
        go_enter Tryz.func161,Tryz.ntmps161
        go_wp2
        rw [HMM.out]
        go_ret;exact ⟨rfl,(Below.refl _ _).alloc (Nat.le_refl _) _⟩
      ·have HMM:=Lh (show M=false from hM.trans (decide_eq_false fun m=>by have q:(false=true)∨port=0:=m.2.2.2.1;rcases q with q | q;cases q;exact jJ q))
       clear hM
       have iM:((ip.size:Int)==4)=true:=by rw [beq_iff_eq];exact h_s4
       have zC:(port==0)=false:=by rw [beq_eq_false_iff_ne];exact jJ
       clear h_s4 jJ
       go_enter Tryz.func161,Tryz.ntmps161
       go_wp2
       rw [HMM.out]
       go_ret;exact ⟨rfl,(Below.refl _ _).alloc (Nat.le_refl _) _⟩
     ·have HMM:=Lh (show M=false from hM.trans (decide_eq_false fun m=>nX m.2.2.1.2))
      clear hM
      have iM:((ip.size:Int)==4)=true:=by rw [beq_iff_eq];exact h_s4
      clear h_s4
      go_enter Tryz.func161,Tryz.ntmps161
      go_wp2
      rw [HMM.out]
      go_ret;exact ⟨rfl,(Below.refl _ _).alloc (Nat.le_refl _) _⟩
    ·have HMM:=Lh (show M=false from hM.trans (decide_eq_false fun m=>nV m.2.2.1.1))
     clear hM
     have iM:((ip.size:Int)==4)=true:=by rw [beq_iff_eq];exact h_s4
     clear h_s4
     go_enter Tryz.func161,Tryz.ntmps161
     go_wp2
     rw [HMM.out]
     go_ret;exact ⟨rfl,(Below.refl _ _).alloc (Nat.le_refl _) _⟩
   ·by_cases h_s16:(ip.size:Int)=16
    ·by_cases nV:0≤port
     ·by_cases nX:port≤65535
      ·by_cases jJ:port=0
       ·by_cases h_mc:(mac.size:Int)=8
        ·have HMM:=Lh (show M=true from hM.trans (decide_eq_true ⟨⟨uU,vM⟩,.inr (show ip.size=16 by omega),⟨nV,nX⟩,.inr jJ,by show mac.size=8;omega⟩))
         clear hM
         have iM:((ip.size:Int)==4)=false:=by rw [beq_eq_false_iff_ne];exact h_s4
         have jU:((ip.size:Int)==16)=true:=by rw [beq_iff_eq];exact h_s16
         have zC:(port==0)=true:=by rw [beq_iff_eq];exact jJ
         have vH:((mac.size:Int)==8)=true:=by rw [beq_iff_eq];exact h_mc
         clear h_s4 h_s16 jJ h_mc
         go_enter Tryz.func161,Tryz.ntmps161
         go_wp2
         rw [HMM.out]
         go_ret;exact ⟨rfl,(Below.refl _ _).alloc (Nat.le_refl _) _⟩
        ·have HMM:=Lh (show M=false from hM.trans (decide_eq_false fun m=>h_mc (by have q:mac.size=8:=m.2.2.2.2;omega)))
         clear hM
         have iM:((ip.size:Int)==4)=false:=by rw [beq_eq_false_iff_ne];exact h_s4
         have jU:((ip.size:Int)==16)=true:=by rw [beq_iff_eq];exact h_s16
         have zC:(port==0)=true:=by rw [beq_iff_eq];exact jJ
         have vH:((mac.size:Int)==8)=false:=by rw [beq_eq_false_iff_ne];exact h_mc
         clear h_s4 h_s16 jJ h_mc
         go_enter Tryz.func161,Tryz.ntmps161
         go_wp2
         rw [HMM.out]
         go_ret;exact ⟨rfl,(Below.refl _ _).alloc (Nat.le_refl _) _⟩
       ·have HMM:=Lh (show M=false from hM.trans (decide_eq_false fun m=>by have q:(false=true)∨port=0:=m.2.2.2.1;rcases q with q | q;cases q;exact jJ q))
        clear hM
        have iM:((ip.size:Int)==4)=false:=by rw [beq_eq_false_iff_ne];exact h_s4
        have jU:((ip.size:Int)==16)=true:=by rw [beq_iff_eq];exact h_s16
        have zC:(port==0)=false:=by rw [beq_eq_false_iff_ne];exact jJ
        clear h_s4 h_s16 jJ
        go_enter Tryz.func161,Tryz.ntmps161
        go_wp2
        rw [HMM.out]
        go_ret;exact ⟨rfl,(Below.refl _ _).alloc (Nat.le_refl _) _⟩
      ·have HMM:=Lh (show M=false from hM.trans (decide_eq_false fun m=>nX m.2.2.1.2))
       clear hM
       have iM:((ip.size:Int)==4)=false:=by rw [beq_eq_false_iff_ne];exact h_s4
       have jU:((ip.size:Int)==16)=true:=by rw [beq_iff_eq];exact h_s16
       clear h_s4 h_s16
       go_enter Tryz.func161,Tryz.ntmps161
       go_wp2
       rw [HMM.out]
       go_ret;exact ⟨rfl,(Below.refl _ _).alloc (Nat.le_refl _) _⟩
     ·have HMM:=Lh (show M=false from hM.trans (decide_eq_false fun m=>nV m.2.2.1.1))
      clear hM
      have iM:((ip.size:Int)==4)=false:=by rw [beq_eq_false_iff_ne];exact h_s4
      have jU:((ip.size:Int)==16)=true:=by rw [beq_iff_eq];exact h_s16
      clear h_s4 h_s16
      go_enter Tryz.func161,Tryz.ntmps161
      go_wp2
      rw [HMM.out]
      go_ret;exact ⟨rfl,(Below.refl _ _).alloc (Nat.le_refl _) _⟩
    ·have HMM:=Lh (show M=false from hM.trans (decide_eq_false fun m=>by have q:ip.size=4∨ip.size=16:=m.2.1;omega))
     clear hM
     have iM:((ip.size:Int)==4)=false:=by rw [beq_eq_false_iff_ne];exact h_s4
     have jU:((ip.size:Int)==16)=false:=by rw [beq_eq_false_iff_ne];exact h_s16
     clear h_s4 h_s16
     go_enter Tryz.func161,Tryz.ntmps161
     go_wp2
     rw [HMM.out]
     go_ret;exact ⟨rfl,(Below.refl _ _).alloc (Nat.le_refl _) _⟩
  ·have HMM:=Lh (show M=false from hM.trans (decide_eq_false fun m=>vM m.1.2))
   clear hM
   go_enter Tryz.func161,Tryz.ntmps161
   go_wp2
   rw [HMM.out]
   go_ret;exact ⟨rfl,(Below.refl _ _).alloc (Nat.le_refl _) _⟩
 ·have HMM:=Lh (show M=false from hM.trans (decide_eq_false fun m=>uU m.1.1))
  clear hM
  go_enter Tryz.func161,Tryz.ntmps161
  go_wp2
  rw [HMM.out]
  go_ret;exact ⟨rfl,(Below.refl _ _).alloc (Nat.le_refl _) _⟩
theorem oI (x:Ad) (w:World):
  Calls Tryz.prog 161 #[.agg (adv x)] w (Rt w (.bool (decide x.May))):=by
 obtain ⟨echo,id,ip,hp,port,mac⟩:=x
 cases echo<;>cases hp
 ·exact may_ff id ip port mac w
 ·exact may_ft id ip port mac w
 ·exact may_tf id ip port mac w
 ·exact may_tt id ip port mac w
open Go.ChangeShapes Go.WideShapes Go.ChangeAt Go.RowKit
theorem dG (n:Nat) (h:n≤9223372036854775807) (w:World):(convert 3 22 (.int .i64 (n:Int))).run Tryz.prog w= .ok (.int .u64 (n:Int)) w:=by
 rw [run_convert_int w 3 22 .i64 _ (by kernel_rfl) (by kernel_rfl),show Tryz.prog.intKind 22= .u64 by kernel_rfl,IntKind.wrap_u64,show (n:Int)%18446744073709551616=(n:Int) by omega]
theorem wJ (x:Ad) (i:Nat) (hi:x.id=(i:Int)):txt [UInt8.ofNat (fst x.echo)]++txt (be 1 i)++x.ip++txt x.qW++x.mac=txt x.body:=by
 obtain ⟨echo,id,ip,hp,port,mac⟩:=x
 have hi:id=(i:Int):=hi
 subst hi
 show txt [UInt8.ofNat (fst echo)]++txt (be 1 i)++txt ip.data.toList++txt _++txt mac.data.toList=_
 simp only [dK]
 simp [Ad.body,Ad.rest,be]
theorem cat_nil (a:ByteArray):a++txt []=a:=qM a
theorem encR_tt (id:Int) (ip:ByteArray) (port:Int) (mac:ByteArray) (hm:Ad.May (⟨true,id,ip,true,port,mac⟩:Ad)) (w:World):
  Calls Tryz.prog 93 #[.agg (adv (⟨true,id,ip,true,port,mac⟩:Ad))] w (Rt w (dC (⟨true,id,ip,true,port,mac⟩:Ad))):=by
 rw [iD _ hm]
 obtain ⟨T,hT⟩:=eqx (txt (Ad.body (⟨true,id,ip,true,port,mac⟩:Ad)))
 rw [←hT]
 have i0:0≤id∧id≤255:=hm.1
 have p0:0≤port∧port≤65535:=hm.2.2.1
 have z4:ip.size=4∨ip.size=16:=hm.2.1
 have zm:mac.size=dN true:=hm.2.2.2.2
 have zm8:mac.size≤8:=by rw [zm];decide
 obtain ⟨i,hi⟩:∃i:Nat,id=(i:Int):=⟨id.toNat,by omega⟩
 have mP:i≤255:=by omega
 obtain ⟨A,hA⟩:=eqx ((⟨#[49]⟩:ByteArray)++txt (be 1 i))
 obtain ⟨C,hC⟩:=eqx (A++ip)
 obtain ⟨Q,hQ⟩:=eqx (C++txt (Ad.qW (⟨true,id,ip,true,port,mac⟩:Ad)))
 have hT2:T=Q++mac:=by rw [hT,hQ,hC,hA];exact (wJ (⟨true,id,ip,true,port,mac⟩:Ad) i hi).symm
 have sA:A.size=2:=by rw [hA,ByteArray.size_append,iP];rfl
 have sC:C.size≤18:=by rw [hC,ByteArray.size_append];omega
 have sQ:Q.size≤20:=by
  rw [hQ,ByteArray.size_append,aU,Ad.iK]
  have:portOf true≤2:=by decide
  show C.size+portOf true≤20
  omega
 have HSZ:=Lh (show A.size≤20∧ip.size≤20∧C.size≤18∧Q.size≤20∧mac.size≤8 from ⟨by omega,by omega,sC,sQ,zm8⟩)
 have HA:=Lh (show (⟨#[49]⟩:ByteArray)++⟨(be 1 i).toArray⟩=A from hA.symm)
 have HCC:=Lh hC
 have HTT:=Lh hT2
 have HI:=Lh hi
 have HI2:=Lh mP
 have HM:=Lh hm
 obtain ⟨n,hn⟩:∃n:Nat,port=(n:Int):=⟨port.toNat,by omega⟩
 subst hn
 have hn:n≤65535:=by omega
 have HQ:=Lh (show C++⟨(be 2 n).toArray⟩=Q by rw [hQ];rfl)
 have HN:=Lh hn
 obtain ⟨w0,hw0⟩:=eqx (w.alloc (.cells (adv (⟨true,id,ip,true,(n:Int),mac⟩:Ad)) 32))
 obtain ⟨b0,hb0⟩:=eqx w.heap.size
 have hc0:Blk w0 b0 32 (adv (⟨true,id,ip,true,(n:Int),mac⟩:Ad)):=by rw [hw0,hb0];exact Blk.new _ _ _
 have HC0:=Lh hc0
 have HBW:=Lh (kD hw0)
 have HW0:=Lh hw0
 have HB0:=Lh hb0
 have HC1:=hc0
 rw [hw0,hb0] at HC1
 have gY:=Lh HC1
 clear hT hT2 hi hA hC hQ sA sC sQ zm zm8 z4 i0 p0 hw0 hb0 hc0 HC1 hm mP hn
 go_enter Tryz.func93,Tryz.ntmps93
 go_wp2_with (refine wpList_load_row rfl 32 _ rfl w.heap.size rfl 32 (adv (⟨true,id,ip,true,(n:Int),mac⟩:Ad)) (0,0) _ ?_ Tryz.underlying32 rfl aW ?_;exact gY.out)
 rw [←HW0.out,←HB0.out]
 refine (oI (⟨true,id,ip,true,(n:Int),mac⟩:Ad) _).mono ?_
 rintro e V ⟨rfl,bv⟩
 rw [decide_eq_true HM.out]
 have hcv:=HC0.out.below bv HC0.out.lt
 have HC:=Lh hcv
 have HBV:=Lh (HBW.out.trans (bv.mono HBW.out.size))
 have c0:=hcv.cell 0
 simp only [List.getElem?_toArray,List.getElem?_cons_zero] at c0
 clear bv HC0 HBW HW0 gY hcv
 go_upto_region 6 with fail
 refine bZ (n:=9) rfl fun W0 B0=>?_
 refine stF 0 (.string ⟨#[49]⟩) rfl B0 (stF 1 (.pointer (some ⟨b0,1,none⟩)) rfl B0 (stG 2 (.int .i64 (i:Int)) rfl B0 (fun W b=>xLd 3 (.tmp 11) ⟨b0,1,none⟩ (((HC.out.below b HC.out.lt).cell 1).trans (congrArg (fun z:Int=>some (Value.int .i64 z)) HI.out))) (stG 3 (.int .u64 (i:Int)) rfl B0 (fun W _=>aH (v:=.int .i64 (i:Int)) 3 22 (.tmp 12) (by kernel_rfl) (by kernel_rfl) (dG i (by have:=HI2.out;omega) W)) (stF 5 (.pointer (some ⟨b0,2,none⟩)) rfl B0 (stG 6 (.string ip) rfl B0 (fun W b=>xLd 9 (.tmp 15) ⟨b0,2,none⟩ ((HC.out.below b HC.out.lt).cell 2)) ?_)))))
 refine stB 4 rfl (answer (eP ⟨#[49]⟩ i 1 _ (by decide) (by have:=HI2.out;omega) (by decide)) (congrArg Value.string HA.out)) B0 fun W1 B1=>?_
 clear B0
 refine stG 7 (.string C) rfl B1 (fun _ _=>dH 9 9 (.tmp 14) (.tmp 16) (by kernel_rfl) (A) (ip) C (by kernel_rfl) (by kernel_rfl) (by have:=HSZ.out.1;omega) (by have:=HSZ.out.2.1;omega) HCC.out) (stF 8 (.string C) rfl B1 ?_)
 refine aZ ⟨#[.agg (adv (⟨true,id,ip,true,(n:Int),mac⟩:Ad)),.pointer (some ⟨b0,0,none⟩),.string ⟨#[]⟩,.int .i64 0,.string C,.agg (adv (⟨true,id,ip,true,(n:Int),mac⟩:Ad)),.bool true,.bool false,.pointer (some ⟨b0,0,none⟩),.bool true,.string ⟨#[49]⟩,.pointer (some ⟨b0,1,none⟩),.int .i64 (i:Int),.int .u64 (i:Int),.string A,.pointer (some ⟨b0,2,none⟩),.string ip,.string C,undef,undef,undef,undef,undef,undef,undef,undef,undef,undef,undef],[]⟩ (by kernel_rfl) (by kernel_rfl) ?_
 have HCW:=HC.out.below B1 HC.out.lt
 have HBE:=Lh (HBV.out.trans (B1.mono HBV.out.size))
 have c3:=HCW.cell 3
 have c4:=HCW.cell 4
 have c5:=HCW.cell 5
 simp only [List.getElem?_toArray,List.getElem?_cons_zero,List.getElem?_cons_succ] at c3 c4 c5
 have hcn:=dG n (by have:=HN.out;omega)
 have HCX:=Lh HCW
 clear B1 HCW c5 c0
 go_wp2_with fail
 refine (answer (eP C n 2 _ (by have:=HSZ.out.2.2.1;omega) (by have:=HN.out;omega) (by decide)) (congrArg Value.string HQ.out)).mono ?_
 rintro e W9 ⟨rfl,b⟩
 have c5:=(HCX.out.below b HCX.out.lt).cell 5
 simp only [List.getElem?_toArray,List.getElem?_cons_zero,List.getElem?_cons_succ] at c5
 have HBE:=Lh (HBE.out.trans (b.mono HBE.out.size))
 clear b c3 c4 hcn
 have oO:=fun W=>run_string_add (P:=Tryz.prog) W Q mac (by have:=HSZ.out.2.2.2.1;omega) (by have:=HSZ.out.2.2.2.2;omega)
 rw [←HTT.out] at oO
 go_wp2_with fail
 exact bJ 2 3 (.string T) (.int .i64 0) (by kernel_rfl) (by kernel_rfl) (by kernel_rfl) (by kernel_rfl) ⟨rfl,by have q:=HBE.out;first | exact q | (rw [HB0.out];exact q)⟩
theorem encR_tf (id:Int) (ip:ByteArray) (port:Int) (mac:ByteArray) (hm:Ad.May (⟨true,id,ip,false,port,mac⟩:Ad)) (w:World):
  Calls Tryz.prog 93 #[.agg (adv (⟨true,id,ip,false,port,mac⟩:Ad))] w (Rt w (dC (⟨true,id,ip,false,port,mac⟩:Ad))):=by
 rw [iD _ hm]
 obtain ⟨T,hT⟩:=eqx (txt (Ad.body (⟨true,id,ip,false,port,mac⟩:Ad)))
 rw [←hT]
 have i0:0≤id∧id≤255:=hm.1
 have p0:0≤port∧port≤65535:=hm.2.2.1
 have z4:ip.size=4∨ip.size=16:=hm.2.1
 have zm:mac.size=dN true:=hm.2.2.2.2
 have zm8:mac.size≤8:=by rw [zm];decide
 obtain ⟨i,hi⟩:∃i:Nat,id=(i:Int):=⟨id.toNat,by omega⟩
 have mP:i≤255:=by omega
 obtain ⟨A,hA⟩:=eqx ((⟨#[49]⟩:ByteArray)++txt (be 1 i))
 obtain ⟨C,hC⟩:=eqx (A++ip)
 obtain ⟨Q,hQ⟩:=eqx (C++txt (Ad.qW (⟨true,id,ip,false,port,mac⟩:Ad)))
 have hT2:T=Q++mac:=by rw [hT,hQ,hC,hA];exact (wJ (⟨true,id,ip,false,port,mac⟩:Ad) i hi).symm
 have sA:A.size=2:=by rw [hA,ByteArray.size_append,iP];rfl
 have sC:C.size≤18:=by rw [hC,ByteArray.size_append];omega
 have sQ:Q.size≤20:=by
  rw [hQ,ByteArray.size_append,aU,Ad.iK]
  have:portOf false≤2:=by decide
  show C.size+portOf false≤20
  omega
 have HSZ:=Lh (show A.size≤20∧ip.size≤20∧C.size≤18∧Q.size≤20∧mac.size≤8 from ⟨by omega,by omega,sC,sQ,zm8⟩)
 have HA:=Lh (show (⟨#[49]⟩:ByteArray)++⟨(be 1 i).toArray⟩=A from hA.symm)
 have HCC:=Lh hC
 have HTT:=Lh hT2
 have HI:=Lh hi
 have HI2:=Lh mP
 have HM:=Lh hm
 have HQ:=Lh (show C=Q by rw [hQ];exact (cat_nil C).symm)
 obtain ⟨w0,hw0⟩:=eqx (w.alloc (.cells (adv (⟨true,id,ip,false,port,mac⟩:Ad)) 32))
 obtain ⟨b0,hb0⟩:=eqx w.heap.size
 have hc0:Blk w0 b0 32 (adv (⟨true,id,ip,false,port,mac⟩:Ad)):=by rw [hw0,hb0];exact Blk.new _ _ _
 have HC0:=Lh hc0
 have HBW:=Lh (kD hw0)
 have HW0:=Lh hw0
 have HB0:=Lh hb0
 have HC1:=hc0
 rw [hw0,hb0] at HC1
 have gY:=Lh HC1
 clear hT hT2 hi hA hC hQ sA sC sQ zm zm8 z4 i0 p0 hw0 hb0 hc0 HC1 hm mP
 go_enter Tryz.func93,Tryz.ntmps93
 go_wp2_with (refine wpList_load_row rfl 32 _ rfl w.heap.size rfl 32 (adv (⟨true,id,ip,false,port,mac⟩:Ad)) (0,0) _ ?_ Tryz.underlying32 rfl aW ?_;exact gY.out)
 rw [←HW0.out,←HB0.out]
 refine (oI (⟨true,id,ip,false,port,mac⟩:Ad) _).mono ?_
 rintro e V ⟨rfl,bv⟩
 rw [decide_eq_true HM.out]
 have hcv:=HC0.out.below bv HC0.out.lt
 have HC:=Lh hcv
 have HBV:=Lh (HBW.out.trans (bv.mono HBW.out.size))
 have c0:=hcv.cell 0
 simp only [List.getElem?_toArray,List.getElem?_cons_zero] at c0
 clear bv HC0 HBW HW0 gY hcv
 go_upto_region 6 with fail
 refine bZ (n:=9) rfl fun W0 B0=>?_
 refine stF 0 (.string ⟨#[49]⟩) rfl B0 (stF 1 (.pointer (some ⟨b0,1,none⟩)) rfl B0 (stG 2 (.int .i64 (i:Int)) rfl B0 (fun W b=>xLd 3 (.tmp 11) ⟨b0,1,none⟩ (((HC.out.below b HC.out.lt).cell 1).trans (congrArg (fun z:Int=>some (Value.int .i64 z)) HI.out))) (stG 3 (.int .u64 (i:Int)) rfl B0 (fun W _=>aH (v:=.int .i64 (i:Int)) 3 22 (.tmp 12) (by kernel_rfl) (by kernel_rfl) (dG i (by have:=HI2.out;omega) W)) (stF 5 (.pointer (some ⟨b0,2,none⟩)) rfl B0 (stG 6 (.string ip) rfl B0 (fun W b=>xLd 9 (.tmp 15) ⟨b0,2,none⟩ ((HC.out.below b HC.out.lt).cell 2)) ?_)))))
 refine stB 4 rfl (answer (eP ⟨#[49]⟩ i 1 _ (by decide) (by have:=HI2.out;omega) (by decide)) (congrArg Value.string HA.out)) B0 fun W1 B1=>?_
 clear B0
 refine stG 7 (.string C) rfl B1 (fun _ _=>dH 9 9 (.tmp 14) (.tmp 16) (by kernel_rfl) (A) (ip) C (by kernel_rfl) (by kernel_rfl) (by have:=HSZ.out.1;omega) (by have:=HSZ.out.2.1;omega) HCC.out) (stF 8 (.string C) rfl B1 ?_)
 refine aZ ⟨#[.agg (adv (⟨true,id,ip,false,port,mac⟩:Ad)),.pointer (some ⟨b0,0,none⟩),.string ⟨#[]⟩,.int .i64 0,.string C,.agg (adv (⟨true,id,ip,false,port,mac⟩:Ad)),.bool true,.bool false,.pointer (some ⟨b0,0,none⟩),.bool true,.string ⟨#[49]⟩,.pointer (some ⟨b0,1,none⟩),.int .i64 (i:Int),.int .u64 (i:Int),.string A,.pointer (some ⟨b0,2,none⟩),.string ip,.string C,undef,undef,undef,undef,undef,undef,undef,undef,undef,undef,undef],[]⟩ (by kernel_rfl) (by kernel_rfl) ?_
 have HCW:=HC.out.below B1 HC.out.lt
 have HBE:=Lh (HBV.out.trans (B1.mono HBV.out.size))
 have c3:=HCW.cell 3
 have c4:=HCW.cell 4
 have c5:=HCW.cell 5
 simp only [List.getElem?_toArray,List.getElem?_cons_zero,List.getElem?_cons_succ] at c3 c4 c5
 clear B1 HCW c0
 have oO:=fun W=>run_string_add (P:=Tryz.prog) W C mac (by have:=HSZ.out.2.2.1;omega) (by have:=HSZ.out.2.2.2.2;omega)
 rw [show C++mac=T by rw [HQ.out,HTT.out]] at oO
 go_wp2_with fail
 exact bJ 2 3 (.string T) (.int .i64 0) (by kernel_rfl) (by kernel_rfl) (by kernel_rfl) (by kernel_rfl) ⟨rfl,by have q:=HBE.out;first | exact q | (rw [HB0.out];exact q)⟩
theorem encR_ft (id:Int) (ip:ByteArray) (port:Int) (mac:ByteArray) (hm:Ad.May (⟨false,id,ip,true,port,mac⟩:Ad)) (w:World):
  Calls Tryz.prog 93 #[.agg (adv (⟨false,id,ip,true,port,mac⟩:Ad))] w (Rt w (dC (⟨false,id,ip,true,port,mac⟩:Ad))):=by
 rw [iD _ hm]
 obtain ⟨T,hT⟩:=eqx (txt (Ad.body (⟨false,id,ip,true,port,mac⟩:Ad)))
 rw [←hT]
 have i0:0≤id∧id≤255:=hm.1
 have p0:0≤port∧port≤65535:=hm.2.2.1
 have z4:ip.size=4∨ip.size=16:=hm.2.1
 have zm:mac.size=dN false:=hm.2.2.2.2
 have zm8:mac.size≤8:=by rw [zm];decide
 obtain ⟨i,hi⟩:∃i:Nat,id=(i:Int):=⟨id.toNat,by omega⟩
 have mP:i≤255:=by omega
 obtain ⟨A,hA⟩:=eqx ((⟨#[48]⟩:ByteArray)++txt (be 1 i))
 obtain ⟨C,hC⟩:=eqx (A++ip)
 obtain ⟨Q,hQ⟩:=eqx (C++txt (Ad.qW (⟨false,id,ip,true,port,mac⟩:Ad)))
 have hT2:T=Q++mac:=by rw [hT,hQ,hC,hA];exact (wJ (⟨false,id,ip,true,port,mac⟩:Ad) i hi).symm
 have sA:A.size=2:=by rw [hA,ByteArray.size_append,iP];rfl
 have sC:C.size≤18:=by rw [hC,ByteArray.size_append];omega
 have sQ:Q.size≤20:=by
  rw [hQ,ByteArray.size_append,aU,Ad.iK]
  have:portOf true≤2:=by decide
  show C.size+portOf true≤20
  omega
 have HSZ:=Lh (show A.size≤20∧ip.size≤20∧C.size≤18∧Q.size≤20∧mac.size≤8 from ⟨by omega,by omega,sC,sQ,zm8⟩)
 have HA:=Lh (show (⟨#[48]⟩:ByteArray)++⟨(be 1 i).toArray⟩=A from hA.symm)
 have HCC:=Lh hC
 have HTT:=Lh hT2
 have HI:=Lh hi
 have HI2:=Lh mP
 have HM:=Lh hm
 obtain ⟨n,hn⟩:∃n:Nat,port=(n:Int):=⟨port.toNat,by omega⟩
 subst hn
 have hn:n≤65535:=by omega
 have HQ:=Lh (show C++⟨(be 2 n).toArray⟩=Q by rw [hQ];rfl)
 have HN:=Lh hn
 obtain ⟨w0,hw0⟩:=eqx (w.alloc (.cells (adv (⟨false,id,ip,true,(n:Int),mac⟩:Ad)) 32))
 obtain ⟨b0,hb0⟩:=eqx w.heap.size
 have hc0:Blk w0 b0 32 (adv (⟨false,id,ip,true,(n:Int),mac⟩:Ad)):=by rw [hw0,hb0];exact Blk.new _ _ _
 have HC0:=Lh hc0
 have HBW:=Lh (kD hw0)
 have HW0:=Lh hw0
 have HB0:=Lh hb0
 have HC1:=hc0
 rw [hw0,hb0] at HC1
 have gY:=Lh HC1
 clear hT hT2 hi hA hC hQ sA sC sQ zm zm8 z4 i0 p0 hw0 hb0 hc0 HC1 hm mP hn
 go_enter Tryz.func93,Tryz.ntmps93
 go_wp2_with (refine wpList_load_row rfl 32 _ rfl w.heap.size rfl 32 (adv (⟨false,id,ip,true,(n:Int),mac⟩:Ad)) (0,0) _ ?_ Tryz.underlying32 rfl aW ?_;exact gY.out)
 rw [←HW0.out,←HB0.out]
 refine (oI (⟨false,id,ip,true,(n:Int),mac⟩:Ad) _).mono ?_
 rintro e V ⟨rfl,bv⟩
 rw [decide_eq_true HM.out]
 have hcv:=HC0.out.below bv HC0.out.lt
 have HC:=Lh hcv
 have HBV:=Lh (HBW.out.trans (bv.mono HBW.out.size))
 have c0:=hcv.cell 0
 simp only [List.getElem?_toArray,List.getElem?_cons_zero] at c0
 clear bv HC0 HBW HW0 gY hcv
 go_upto_region 6 with fail
 refine bZ (n:=9) rfl fun W0 B0=>?_
 refine stF 0 (.string ⟨#[48]⟩) rfl B0 (stF 1 (.pointer (some ⟨b0,1,none⟩)) rfl B0 (stG 2 (.int .i64 (i:Int)) rfl B0 (fun W b=>xLd 3 (.tmp 11) ⟨b0,1,none⟩ (((HC.out.below b HC.out.lt).cell 1).trans (congrArg (fun z:Int=>some (Value.int .i64 z)) HI.out))) (stG 3 (.int .u64 (i:Int)) rfl B0 (fun W _=>aH (v:=.int .i64 (i:Int)) 3 22 (.tmp 12) (by kernel_rfl) (by kernel_rfl) (dG i (by have:=HI2.out;omega) W)) (stF 5 (.pointer (some ⟨b0,2,none⟩)) rfl B0 (stG 6 (.string ip) rfl B0 (fun W b=>xLd 9 (.tmp 15) ⟨b0,2,none⟩ ((HC.out.below b HC.out.lt).cell 2)) ?_)))))
 refine stB 4 rfl (answer (eP ⟨#[48]⟩ i 1 _ (by decide) (by have:=HI2.out;omega) (by decide)) (congrArg Value.string HA.out)) B0 fun W1 B1=>?_
 clear B0
 refine stG 7 (.string C) rfl B1 (fun _ _=>dH 9 9 (.tmp 14) (.tmp 16) (by kernel_rfl) (A) (ip) C (by kernel_rfl) (by kernel_rfl) (by have:=HSZ.out.1;omega) (by have:=HSZ.out.2.1;omega) HCC.out) (stF 8 (.string C) rfl B1 ?_)
 refine aZ ⟨#[.agg (adv (⟨false,id,ip,true,(n:Int),mac⟩:Ad)),.pointer (some ⟨b0,0,none⟩),.string ⟨#[]⟩,.int .i64 0,.string C,.agg (adv (⟨false,id,ip,true,(n:Int),mac⟩:Ad)),.bool true,.bool false,.pointer (some ⟨b0,0,none⟩),.bool false,.string ⟨#[48]⟩,.pointer (some ⟨b0,1,none⟩),.int .i64 (i:Int),.int .u64 (i:Int),.string A,.pointer (some ⟨b0,2,none⟩),.string ip,.string C,undef,undef,undef,undef,undef,undef,undef,undef,undef,undef,undef],[]⟩ (by kernel_rfl) (by kernel_rfl) ?_
 have HCW:=HC.out.below B1 HC.out.lt
 have HBE:=Lh (HBV.out.trans (B1.mono HBV.out.size))
 have c3:=HCW.cell 3
 have c4:=HCW.cell 4
 have c5:=HCW.cell 5
 simp only [List.getElem?_toArray,List.getElem?_cons_zero,List.getElem?_cons_succ] at c3 c4 c5
 have hcn:=dG n (by have:=HN.out;omega)
 have HCX:=Lh HCW
 clear B1 HCW c5 c0
 go_wp2_with fail
 refine (answer (eP C n 2 _ (by have:=HSZ.out.2.2.1;omega) (by have:=HN.out;omega) (by decide)) (congrArg Value.string HQ.out)).mono ?_
 rintro e W9 ⟨rfl,b⟩
 have c5:=(HCX.out.below b HCX.out.lt).cell 5
 simp only [List.getElem?_toArray,List.getElem?_cons_zero,List.getElem?_cons_succ] at c5
 have HBE:=Lh (HBE.out.trans (b.mono HBE.out.size))
 clear b c3 c4 hcn
 have oO:=fun W=>run_string_add (P:=Tryz.prog) W Q mac (by have:=HSZ.out.2.2.2.1;omega) (by have:=HSZ.out.2.2.2.2;omega)
 rw [←HTT.out] at oO
 go_wp2_with fail
 exact bJ 2 3 (.string T) (.int .i64 0) (by kernel_rfl) (by kernel_rfl) (by kernel_rfl) (by kernel_rfl) ⟨rfl,by have q:=HBE.out;first | exact q | (rw [HB0.out];exact q)⟩
theorem encR_ff (id:Int) (ip:ByteArray) (port:Int) (mac:ByteArray) (hm:Ad.May (⟨false,id,ip,false,port,mac⟩:Ad)) (w:World):
  Calls Tryz.prog 93 #[.agg (adv (⟨false,id,ip,false,port,mac⟩:Ad))] w (Rt w (dC (⟨false,id,ip,false,port,mac⟩:Ad))):=by
 rw [iD _ hm]
 obtain ⟨T,hT⟩:=eqx (txt (Ad.body (⟨false,id,ip,false,port,mac⟩:Ad)))
 rw [←hT]
 have i0:0≤id∧id≤255:=hm.1
 have p0:0≤port∧port≤65535:=hm.2.2.1
 have z4:ip.size=4∨ip.size=16:=hm.2.1
 have zm:mac.size=dN false:=hm.2.2.2.2
 have zm8:mac.size≤8:=by rw [zm];decide
 obtain ⟨i,hi⟩:∃i:Nat,id=(i:Int):=⟨id.toNat,by omega⟩
 have mP:i≤255:=by omega
 obtain ⟨A,hA⟩:=eqx ((⟨#[48]⟩:ByteArray)++txt (be 1 i))
 obtain ⟨C,hC⟩:=eqx (A++ip)
 obtain ⟨Q,hQ⟩:=eqx (C++txt (Ad.qW (⟨false,id,ip,false,port,mac⟩:Ad)))
 have hT2:T=Q++mac:=by rw [hT,hQ,hC,hA];exact (wJ (⟨false,id,ip,false,port,mac⟩:Ad) i hi).symm
 have sA:A.size=2:=by rw [hA,ByteArray.size_append,iP];rfl
 have sC:C.size≤18:=by rw [hC,ByteArray.size_append];omega
 have sQ:Q.size≤20:=by
  rw [hQ,ByteArray.size_append,aU,Ad.iK]
  have:portOf false≤2:=by decide
  show C.size+portOf false≤20
  omega
 have HSZ:=Lh (show A.size≤20∧ip.size≤20∧C.size≤18∧Q.size≤20∧mac.size≤8 from ⟨by omega,by omega,sC,sQ,zm8⟩)
 have HA:=Lh (show (⟨#[48]⟩:ByteArray)++⟨(be 1 i).toArray⟩=A from hA.symm)
 have HCC:=Lh hC
 have HTT:=Lh hT2
 have HI:=Lh hi
 have HI2:=Lh mP
 have HM:=Lh hm
 have HQ:=Lh (show C=Q by rw [hQ];exact (cat_nil C).symm)
 obtain ⟨w0,hw0⟩:=eqx (w.alloc (.cells (adv (⟨false,id,ip,false,port,mac⟩:Ad)) 32))
 obtain ⟨b0,hb0⟩:=eqx w.heap.size
 have hc0:Blk w0 b0 32 (adv (⟨false,id,ip,false,port,mac⟩:Ad)):=by rw [hw0,hb0];exact Blk.new _ _ _
 have HC0:=Lh hc0
 have HBW:=Lh (kD hw0)
 have HW0:=Lh hw0
 have HB0:=Lh hb0
 have HC1:=hc0
 rw [hw0,hb0] at HC1
 have gY:=Lh HC1
 clear hT hT2 hi hA hC hQ sA sC sQ zm zm8 z4 i0 p0 hw0 hb0 hc0 HC1 hm mP
 go_enter Tryz.func93,Tryz.ntmps93
 go_wp2_with (refine wpList_load_row rfl 32 _ rfl w.heap.size rfl 32 (adv (⟨false,id,ip,false,port,mac⟩:Ad)) (0,0) _ ?_ Tryz.underlying32 rfl aW ?_;exact gY.out)
 rw [←HW0.out,←HB0.out]
 refine (oI (⟨false,id,ip,false,port,mac⟩:Ad) _).mono ?_
 rintro e V ⟨rfl,bv⟩
 rw [decide_eq_true HM.out]
 have hcv:=HC0.out.below bv HC0.out.lt
 have HC:=Lh hcv
 have HBV:=Lh (HBW.out.trans (bv.mono HBW.out.size))
 have c0:=hcv.cell 0
 simp only [List.getElem?_toArray,List.getElem?_cons_zero] at c0
 clear bv HC0 HBW HW0 gY hcv
 go_upto_region 6 with fail
 refine bZ (n:=9) rfl fun W0 B0=>?_
 refine stF 0 (.string ⟨#[48]⟩) rfl B0 (stF 1 (.pointer (some ⟨b0,1,none⟩)) rfl B0 (stG 2 (.int .i64 (i:Int)) rfl B0 (fun W b=>xLd 3 (.tmp 11) ⟨b0,1,none⟩ (((HC.out.below b HC.out.lt).cell 1).trans (congrArg (fun z:Int=>some (Value.int .i64 z)) HI.out))) (stG 3 (.int .u64 (i:Int)) rfl B0 (fun W _=>aH (v:=.int .i64 (i:Int)) 3 22 (.tmp 12) (by kernel_rfl) (by kernel_rfl) (dG i (by have:=HI2.out;omega) W)) (stF 5 (.pointer (some ⟨b0,2,none⟩)) rfl B0 (stG 6 (.string ip) rfl B0 (fun W b=>xLd 9 (.tmp 15) ⟨b0,2,none⟩ ((HC.out.below b HC.out.lt).cell 2)) ?_)))))
 refine stB 4 rfl (answer (eP ⟨#[48]⟩ i 1 _ (by decide) (by have:=HI2.out;omega) (by decide)) (congrArg Value.string HA.out)) B0 fun W1 B1=>?_
 clear B0
 refine stG 7 (.string C) rfl B1 (fun _ _=>dH 9 9 (.tmp 14) (.tmp 16) (by kernel_rfl) (A) (ip) C (by kernel_rfl) (by kernel_rfl) (by have:=HSZ.out.1;omega) (by have:=HSZ.out.2.1;omega) HCC.out) (stF 8 (.string C) rfl B1 ?_)
 refine aZ ⟨#[.agg (adv (⟨false,id,ip,false,port,mac⟩:Ad)),.pointer (some ⟨b0,0,none⟩),.string ⟨#[]⟩,.int .i64 0,.string C,.agg (adv (⟨false,id,ip,false,port,mac⟩:Ad)),.bool true,.bool false,.pointer (some ⟨b0,0,none⟩),.bool false,.string ⟨#[48]⟩,.pointer (some ⟨b0,1,none⟩),.int .i64 (i:Int),.int .u64 (i:Int),.string A,.pointer (some ⟨b0,2,none⟩),.string ip,.string C,undef,undef,undef,undef,undef,undef,undef,undef,undef,undef,undef],[]⟩ (by kernel_rfl) (by kernel_rfl) ?_
 have HCW:=HC.out.below B1 HC.out.lt
 have HBE:=Lh (HBV.out.trans (B1.mono HBV.out.size))
 have c3:=HCW.cell 3
 have c4:=HCW.cell 4
 have c5:=HCW.cell 5
 simp only [List.getElem?_toArray,List.getElem?_cons_zero,List.getElem?_cons_succ] at c3 c4 c5
 clear B1 HCW c0
 have oO:=fun W=>run_string_add (P:=Tryz.prog) W C mac (by have:=HSZ.out.2.2.1;omega) (by have:=HSZ.out.2.2.2.2;omega)
 rw [show C++mac=T by rw [HQ.out,HTT.out]] at oO
 go_wp2_with fail
 exact bJ 2 3 (.string T) (.int .i64 0) (by kernel_rfl) (by kernel_rfl) (by kernel_rfl) (by kernel_rfl) ⟨rfl,by have q:=HBE.out;first | exact q | (rw [HB0.out];exact q)⟩
theorem encR_no (x:Ad) (hm:¬x.May) (w:World):
  Calls Tryz.prog 93 #[.agg (adv x)] w (Rt w (dC x)):=by
 rw [oM x hm]
 have gY:=Lh (Blk.new w 32 (adv x))
 have HB:=Lh ((Below.refl _ w).alloc (Nat.le_refl _) (.cells (adv x) 32))
 have HM:=Lh hm
 clear hm
 go_enter Tryz.func93,Tryz.ntmps93
 go_wp2_with (refine wpList_load_row rfl 32 _ rfl w.heap.size rfl 32 (adv x) (0,0) _ ?_ Tryz.underlying32 rfl aW ?_;exact gY.out)
 refine (oI x _).mono ?_
 rintro e V ⟨rfl,bv⟩
 rw [decide_eq_false HM.out]
 have HBV:=Lh (HB.out.trans (bv.mono HB.out.size))
 clear bv
 go_wp2_with fail
 exact bJ 2 3 (.string ⟨#[]⟩) (.int .i64 2) rfl rfl rfl rfl ⟨rfl,HBV.out⟩
theorem EncodeAddR_any (x:Ad) (w:World):
  Calls Tryz.prog 93 #[.agg (adv x)] w (Rt w (dC x)):=by
 by_cases hm:x.May
 ·obtain ⟨echo,id,ip,hp,port,mac⟩:=x
  cases echo<;>cases hp
  ·exact encR_ff id ip port mac hm w
  ·exact encR_ft id ip port mac hm w
  ·exact encR_tf id ip port mac hm w
  ·exact encR_tt id ip port mac hm w
 ·exact encR_no x hm w
theorem EncodeRemoveR_any (s:ByteArray) (hs:s.size≤4611686018427387904) (w:World):
  Calls Tryz.prog 94 #[.agg (rmv s)] w (Rt w (vS s)):=by
 by_cases hm:1≤s.size∧s.size≤37
 ·rw [encRV_t s hm]
  have l1:¬(s.size:Int) < 1:=by omega
  have l2:¬(37:Int) < (s.size:Int):=by omega
  obtain ⟨T,hT⟩:=eqx (txt (64::s.data.toList))
  rw [←hT]
  have oO:=fun W=>run_string_add (P:=Tryz.prog) W ⟨#[64]⟩ s (by decide) (by omega)
  rw [show (⟨#[64]⟩:ByteArray)++s=T by rw [hT,←txt_of s];exact dK [64] _] at oO
  clear hT hm
  go_enter Tryz.func94,Tryz.ntmps94
  go_wp2
  exact bJ 2 3 (.string T) (.int .i64 0) rfl rfl rfl rfl ⟨rfl,(Below.refl _ _).alloc (Nat.le_refl _) _⟩
 ·rw [encRV_f s hm]
  by_cases l1:(s.size:Int) < 1
  ·clear hm
   go_enter Tryz.func94,Tryz.ntmps94
   go_wp2
   exact bJ 2 3 (.string ⟨#[]⟩) (.int .i64 2) rfl rfl rfl rfl ⟨rfl,(Below.refl _ _).alloc (Nat.le_refl _) _⟩
  ·have l2:(37:Int) < (s.size:Int):=by omega
   clear hm
   go_enter Tryz.func94,Tryz.ntmps94
   go_wp2
   exact bJ 2 3 (.string ⟨#[]⟩) (.int .i64 2) rfl rfl rfl rfl ⟨rfl,(Below.refl _ _).alloc (Nat.le_refl _) _⟩
open Go.ChangeShapes Go.WideShapes Go.ChangeAt Go.RowKit
theorem gI {P:Program} {ops:Array Oper} {S:World→Prop} {Q:Exit→Act→World→Prop} {md:Region.Mode} {fuel:Nat} {listed:Array Bool} {a:Act} {w:World} (i:Nat) {o:Oper} {w':World} (hi:ops[i]?=some o) (hr:Region.ready md ops listed=[i]) (hw:Region.wanted o (yielded ops a.tmps)=true)
  (he:(execOp a.eval o).run P w= .ok .skip w') (hS:S w') (h:wpAnyH P md ops Q S fuel (listed.setIfInBounds i true) (a.put o.dst undef) w'):wpAnyH P md ops Q S (fuel+1) listed a w:=by
 refine qQ hi hr hw ?_
 unfold Oper.wp
 rw [he]
 exact ⟨hS,h⟩
theorem lG {ρ:Operand→Value} {o:Oper} {w:World} (t:TypeId) (x y:Operand) (ho:o.op= .index t x y) (s:ByteArray) (i c:Nat) (hx:ρ x= .string s) (hy:ρ y= .int .i64 (i:Int)) (ht:Tryz.prog.underlying t=some .string) (hi:i < s.size) (hc:byteAt s i=c):
  (execOp ρ o).run Tryz.prog w= .ok (.value (.int .u8 (c:Int))) w:=by
 have hg:=bD s i hi
 rw [hc] at hg
 have q:s[i]?=some s[i]:=by simp [hi]
 unfold execOp
 rw [ho]
 simp [hx,hy,Instr.index,run_underlying ht,asIntOf,q,hg]
theorem gU {P:Program} {ρ:Operand→Value} {o:Oper} {w:World} (t:TypeId) (x l h:Operand) (ho:o.op= .slice t x (some l) (some h) none) {v lv hv r:Value} (hx:ρ x=v) (hl:ρ l=lv) (hh:ρ h=hv) (he:(Instr.sliceAt t v (some lv) (some hv) none).run P w= .ok r w):
  (execOp ρ o).run P w= .ok (.value r) w:=by
 unfold execOp
 rw [ho]
 simp [hx,hl,hh,he]
theorem mD (s:ByteArray) (l h:Nat) (h1:l≤h) (h2:h≤s.size) (Z:ByteArray) (hZ:s.extract l h=Z) (w:World):(Instr.sliceAt 9 (.string s) (some (.int .i64 (l:Int))) (some (.int .i64 (h:Int))) none).run Tryz.prog w= .ok (.string Z) w:=by
 subst hZ
 have a1:(l:Int)≤(h:Int):=by omega
 have a2:(h:Int)≤(s.size:Int):=by omega
 simp [Instr.sliceAt,Instr.slice,run_underlying Tryz.underlying9,Instr.sliceBounds,run_sliceBound,a1,a2]
theorem mY (s:ByteArray) (k:Nat) (h:k≤s.size) (Z:ByteArray) (hZ:s.extract k s.size=Z) (w:World):(Instr.sliceAt 9 (.string s) (some (.int .i64 (k:Int))) none none).run Tryz.prog w= .ok (.string Z) w:=by
 subst hZ
 have a1:(k:Int)≤(s.size:Int):=by omega
 simp [Instr.sliceAt,Instr.slice,run_underlying Tryz.underlying9,Instr.sliceBounds,run_sliceBound,a1]
theorem iI (u:Nat) (h:u≤255) (w:World):(convert 5 3 (.int .u8 (u:Int))).run Tryz.prog w= .ok (.int .i64 (u:Int)) w:=by
 rw [run_convert_int w 5 3 .u8 _ (by kernel_rfl) (by kernel_rfl),show Tryz.prog.intKind 3= .i64 by kernel_rfl,IntWalk.i64_in _ (by omega)]
theorem gK (u:Nat) (h:u≤65535) (w:World):(convert 22 3 (.int .u64 (u:Int))).run Tryz.prog w= .ok (.int .i64 (u:Int)) w:=by
 rw [run_convert_int w 22 3 .u64 _ (by kernel_rfl) (by kernel_rfl),show Tryz.prog.intKind 3= .i64 by kernel_rfl,IntWalk.i64_in _ (by omega)]
theorem iY (s:ByteArray) (w W:World) (r:Nat) (x:Ad) (z:Int) {a:Act} (ht:a.tmps.getD 2 undef= .pointer (some ⟨r,0,none⟩)) (hz:a.tmps.getD 3 undef= .int .i64 z) (hd:a.defers=[]) (cs:Array Value) (hc:cs=adv x) (old:Array Value) (hr:Blk W r 32 old) (hb:Below w.heap.size w W) (hwr:w.heap.size≤r) (hq:gQ s=(x,z)):
  bodyPost Tryz.prog Tryz.f42 (fun e w'=>e= .returned (dO s)∧Below w.heap.size w w') .ret a (W.setRow r cs):=by
 subst hc
 have h:=aF (fn:=Tryz.f42) rfl a.tmps (W.setRow r (adv x)) r 32 (adv x) (0,0) _ ht (setRow_heap _ _ _ _ _ _ hr) Tryz.underlying32 rfl aW
 rw [hz] at h
 exact bodyPost_ret h hd ⟨by rw [vX s x z hq],below_setRow hb hwr _⟩
theorem pK (s:ByteArray) (w W:World) (r:Nat) (x:ByteArray) (z:Int) {a:Act} (ht:a.tmps.getD 2 undef= .pointer (some ⟨r,0,none⟩)) (hz:a.tmps.getD 3 undef= .int .i64 z) (hd:a.defers=[]) (cs:Array Value) (hc:cs=rmv x) (old:Array Value) (hr:Blk W r 34 old) (hb:Below w.heap.size w W) (hwr:w.heap.size≤r) (hq:fF s=(x,z)):
  bodyPost Tryz.prog Tryz.f43 (fun e w'=>e= .returned (iJ s)∧Below w.heap.size w w') .ret a (W.setRow r cs):=by
 subst hc
 have h:=aF (fn:=Tryz.f43) rfl a.tmps (W.setRow r (rmv x)) r 34 (rmv x) (0,0) _ ht (setRow_heap _ _ _ _ _ _ hr) Tryz.underlying34 rfl dQ
 rw [hz] at h
 exact bodyPost_ret h hd ⟨by rw [decRV_eq s x z hq],below_setRow hb hwr _⟩
structure Fr (s:ByteArray) (F:Nat) (k:Int):Prop where
 hs:s.size≤9223372036854775807
 hem:(s.toList==[])=false
 h0:0 < s.size
 l0:(0:Int) < (s.size:Int)
 hF8:F < 256
 hF0:(s[0].toNat:Int)=(F:Int)
 e0:((F:Int) / 16 !=k)=false
theorem cut_2 (s:ByteArray) (k:Nat):s.extract 2 (2+k)=txt ((dB s).take k):=by
 apply ByteArray.ext
 apply Array.toList_inj.1
 rw [ByteArray.data_extract,Array.toList_extract,List.extract_eq_take_drop]
 show _=(s.data.toList.drop 2).take k
 congr 1;omega
theorem tail_2 (s:ByteArray) (k:Nat):s.extract (2+k) s.size=txt ((dB s).drop k):=by
 have h:=rX s.data.toList (2+k)
 rw [show txt s.data.toList=s from rfl] at h
 rw [h,List.drop_drop]
theorem nO (s:ByteArray) (k m:Nat):num (txt (dB s)) k m=num s (2+k) m:=by
 apply nN
 intro j _
 rw [lH,List.getD_eq_getElem?_getD,List.getD_eq_getElem?_getD,List.getElem?_drop,Nat.add_assoc 2 k j]
structure Nm (s:ByteArray) (w V:World) (r ip k kp:Nat) (h:Bool) (N C:Nat) (TI TM:ByteArray):Prop where
 n16:N≤65535
 c8:C≤255
 c:byteAt s 1=C
 ti:s.extract 2 k=TI
 tm:s.extract kp s.size=TM
 row:Blk V r 32 (adv Ad.zero)
 bel:Below w.heap.size w V
 eq:∀E:Bool,(#[.bool E,.int .i64 (C:Int),.string TI,.bool h,.int .i64 (N:Int),.string TM]:Array Value)=adv (nJ E (byteAt s 1) (dB s) ip h)
theorem jK (s:ByteArray) (hs:s.size≤9223372036854775807) (ip k p kp:Nat) (h:Bool) (hk:k=2+ip) (hp:p=portOf h) (hkp:kp=k+p) (hz:kp≤s.size) (w w0:World) (r:Nat) (hZ:Blk w0 r 32 (adv Ad.zero)) (hB:Below w.heap.size w w0):
  Calls Tryz.prog 102 #[.pointer (some ⟨w0.heap.size,0,none⟩),.int .i64 (p:Int)] (w0.alloc (.cells #[.string s,.int .i64 (k:Int),.bool false] 148)) fun e V=>∃(N C:Nat) (TI TM:ByteArray),e= .returned (.int .u64 (N:Int))∧Nm s w V r ip k kp h N C TI TM:=by
 have hp8:p≤8:=by rw [hp];cases h<;>decide
 have qV:Ref (w0.alloc (.cells #[.string s,.int .i64 (k:Int),.bool false] 148)) w0.heap.size s k false:=Blk.new _ _ _
 refine (Num_ref _ s k false p hp8 _ hs (by omega) qV).mono ?_
 rintro e V ⟨rfl,mv⟩
 have hN:numO s k false p=num (txt (dB s)) ip (portOf h):=by rw [iG (by unfold fits;simp;omega),nO,←hk,←hp]
 have hlt:=hZ.lt
 refine ⟨_,byteAt s 1,s.extract 2 k,s.extract kp s.size,rfl,?_,?_,rfl,rfl,rfl,?_,?_,?_⟩
 ·rw [hN]
  cases h
  ·exact Nat.zero_le _
  ·have:=fH (txt (dB s)) ip 2
   show num _ _ 2≤65535
   omega
 ·have:=bK s 1;omega
 ·exact (hZ.alloc _).grown mv.1 (by intro e;injection e with e;omega)
 ·exact (hB.alloc hB.size _).trans (aA mv.1 hB.size (hB.alloc hB.size _).size)
 ·intro E
  show _=(#[.bool E,.int .i64 ((byteAt s 1:Nat):Int),.string (txt ((dB s).take ip)),.bool h,.int .i64 (num (txt (dB s)) ip (portOf h):Int),.string (txt ((dB s).drop (ip+portOf h)))]:Array Value)
  rw [hN,hkp,hk,hp,←cut_2,←tail_2,Nat.add_assoc]
theorem decD_short (s:ByteArray) (hem:(s.toList==[])=true) (hd:gQ s=(.zero,4)) (w:World):
  Calls Tryz.prog 42 #[.string s] w (Rt w (dO s)):=by
 have HD:=Lh hd
 clear hd
 obtain ⟨r,w0,HR2,HW0,HZ,HB0,HR⟩:=kQ w #[.bool false,.int .i64 0,.string ⟨#[]⟩,.bool false,.int .i64 0,.string ⟨#[]⟩] (adv Ad.zero) 32 rfl
 go_enter Tryz.func42,Tryz.ntmps42
 go_upto_region 1 with fail
 rw [←HW0.out,←HR2.out]
 go_wp2_with (refine wpList_store_row rfl 32 _ _ rfl r (adv Ad.zero) rfl rfl 32 (adv Ad.zero) ?_ aW rfl (lV _) ?_;exact HZ.out)
 exact iY s w w0 r Ad.zero 4 rfl rfl rfl _ rfl _ HZ.out HB0.out HR.out HD.out
theorem decD_kind (s:ByteArray) (hem:(s.toList==[])=false) (h0:0 < s.size) (l0:(0:Int) < (s.size:Int)) (F:Nat) (hF8:F < 256) (hF0:(s[0].toNat:Int)=(F:Int)) (e0:((F:Int) / 16 !=3)=true) (hd:gQ s=(.zero,7)) (w:World):
  Calls Tryz.prog 42 #[.string s] w (Rt w (dO s)):=by
 have HD:=Lh hd
 clear hd
 obtain ⟨r,w0,HR2,HW0,HZ,HB0,HR⟩:=kQ w #[.bool false,.int .i64 0,.string ⟨#[]⟩,.bool false,.int .i64 0,.string ⟨#[]⟩] (adv Ad.zero) 32 rfl
 go_enter Tryz.func42,Tryz.ntmps42
 go_upto_region 1 with fail
 rw [←HW0.out,←HR2.out]
 go_wp2_with (refine wpList_store_row rfl 32 _ _ rfl r (adv Ad.zero) rfl rfl 32 (adv Ad.zero) ?_ aW rfl (lV _) ?_;exact HZ.out)
 exact iY s w w0 r Ad.zero 7 rfl rfl rfl _ rfl _ HZ.out HB0.out HR.out HD.out
theorem decD_f0 (s:ByteArray) (F:Nat) (hy:Fr s F 3) (eE:((F:Int)%2==1)=false) (z0:s.size=14) (hd:gQ s=(nJ false (byteAt s 1) (dB s) 4 false,0)) (w:World):
  Calls Tryz.prog 42 #[.string s] w (Rt w (dO s)):=by
 obtain ⟨hs,hem,h0,l0,hF8,hF0,e0⟩:=hy
 have HD:=Lh hd
 have HS:=Lh hs
 clear hd
 have HSZ:=Lh z0
 have e0:((s.size:Int) !=14)=false:=by rw [bne_eq_false_iff_eq];omega
 clear z0
 obtain ⟨r,w0,HR2,HW0,HZ,HB0,HR⟩:=kQ w #[.bool false,.int .i64 0,.string ⟨#[]⟩,.bool false,.int .i64 0,.string ⟨#[]⟩] (adv Ad.zero) 32 rfl
 go_enter Tryz.func42,Tryz.ntmps42
 go_upto_region 1 with fail
 rw [←HW0.out,←HR2.out]
 go_wp2_with fail
 refine wp_loop_rounds 3 ?_
 rw [rounds_succ]
 go_wp2_with fail
 refine wp_loop_rounds 3 ?_
 rw [rounds_succ]
 go_wp2_with fail
 refine (jK s HS.out 4 6 0 6 false rfl rfl rfl (by have:=HSZ.out;omega) w w0 r HZ.out HB0.out).mono ?_
 rintro e V ⟨N,C,TI,TM,rfl,hn⟩
 have HN:=Lh hn
 clear hn
 go_upto_region 18 with fail
 have B0:True:=trivial
 refine cZ (fun _=>True) (by kernel_rfl) (n:=21) rfl ?_
 obtain ⟨W0,hW0⟩:=eqx V.drew
 rw [←hW0]
 have HWD:=Lh hW0
 clear hW0
 refine stF 0 (.bool false) rfl B0 (stF 1 (.string s) rfl B0 (stG 2 (.int .u8 (C:Int)) rfl B0 (fun _ _=>lG 9 (.tmp 49) (.const (.int .i64 1)) (by kernel_rfl) s 1 C (by kernel_rfl) (by kernel_rfl) (by kernel_rfl) (by have:=HSZ.out;omega) HN.out.c) (stG 3 (.int .i64 (C:Int)) rfl B0 (fun W _=>aH (v:=.int .u8 (C:Int)) 5 3 (.tmp 50) (by kernel_rfl) (by kernel_rfl) (iI C HN.out.c8 W)) (stF 4 (.string s) rfl B0 (stF 5 (.int .i64 4) rfl B0 (stF 6 (.int .i64 6) rfl B0 (stG 7 (.string TI) rfl B0 (fun W _=>gU (v:=.string s) (lv:=.int .i64 2) (hv:=.int .i64 6) 9 (.tmp 52) (.const (.int .i64 2)) (.tmp 54) (by kernel_rfl) (by kernel_rfl) (by kernel_rfl) (by kernel_rfl) (mD s 2 6 (by decide) (by have:=HSZ.out;omega) TI HN.out.ti W)) (stF 8 (.int .i64 0) rfl B0 (stG 9 (.bool false) rfl B0 (fun _ _=>xEb .i64 3 3 (.tmp 56) (.const (.int .i64 2)) (0) (2) false ((by decide))) ?_)))))))))
 refine stF 10 (.int .u64 (N:Int)) rfl B0 (stG 11 (.int .i64 (N:Int)) rfl B0 (fun W _=>aH (v:=.int .u64 (N:Int)) 22 3 (.tmp 58) (by kernel_rfl) (by kernel_rfl) (gK N HN.out.n16 W)) (stF 12 (.string s) rfl B0 (stF 13 (.int .i64 4) rfl B0 (stF 14 (.int .i64 6) rfl B0 (stF 15 (.int .i64 0) rfl B0 (stF 16 (.int .i64 6) rfl B0 (stG 17 (.string TM) rfl B0 (fun W _=>fK (v:=.string s) (lv:=.int .i64 6) 9 (.tmp 60) (.tmp 64) (by kernel_rfl) (by kernel_rfl) (by kernel_rfl) (mY s 6 (by have:=HSZ.out;omega) TM HN.out.tm W)) (stF 18 (.agg #[.bool false,.int .i64 (C:Int),.string TI,.bool false,.int .i64 (N:Int),.string TM]) rfl B0 ?_))))))))
 refine gI (w':=V.drew.setRow r #[.bool false,.int .i64 (C:Int),.string TI,.bool false,.int .i64 (N:Int),.string TM]) 19 rfl (by kernel_rfl) (by kernel_rfl) (by rw [HWD.out];exact bQ 32 (.tmp 2) (.tmp 66) (by kernel_rfl) r #[.bool false,.int .i64 (C:Int),.string TI,.bool false,.int .i64 (N:Int),.string TM] (by kernel_rfl) (by kernel_rfl) 32 (adv Ad.zero) HN.out.row.drew aW rfl (by simp [Value.oneCell'])) trivial ?_
 refine stF 20 (.int .i64 0) rfl B0 ?_
 refine aI (by kernel_rfl) ?_
 go_wp2_with fail
 exact iY s w V.drew r (nJ false (byteAt s 1) (dB s) 4 false) 0 (by kernel_rfl) (by kernel_rfl) (by kernel_rfl) _ (HN.out.eq false) _ HN.out.row.drew HN.out.bel.drew HR.out HD.out
theorem decD_f1 (s:ByteArray) (F:Nat) (hy:Fr s F 3) (eE:((F:Int)%2==1)=false) (z0:((s.size:Int) !=14)=true) (z1:s.size=16) (hd:gQ s=(nJ false (byteAt s 1) (dB s) 4 true,0)) (w:World):
  Calls Tryz.prog 42 #[.string s] w (Rt w (dO s)):=by
 obtain ⟨hs,hem,h0,l0,hF8,hF0,e0⟩:=hy
 have HD:=Lh hd
 have HS:=Lh hs
 clear hd
 have HSZ:=Lh z1
 have e1:((s.size:Int) !=16)=false:=by rw [bne_eq_false_iff_eq];omega
 clear z1
 obtain ⟨r,w0,HR2,HW0,HZ,HB0,HR⟩:=kQ w #[.bool false,.int .i64 0,.string ⟨#[]⟩,.bool false,.int .i64 0,.string ⟨#[]⟩] (adv Ad.zero) 32 rfl
 go_enter Tryz.func42,Tryz.ntmps42
 go_upto_region 1 with fail
 rw [←HW0.out,←HR2.out]
 go_wp2_with fail
 refine wp_loop_rounds 3 ?_
 rw [rounds_succ]
 go_wp2_with fail
 refine wp_loop_rounds 3 ?_
 rw [rounds_succ]
 go_wp2_with fail
 rw [rounds_succ]
 go_wp2_with fail
 refine (jK s HS.out 4 6 2 8 true rfl rfl rfl (by have:=HSZ.out;omega) w w0 r HZ.out HB0.out).mono ?_
 rintro e V ⟨N,C,TI,TM,rfl,hn⟩
 have HN:=Lh hn
 clear hn
 go_upto_region 18 with fail
 have B0:True:=trivial
 refine cZ (fun _=>True) (by kernel_rfl) (n:=21) rfl ?_
 obtain ⟨W0,hW0⟩:=eqx V.drew
 rw [←hW0]
 have HWD:=Lh hW0
 clear hW0
 refine stF 0 (.bool false) rfl B0 (stF 1 (.string s) rfl B0 (stG 2 (.int .u8 (C:Int)) rfl B0 (fun _ _=>lG 9 (.tmp 49) (.const (.int .i64 1)) (by kernel_rfl) s 1 C (by kernel_rfl) (by kernel_rfl) (by kernel_rfl) (by have:=HSZ.out;omega) HN.out.c) (stG 3 (.int .i64 (C:Int)) rfl B0 (fun W _=>aH (v:=.int .u8 (C:Int)) 5 3 (.tmp 50) (by kernel_rfl) (by kernel_rfl) (iI C HN.out.c8 W)) (stF 4 (.string s) rfl B0 (stF 5 (.int .i64 4) rfl B0 (stF 6 (.int .i64 6) rfl B0 (stG 7 (.string TI) rfl B0 (fun W _=>gU (v:=.string s) (lv:=.int .i64 2) (hv:=.int .i64 6) 9 (.tmp 52) (.const (.int .i64 2)) (.tmp 54) (by kernel_rfl) (by kernel_rfl) (by kernel_rfl) (by kernel_rfl) (mD s 2 6 (by decide) (by have:=HSZ.out;omega) TI HN.out.ti W)) (stF 8 (.int .i64 2) rfl B0 (stG 9 (.bool true) rfl B0 (fun _ _=>xEb .i64 3 3 (.tmp 56) (.const (.int .i64 2)) (2) (2) true ((by decide))) ?_)))))))))
 refine stF 10 (.int .u64 (N:Int)) rfl B0 (stG 11 (.int .i64 (N:Int)) rfl B0 (fun W _=>aH (v:=.int .u64 (N:Int)) 22 3 (.tmp 58) (by kernel_rfl) (by kernel_rfl) (gK N HN.out.n16 W)) (stF 12 (.string s) rfl B0 (stF 13 (.int .i64 4) rfl B0 (stF 14 (.int .i64 6) rfl B0 (stF 15 (.int .i64 2) rfl B0 (stF 16 (.int .i64 8) rfl B0 (stG 17 (.string TM) rfl B0 (fun W _=>fK (v:=.string s) (lv:=.int .i64 8) 9 (.tmp 60) (.tmp 64) (by kernel_rfl) (by kernel_rfl) (by kernel_rfl) (mY s 8 (by have:=HSZ.out;omega) TM HN.out.tm W)) (stF 18 (.agg #[.bool false,.int .i64 (C:Int),.string TI,.bool true,.int .i64 (N:Int),.string TM]) rfl B0 ?_))))))))
 refine gI (w':=V.drew.setRow r #[.bool false,.int .i64 (C:Int),.string TI,.bool true,.int .i64 (N:Int),.string TM]) 19 rfl (by kernel_rfl) (by kernel_rfl) (by rw [HWD.out];exact bQ 32 (.tmp 2) (.tmp 66) (by kernel_rfl) r #[.bool false,.int .i64 (C:Int),.string TI,.bool true,.int .i64 (N:Int),.string TM] (by kernel_rfl) (by kernel_rfl) 32 (adv Ad.zero) HN.out.row.drew aW rfl (by simp [Value.oneCell'])) trivial ?_
 refine stF 20 (.int .i64 0) rfl B0 ?_
 refine aI (by kernel_rfl) ?_
 go_wp2_with fail
 exact iY s w V.drew r (nJ false (byteAt s 1) (dB s) 4 true) 0 (by kernel_rfl) (by kernel_rfl) (by kernel_rfl) _ (HN.out.eq false) _ HN.out.row.drew HN.out.bel.drew HR.out HD.out
theorem decD_f2 (s:ByteArray) (F:Nat) (hy:Fr s F 3) (eE:((F:Int)%2==1)=false) (z0:((s.size:Int) !=14)=true) (z1:((s.size:Int) !=16)=true) (z2:s.size=26) (hd:gQ s=(nJ false (byteAt s 1) (dB s) 16 false,0)) (w:World):
  Calls Tryz.prog 42 #[.string s] w (Rt w (dO s)):=by
 obtain ⟨hs,hem,h0,l0,hF8,hF0,e0⟩:=hy
 have HD:=Lh hd
 have HS:=Lh hs
 clear hd
 have HSZ:=Lh z2
 have e2:((s.size:Int) !=26)=false:=by rw [bne_eq_false_iff_eq];omega
 clear z2
 obtain ⟨r,w0,HR2,HW0,HZ,HB0,HR⟩:=kQ w #[.bool false,.int .i64 0,.string ⟨#[]⟩,.bool false,.int .i64 0,.string ⟨#[]⟩] (adv Ad.zero) 32 rfl
 go_enter Tryz.func42,Tryz.ntmps42
 go_upto_region 1 with fail
 rw [←HW0.out,←HR2.out]
 go_wp2_with fail
 refine wp_loop_rounds 3 ?_
 rw [rounds_succ]
 go_wp2_with fail
 refine wp_loop_rounds 3 ?_
 rw [rounds_succ]
 go_wp2_with fail
 rw [rounds_succ]
 go_wp2_with fail
 rw [rounds_succ]
 go_wp2_with fail
 rw [rounds_succ]
 go_wp2_with fail
 refine wp_loop_rounds 3 ?_
 rw [rounds_succ]
 go_wp2_with fail
 refine (jK s HS.out 16 18 0 18 false rfl rfl rfl (by have:=HSZ.out;omega) w w0 r HZ.out HB0.out).mono ?_
 rintro e V ⟨N,C,TI,TM,rfl,hn⟩
 have HN:=Lh hn
 clear hn
 go_upto_region 18 with fail
 have B0:True:=trivial
 refine cZ (fun _=>True) (by kernel_rfl) (n:=21) rfl ?_
 obtain ⟨W0,hW0⟩:=eqx V.drew
 rw [←hW0]
 have HWD:=Lh hW0
 clear hW0
 refine stF 0 (.bool false) rfl B0 (stF 1 (.string s) rfl B0 (stG 2 (.int .u8 (C:Int)) rfl B0 (fun _ _=>lG 9 (.tmp 49) (.const (.int .i64 1)) (by kernel_rfl) s 1 C (by kernel_rfl) (by kernel_rfl) (by kernel_rfl) (by have:=HSZ.out;omega) HN.out.c) (stG 3 (.int .i64 (C:Int)) rfl B0 (fun W _=>aH (v:=.int .u8 (C:Int)) 5 3 (.tmp 50) (by kernel_rfl) (by kernel_rfl) (iI C HN.out.c8 W)) (stF 4 (.string s) rfl B0 (stF 5 (.int .i64 16) rfl B0 (stF 6 (.int .i64 18) rfl B0 (stG 7 (.string TI) rfl B0 (fun W _=>gU (v:=.string s) (lv:=.int .i64 2) (hv:=.int .i64 18) 9 (.tmp 52) (.const (.int .i64 2)) (.tmp 54) (by kernel_rfl) (by kernel_rfl) (by kernel_rfl) (by kernel_rfl) (mD s 2 18 (by decide) (by have:=HSZ.out;omega) TI HN.out.ti W)) (stF 8 (.int .i64 0) rfl B0 (stG 9 (.bool false) rfl B0 (fun _ _=>xEb .i64 3 3 (.tmp 56) (.const (.int .i64 2)) (0) (2) false ((by decide))) ?_)))))))))
 refine stF 10 (.int .u64 (N:Int)) rfl B0 (stG 11 (.int .i64 (N:Int)) rfl B0 (fun W _=>aH (v:=.int .u64 (N:Int)) 22 3 (.tmp 58) (by kernel_rfl) (by kernel_rfl) (gK N HN.out.n16 W)) (stF 12 (.string s) rfl B0 (stF 13 (.int .i64 16) rfl B0 (stF 14 (.int .i64 18) rfl B0 (stF 15 (.int .i64 0) rfl B0 (stF 16 (.int .i64 18) rfl B0 (stG 17 (.string TM) rfl B0 (fun W _=>fK (v:=.string s) (lv:=.int .i64 18) 9 (.tmp 60) (.tmp 64) (by kernel_rfl) (by kernel_rfl) (by kernel_rfl) (mY s 18 (by have:=HSZ.out;omega) TM HN.out.tm W)) (stF 18 (.agg #[.bool false,.int .i64 (C:Int),.string TI,.bool false,.int .i64 (N:Int),.string TM]) rfl B0 ?_))))))))
 refine gI (w':=V.drew.setRow r #[.bool false,.int .i64 (C:Int),.string TI,.bool false,.int .i64 (N:Int),.string TM]) 19 rfl (by kernel_rfl) (by kernel_rfl) (by rw [HWD.out];exact bQ 32 (.tmp 2) (.tmp 66) (by kernel_rfl) r #[.bool false,.int .i64 (C:Int),.string TI,.bool false,.int .i64 (N:Int),.string TM] (by kernel_rfl) (by kernel_rfl) 32 (adv Ad.zero) HN.out.row.drew aW rfl (by simp [Value.oneCell'])) trivial ?_
 refine stF 20 (.int .i64 0) rfl B0 ?_
 refine aI (by kernel_rfl) ?_
 go_wp2_with fail
 exact iY s w V.drew r (nJ false (byteAt s 1) (dB s) 16 false) 0 (by kernel_rfl) (by kernel_rfl) (by kernel_rfl) _ (HN.out.eq false) _ HN.out.row.drew HN.out.bel.drew HR.out HD.out
theorem decD_f3 (s:ByteArray) (F:Nat) (hy:Fr s F 3) (eE:((F:Int)%2==1)=false) (z0:((s.size:Int) !=14)=true) (z1:((s.size:Int) !=16)=true) (z2:((s.size:Int) !=26)=true) (z3:s.size=28) (hd:gQ s=(nJ false (byteAt s 1) (dB s) 16 true,0)) (w:World):
  Calls Tryz.prog 42 #[.string s] w (Rt w (dO s)):=by
 obtain ⟨hs,hem,h0,l0,hF8,hF0,e0⟩:=hy
 have HD:=Lh hd
 have HS:=Lh hs
 clear hd
 have HSZ:=Lh z3
 have e3:((s.size:Int) !=28)=false:=by rw [bne_eq_false_iff_eq];omega
 clear z3
 obtain ⟨r,w0,HR2,HW0,HZ,HB0,HR⟩:=kQ w #[.bool false,.int .i64 0,.string ⟨#[]⟩,.bool false,.int .i64 0,.string ⟨#[]⟩] (adv Ad.zero) 32 rfl
 go_enter Tryz.func42,Tryz.ntmps42
 go_upto_region 1 with fail
 rw [←HW0.out,←HR2.out]
 go_wp2_with fail
 refine wp_loop_rounds 3 ?_
 rw [rounds_succ]
 go_wp2_with fail
 refine wp_loop_rounds 3 ?_
 rw [rounds_succ]
 go_wp2_with fail
 rw [rounds_succ]
 go_wp2_with fail
 rw [rounds_succ]
 go_wp2_with fail
 rw [rounds_succ]
 go_wp2_with fail
 refine wp_loop_rounds 3 ?_
 rw [rounds_succ]
 go_wp2_with fail
 rw [rounds_succ]
 go_wp2_with fail
 refine (jK s HS.out 16 18 2 20 true rfl rfl rfl (by have:=HSZ.out;omega) w w0 r HZ.out HB0.out).mono ?_
 rintro e V ⟨N,C,TI,TM,rfl,hn⟩
 have HN:=Lh hn
 clear hn
 go_upto_region 18 with fail
 have B0:True:=trivial
 refine cZ (fun _=>True) (by kernel_rfl) (n:=21) rfl ?_
 obtain ⟨W0,hW0⟩:=eqx V.drew
 rw [←hW0]
 have HWD:=Lh hW0
 clear hW0
 refine stF 0 (.bool false) rfl B0 (stF 1 (.string s) rfl B0 (stG 2 (.int .u8 (C:Int)) rfl B0 (fun _ _=>lG 9 (.tmp 49) (.const (.int .i64 1)) (by kernel_rfl) s 1 C (by kernel_rfl) (by kernel_rfl) (by kernel_rfl) (by have:=HSZ.out;omega) HN.out.c) (stG 3 (.int .i64 (C:Int)) rfl B0 (fun W _=>aH (v:=.int .u8 (C:Int)) 5 3 (.tmp 50) (by kernel_rfl) (by kernel_rfl) (iI C HN.out.c8 W)) (stF 4 (.string s) rfl B0 (stF 5 (.int .i64 16) rfl B0 (stF 6 (.int .i64 18) rfl B0 (stG 7 (.string TI) rfl B0 (fun W _=>gU (v:=.string s) (lv:=.int .i64 2) (hv:=.int .i64 18) 9 (.tmp 52) (.const (.int .i64 2)) (.tmp 54) (by kernel_rfl) (by kernel_rfl) (by kernel_rfl) (by kernel_rfl) (mD s 2 18 (by decide) (by have:=HSZ.out;omega) TI HN.out.ti W)) (stF 8 (.int .i64 2) rfl B0 (stG 9 (.bool true) rfl B0 (fun _ _=>xEb .i64 3 3 (.tmp 56) (.const (.int .i64 2)) (2) (2) true ((by decide))) ?_)))))))))
 refine stF 10 (.int .u64 (N:Int)) rfl B0 (stG 11 (.int .i64 (N:Int)) rfl B0 (fun W _=>aH (v:=.int .u64 (N:Int)) 22 3 (.tmp 58) (by kernel_rfl) (by kernel_rfl) (gK N HN.out.n16 W)) (stF 12 (.string s) rfl B0 (stF 13 (.int .i64 16) rfl B0 (stF 14 (.int .i64 18) rfl B0 (stF 15 (.int .i64 2) rfl B0 (stF 16 (.int .i64 20) rfl B0 (stG 17 (.string TM) rfl B0 (fun W _=>fK (v:=.string s) (lv:=.int .i64 20) 9 (.tmp 60) (.tmp 64) (by kernel_rfl) (by kernel_rfl) (by kernel_rfl) (mY s 20 (by have:=HSZ.out;omega) TM HN.out.tm W)) (stF 18 (.agg #[.bool false,.int .i64 (C:Int),.string TI,.bool true,.int .i64 (N:Int),.string TM]) rfl B0 ?_))))))))
 refine gI (w':=V.drew.setRow r #[.bool false,.int .i64 (C:Int),.string TI,.bool true,.int .i64 (N:Int),.string TM]) 19 rfl (by kernel_rfl) (by kernel_rfl) (by rw [HWD.out];exact bQ 32 (.tmp 2) (.tmp 66) (by kernel_rfl) r #[.bool false,.int .i64 (C:Int),.string TI,.bool true,.int .i64 (N:Int),.string TM] (by kernel_rfl) (by kernel_rfl) 32 (adv Ad.zero) HN.out.row.drew aW rfl (by simp [Value.oneCell'])) trivial ?_
 refine stF 20 (.int .i64 0) rfl B0 ?_
 refine aI (by kernel_rfl) ?_
 go_wp2_with fail
 exact iY s w V.drew r (nJ false (byteAt s 1) (dB s) 16 true) 0 (by kernel_rfl) (by kernel_rfl) (by kernel_rfl) _ (HN.out.eq false) _ HN.out.row.drew HN.out.bel.drew HR.out HD.out
theorem decD_fx (s:ByteArray) (F:Nat) (hy:Fr s F 3) (eE:((F:Int)%2==1)=false) (z0:((s.size:Int) !=14)=true) (z1:((s.size:Int) !=16)=true) (z2:((s.size:Int) !=26)=true) (z3:((s.size:Int) !=28)=true) (hd:gQ s=(.zero,5)) (w:World):
  Calls Tryz.prog 42 #[.string s] w (Rt w (dO s)):=by
 obtain ⟨hs,hem,h0,l0,hF8,hF0,e0⟩:=hy
 have HD:=Lh hd
 have HS:=Lh hs
 clear hd
 obtain ⟨r,w0,HR2,HW0,HZ,HB0,HR⟩:=kQ w #[.bool false,.int .i64 0,.string ⟨#[]⟩,.bool false,.int .i64 0,.string ⟨#[]⟩] (adv Ad.zero) 32 rfl
 go_enter Tryz.func42,Tryz.ntmps42
 go_upto_region 1 with fail
 rw [←HW0.out,←HR2.out]
 go_wp2_with fail
 refine wp_loop_rounds 3 ?_
 rw [rounds_succ]
 go_wp2_with fail
 refine wp_loop_rounds 3 ?_
 rw [rounds_succ]
 go_wp2_with fail
 rw [rounds_succ]
 go_wp2_with fail
 rw [rounds_succ]
 go_wp2_with fail
 rw [rounds_succ]
 go_wp2_with fail
 refine wp_loop_rounds 3 ?_
 rw [rounds_succ]
 go_wp2_with fail
 rw [rounds_succ]
 go_wp2_with fail
 rw [rounds_succ]
 go_wp2_with fail
 rw [rounds_succ]
 go_wp2_with (refine wpList_store_row rfl 32 _ _ rfl r (adv Ad.zero) rfl rfl 32 (adv Ad.zero) ?_ aW rfl (lV _) ?_;exact HZ.out)
 exact iY s w w0 r Ad.zero 5 rfl rfl rfl _ rfl _ HZ.out HB0.out HR.out HD.out
theorem decD_t0 (s:ByteArray) (F:Nat) (hy:Fr s F 3) (eE:((F:Int)%2==1)=true) (z0:s.size=6) (hd:gQ s=(nJ true (byteAt s 1) (dB s) 4 false,0)) (w:World):
  Calls Tryz.prog 42 #[.string s] w (Rt w (dO s)):=by
 obtain ⟨hs,hem,h0,l0,hF8,hF0,e0⟩:=hy
 have HD:=Lh hd
 have HS:=Lh hs
 clear hd
 have HSZ:=Lh z0
 have e0:((s.size:Int) !=6)=false:=by rw [bne_eq_false_iff_eq];omega
 clear z0
 obtain ⟨r,w0,HR2,HW0,HZ,HB0,HR⟩:=kQ w #[.bool false,.int .i64 0,.string ⟨#[]⟩,.bool false,.int .i64 0,.string ⟨#[]⟩] (adv Ad.zero) 32 rfl
 go_enter Tryz.func42,Tryz.ntmps42
 go_upto_region 1 with fail
 rw [←HW0.out,←HR2.out]
 go_wp2_with fail
 refine wp_loop_rounds 3 ?_
 rw [rounds_succ]
 go_wp2_with fail
 refine wp_loop_rounds 3 ?_
 rw [rounds_succ]
 go_wp2_with fail
 refine (jK s HS.out 4 6 0 6 false rfl rfl rfl (by have:=HSZ.out;omega) w w0 r HZ.out HB0.out).mono ?_
 rintro e V ⟨N,C,TI,TM,rfl,hn⟩
 have HN:=Lh hn
 clear hn
 go_upto_region 18 with fail
 have B0:True:=trivial
 refine cZ (fun _=>True) (by kernel_rfl) (n:=21) rfl ?_
 obtain ⟨W0,hW0⟩:=eqx V.drew
 rw [←hW0]
 have HWD:=Lh hW0
 clear hW0
 refine stF 0 (.bool true) rfl B0 (stF 1 (.string s) rfl B0 (stG 2 (.int .u8 (C:Int)) rfl B0 (fun _ _=>lG 9 (.tmp 49) (.const (.int .i64 1)) (by kernel_rfl) s 1 C (by kernel_rfl) (by kernel_rfl) (by kernel_rfl) (by have:=HSZ.out;omega) HN.out.c) (stG 3 (.int .i64 (C:Int)) rfl B0 (fun W _=>aH (v:=.int .u8 (C:Int)) 5 3 (.tmp 50) (by kernel_rfl) (by kernel_rfl) (iI C HN.out.c8 W)) (stF 4 (.string s) rfl B0 (stF 5 (.int .i64 4) rfl B0 (stF 6 (.int .i64 6) rfl B0 (stG 7 (.string TI) rfl B0 (fun W _=>gU (v:=.string s) (lv:=.int .i64 2) (hv:=.int .i64 6) 9 (.tmp 52) (.const (.int .i64 2)) (.tmp 54) (by kernel_rfl) (by kernel_rfl) (by kernel_rfl) (by kernel_rfl) (mD s 2 6 (by decide) (by have:=HSZ.out;omega) TI HN.out.ti W)) (stF 8 (.int .i64 0) rfl B0 (stG 9 (.bool false) rfl B0 (fun _ _=>xEb .i64 3 3 (.tmp 56) (.const (.int .i64 2)) (0) (2) false ((by decide))) ?_)))))))))
 refine stF 10 (.int .u64 (N:Int)) rfl B0 (stG 11 (.int .i64 (N:Int)) rfl B0 (fun W _=>aH (v:=.int .u64 (N:Int)) 22 3 (.tmp 58) (by kernel_rfl) (by kernel_rfl) (gK N HN.out.n16 W)) (stF 12 (.string s) rfl B0 (stF 13 (.int .i64 4) rfl B0 (stF 14 (.int .i64 6) rfl B0 (stF 15 (.int .i64 0) rfl B0 (stF 16 (.int .i64 6) rfl B0 (stG 17 (.string TM) rfl B0 (fun W _=>fK (v:=.string s) (lv:=.int .i64 6) 9 (.tmp 60) (.tmp 64) (by kernel_rfl) (by kernel_rfl) (by kernel_rfl) (mY s 6 (by have:=HSZ.out;omega) TM HN.out.tm W)) (stF 18 (.agg #[.bool true,.int .i64 (C:Int),.string TI,.bool false,.int .i64 (N:Int),.string TM]) rfl B0 ?_))))))))
 refine gI (w':=V.drew.setRow r #[.bool true,.int .i64 (C:Int),.string TI,.bool false,.int .i64 (N:Int),.string TM]) 19 rfl (by kernel_rfl) (by kernel_rfl) (by rw [HWD.out];exact bQ 32 (.tmp 2) (.tmp 66) (by kernel_rfl) r #[.bool true,.int .i64 (C:Int),.string TI,.bool false,.int .i64 (N:Int),.string TM] (by kernel_rfl) (by kernel_rfl) 32 (adv Ad.zero) HN.out.row.drew aW rfl (by simp [Value.oneCell'])) trivial ?_
 refine stF 20 (.int .i64 0) rfl B0 ?_
 refine aI (by kernel_rfl) ?_
 go_wp2_with fail
 exact iY s w V.drew r (nJ true (byteAt s 1) (dB s) 4 false) 0 (by kernel_rfl) (by kernel_rfl) (by kernel_rfl) _ (HN.out.eq true) _ HN.out.row.drew HN.out.bel.drew HR.out HD.out
theorem decD_t1 (s:ByteArray) (F:Nat) (hy:Fr s F 3) (eE:((F:Int)%2==1)=true) (z0:((s.size:Int) !=6)=true) (z1:s.size=8) (hd:gQ s=(nJ true (byteAt s 1) (dB s) 4 true,0)) (w:World):
  Calls Tryz.prog 42 #[.string s] w (Rt w (dO s)):=by
 obtain ⟨hs,hem,h0,l0,hF8,hF0,e0⟩:=hy
 have HD:=Lh hd
 have HS:=Lh hs
 clear hd
 have HSZ:=Lh z1
 have e1:((s.size:Int) !=8)=false:=by rw [bne_eq_false_iff_eq];omega
 clear z1
 obtain ⟨r,w0,HR2,HW0,HZ,HB0,HR⟩:=kQ w #[.bool false,.int .i64 0,.string ⟨#[]⟩,.bool false,.int .i64 0,.string ⟨#[]⟩] (adv Ad.zero) 32 rfl
 go_enter Tryz.func42,Tryz.ntmps42
 go_upto_region 1 with fail
 rw [←HW0.out,←HR2.out]
 go_wp2_with fail
 refine wp_loop_rounds 3 ?_
 rw [rounds_succ]
 go_wp2_with fail
 refine wp_loop_rounds 3 ?_
 rw [rounds_succ]
 go_wp2_with fail
 rw [rounds_succ]
 go_wp2_with fail
 refine (jK s HS.out 4 6 2 8 true rfl rfl rfl (by have:=HSZ.out;omega) w w0 r HZ.out HB0.out).mono ?_
 rintro e V ⟨N,C,TI,TM,rfl,hn⟩
 have HN:=Lh hn
 clear hn
 go_upto_region 18 with fail
 have B0:True:=trivial
 refine cZ (fun _=>True) (by kernel_rfl) (n:=21) rfl ?_
 obtain ⟨W0,hW0⟩:=eqx V.drew
 rw [←hW0]
 have HWD:=Lh hW0
 clear hW0
 refine stF 0 (.bool true) rfl B0 (stF 1 (.string s) rfl B0 (stG 2 (.int .u8 (C:Int)) rfl B0 (fun _ _=>lG 9 (.tmp 49) (.const (.int .i64 1)) (by kernel_rfl) s 1 C (by kernel_rfl) (by kernel_rfl) (by kernel_rfl) (by have:=HSZ.out;omega) HN.out.c) (stG 3 (.int .i64 (C:Int)) rfl B0 (fun W _=>aH (v:=.int .u8 (C:Int)) 5 3 (.tmp 50) (by kernel_rfl) (by kernel_rfl) (iI C HN.out.c8 W)) (stF 4 (.string s) rfl B0 (stF 5 (.int .i64 4) rfl B0 (stF 6 (.int .i64 6) rfl B0 (stG 7 (.string TI) rfl B0 (fun W _=>gU (v:=.string s) (lv:=.int .i64 2) (hv:=.int .i64 6) 9 (.tmp 52) (.const (.int .i64 2)) (.tmp 54) (by kernel_rfl) (by kernel_rfl) (by kernel_rfl) (by kernel_rfl) (mD s 2 6 (by decide) (by have:=HSZ.out;omega) TI HN.out.ti W)) (stF 8 (.int .i64 2) rfl B0 (stG 9 (.bool true) rfl B0 (fun _ _=>xEb .i64 3 3 (.tmp 56) (.const (.int .i64 2)) (2) (2) true ((by decide))) ?_)))))))))
 refine stF 10 (.int .u64 (N:Int)) rfl B0 (stG 11 (.int .i64 (N:Int)) rfl B0 (fun W _=>aH (v:=.int .u64 (N:Int)) 22 3 (.tmp 58) (by kernel_rfl) (by kernel_rfl) (gK N HN.out.n16 W)) (stF 12 (.string s) rfl B0 (stF 13 (.int .i64 4) rfl B0 (stF 14 (.int .i64 6) rfl B0 (stF 15 (.int .i64 2) rfl B0 (stF 16 (.int .i64 8) rfl B0 (stG 17 (.string TM) rfl B0 (fun W _=>fK (v:=.string s) (lv:=.int .i64 8) 9 (.tmp 60) (.tmp 64) (by kernel_rfl) (by kernel_rfl) (by kernel_rfl) (mY s 8 (by have:=HSZ.out;omega) TM HN.out.tm W)) (stF 18 (.agg #[.bool true,.int .i64 (C:Int),.string TI,.bool true,.int .i64 (N:Int),.string TM]) rfl B0 ?_))))))))
 refine gI (w':=V.drew.setRow r #[.bool true,.int .i64 (C:Int),.string TI,.bool true,.int .i64 (N:Int),.string TM]) 19 rfl (by kernel_rfl) (by kernel_rfl) (by rw [HWD.out];exact bQ 32 (.tmp 2) (.tmp 66) (by kernel_rfl) r #[.bool true,.int .i64 (C:Int),.string TI,.bool true,.int .i64 (N:Int),.string TM] (by kernel_rfl) (by kernel_rfl) 32 (adv Ad.zero) HN.out.row.drew aW rfl (by simp [Value.oneCell'])) trivial ?_
 refine stF 20 (.int .i64 0) rfl B0 ?_
 refine aI (by kernel_rfl) ?_
 go_wp2_with fail
 exact iY s w V.drew r (nJ true (byteAt s 1) (dB s) 4 true) 0 (by kernel_rfl) (by kernel_rfl) (by kernel_rfl) _ (HN.out.eq true) _ HN.out.row.drew HN.out.bel.drew HR.out HD.out
theorem decD_t2 (s:ByteArray) (F:Nat) (hy:Fr s F 3) (eE:((F:Int)%2==1)=true) (z0:((s.size:Int) !=6)=true) (z1:((s.size:Int) !=8)=true) (z2:s.size=18) (hd:gQ s=(nJ true (byteAt s 1) (dB s) 16 false,0)) (w:World):
  Calls Tryz.prog 42 #[.string s] w (Rt w (dO s)):=by
 obtain ⟨hs,hem,h0,l0,hF8,hF0,e0⟩:=hy
 have HD:=Lh hd
 have HS:=Lh hs
 clear hd
 have HSZ:=Lh z2
 have e2:((s.size:Int) !=18)=false:=by rw [bne_eq_false_iff_eq];omega
 clear z2
 obtain ⟨r,w0,HR2,HW0,HZ,HB0,HR⟩:=kQ w #[.bool false,.int .i64 0,.string ⟨#[]⟩,.bool false,.int .i64 0,.string ⟨#[]⟩] (adv Ad.zero) 32 rfl
 go_enter Tryz.func42,Tryz.ntmps42
 go_upto_region 1 with fail
 rw [←HW0.out,←HR2.out]
 go_wp2_with fail
 refine wp_loop_rounds 3 ?_
 rw [rounds_succ]
 go_wp2_with fail
 refine wp_loop_rounds 3 ?_
 rw [rounds_succ]
 go_wp2_with fail
 rw [rounds_succ]
 go_wp2_with fail
 rw [rounds_succ]
 go_wp2_with fail
 rw [rounds_succ]
 go_wp2_with fail
 refine wp_loop_rounds 3 ?_
 rw [rounds_succ]
 go_wp2_with fail
 refine (jK s HS.out 16 18 0 18 false rfl rfl rfl (by have:=HSZ.out;omega) w w0 r HZ.out HB0.out).mono ?_
 rintro e V ⟨N,C,TI,TM,rfl,hn⟩
 have HN:=Lh hn
 clear hn
 go_upto_region 18 with fail
 have B0:True:=trivial
 refine cZ (fun _=>True) (by kernel_rfl) (n:=21) rfl ?_
 obtain ⟨W0,hW0⟩:=eqx V.drew
 rw [←hW0]
 have HWD:=Lh hW0
 clear hW0
 refine stF 0 (.bool true) rfl B0 (stF 1 (.string s) rfl B0 (stG 2 (.int .u8 (C:Int)) rfl B0 (fun _ _=>lG 9 (.tmp 49) (.const (.int .i64 1)) (by kernel_rfl) s 1 C (by kernel_rfl) (by kernel_rfl) (by kernel_rfl) (by have:=HSZ.out;omega) HN.out.c) (stG 3 (.int .i64 (C:Int)) rfl B0 (fun W _=>aH (v:=.int .u8 (C:Int)) 5 3 (.tmp 50) (by kernel_rfl) (by kernel_rfl) (iI C HN.out.c8 W)) (stF 4 (.string s) rfl B0 (stF 5 (.int .i64 16) rfl B0 (stF 6 (.int .i64 18) rfl B0 (stG 7 (.string TI) rfl B0 (fun W _=>gU (v:=.string s) (lv:=.int .i64 2) (hv:=.int .i64 18) 9 (.tmp 52) (.const (.int .i64 2)) (.tmp 54) (by kernel_rfl) (by kernel_rfl) (by kernel_rfl) (by kernel_rfl) (mD s 2 18 (by decide) (by have:=HSZ.out;omega) TI HN.out.ti W)) (stF 8 (.int .i64 0) rfl B0 (stG 9 (.bool false) rfl B0 (fun _ _=>xEb .i64 3 3 (.tmp 56) (.const (.int .i64 2)) (0) (2) false ((by decide))) ?_)))))))))
 refine stF 10 (.int .u64 (N:Int)) rfl B0 (stG 11 (.int .i64 (N:Int)) rfl B0 (fun W _=>aH (v:=.int .u64 (N:Int)) 22 3 (.tmp 58) (by kernel_rfl) (by kernel_rfl) (gK N HN.out.n16 W)) (stF 12 (.string s) rfl B0 (stF 13 (.int .i64 16) rfl B0 (stF 14 (.int .i64 18) rfl B0 (stF 15 (.int .i64 0) rfl B0 (stF 16 (.int .i64 18) rfl B0 (stG 17 (.string TM) rfl B0 (fun W _=>fK (v:=.string s) (lv:=.int .i64 18) 9 (.tmp 60) (.tmp 64) (by kernel_rfl) (by kernel_rfl) (by kernel_rfl) (mY s 18 (by have:=HSZ.out;omega) TM HN.out.tm W)) (stF 18 (.agg #[.bool true,.int .i64 (C:Int),.string TI,.bool false,.int .i64 (N:Int),.string TM]) rfl B0 ?_))))))))
 refine gI (w':=V.drew.setRow r #[.bool true,.int .i64 (C:Int),.string TI,.bool false,.int .i64 (N:Int),.string TM]) 19 rfl (by kernel_rfl) (by kernel_rfl) (by rw [HWD.out];exact bQ 32 (.tmp 2) (.tmp 66) (by kernel_rfl) r #[.bool true,.int .i64 (C:Int),.string TI,.bool false,.int .i64 (N:Int),.string TM] (by kernel_rfl) (by kernel_rfl) 32 (adv Ad.zero) HN.out.row.drew aW rfl (by simp [Value.oneCell'])) trivial ?_
 refine stF 20 (.int .i64 0) rfl B0 ?_
 refine aI (by kernel_rfl) ?_
 go_wp2_with fail
 exact iY s w V.drew r (nJ true (byteAt s 1) (dB s) 16 false) 0 (by kernel_rfl) (by kernel_rfl) (by kernel_rfl) _ (HN.out.eq true) _ HN.out.row.drew HN.out.bel.drew HR.out HD.out
theorem decD_t3 (s:ByteArray) (F:Nat) (hy:Fr s F 3) (eE:((F:Int)%2==1)=true) (z0:((s.size:Int) !=6)=true) (z1:((s.size:Int) !=8)=true) (z2:((s.size:Int) !=18)=true) (z3:s.size=20) (hd:gQ s=(nJ true (byteAt s 1) (dB s) 16 true,0)) (w:World):
  Calls Tryz.prog 42 #[.string s] w (Rt w (dO s)):=by
 obtain ⟨hs,hem,h0,l0,hF8,hF0,e0⟩:=hy
 have HD:=Lh hd
 have HS:=Lh hs
 clear hd
 have HSZ:=Lh z3
 have e3:((s.size:Int) !=20)=false:=by rw [bne_eq_false_iff_eq];omega
 clear z3
 obtain ⟨r,w0,HR2,HW0,HZ,HB0,HR⟩:=kQ w #[.bool false,.int .i64 0,.string ⟨#[]⟩,.bool false,.int .i64 0,.string ⟨#[]⟩] (adv Ad.zero) 32 rfl
 go_enter Tryz.func42,Tryz.ntmps42
 go_upto_region 1 with fail
 rw [←HW0.out,←HR2.out]
 go_wp2_with fail
 refine wp_loop_rounds 3 ?_
 rw [rounds_succ]
 go_wp2_with fail
 refine wp_loop_rounds 3 ?_
 rw [rounds_succ]
 go_wp2_with fail
 rw [rounds_succ]
 go_wp2_with fail
 rw [rounds_succ]
 go_wp2_with fail
 rw [rounds_succ]
 go_wp2_with fail
 refine wp_loop_rounds 3 ?_
 rw [rounds_succ]
 go_wp2_with fail
 rw [rounds_succ]
 go_wp2_with fail
 refine (jK s HS.out 16 18 2 20 true rfl rfl rfl (by have:=HSZ.out;omega) w w0 r HZ.out HB0.out).mono ?_
 rintro e V ⟨N,C,TI,TM,rfl,hn⟩
 have HN:=Lh hn
 clear hn
 go_upto_region 18 with fail
 have B0:True:=trivial
 refine cZ (fun _=>True) (by kernel_rfl) (n:=21) rfl ?_
 obtain ⟨W0,hW0⟩:=eqx V.drew
 rw [←hW0]
 have HWD:=Lh hW0
 clear hW0
 refine stF 0 (.bool true) rfl B0 (stF 1 (.string s) rfl B0 (stG 2 (.int .u8 (C:Int)) rfl B0 (fun _ _=>lG 9 (.tmp 49) (.const (.int .i64 1)) (by kernel_rfl) s 1 C (by kernel_rfl) (by kernel_rfl) (by kernel_rfl) (by have:=HSZ.out;omega) HN.out.c) (stG 3 (.int .i64 (C:Int)) rfl B0 (fun W _=>aH (v:=.int .u8 (C:Int)) 5 3 (.tmp 50) (by kernel_rfl) (by kernel_rfl) (iI C HN.out.c8 W)) (stF 4 (.string s) rfl B0 (stF 5 (.int .i64 16) rfl B0 (stF 6 (.int .i64 18) rfl B0 (stG 7 (.string TI) rfl B0 (fun W _=>gU (v:=.string s) (lv:=.int .i64 2) (hv:=.int .i64 18) 9 (.tmp 52) (.const (.int .i64 2)) (.tmp 54) (by kernel_rfl) (by kernel_rfl) (by kernel_rfl) (by kernel_rfl) (mD s 2 18 (by decide) (by have:=HSZ.out;omega) TI HN.out.ti W)) (stF 8 (.int .i64 2) rfl B0 (stG 9 (.bool true) rfl B0 (fun _ _=>xEb .i64 3 3 (.tmp 56) (.const (.int .i64 2)) (2) (2) true ((by decide))) ?_)))))))))
 refine stF 10 (.int .u64 (N:Int)) rfl B0 (stG 11 (.int .i64 (N:Int)) rfl B0 (fun W _=>aH (v:=.int .u64 (N:Int)) 22 3 (.tmp 58) (by kernel_rfl) (by kernel_rfl) (gK N HN.out.n16 W)) (stF 12 (.string s) rfl B0 (stF 13 (.int .i64 16) rfl B0 (stF 14 (.int .i64 18) rfl B0 (stF 15 (.int .i64 2) rfl B0 (stF 16 (.int .i64 20) rfl B0 (stG 17 (.string TM) rfl B0 (fun W _=>fK (v:=.string s) (lv:=.int .i64 20) 9 (.tmp 60) (.tmp 64) (by kernel_rfl) (by kernel_rfl) (by kernel_rfl) (mY s 20 (by have:=HSZ.out;omega) TM HN.out.tm W)) (stF 18 (.agg #[.bool true,.int .i64 (C:Int),.string TI,.bool true,.int .i64 (N:Int),.string TM]) rfl B0 ?_))))))))
 refine gI (w':=V.drew.setRow r #[.bool true,.int .i64 (C:Int),.string TI,.bool true,.int .i64 (N:Int),.string TM]) 19 rfl (by kernel_rfl) (by kernel_rfl) (by rw [HWD.out];exact bQ 32 (.tmp 2) (.tmp 66) (by kernel_rfl) r #[.bool true,.int .i64 (C:Int),.string TI,.bool true,.int .i64 (N:Int),.string TM] (by kernel_rfl) (by kernel_rfl) 32 (adv Ad.zero) HN.out.row.drew aW rfl (by simp [Value.oneCell'])) trivial ?_
 refine stF 20 (.int .i64 0) rfl B0 ?_
 refine aI (by kernel_rfl) ?_
 go_wp2_with fail
 exact iY s w V.drew r (nJ true (byteAt s 1) (dB s) 16 true) 0 (by kernel_rfl) (by kernel_rfl) (by kernel_rfl) _ (HN.out.eq true) _ HN.out.row.drew HN.out.bel.drew HR.out HD.out
theorem decD_tx (s:ByteArray) (F:Nat) (hy:Fr s F 3) (eE:((F:Int)%2==1)=true) (z0:((s.size:Int) !=6)=true) (z1:((s.size:Int) !=8)=true) (z2:((s.size:Int) !=18)=true) (z3:((s.size:Int) !=20)=true) (hd:gQ s=(.zero,5)) (w:World):
  Calls Tryz.prog 42 #[.string s] w (Rt w (dO s)):=by
 obtain ⟨hs,hem,h0,l0,hF8,hF0,e0⟩:=hy
 have HD:=Lh hd
 have HS:=Lh hs
 clear hd
 obtain ⟨r,w0,HR2,HW0,HZ,HB0,HR⟩:=kQ w #[.bool false,.int .i64 0,.string ⟨#[]⟩,.bool false,.int .i64 0,.string ⟨#[]⟩] (adv Ad.zero) 32 rfl
 go_enter Tryz.func42,Tryz.ntmps42
 go_upto_region 1 with fail
 rw [←HW0.out,←HR2.out]
 go_wp2_with fail
 refine wp_loop_rounds 3 ?_
 rw [rounds_succ]
 go_wp2_with fail
 refine wp_loop_rounds 3 ?_
 rw [rounds_succ]
 go_wp2_with fail
 rw [rounds_succ]
 go_wp2_with fail
 rw [rounds_succ]
 go_wp2_with fail
 rw [rounds_succ]
 go_wp2_with fail
 refine wp_loop_rounds 3 ?_
 rw [rounds_succ]
 go_wp2_with fail
 rw [rounds_succ]
 go_wp2_with fail
 rw [rounds_succ]
 go_wp2_with fail
 rw [rounds_succ]
 go_wp2_with (refine wpList_store_row rfl 32 _ _ rfl r (adv Ad.zero) rfl rfl 32 (adv Ad.zero) ?_ aW rfl (lV _) ?_;exact HZ.out)
 exact iY s w w0 r Ad.zero 5 rfl rfl rfl _ rfl _ HZ.out HB0.out HR.out HD.out
theorem list_nil (s:ByteArray) (h:s.size=0):(s.toList==[])=true:=by
 rw [beq_iff_eq,ByteArray.toList_eq,empty_of s h]
theorem list_some (s:ByteArray) (h:s.size≠0):(s.toList==[])=false:=by
 rw [beq_eq_false_iff_ne]
 intro e
 rw [ByteArray.toList_eq] at e
 have:=congrArg List.length e
 rw [bG] at this
 exact h this
theorem shape_no (n:Nat) (e:Bool) (h0:n≠6+dN e) (h1:n≠8+dN e) (h2:n≠18+dN e) (h3:n≠20+dN e):shape n e=none:=by unfold shape;rw [if_neg h0,if_neg h1,if_neg h2,if_neg h3]
theorem DecodeAddR_any (s:ByteArray) (hs:s.size≤9223372036854775807) (w:World):
  Calls Tryz.prog 42 #[.string s] w (Rt w (dO s)):=by
 by_cases h0:s.size=0
 ·exact decD_short s (list_nil s h0) (vN s h0) w
 have hp:0 < s.size:=by omega
 have hem:=list_some s h0
 have hg:=bD s 0 hp
 have hF:(s[0].toNat:Int)=((byteAt s 0:Nat):Int):=by rw [hg]
 have hF8:=bK s 0
 by_cases hk:byteAt s 0 / 16=3
 ·have e0:(((byteAt s 0:Nat):Int) / 16 !=3)=false:=by rw [bne_eq_false_iff_eq];omega
  have hy:Fr s (byteAt s 0) 3:=⟨hs,hem,hp,by omega,hF8,hF,e0⟩
  cases hE:odd (byteAt s 0)
  ·have eE:(((byteAt s 0:Nat):Int)%2==1)=false:=by rw [beq_eq_false_iff_ne];have:=of_decide_eq_false hE;omega
   by_cases y0:s.size=14
   ·have q:=jA s 4 false h0 hk (by rw [hE,y0];rfl)
    rw [hE] at q
    exact decD_f0 s _ hy eE  y0 q w
   have z0:((s.size:Int) !=14)=true:=by rw [bne_iff_ne];omega
   by_cases y1:s.size=16
   ·have q:=jA s 4 true h0 hk (by rw [hE,y1];rfl)
    rw [hE] at q
    exact decD_f1 s _ hy eE z0 y1 q w
   have z1:((s.size:Int) !=16)=true:=by rw [bne_iff_ne];omega
   by_cases y2:s.size=26
   ·have q:=jA s 16 false h0 hk (by rw [hE,y2];rfl)
    rw [hE] at q
    exact decD_f2 s _ hy eE z0 z1 y2 q w
   have z2:((s.size:Int) !=26)=true:=by rw [bne_iff_ne];omega
   by_cases y3:s.size=28
   ·have q:=jA s 16 true h0 hk (by rw [hE,y3];rfl)
    rw [hE] at q
    exact decD_f3 s _ hy eE z0 z1 z2 y3 q w
   have z3:((s.size:Int) !=28)=true:=by rw [bne_iff_ne];omega
   exact decD_fx s _ hy eE z0 z1 z2 z3 (uG s h0 hk (by rw [hE];exact shape_no _ _ y0 y1 y2 y3)) w
  ·have eE:(((byteAt s 0:Nat):Int)%2==1)=true:=by rw [beq_iff_eq];have:=of_decide_eq_true hE;omega
   by_cases y0:s.size=6
   ·have q:=jA s 4 false h0 hk (by rw [hE,y0];rfl)
    rw [hE] at q
    exact decD_t0 s _ hy eE  y0 q w
   have z0:((s.size:Int) !=6)=true:=by rw [bne_iff_ne];omega
   by_cases y1:s.size=8
   ·have q:=jA s 4 true h0 hk (by rw [hE,y1];rfl)
    rw [hE] at q
    exact decD_t1 s _ hy eE z0 y1 q w
   have z1:((s.size:Int) !=8)=true:=by rw [bne_iff_ne];omega
   by_cases y2:s.size=18
   ·have q:=jA s 16 false h0 hk (by rw [hE,y2];rfl)
    rw [hE] at q
    exact decD_t2 s _ hy eE z0 z1 y2 q w
   have z2:((s.size:Int) !=18)=true:=by rw [bne_iff_ne];omega
   by_cases y3:s.size=20
   ·have q:=jA s 16 true h0 hk (by rw [hE,y3];rfl)
    rw [hE] at q
    exact decD_t3 s _ hy eE z0 z1 z2 y3 q w
   have z3:((s.size:Int) !=20)=true:=by rw [bne_iff_ne];omega
   exact decD_tx s _ hy eE z0 z1 z2 z3 (uG s h0 hk (by rw [hE];exact shape_no _ _ y0 y1 y2 y3)) w
 ·have e0:(((byteAt s 0:Nat):Int) / 16 !=3)=true:=by rw [bne_iff_ne];omega
  exact decD_kind s hem hp (by omega) _ hF8 hF e0 (xY s h0 hk) w
theorem decDR_short (s:ByteArray) (hs:s.size≤9223372036854775807) (hem:(s.toList==[])=true) (hd:fF s=(⟨#[]⟩,4)) (w:World):
  Calls Tryz.prog 43 #[.string s] w (Rt w (iJ s)):=by
 have HD:=Lh hd
 clear hd
 obtain ⟨r,w0,HR2,HW0,HZ,HB0,HR⟩:=kQ w #[.string ⟨#[]⟩] (rmv ⟨#[]⟩) 34 rfl
 go_enter Tryz.func43,Tryz.ntmps43
 go_upto_region 1 with fail
 rw [←HW0.out,←HR2.out]
 go_wp2_with (refine wpList_store_row rfl 34 _ _ rfl r (rmv ⟨#[]⟩) rfl rfl 34 (rmv ⟨#[]⟩) ?_ dQ rfl (kZ _) ?_;exact HZ.out)
 exact pK s w w0 r ⟨#[]⟩ 4 rfl rfl rfl _ rfl _ HZ.out HB0.out HR.out HD.out
theorem decDR_kind (s:ByteArray) (hs:s.size≤9223372036854775807) (hem:(s.toList==[])=false) (h0:0 < s.size) (l0:(0:Int) < (s.size:Int)) (F:Nat) (hF8:F < 256) (hF0:(s[0].toNat:Int)=(F:Int)) (e0:((F:Int) / 16 !=4)=true) (hd:fF s=(⟨#[]⟩,7)) (w:World):
  Calls Tryz.prog 43 #[.string s] w (Rt w (iJ s)):=by
 have HD:=Lh hd
 clear hd
 obtain ⟨r,w0,HR2,HW0,HZ,HB0,HR⟩:=kQ w #[.string ⟨#[]⟩] (rmv ⟨#[]⟩) 34 rfl
 go_enter Tryz.func43,Tryz.ntmps43
 go_upto_region 1 with fail
 rw [←HW0.out,←HR2.out]
 go_wp2_with (refine wpList_store_row rfl 34 _ _ rfl r (rmv ⟨#[]⟩) rfl rfl 34 (rmv ⟨#[]⟩) ?_ dQ rfl (kZ _) ?_;exact HZ.out)
 exact pK s w w0 r ⟨#[]⟩ 7 rfl rfl rfl _ rfl _ HZ.out HB0.out HR.out HD.out
theorem decDR_low (s:ByteArray) (hs:s.size≤9223372036854775807) (hem:(s.toList==[])=false) (h0:0 < s.size) (l0:(0:Int) < (s.size:Int)) (F:Nat) (hF8:F < 256) (hF0:(s[0].toNat:Int)=(F:Int)) (e0:((F:Int) / 16 !=4)=false) (l2:(s.size:Int) < 2) (hd:fF s=(⟨#[]⟩,5)) (w:World):
  Calls Tryz.prog 43 #[.string s] w (Rt w (iJ s)):=by
 have HD:=Lh hd
 clear hd
 obtain ⟨r,w0,HR2,HW0,HZ,HB0,HR⟩:=kQ w #[.string ⟨#[]⟩] (rmv ⟨#[]⟩) 34 rfl
 go_enter Tryz.func43,Tryz.ntmps43
 go_upto_region 1 with fail
 rw [←HW0.out,←HR2.out]
 go_wp2_with (refine wpList_store_row rfl 34 _ _ rfl r (rmv ⟨#[]⟩) rfl rfl 34 (rmv ⟨#[]⟩) ?_ dQ rfl (kZ _) ?_;exact HZ.out)
 exact pK s w w0 r ⟨#[]⟩ 5 rfl rfl rfl _ rfl _ HZ.out HB0.out HR.out HD.out
theorem decDR_high (s:ByteArray) (hs:s.size≤9223372036854775807) (hem:(s.toList==[])=false) (h0:0 < s.size) (l0:(0:Int) < (s.size:Int)) (F:Nat) (hF8:F < 256) (hF0:(s[0].toNat:Int)=(F:Int)) (e0:((F:Int) / 16 !=4)=false) (l2:¬(s.size:Int) < 2) (l3:(38:Int) < (s.size:Int)) (hd:fF s=(⟨#[]⟩,5)) (w:World):
  Calls Tryz.prog 43 #[.string s] w (Rt w (iJ s)):=by
 have HD:=Lh hd
 clear hd
 obtain ⟨r,w0,HR2,HW0,HZ,HB0,HR⟩:=kQ w #[.string ⟨#[]⟩] (rmv ⟨#[]⟩) 34 rfl
 go_enter Tryz.func43,Tryz.ntmps43
 go_upto_region 1 with fail
 rw [←HW0.out,←HR2.out]
 go_wp2_with (refine wpList_store_row rfl 34 _ _ rfl r (rmv ⟨#[]⟩) rfl rfl 34 (rmv ⟨#[]⟩) ?_ dQ rfl (kZ _) ?_;exact HZ.out)
 exact pK s w w0 r ⟨#[]⟩ 5 rfl rfl rfl _ rfl _ HZ.out HB0.out HR.out HD.out
theorem decDR_good (s:ByteArray) (hs:s.size≤9223372036854775807) (hem:(s.toList==[])=false) (h0:0 < s.size) (l0:(0:Int) < (s.size:Int)) (F:Nat) (hF8:F < 256) (hF0:(s[0].toNat:Int)=(F:Int)) (e0:((F:Int) / 16 !=4)=false) (l2:¬(s.size:Int) < 2) (l3:¬(38:Int) < (s.size:Int)) (T:ByteArray) (hT:s.extract 1 s.size=T) (hd:fF s=(T,0)) (w:World):
  Calls Tryz.prog 43 #[.string s] w (Rt w (iJ s)):=by
 have HD:=Lh hd
 clear hd
 have HT:=Lh hT
 have l1:(1:Int)≤(s.size:Int):=by omega
 clear hT
 obtain ⟨r,w0,HR2,HW0,HZ,HB0,HR⟩:=kQ w #[.string ⟨#[]⟩] (rmv ⟨#[]⟩) 34 rfl
 go_enter Tryz.func43,Tryz.ntmps43
 go_upto_region 1 with fail
 rw [←HW0.out,←HR2.out]
 go_wp2_with (rw [HT.out];refine wpList_store_row rfl 34 _ _ rfl r (rmv T) rfl rfl 34 (rmv ⟨#[]⟩) ?_ dQ rfl (kZ _) ?_;exact HZ.out)
 exact pK s w w0 r T 0 rfl rfl rfl _ rfl _ HZ.out HB0.out HR.out HD.out
theorem DecodeRemoveR_any (s:ByteArray) (hs:s.size≤9223372036854775807) (w:World):
  Calls Tryz.prog 43 #[.string s] w (Rt w (iJ s)):=by
 by_cases h0:s.size=0
 ·exact decDR_short s hs (list_nil s h0) (oC s h0) w
 have hp:0 < s.size:=by omega
 have hem:=list_some s h0
 have hg:=bD s 0 hp
 have hF:(s[0].toNat:Int)=((byteAt s 0:Nat):Int):=by rw [hg]
 have hF8:=bK s 0
 by_cases hk:byteAt s 0 / 16=4
 ·have e0:(((byteAt s 0:Nat):Int) / 16 !=4)=false:=by rw [bne_eq_false_iff_eq];omega
  by_cases l2:(s.size:Int) < 2
  ·exact decDR_low s hs hem hp (by omega) _ hF8 hF e0 l2 (decR_f s h0 hk (by omega)) w
  by_cases l3:(38:Int) < (s.size:Int)
  ·exact decDR_high s hs hem hp (by omega) _ hF8 hF e0 l2 l3 (decR_f s h0 hk (by omega)) w
  ·exact decDR_good s hs hem hp (by omega) _ hF8 hF e0 l2 l3 _ (rX s.data.toList 1) (decR_t s hk (by omega)) w
 ·have e0:(((byteAt s 0:Nat):Int) / 16 !=4)=true:=by rw [bne_iff_ne];omega
  exact decDR_kind s hs hem hp (by omega) _ hF8 hF e0 (pI s h0 hk) w
end Go.Proofs.YtnlhhjhidkjlbaaGreatDoor.L12
