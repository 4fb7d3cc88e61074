/- RedJoin. -/
import Derived.Test.YtnlhhjhidkjlbaaGreatDoorRedBase
import Derived.Laws.Tables
import Derived.Laws.Rows
import Derived.Laws.CopyOwn
import Derived.Deep.MidRow
set_option maxHeartbeats 4000000
set_option maxRecDepth 100000
set_option linter.unusedVariables false
set_option linter.unusedSimpArgs false
namespace Go.Proofs.YtnlhhjhidkjlbaaGreatDoor.L10
structure Jn where
 form:Int
 aB:Bool
 id:Int
 token:Nat
 aI:Nat
 mac:ByteArray
namespace Jn
theorem oJ {x y:Jn} (h0:x.form=y.form) (h1:x.aB=y.aB) (h2:x.id=y.id) (h3:x.token=y.token) (h4:x.aI=y.aI) (h5:x.mac=y.mac):x=y:=by
 cases x;cases y;simp_all
structure Ok (x:Jn):Prop where
 form: -9223372036854775808≤x.form∧x.form≤9223372036854775807
 id: -9223372036854775808≤x.id∧x.id≤9223372036854775807
 token:x.token≤4294967295
 aI:x.aI≤4294967295
 mac:x.mac.size≤9223372036854775000
def gU (f:Int):Nat:=if f=1 then 8 else if f=2 then 20 else 0
def iF (f:Int):Nat:=if f=0 then 10 else if f=1 then 14 else if f=2 then 22 else 0
abbrev May (x:Jn):Prop:=(0≤x.form∧x.form < 3)∧(0≤x.id∧x.id≤255)∧x.mac.size=gU x.form∧(x.form=1→x.token=0)∧(x.form=2→x.aB=false∧x.id=0∧x.token=0∧x.aI=0)
def first (b:Bool):Nat:=if b then 17 else 16
theorem uD (b:Bool):first b≤255:=by cases b<;>decide
def rest (x:Jn):List UInt8:=if x.form=0 then be 4 x.token++be 4 x.aI else if x.form=1 then x.mac.data.toList++be 4 x.aI else x.mac.data.toList
def body (x:Jn):List UInt8:=UInt8.ofNat (first x.aB)::UInt8.ofNat x.id.toNat::x.rest
def zero:Jn:=⟨0,false,0,0,0,⟨#[]⟩⟩
theorem dM:zero.Ok:=⟨by decide,by decide,by decide,by decide,by decide⟩
def enc (x:Jn):ByteArray×Int:=if x.May then (txt x.body,0) else (⟨#[]⟩,2)
theorem mM (x:Jn) (h:x.May):x.enc=(txt x.body,0):=if_pos h
theorem mZ (x:Jn) (h:¬x.May):x.enc=(⟨#[]⟩,2):=if_neg h
theorem forms {x:Jn} (h:x.May):x.form=0∨x.form=1∨x.form=2:=by have:=h.1;omega
theorem iD (x:Jn) (h:x.May):x.rest.length+2=iF x.form:=by
 have hm:=h.2.2.1
 have hl:x.mac.data.toList.length=x.mac.size:=cO _
 rcases forms h with e | e | e<;>rw [e] at hm ⊢<;>simp only [rest,e,iF,gU] at hm ⊢<;>simp [aH]<;>simp at hm hl<;>omega
theorem gB (x:Jn) (h:x.May):x.body.length=iF x.form:=by rw [←iD x h];rfl
theorem size_cases (f:Int) (h:f=0∨f=1∨f=2):(f=0∧iF f=10)∨(f=1∧iF f=14)∨(f=2∧iF f=22):=by
 rcases h with rfl | rfl | rfl
 ·exact .inl ⟨rfl,rfl⟩
 ·exact .inr (.inl ⟨rfl,rfl⟩)
 ·exact .inr (.inr ⟨rfl,rfl⟩)
end Jn
def y8 (c d:Nat) (r:List UInt8):Jn:=⟨0,decide (c%2=1),(d:Int),num (txt r) 0 4,num (txt r) 4 4,⟨#[]⟩⟩
def zB (c d:Nat) (r:List UInt8):Jn:=⟨1,decide (c%2=1),(d:Int),0,num (txt r) 8 4,txt (r.take 8)⟩
def zJ (r:List UInt8):Jn:=⟨2,false,0,0,0,txt r⟩
def got (n c d:Nat) (r:List UInt8):Option Jn:=if n=10 then some (y8 c d r) else if n=14 then some (zB c d r) else if n=22 then some (zJ r) else none
abbrev gI (s:ByteArray):List UInt8:=s.data.toList.drop 2
def oK (s:ByteArray):Option Jn:=got s.size (byteAt s 0) (byteAt s 1) (gI s)
def jR (s:ByteArray):Jn×Int:=if s.size=0 then (.zero,4) else if byteAt s 0 / 16≠1 then (.zero,7) else match oK s with
 | none=>(.zero,5)
 | some x=>(x,0)
theorem decJ_short (s:ByteArray) (h:s.size=0):jR s=(.zero,4):=if_pos h
theorem decJ_kind (s:ByteArray) (h:s.size≠0) (k:byteAt s 0 / 16≠1):jR s=(.zero,7):=by unfold jR;rw [if_neg h,if_pos k]
theorem decJ_form (s:ByteArray) (h:s.size≠0) (k:byteAt s 0 / 16=1) (g:oK s=none):jR s=(.zero,5):=by unfold jR;rw [if_neg h,if_neg (fun n=>n k),g]
theorem decJ_some (s:ByteArray) (x:Jn) (h:s.size≠0) (k:byteAt s 0 / 16=1) (g:oK s=some x):jR s=(x,0):=by unfold jR;rw [if_neg h,if_neg (fun n=>n k),g]
theorem got_10 (c d:Nat) (r:List UInt8):got 10 c d r=some (y8 c d r):=rfl
theorem got_14 (c d:Nat) (r:List UInt8):got 14 c d r=some (zB c d r):=rfl
theorem got_22 (c d:Nat) (r:List UInt8):got 22 c d r=some (zJ r):=rfl
theorem fP (n c d:Nat) (r:List UInt8) (h:n≠10) (h':n≠14) (h'':n≠22):got n c d r=none:=by unfold got;rw [if_neg h,if_neg h',if_neg h'']
theorem jH (u v:UInt8) (r:List UInt8):(txt (u::v::r)).size=r.length+2:=by rw [aN];rfl
theorem uF (u v:UInt8) (r:List UInt8):byteAt (txt (u::v::r)) 0=u.toNat:=rfl
theorem yI (u v:UInt8) (r:List UInt8):byteAt (txt (u::v::r)) 1=v.toNat:=rfl
theorem two_after (u v:UInt8) (r:List UInt8):gI (txt (u::v::r))=r:=rfl
theorem vT (u v:UInt8) (r:List UInt8) (h:u.toNat / 16=1) (x:Jn) (hg:got (r.length+2) u.toNat v.toNat r=some x):jR (txt (u::v::r))=(x,0):=
 decJ_some _ x (by rw [jH];omega) (by rw [uF];exact h) (by unfold oK;rw [jH,uF,yI,two_after];exact hg)
theorem two_of (s:ByteArray) (h:2≤s.size):∃u v r,s=txt (u::v::r)∧r.length+2=s.size:=by
 have hl:s.data.toList.length=s.size:=cO s
 match e:s.data.toList,hl with
 | u::v::r,hl=>exact ⟨u,v,r,by rw [←e];rfl,hl⟩
 | [],hl=>simp at hl;omega
 | [u],hl=>simp at hl;omega
theorem ofNat_first (b:Bool):(UInt8.ofNat (Jn.first b)).toNat=Jn.first b:=by cases b<;>rfl
theorem byte_of (n:Nat) (h:n < 256):(UInt8.ofNat n).toNat=n:=by rw [UInt8.toNat_ofNat'];exact Nat.mod_eq_of_lt h
theorem uX (x:Jn) (hx:x.Ok) (hm:x.May) (c d:Nat) (h:x.form≠2→(decide (c%2=1)=x.aB∧(d:Int)=x.id)):got (x.rest.length+2) c d x.rest=some x:=by
 rw [x.iD hm]
 have ht:=hx.token
 have hn:=hx.aI
 have hf:=x.forms hm
 obtain ⟨_,_,hz,h1,h2⟩:=hm
 have fin:∀{a b:Jn},a=b→some a=some b:=fun e=>by rw [e]
 rcases hf with e | e | e
 ·obtain ⟨hc,hd⟩:=h (by omega)
  rw [e,show Jn.iF 0=10 from rfl,got_10]
  have hr:x.rest=be 4 x.token++be 4 x.aI:=by unfold Jn.rest;rw [if_pos e]
  have n1:=bU [] (be 4 x.aI) 0 4 x.token rfl
  have n2:=bU (be 4 x.token) [] 4 4 x.aI (aH _ _)
  rw [List.nil_append] at n1
  rw [List.append_nil] at n2
  refine fin (Jn.oJ e.symm hc hd ?_ ?_ ?_)
  ·rw [hr];show num _ 0 4=_;rw [n1];omega
  ·rw [hr];show num _ 4 4=_;rw [n2];omega
  ·rw [e] at hz
   have:x.mac.size=0:=hz
   exact (ByteArray.ext (Array.eq_empty_of_size_eq_zero this)).symm
 ·obtain ⟨hc,hd⟩:=h (by omega)
  rw [e] at hz
  have hl:x.mac.data.toList.length=8:=by rw [cO];exact hz
  rw [e,show Jn.iF 1=14 from rfl,got_14]
  have hr:x.rest=x.mac.data.toList++be 4 x.aI:=by unfold Jn.rest;rw [if_neg (by omega),if_pos e]
  have n2:=bU x.mac.data.toList [] 8 4 x.aI hl
  rw [List.append_nil] at n2
  refine fin (Jn.oJ e.symm hc hd (h1 e).symm ?_ ?_)
  ·rw [hr];show num _ 8 4=_;rw [n2];omega
  ·rw [hr]
   show txt ((x.mac.data.toList++be 4 x.aI).take 8)=_
   rw [List.take_append_of_le_length (by omega),List.take_of_length_le (by omega)];rfl
 ·obtain ⟨a,b,cc,d'⟩:=h2 e
  rw [e,show Jn.iF 2=22 from rfl,got_22]
  have hr:x.rest=x.mac.data.toList:=by unfold Jn.rest;rw [if_neg (by omega),if_neg (by omega)]
  refine fin (Jn.oJ e.symm a.symm b.symm cc.symm d'.symm ?_)
  rw [hr];rfl
theorem rO (x:Jn) (hx:x.Ok) (hm:x.May) (u v:UInt8) (hu:u.toNat / 16=1) (h:x.form≠2→(decide (u.toNat%2=1)=x.aB∧(v.toNat:Int)=x.id)):jR (txt (u::v::x.rest))=(x,0):=
 vT u v x.rest hu x (uX x hx hm _ _ h)
theorem dec_bodyJ (x:Jn) (hx:x.Ok) (hm:x.May):jR (txt x.body)=(x,0):=by
 refine rO x hx hm _ _ (by rw [ofNat_first];cases x.aB<;>rfl) (fun _=>⟨?_,?_⟩)
 ·rw [ofNat_first];cases x.aB<;>rfl
 ·have:=hm.2.1;rw [byte_of _ (by omega)];omega
theorem num_after (s:ByteArray) (k m:Nat):num (txt (gI s)) k m=num s (2+k) m:=by
 apply qW
 intro j _
 rw [jT,List.getD_eq_getElem?_getD,List.getD_eq_getElem?_getD,List.getElem?_drop,Nat.add_assoc 2 k j]
theorem cut_after (s:ByteArray) (k:Nat):s.extract 2 (2+k)=txt ((gI s).take k):=by
 apply ByteArray.ext
 apply Array.toList_inj.1
 rw [ByteArray.data_extract,Array.toList_extract,List.extract_eq_take_drop]
 show _=(s.data.toList.drop 2).take k
 congr 1;omega
open Go.ChangeShapes Go.WideShapes Go.ChangeAt Go.RowKit
abbrev jnv (x:Jn):Array Value:=#[.int .i64 x.form,.bool x.aB,.int .i64 x.id,.int .u32 (x.token:Int),.int .u32 (x.aI:Int),.string x.mac]
theorem bI:(Tryz.prog.info? 28).map (·.size)=some 6:=by kernel_rfl
theorem qL (x:Jn):(jnv x).all (·.oneCell')=true:=by simp [Value.oneCell']
structure Tbl (w:World):Prop where
 lt:1 < w.heap.size
 c0:w.cell? ⟨1,0,none⟩=some (.int .i64 10)
 c1:w.cell? ⟨1,1,none⟩=some (.int .i64 0)
 c2:w.cell? ⟨1,2,none⟩=some (.int .i64 14)
 c3:w.cell? ⟨1,3,none⟩=some (.int .i64 8)
 c4:w.cell? ⟨1,4,none⟩=some (.int .i64 22)
 c5:w.cell? ⟨1,5,none⟩=some (.int .i64 20)
theorem Tbl.under {w w':World} {B:Nat} (h:Tbl w) (b:Below B w w') (hB:1 < B):Tbl w':=by
 have e:w'.heap[1]?=w.heap[1]?:=b.block _ hB
 have k:∀i,w'.cell? ⟨1,i,none⟩=w.cell? ⟨1,i,none⟩:=fun i=>World.cell?_of_block (a:=⟨1,i,none⟩) e
 exact ⟨Nat.lt_of_lt_of_le h.lt b.size,(k 0).trans h.c0,(k 1).trans h.c1,(k 2).trans h.c2,(k 3).trans h.c3,(k 4).trans h.c4,(k 5).trans h.c5⟩
theorem Tbl.below {w w':World} (h:Tbl w) (b:Below w.heap.size w w'):Tbl w':=h.under b h.lt
theorem Tbl.alloc {w:World} (h:Tbl w) (o:Obj):Tbl (w.alloc o):=h.below ((Below.refl _ w).alloc (Nat.le_refl _) o)
theorem Tbl.drewN {w:World} (h:Tbl w) (n:Nat):Tbl (w.drewN n):=h.below (below_drewN (Below.refl _ w) n)
theorem Tbl.drew {w:World} (h:Tbl w):Tbl w.drew:=h.below (Below.refl _ w).drew
def jeq (x y:Jn):Bool:=x.form==y.form && (x.aB==y.aB && (x.id==y.id && ((x.token:Int)==(y.token:Int) && ((x.aI:Int)==(y.aI:Int) && (x.mac.toList==y.mac.toList)))))
theorem jeq_iff (x y:Jn):jeq x y=true↔x=y:=by
 unfold jeq
 simp only [Bool.and_eq_true,beq_iff_eq]
 constructor
 ·rintro ⟨h0,h1,h2,h3,h4,h5⟩
  refine Jn.oJ h0 h1 h2 (by omega) (by omega) ?_
  rw [ByteArray.toList_eq,ByteArray.toList_eq] at h5
  exact ByteArray.ext (Array.toList_inj.1 h5)
 ·rintro rfl
  exact ⟨rfl,rfl,rfl,rfl,rfl,rfl⟩
theorem jn_equal (x y:Jn) (w:World):(Op.equalIn 10000 28 (.agg (jnv x)) (.agg (jnv y))).run Tryz.prog w= .ok (jeq x y) w:=by
 rw [show (10000:Nat)=9999+1 from rfl,run_equalIn_agg (P:=Tryz.prog) w 9999 28 _ _ (by kernel_rfl) (by kernel_rfl)]
 rw [show (9999:Nat)=9998+1 from rfl]
 simp only [Program.fieldsOf,Tryz.underlying28,Op.eqFields]
 simp [go_sem]
 by_cases h0:x.form=y.form<;>by_cases h1:x.aB=y.aB<;>by_cases h2:x.id=y.id<;>by_cases h3:(x.token:Int)=(y.token:Int)<;>by_cases h4:(x.aI:Int)=(y.aI:Int)<;>by_cases h5:x.mac.toList=y.mac.toList<;>simp [jeq,h0,h1,h2,h3,h4,h5]
theorem qQ (f:Int) (w:World):
  Calls Tryz.prog 169 #[.int .i64 f] w fun e w'=>e= .returned (.bool (decide (0≤f∧f < 3)))∧∃n,w'=w.drewN n:=by
 by_cases h0:0≤f
 ·by_cases h3:f < 3
  ·rw [decide_eq_true ⟨h0,h3⟩]
   go_enter Tryz.func169,Tryz.ntmps169
   go_wp2
   go_ret;exact ⟨rfl,0,rfl⟩
  ·rw [decide_eq_false (fun h=>h3 h.2)]
   go_enter Tryz.func169,Tryz.ntmps169
   go_wp2
   go_ret;exact ⟨rfl,0,rfl⟩
 ·rw [decide_eq_false (fun h=>h0 h.1)]
  go_enter Tryz.func169,Tryz.ntmps169
  go_wp2
  go_ret;exact ⟨rfl,0,rfl⟩
theorem kN (x:Jn) (w:World):
  Calls Tryz.prog 171 #[.agg (jnv x)] w (Rt w (.int .u8 (Jn.first x.aB:Int))):=by
 obtain ⟨form,aB,id,token,aI,mac⟩:=x
 cases aB
 all_goals
  go_enter Tryz.func171,Tryz.ntmps171
  go_wp2
  go_ret;exact ⟨rfl,(Below.refl _ _).alloc (Nat.le_refl _) _⟩
def frn (x:Jn):Jn:=if x.form=1 then ⟨0,false,0,x.token,0,⟨#[]⟩⟩ else if x.form=2 then ⟨0,x.aB,x.id,x.token,x.aI,⟨#[]⟩⟩ else .zero
theorem vX (x:Jn) (w:World) (cs0 cs:Array Value) {a:Act} (ht:a.tmps.getD 2 undef= .pointer (some ⟨w.heap.size+1,0,none⟩)) (hc:cs=jnv (frn x)) (hd:a.defers=[]) (hb:∀o1 o2:Obj,Below w.heap.size w ((w.alloc o1).alloc o2)):
  bodyPost Tryz.prog Tryz.f170 (fun e w'=>e= .returned (.agg (jnv (frn x)))∧Below w.heap.size w w') .ret a ((w.alloc (.cells cs0 28)).alloc (.cells cs 28)):=by
 subst hc
 have hB:Blk ((w.alloc (.cells cs0 28)).alloc (.cells (jnv (frn x)) 28)) (w.heap.size+1) 28 (jnv (frn x)):=by
  have:=Blk.new (w.alloc (.cells cs0 28)) 28 (jnv (frn x))
  simpa using this
 exact bodyPost_ret (results_cell_row rfl _ _ (w.heap.size+1) 28 (jnv (frn x)) (0,0) _ ht hB Tryz.underlying28 rfl bI) hd ⟨rfl,hb _ _⟩
theorem nJ (x:Jn) (w:World):
  Calls Tryz.prog 170 #[.agg (jnv x)] w (Rt w (.agg (jnv (frn x)))):=by
 have hb:∀o1 o2:Obj,Below w.heap.size w ((w.alloc o1).alloc o2):=fun o1 o2=>((Below.refl _ w).alloc (Nat.le_refl _) _).alloc (by simp) _
 have HB:=Lh hb
 clear hb
 obtain ⟨form,aB,id,token,aI,mac⟩:=x
 by_cases h1:form=1
 ·subst h1
  go_enter Tryz.func170,Tryz.ntmps170
  go_wp2_with fail
  exact vX _ w _ _ rfl (by rw [frn,if_pos rfl];rfl) rfl HB.out
 ·by_cases h2:form=2
  ·subst h2
   go_enter Tryz.func170,Tryz.ntmps170
   go_wp2_with fail
   exact vX _ w _ _ rfl (by rw [frn,if_neg (by show¬((2:Int)=1);decide),if_pos rfl]) rfl HB.out
  ·have e1:(form==1)=false:=by rw [beq_eq_false_iff_ne];exact h1
   have e2:(form==2)=false:=by rw [beq_eq_false_iff_ne];exact h2
   go_enter Tryz.func170,Tryz.ntmps170
   go_wp2_with fail
   exact vX _ w _ _ rfl (by rw [frn,if_neg h1,if_neg h2];rfl) rfl HB.out
theorem iV (x y:Jn) (B:Bool) (h:jeq x y=B) (w:World):(Op.equalIn 10000 28 (.agg (jnv x)) (.agg (jnv y))).run Tryz.prog w= .ok B w:=by subst h;exact jn_equal x y w
theorem jB (f:Int) (B:Bool) (h:decide (0≤f∧f < 3)=B) (w:World):
  Calls Tryz.prog 169 #[.int .i64 f] w (Rt w (.bool B)):=by
 subst h
 exact (qQ f w).mono fun e w' ⟨h1,n,h2⟩=>⟨h1,by rw [h2];exact below_drewN (Below.refl _ _) n⟩
theorem frn_zero (x:Jn) (h:x.form=0∨x.form=1∨x.form=2):frn x=Jn.zero↔((x.form=1→x.token=0)∧(x.form=2→x.aB=false∧x.id=0∧x.token=0∧x.aI=0)):=by
 obtain ⟨form,aB,id,token,aI,mac⟩:=x
 rcases h with h | h | h
 all_goals (have h:form=_:=h;subst h;simp [frn,Jn.zero])
open Go.ChangeShapes Go.WideShapes Go.ChangeAt Go.RowKit
def dC (x:Jn):Bool:=decide (0≤x.form∧x.form < 3) && (decide ((0:Int)≤x.id) && (decide (x.id≤(255:Int)) && (decide ((x.mac.size:Int)=((Jn.gU x.form:Nat):Int)) && jeq (frn x) Jn.zero)))
theorem mF (x:Jn):dC x=decide x.May:=by
 unfold dC
 rw [Bool.eq_iff_iff]
 simp only [Bool.and_eq_true,decide_eq_true_eq]
 rw [jeq_iff]
 constructor
 ·rintro ⟨a,b,c,d,e⟩;exact ⟨a,⟨b,c⟩,by omega,(frn_zero x (by omega)).1 e⟩
 ·rintro ⟨a,⟨b,c⟩,d,e⟩;exact ⟨a,b,c,by omega,(frn_zero x (by omega)).2 e⟩
theorem valid_ (form:Int) (aB:Bool) (id:Int) (token aI:Nat) (mac:ByteArray) (w:World) (ht:Tbl w):
  Calls Tryz.prog 114 #[.agg (jnv ⟨form,aB,id,token,aI,mac⟩)] w (Rt w (.bool (dC ⟨form,aB,id,token,aI,mac⟩))):=by
 obtain ⟨V,hV⟩:=eqx (w.alloc (.cells (jnv ⟨form,aB,id,token,aI,mac⟩) 28))
 obtain ⟨b0,hb0⟩:=eqx w.heap.size
 obtain ⟨M,hM⟩:∃M,dC ⟨form,aB,id,token,aI,mac⟩=M:=⟨_,rfl⟩
 have HM:=Lh hM
 rw [hM]
 have HX:=Lh (show Blk V b0 28 (jnv ⟨form,aB,id,token,aI,mac⟩) by rw [hV,hb0];exact Blk.new _ _ _)
 have HT:=Lh (show Tbl V by rw [hV];exact ht.alloc _)
 have HBV:Below w.heap.size w V:=by rw [hV];exact (Below.refl _ w).alloc (Nat.le_refl _) _
 have HE:=Lh (fun (W:World) (b:Below V.heap.size V W)=>HBV.trans (b.mono HBV.size))
 have HV:=Lh hV
 have HB:=Lh hb0
 clear hV hb0 HBV hM ht
 go_enter Tryz.func114,Tryz.ntmps114
 go_upto_region 1 with fail
 rw [←HV.out,←HB.out]
 clear HV
 refine dD (n:=31) rfl fun W0 B0=>?_
 refine stF 0 (.pointer (some ⟨b0,0,none⟩)) rfl B0 (stG 1 (.int .i64 form) rfl B0 (fun W b=>xLd 3 (.tmp 3) ⟨b0,0,none⟩ ((HX.out.below b HX.out.lt).cell 0)) ?_)
 rcases Bool.eq_false_or_eq_true (decide (0≤form∧form < 3)) with k1 | k1
 ·refine stB 2 rfl (jB form true k1 _) B0 fun W1 B1=>?_
  clear B0
  refine stF 3 (.bool true) rfl B1 (stF 4 (.pointer (some ⟨b0,2,none⟩)) rfl B1 (stG 5 (.int .i64 id) rfl B1 (fun W b=>xLd 3 (.tmp 7) ⟨b0,2,none⟩ ((HX.out.below b HX.out.lt).cell 2)) ?_))
  rcases Bool.eq_false_or_eq_true (decide ((0:Int)≤(id:Int))) with k2 | k2
  ·refine stG 6 (.bool true) rfl B1 (fun W _=>xLb .i64 3 3 (.const (.int .i64 0)) (.tmp 8) (0) (id) true (k2)) (stF 7 (.bool true) rfl B1 (stF 8 (.bool true) rfl B1 (stF 9 (.pointer (some ⟨b0,2,none⟩)) rfl B1 (stG 10 (.int .i64 id) rfl B1 (fun W b=>xLd 3 (.tmp 12) ⟨b0,2,none⟩ ((HX.out.below b HX.out.lt).cell 2)) ?_))))
   rcases Bool.eq_false_or_eq_true (decide ((id:Int)≤(255:Int))) with k3 | k3
   ·refine stG 11 (.bool true) rfl B1 (fun W _=>xLb .i64 3 3 (.tmp 13) (.const (.int .i64 255)) (id) (255) true (k3)) (stF 12 (.bool true) rfl B1 (stF 13 (.bool true) rfl B1 (stF 14 (.pointer (some ⟨b0,5,none⟩)) rfl B1 (stG 15 (.string mac) rfl B1 (fun W b=>xLd 9 (.tmp 17) ⟨b0,5,none⟩ ((HX.out.below b HX.out.lt).cell 5)) (stF 16 (.int .i64 (mac.size:Int)) rfl B1 (stF 17 (.pointer (some ⟨b0,0,none⟩)) rfl B1 ?_))))))
    rcases (show form=0∨form=1∨form=2 by have:=of_decide_eq_true k1;omega) with rfl | rfl | rfl
    ·refine stG 18 (.int .i64 0) rfl B1 (fun W b=>xLd 3 (.tmp 20) ⟨b0,0,none⟩ ((HX.out.below b HX.out.lt).cell 0)) (stF 19 (.pointer (some ⟨1,0,none⟩)) rfl B1 (stG 20 (.pointer (some ⟨1,1,none⟩)) rfl B1 (fun _ _=>pK (v:=.pointer (some ⟨1,0,none⟩)) 232 (.tmp 22) 1 (by kernel_rfl) (by kernel_rfl) (by kernel_rfl)) (stG 21 (.int .i64 0) rfl B1 (fun W b=>xLd 3 (.tmp 23) ⟨1,1,none⟩ ((HT.out.below b).c1)) ?_)))
     rcases Bool.eq_false_or_eq_true (decide ((mac.size:Int)=(0:Int))) with k4 | k4
     ·refine stG 22 (.bool true) rfl B1 (fun W _=>xEb .i64 3 3 (.tmp 19) (.tmp 24) ((mac.size:Int)) (0) true (k4)) (stF 23 (.bool true) rfl B1 (stF 24 (.bool true) rfl B1 (stG 25 (.agg (jnv ⟨0,aB,id,token,aI,mac⟩)) rfl B1 (fun W b=>xRw 28 (.tmp 1) b0 (HX.out.below b HX.out.lt) Tryz.underlying28 bI) (stF 27 (.agg (jnv Jn.zero)) rfl B1 ?_))))
      refine stB 26 rfl (nJ ⟨0,aB,id,token,aI,mac⟩ _) B1 fun W5 B5=>?_
      clear B1
      rcases Bool.eq_false_or_eq_true (jeq (frn ⟨0,aB,id,token,aI,mac⟩) Jn.zero) with k6 | k6
      ·refine stG 28 (.bool true) rfl B5 (fun W _=>xAb 28 28 (.tmp 29) (.tmp 30) ((jnv (frn ⟨0,aB,id,token,aI,mac⟩))) ((jnv Jn.zero)) true (iV _ _ true k6 W)) (stF 29 (.bool true) rfl B5 (stF 30 (.bool true) rfl B5 ?_))
       refine aJ (by kernel_rfl) ?_
       go_wp2_with fail
       exact aP 2 (.bool true) (by kernel_rfl) (by kernel_rfl) (by kernel_rfl) ⟨by rw [←HM.out];simp only [dC,show ((Jn.gU 0:Nat):Int)=0 from rfl,k1,k2,k3,k4,k6,Bool.true_and],HE.out _ B5⟩
      ·refine stG 28 (.bool false) rfl B5 (fun W _=>xAb 28 28 (.tmp 29) (.tmp 30) ((jnv (frn ⟨0,aB,id,token,aI,mac⟩))) ((jnv Jn.zero)) false (iV _ _ false k6 W)) (stF 29 (.bool false) rfl B5 (stF 30 (.bool false) rfl B5 ?_))
       refine aJ (by kernel_rfl) ?_
       go_wp2_with fail
       exact aP 2 (.bool false) (by kernel_rfl) (by kernel_rfl) (by kernel_rfl) ⟨by rw [←HM.out];simp only [dC,show ((Jn.gU 0:Nat):Int)=0 from rfl,k1,k2,k3,k4,k6,Bool.true_and],HE.out _ B5⟩
     ·refine stG 22 (.bool false) rfl B1 (fun W _=>xEb .i64 3 3 (.tmp 19) (.tmp 24) ((mac.size:Int)) (0) false (k4)) (stF 23 (.bool false) rfl B1 (stF 24 (.bool false) rfl B1 (stP 25 rfl B1 (stP 26 rfl B1 (stP 27 rfl B1 (stP 28 rfl B1 (stF 29 (.bool false) rfl B1 (stF 30 (.bool false) rfl B1 ?_))))))))
      refine aJ (by kernel_rfl) ?_
      go_wp2_with fail
      exact aP 2 (.bool false) (by kernel_rfl) (by kernel_rfl) (by kernel_rfl) ⟨by rw [←HM.out];simp only [dC,show ((Jn.gU 0:Nat):Int)=0 from rfl,k1,k2,k3,k4,Bool.true_and,Bool.false_and],HE.out _ B1⟩
    ·refine stG 18 (.int .i64 1) rfl B1 (fun W b=>xLd 3 (.tmp 20) ⟨b0,0,none⟩ ((HX.out.below b HX.out.lt).cell 0)) (stF 19 (.pointer (some ⟨1,2,none⟩)) rfl B1 (stG 20 (.pointer (some ⟨1,3,none⟩)) rfl B1 (fun _ _=>pK (v:=.pointer (some ⟨1,2,none⟩)) 232 (.tmp 22) 1 (by kernel_rfl) (by kernel_rfl) (by kernel_rfl)) (stG 21 (.int .i64 8) rfl B1 (fun W b=>xLd 3 (.tmp 23) ⟨1,3,none⟩ ((HT.out.below b).c3)) ?_)))
     rcases Bool.eq_false_or_eq_true (decide ((mac.size:Int)=(8:Int))) with k7 | k7
     ·refine stG 22 (.bool true) rfl B1 (fun W _=>xEb .i64 3 3 (.tmp 19) (.tmp 24) ((mac.size:Int)) (8) true (k7)) (stF 23 (.bool true) rfl B1 (stF 24 (.bool true) rfl B1 (stG 25 (.agg (jnv ⟨1,aB,id,token,aI,mac⟩)) rfl B1 (fun W b=>xRw 28 (.tmp 1) b0 (HX.out.below b HX.out.lt) Tryz.underlying28 bI) (stF 27 (.agg (jnv Jn.zero)) rfl B1 ?_))))
      refine stB 26 rfl (nJ ⟨1,aB,id,token,aI,mac⟩ _) B1 fun W8 B8=>?_
      clear B1
      rcases Bool.eq_false_or_eq_true (jeq (frn ⟨1,aB,id,token,aI,mac⟩) Jn.zero) with k9 | k9
      ·refine stG 28 (.bool true) rfl B8 (fun W _=>xAb 28 28 (.tmp 29) (.tmp 30) ((jnv (frn ⟨1,aB,id,token,aI,mac⟩))) ((jnv Jn.zero)) true (iV _ _ true k9 W)) (stF 29 (.bool true) rfl B8 (stF 30 (.bool true) rfl B8 ?_))
       refine aJ (by kernel_rfl) ?_
       go_wp2_with fail
       exact aP 2 (.bool true) (by kernel_rfl) (by kernel_rfl) (by kernel_rfl) ⟨by rw [←HM.out];simp only [dC,show ((Jn.gU 1:Nat):Int)=8 from rfl,k1,k2,k3,k7,k9,Bool.true_and],HE.out _ B8⟩
      ·refine stG 28 (.bool false) rfl B8 (fun W _=>xAb 28 28 (.tmp 29) (.tmp 30) ((jnv (frn ⟨1,aB,id,token,aI,mac⟩))) ((jnv Jn.zero)) false (iV _ _ false k9 W)) (stF 29 (.bool false) rfl B8 (stF 30 (.bool false) rfl B8 ?_))
       refine aJ (by kernel_rfl) ?_
       go_wp2_with fail
       exact aP 2 (.bool false) (by kernel_rfl) (by kernel_rfl) (by kernel_rfl) ⟨by rw [←HM.out];simp only [dC,show ((Jn.gU 1:Nat):Int)=8 from rfl,k1,k2,k3,k7,k9,Bool.true_and],HE.out _ B8⟩
     ·refine stG 22 (.bool false) rfl B1 (fun W _=>xEb .i64 3 3 (.tmp 19) (.tmp 24) ((mac.size:Int)) (8) false (k7)) (stF 23 (.bool false) rfl B1 (stF 24 (.bool false) rfl B1 (stP 25 rfl B1 (stP 26 rfl B1 (stP 27 rfl B1 (stP 28 rfl B1 (stF 29 (.bool false) rfl B1 (stF 30 (.bool false) rfl B1 ?_))))))))
      refine aJ (by kernel_rfl) ?_
      go_wp2_with fail
      exact aP 2 (.bool false) (by kernel_rfl) (by kernel_rfl) (by kernel_rfl) ⟨by rw [←HM.out];simp only [dC,show ((Jn.gU 1:Nat):Int)=8 from rfl,k1,k2,k3,k7,Bool.true_and,Bool.false_and],HE.out _ B1⟩
    ·refine stG 18 (.int .i64 2) rfl B1 (fun W b=>xLd 3 (.tmp 20) ⟨b0,0,none⟩ ((HX.out.below b HX.out.lt).cell 0)) (stF 19 (.pointer (some ⟨1,4,none⟩)) rfl B1 (stG 20 (.pointer (some ⟨1,5,none⟩)) rfl B1 (fun _ _=>pK (v:=.pointer (some ⟨1,4,none⟩)) 232 (.tmp 22) 1 (by kernel_rfl) (by kernel_rfl) (by kernel_rfl)) (stG 21 (.int .i64 20) rfl B1 (fun W b=>xLd 3 (.tmp 23) ⟨1,5,none⟩ ((HT.out.below b).c5)) ?_)))
     rcases Bool.eq_false_or_eq_true (decide ((mac.size:Int)=(20:Int))) with k10 | k10
     ·refine stG 22 (.bool true) rfl B1 (fun W _=>xEb .i64 3 3 (.tmp 19) (.tmp 24) ((mac.size:Int)) (20) true (k10)) (stF 23 (.bool true) rfl B1 (stF 24 (.bool true) rfl B1 (stG 25 (.agg (jnv ⟨2,aB,id,token,aI,mac⟩)) rfl B1 (fun W b=>xRw 28 (.tmp 1) b0 (HX.out.below b HX.out.lt) Tryz.underlying28 bI) (stF 27 (.agg (jnv Jn.zero)) rfl B1 ?_))))
      refine stB 26 rfl (nJ ⟨2,aB,id,token,aI,mac⟩ _) B1 fun W11 B11=>?_
      clear B1
      rcases Bool.eq_false_or_eq_true (jeq (frn ⟨2,aB,id,token,aI,mac⟩) Jn.zero) with k12 | k12
      ·refine stG 28 (.bool true) rfl B11 (fun W _=>xAb 28 28 (.tmp 29) (.tmp 30) ((jnv (frn ⟨2,aB,id,token,aI,mac⟩))) ((jnv Jn.zero)) true (iV _ _ true k12 W)) (stF 29 (.bool true) rfl B11 (stF 30 (.bool true) rfl B11 ?_))
       refine aJ (by kernel_rfl) ?_
       go_wp2_with fail
       exact aP 2 (.bool true) (by kernel_rfl) (by kernel_rfl) (by kernel_rfl) ⟨by rw [←HM.out];simp only [dC,show ((Jn.gU 2:Nat):Int)=20 from rfl,k1,k2,k3,k10,k12,Bool.true_and],HE.out _ B11⟩
      ·refine stG 28 (.bool false) rfl B11 (fun W _=>xAb 28 28 (.tmp 29) (.tmp 30) ((jnv (frn ⟨2,aB,id,token,aI,mac⟩))) ((jnv Jn.zero)) false (iV _ _ false k12 W)) (stF 29 (.bool false) rfl B11 (stF 30 (.bool false) rfl B11 ?_))
       refine aJ (by kernel_rfl) ?_
       go_wp2_with fail
       exact aP 2 (.bool false) (by kernel_rfl) (by kernel_rfl) (by kernel_rfl) ⟨by rw [←HM.out];simp only [dC,show ((Jn.gU 2:Nat):Int)=20 from rfl,k1,k2,k3,k10,k12,Bool.true_and],HE.out _ B11⟩
     ·refine stG 22 (.bool false) rfl B1 (fun W _=>xEb .i64 3 3 (.tmp 19) (.tmp 24) ((mac.size:Int)) (20) false (k10)) (stF 23 (.bool false) rfl B1 (stF 24 (.bool false) rfl B1 (stP 25 rfl B1 (stP 26 rfl B1 (stP 27 rfl B1 (stP 28 rfl B1 (stF 29 (.bool false) rfl B1 (stF 30 (.bool false) rfl B1 ?_))))))))
      refine aJ (by kernel_rfl) ?_
      go_wp2_with fail
      exact aP 2 (.bool false) (by kernel_rfl) (by kernel_rfl) (by kernel_rfl) ⟨by rw [←HM.out];simp only [dC,show ((Jn.gU 2:Nat):Int)=20 from rfl,k1,k2,k3,k10,Bool.true_and,Bool.false_and],HE.out _ B1⟩
   ·refine stG 11 (.bool false) rfl B1 (fun W _=>xLb .i64 3 3 (.tmp 13) (.const (.int .i64 255)) (id) (255) false (k3)) (stF 12 (.bool false) rfl B1 (stF 13 (.bool false) rfl B1 (stP 14 rfl B1 (stP 15 rfl B1 (stP 16 rfl B1 (stP 17 rfl B1 (stP 18 rfl B1 (stP 19 rfl B1 (stP 20 rfl B1 ?_)))))))))
    refine stP 21 rfl B1 (stP 22 rfl B1 (stF 23 (.bool false) rfl B1 (stF 24 (.bool false) rfl B1 (stP 25 rfl B1 (stP 26 rfl B1 (stP 27 rfl B1 (stP 28 rfl B1 (stF 29 (.bool false) rfl B1 (stF 30 (.bool false) rfl B1 ?_)))))))))
    refine aJ (by kernel_rfl) ?_
    go_wp2_with fail
    exact aP 2 (.bool false) (by kernel_rfl) (by kernel_rfl) (by kernel_rfl) ⟨by rw [←HM.out];simp only [dC,k1,k2,k3,Bool.true_and,Bool.false_and],HE.out _ B1⟩
  ·refine stG 6 (.bool false) rfl B1 (fun W _=>xLb .i64 3 3 (.const (.int .i64 0)) (.tmp 8) (0) (id) false (k2)) (stF 7 (.bool false) rfl B1 (stF 8 (.bool false) rfl B1 (stP 9 rfl B1 (stP 10 rfl B1 (stP 11 rfl B1 (stF 12 (.bool false) rfl B1 (stF 13 (.bool false) rfl B1 (stP 14 rfl B1 (stP 15 rfl B1 ?_)))))))))
   refine stP 16 rfl B1 (stP 17 rfl B1 (stP 18 rfl B1 (stP 19 rfl B1 (stP 20 rfl B1 (stP 21 rfl B1 (stP 22 rfl B1 (stF 23 (.bool false) rfl B1 (stF 24 (.bool false) rfl B1 (stP 25 rfl B1 ?_)))))))))
   refine stP 26 rfl B1 (stP 27 rfl B1 (stP 28 rfl B1 (stF 29 (.bool false) rfl B1 (stF 30 (.bool false) rfl B1 ?_))))
   refine aJ (by kernel_rfl) ?_
   go_wp2_with fail
   exact aP 2 (.bool false) (by kernel_rfl) (by kernel_rfl) (by kernel_rfl) ⟨by rw [←HM.out];simp only [dC,k1,k2,Bool.true_and,Bool.false_and],HE.out _ B1⟩
 ·refine stB 2 rfl (jB form false k1 _) B0 fun W1 B1=>?_
  clear B0
  refine stF 3 (.bool false) rfl B1 (stP 4 rfl B1 (stP 5 rfl B1 (stP 6 rfl B1 (stF 7 (.bool false) rfl B1 (stF 8 (.bool false) rfl B1 (stP 9 rfl B1 (stP 10 rfl B1 (stP 11 rfl B1 (stF 12 (.bool false) rfl B1 ?_)))))))))
  refine stF 13 (.bool false) rfl B1 (stP 14 rfl B1 (stP 15 rfl B1 (stP 16 rfl B1 (stP 17 rfl B1 (stP 18 rfl B1 (stP 19 rfl B1 (stP 20 rfl B1 (stP 21 rfl B1 (stP 22 rfl B1 ?_)))))))))
  refine stF 23 (.bool false) rfl B1 (stF 24 (.bool false) rfl B1 (stP 25 rfl B1 (stP 26 rfl B1 (stP 27 rfl B1 (stP 28 rfl B1 (stF 29 (.bool false) rfl B1 (stF 30 (.bool false) rfl B1 ?_)))))))
  refine aJ (by kernel_rfl) ?_
  go_wp2_with fail
  exact aP 2 (.bool false) (by kernel_rfl) (by kernel_rfl) (by kernel_rfl) ⟨by rw [←HM.out];simp only [dC,k1,Bool.false_and],HE.out _ B1⟩
theorem dX (x:Jn) (hx:x.Ok) (w:World) (ht:Tbl w):
  Calls Tryz.prog 114 #[.agg (jnv x)] w (Rt w (.bool (decide x.May))):=by
 rw [←mF]
 exact valid_ x.form x.aB x.id x.token x.aI x.mac w ht
open Go.ChangeShapes Go.WideShapes Go.ChangeAt Go.RowKit
theorem jC (a:ByteArray):(⟨#[]⟩:ByteArray)++a=a:=by apply ByteArray.ext;rw [ByteArray.data_append];simp
theorem qR (m n:Nat):(txt (be m n)).size=m:=by rw [aN,aH]
abbrev enc1 (g c:Nat):Value:=.func (.func 172) #[] #[.pointer (some ⟨g,0,none⟩),.pointer (some ⟨c,0,none⟩)]
abbrev enc2 (g c:Nat):Value:=.func (.func 174) #[] #[.pointer (some ⟨g,0,none⟩),.pointer (some ⟨c,0,none⟩)]
abbrev enc3 (g c:Nat):Value:=.func (.func 175) #[] #[.pointer (some ⟨g,0,none⟩),.pointer (some ⟨c,0,none⟩)]
theorem enc1_any (x:Jn) (hx:x.Ok) (F:ByteArray) (hF:F.size≤100) (T1 T:ByteArray) (h1:F++⟨(be 4 x.token).toArray⟩=T1) (hT:T1++⟨(be 4 x.aI).toArray⟩=T) (g c:Nat) (w:World) (hg:Blk w g 9 #[.string F]) (hc:Blk w c 28 (jnv x)):
  Calls Tryz.prog 172 #[.pointer (some ⟨g,0,none⟩),.pointer (some ⟨c,0,none⟩)] w (Rt w (.string T)):=by
 have s1:T1.size≤200:=by rw [←h1,ByteArray.size_append];have:=qR 4 x.token;unfold txt at this;omega
 have HG:=Lh hg
 have HC:=Lh hc
 have HX:=Lh hx
 have HTT:=Lh hT
 have H1:=Lh h1
 clear hg hc hx hT h1
 go_enter Tryz.func172,Tryz.ntmps172
 go_upto_region 1 with fail
 refine dD (n:=8) rfl fun W0 B0=>?_
 refine stG 0 (.string F) rfl B0 (fun W b=>xLd 9 (.tmp 0) ⟨g,0,none⟩ ((HG.out.below b HG.out.lt).cell 0)) (stF 1 (.pointer (some ⟨c,3,none⟩)) rfl B0 (stG 2 (.int .u32 (x.token:Int)) rfl B0 (fun W b=>xLd 26 (.tmp 4) ⟨c,3,none⟩ ((HC.out.below b HC.out.lt).cell 3)) (stF 4 (.pointer (some ⟨c,4,none⟩)) rfl B0 (stG 5 (.int .u32 (x.aI:Int)) rfl B0 (fun W b=>xLd 26 (.tmp 7) ⟨c,4,none⟩ ((HC.out.below b HC.out.lt).cell 4)) ?_))))
 refine stB 3 rfl (answer (nR F x.token _ (by omega) HX.out.token) (congrArg Value.string H1.out)) B0 fun W1 B1=>?_
 clear B0
 refine stB 6 rfl (answer (nR T1 x.aI _ (by omega) HX.out.aI) (congrArg Value.string HTT.out)) B1 fun W2 B2=>?_
 clear B1
 refine stF 7 (.string T) rfl B2 ?_
 refine aJ (by kernel_rfl) ?_
 go_wp2_with fail
 exact aP 2 (.string T) (by kernel_rfl) (by kernel_rfl) (by kernel_rfl) ⟨rfl,B2⟩
theorem enc2_any (x:Jn) (hx:x.Ok) (F:ByteArray) (hF:F.size≤100) (hm:x.mac.size≤100) (T1 T:ByteArray) (h1:T1=F++x.mac) (hT:T1++⟨(be 4 x.aI).toArray⟩=T) (g c:Nat) (w:World) (hg:Blk w g 9 #[.string F]) (hc:Blk w c 28 (jnv x)):
  Calls Tryz.prog 174 #[.pointer (some ⟨g,0,none⟩),.pointer (some ⟨c,0,none⟩)] w (Rt w (.string T)):=by
 have s1:T1.size≤200:=by rw [h1,ByteArray.size_append];omega
 have HG:=Lh hg
 have HC:=Lh hc
 have HX:=Lh hx
 have HTT:=Lh hT
 have H1:=Lh h1
 have hcat:=fun W=>run_string_add (P:=Tryz.prog) W F x.mac (by omega) (by omega)
 have g0:=hg.cell 0
 have c4:=hc.cell 4
 have c5:=hc.cell 5
 simp only [List.getElem?_toArray,List.getElem?_cons_zero,List.getElem?_cons_succ] at g0 c4 c5
 clear hg hc hx hT h1
 go_enter Tryz.func174,Tryz.ntmps174
 go_wp2_with fail
 rw [←H1.out]
 refine (answer (nR T1 x.aI _ (by omega) HX.out.aI) (congrArg Value.string HTT.out)).mono ?_
 rintro e W ⟨rfl,b⟩
 go_wp2_with fail
 go_ret;exact ⟨rfl,b⟩
theorem enc3_any (x:Jn) (hx:x.Ok) (F:ByteArray) (hF:F.size≤100) (hm:x.mac.size≤100) (T:ByteArray) (hT:T=F++x.mac) (g c:Nat) (w:World) (hg:Blk w g 9 #[.string F]) (hc:Blk w c 28 (jnv x)):
  Calls Tryz.prog 175 #[.pointer (some ⟨g,0,none⟩),.pointer (some ⟨c,0,none⟩)] w (Rt w (.string T)):=by
 have HG:=Lh hg
 have HC:=Lh hc
 have HX:=Lh hx
 have HTT:=Lh hT
 have hcat:=fun W=>run_string_add (P:=Tryz.prog) W F x.mac (by omega) (by omega)
 have g0:=hg.cell 0
 have c4:=hc.cell 4
 have c5:=hc.cell 5
 simp only [List.getElem?_toArray,List.getElem?_cons_zero,List.getElem?_cons_succ] at g0 c4 c5
 clear hg hc hx hT
 go_enter Tryz.func175,Tryz.ntmps175
 go_wp2_with fail
 go_ret;exact ⟨by rw [HTT.out];rfl,Below.refl _ _⟩
theorem encs_size:(Tryz.prog.info? 170).map (·.size)=some 3:=by kernel_rfl
def zO (x:Jn) (F:ByteArray) (w:World) (v:Value) (w':World):Prop:=∃g c,v= .agg #[enc1 g c,enc2 g c,enc3 g c]∧Blk w' g 9 #[.string F]∧Blk w' c 28 (jnv x)∧Below w.heap.size w w'
theorem zO.below {x:Jn} {F:ByteArray} {w w':World} {v:Value} (h:zO x F w v w'):Below w.heap.size w w':=by obtain ⟨_,_,_,_,_,h⟩:=h;exact h
theorem lZ (x:Jn) (i:Nat) (hi:x.id=(i:Int)) (wU:i≤255) (T1 F:ByteArray) (h1:T1=txt (be 1 (Jn.first x.aB))) (hF:T1++⟨(be 1 i).toArray⟩=F) (w:World):
  Calls Tryz.prog 115 #[.agg (jnv x)] w fun e w'=>∃v,e= .returned v∧zO x F w v w':=by
 obtain ⟨V,hV⟩:=eqx ((w.alloc (.cells (jnv x) 28)).alloc (.cells #[.nilFunc,.nilFunc,.nilFunc] 170))
 obtain ⟨b0,hb0⟩:=eqx w.heap.size
 obtain ⟨b1,hb1⟩:=eqx (w.heap.size+1)
 have hxv:Blk V b0 28 (jnv x):=by rw [hV,hb0];exact (Blk.new _ _ _).alloc _
 have hrv:Blk V b1 170 #[.nilFunc,.nilFunc,.nilFunc]:=by
  rw [hV,hb1]
  have:=Blk.new (w.alloc (.cells (jnv x) 28)) 170 #[.nilFunc,.nilFunc,.nilFunc]
  simpa using this
 have s1:T1.size≤10:=by rw [h1,qR];omega
 have hsv:V.heap.size=w.heap.size+2:=by rw [hV];simp
 have HXV:=Lh hxv
 have HRV:=Lh hrv
 have HBV:=Lh (show Below w.heap.size w V by rw [hV];exact ((Below.refl _ w).alloc (Nat.le_refl _) _).alloc (by simp) _)
 have HS:=Lh (show w.heap.size≤b1∧b0 < V.heap.size∧b1 < V.heap.size∧b0≠b1 from ⟨by omega,by omega,by omega,by omega⟩)
 have H1:=Lh (show (⟨#[]⟩:ByteArray)++⟨(be 1 (Jn.first x.aB)).toArray⟩=T1 by rw [jC,h1];rfl)
 have HF:=Lh hF
 have HI:=Lh (show x.id%256=(i:Int) by omega)
 have HVE:=Lh hV
 have HB0:=Lh hb0
 have HB1:=Lh hb1
 clear hV hb0 hb1 hxv hrv hsv h1 hF hi
 go_enter Tryz.func115,Tryz.ntmps115
 go_upto_region 1 with fail
 rw [←HVE.out,←HB1.out,←HB0.out]
 go_cut [3] (fun y wx=>∃g,y= .pointer (some ⟨g,0,none⟩)∧V.heap.size≤g∧Blk wx g 9 #[.string F]∧Below V.heap.size V wx)
 case first=>
  have B0:Below V.heap.size V V.drew:=(Below.refl _ V).drew
  refine oZ 8 (fun W=>Below V.heap.size V W) (by kernel_rfl) (n:=9) rfl ?_
  obtain ⟨W0,hW0⟩:=eqx V.drew
  rw [←hW0] at B0 ⊢
  clear hW0
  refine wkG 0 (.agg (jnv x)) rfl B0 (fun W b=>xRw 28 (.tmp 1) b0 (HXV.out.below b HXV.out.lt) Tryz.underlying28 bI) (wkG 3 (.pointer (some ⟨b0,2,none⟩)) rfl B0 (fun _ _=>pK (v:=.pointer (some ⟨b0,0,none⟩)) 28 (.tmp 1) 2 (by kernel_rfl) (by kernel_rfl) (by kernel_rfl)) (wkG 4 (.int .i64 x.id) rfl B0 (fun W b=>xLd 3 (.tmp 7) ⟨b0,2,none⟩ ((HXV.out.below b HXV.out.lt).cell 2)) (wkG 5 (.int .u8 (i:Int)) rfl B0 (fun W _=>bW (v:=.int .i64 x.id) 3 5 (.tmp 8) (by kernel_rfl) (by kernel_rfl) (eP x.id i HI.out W)) ?_)))
  refine kC 1 7 (by kernel_rfl) ?_ ?_
  ·refine dL 1 rfl (by kernel_rfl) (by kernel_rfl) (kN x _) (fun w' h=>aQ B0 h) ?_
   intro W1 hW1
   have B1:=aQ B0 hW1
   clear hW1 B0
   refine kC 2 7 (by kernel_rfl) ?_ ?_
   ·refine dL 2 rfl (by kernel_rfl) (by kernel_rfl) (answer (dB ⟨#[]⟩ (Jn.first x.aB) _ (by decide) (Jn.uD _)) (congrArg Value.string H1.out)) (fun w' h=>aQ B1 h) ?_
    intro W2 hW2
    have B2:=aQ B1 hW2
    clear hW2 B1
    refine kC 6 7 (by kernel_rfl) ?_ ?_
    ·refine dL 6 rfl (by kernel_rfl) (by kernel_rfl) (answer (dB T1 i _ (by omega) (by omega)) (congrArg Value.string HF.out)) (fun w' h=>aQ B2 h) ?_
     intro W3 hW3
     have B3:=aQ B2 hW3
     clear hW3 B2
     obtain ⟨W4,hW4⟩:∃w',w'=W3.alloc (.cells #[.string ⟨#[]⟩] 9):=⟨_,rfl⟩
     have N4_4:Blk W4 W3.heap.size 9 #[.string ⟨#[]⟩]:=by rw [hW4];exact Blk.new _ _ _
     have B4:Below V.heap.size V W4:=by rw [hW4];exact B3.alloc B3.size _
     have L4:V.heap.size≤W3.heap.size:=B3.size
     refine aW 7 (by kernel_rfl) (dZ (v:=.pointer (some ⟨W3.heap.size,0,none⟩)) (w':=W4) 7 rfl (by kernel_rfl) (by rw [hW4];exact jA 9 (.string ⟨#[]⟩) (by kernel_rfl) rfl (fun _=>by kernel_rfl)) B4 ?_)
     clear hW4
     refine aW 8 (by kernel_rfl) (sO 8 rfl (by kernel_rfl) (gJ 9 (.tmp 3) (.tmp 10) (by kernel_rfl) ⟨W3.heap.size,0,none⟩ (.string F) (by kernel_rfl) (by kernel_rfl) (oC _ _ _ F N4_4)) (by kernel_rfl) ?_)
     refine dP ⟨#[.agg (jnv x),.pointer (some ⟨b0,0,none⟩),.pointer (some ⟨b1,0,none⟩),.pointer (some ⟨W3.heap.size,0,none⟩),.agg (jnv x),.int .u8 (Jn.first x.aB:Int),.string T1,.pointer (some ⟨b0,2,none⟩),.int .i64 x.id,.int .u8 (i:Int),.string F,undef,undef,undef,undef],[]⟩ (by kernel_rfl) (by kernel_rfl) ?_
     have HE:=Lh (show V.heap.size≤W3.heap.size∧Blk (W4.setCell ⟨W3.heap.size,0,none⟩ (.string F)) W3.heap.size 9 #[.string F]∧Below V.heap.size V (W4.setCell ⟨W3.heap.size,0,none⟩ (.string F)) from ⟨L4,N4_4.fV 0 _,B4.setCell L4 _⟩)
     clear N4_4
     go_wp2_with fail
     go_meet
     exact ⟨_,rfl,HE.out⟩
    ·obtain ⟨W3,hW3⟩:∃w',w'=W2.alloc (.cells #[.string ⟨#[]⟩] 9):=⟨_,rfl⟩
     have N3_3:Blk W3 W2.heap.size 9 #[.string ⟨#[]⟩]:=by rw [hW3];exact Blk.new _ _ _
     have B3:Below V.heap.size V W3:=by rw [hW3];exact B2.alloc B2.size _
     have L3:V.heap.size≤W2.heap.size:=B2.size
     refine dZ (v:=.pointer (some ⟨W2.heap.size,0,none⟩)) (w':=W3) 7 rfl (by kernel_rfl) (by rw [hW3];exact jA 9 (.string ⟨#[]⟩) (by kernel_rfl) rfl (fun _=>by kernel_rfl)) B3 ?_
     clear hW3
     refine aW 6 (by kernel_rfl) (dL 6 rfl (by kernel_rfl) (by kernel_rfl) (answer (dB T1 i _ (by omega) (by omega)) (congrArg Value.string HF.out)) (fun w' h=>aQ B3 h) ?_)
     intro W4 hW4
     have B4:=aQ B3 hW4
     have N3_4:=N3_3.below hW4 N3_3.lt
     clear hW4 B3 N3_3
     refine aW 8 (by kernel_rfl) (sO 8 rfl (by kernel_rfl) (gJ 9 (.tmp 3) (.tmp 10) (by kernel_rfl) ⟨W2.heap.size,0,none⟩ (.string F) (by kernel_rfl) (by kernel_rfl) (oC _ _ _ F N3_4)) (by kernel_rfl) ?_)
     refine dP ⟨#[.agg (jnv x),.pointer (some ⟨b0,0,none⟩),.pointer (some ⟨b1,0,none⟩),.pointer (some ⟨W2.heap.size,0,none⟩),.agg (jnv x),.int .u8 (Jn.first x.aB:Int),.string T1,.pointer (some ⟨b0,2,none⟩),.int .i64 x.id,.int .u8 (i:Int),.string F,undef,undef,undef,undef],[]⟩ (by kernel_rfl) (by kernel_rfl) ?_
     have HE:=Lh (show V.heap.size≤W2.heap.size∧Blk (W4.setCell ⟨W2.heap.size,0,none⟩ (.string F)) W2.heap.size 9 #[.string F]∧Below V.heap.size V (W4.setCell ⟨W2.heap.size,0,none⟩ (.string F)) from ⟨L3,N3_4.fV 0 _,B4.setCell L3 _⟩)
     clear N3_4
     go_wp2_with fail
     go_meet
     exact ⟨_,rfl,HE.out⟩
   ·obtain ⟨W2,hW2⟩:∃w',w'=W1.alloc (.cells #[.string ⟨#[]⟩] 9):=⟨_,rfl⟩
    have N2_2:Blk W2 W1.heap.size 9 #[.string ⟨#[]⟩]:=by rw [hW2];exact Blk.new _ _ _
    have B2:Below V.heap.size V W2:=by rw [hW2];exact B1.alloc B1.size _
    have L2:V.heap.size≤W1.heap.size:=B1.size
    refine dZ (v:=.pointer (some ⟨W1.heap.size,0,none⟩)) (w':=W2) 7 rfl (by kernel_rfl) (by rw [hW2];exact jA 9 (.string ⟨#[]⟩) (by kernel_rfl) rfl (fun _=>by kernel_rfl)) B2 ?_
    clear hW2
    refine aW 2 (by kernel_rfl) (dL 2 rfl (by kernel_rfl) (by kernel_rfl) (answer (dB ⟨#[]⟩ (Jn.first x.aB) _ (by decide) (Jn.uD _)) (congrArg Value.string H1.out)) (fun w' h=>aQ B2 h) ?_)
    intro W3 hW3
    have B3:=aQ B2 hW3
    have N2_3:=N2_2.below hW3 N2_2.lt
    clear hW3 B2 N2_2
    refine aW 6 (by kernel_rfl) (dL 6 rfl (by kernel_rfl) (by kernel_rfl) (answer (dB T1 i _ (by omega) (by omega)) (congrArg Value.string HF.out)) (fun w' h=>aQ B3 h) ?_)
    intro W4 hW4
    have B4:=aQ B3 hW4
    have N2_4:=N2_3.below hW4 N2_3.lt
    clear hW4 B3 N2_3
    refine aW 8 (by kernel_rfl) (sO 8 rfl (by kernel_rfl) (gJ 9 (.tmp 3) (.tmp 10) (by kernel_rfl) ⟨W1.heap.size,0,none⟩ (.string F) (by kernel_rfl) (by kernel_rfl) (oC _ _ _ F N2_4)) (by kernel_rfl) ?_)
    refine dP ⟨#[.agg (jnv x),.pointer (some ⟨b0,0,none⟩),.pointer (some ⟨b1,0,none⟩),.pointer (some ⟨W1.heap.size,0,none⟩),.agg (jnv x),.int .u8 (Jn.first x.aB:Int),.string T1,.pointer (some ⟨b0,2,none⟩),.int .i64 x.id,.int .u8 (i:Int),.string F,undef,undef,undef,undef],[]⟩ (by kernel_rfl) (by kernel_rfl) ?_
    have HE:=Lh (show V.heap.size≤W1.heap.size∧Blk (W4.setCell ⟨W1.heap.size,0,none⟩ (.string F)) W1.heap.size 9 #[.string F]∧Below V.heap.size V (W4.setCell ⟨W1.heap.size,0,none⟩ (.string F)) from ⟨L2,N2_4.fV 0 _,B4.setCell L2 _⟩)
    clear N2_4
    go_wp2_with fail
    go_meet
    exact ⟨_,rfl,HE.out⟩
  ·obtain ⟨W1,hW1⟩:∃w',w'=W0.alloc (.cells #[.string ⟨#[]⟩] 9):=⟨_,rfl⟩
   have N1_1:Blk W1 W0.heap.size 9 #[.string ⟨#[]⟩]:=by rw [hW1];exact Blk.new _ _ _
   have B1:Below V.heap.size V W1:=by rw [hW1];exact B0.alloc B0.size _
   have L1:V.heap.size≤W0.heap.size:=B0.size
   refine dZ (v:=.pointer (some ⟨W0.heap.size,0,none⟩)) (w':=W1) 7 rfl (by kernel_rfl) (by rw [hW1];exact jA 9 (.string ⟨#[]⟩) (by kernel_rfl) rfl (fun _=>by kernel_rfl)) B1 ?_
   clear hW1
   refine aW 1 (by kernel_rfl) (dL 1 rfl (by kernel_rfl) (by kernel_rfl) (kN x _) (fun w' h=>aQ B1 h) ?_)
   intro W2 hW2
   have B2:=aQ B1 hW2
   have N1_2:=N1_1.below hW2 N1_1.lt
   clear hW2 B1 N1_1
   refine aW 2 (by kernel_rfl) (dL 2 rfl (by kernel_rfl) (by kernel_rfl) (answer (dB ⟨#[]⟩ (Jn.first x.aB) _ (by decide) (Jn.uD _)) (congrArg Value.string H1.out)) (fun w' h=>aQ B2 h) ?_)
   intro W3 hW3
   have B3:=aQ B2 hW3
   have N1_3:=N1_2.below hW3 N1_2.lt
   clear hW3 B2 N1_2
   refine aW 6 (by kernel_rfl) (dL 6 rfl (by kernel_rfl) (by kernel_rfl) (answer (dB T1 i _ (by omega) (by omega)) (congrArg Value.string HF.out)) (fun w' h=>aQ B3 h) ?_)
   intro W4 hW4
   have B4:=aQ B3 hW4
   have N1_4:=N1_3.below hW4 N1_3.lt
   clear hW4 B3 N1_3
   refine aW 8 (by kernel_rfl) (sO 8 rfl (by kernel_rfl) (gJ 9 (.tmp 3) (.tmp 10) (by kernel_rfl) ⟨W0.heap.size,0,none⟩ (.string F) (by kernel_rfl) (by kernel_rfl) (oC _ _ _ F N1_4)) (by kernel_rfl) ?_)
   refine dP ⟨#[.agg (jnv x),.pointer (some ⟨b0,0,none⟩),.pointer (some ⟨b1,0,none⟩),.pointer (some ⟨W0.heap.size,0,none⟩),.agg (jnv x),.int .u8 (Jn.first x.aB:Int),.string T1,.pointer (some ⟨b0,2,none⟩),.int .i64 x.id,.int .u8 (i:Int),.string F,undef,undef,undef,undef],[]⟩ (by kernel_rfl) (by kernel_rfl) ?_
   have HE:=Lh (show V.heap.size≤W0.heap.size∧Blk (W4.setCell ⟨W0.heap.size,0,none⟩ (.string F)) W0.heap.size 9 #[.string F]∧Below V.heap.size V (W4.setCell ⟨W0.heap.size,0,none⟩ (.string F)) from ⟨L1,N1_4.fV 0 _,B4.setCell L1 _⟩)
   clear N1_4
   go_wp2_with fail
   go_meet
   exact ⟨_,rfl,HE.out⟩
 case rest=>
  obtain ⟨g,rfl,hg,hB,hV⟩:=hcut
  obtain ⟨U,hU⟩:=eqx wc
  have hr:Blk wc b1 170 #[.nilFunc,.nilFunc,.nilFunc]:=HRV.out.below hV HS.out.2.2.1
  have HR:=Lh hr
  have rD:=Lh (show zO x F w (.agg #[enc1 g b0,enc2 g b0,enc3 g b0]) (wc.setRow b1 #[enc1 g b0,enc2 g b0,enc3 g b0]) from ⟨g,b0,rfl,hB.same (setRow_other wc b1 g _ (by have:=HS.out.2.2.1;omega)),(HXV.out.below hV HS.out.2.1).same (setRow_other wc b1 b0 _ HS.out.2.2.2),below_setRow (HBV.out.trans (hV.mono HBV.out.size)) HS.out.1 _⟩)
  have HSE:=Lh (setRow_heap _ b1 _ #[enc1 g b0,enc2 g b0,enc3 g b0] _ _ hr)
  clear hB hV hr hU
  go_wp2_with (refine wpList_store_row rfl 170 _ _ rfl b1 #[enc1 g b0,enc2 g b0,enc3 g b0] rfl rfl 170 #[.nilFunc,.nilFunc,.nilFunc] ?_ encs_size rfl (by simp [Value.oneCell']) ?_;exact HR.out)
  exact bodyPost_ret (results_cell_row rfl _ _ b1 170 #[enc1 g b0,enc2 g b0,enc3 g b0] (0,0) _ rfl HSE.out Tryz.underlying170 rfl encs_size) rfl ⟨_,rfl,rD.out⟩
def dA (x:Jn):Value:=.tuple #[.string x.enc.1,.int .i64 x.enc.2]
theorem lS (x:Jn) (h:x.May):dA x= .tuple #[.string (txt x.body),.int .i64 0]:=by unfold dA;rw [Jn.mM x h]
theorem o6 (x:Jn) (h:¬x.May):dA x= .tuple #[.string ⟨#[]⟩,.int .i64 2]:=by unfold dA;rw [Jn.mZ x h]
theorem bC {P:Program} {fn:Func} {R:Ending→World→Prop} {a:Act} {w:World} (t u:Tmp) (v z:Value) (hf:fn.results=#[.tmp t,.tmp u]) (ht:a.tmps.getD t undef=v) (hu:a.tmps.getD u undef=z) (hd:a.defers=[]) (hR:R (.returned (.tuple #[v,z])) w):bodyPost P fn R .ret a w:=
 bodyPost_ret (by rw [results_tmp2 hf,ht,hu]) hd hR
theorem rM (x:Jn):txt (be 1 (Jn.first x.aB))++txt (be 1 x.id.toNat)=txt [UInt8.ofNat (Jn.first x.aB),UInt8.ofNat x.id.toNat]:=by
 rw [dU];simp [be]
theorem body_0 (x:Jn) (h:x.form=0):txt [UInt8.ofNat (Jn.first x.aB),UInt8.ofNat x.id.toNat]++txt (be 4 x.token)++txt (be 4 x.aI)=txt x.body:=by
 rw [dU,dU,Jn.body,Jn.rest,if_pos h];simp
theorem body_1 (x:Jn) (h:x.form=1):txt [UInt8.ofNat (Jn.first x.aB),UInt8.ofNat x.id.toNat]++x.mac++txt (be 4 x.aI)=txt x.body:=by
 rw [←txt_of x.mac,dU,dU,Jn.body,Jn.rest,if_neg (by omega),if_pos h];simp
theorem body_2 (x:Jn) (h:x.form=2):txt [UInt8.ofNat (Jn.first x.aB),UInt8.ofNat x.id.toNat]++x.mac=txt x.body:=by
 rw [←txt_of x.mac,dU,Jn.body,Jn.rest,if_neg (by omega),if_neg (by omega)];simp
theorem Encode_0 (aB:Bool) (id:Int) (token aI:Nat) (mac:ByteArray) (hx:Jn.Ok ⟨0,aB,id,token,aI,mac⟩) (hm:Jn.May ⟨0,aB,id,token,aI,mac⟩) (w:World) (ht:Tbl w):
  Calls Tryz.prog 58 #[.agg (jnv ⟨0,aB,id,token,aI,mac⟩)] w (Rt w (dA ⟨0,aB,id,token,aI,mac⟩)):=by
 rw [lS _ hm]
 obtain ⟨T,hT⟩:=eqx (txt (Jn.body ⟨0,aB,id,token,aI,mac⟩))
 rw [←hT]
 have hmm:=hm
 obtain ⟨-,⟨i0,i1⟩,hms, -⟩:=hm
 have i0:0≤id:=i0
 have i1:id≤255:=i1
 have hms:mac.size=0:=hms
 obtain ⟨i,hi⟩:∃i:Nat,id=(i:Int):=⟨id.toNat,by omega⟩
 have wU:i≤255:=by omega
 obtain ⟨T1,hT1⟩:∃T,T=txt (be 1 (Jn.first aB)):=⟨_,rfl⟩
 obtain ⟨F,hF⟩:=eqx (T1++txt (be 1 i))
 have hFt:F=txt [UInt8.ofNat (Jn.first aB),UInt8.ofNat id.toNat]:=by rw [hF,hT1,show i=id.toNat by omega];exact rM ⟨0,aB,id,token,aI,mac⟩
 have hFs:F.size≤100:=by rw [hFt,aN];simp
 obtain ⟨A,hA⟩:=eqx (F++txt (be 4 token))
 have HA:=Lh (show F++⟨(be 4 token).toArray⟩=A from hA.symm)
 have HTT:=Lh (show A++⟨(be 4 aI).toArray⟩=T by rw [hT,←body_0 ⟨0,aB,id,token,aI,mac⟩ rfl,hA,hFt];rfl)
 have HMS:=Lh hms
 have HM:=Lh (show Jn.May ⟨0,aB,id,token,aI,mac⟩ from hmm)
 have HX:=Lh hx
 have HI:=Lh (show Jn.id ⟨0,aB,id,token,aI,mac⟩=(i:Int) from hi)
 have HT1:=Lh (show T1=txt (be 1 (Jn.first (Jn.aB ⟨0,aB,id,token,aI,mac⟩))) from hT1)
 have HF:=Lh (show T1++⟨(be 1 i).toArray⟩=F from hF.symm)
 obtain ⟨w0,hw0⟩:=eqx (w.alloc (.cells (jnv ⟨0,aB,id,token,aI,mac⟩) 28))
 obtain ⟨b0,hb0⟩:=eqx w.heap.size
 have hc0:Blk w0 b0 28 (jnv ⟨0,aB,id,token,aI,mac⟩):=by rw [hw0,hb0];exact Blk.new _ _ _
 have HC0:=Lh hc0
 have HBW:=Lh (qA hw0)
 have HTB:=Lh (show Tbl w0 by rw [hw0];exact ht.alloc _)
 have HW0:=Lh hw0
 have HB0:=Lh hb0
 have HC1:=hc0
 rw [hw0,hb0] at HC1
 have pW:=Lh HC1
 clear hmm hT hms hi hT1 hF hFt hw0 hb0 hc0 ht hx i0 i1 HC1 hA
 go_enter Tryz.func58,Tryz.ntmps58
 go_wp2_with (refine wpList_load_row rfl 28 _ rfl w.heap.size rfl 28 (jnv ⟨0,aB,id,token,aI,mac⟩) (0,0) _ ?_ Tryz.underlying28 rfl bI ?_;exact pW.out)
 rw [←HW0.out,←HB0.out]
 refine (dX ⟨0,aB,id,token,aI,mac⟩ HX.out _ HTB.out).mono ?_
 rintro e V ⟨rfl,bv⟩
 rw [decide_eq_true HM.out]
 have HC:=Lh (HC0.out.below bv HC0.out.lt)
 have HBV:=Lh (HBW.out.trans (bv.mono HBW.out.size))
 clear bv HC0 HBW HTB HW0 pW
 go_upto_region 3 with fail
 refine dD (n:=8) rfl fun W0 B0=>?_
 refine stG 0 (.agg (jnv ⟨0,aB,id,token,aI,mac⟩)) rfl B0 (fun W b=>xRw 28 (.tmp 1) b0 (HC.out.below b HC.out.lt) Tryz.underlying28 bI) (stF 2 (.pointer (some ⟨b0,0,none⟩)) rfl B0 (stG 3 (.int .i64 0) rfl B0 (fun W b=>xLd 3 (.tmp 9) ⟨b0,0,none⟩ ((HC.out.below b HC.out.lt).cell 0)) ?_))
 refine lV 1 rfl (by kernel_rfl) (by kernel_rfl) (by kernel_rfl) (lZ ⟨0,aB,id,token,aI,mac⟩ i HI.out wU T1 F HT1.out HF.out _) (fun v w' h=>aQ B0 h.below) ?_
 intro v0 W1 hW1
 obtain ⟨g,c,rfl,hg,hc,hb⟩:=hW1
 have B1:=aQ B0 hb
 clear B0 hb
 have HG:=Lh hg
 have HCC:=Lh hc
 clear hg hc
 refine stF 4 (enc1 g c) rfl B1 ?_
 refine stB 5 rfl (enc1_any ⟨0,aB,id,token,aI,mac⟩ HX.out F (by omega) A T HA.out HTT.out g c _ HG.out HCC.out) B1 fun W2 B2=>?_
 clear B1
 refine stF 6 (.string T) rfl B2 (stF 7 (.int .i64 0) rfl B2 ?_)
 refine aJ (by kernel_rfl) ?_
 go_wp2_with fail
 exact bC 2 3 (.string T) (.int .i64 0) (by kernel_rfl) (by kernel_rfl) (by kernel_rfl) (by kernel_rfl) ⟨rfl,by have q:=HBV.out.trans (B2.mono HBV.out.size);first | exact q | (rw [HB0.out];exact q)⟩
theorem Encode_1 (aB:Bool) (id:Int) (token aI:Nat) (mac:ByteArray) (hx:Jn.Ok ⟨1,aB,id,token,aI,mac⟩) (hm:Jn.May ⟨1,aB,id,token,aI,mac⟩) (w:World) (ht:Tbl w):
  Calls Tryz.prog 58 #[.agg (jnv ⟨1,aB,id,token,aI,mac⟩)] w (Rt w (dA ⟨1,aB,id,token,aI,mac⟩)):=by
 rw [lS _ hm]
 obtain ⟨T,hT⟩:=eqx (txt (Jn.body ⟨1,aB,id,token,aI,mac⟩))
 rw [←hT]
 have hmm:=hm
 obtain ⟨-,⟨i0,i1⟩,hms, -⟩:=hm
 have i0:0≤id:=i0
 have i1:id≤255:=i1
 have hms:mac.size=8:=hms
 obtain ⟨i,hi⟩:∃i:Nat,id=(i:Int):=⟨id.toNat,by omega⟩
 have wU:i≤255:=by omega
 obtain ⟨T1,hT1⟩:∃T,T=txt (be 1 (Jn.first aB)):=⟨_,rfl⟩
 obtain ⟨F,hF⟩:=eqx (T1++txt (be 1 i))
 have hFt:F=txt [UInt8.ofNat (Jn.first aB),UInt8.ofNat id.toNat]:=by rw [hF,hT1,show i=id.toNat by omega];exact rM ⟨1,aB,id,token,aI,mac⟩
 have hFs:F.size≤100:=by rw [hFt,aN];simp
 obtain ⟨A,hA⟩:=eqx (F++mac)
 have HA:=Lh (show A=F++mac from hA)
 have HTT:=Lh (show A++⟨(be 4 aI).toArray⟩=T by rw [hT,←body_1 ⟨1,aB,id,token,aI,mac⟩ rfl,hA,hFt];rfl)
 have HMS:=Lh hms
 have HM:=Lh (show Jn.May ⟨1,aB,id,token,aI,mac⟩ from hmm)
 have HX:=Lh hx
 have HI:=Lh (show Jn.id ⟨1,aB,id,token,aI,mac⟩=(i:Int) from hi)
 have HT1:=Lh (show T1=txt (be 1 (Jn.first (Jn.aB ⟨1,aB,id,token,aI,mac⟩))) from hT1)
 have HF:=Lh (show T1++⟨(be 1 i).toArray⟩=F from hF.symm)
 obtain ⟨w0,hw0⟩:=eqx (w.alloc (.cells (jnv ⟨1,aB,id,token,aI,mac⟩) 28))
 obtain ⟨b0,hb0⟩:=eqx w.heap.size
 have hc0:Blk w0 b0 28 (jnv ⟨1,aB,id,token,aI,mac⟩):=by rw [hw0,hb0];exact Blk.new _ _ _
 have HC0:=Lh hc0
 have HBW:=Lh (qA hw0)
 have HTB:=Lh (show Tbl w0 by rw [hw0];exact ht.alloc _)
 have HW0:=Lh hw0
 have HB0:=Lh hb0
 have HC1:=hc0
 rw [hw0,hb0] at HC1
 have pW:=Lh HC1
 clear hmm hT hms hi hT1 hF hFt hw0 hb0 hc0 ht hx i0 i1 HC1 hA
 go_enter Tryz.func58,Tryz.ntmps58
 go_wp2_with (refine wpList_load_row rfl 28 _ rfl w.heap.size rfl 28 (jnv ⟨1,aB,id,token,aI,mac⟩) (0,0) _ ?_ Tryz.underlying28 rfl bI ?_;exact pW.out)
 rw [←HW0.out,←HB0.out]
 refine (dX ⟨1,aB,id,token,aI,mac⟩ HX.out _ HTB.out).mono ?_
 rintro e V ⟨rfl,bv⟩
 rw [decide_eq_true HM.out]
 have HC:=Lh (HC0.out.below bv HC0.out.lt)
 have HBV:=Lh (HBW.out.trans (bv.mono HBW.out.size))
 clear bv HC0 HBW HTB HW0 pW
 go_upto_region 3 with fail
 refine dD (n:=8) rfl fun W0 B0=>?_
 refine stG 0 (.agg (jnv ⟨1,aB,id,token,aI,mac⟩)) rfl B0 (fun W b=>xRw 28 (.tmp 1) b0 (HC.out.below b HC.out.lt) Tryz.underlying28 bI) (stF 2 (.pointer (some ⟨b0,0,none⟩)) rfl B0 (stG 3 (.int .i64 1) rfl B0 (fun W b=>xLd 3 (.tmp 9) ⟨b0,0,none⟩ ((HC.out.below b HC.out.lt).cell 0)) ?_))
 refine lV 1 rfl (by kernel_rfl) (by kernel_rfl) (by kernel_rfl) (lZ ⟨1,aB,id,token,aI,mac⟩ i HI.out wU T1 F HT1.out HF.out _) (fun v w' h=>aQ B0 h.below) ?_
 intro v0 W1 hW1
 obtain ⟨g,c,rfl,hg,hc,hb⟩:=hW1
 have B1:=aQ B0 hb
 clear B0 hb
 have HG:=Lh hg
 have HCC:=Lh hc
 clear hg hc
 refine stF 4 (enc2 g c) rfl B1 ?_
 refine stB 5 rfl (enc2_any ⟨1,aB,id,token,aI,mac⟩ HX.out F (by omega) (by have:=HMS.out;show mac.size≤100;omega) A T HA.out HTT.out g c _ HG.out HCC.out) B1 fun W2 B2=>?_
 clear B1
 refine stF 6 (.string T) rfl B2 (stF 7 (.int .i64 0) rfl B2 ?_)
 refine aJ (by kernel_rfl) ?_
 go_wp2_with fail
 exact bC 2 3 (.string T) (.int .i64 0) (by kernel_rfl) (by kernel_rfl) (by kernel_rfl) (by kernel_rfl) ⟨rfl,by have q:=HBV.out.trans (B2.mono HBV.out.size);first | exact q | (rw [HB0.out];exact q)⟩
theorem Encode_2 (aB:Bool) (id:Int) (token aI:Nat) (mac:ByteArray) (hx:Jn.Ok ⟨2,aB,id,token,aI,mac⟩) (hm:Jn.May ⟨2,aB,id,token,aI,mac⟩) (w:World) (ht:Tbl w):
  Calls Tryz.prog 58 #[.agg (jnv ⟨2,aB,id,token,aI,mac⟩)] w (Rt w (dA ⟨2,aB,id,token,aI,mac⟩)):=by
 rw [lS _ hm]
 obtain ⟨T,hT⟩:=eqx (txt (Jn.body ⟨2,aB,id,token,aI,mac⟩))
 rw [←hT]
 have hmm:=hm
 obtain ⟨-,⟨i0,i1⟩,hms, -⟩:=hm
 have i0:0≤id:=i0
 have i1:id≤255:=i1
 have hms:mac.size=20:=hms
 obtain ⟨i,hi⟩:∃i:Nat,id=(i:Int):=⟨id.toNat,by omega⟩
 have wU:i≤255:=by omega
 obtain ⟨T1,hT1⟩:∃T,T=txt (be 1 (Jn.first aB)):=⟨_,rfl⟩
 obtain ⟨F,hF⟩:=eqx (T1++txt (be 1 i))
 have hFt:F=txt [UInt8.ofNat (Jn.first aB),UInt8.ofNat id.toNat]:=by rw [hF,hT1,show i=id.toNat by omega];exact rM ⟨2,aB,id,token,aI,mac⟩
 have hFs:F.size≤100:=by rw [hFt,aN];simp
 have HTT:=Lh (show T=F++mac by rw [hT,←body_2 ⟨2,aB,id,token,aI,mac⟩ rfl,hFt])
 have HMS:=Lh hms
 have HM:=Lh (show Jn.May ⟨2,aB,id,token,aI,mac⟩ from hmm)
 have HX:=Lh hx
 have HI:=Lh (show Jn.id ⟨2,aB,id,token,aI,mac⟩=(i:Int) from hi)
 have HT1:=Lh (show T1=txt (be 1 (Jn.first (Jn.aB ⟨2,aB,id,token,aI,mac⟩))) from hT1)
 have HF:=Lh (show T1++⟨(be 1 i).toArray⟩=F from hF.symm)
 obtain ⟨w0,hw0⟩:=eqx (w.alloc (.cells (jnv ⟨2,aB,id,token,aI,mac⟩) 28))
 obtain ⟨b0,hb0⟩:=eqx w.heap.size
 have hc0:Blk w0 b0 28 (jnv ⟨2,aB,id,token,aI,mac⟩):=by rw [hw0,hb0];exact Blk.new _ _ _
 have HC0:=Lh hc0
 have HBW:=Lh (qA hw0)
 have HTB:=Lh (show Tbl w0 by rw [hw0];exact ht.alloc _)
 have HW0:=Lh hw0
 have HB0:=Lh hb0
 have HC1:=hc0
 rw [hw0,hb0] at HC1
 have pW:=Lh HC1
 clear hmm hT hms hi hT1 hF hFt hw0 hb0 hc0 ht hx i0 i1 HC1
 go_enter Tryz.func58,Tryz.ntmps58
 go_wp2_with (refine wpList_load_row rfl 28 _ rfl w.heap.size rfl 28 (jnv ⟨2,aB,id,token,aI,mac⟩) (0,0) _ ?_ Tryz.underlying28 rfl bI ?_;exact pW.out)
 rw [←HW0.out,←HB0.out]
 refine (dX ⟨2,aB,id,token,aI,mac⟩ HX.out _ HTB.out).mono ?_
 rintro e V ⟨rfl,bv⟩
 rw [decide_eq_true HM.out]
 have HC:=Lh (HC0.out.below bv HC0.out.lt)
 have HBV:=Lh (HBW.out.trans (bv.mono HBW.out.size))
 clear bv HC0 HBW HTB HW0 pW
 go_upto_region 3 with fail
 refine dD (n:=8) rfl fun W0 B0=>?_
 refine stG 0 (.agg (jnv ⟨2,aB,id,token,aI,mac⟩)) rfl B0 (fun W b=>xRw 28 (.tmp 1) b0 (HC.out.below b HC.out.lt) Tryz.underlying28 bI) (stF 2 (.pointer (some ⟨b0,0,none⟩)) rfl B0 (stG 3 (.int .i64 2) rfl B0 (fun W b=>xLd 3 (.tmp 9) ⟨b0,0,none⟩ ((HC.out.below b HC.out.lt).cell 0)) ?_))
 refine lV 1 rfl (by kernel_rfl) (by kernel_rfl) (by kernel_rfl) (lZ ⟨2,aB,id,token,aI,mac⟩ i HI.out wU T1 F HT1.out HF.out _) (fun v w' h=>aQ B0 h.below) ?_
 intro v0 W1 hW1
 obtain ⟨g,c,rfl,hg,hc,hb⟩:=hW1
 have B1:=aQ B0 hb
 clear B0 hb
 have HG:=Lh hg
 have HCC:=Lh hc
 clear hg hc
 refine stF 4 (enc3 g c) rfl B1 ?_
 refine stB 5 rfl (enc3_any ⟨2,aB,id,token,aI,mac⟩ HX.out F (by omega) (by have:=HMS.out;show mac.size≤100;omega) T HTT.out g c _ HG.out HCC.out) B1 fun W2 B2=>?_
 clear B1
 refine stF 6 (.string T) rfl B2 (stF 7 (.int .i64 0) rfl B2 ?_)
 refine aJ (by kernel_rfl) ?_
 go_wp2_with fail
 exact bC 2 3 (.string T) (.int .i64 0) (by kernel_rfl) (by kernel_rfl) (by kernel_rfl) (by kernel_rfl) ⟨rfl,by have q:=HBV.out.trans (B2.mono HBV.out.size);first | exact q | (rw [HB0.out];exact q)⟩
theorem Encode_no (x:Jn) (hx:x.Ok) (hm:¬x.May) (w:World) (ht:Tbl w):
  Calls Tryz.prog 58 #[.agg (jnv x)] w (Rt w (dA x)):=by
 rw [o6 x hm]
 have HC:=Lh (Blk.new w 28 (jnv x))
 have HB:=Lh ((Below.refl _ w).alloc (Nat.le_refl _) (.cells (jnv x) 28))
 have HT:=Lh (ht.alloc (.cells (jnv x) 28))
 have HM:=Lh hm
 have HX:=Lh hx
 clear hm hx ht
 go_enter Tryz.func58,Tryz.ntmps58
 go_wp2_with (refine wpList_load_row rfl 28 _ rfl w.heap.size rfl 28 (jnv x) (0,0) _ ?_ Tryz.underlying28 rfl bI ?_;exact HC.out)
 refine (dX x HX.out _ HT.out).mono ?_
 rintro e V ⟨rfl,bv⟩
 rw [decide_eq_false HM.out]
 have HBV:=Lh (HB.out.trans (bv.mono HB.out.size))
 clear bv
 go_wp2_with fail
 exact bC 2 3 (.string ⟨#[]⟩) (.int .i64 2) rfl rfl rfl rfl ⟨rfl,HBV.out⟩
theorem dI (x:Jn) (hx:x.Ok) (w:World) (ht:Tbl w):
  Calls Tryz.prog 58 #[.agg (jnv x)] w (Rt w (dA x)):=by
 by_cases hm:x.May
 ·obtain ⟨form,aB,id,token,aI,mac⟩:=x
  have hf:=Jn.forms hm
  rcases hf with h | h | h
  ·have h:form=0:=h
   subst h
   exact Encode_0 aB id token aI mac hx hm w ht
  ·have h:form=1:=h
   subst h
   exact Encode_1 aB id token aI mac hx hm w ht
  ·have h:form=2:=h
   subst h
   exact Encode_2 aB id token aI mac hx hm w ht
 ·exact Encode_no x hx hm w ht
open Go.ChangeShapes Go.WideShapes Go.ChangeAt Go.RowKit
abbrev cnv (k:Nat) (x:Jn):Array Value:=#[.int .i64 (k:Int),.int .i64 x.form,.bool x.aB,.int .i64 x.id,.int .u32 (x.token:Int),.int .u32 (x.aI:Int),.string x.mac]
theorem jV:(Tryz.prog.info? 173).map (·.size)=some 7:=by kernel_rfl
theorem qJ:∀c:Fin 256,(bits .and .u8 ((c.val:Nat):Int) 1 !=0)=decide (c.val%2=1):=by decide+kernel
theorem oH (n:Nat) (h:n < 256):wrap64 (n:Int)=(n:Int):=by unfold wrap64;omega
structure Rd (w W:World) (r c:Nat) (s:ByteArray) (k:Nat):Prop where
 hr:Blk W r 173 (cnv 0 Jn.zero)
 cur:Cur W c s k false
 tb:Tbl W
 hb:Below w.heap.size w W
 rc:1 < r∧r < c
 wr:w.heap.size=r
theorem Rd.move {w W W':World} {r c:Nat} {s:ByteArray} {k k':Nat} (h:Rd w W r c s k) (m:aT W W' c s k' false):Rd w W' r c s k':=
 ⟨h.hr.grown m.1 (by have:=h.rc;simp;omega),m.2,h.tb.under (aA m.1 (Nat.le_refl c) (Nat.le_of_lt (Blk.lt h.cur))) (by have:=h.rc;omega),h.hb.trans (aA m.1 (by have:=h.rc;have:=h.wr;omega) h.hb.size),h.rc,h.wr⟩
theorem Rd.alloc {w W:World} {r c:Nat} {s:ByteArray} {k:Nat} (h:Rd w W r c s k) (o:Obj):Rd w (W.alloc o) r c s k:=
 ⟨h.hr.alloc o,Blk.alloc h.cur o,h.tb.alloc o,h.hb.alloc h.hb.size o,h.rc,h.wr⟩
theorem Rd.set {w W:World} {r c:Nat} {s:ByteArray} {k:Nat} (h:Rd w W r c s k) (x i:Nat) (v:Value) (hx:c < x):Rd w (W.setCell ⟨x,i,none⟩ v) r c s k:=by
 have g:∀j,j < x→(W.setCell ⟨x,i,none⟩ v).heap[j]?=W.heap[j]?:=fun j hj=>Below.heap_setCell W ⟨x,i,none⟩ v j (by show j≠x;omega)
 have hrc:=h.rc
 have hwr:=h.wr
 refine ⟨h.hr.same (g _ (by omega)),Blk.same h.cur (g _ hx),?_,h.hb.setCell (p:=⟨x,i,none⟩) (by show w.heap.size≤x;omega) v,h.rc,h.wr⟩
 exact h.tb.under (B:=c) ((Below.refl c W).setCell (p:=⟨x,i,none⟩) (by show c≤x;omega) v) (by omega)
theorem Rd.row {w W:World} {r c:Nat} {s:ByteArray} {k:Nat} (h:Rd w W r c s k) (x:Nat) (cs:Array Value) (hx:c < x):Rd w (W.setRow x cs) r c s k:=by
 have g:∀j,j≠x→(W.setRow x cs).heap[j]?=W.heap[j]?:=fun j hj=>setRow_other W x j cs hj
 have hrc:=h.rc
 have hwr:=h.wr
 exact ⟨h.hr.same (g _ (by omega)),Blk.same h.cur (g _ (by omega)),h.tb.under (B:=c) (below_setRow (Below.refl c W) (Nat.le_of_lt hx) cs) (by omega),below_setRow h.hb (by omega) cs,h.rc,h.wr⟩
theorem pJ (w W:World) (r:Nat) (cs:Array Value) (k:Nat) (x:Jn) {a:Act} (ht:a.tmps.getD 2 undef= .pointer (some ⟨r,0,none⟩)) (hd:a.defers=[]) (hc:cs=cnv k x) (hr:Blk W r 173 (cnv 0 Jn.zero)) (hb:Below w.heap.size w W) (hwr:w.heap.size=r):
  bodyPost Tryz.prog Tryz.f116 (fun e w'=>e= .returned (.agg (cnv k x))∧Below w.heap.size w w') .ret a (W.setRow r cs):=by
 subst hc
 exact bodyPost_ret (results_cell_row rfl _ _ r 173 (cnv k x) (0,0) _ ht (setRow_heap _ _ _ _ _ _ hr) Tryz.underlying173 rfl jV) hd ⟨rfl,below_setRow hb (by omega) _⟩
theorem read_10 (s:ByteArray) (hsz:s.size=10) (w:World) (ht:Tbl w):
  Calls Tryz.prog 116 #[.string s] w (Rt w (.agg (cnv 10 (y8 (byteAt s 0) (byteAt s 1) (gI s))))):=by
 have hs:s.size≤9223372036854775807:=by omega
 obtain ⟨r,hr⟩:=eqx w.heap.size
 obtain ⟨w0,hw0⟩:=eqx (w.alloc (.cells #[.int .i64 0,.int .i64 0,.bool false,.int .i64 0,.int .u32 0,.int .u32 0,.string ⟨#[]⟩] 173))
 have hz:Blk w0 r 173 (cnv 0 Jn.zero):=by rw [hw0,hr];exact Blk.new _ _ _
 have hb0:Below w.heap.size w w0:=by rw [hw0];exact (Below.refl _ w).alloc (Nat.le_refl _) _
 have ht0:Tbl w0:=by rw [hw0];exact ht.alloc _
 have HZ:=Lh hz
 have HB0:=Lh hb0
 have HT0:=Lh ht0
 have HR:=Lh hr
 have HW0:=Lh hw0
 have HS:=Lh hsz
 have HGL:Hid (1 < w.heap.size):=Lh ht.lt
 clear hz hb0 ht0 ht hr hw0 hsz
 go_enter Tryz.func116,Tryz.ntmps116
 go_wp2_with fail
 rw [←HW0.out,←HR.out]
 refine (gK s w0).mono ?_
 rintro e W1 ⟨c,rfl,hc,b,mV⟩
 have HD1:=Lh (show Rd w W1 r c s 0 from ⟨HZ.out.below b HZ.out.lt,mV,HT0.out.below b,HB0.out.trans (b.mono HB0.out.size),⟨by rw [HR.out];exact HGL.out,Nat.lt_of_lt_of_le HZ.out.lt hc⟩,HR.out.symm⟩)
 clear hc b mV HZ HT0 HB0 HW0
 go_wp2_with fail
 refine (xA c s 0 W1 hs (by have:=HS.out;omega) HD1.out.cur).mono ?_
 rintro e W2 ⟨rfl,m⟩
 have HD2:=Lh (HD1.out.move m)
 clear m HD1
 go_wp2_with fail
 refine (xA c s 1 W2 hs (by have:=HS.out;omega) HD2.out.cur).mono ?_
 rintro e W3 ⟨rfl,m⟩
 have HD3:=Lh (HD2.out.move m)
 clear m HD2
 rw [jI,jI]
 obtain ⟨F,hF⟩:=eqx (byteAt s 0)
 obtain ⟨G,hG⟩:=eqx (byteAt s 1)
 have hF8:=bJ s 0
 have hG8:=bJ s 1
 rw [←hF] at hF8 ⊢
 rw [←hG] at hG8 ⊢
 obtain ⟨B,hB⟩:=eqx (decide (F%2=1))
 have e1:(bits .and .u8 (F:Int) 1 !=0)=B:=by rw [hB];exact qJ ⟨F,hF8⟩
 have e2:=oH G hG8
 have HF:=Lh hF
 have HG:=Lh hG
 have HB:=Lh hB
 obtain ⟨X,hX⟩:=eqx W3.heap.size
 obtain ⟨W4,hW4⟩:=eqx (W3.alloc (.cells #[.int .i64 0,.bool B,.int .i64 (G:Int),.int .u32 0,.int .u32 0,.string ⟨#[]⟩] 28))
 have HX4:=Lh (show Blk W4 X 28 #[.int .i64 0,.bool B,.int .i64 (G:Int),.int .u32 0,.int .u32 0,.string ⟨#[]⟩] by rw [hW4,hX];exact Blk.new _ _ _)
 have HCX:=Lh (show c < X by rw [hX];exact Blk.lt HD3.out.cur)
 have HD4:=Lh (show Rd w W4 r c s 2 by rw [hW4];exact HD3.out.alloc _)
 have HXE:=Lh hX
 have HW4:=Lh hW4
 clear hF hG hB hF8 hG8 hX hW4 HD3
 go_upto_region 6 with fail
 rw [←HW4.out,←HXE.out]
 clear e1 e2 HW4 HXE
 have q0:=HD4.out.tb.c0
 have q2:=HD4.out.tb.c2
 have q4:=HD4.out.tb.c4
 have e10:((s.size:Int)==10)=true:=by have:=HS.out;rw [this];rfl
 obtain ⟨W5,hW5⟩:∃W,W=W4.setCell ⟨X,0,none⟩ (.int .i64 0):=⟨_,rfl⟩
 have HX5:=Lh (show Blk W5 X 28 #[.int .i64 0,.bool B,.int .i64 (G:Int),.int .u32 0,.int .u32 0,.string ⟨#[]⟩] by rw [hW5];exact HX4.out.fV 0 _)
 have HD5:=Lh (show Rd w W5 r c s 2 by rw [hW5];exact HD4.out.set X 0 _ HCX.out)
 have fz5:=HX4.out.frozen 0
 have xc5:=HX4.out.cell 0
 simp only [List.getElem?_toArray,List.getElem?_cons_zero] at xc5
 have HW5:=Lh hW5
 clear hW5
 go_wp2_with fail
 rw [←HW5.out]
 refine (yO c s 2 W5 hs (by have:=HS.out;omega) HD5.out.cur).mono ?_
 rintro e W6 ⟨rfl,m⟩
 have HD6:=Lh (HD5.out.move m)
 have HX6:=Lh (HX5.out.grown m.1 (by have:=HCX.out;simp;omega))
 clear m
 obtain ⟨n1,hn1⟩:∃n,n=num s 2 4:=⟨_,rfl⟩
 have l1:=uO s 2
 rw [←hn1] at l1 ⊢
 have HN1:=Lh hn1
 clear hn1
 obtain ⟨W7,hW7⟩:∃W,W=W6.setCell ⟨X,3,none⟩ (.int .u32 (n1:Int)):=⟨_,rfl⟩
 have HX7:=Lh (show Blk W7 X 28 #[.int .i64 0,.bool B,.int .i64 (G:Int),.int .u32 (n1:Int),.int .u32 0,.string ⟨#[]⟩] by rw [hW7];exact HX6.out.fV 3 _)
 have HD7:=Lh (show Rd w W7 r c s 6 by rw [hW7];exact HD6.out.set X 3 _ HCX.out)
 have fz7:=HX6.out.frozen 3
 have xc7:=HX6.out.cell 3
 simp only [List.getElem?_toArray,List.getElem?_cons_zero,List.getElem?_cons_succ] at xc7
 have HW7:=Lh hW7
 clear hW7
 go_wp2_with fail
 rw [←HW7.out]
 refine (yO c s 6 W7 hs (by have:=HS.out;omega) HD7.out.cur).mono ?_
 rintro e W8 ⟨rfl,m⟩
 have HD8:=Lh (HD7.out.move m)
 have HX8:=Lh (HX7.out.grown m.1 (by have:=HCX.out;simp;omega))
 clear m
 obtain ⟨n2,hn2⟩:∃n,n=num s 6 4:=⟨_,rfl⟩
 have l2:=uO s 6
 rw [←hn2] at l2 ⊢
 have HN2:=Lh hn2
 clear hn2
 obtain ⟨W9,hW9⟩:∃W,W=W8.setCell ⟨X,4,none⟩ (.int .u32 (n2:Int)):=⟨_,rfl⟩
 have HX9:=Lh (show Blk W9 X 28 #[.int .i64 0,.bool B,.int .i64 (G:Int),.int .u32 (n1:Int),.int .u32 (n2:Int),.string ⟨#[]⟩] by rw [hW9];exact HX8.out.fV 4 _)
 have HD9:=Lh (show Rd w W9 r c s 10 by rw [hW9];exact HD8.out.set X 4 _ HCX.out)
 have fz9:=HX8.out.frozen 4
 have xc9:=HX8.out.cell 4
 simp only [List.getElem?_toArray,List.getElem?_cons_zero,List.getElem?_cons_succ] at xc9
 have HW9:=Lh hW9
 clear hW9
 have ez:(s.size:Int)=10:=by have:=HS.out;omega
 go_wp2_with (first
  | (refine wpList_load_row rfl 28 _ rfl X rfl 28 #[.int .i64 0,.bool B,.int .i64 (G:Int),.int .u32 (n1:Int),.int .u32 (n2:Int),.string ⟨#[]⟩] (0,0) _ ?_ Tryz.underlying28 rfl bI ?_;rw [←HW9.out];exact HX9.out)
  | (refine wpList_store_row rfl 173 _ _ rfl r #[.int .i64 10,.int .i64 0,.bool B,.int .i64 (G:Int),.int .u32 (n1:Int),.int .u32 (n2:Int),.string ⟨#[]⟩] rfl rfl 173 (cnv 0 Jn.zero) ?_ jV rfl (by simp [Value.oneCell']) ?_;rw [←HW9.out];exact HD9.out.hr)
  )
 rw [←HW9.out]
 exact pJ w W9 r _ 10 _ rfl rfl (by show _=cnv 10 (y8 (byteAt s 0) (byteAt s 1) (gI s));simp only [cnv,y8,num_after,HN1.out,HN2.out,HF.out,HG.out,HB.out];rfl) HD9.out.hr HD9.out.hb HD9.out.wr
theorem read_14 (s:ByteArray) (hsz:s.size=14) (w:World) (ht:Tbl w):
  Calls Tryz.prog 116 #[.string s] w (Rt w (.agg (cnv 14 (zB (byteAt s 0) (byteAt s 1) (gI s))))):=by
 have hs:s.size≤9223372036854775807:=by omega
 obtain ⟨r,hr⟩:=eqx w.heap.size
 obtain ⟨w0,hw0⟩:=eqx (w.alloc (.cells #[.int .i64 0,.int .i64 0,.bool false,.int .i64 0,.int .u32 0,.int .u32 0,.string ⟨#[]⟩] 173))
 have hz:Blk w0 r 173 (cnv 0 Jn.zero):=by rw [hw0,hr];exact Blk.new _ _ _
 have hb0:Below w.heap.size w w0:=by rw [hw0];exact (Below.refl _ w).alloc (Nat.le_refl _) _
 have ht0:Tbl w0:=by rw [hw0];exact ht.alloc _
 have HZ:=Lh hz
 have HB0:=Lh hb0
 have HT0:=Lh ht0
 have HR:=Lh hr
 have HW0:=Lh hw0
 have HS:=Lh hsz
 have HGL:Hid (1 < w.heap.size):=Lh ht.lt
 clear hz hb0 ht0 ht hr hw0 hsz
 go_enter Tryz.func116,Tryz.ntmps116
 go_wp2_with fail
 rw [←HW0.out,←HR.out]
 refine (gK s w0).mono ?_
 rintro e W1 ⟨c,rfl,hc,b,mV⟩
 have HD1:=Lh (show Rd w W1 r c s 0 from ⟨HZ.out.below b HZ.out.lt,mV,HT0.out.below b,HB0.out.trans (b.mono HB0.out.size),⟨by rw [HR.out];exact HGL.out,Nat.lt_of_lt_of_le HZ.out.lt hc⟩,HR.out.symm⟩)
 clear hc b mV HZ HT0 HB0 HW0
 go_wp2_with fail
 refine (xA c s 0 W1 hs (by have:=HS.out;omega) HD1.out.cur).mono ?_
 rintro e W2 ⟨rfl,m⟩
 have HD2:=Lh (HD1.out.move m)
 clear m HD1
 go_wp2_with fail
 refine (xA c s 1 W2 hs (by have:=HS.out;omega) HD2.out.cur).mono ?_
 rintro e W3 ⟨rfl,m⟩
 have HD3:=Lh (HD2.out.move m)
 clear m HD2
 rw [jI,jI]
 obtain ⟨F,hF⟩:=eqx (byteAt s 0)
 obtain ⟨G,hG⟩:=eqx (byteAt s 1)
 have hF8:=bJ s 0
 have hG8:=bJ s 1
 rw [←hF] at hF8 ⊢
 rw [←hG] at hG8 ⊢
 obtain ⟨B,hB⟩:=eqx (decide (F%2=1))
 have e1:(bits .and .u8 (F:Int) 1 !=0)=B:=by rw [hB];exact qJ ⟨F,hF8⟩
 have e2:=oH G hG8
 have HF:=Lh hF
 have HG:=Lh hG
 have HB:=Lh hB
 obtain ⟨X,hX⟩:=eqx W3.heap.size
 obtain ⟨W4,hW4⟩:=eqx (W3.alloc (.cells #[.int .i64 0,.bool B,.int .i64 (G:Int),.int .u32 0,.int .u32 0,.string ⟨#[]⟩] 28))
 have HX4:=Lh (show Blk W4 X 28 #[.int .i64 0,.bool B,.int .i64 (G:Int),.int .u32 0,.int .u32 0,.string ⟨#[]⟩] by rw [hW4,hX];exact Blk.new _ _ _)
 have HCX:=Lh (show c < X by rw [hX];exact Blk.lt HD3.out.cur)
 have HD4:=Lh (show Rd w W4 r c s 2 by rw [hW4];exact HD3.out.alloc _)
 have HXE:=Lh hX
 have HW4:=Lh hW4
 clear hF hG hB hF8 hG8 hX hW4 HD3
 go_upto_region 6 with fail
 rw [←HW4.out,←HXE.out]
 clear e1 e2 HW4 HXE
 have q0:=HD4.out.tb.c0
 have q2:=HD4.out.tb.c2
 have q4:=HD4.out.tb.c4
 have e10:((s.size:Int)==10)=false:=by have:=HS.out;rw [this];rfl
 have e14:((s.size:Int)==14)=true:=by have:=HS.out;rw [this];rfl
 obtain ⟨W5,hW5⟩:∃W,W=W4.setCell ⟨X,0,none⟩ (.int .i64 1):=⟨_,rfl⟩
 have HX5:=Lh (show Blk W5 X 28 #[.int .i64 1,.bool B,.int .i64 (G:Int),.int .u32 0,.int .u32 0,.string ⟨#[]⟩] by rw [hW5];exact HX4.out.fV 0 _)
 have HD5:=Lh (show Rd w W5 r c s 2 by rw [hW5];exact HD4.out.set X 0 _ HCX.out)
 have fz5:=HX4.out.frozen 0
 have xc5:=HX4.out.cell 0
 simp only [List.getElem?_toArray,List.getElem?_cons_zero] at xc5
 have HW5:=Lh hW5
 clear hW5
 have q3:=HD5.out.tb.c3
 rw [HW5.out] at q3
 go_wp2_with fail
 rw [←HW5.out]
 refine (Take_t c s 2 8 W5 hs (by have:=HS.out;omega) HD5.out.cur).mono ?_
 rintro e W6 ⟨rfl,m⟩
 have HD6:=Lh (HD5.out.move m)
 have HX6:=Lh (HX5.out.grown m.1 (by have:=HCX.out;simp;omega))
 clear m
 obtain ⟨M,hM⟩:=eqx (s.extract 2 (2+8))
 rw [←hM]
 have HM:=Lh hM
 clear hM
 obtain ⟨W7,hW7⟩:∃W,W=W6.setCell ⟨X,5,none⟩ (.string M):=⟨_,rfl⟩
 have HX7:=Lh (show Blk W7 X 28 #[.int .i64 1,.bool B,.int .i64 (G:Int),.int .u32 0,.int .u32 0,.string M] by rw [hW7];exact HX6.out.fV 5 _)
 have HD7:=Lh (show Rd w W7 r c s 10 by rw [hW7];exact HD6.out.set X 5 _ HCX.out)
 have fz7:=HX6.out.frozen 5
 have xc7:=HX6.out.cell 5
 simp only [List.getElem?_toArray,List.getElem?_cons_zero,List.getElem?_cons_succ] at xc7
 have HW7:=Lh hW7
 clear hW7
 go_wp2_with fail
 rw [←HW7.out]
 refine (yO c s 10 W7 hs (by have:=HS.out;omega) HD7.out.cur).mono ?_
 rintro e W8 ⟨rfl,m⟩
 have HD8:=Lh (HD7.out.move m)
 have HX8:=Lh (HX7.out.grown m.1 (by have:=HCX.out;simp;omega))
 clear m
 obtain ⟨n2,hn2⟩:∃n,n=num s 10 4:=⟨_,rfl⟩
 have l2:=uO s 10
 rw [←hn2] at l2 ⊢
 have HN2:=Lh hn2
 clear hn2
 obtain ⟨W9,hW9⟩:∃W,W=W8.setCell ⟨X,4,none⟩ (.int .u32 (n2:Int)):=⟨_,rfl⟩
 have HX9:=Lh (show Blk W9 X 28 #[.int .i64 1,.bool B,.int .i64 (G:Int),.int .u32 0,.int .u32 (n2:Int),.string M] by rw [hW9];exact HX8.out.fV 4 _)
 have HD9:=Lh (show Rd w W9 r c s 14 by rw [hW9];exact HD8.out.set X 4 _ HCX.out)
 have fz9:=HX8.out.frozen 4
 have xc9:=HX8.out.cell 4
 simp only [List.getElem?_toArray,List.getElem?_cons_zero,List.getElem?_cons_succ] at xc9
 have HW9:=Lh hW9
 clear hW9
 have ez:(s.size:Int)=14:=by have:=HS.out;omega
 go_wp2_with (first
  | (refine wpList_load_row rfl 28 _ rfl X rfl 28 #[.int .i64 1,.bool B,.int .i64 (G:Int),.int .u32 0,.int .u32 (n2:Int),.string M] (0,0) _ ?_ Tryz.underlying28 rfl bI ?_;rw [←HW9.out];exact HX9.out)
  | (refine wpList_store_row rfl 173 _ _ rfl r #[.int .i64 14,.int .i64 1,.bool B,.int .i64 (G:Int),.int .u32 0,.int .u32 (n2:Int),.string M] rfl rfl 173 (cnv 0 Jn.zero) ?_ jV rfl (by simp [Value.oneCell']) ?_;rw [←HW9.out];exact HD9.out.hr)
  )
 rw [←HW9.out]
 exact pJ w W9 r _ 14 _ rfl rfl (by show _=cnv 14 (zB (byteAt s 0) (byteAt s 1) (gI s));simp only [cnv,zB,num_after,←cut_after,HM.out,HN2.out,HF.out,HG.out,HB.out];rfl) HD9.out.hr HD9.out.hb HD9.out.wr
theorem read_22 (s:ByteArray) (hsz:s.size=22) (w:World) (ht:Tbl w):
  Calls Tryz.prog 116 #[.string s] w (Rt w (.agg (cnv 22 (zJ (gI s))))):=by
 have hs:s.size≤9223372036854775807:=by omega
 obtain ⟨r,hr⟩:=eqx w.heap.size
 obtain ⟨w0,hw0⟩:=eqx (w.alloc (.cells #[.int .i64 0,.int .i64 0,.bool false,.int .i64 0,.int .u32 0,.int .u32 0,.string ⟨#[]⟩] 173))
 have hz:Blk w0 r 173 (cnv 0 Jn.zero):=by rw [hw0,hr];exact Blk.new _ _ _
 have hb0:Below w.heap.size w w0:=by rw [hw0];exact (Below.refl _ w).alloc (Nat.le_refl _) _
 have ht0:Tbl w0:=by rw [hw0];exact ht.alloc _
 have HZ:=Lh hz
 have HB0:=Lh hb0
 have HT0:=Lh ht0
 have HR:=Lh hr
 have HW0:=Lh hw0
 have HS:=Lh hsz
 have HGL:Hid (1 < w.heap.size):=Lh ht.lt
 clear hz hb0 ht0 ht hr hw0 hsz
 go_enter Tryz.func116,Tryz.ntmps116
 go_wp2_with fail
 rw [←HW0.out,←HR.out]
 refine (gK s w0).mono ?_
 rintro e W1 ⟨c,rfl,hc,b,mV⟩
 have HD1:=Lh (show Rd w W1 r c s 0 from ⟨HZ.out.below b HZ.out.lt,mV,HT0.out.below b,HB0.out.trans (b.mono HB0.out.size),⟨by rw [HR.out];exact HGL.out,Nat.lt_of_lt_of_le HZ.out.lt hc⟩,HR.out.symm⟩)
 clear hc b mV HZ HT0 HB0 HW0
 go_wp2_with fail
 refine (xA c s 0 W1 hs (by have:=HS.out;omega) HD1.out.cur).mono ?_
 rintro e W2 ⟨rfl,m⟩
 have HD2:=Lh (HD1.out.move m)
 clear m HD1
 go_wp2_with fail
 refine (xA c s 1 W2 hs (by have:=HS.out;omega) HD2.out.cur).mono ?_
 rintro e W3 ⟨rfl,m⟩
 have HD3:=Lh (HD2.out.move m)
 clear m HD2
 rw [jI,jI]
 obtain ⟨F,hF⟩:=eqx (byteAt s 0)
 obtain ⟨G,hG⟩:=eqx (byteAt s 1)
 have hF8:=bJ s 0
 have hG8:=bJ s 1
 rw [←hF] at hF8 ⊢
 rw [←hG] at hG8 ⊢
 obtain ⟨B,hB⟩:=eqx (decide (F%2=1))
 have e1:(bits .and .u8 (F:Int) 1 !=0)=B:=by rw [hB];exact qJ ⟨F,hF8⟩
 have e2:=oH G hG8
 have HF:=Lh hF
 have HG:=Lh hG
 have HB:=Lh hB
 obtain ⟨X,hX⟩:=eqx W3.heap.size
 obtain ⟨W4,hW4⟩:=eqx (W3.alloc (.cells #[.int .i64 0,.bool B,.int .i64 (G:Int),.int .u32 0,.int .u32 0,.string ⟨#[]⟩] 28))
 have HX4:=Lh (show Blk W4 X 28 #[.int .i64 0,.bool B,.int .i64 (G:Int),.int .u32 0,.int .u32 0,.string ⟨#[]⟩] by rw [hW4,hX];exact Blk.new _ _ _)
 have HCX:=Lh (show c < X by rw [hX];exact Blk.lt HD3.out.cur)
 have HD4:=Lh (show Rd w W4 r c s 2 by rw [hW4];exact HD3.out.alloc _)
 have HXE:=Lh hX
 have HW4:=Lh hW4
 clear hF hG hB hF8 hG8 hX hW4 HD3
 go_upto_region 6 with fail
 rw [←HW4.out,←HXE.out]
 clear e1 e2 HW4 HXE
 have q0:=HD4.out.tb.c0
 have q2:=HD4.out.tb.c2
 have q4:=HD4.out.tb.c4
 have e10:((s.size:Int)==10)=false:=by have:=HS.out;rw [this];rfl
 have e14:((s.size:Int)==14)=false:=by have:=HS.out;rw [this];rfl
 have e22:((s.size:Int)==22)=true:=by have:=HS.out;rw [this];rfl
 have q5:=HD4.out.tb.c5
 go_wp2_with fail
 refine (Take_t c s 2 20 W4 hs (by have:=HS.out;omega) HD4.out.cur).mono ?_
 rintro e W5 ⟨rfl,m⟩
 have HD5:=Lh (HD4.out.move m)
 have HX5:=Lh (HX4.out.grown m.1 (by have:=HCX.out;simp;omega))
 clear m
 obtain ⟨M,hM⟩:=eqx (s.extract 2 (2+20))
 rw [←hM]
 have HM:=Lh hM
 clear hM
 obtain ⟨W6,hW6⟩:∃W,W=W5.setRow X #[.int .i64 2,.bool false,.int .i64 0,.int .u32 0,.int .u32 0,.string M]:=⟨_,rfl⟩
 have HX6:=Lh (show Blk W6 X 28 #[.int .i64 2,.bool false,.int .i64 0,.int .u32 0,.int .u32 0,.string M] by rw [hW6];exact setRow_heap _ _ _ _ _ _ HX5.out)
 have HD6:=Lh (show Rd w W6 r c s 22 by rw [hW6];exact HD5.out.row X _ HCX.out)
 have HW6:=Lh hW6
 clear hW6
 have ez:(s.size:Int)=22:=by have:=HS.out;omega
 go_wp2_with (first
  | (refine wpList_store_row rfl 28 _ _ rfl X #[.int .i64 2,.bool false,.int .i64 0,.int .u32 0,.int .u32 0,.string M] rfl rfl 28 #[.int .i64 0,.bool B,.int .i64 (G:Int),.int .u32 0,.int .u32 0,.string ⟨#[]⟩] ?_ bI rfl (by simp [Value.oneCell']) ?_;exact HX5.out)
  | (refine wpList_load_row rfl 28 _ rfl X rfl 28 #[.int .i64 2,.bool false,.int .i64 0,.int .u32 0,.int .u32 0,.string M] (0,0) _ ?_ Tryz.underlying28 rfl bI ?_;rw [←HW6.out];exact HX6.out)
  | (refine wpList_store_row rfl 173 _ _ rfl r #[.int .i64 22,.int .i64 2,.bool false,.int .i64 0,.int .u32 0,.int .u32 0,.string M] rfl rfl 173 (cnv 0 Jn.zero) ?_ jV rfl (by simp [Value.oneCell']) ?_;rw [←HW6.out];exact HD6.out.hr)
  )
 rw [←HW6.out]
 exact pJ w W6 r _ 22 _ rfl rfl (by show _=cnv 22 (zJ (gI s));simp only [cnv,zJ,HM.out,cut_after,List.take_of_length_le (show (gI s).length≤20 by have:=HS.out;simp [gI];omega)];rfl) HD6.out.hr HD6.out.hb HD6.out.wr
theorem read_no (s:ByteArray) (hs:s.size≤9223372036854775807) (hno:s.size≠10∧s.size≠14∧s.size≠22) (w:World) (ht:Tbl w):
  Calls Tryz.prog 116 #[.string s] w (Rt w (.agg (cnv 0 Jn.zero))):=by
 obtain ⟨r,hr⟩:=eqx w.heap.size
 obtain ⟨w0,hw0⟩:=eqx (w.alloc (.cells #[.int .i64 0,.int .i64 0,.bool false,.int .i64 0,.int .u32 0,.int .u32 0,.string ⟨#[]⟩] 173))
 have hz:Blk w0 r 173 (cnv 0 Jn.zero):=by rw [hw0,hr];exact Blk.new _ _ _
 have hb0:Below w.heap.size w w0:=by rw [hw0];exact (Below.refl _ w).alloc (Nat.le_refl _) _
 have ht0:Tbl w0:=by rw [hw0];exact ht.alloc _
 have HZ:=Lh hz
 have HB0:=Lh hb0
 have HT0:=Lh ht0
 have HR:=Lh hr
 have HW0:=Lh hw0
 have HGL:Hid (1 < w.heap.size):=Lh ht.lt
 have HS:=Lh hno
 clear hz hb0 ht0 ht hr hw0 hno
 go_enter Tryz.func116,Tryz.ntmps116
 go_wp2_with fail
 rw [←HW0.out,←HR.out]
 refine (gK s w0).mono ?_
 rintro e W1 ⟨c,rfl,hc,b,mV⟩
 have hrc:1 < r∧r < c:=⟨by rw [HR.out];exact HGL.out,Nat.lt_of_lt_of_le HZ.out.lt hc⟩
 have HRC:=Lh hrc
 have HZ1:=Lh (HZ.out.below b HZ.out.lt)
 have HC1:=Lh mV
 have HT1:=Lh (HT0.out.below b)
 have HB1:=Lh (HB0.out.trans (b.mono HB0.out.size))
 clear hc b mV HZ HT0 HB0 HW0 hrc
 go_wp2_with fail
 refine (mJ c s 0 false W1 hs (by omega) HC1.out).mono ?_
 rintro e W2 ⟨rfl,m⟩
 have HZ2:=Lh (HZ1.out.grown m.1 (by have:=HRC.out;simp;omega))
 have HC2:=Lh m.2
 have HT2:=Lh (HT1.out.under (aA m.1 (Nat.le_refl c) (Nat.le_of_lt (Blk.lt HC1.out))) (by have:=HRC.out;omega))
 have HB2:=Lh (HB1.out.trans (aA m.1 (by have:=HRC.out;have:=HR.out;omega) HB1.out.size))
 have hp:=jL s 0 false ((1:Nat):Int) (Nat.zero_le _)
 obtain ⟨F,hF⟩:=eqx (numO s 0 false 1)
 have hF8:=nU s 0 false
 rw [←hF] at hF8 ⊢
 obtain ⟨k1,hk1⟩:∃k,k=dK s 0 false ((1:Nat):Int):=⟨_,rfl⟩
 obtain ⟨b1,hb1⟩:∃b,b=brO s 0 false ((1:Nat):Int):=⟨_,rfl⟩
 rw [←hk1] at hp
 rw [←hk1,←hb1] at HC2
 have HP:=Lh hp
 clear m HZ1 HC1 HT1 HB1 hF hk1 hb1 hp
 go_wp2_with fail
 refine (mJ c s k1 b1 W2 hs HP.out HC2.out).mono ?_
 rintro e W3 ⟨rfl,m⟩
 have HZ3:=Lh (HZ2.out.grown m.1 (by have:=HRC.out;simp;omega))
 have HT3:=Lh (HT2.out.under (aA m.1 (Nat.le_refl c) (Nat.le_of_lt (Blk.lt HC2.out))) (by have:=HRC.out;omega))
 have HB3:=Lh (HB2.out.trans (aA m.1 (by have:=HRC.out;have:=HR.out;omega) HB2.out.size))
 obtain ⟨G,hG⟩:=eqx (numO s k1 b1 1)
 have hG8:=nU s k1 b1
 rw [←hG] at hG8 ⊢
 obtain ⟨B,hB⟩:=eqx (decide (F%2=1))
 have e1:(bits .and .u8 (F:Int) 1 !=0)=B:=by rw [hB];exact qJ ⟨F,by omega⟩
 have e2:=oH G (by omega)
 obtain ⟨W4,hW4⟩:=eqx (W3.alloc (.cells #[.int .i64 0,.bool B,.int .i64 (G:Int),.int .u32 0,.int .u32 0,.string ⟨#[]⟩] 28))
 have HZ4:=Lh (show Blk W4 r 173 (cnv 0 Jn.zero) by rw [hW4];exact HZ3.out.alloc _)
 have HT4:=Lh (show Tbl W4 by rw [hW4];exact HT3.out.alloc _)
 have HB4:=Lh (show Below w.heap.size w W4 by rw [hW4];exact HB3.out.alloc HB3.out.size _)
 have HW4:=Lh hW4
 clear m hG hG8 hF8 hB hW4 HZ2 HZ3 HT2 HT3 HB2 HB3 HC2 HP
 go_upto_region 6 with fail
 rw [←HW4.out]
 clear e1 e2 HW4
 have q0:=HT4.out.c0
 have q2:=HT4.out.c2
 have q4:=HT4.out.c4
 have e10:((s.size:Int)==10)=false:=by have:=HS.out;rw [beq_eq_false_iff_ne];omega
 have e14:((s.size:Int)==14)=false:=by have:=HS.out;rw [beq_eq_false_iff_ne];omega
 have e22:((s.size:Int)==22)=false:=by have:=HS.out;rw [beq_eq_false_iff_ne];omega
 go_wp2_with (refine wpList_store_row rfl 173 _ _ rfl r #[.int .i64 0,.int .i64 0,.bool false,.int .i64 0,.int .u32 0,.int .u32 0,.string ⟨#[]⟩] rfl rfl 173 (cnv 0 Jn.zero) ?_ jV rfl (by simp [Value.oneCell']) ?_;exact HZ4.out)
 exact pJ w W4 r _ 0 _ rfl rfl rfl HZ4.out HB4.out HR.out.symm
def iY (s:ByteArray):Value:=.tuple #[.agg (jnv (jR s).1),.int .i64 (jR s).2]
theorem wJ (s:ByteArray) (x:Jn) (e:Int) (h:jR s=(x,e)):iY s= .tuple #[.agg (jnv x),.int .i64 e]:=by unfold iY;rw [h]
theorem read_at (s:ByteArray) (hs:s.size≤9223372036854775807) (w:World) (ht:Tbl w):
  Calls Tryz.prog 116 #[.string s] w fun e w'=>(∃k x,oK s=some x∧k≠0∧e= .returned (.agg (cnv k x))∨oK s=none∧k=0∧x=Jn.zero∧e= .returned (.agg (cnv k x)))∧Below w.heap.size w w':=by
 by_cases h0:s.size=10
 ·exact (read_10 s h0 w ht).mono fun e w' h=>⟨⟨10,_,.inl ⟨by unfold oK;rw [h0];rfl,by decide,h.1⟩⟩,h.2⟩
 by_cases h1:s.size=14
 ·exact (read_14 s h1 w ht).mono fun e w' h=>⟨⟨14,_,.inl ⟨by unfold oK;rw [h1];rfl,by decide,h.1⟩⟩,h.2⟩
 by_cases h2:s.size=22
 ·exact (read_22 s h2 w ht).mono fun e w' h=>⟨⟨22,_,.inl ⟨by unfold oK;rw [h2];rfl,by decide,h.1⟩⟩,h.2⟩
 ·exact (read_no s hs ⟨h0,h1,h2⟩ w ht).mono fun e w' h=>⟨⟨0,_,.inr ⟨by unfold oK;exact fP _ _ _ _ h0 h1 h2,rfl,rfl,h.1⟩⟩,h.2⟩
theorem aC {P:Program} {fn:Func} {p t:Tmp} {ty:TypeId} (h:fn.results=#[.cell p ty,.tmp t]) (tmps:Array Value) (w:World) (g:Nat) (t':TypeId) (cs:Array Value) (fr:Nat×Nat) (d:TypeDesc)
  (hp:tmps.getD p undef= .pointer (some ⟨g,0,none⟩)) (hg:w.heap[g]?=some (.cells cs t' fr))
  (hu:P.underlying ty=some d) (hd:(match d with | .struct _ | .array _ _=>true | _=>false)=true) (hi:(P.info? ty).map (·.size)=some cs.size):
  (results fn tmps).run P w= .ok (.tuple #[.agg cs,tmps.getD t undef]) w:=by
 have hp':tmps[p]?.getD undef= .pointer (some ⟨g,0,none⟩):=by simpa using hp
 simp [results,h,hp',asAddr,run_loadVar_row w g t' ty cs fr d hg hu hd hi]
theorem jP (s:ByteArray) (w W:World) (r:Nat) (x:Jn) (z:Int) {a:Act} (ht:a.tmps.getD 2 undef= .pointer (some ⟨r,0,none⟩)) (hz:a.tmps.getD 3 undef= .int .i64 z) (hd:a.defers=[]) (cs:Array Value) (hc:cs=jnv x) (old:Array Value) (hr:Blk W r 28 old) (hb:Below w.heap.size w W) (hwr:w.heap.size≤r) (hq:jR s=(x,z)):
  bodyPost Tryz.prog Tryz.f60 (fun e w'=>e= .returned (iY s)∧Below w.heap.size w w') .ret a (W.setRow r cs):=by
 subst hc
 have h:=aC (fn:=Tryz.f60) rfl a.tmps (W.setRow r (jnv x)) r 28 (jnv x) (0,0) _ ht (setRow_heap _ _ _ _ _ _ hr) Tryz.underlying28 rfl bI
 rw [hz] at h
 exact bodyPost_ret h hd ⟨by rw [wJ s x z hq],below_setRow hb hwr _⟩
theorem eY (s:ByteArray) (hs:s.size≤9223372036854775807) (w:World) (ht:Tbl w):
  Calls Tryz.prog 60 #[.string s] w (Rt w (iY s)):=by
 obtain ⟨r,hr⟩:=eqx w.heap.size
 obtain ⟨w0,hw0⟩:=eqx (w.alloc (.cells #[.int .i64 0,.bool false,.int .i64 0,.int .u32 0,.int .u32 0,.string ⟨#[]⟩] 28))
 have HZ:=Lh (show Blk w0 r 28 (jnv Jn.zero) by rw [hw0,hr];exact Blk.new _ _ _)
 have HB0:=Lh (qA hw0)
 have HT0:=Lh (show Tbl w0 by rw [hw0];exact ht.alloc _)
 have HR:=Lh hr
 have HW0:=Lh hw0
 clear hr hw0 ht
 go_enter Tryz.func60,Tryz.ntmps60
 go_upto_region 1 with fail
 rw [←HW0.out,←HR.out]
 by_cases h0:s.size=0
 ·have e0:((s.size:Int)==0)=true:=by rw [h0];rfl
  have HD:=Lh (decJ_short s h0)
  clear h0
  go_wp2_with (refine wpList_store_row rfl 28 _ _ rfl r (jnv Jn.zero) rfl rfl 28 (jnv Jn.zero) ?_ bI rfl (qL _) ?_;exact HZ.out)
  exact jP s w w0 r Jn.zero 4 rfl rfl rfl _ rfl _ HZ.out HB0.out (Nat.le_of_eq HR.out.symm) HD.out
 ·have e0:((s.size:Int)==0)=false:=by rw [beq_eq_false_iff_ne];omega
  have hlt:0 < s.size:=by omega
  have l0:(0:Int) < (s.size:Int):=by omega
  have hg:=fO s 0 hlt
  have HN:=Lh h0
  clear h0
  by_cases hk:byteAt s 0 / 16=1
  ·have e1:((s[0].toNat:Int) / 16%256 !=1)=false:=by rw [bne_eq_false_iff_eq];omega
   have HK:=Lh hk
   clear hk hg
   go_wp2_with fail
   refine (read_at s hs w0 HT0.out).mono ?_
   rintro e W1 ⟨⟨k,x,hkx⟩,b⟩
   have HZ1:=Lh (HZ.out.below b HZ.out.lt)
   have HB1:=Lh (HB0.out.trans (b.mono HB0.out.size))
   obtain ⟨g,hg⟩:=eqx W1.heap.size
   rcases hkx with ⟨hgo,hk0,rfl⟩ | ⟨hgo,rfl,rfl,rfl⟩
   ·obtain ⟨W2,hW2⟩:=eqx (W1.alloc (.cells (cnv k x) 173))
    have hc2:Blk W2 g 173 (cnv k x):=by rw [hW2,hg];exact Blk.new _ _ _
    have HZ2:=Lh (show Blk W2 r 28 (jnv Jn.zero) by rw [hW2];exact HZ1.out.alloc _)
    have HB2:=Lh (show Below w.heap.size w W2 by rw [hW2];exact HB1.out.alloc HB1.out.size _)
    have hra:W2.rangeAt g 1 (jnv x).toList:=fun j u hu=>by rw [hc2.cell (1+j),Nat.add_comm 1 j,←Array.getElem?_toList];exact hu
    have HC2:=Lh hc2
    have HRA:=Lh hra
    have HD:=Lh (decJ_some s x HN.out HK.out hgo)
    have e3:((k:Int)==0)=false:=by rw [beq_eq_false_iff_ne];omega
    have HC2':=hc2
    rw [hW2,hg] at HC2'
    have HCC:=Lh HC2'
    have HW2:=Lh hW2
    have HG:=Lh hg
    clear b hgo hk0 HC2' hc2 hra hW2 hg
    go_upto_region 6 with fail
    rw [←HW2.out,←HG.out]
    go_wp2_with (first
     | (refine wpList_load_row rfl 173 _ rfl g rfl 173 (cnv k x) (0,0) _ ?_ Tryz.underlying173 rfl jV ?_;exact HC2.out)
     | (refine wpList_load_mid rfl 28 _ rfl g 1 ?_ (jnv x).toList _ HRA.out Tryz.underlying28 rfl bI ?_;rfl)
     | (refine wpList_store_row rfl 28 _ _ rfl r (jnv x) rfl rfl 28 (jnv Jn.zero) ?_ bI rfl (qL _) ?_;exact HZ2.out))
    exact jP s w W2 r x 0 rfl rfl rfl _ rfl _ HZ2.out HB2.out (Nat.le_of_eq HR.out.symm) HD.out
   ·have HD:=Lh (decJ_form s HN.out HK.out hgo)
    obtain ⟨W2,hW2⟩:=eqx (W1.alloc (.cells #[.int .i64 0,.int .i64 Jn.zero.form,.bool Jn.zero.aB,.int .i64 Jn.zero.id,.int .u32 (Jn.zero.token:Int),.int .u32 (Jn.zero.aI:Int),.string Jn.zero.mac] 173))
    have HC2:=Lh (show Blk W2 g 173 (cnv 0 Jn.zero) by rw [hW2,hg];exact Blk.new _ _ _)
    have HZ2:=Lh (show Blk W2 r 28 (jnv Jn.zero) by rw [hW2];exact HZ1.out.alloc _)
    have HB2:=Lh (show Below w.heap.size w W2 by rw [hW2];exact HB1.out.alloc HB1.out.size _)
    have HW2:=Lh hW2
    have HG:=Lh hg
    clear b hgo hW2 hg
    go_upto_region 6 with fail
    rw [←HW2.out,←HG.out]
    go_wp2_with (first
     | (refine wpList_load_row rfl 173 _ rfl g rfl 173 #[.int .i64 0,.int .i64 0,.bool false,.int .i64 0,.int .u32 0,.int .u32 0,.string ⟨#[]⟩] (0,0) _ ?_ Tryz.underlying173 rfl jV ?_;exact HC2.out)
     | (refine wpList_store_row rfl 28 _ _ rfl r (jnv Jn.zero) rfl rfl 28 (jnv Jn.zero) ?_ bI rfl (qL _) ?_;exact HZ2.out))
    exact jP s w W2 r Jn.zero 5 rfl rfl rfl _ rfl _ HZ2.out HB2.out (Nat.le_of_eq HR.out.symm) HD.out
  ·have e1:((s[0].toNat:Int) / 16%256 !=1)=true:=by have:=bJ s 0;rw [bne_iff_ne];omega
   have HD:=Lh (decJ_kind s HN.out hk)
   clear hk hg
   go_wp2_with (refine wpList_store_row rfl 28 _ _ rfl r (jnv Jn.zero) rfl rfl 28 (jnv Jn.zero) ?_ bI rfl (qL _) ?_;exact HZ.out)
   exact jP s w w0 r Jn.zero 7 rfl rfl rfl _ rfl _ HZ.out HB0.out (Nat.le_of_eq HR.out.symm) HD.out
end Go.Proofs.YtnlhhjhidkjlbaaGreatDoor.L10
