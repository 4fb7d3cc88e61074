/- PkJoin. -/
import Derived.Test.YtklakghlliihkaaGreatDoorPkBase
import Derived.Laws.Tables
import Derived.Laws.Rows
import Derived.Laws.CopyOwn
import Derived.Deep.MidRow
set_option maxHeartbeats 4000000
set_option maxRecDepth 100000
set_option linter.unusedVariables false
set_option linter.unusedSimpArgs false
namespace Go.Proofs.YtklakghlliihkaaGreatDoor.L10
structure Jn where
 form:Int
 aA:Bool
 id:Int
 token:Nat
 aC:Nat
 mac:ByteArray
namespace Jn
theorem oN {x y:Jn} (h0:x.form=y.form) (h1:x.aA=y.aA) (h2:x.id=y.id) (h3:x.token=y.token) (h4:x.aC=y.aC) (h5:x.mac=y.mac):x=y:=by
 cases x;cases y;simp_all
structure Ok (x:Jn):Prop where
 form: -9223372036854775808≤x.form∧x.form≤9223372036854775807
 id: -9223372036854775808≤x.id∧x.id≤9223372036854775807
 token:x.token≤4294967295
 aC:x.aC≤4294967295
 mac:x.mac.size≤9223372036854775000
def dF (f:Int):Nat:=if f=1 then 8 else if f=2 then 20 else 0
def fQ (f:Int):Nat:=if f=0 then 10 else if f=1 then 14 else if f=2 then 22 else 0
abbrev May (x:Jn):Prop:=(0≤x.form∧x.form < 3)∧(0≤x.id∧x.id≤255)∧x.mac.size=dF x.form∧(x.form=1→x.token=0)∧(x.form=2→x.aA=false∧x.id=0∧x.token=0∧x.aC=0)
def first (b:Bool):Nat:=if b then 17 else 16
theorem lC (b:Bool):first b≤255:=by cases b<;>decide
def rest (x:Jn):List UInt8:=if x.form=0 then be 4 x.token++be 4 x.aC else if x.form=1 then x.mac.data.toList++be 4 x.aC else x.mac.data.toList
def body (x:Jn):List UInt8:=UInt8.ofNat (first x.aA)::UInt8.ofNat x.id.toNat::x.rest
def zero:Jn:=⟨0,false,0,0,0,⟨#[]⟩⟩
theorem dD:zero.Ok:=⟨by decide,by decide,by decide,by decide,by decide⟩
def enc (x:Jn):ByteArray×Int:=if x.May then (txt x.body,0) else (⟨#[]⟩,2)
theorem kP (x:Jn) (h:x.May):x.enc=(txt x.body,0):=if_pos h
theorem kN (x:Jn) (h:¬x.May):x.enc=(⟨#[]⟩,2):=if_neg h
theorem forms {x:Jn} (h:x.May):x.form=0∨x.form=1∨x.form=2:=by have:=h.1;omega
theorem gB (x:Jn) (h:x.May):x.rest.length+2=fQ x.form:=by
 have hm:=h.2.2.1
 have hl:x.mac.data.toList.length=x.mac.size:=iI _
 rcases forms h with e | e | e<;>rw [e] at hm ⊢<;>simp only [rest,e,fQ,dF] at hm ⊢<;>simp [aI]<;>simp at hm hl<;>omega
theorem dG (x:Jn) (h:x.May):x.body.length=fQ x.form:=by rw [←gB x h];rfl
theorem size_cases (f:Int) (h:f=0∨f=1∨f=2):(f=0∧fQ f=10)∨(f=1∧fQ f=14)∨(f=2∧fQ f=22):=by
 rcases h with rfl | rfl | rfl
 ·exact .inl ⟨rfl,rfl⟩
 ·exact .inr (.inl ⟨rfl,rfl⟩)
 ·exact .inr (.inr ⟨rfl,rfl⟩)
end Jn
def got0 (c d:Nat) (r:List UInt8):Jn:=⟨0,decide (c%2=1),(d:Int),num (txt r) 0 4,num (txt r) 4 4,⟨#[]⟩⟩
def got1 (c d:Nat) (r:List UInt8):Jn:=⟨1,decide (c%2=1),(d:Int),0,num (txt r) 8 4,txt (r.take 8)⟩
def got2 (r:List UInt8):Jn:=⟨2,false,0,0,0,txt r⟩
def got (n c d:Nat) (r:List UInt8):Option Jn:=if n=10 then some (got0 c d r) else if n=14 then some (got1 c d r) else if n=22 then some (got2 r) else none
abbrev qL (s:ByteArray):List UInt8:=s.data.toList.drop 2
def gotOf (s:ByteArray):Option Jn:=got s.size (byteAt s 0) (byteAt s 1) (qL s)
def decJ (s:ByteArray):Jn×Int:=if s.size=0 then (.zero,4) else if byteAt s 0 / 16≠1 then (.zero,7) else match gotOf s with
 | none=>(.zero,5)
 | some x=>(x,0)
open Go.ChangeShapes Go.WideShapes Go.ChangeAt Go.RowKit
abbrev jnv (x:Jn):Array Value:=#[.int .i64 x.form,.bool x.aA,.int .i64 x.id,.int .u32 (x.token:Int),.int .u32 (x.aC:Int),.string x.mac]
theorem bY:(Tryz.prog.info? 29).map (·.size)=some 6:=by kernel_rfl
theorem jn_one (x:Jn):(jnv x).all (·.oneCell')=true:=by simp [Value.oneCell']
structure Tbl (w:World):Prop where
 lt:1 < w.heap.size
 c0:w.cell? ⟨1,0,none⟩=some (.int .i64 10)
 c1:w.cell? ⟨1,1,none⟩=some (.int .i64 0)
 c2:w.cell? ⟨1,2,none⟩=some (.int .i64 14)
 c3:w.cell? ⟨1,3,none⟩=some (.int .i64 8)
 c4:w.cell? ⟨1,4,none⟩=some (.int .i64 22)
 c5:w.cell? ⟨1,5,none⟩=some (.int .i64 20)
theorem Tbl.under {w w':World} {B:Nat} (h:Tbl w) (b:Below B w w') (hB:1 < B):Tbl w':=by
 have e:w'.heap[1]?=w.heap[1]?:=b.block _ hB
 have k:∀i,w'.cell? ⟨1,i,none⟩=w.cell? ⟨1,i,none⟩:=fun i=>World.cell?_of_block (a:=⟨1,i,none⟩) e
 exact ⟨Nat.lt_of_lt_of_le h.lt b.size,(k 0).trans h.c0,(k 1).trans h.c1,(k 2).trans h.c2,(k 3).trans h.c3,(k 4).trans h.c4,(k 5).trans h.c5⟩
theorem Tbl.below {w w':World} (h:Tbl w) (b:Below w.heap.size w w'):Tbl w':=h.under b h.lt
theorem Tbl.alloc {w:World} (h:Tbl w) (o:Obj):Tbl (w.alloc o):=h.below ((Below.refl _ w).alloc (Nat.le_refl _) o)
theorem Tbl.drewN {w:World} (h:Tbl w) (n:Nat):Tbl (w.drewN n):=h.below (below_drewN (Below.refl _ w) n)
theorem Tbl.drew {w:World} (h:Tbl w):Tbl w.drew:=h.below (Below.refl _ w).drew
def jeq (x y:Jn):Bool:=x.form==y.form && (x.aA==y.aA && (x.id==y.id && ((x.token:Int)==(y.token:Int) && ((x.aC:Int)==(y.aC:Int) && (x.mac.toList==y.mac.toList)))))
theorem jeq_iff (x y:Jn):jeq x y=true↔x=y:=by
 unfold jeq
 simp only [Bool.and_eq_true,beq_iff_eq]
 constructor
 ·rintro ⟨h0,h1,h2,h3,h4,h5⟩
  refine Jn.oN h0 h1 h2 (by omega) (by omega) ?_
  rw [ByteArray.toList_eq,ByteArray.toList_eq] at h5
  exact ByteArray.ext (Array.toList_inj.1 h5)
 ·rintro rfl
  exact ⟨rfl,rfl,rfl,rfl,rfl,rfl⟩
theorem jn_equal (x y:Jn) (w:World):(Op.equalIn 10000 29 (.agg (jnv x)) (.agg (jnv y))).run Tryz.prog w= .ok (jeq x y) w:=by
 rw [show (10000:Nat)=9999+1 from rfl,run_equalIn_agg (P:=Tryz.prog) w 9999 29 _ _ (by kernel_rfl) (by kernel_rfl)]
 rw [show (9999:Nat)=9998+1 from rfl]
 simp only [Program.fieldsOf,Tryz.underlying29,Op.eqFields]
 simp [go_sem]
 by_cases h0:x.form=y.form<;>by_cases h1:x.aA=y.aA<;>by_cases h2:x.id=y.id<;>by_cases h3:(x.token:Int)=(y.token:Int)<;>by_cases h4:(x.aC:Int)=(y.aC:Int)<;>by_cases h5:x.mac.toList=y.mac.toList<;>simp [jeq,h0,h1,h2,h3,h4,h5]
theorem kD (f:Int) (w:World):
  Calls Tryz.prog 185 #[.int .i64 f] w fun e w'=>e= .returned (.bool (decide (0≤f∧f < 3)))∧∃n,w'=w.drewN n:=by
 by_cases h0:0≤f
 ·by_cases h3:f < 3
  ·rw [decide_eq_true ⟨h0,h3⟩]
   go_enter Tryz.func185,Tryz.ntmps185
   go_wp2
   go_ret;exact ⟨rfl,0,rfl⟩
  ·rw [decide_eq_false (fun h=>h3 h.2)]
   go_enter Tryz.func185,Tryz.ntmps185
   go_wp2
   go_ret;exact ⟨rfl,0,rfl⟩
 ·rw [decide_eq_false (fun h=>h0 h.1)]
  go_enter Tryz.func185,Tryz.ntmps185
  go_wp2
  go_ret;exact ⟨rfl,0,rfl⟩
theorem fC (x:Jn) (w:World):
  Calls Tryz.prog 187 #[.agg (jnv x)] w (Rt w (.int .u8 (Jn.first x.aA:Int))):=by
 obtain ⟨form,aA,id,token,aC,mac⟩:=x
 cases aA
 all_goals
  go_enter Tryz.func187,Tryz.ntmps187
  go_wp2
  go_ret;exact ⟨rfl,(Below.refl _ _).alloc (Nat.le_refl _) _⟩
def frn (x:Jn):Jn:=if x.form=1 then ⟨0,false,0,x.token,0,⟨#[]⟩⟩ else if x.form=2 then ⟨0,x.aA,x.id,x.token,x.aC,⟨#[]⟩⟩ else .zero
theorem nU (x:Jn) (w:World) (cs0 cs:Array Value) {a:Act} (ht:a.tmps.getD 2 undef= .pointer (some ⟨w.heap.size+1,0,none⟩)) (hc:cs=jnv (frn x)) (hd:a.defers=[]) (hb:∀o1 o2:Obj,Below w.heap.size w ((w.alloc o1).alloc o2)):
  bodyPost Tryz.prog Tryz.f186 (fun e w'=>e= .returned (.agg (jnv (frn x)))∧Below w.heap.size w w') .ret a ((w.alloc (.cells cs0 29)).alloc (.cells cs 29)):=by
 subst hc
 have hB:Blk ((w.alloc (.cells cs0 29)).alloc (.cells (jnv (frn x)) 29)) (w.heap.size+1) 29 (jnv (frn x)):=by
  have:=Blk.new (w.alloc (.cells cs0 29)) 29 (jnv (frn x))
  simpa using this
 exact bodyPost_ret (results_cell_row rfl _ _ (w.heap.size+1) 29 (jnv (frn x)) (0,0) _ ht hB Tryz.underlying29 rfl bY) hd ⟨rfl,hb _ _⟩
theorem iH (x:Jn) (w:World):
  Calls Tryz.prog 186 #[.agg (jnv x)] w (Rt w (.agg (jnv (frn x)))):=by
 have hb:∀o1 o2:Obj,Below w.heap.size w ((w.alloc o1).alloc o2):=fun o1 o2=>((Below.refl _ w).alloc (Nat.le_refl _) _).alloc (by simp) _
 have HB:=Lh hb
 clear hb
 obtain ⟨form,aA,id,token,aC,mac⟩:=x
 by_cases h1:form=1
 ·subst h1
  go_enter Tryz.func186,Tryz.ntmps186
  go_wp2_with fail
  exact nU _ w _ _ rfl (by rw [frn,if_pos rfl];rfl) rfl HB.out
 ·by_cases h2:form=2
  ·subst h2
   go_enter Tryz.func186,Tryz.ntmps186
   go_wp2_with fail
   exact nU _ w _ _ rfl (by rw [frn,if_neg (by show¬((2:Int)=1);decide),if_pos rfl]) rfl HB.out
  ·have e1:(form==1)=false:=by rw [beq_eq_false_iff_ne];exact h1
   have e2:(form==2)=false:=by rw [beq_eq_false_iff_ne];exact h2
   go_enter Tryz.func186,Tryz.ntmps186
   go_wp2_with fail
   exact nU _ w _ _ rfl (by rw [frn,if_neg h1,if_neg h2];rfl) rfl HB.out
theorem dR (x y:Jn) (B:Bool) (h:jeq x y=B) (w:World):(Op.equalIn 10000 29 (.agg (jnv x)) (.agg (jnv y))).run Tryz.prog w= .ok B w:=by subst h;exact jn_equal x y w
theorem gK (f:Int) (B:Bool) (h:decide (0≤f∧f < 3)=B) (w:World):
  Calls Tryz.prog 185 #[.int .i64 f] w (Rt w (.bool B)):=by
 subst h
 exact (kD f w).mono fun e w' ⟨h1,n,h2⟩=>⟨h1,by rw [h2];exact below_drewN (Below.refl _ _) n⟩
theorem frn_zero (x:Jn) (h:x.form=0∨x.form=1∨x.form=2):frn x=Jn.zero↔((x.form=1→x.token=0)∧(x.form=2→x.aA=false∧x.id=0∧x.token=0∧x.aC=0)):=by
 obtain ⟨form,aA,id,token,aC,mac⟩:=x
 rcases h with h | h | h
 all_goals (have h:form=_:=h;subst h;simp [frn,Jn.zero])
open Go.ChangeShapes Go.WideShapes Go.ChangeAt Go.RowKit
def bF (x:Jn):Bool:=decide (0≤x.form∧x.form < 3) && (decide ((0:Int)≤x.id) && (decide (x.id≤(255:Int)) && (decide ((x.mac.size:Int)=((Jn.dF x.form:Nat):Int)) && jeq (frn x) Jn.zero)))
theorem iF (x:Jn):bF x=decide x.May:=by
 unfold bF
 rw [Bool.eq_iff_iff]
 simp only [Bool.and_eq_true,decide_eq_true_eq]
 rw [jeq_iff]
 constructor
 ·rintro ⟨a,b,c,d,e⟩;exact ⟨a,⟨b,c⟩,by omega,(frn_zero x (by omega)).1 e⟩
 ·rintro ⟨a,⟨b,c⟩,d,e⟩;exact ⟨a,b,c,by omega,(frn_zero x (by omega)).2 e⟩
theorem valid_ (form:Int) (aA:Bool) (id:Int) (token aC:Nat) (mac:ByteArray) (w:World) (ht:Tbl w):
  Calls Tryz.prog 130 #[.agg (jnv ⟨form,aA,id,token,aC,mac⟩)] w (Rt w (.bool (bF ⟨form,aA,id,token,aC,mac⟩))):=by
 obtain ⟨V,hV⟩:=eqx (w.alloc (.cells (jnv ⟨form,aA,id,token,aC,mac⟩) 29))
 obtain ⟨b0,hb0⟩:=eqx w.heap.size
 obtain ⟨M,hM⟩:∃M,bF ⟨form,aA,id,token,aC,mac⟩=M:=⟨_,rfl⟩
 have HM:=Lh hM
 rw [hM]
 have HX:=Lh (show Blk V b0 29 (jnv ⟨form,aA,id,token,aC,mac⟩) by rw [hV,hb0];exact Blk.new _ _ _)
 have HT:=Lh (show Tbl V by rw [hV];exact ht.alloc _)
 have HBV:Below w.heap.size w V:=by rw [hV];exact (Below.refl _ w).alloc (Nat.le_refl _) _
 have HE:=Lh (fun (W:World) (b:Below V.heap.size V W)=>HBV.trans (b.mono HBV.size))
 have HV:=Lh hV
 have HB:=Lh hb0
 clear hV hb0 HBV hM ht
 go_enter Tryz.func130,Tryz.ntmps130
 go_upto_region 1 with fail
 rw [←HV.out,←HB.out]
 clear HV
 refine bI (n:=31) rfl fun W0 B0=>?_
 refine stF 0 (.pointer (some ⟨b0,0,none⟩)) rfl B0 (stG 1 (.int .i64 form) rfl B0 (fun W b=>xLd 3 (.tmp 3) ⟨b0,0,none⟩ ((HX.out.below b HX.out.lt).cell 0)) ?_)
 rcases Bool.eq_false_or_eq_true (decide (0≤form∧form < 3)) with k1 | k1
 ·refine stB 2 rfl (gK form true k1 _) B0 fun W1 B1=>?_
  clear B0
  refine stF 3 (.bool true) rfl B1 (stF 4 (.pointer (some ⟨b0,2,none⟩)) rfl B1 (stG 5 (.int .i64 id) rfl B1 (fun W b=>xLd 3 (.tmp 7) ⟨b0,2,none⟩ ((HX.out.below b HX.out.lt).cell 2)) ?_))
  rcases Bool.eq_false_or_eq_true (decide ((0:Int)≤(id:Int))) with k2 | k2
  ·refine stG 6 (.bool true) rfl B1 (fun W _=>xLb .i64 3 3 (.const (.int .i64 0)) (.tmp 8) (0) (id) true (k2)) (stF 7 (.bool true) rfl B1 (stF 8 (.bool true) rfl B1 (stF 9 (.pointer (some ⟨b0,2,none⟩)) rfl B1 (stG 10 (.int .i64 id) rfl B1 (fun W b=>xLd 3 (.tmp 12) ⟨b0,2,none⟩ ((HX.out.below b HX.out.lt).cell 2)) ?_))))
   rcases Bool.eq_false_or_eq_true (decide ((id:Int)≤(255:Int))) with k3 | k3
   ·refine stG 11 (.bool true) rfl B1 (fun W _=>xLb .i64 3 3 (.tmp 13) (.const (.int .i64 255)) (id) (255) true (k3)) (stF 12 (.bool true) rfl B1 (stF 13 (.bool true) rfl B1 (stF 14 (.pointer (some ⟨b0,5,none⟩)) rfl B1 (stG 15 (.string mac) rfl B1 (fun W b=>xLd 9 (.tmp 17) ⟨b0,5,none⟩ ((HX.out.below b HX.out.lt).cell 5)) (stF 16 (.int .i64 (mac.size:Int)) rfl B1 (stF 17 (.pointer (some ⟨b0,0,none⟩)) rfl B1 ?_))))))
    rcases (show form=0∨form=1∨form=2 by have:=of_decide_eq_true k1;omega) with rfl | rfl | rfl
    ·refine stG 18 (.int .i64 0) rfl B1 (fun W b=>xLd 3 (.tmp 20) ⟨b0,0,none⟩ ((HX.out.below b HX.out.lt).cell 0)) (stF 19 (.pointer (some ⟨1,0,none⟩)) rfl B1 (stG 20 (.pointer (some ⟨1,1,none⟩)) rfl B1 (fun _ _=>jS (v:=.pointer (some ⟨1,0,none⟩)) 240 (.tmp 22) 1 (by kernel_rfl) (by kernel_rfl) (by kernel_rfl)) (stG 21 (.int .i64 0) rfl B1 (fun W b=>xLd 3 (.tmp 23) ⟨1,1,none⟩ ((HT.out.below b).c1)) ?_)))
     rcases Bool.eq_false_or_eq_true (decide ((mac.size:Int)=(0:Int))) with k4 | k4
     ·refine stG 22 (.bool true) rfl B1 (fun W _=>xEb .i64 3 3 (.tmp 19) (.tmp 24) ((mac.size:Int)) (0) true (k4)) (stF 23 (.bool true) rfl B1 (stF 24 (.bool true) rfl B1 (stG 25 (.agg (jnv ⟨0,aA,id,token,aC,mac⟩)) rfl B1 (fun W b=>xRw 29 (.tmp 1) b0 (HX.out.below b HX.out.lt) Tryz.underlying29 bY) (stF 27 (.agg (jnv Jn.zero)) rfl B1 ?_))))
      refine stB 26 rfl (iH ⟨0,aA,id,token,aC,mac⟩ _) B1 fun W5 B5=>?_
      clear B1
      rcases Bool.eq_false_or_eq_true (jeq (frn ⟨0,aA,id,token,aC,mac⟩) Jn.zero) with k6 | k6
      ·refine stG 28 (.bool true) rfl B5 (fun W _=>xAb 29 29 (.tmp 29) (.tmp 30) ((jnv (frn ⟨0,aA,id,token,aC,mac⟩))) ((jnv Jn.zero)) true (dR _ _ true k6 W)) (stF 29 (.bool true) rfl B5 (stF 30 (.bool true) rfl B5 ?_))
       refine aG (by kernel_rfl) ?_
       go_wp2_with fail
       exact aK 2 (.bool true) (by kernel_rfl) (by kernel_rfl) (by kernel_rfl) ⟨by rw [←HM.out];simp only [bF,show ((Jn.dF 0:Nat):Int)=0 from rfl,k1,k2,k3,k4,k6,Bool.true_and],HE.out _ B5⟩
      ·refine stG 28 (.bool false) rfl B5 (fun W _=>xAb 29 29 (.tmp 29) (.tmp 30) ((jnv (frn ⟨0,aA,id,token,aC,mac⟩))) ((jnv Jn.zero)) false (dR _ _ false k6 W)) (stF 29 (.bool false) rfl B5 (stF 30 (.bool false) rfl B5 ?_))
       refine aG (by kernel_rfl) ?_
       go_wp2_with fail
       exact aK 2 (.bool false) (by kernel_rfl) (by kernel_rfl) (by kernel_rfl) ⟨by rw [←HM.out];simp only [bF,show ((Jn.dF 0:Nat):Int)=0 from rfl,k1,k2,k3,k4,k6,Bool.true_and],HE.out _ B5⟩
     ·refine stG 22 (.bool false) rfl B1 (fun W _=>xEb .i64 3 3 (.tmp 19) (.tmp 24) ((mac.size:Int)) (0) false (k4)) (stF 23 (.bool false) rfl B1 (stF 24 (.bool false) rfl B1 (stP 25 rfl B1 (stP 26 rfl B1 (stP 27 rfl B1 (stP 28 rfl B1 (stF 29 (.bool false) rfl B1 (stF 30 (.bool false) rfl B1 ?_))))))))
      refine aG (by kernel_rfl) ?_
      go_wp2_with fail
      exact aK 2 (.bool false) (by kernel_rfl) (by kernel_rfl) (by kernel_rfl) ⟨by rw [←HM.out];simp only [bF,show ((Jn.dF 0:Nat):Int)=0 from rfl,k1,k2,k3,k4,Bool.true_and,Bool.false_and],HE.out _ B1⟩
    ·refine stG 18 (.int .i64 1) rfl B1 (fun W b=>xLd 3 (.tmp 20) ⟨b0,0,none⟩ ((HX.out.below b HX.out.lt).cell 0)) (stF 19 (.pointer (some ⟨1,2,none⟩)) rfl B1 (stG 20 (.pointer (some ⟨1,3,none⟩)) rfl B1 (fun _ _=>jS (v:=.pointer (some ⟨1,2,none⟩)) 240 (.tmp 22) 1 (by kernel_rfl) (by kernel_rfl) (by kernel_rfl)) (stG 21 (.int .i64 8) rfl B1 (fun W b=>xLd 3 (.tmp 23) ⟨1,3,none⟩ ((HT.out.below b).c3)) ?_)))
     rcases Bool.eq_false_or_eq_true (decide ((mac.size:Int)=(8:Int))) with k7 | k7
     ·refine stG 22 (.bool true) rfl B1 (fun W _=>xEb .i64 3 3 (.tmp 19) (.tmp 24) ((mac.size:Int)) (8) true (k7)) (stF 23 (.bool true) rfl B1 (stF 24 (.bool true) rfl B1 (stG 25 (.agg (jnv ⟨1,aA,id,token,aC,mac⟩)) rfl B1 (fun W b=>xRw 29 (.tmp 1) b0 (HX.out.below b HX.out.lt) Tryz.underlying29 bY) (stF 27 (.agg (jnv Jn.zero)) rfl B1 ?_))))
      refine stB 26 rfl (iH ⟨1,aA,id,token,aC,mac⟩ _) B1 fun W8 B8=>?_
      clear B1
      rcases Bool.eq_false_or_eq_true (jeq (frn ⟨1,aA,id,token,aC,mac⟩) Jn.zero) with k9 | k9
      ·refine stG 28 (.bool true) rfl B8 (fun W _=>xAb 29 29 (.tmp 29) (.tmp 30) ((jnv (frn ⟨1,aA,id,token,aC,mac⟩))) ((jnv Jn.zero)) true (dR _ _ true k9 W)) (stF 29 (.bool true) rfl B8 (stF 30 (.bool true) rfl B8 ?_))
       refine aG (by kernel_rfl) ?_
       go_wp2_with fail
       exact aK 2 (.bool true) (by kernel_rfl) (by kernel_rfl) (by kernel_rfl) ⟨by rw [←HM.out];simp only [bF,show ((Jn.dF 1:Nat):Int)=8 from rfl,k1,k2,k3,k7,k9,Bool.true_and],HE.out _ B8⟩
      ·refine stG 28 (.bool false) rfl B8 (fun W _=>xAb 29 29 (.tmp 29) (.tmp 30) ((jnv (frn ⟨1,aA,id,token,aC,mac⟩))) ((jnv Jn.zero)) false (dR _ _ false k9 W)) (stF 29 (.bool false) rfl B8 (stF 30 (.bool false) rfl B8 ?_))
       refine aG (by kernel_rfl) ?_
       go_wp2_with fail
       exact aK 2 (.bool false) (by kernel_rfl) (by kernel_rfl) (by kernel_rfl) ⟨by rw [←HM.out];simp only [bF,show ((Jn.dF 1:Nat):Int)=8 from rfl,k1,k2,k3,k7,k9,Bool.true_and],HE.out _ B8⟩
     ·refine stG 22 (.bool false) rfl B1 (fun W _=>xEb .i64 3 3 (.tmp 19) (.tmp 24) ((mac.size:Int)) (8) false (k7)) (stF 23 (.bool false) rfl B1 (stF 24 (.bool false) rfl B1 (stP 25 rfl B1 (stP 26 rfl B1 (stP 27 rfl B1 (stP 28 rfl B1 (stF 29 (.bool false) rfl B1 (stF 30 (.bool false) rfl B1 ?_))))))))
      refine aG (by kernel_rfl) ?_
      go_wp2_with fail
      exact aK 2 (.bool false) (by kernel_rfl) (by kernel_rfl) (by kernel_rfl) ⟨by rw [←HM.out];simp only [bF,show ((Jn.dF 1:Nat):Int)=8 from rfl,k1,k2,k3,k7,Bool.true_and,Bool.false_and],HE.out _ B1⟩
    ·refine stG 18 (.int .i64 2) rfl B1 (fun W b=>xLd 3 (.tmp 20) ⟨b0,0,none⟩ ((HX.out.below b HX.out.lt).cell 0)) (stF 19 (.pointer (some ⟨1,4,none⟩)) rfl B1 (stG 20 (.pointer (some ⟨1,5,none⟩)) rfl B1 (fun _ _=>jS (v:=.pointer (some ⟨1,4,none⟩)) 240 (.tmp 22) 1 (by kernel_rfl) (by kernel_rfl) (by kernel_rfl)) (stG 21 (.int .i64 20) rfl B1 (fun W b=>xLd 3 (.tmp 23) ⟨1,5,none⟩ ((HT.out.below b).c5)) ?_)))
     rcases Bool.eq_false_or_eq_true (decide ((mac.size:Int)=(20:Int))) with k10 | k10
     ·refine stG 22 (.bool true) rfl B1 (fun W _=>xEb .i64 3 3 (.tmp 19) (.tmp 24) ((mac.size:Int)) (20) true (k10)) (stF 23 (.bool true) rfl B1 (stF 24 (.bool true) rfl B1 (stG 25 (.agg (jnv ⟨2,aA,id,token,aC,mac⟩)) rfl B1 (fun W b=>xRw 29 (.tmp 1) b0 (HX.out.below b HX.out.lt) Tryz.underlying29 bY) (stF 27 (.agg (jnv Jn.zero)) rfl B1 ?_))))
      refine stB 26 rfl (iH ⟨2,aA,id,token,aC,mac⟩ _) B1 fun W11 B11=>?_
      clear B1
      rcases Bool.eq_false_or_eq_true (jeq (frn ⟨2,aA,id,token,aC,mac⟩) Jn.zero) with k12 | k12
      ·refine stG 28 (.bool true) rfl B11 (fun W _=>xAb 29 29 (.tmp 29) (.tmp 30) ((jnv (frn ⟨2,aA,id,token,aC,mac⟩))) ((jnv Jn.zero)) true (dR _ _ true k12 W)) (stF 29 (.bool true) rfl B11 (stF 30 (.bool true) rfl B11 ?_))
       refine aG (by kernel_rfl) ?_
       go_wp2_with fail
       exact aK 2 (.bool true) (by kernel_rfl) (by kernel_rfl) (by kernel_rfl) ⟨by rw [←HM.out];simp only [bF,show ((Jn.dF 2:Nat):Int)=20 from rfl,k1,k2,k3,k10,k12,Bool.true_and],HE.out _ B11⟩
      ·refine stG 28 (.bool false) rfl B11 (fun W _=>xAb 29 29 (.tmp 29) (.tmp 30) ((jnv (frn ⟨2,aA,id,token,aC,mac⟩))) ((jnv Jn.zero)) false (dR _ _ false k12 W)) (stF 29 (.bool false) rfl B11 (stF 30 (.bool false) rfl B11 ?_))
       refine aG (by kernel_rfl) ?_
       go_wp2_with fail
       exact aK 2 (.bool false) (by kernel_rfl) (by kernel_rfl) (by kernel_rfl) ⟨by rw [←HM.out];simp only [bF,show ((Jn.dF 2:Nat):Int)=20 from rfl,k1,k2,k3,k10,k12,Bool.true_and],HE.out _ B11⟩
     ·refine stG 22 (.bool false) rfl B1 (fun W _=>xEb .i64 3 3 (.tmp 19) (.tmp 24) ((mac.size:Int)) (20) false (k10)) (stF 23 (.bool false) rfl B1 (stF 24 (.bool false) rfl B1 (stP 25 rfl B1 (stP 26 rfl B1 (stP 27 rfl B1 (stP 28 rfl B1 (stF 29 (.bool false) rfl B1 (stF 30 (.bool false) rfl B1 ?_))))))))
      refine aG (by kernel_rfl) ?_
      go_wp2_with fail
      exact aK 2 (.bool false) (by kernel_rfl) (by kernel_rfl) (by kernel_rfl) ⟨by rw [←HM.out];simp only [bF,show ((Jn.dF 2:Nat):Int)=20 from rfl,k1,k2,k3,k10,Bool.true_and,Bool.false_and],HE.out _ B1⟩
   ·refine stG 11 (.bool false) rfl B1 (fun W _=>xLb .i64 3 3 (.tmp 13) (.const (.int .i64 255)) (id) (255) false (k3)) (stF 12 (.bool false) rfl B1 (stF 13 (.bool false) rfl B1 (stP 14 rfl B1 (stP 15 rfl B1 (stP 16 rfl B1 (stP 17 rfl B1 (stP 18 rfl B1 (stP 19 rfl B1 (stP 20 rfl B1 ?_)))))))))
    refine stP 21 rfl B1 (stP 22 rfl B1 (stF 23 (.bool false) rfl B1 (stF 24 (.bool false) rfl B1 (stP 25 rfl B1 (stP 26 rfl B1 (stP 27 rfl B1 (stP 28 rfl B1 (stF 29 (.bool false) rfl B1 (stF 30 (.bool false) rfl B1 ?_)))))))))
    refine aG (by kernel_rfl) ?_
    go_wp2_with fail
    exact aK 2 (.bool false) (by kernel_rfl) (by kernel_rfl) (by kernel_rfl) ⟨by rw [←HM.out];simp only [bF,k1,k2,k3,Bool.true_and,Bool.false_and],HE.out _ B1⟩
  ·refine stG 6 (.bool false) rfl B1 (fun W _=>xLb .i64 3 3 (.const (.int .i64 0)) (.tmp 8) (0) (id) false (k2)) (stF 7 (.bool false) rfl B1 (stF 8 (.bool false) rfl B1 (stP 9 rfl B1 (stP 10 rfl B1 (stP 11 rfl B1 (stF 12 (.bool false) rfl B1 (stF 13 (.bool false) rfl B1 (stP 14 rfl B1 (stP 15 rfl B1 ?_)))))))))
   refine stP 16 rfl B1 (stP 17 rfl B1 (stP 18 rfl B1 (stP 19 rfl B1 (stP 20 rfl B1 (stP 21 rfl B1 (stP 22 rfl B1 (stF 23 (.bool false) rfl B1 (stF 24 (.bool false) rfl B1 (stP 25 rfl B1 ?_)))))))))
   refine stP 26 rfl B1 (stP 27 rfl B1 (stP 28 rfl B1 (stF 29 (.bool false) rfl B1 (stF 30 (.bool false) rfl B1 ?_))))
   refine aG (by kernel_rfl) ?_
   go_wp2_with fail
   exact aK 2 (.bool false) (by kernel_rfl) (by kernel_rfl) (by kernel_rfl) ⟨by rw [←HM.out];simp only [bF,k1,k2,Bool.true_and,Bool.false_and],HE.out _ B1⟩
 ·refine stB 2 rfl (gK form false k1 _) B0 fun W1 B1=>?_
  clear B0
  refine stF 3 (.bool false) rfl B1 (stP 4 rfl B1 (stP 5 rfl B1 (stP 6 rfl B1 (stF 7 (.bool false) rfl B1 (stF 8 (.bool false) rfl B1 (stP 9 rfl B1 (stP 10 rfl B1 (stP 11 rfl B1 (stF 12 (.bool false) rfl B1 ?_)))))))))
  refine stF 13 (.bool false) rfl B1 (stP 14 rfl B1 (stP 15 rfl B1 (stP 16 rfl B1 (stP 17 rfl B1 (stP 18 rfl B1 (stP 19 rfl B1 (stP 20 rfl B1 (stP 21 rfl B1 (stP 22 rfl B1 ?_)))))))))
  refine stF 23 (.bool false) rfl B1 (stF 24 (.bool false) rfl B1 (stP 25 rfl B1 (stP 26 rfl B1 (stP 27 rfl B1 (stP 28 rfl B1 (stF 29 (.bool false) rfl B1 (stF 30 (.bool false) rfl B1 ?_)))))))
  refine aG (by kernel_rfl) ?_
  go_wp2_with fail
  exact aK 2 (.bool false) (by kernel_rfl) (by kernel_rfl) (by kernel_rfl) ⟨by rw [←HM.out];simp only [bF,k1,Bool.false_and],HE.out _ B1⟩
theorem bW (x:Jn) (hx:x.Ok) (w:World) (ht:Tbl w):
  Calls Tryz.prog 130 #[.agg (jnv x)] w (Rt w (.bool (decide x.May))):=by
 rw [←iF]
 exact valid_ x.form x.aA x.id x.token x.aC x.mac w ht
open Go.ChangeShapes Go.WideShapes Go.ChangeAt Go.RowKit
theorem eG (a:ByteArray):(⟨#[]⟩:ByteArray)++a=a:=by apply ByteArray.ext;rw [ByteArray.data_append];simp
theorem kC (m n:Nat):(txt (be m n)).size=m:=by rw [aO,aI]
abbrev enc1 (g c:Nat):Value:=.func (.func 188) #[] #[.pointer (some ⟨g,0,none⟩),.pointer (some ⟨c,0,none⟩)]
abbrev enc2 (g c:Nat):Value:=.func (.func 190) #[] #[.pointer (some ⟨g,0,none⟩),.pointer (some ⟨c,0,none⟩)]
abbrev enc3 (g c:Nat):Value:=.func (.func 191) #[] #[.pointer (some ⟨g,0,none⟩),.pointer (some ⟨c,0,none⟩)]
theorem enc1_any (x:Jn) (hx:x.Ok) (F:ByteArray) (hF:F.size≤100) (T1 T:ByteArray) (h1:F++⟨(be 4 x.token).toArray⟩=T1) (hT:T1++⟨(be 4 x.aC).toArray⟩=T) (g c:Nat) (w:World) (hg:Blk w g 9 #[.string F]) (hc:Blk w c 29 (jnv x)):
  Calls Tryz.prog 188 #[.pointer (some ⟨g,0,none⟩),.pointer (some ⟨c,0,none⟩)] w (Rt w (.string T)):=by
 have s1:T1.size≤200:=by rw [←h1,ByteArray.size_append];have:=kC 4 x.token;unfold txt at this;omega
 have HG:=Lh hg
 have HC:=Lh hc
 have HX:=Lh hx
 have HTT:=Lh hT
 have H1:=Lh h1
 clear hg hc hx hT h1
 go_enter Tryz.func188,Tryz.ntmps188
 go_upto_region 1 with fail
 refine bI (n:=8) rfl fun W0 B0=>?_
 refine stG 0 (.string F) rfl B0 (fun W b=>xLd 9 (.tmp 0) ⟨g,0,none⟩ ((HG.out.below b HG.out.lt).cell 0)) (stF 1 (.pointer (some ⟨c,3,none⟩)) rfl B0 (stG 2 (.int .u32 (x.token:Int)) rfl B0 (fun W b=>xLd 27 (.tmp 4) ⟨c,3,none⟩ ((HC.out.below b HC.out.lt).cell 3)) (stF 4 (.pointer (some ⟨c,4,none⟩)) rfl B0 (stG 5 (.int .u32 (x.aC:Int)) rfl B0 (fun W b=>xLd 27 (.tmp 7) ⟨c,4,none⟩ ((HC.out.below b HC.out.lt).cell 4)) ?_))))
 refine stB 3 rfl (answer (iL F x.token _ (by omega) HX.out.token) (congrArg Value.string H1.out)) B0 fun W1 B1=>?_
 clear B0
 refine stB 6 rfl (answer (iL T1 x.aC _ (by omega) HX.out.aC) (congrArg Value.string HTT.out)) B1 fun W2 B2=>?_
 clear B1
 refine stF 7 (.string T) rfl B2 ?_
 refine aG (by kernel_rfl) ?_
 go_wp2_with fail
 exact aK 2 (.string T) (by kernel_rfl) (by kernel_rfl) (by kernel_rfl) ⟨rfl,B2⟩
theorem enc2_any (x:Jn) (hx:x.Ok) (F:ByteArray) (hF:F.size≤100) (hm:x.mac.size≤100) (T1 T:ByteArray) (h1:T1=F++x.mac) (hT:T1++⟨(be 4 x.aC).toArray⟩=T) (g c:Nat) (w:World) (hg:Blk w g 9 #[.string F]) (hc:Blk w c 29 (jnv x)):
  Calls Tryz.prog 190 #[.pointer (some ⟨g,0,none⟩),.pointer (some ⟨c,0,none⟩)] w (Rt w (.string T)):=by
 have s1:T1.size≤200:=by rw [h1,ByteArray.size_append];omega
 have HG:=Lh hg
 have HC:=Lh hc
 have HX:=Lh hx
 have HTT:=Lh hT
 have H1:=Lh h1
 have hcat:=fun W=>run_string_add (P:=Tryz.prog) W F x.mac (by omega) (by omega)
 have g0:=hg.cell 0
 have c4:=hc.cell 4
 have c5:=hc.cell 5
 simp only [List.getElem?_toArray,List.getElem?_cons_zero,List.getElem?_cons_succ] at g0 c4 c5
 clear hg hc hx hT h1
 go_enter Tryz.func190,Tryz.ntmps190
 go_wp2_with fail
 rw [←H1.out]
 refine (answer (iL T1 x.aC _ (by omega) HX.out.aC) (congrArg Value.string HTT.out)).mono ?_
 rintro e W ⟨rfl,b⟩
 go_wp2_with fail
 go_ret;exact ⟨rfl,b⟩
theorem enc3_any (x:Jn) (hx:x.Ok) (F:ByteArray) (hF:F.size≤100) (hm:x.mac.size≤100) (T:ByteArray) (hT:T=F++x.mac) (g c:Nat) (w:World) (hg:Blk w g 9 #[.string F]) (hc:Blk w c 29 (jnv x)):
  Calls Tryz.prog 191 #[.pointer (some ⟨g,0,none⟩),.pointer (some ⟨c,0,none⟩)] w (Rt w (.string T)):=by
 have HG:=Lh hg
 have HC:=Lh hc
 have HX:=Lh hx
 have HTT:=Lh hT
 have hcat:=fun W=>run_string_add (P:=Tryz.prog) W F x.mac (by omega) (by omega)
 have g0:=hg.cell 0
 have c4:=hc.cell 4
 have c5:=hc.cell 5
 simp only [List.getElem?_toArray,List.getElem?_cons_zero,List.getElem?_cons_succ] at g0 c4 c5
 clear hg hc hx hT
 go_enter Tryz.func191,Tryz.ntmps191
 go_wp2_with fail
 go_ret;exact ⟨by rw [HTT.out];rfl,Below.refl _ _⟩
theorem encs_size:(Tryz.prog.info? 179).map (·.size)=some 3:=by kernel_rfl
def tK (x:Jn) (F:ByteArray) (w:World) (v:Value) (w':World):Prop:=∃g c,v= .agg #[enc1 g c,enc2 g c,enc3 g c]∧Blk w' g 9 #[.string F]∧Blk w' c 29 (jnv x)∧Below w.heap.size w w'
theorem tK.below {x:Jn} {F:ByteArray} {w w':World} {v:Value} (h:tK x F w v w'):Below w.heap.size w w':=by obtain ⟨_,_,_,_,_,h⟩:=h;exact h
theorem gY (x:Jn) (i:Nat) (hi:x.id=(i:Int)) (nK:i≤255) (T1 F:ByteArray) (h1:T1=txt (be 1 (Jn.first x.aA))) (hF:T1++⟨(be 1 i).toArray⟩=F) (w:World):
  Calls Tryz.prog 131 #[.agg (jnv x)] w fun e w'=>∃v,e= .returned v∧tK x F w v w':=by
 obtain ⟨V,hV⟩:=eqx ((w.alloc (.cells (jnv x) 29)).alloc (.cells #[.nilFunc,.nilFunc,.nilFunc] 179))
 obtain ⟨b0,hb0⟩:=eqx w.heap.size
 obtain ⟨b1,hb1⟩:=eqx (w.heap.size+1)
 have hxv:Blk V b0 29 (jnv x):=by rw [hV,hb0];exact (Blk.new _ _ _).alloc _
 have hrv:Blk V b1 179 #[.nilFunc,.nilFunc,.nilFunc]:=by
  rw [hV,hb1]
  have:=Blk.new (w.alloc (.cells (jnv x) 29)) 179 #[.nilFunc,.nilFunc,.nilFunc]
  simpa using this
 have s1:T1.size≤10:=by rw [h1,kC];omega
 have hsv:V.heap.size=w.heap.size+2:=by rw [hV];simp
 have HXV:=Lh hxv
 have HRV:=Lh hrv
 have HBV:=Lh (show Below w.heap.size w V by rw [hV];exact ((Below.refl _ w).alloc (Nat.le_refl _) _).alloc (by simp) _)
 have HS:=Lh (show w.heap.size≤b1∧b0 < V.heap.size∧b1 < V.heap.size∧b0≠b1 from ⟨by omega,by omega,by omega,by omega⟩)
 have H1:=Lh (show (⟨#[]⟩:ByteArray)++⟨(be 1 (Jn.first x.aA)).toArray⟩=T1 by rw [eG,h1];rfl)
 have HF:=Lh hF
 have HI:=Lh (show x.id%256=(i:Int) by omega)
 have HVE:=Lh hV
 have HB0:=Lh hb0
 have HB1:=Lh hb1
 clear hV hb0 hb1 hxv hrv hsv h1 hF hi
 go_enter Tryz.func131,Tryz.ntmps131
 go_upto_region 1 with fail
 rw [←HVE.out,←HB1.out,←HB0.out]
 go_cut [3] (fun y wx=>∃g,y= .pointer (some ⟨g,0,none⟩)∧V.heap.size≤g∧Blk wx g 9 #[.string F]∧Below V.heap.size V wx)
 case first=>
  have B0:Below V.heap.size V V.drew:=(Below.refl _ V).drew
  refine walk_start 8 (fun W=>Below V.heap.size V W) (by kernel_rfl) (n:=9) rfl ?_
  obtain ⟨W0,hW0⟩:=eqx V.drew
  rw [←hW0] at B0 ⊢
  clear hW0
  refine wkG 0 (.agg (jnv x)) rfl B0 (fun W b=>xRw 29 (.tmp 1) b0 (HXV.out.below b HXV.out.lt) Tryz.underlying29 bY) (wkG 3 (.pointer (some ⟨b0,2,none⟩)) rfl B0 (fun _ _=>jS (v:=.pointer (some ⟨b0,0,none⟩)) 29 (.tmp 1) 2 (by kernel_rfl) (by kernel_rfl) (by kernel_rfl)) (wkG 4 (.int .i64 x.id) rfl B0 (fun W b=>xLd 3 (.tmp 7) ⟨b0,2,none⟩ ((HXV.out.below b HXV.out.lt).cell 2)) (wkG 5 (.int .u8 (i:Int)) rfl B0 (fun W _=>cO (v:=.int .i64 x.id) 3 5 (.tmp 8) (by kernel_rfl) (by kernel_rfl) (fD x.id i HI.out W)) ?_)))
  refine lH 1 7 (by kernel_rfl) ?_ ?_
  ·refine eP 1 rfl (by kernel_rfl) (by kernel_rfl) (fC x _) (fun w' h=>aU B0 h) ?_
   intro W1 hW1
   have B1:=aU B0 hW1
   clear hW1 B0
   refine lH 2 7 (by kernel_rfl) ?_ ?_
   ·refine eP 2 rfl (by kernel_rfl) (by kernel_rfl) (answer (bG ⟨#[]⟩ (Jn.first x.aA) _ (by decide) (Jn.lC _)) (congrArg Value.string H1.out)) (fun w' h=>aU B1 h) ?_
    intro W2 hW2
    have B2:=aU B1 hW2
    clear hW2 B1
    refine lH 6 7 (by kernel_rfl) ?_ ?_
    ·refine eP 6 rfl (by kernel_rfl) (by kernel_rfl) (answer (bG T1 i _ (by omega) (by omega)) (congrArg Value.string HF.out)) (fun w' h=>aU B2 h) ?_
     intro W3 hW3
     have B3:=aU B2 hW3
     clear hW3 B2
     obtain ⟨W4,hW4⟩:∃w',w'=W3.alloc (.cells #[.string ⟨#[]⟩] 9):=⟨_,rfl⟩
     have uI:Blk W4 W3.heap.size 9 #[.string ⟨#[]⟩]:=by rw [hW4];exact Blk.new _ _ _
     have B4:Below V.heap.size V W4:=by rw [hW4];exact B3.alloc B3.size _
     have L4:V.heap.size≤W3.heap.size:=B3.size
     refine dA 7 (by kernel_rfl) (kV (v:=.pointer (some ⟨W3.heap.size,0,none⟩)) (w':=W4) 7 rfl (by kernel_rfl) (by rw [hW4];exact dW 9 (.string ⟨#[]⟩) (by kernel_rfl) rfl (fun _=>by kernel_rfl)) B4 ?_)
     clear hW4
     refine dA 8 (by kernel_rfl) (kY 8 rfl (by kernel_rfl) (dV 9 (.tmp 3) (.tmp 10) (by kernel_rfl) ⟨W3.heap.size,0,none⟩ (.string F) (by kernel_rfl) (by kernel_rfl) (iT _ _ _ F uI)) (by kernel_rfl) ?_)
     refine fB ⟨#[.agg (jnv x),.pointer (some ⟨b0,0,none⟩),.pointer (some ⟨b1,0,none⟩),.pointer (some ⟨W3.heap.size,0,none⟩),.agg (jnv x),.int .u8 (Jn.first x.aA:Int),.string T1,.pointer (some ⟨b0,2,none⟩),.int .i64 x.id,.int .u8 (i:Int),.string F,undef,undef,undef,undef],[]⟩ (by kernel_rfl) (by kernel_rfl) ?_
     have HE:=Lh (show V.heap.size≤W3.heap.size∧Blk (W4.setCell ⟨W3.heap.size,0,none⟩ (.string F)) W3.heap.size 9 #[.string F]∧Below V.heap.size V (W4.setCell ⟨W3.heap.size,0,none⟩ (.string F)) from ⟨L4,uI.fJ 0 _,B4.setCell L4 _⟩)
     clear uI
     go_wp2_with fail
     go_meet
     exact ⟨_,rfl,HE.out⟩
    ·obtain ⟨W3,hW3⟩:∃w',w'=W2.alloc (.cells #[.string ⟨#[]⟩] 9):=⟨_,rfl⟩
     have uH:Blk W3 W2.heap.size 9 #[.string ⟨#[]⟩]:=by rw [hW3];exact Blk.new _ _ _
     have B3:Below V.heap.size V W3:=by rw [hW3];exact B2.alloc B2.size _
     have L3:V.heap.size≤W2.heap.size:=B2.size
     refine kV (v:=.pointer (some ⟨W2.heap.size,0,none⟩)) (w':=W3) 7 rfl (by kernel_rfl) (by rw [hW3];exact dW 9 (.string ⟨#[]⟩) (by kernel_rfl) rfl (fun _=>by kernel_rfl)) B3 ?_
     clear hW3
     refine dA 6 (by kernel_rfl) (eP 6 rfl (by kernel_rfl) (by kernel_rfl) (answer (bG T1 i _ (by omega) (by omega)) (congrArg Value.string HF.out)) (fun w' h=>aU B3 h) ?_)
     intro W4 hW4
     have B4:=aU B3 hW4
     have uG:=uH.below hW4 uH.lt
     clear hW4 B3 uH
     refine dA 8 (by kernel_rfl) (kY 8 rfl (by kernel_rfl) (dV 9 (.tmp 3) (.tmp 10) (by kernel_rfl) ⟨W2.heap.size,0,none⟩ (.string F) (by kernel_rfl) (by kernel_rfl) (iT _ _ _ F uG)) (by kernel_rfl) ?_)
     refine fB ⟨#[.agg (jnv x),.pointer (some ⟨b0,0,none⟩),.pointer (some ⟨b1,0,none⟩),.pointer (some ⟨W2.heap.size,0,none⟩),.agg (jnv x),.int .u8 (Jn.first x.aA:Int),.string T1,.pointer (some ⟨b0,2,none⟩),.int .i64 x.id,.int .u8 (i:Int),.string F,undef,undef,undef,undef],[]⟩ (by kernel_rfl) (by kernel_rfl) ?_
     have HE:=Lh (show V.heap.size≤W2.heap.size∧Blk (W4.setCell ⟨W2.heap.size,0,none⟩ (.string F)) W2.heap.size 9 #[.string F]∧Below V.heap.size V (W4.setCell ⟨W2.heap.size,0,none⟩ (.string F)) from ⟨L3,uG.fJ 0 _,B4.setCell L3 _⟩)
     clear uG
     go_wp2_with fail
     go_meet
     exact ⟨_,rfl,HE.out⟩
   ·obtain ⟨W2,hW2⟩:∃w',w'=W1.alloc (.cells #[.string ⟨#[]⟩] 9):=⟨_,rfl⟩
    have uV:Blk W2 W1.heap.size 9 #[.string ⟨#[]⟩]:=by rw [hW2];exact Blk.new _ _ _
    have B2:Below V.heap.size V W2:=by rw [hW2];exact B1.alloc B1.size _
    have L2:V.heap.size≤W1.heap.size:=B1.size
    refine kV (v:=.pointer (some ⟨W1.heap.size,0,none⟩)) (w':=W2) 7 rfl (by kernel_rfl) (by rw [hW2];exact dW 9 (.string ⟨#[]⟩) (by kernel_rfl) rfl (fun _=>by kernel_rfl)) B2 ?_
    clear hW2
    refine dA 2 (by kernel_rfl) (eP 2 rfl (by kernel_rfl) (by kernel_rfl) (answer (bG ⟨#[]⟩ (Jn.first x.aA) _ (by decide) (Jn.lC _)) (congrArg Value.string H1.out)) (fun w' h=>aU B2 h) ?_)
    intro W3 hW3
    have B3:=aU B2 hW3
    have uS:=uV.below hW3 uV.lt
    clear hW3 B2 uV
    refine dA 6 (by kernel_rfl) (eP 6 rfl (by kernel_rfl) (by kernel_rfl) (answer (bG T1 i _ (by omega) (by omega)) (congrArg Value.string HF.out)) (fun w' h=>aU B3 h) ?_)
    intro W4 hW4
    have B4:=aU B3 hW4
    have uF:=uS.below hW4 uS.lt
    clear hW4 B3 uS
    refine dA 8 (by kernel_rfl) (kY 8 rfl (by kernel_rfl) (dV 9 (.tmp 3) (.tmp 10) (by kernel_rfl) ⟨W1.heap.size,0,none⟩ (.string F) (by kernel_rfl) (by kernel_rfl) (iT _ _ _ F uF)) (by kernel_rfl) ?_)
    refine fB ⟨#[.agg (jnv x),.pointer (some ⟨b0,0,none⟩),.pointer (some ⟨b1,0,none⟩),.pointer (some ⟨W1.heap.size,0,none⟩),.agg (jnv x),.int .u8 (Jn.first x.aA:Int),.string T1,.pointer (some ⟨b0,2,none⟩),.int .i64 x.id,.int .u8 (i:Int),.string F,undef,undef,undef,undef],[]⟩ (by kernel_rfl) (by kernel_rfl) ?_
    have HE:=Lh (show V.heap.size≤W1.heap.size∧Blk (W4.setCell ⟨W1.heap.size,0,none⟩ (.string F)) W1.heap.size 9 #[.string F]∧Below V.heap.size V (W4.setCell ⟨W1.heap.size,0,none⟩ (.string F)) from ⟨L2,uF.fJ 0 _,B4.setCell L2 _⟩)
    clear uF
    go_wp2_with fail
    go_meet
    exact ⟨_,rfl,HE.out⟩
  ·obtain ⟨W1,hW1⟩:∃w',w'=W0.alloc (.cells #[.string ⟨#[]⟩] 9):=⟨_,rfl⟩
   have uT:Blk W1 W0.heap.size 9 #[.string ⟨#[]⟩]:=by rw [hW1];exact Blk.new _ _ _
   have B1:Below V.heap.size V W1:=by rw [hW1];exact B0.alloc B0.size _
   have L1:V.heap.size≤W0.heap.size:=B0.size
   refine kV (v:=.pointer (some ⟨W0.heap.size,0,none⟩)) (w':=W1) 7 rfl (by kernel_rfl) (by rw [hW1];exact dW 9 (.string ⟨#[]⟩) (by kernel_rfl) rfl (fun _=>by kernel_rfl)) B1 ?_
   clear hW1
   refine dA 1 (by kernel_rfl) (eP 1 rfl (by kernel_rfl) (by kernel_rfl) (fC x _) (fun w' h=>aU B1 h) ?_)
   intro W2 hW2
   have B2:=aU B1 hW2
   have uN:=uT.below hW2 uT.lt
   clear hW2 B1 uT
   refine dA 2 (by kernel_rfl) (eP 2 rfl (by kernel_rfl) (by kernel_rfl) (answer (bG ⟨#[]⟩ (Jn.first x.aA) _ (by decide) (Jn.lC _)) (congrArg Value.string H1.out)) (fun w' h=>aU B2 h) ?_)
   intro W3 hW3
   have B3:=aU B2 hW3
   have uD:=uN.below hW3 uN.lt
   clear hW3 B2 uN
   refine dA 6 (by kernel_rfl) (eP 6 rfl (by kernel_rfl) (by kernel_rfl) (answer (bG T1 i _ (by omega) (by omega)) (congrArg Value.string HF.out)) (fun w' h=>aU B3 h) ?_)
   intro W4 hW4
   have B4:=aU B3 hW4
   have uO:=uD.below hW4 uD.lt
   clear hW4 B3 uD
   refine dA 8 (by kernel_rfl) (kY 8 rfl (by kernel_rfl) (dV 9 (.tmp 3) (.tmp 10) (by kernel_rfl) ⟨W0.heap.size,0,none⟩ (.string F) (by kernel_rfl) (by kernel_rfl) (iT _ _ _ F uO)) (by kernel_rfl) ?_)
   refine fB ⟨#[.agg (jnv x),.pointer (some ⟨b0,0,none⟩),.pointer (some ⟨b1,0,none⟩),.pointer (some ⟨W0.heap.size,0,none⟩),.agg (jnv x),.int .u8 (Jn.first x.aA:Int),.string T1,.pointer (some ⟨b0,2,none⟩),.int .i64 x.id,.int .u8 (i:Int),.string F,undef,undef,undef,undef],[]⟩ (by kernel_rfl) (by kernel_rfl) ?_
   have HE:=Lh (show V.heap.size≤W0.heap.size∧Blk (W4.setCell ⟨W0.heap.size,0,none⟩ (.string F)) W0.heap.size 9 #[.string F]∧Below V.heap.size V (W4.setCell ⟨W0.heap.size,0,none⟩ (.string F)) from ⟨L1,uO.fJ 0 _,B4.setCell L1 _⟩)
   clear uO
   go_wp2_with fail
   go_meet
   exact ⟨_,rfl,HE.out⟩
 case rest=>
  obtain ⟨g,rfl,hg,hB,hV⟩:=hcut
  obtain ⟨U,hU⟩:=eqx wc
  have hr:Blk wc b1 179 #[.nilFunc,.nilFunc,.nilFunc]:=HRV.out.below hV HS.out.2.2.1
  have HR:=Lh hr
  have HEND:=Lh (show tK x F w (.agg #[enc1 g b0,enc2 g b0,enc3 g b0]) (wc.setRow b1 #[enc1 g b0,enc2 g b0,enc3 g b0]) from ⟨g,b0,rfl,hB.same (setRow_other wc b1 g _ (by have:=HS.out.2.2.1;omega)),(HXV.out.below hV HS.out.2.1).same (setRow_other wc b1 b0 _ HS.out.2.2.2),below_setRow (HBV.out.trans (hV.mono HBV.out.size)) HS.out.1 _⟩)
  have HSE:=Lh (setRow_heap _ b1 _ #[enc1 g b0,enc2 g b0,enc3 g b0] _ _ hr)
  clear hB hV hr hU
  go_wp2_with (refine wpList_store_row rfl 179 _ _ rfl b1 #[enc1 g b0,enc2 g b0,enc3 g b0] rfl rfl 179 #[.nilFunc,.nilFunc,.nilFunc] ?_ encs_size rfl (by simp [Value.oneCell']) ?_;exact HR.out)
  exact bodyPost_ret (results_cell_row rfl _ _ b1 179 #[enc1 g b0,enc2 g b0,enc3 g b0] (0,0) _ rfl HSE.out Tryz.underlying179 rfl encs_size) rfl ⟨_,rfl,HEND.out⟩
def bJ (x:Jn):Value:=.tuple #[.string x.enc.1,.int .i64 x.enc.2]
theorem gQ (x:Jn) (h:x.May):bJ x= .tuple #[.string (txt x.body),.int .i64 0]:=by unfold bJ;rw [Jn.kP x h]
theorem jA (x:Jn) (h:¬x.May):bJ x= .tuple #[.string ⟨#[]⟩,.int .i64 2]:=by unfold bJ;rw [Jn.kN x h]
theorem aP {P:Program} {fn:Func} {R:Ending→World→Prop} {a:Act} {w:World} (t u:Tmp) (v z:Value) (hf:fn.results=#[.tmp t,.tmp u]) (ht:a.tmps.getD t undef=v) (hu:a.tmps.getD u undef=z) (hd:a.defers=[]) (hR:R (.returned (.tuple #[v,z])) w):bodyPost P fn R .ret a w:=
 bodyPost_ret (by rw [results_tmp2 hf,ht,hu]) hd hR
theorem kF (x:Jn):txt (be 1 (Jn.first x.aA))++txt (be 1 x.id.toNat)=txt [UInt8.ofNat (Jn.first x.aA),UInt8.ofNat x.id.toNat]:=by
 rw [bP];simp [be]
theorem body_0 (x:Jn) (h:x.form=0):txt [UInt8.ofNat (Jn.first x.aA),UInt8.ofNat x.id.toNat]++txt (be 4 x.token)++txt (be 4 x.aC)=txt x.body:=by
 rw [bP,bP,Jn.body,Jn.rest,if_pos h];simp
theorem body_1 (x:Jn) (h:x.form=1):txt [UInt8.ofNat (Jn.first x.aA),UInt8.ofNat x.id.toNat]++x.mac++txt (be 4 x.aC)=txt x.body:=by
 rw [←txt_of x.mac,bP,bP,Jn.body,Jn.rest,if_neg (by omega),if_pos h];simp
theorem body_2 (x:Jn) (h:x.form=2):txt [UInt8.ofNat (Jn.first x.aA),UInt8.ofNat x.id.toNat]++x.mac=txt x.body:=by
 rw [←txt_of x.mac,bP,Jn.body,Jn.rest,if_neg (by omega),if_neg (by omega)];simp
theorem Encode_0 (aA:Bool) (id:Int) (token aC:Nat) (mac:ByteArray) (hx:Jn.Ok ⟨0,aA,id,token,aC,mac⟩) (hm:Jn.May ⟨0,aA,id,token,aC,mac⟩) (w:World) (ht:Tbl w):
  Calls Tryz.prog 72 #[.agg (jnv ⟨0,aA,id,token,aC,mac⟩)] w (Rt w (bJ ⟨0,aA,id,token,aC,mac⟩)):=by
 rw [gQ _ hm]
 obtain ⟨T,hT⟩:=eqx (txt (Jn.body ⟨0,aA,id,token,aC,mac⟩))
 rw [←hT]
 have hmm:=hm
 obtain ⟨-,⟨i0,i1⟩,hms, -⟩:=hm
 have i0:0≤id:=i0
 have i1:id≤255:=i1
 have hms:mac.size=0:=hms
 obtain ⟨i,hi⟩:∃i:Nat,id=(i:Int):=⟨id.toNat,by omega⟩
 have nK:i≤255:=by omega
 obtain ⟨T1,hT1⟩:∃T,T=txt (be 1 (Jn.first aA)):=⟨_,rfl⟩
 obtain ⟨F,hF⟩:=eqx (T1++txt (be 1 i))
 have hFt:F=txt [UInt8.ofNat (Jn.first aA),UInt8.ofNat id.toNat]:=by rw [hF,hT1,show i=id.toNat by omega];exact kF ⟨0,aA,id,token,aC,mac⟩
 have hFs:F.size≤100:=by rw [hFt,aO];simp
 obtain ⟨A,hA⟩:=eqx (F++txt (be 4 token))
 have HA:=Lh (show F++⟨(be 4 token).toArray⟩=A from hA.symm)
 have HTT:=Lh (show A++⟨(be 4 aC).toArray⟩=T by rw [hT,←body_0 ⟨0,aA,id,token,aC,mac⟩ rfl,hA,hFt];rfl)
 have HMS:=Lh hms
 have HM:=Lh (show Jn.May ⟨0,aA,id,token,aC,mac⟩ from hmm)
 have HX:=Lh hx
 have HI:=Lh (show Jn.id ⟨0,aA,id,token,aC,mac⟩=(i:Int) from hi)
 have HT1:=Lh (show T1=txt (be 1 (Jn.first (Jn.aA ⟨0,aA,id,token,aC,mac⟩))) from hT1)
 have HF:=Lh (show T1++⟨(be 1 i).toArray⟩=F from hF.symm)
 obtain ⟨w0,hw0⟩:=eqx (w.alloc (.cells (jnv ⟨0,aA,id,token,aC,mac⟩) 29))
 obtain ⟨b0,hb0⟩:=eqx w.heap.size
 have hc0:Blk w0 b0 29 (jnv ⟨0,aA,id,token,aC,mac⟩):=by rw [hw0,hb0];exact Blk.new _ _ _
 have HC0:=Lh hc0
 have HBW:=Lh (mX hw0)
 have HTB:=Lh (show Tbl w0 by rw [hw0];exact ht.alloc _)
 have HW0:=Lh hw0
 have HB0:=Lh hb0
 have HC1:=hc0
 rw [hw0,hb0] at HC1
 have jQ:=Lh HC1
 clear hmm hT hms hi hT1 hF hFt hw0 hb0 hc0 ht hx i0 i1 HC1 hA
 go_enter Tryz.func72,Tryz.ntmps72
 go_wp2_with (refine wpList_load_row rfl 29 _ rfl w.heap.size rfl 29 (jnv ⟨0,aA,id,token,aC,mac⟩) (0,0) _ ?_ Tryz.underlying29 rfl bY ?_;exact jQ.out)
 rw [←HW0.out,←HB0.out]
 refine (bW ⟨0,aA,id,token,aC,mac⟩ HX.out _ HTB.out).mono ?_
 rintro e V ⟨rfl,bv⟩
 rw [decide_eq_true HM.out]
 have HC:=Lh (HC0.out.below bv HC0.out.lt)
 have HBV:=Lh (HBW.out.trans (bv.mono HBW.out.size))
 clear bv HC0 HBW HTB HW0 jQ
 go_upto_region 3 with fail
 refine bI (n:=8) rfl fun W0 B0=>?_
 refine stG 0 (.agg (jnv ⟨0,aA,id,token,aC,mac⟩)) rfl B0 (fun W b=>xRw 29 (.tmp 1) b0 (HC.out.below b HC.out.lt) Tryz.underlying29 bY) (stF 2 (.pointer (some ⟨b0,0,none⟩)) rfl B0 (stG 3 (.int .i64 0) rfl B0 (fun W b=>xLd 3 (.tmp 9) ⟨b0,0,none⟩ ((HC.out.below b HC.out.lt).cell 0)) ?_))
 refine gV 1 rfl (by kernel_rfl) (by kernel_rfl) (by kernel_rfl) (gY ⟨0,aA,id,token,aC,mac⟩ i HI.out nK T1 F HT1.out HF.out _) (fun v w' h=>aU B0 h.below) ?_
 intro v0 W1 hW1
 obtain ⟨g,c,rfl,hg,hc,hb⟩:=hW1
 have B1:=aU B0 hb
 clear B0 hb
 have HG:=Lh hg
 have HCC:=Lh hc
 clear hg hc
 refine stF 4 (enc1 g c) rfl B1 ?_
 refine stB 5 rfl (enc1_any ⟨0,aA,id,token,aC,mac⟩ HX.out F (by omega) A T HA.out HTT.out g c _ HG.out HCC.out) B1 fun W2 B2=>?_
 clear B1
 refine stF 6 (.string T) rfl B2 (stF 7 (.int .i64 0) rfl B2 ?_)
 refine aG (by kernel_rfl) ?_
 go_wp2_with fail
 exact aP 2 3 (.string T) (.int .i64 0) (by kernel_rfl) (by kernel_rfl) (by kernel_rfl) (by kernel_rfl) ⟨rfl,by have q:=HBV.out.trans (B2.mono HBV.out.size);first | exact q | (rw [HB0.out];exact q)⟩
theorem Encode_1 (aA:Bool) (id:Int) (token aC:Nat) (mac:ByteArray) (hx:Jn.Ok ⟨1,aA,id,token,aC,mac⟩) (hm:Jn.May ⟨1,aA,id,token,aC,mac⟩) (w:World) (ht:Tbl w):
  Calls Tryz.prog 72 #[.agg (jnv ⟨1,aA,id,token,aC,mac⟩)] w (Rt w (bJ ⟨1,aA,id,token,aC,mac⟩)):=by
 rw [gQ _ hm]
 obtain ⟨T,hT⟩:=eqx (txt (Jn.body ⟨1,aA,id,token,aC,mac⟩))
 rw [←hT]
 have hmm:=hm
 obtain ⟨-,⟨i0,i1⟩,hms, -⟩:=hm
 have i0:0≤id:=i0
 have i1:id≤255:=i1
 have hms:mac.size=8:=hms
 obtain ⟨i,hi⟩:∃i:Nat,id=(i:Int):=⟨id.toNat,by omega⟩
 have nK:i≤255:=by omega
 obtain ⟨T1,hT1⟩:∃T,T=txt (be 1 (Jn.first aA)):=⟨_,rfl⟩
 obtain ⟨F,hF⟩:=eqx (T1++txt (be 1 i))
 have hFt:F=txt [UInt8.ofNat (Jn.first aA),UInt8.ofNat id.toNat]:=by rw [hF,hT1,show i=id.toNat by omega];exact kF ⟨1,aA,id,token,aC,mac⟩
 have hFs:F.size≤100:=by rw [hFt,aO];simp
 obtain ⟨A,hA⟩:=eqx (F++mac)
 have HA:=Lh (show A=F++mac from hA)
 have HTT:=Lh (show A++⟨(be 4 aC).toArray⟩=T by rw [hT,←body_1 ⟨1,aA,id,token,aC,mac⟩ rfl,hA,hFt];rfl)
 have HMS:=Lh hms
 have HM:=Lh (show Jn.May ⟨1,aA,id,token,aC,mac⟩ from hmm)
 have HX:=Lh hx
 have HI:=Lh (show Jn.id ⟨1,aA,id,token,aC,mac⟩=(i:Int) from hi)
 have HT1:=Lh (show T1=txt (be 1 (Jn.first (Jn.aA ⟨1,aA,id,token,aC,mac⟩))) from hT1)
 have HF:=Lh (show T1++⟨(be 1 i).toArray⟩=F from hF.symm)
 obtain ⟨w0,hw0⟩:=eqx (w.alloc (.cells (jnv ⟨1,aA,id,token,aC,mac⟩) 29))
 obtain ⟨b0,hb0⟩:=eqx w.heap.size
 have hc0:Blk w0 b0 29 (jnv ⟨1,aA,id,token,aC,mac⟩):=by rw [hw0,hb0];exact Blk.new _ _ _
 have HC0:=Lh hc0
 have HBW:=Lh (mX hw0)
 have HTB:=Lh (show Tbl w0 by rw [hw0];exact ht.alloc _)
 have HW0:=Lh hw0
 have HB0:=Lh hb0
 have HC1:=hc0
 rw [hw0,hb0] at HC1
 have jQ:=Lh HC1
 clear hmm hT hms hi hT1 hF hFt hw0 hb0 hc0 ht hx i0 i1 HC1 hA
 go_enter Tryz.func72,Tryz.ntmps72
 go_wp2_with (refine wpList_load_row rfl 29 _ rfl w.heap.size rfl 29 (jnv ⟨1,aA,id,token,aC,mac⟩) (0,0) _ ?_ Tryz.underlying29 rfl bY ?_;exact jQ.out)
 rw [←HW0.out,←HB0.out]
 refine (bW ⟨1,aA,id,token,aC,mac⟩ HX.out _ HTB.out).mono ?_
 rintro e V ⟨rfl,bv⟩
 rw [decide_eq_true HM.out]
 have HC:=Lh (HC0.out.below bv HC0.out.lt)
 have HBV:=Lh (HBW.out.trans (bv.mono HBW.out.size))
 clear bv HC0 HBW HTB HW0 jQ
 go_upto_region 3 with fail
 refine bI (n:=8) rfl fun W0 B0=>?_
 refine stG 0 (.agg (jnv ⟨1,aA,id,token,aC,mac⟩)) rfl B0 (fun W b=>xRw 29 (.tmp 1) b0 (HC.out.below b HC.out.lt) Tryz.underlying29 bY) (stF 2 (.pointer (some ⟨b0,0,none⟩)) rfl B0 (stG 3 (.int .i64 1) rfl B0 (fun W b=>xLd 3 (.tmp 9) ⟨b0,0,none⟩ ((HC.out.below b HC.out.lt).cell 0)) ?_))
 refine gV 1 rfl (by kernel_rfl) (by kernel_rfl) (by kernel_rfl) (gY ⟨1,aA,id,token,aC,mac⟩ i HI.out nK T1 F HT1.out HF.out _) (fun v w' h=>aU B0 h.below) ?_
 intro v0 W1 hW1
 obtain ⟨g,c,rfl,hg,hc,hb⟩:=hW1
 have B1:=aU B0 hb
 clear B0 hb
 have HG:=Lh hg
 have HCC:=Lh hc
 clear hg hc
 refine stF 4 (enc2 g c) rfl B1 ?_
 refine stB 5 rfl (enc2_any ⟨1,aA,id,token,aC,mac⟩ HX.out F (by omega) (by have:=HMS.out;show mac.size≤100;omega) A T HA.out HTT.out g c _ HG.out HCC.out) B1 fun W2 B2=>?_
 clear B1
 refine stF 6 (.string T) rfl B2 (stF 7 (.int .i64 0) rfl B2 ?_)
 refine aG (by kernel_rfl) ?_
 go_wp2_with fail
 exact aP 2 3 (.string T) (.int .i64 0) (by kernel_rfl) (by kernel_rfl) (by kernel_rfl) (by kernel_rfl) ⟨rfl,by have q:=HBV.out.trans (B2.mono HBV.out.size);first | exact q | (rw [HB0.out];exact q)⟩
theorem Encode_2 (aA:Bool) (id:Int) (token aC:Nat) (mac:ByteArray) (hx:Jn.Ok ⟨2,aA,id,token,aC,mac⟩) (hm:Jn.May ⟨2,aA,id,token,aC,mac⟩) (w:World) (ht:Tbl w):
  Calls Tryz.prog 72 #[.agg (jnv ⟨2,aA,id,token,aC,mac⟩)] w (Rt w (bJ ⟨2,aA,id,token,aC,mac⟩)):=by
 rw [gQ _ hm]
 obtain ⟨T,hT⟩:=eqx (txt (Jn.body ⟨2,aA,id,token,aC,mac⟩))
 rw [←hT]
 have hmm:=hm
 obtain ⟨-,⟨i0,i1⟩,hms, -⟩:=hm
 have i0:0≤id:=i0
 have i1:id≤255:=i1
 have hms:mac.size=20:=hms
 obtain ⟨i,hi⟩:∃i:Nat,id=(i:Int):=⟨id.toNat,by omega⟩
 have nK:i≤255:=by omega
 obtain ⟨T1,hT1⟩:∃T,T=txt (be 1 (Jn.first aA)):=⟨_,rfl⟩
 obtain ⟨F,hF⟩:=eqx (T1++txt (be 1 i))
 have hFt:F=txt [UInt8.ofNat (Jn.first aA),UInt8.ofNat id.toNat]:=by rw [hF,hT1,show i=id.toNat by omega];exact kF ⟨2,aA,id,token,aC,mac⟩
 have hFs:F.size≤100:=by rw [hFt,aO];simp
 have HTT:=Lh (show T=F++mac by rw [hT,←body_2 ⟨2,aA,id,token,aC,mac⟩ rfl,hFt])
 have HMS:=Lh hms
 have HM:=Lh (show Jn.May ⟨2,aA,id,token,aC,mac⟩ from hmm)
 have HX:=Lh hx
 have HI:=Lh (show Jn.id ⟨2,aA,id,token,aC,mac⟩=(i:Int) from hi)
 have HT1:=Lh (show T1=txt (be 1 (Jn.first (Jn.aA ⟨2,aA,id,token,aC,mac⟩))) from hT1)
 have HF:=Lh (show T1++⟨(be 1 i).toArray⟩=F from hF.symm)
 obtain ⟨w0,hw0⟩:=eqx (w.alloc (.cells (jnv ⟨2,aA,id,token,aC,mac⟩) 29))
 obtain ⟨b0,hb0⟩:=eqx w.heap.size
 have hc0:Blk w0 b0 29 (jnv ⟨2,aA,id,token,aC,mac⟩):=by rw [hw0,hb0];exact Blk.new _ _ _
 have HC0:=Lh hc0
 have HBW:=Lh (mX hw0)
 have HTB:=Lh (show Tbl w0 by rw [hw0];exact ht.alloc _)
 have HW0:=Lh hw0
 have HB0:=Lh hb0
 have HC1:=hc0
 rw [hw0,hb0] at HC1
 have jQ:=Lh HC1
 clear hmm hT hms hi hT1 hF hFt hw0 hb0 hc0 ht hx i0 i1 HC1
 go_enter Tryz.func72,Tryz.ntmps72
 go_wp2_with (refine wpList_load_row rfl 29 _ rfl w.heap.size rfl 29 (jnv ⟨2,aA,id,token,aC,mac⟩) (0,0) _ ?_ Tryz.underlying29 rfl bY ?_;exact jQ.out)
 rw [←HW0.out,←HB0.out]
 refine (bW ⟨2,aA,id,token,aC,mac⟩ HX.out _ HTB.out).mono ?_
 rintro e V ⟨rfl,bv⟩
 rw [decide_eq_true HM.out]
 have HC:=Lh (HC0.out.below bv HC0.out.lt)
 have HBV:=Lh (HBW.out.trans (bv.mono HBW.out.size))
 clear bv HC0 HBW HTB HW0 jQ
 go_upto_region 3 with fail
 refine bI (n:=8) rfl fun W0 B0=>?_
 refine stG 0 (.agg (jnv ⟨2,aA,id,token,aC,mac⟩)) rfl B0 (fun W b=>xRw 29 (.tmp 1) b0 (HC.out.below b HC.out.lt) Tryz.underlying29 bY) (stF 2 (.pointer (some ⟨b0,0,none⟩)) rfl B0 (stG 3 (.int .i64 2) rfl B0 (fun W b=>xLd 3 (.tmp 9) ⟨b0,0,none⟩ ((HC.out.below b HC.out.lt).cell 0)) ?_))
 refine gV 1 rfl (by kernel_rfl) (by kernel_rfl) (by kernel_rfl) (gY ⟨2,aA,id,token,aC,mac⟩ i HI.out nK T1 F HT1.out HF.out _) (fun v w' h=>aU B0 h.below) ?_
 intro v0 W1 hW1
 obtain ⟨g,c,rfl,hg,hc,hb⟩:=hW1
 have B1:=aU B0 hb
 clear B0 hb
 have HG:=Lh hg
 have HCC:=Lh hc
 clear hg hc
 refine stF 4 (enc3 g c) rfl B1 ?_
 refine stB 5 rfl (enc3_any ⟨2,aA,id,token,aC,mac⟩ HX.out F (by omega) (by have:=HMS.out;show mac.size≤100;omega) T HTT.out g c _ HG.out HCC.out) B1 fun W2 B2=>?_
 clear B1
 refine stF 6 (.string T) rfl B2 (stF 7 (.int .i64 0) rfl B2 ?_)
 refine aG (by kernel_rfl) ?_
 go_wp2_with fail
 exact aP 2 3 (.string T) (.int .i64 0) (by kernel_rfl) (by kernel_rfl) (by kernel_rfl) (by kernel_rfl) ⟨rfl,by have q:=HBV.out.trans (B2.mono HBV.out.size);first | exact q | (rw [HB0.out];exact q)⟩
theorem Encode_no (x:Jn) (hx:x.Ok) (hm:¬x.May) (w:World) (ht:Tbl w):
  Calls Tryz.prog 72 #[.agg (jnv x)] w (Rt w (bJ x)):=by
 rw [jA x hm]
 have HC:=Lh (Blk.new w 29 (jnv x))
 have HB:=Lh ((Below.refl _ w).alloc (Nat.le_refl _) (.cells (jnv x) 29))
 have HT:=Lh (ht.alloc (.cells (jnv x) 29))
 have HM:=Lh hm
 have HX:=Lh hx
 clear hm hx ht
 go_enter Tryz.func72,Tryz.ntmps72
 go_wp2_with (refine wpList_load_row rfl 29 _ rfl w.heap.size rfl 29 (jnv x) (0,0) _ ?_ Tryz.underlying29 rfl bY ?_;exact HC.out)
 refine (bW x HX.out _ HT.out).mono ?_
 rintro e V ⟨rfl,bv⟩
 rw [decide_eq_false HM.out]
 have HBV:=Lh (HB.out.trans (bv.mono HB.out.size))
 clear bv
 go_wp2_with fail
 exact aP 2 3 (.string ⟨#[]⟩) (.int .i64 2) rfl rfl rfl rfl ⟨rfl,HBV.out⟩
theorem dC (x:Jn) (hx:x.Ok) (w:World) (ht:Tbl w):
  Calls Tryz.prog 72 #[.agg (jnv x)] w (Rt w (bJ x)):=by
 by_cases hm:x.May
 ·obtain ⟨form,aA,id,token,aC,mac⟩:=x
  have hf:=Jn.forms hm
  rcases hf with h | h | h
  ·have h:form=0:=h
   subst h
   exact Encode_0 aA id token aC mac hx hm w ht
  ·have h:form=1:=h
   subst h
   exact Encode_1 aA id token aC mac hx hm w ht
  ·have h:form=2:=h
   subst h
   exact Encode_2 aA id token aC mac hx hm w ht
 ·exact Encode_no x hx hm w ht
open Go.ChangeShapes Go.WideShapes Go.ChangeAt Go.RowKit
abbrev cnv (k:Nat) (x:Jn):Array Value:=#[.int .i64 (k:Int),.int .i64 x.form,.bool x.aA,.int .i64 x.id,.int .u32 (x.token:Int),.int .u32 (x.aC:Int),.string x.mac]
structure Rd (w W:World) (r c:Nat) (s:ByteArray) (k:Nat):Prop where
 hr:Blk W r 182 (cnv 0 Jn.zero)
 cur:Cur W c s k false
 tb:Tbl W
 hb:Below w.heap.size w W
 rc:1 < r∧r < c
 wr:w.heap.size=r
theorem Rd.alloc {w W:World} {r c:Nat} {s:ByteArray} {k:Nat} (h:Rd w W r c s k) (o:Obj):Rd w (W.alloc o) r c s k:=
 ⟨h.hr.alloc o,Blk.alloc h.cur o,h.tb.alloc o,h.hb.alloc h.hb.size o,h.rc,h.wr⟩
theorem Rd.set {w W:World} {r c:Nat} {s:ByteArray} {k:Nat} (h:Rd w W r c s k) (x i:Nat) (v:Value) (hx:c < x):Rd w (W.setCell ⟨x,i,none⟩ v) r c s k:=by
 have g:∀j,j < x→(W.setCell ⟨x,i,none⟩ v).heap[j]?=W.heap[j]?:=fun j hj=>Below.heap_setCell W ⟨x,i,none⟩ v j (by show j≠x;omega)
 have hrc:=h.rc
 have hwr:=h.wr
 refine ⟨h.hr.same (g _ (by omega)),Blk.same h.cur (g _ hx),?_,h.hb.setCell (p:=⟨x,i,none⟩) (by show w.heap.size≤x;omega) v,h.rc,h.wr⟩
 exact h.tb.under (B:=c) ((Below.refl c W).setCell (p:=⟨x,i,none⟩) (by show c≤x;omega) v) (by omega)
theorem Rd.row {w W:World} {r c:Nat} {s:ByteArray} {k:Nat} (h:Rd w W r c s k) (x:Nat) (cs:Array Value) (hx:c < x):Rd w (W.setRow x cs) r c s k:=by
 have g:∀j,j≠x→(W.setRow x cs).heap[j]?=W.heap[j]?:=fun j hj=>setRow_other W x j cs hj
 have hrc:=h.rc
 have hwr:=h.wr
 exact ⟨h.hr.same (g _ (by omega)),Blk.same h.cur (g _ (by omega)),h.tb.under (B:=c) (below_setRow (Below.refl c W) (Nat.le_of_lt hx) cs) (by omega),below_setRow h.hb (by omega) cs,h.rc,h.wr⟩
theorem aY {P:Program} {fn:Func} {p t:Tmp} {ty:TypeId} (h:fn.results=#[.cell p ty,.tmp t]) (tmps:Array Value) (w:World) (g:Nat) (t':TypeId) (cs:Array Value) (fr:Nat×Nat) (d:TypeDesc)
  (hp:tmps.getD p undef= .pointer (some ⟨g,0,none⟩)) (hg:w.heap[g]?=some (.cells cs t' fr))
  (hu:P.underlying ty=some d) (hd:(match d with | .struct _ | .array _ _=>true | _=>false)=true) (hi:(P.info? ty).map (·.size)=some cs.size):
  (results fn tmps).run P w= .ok (.tuple #[.agg cs,tmps.getD t undef]) w:=by
 have hp':tmps[p]?.getD undef= .pointer (some ⟨g,0,none⟩):=by simpa using hp
 simp [results,h,hp',asAddr,run_loadVar_row w g t' ty cs fr d hg hu hd hi]
end Go.Proofs.YtklakghlliihkaaGreatDoor.L10
