/- PkOpt1. -/
import Derived.Test.YtklakghlliihkaaGreatDoorPkBase
import Derived.Test.YtklakghlliihkaaGreatDoorPkOpt0
import Derived.Laws.Entries
import Derived.Lib.MinMax
set_option maxHeartbeats 4000000
set_option maxRecDepth 100000
set_option linter.unusedVariables false
set_option linter.unusedSimpArgs false
set_option pp.deepTerms true
set_option pp.maxSteps 10000000
namespace Go.Proofs.YtklakghlliihkaaGreatDoor.L14
open Go Go.RowKit Go.ChangeAt Go.Proofs.YtklakghlliihkaaGreatDoor.L15
theorem info_int:(Tryz.prog.info? 3).map (fun i=>(i.zero,i.size,i.bytes))=some (some (.int .i64 0),1,8):=by kernel_rfl
theorem info_bool:(Tryz.prog.info? 4).map (fun i=>(i.zero,i.size,i.bytes))=some (some (.bool false),1,1):=by kernel_rfl
theorem made_ints (W:World) (n:Nat) (hn:n≤1000):(Instr.makeSlice 95 (.int .i64 (n:Int)) (.int .i64 (n:Int))).run Tryz.prog W= .ok (.slice (some ⟨W.heap.size,0,none⟩) n n) (W.alloc (.cells (pl (fun _=>0) n) 3)):=by
 have hi:=info_int
 cases hq:Tryz.prog.info? 3 with
 | none=>simp [hq] at hi
 | some i=>
  simp [hq] at hi
  obtain ⟨hz,h1,h2⟩:=hi
  have hr:=run_make (P:=Tryz.prog) W 95 3 i _ Tryz.underlying95 hq hz .i64 .i64 n n (by omega) (Int.le_refl _) (by rw [h2];omega) (by omega)
  rw [hr,h1,Int.toNat_natCast,Nat.mul_one]
  have e:madeCells (Value.cells (.int .i64 0)) n=pl (fun _=>0) n:=by
   apply Array.toList_inj.1
   show (madeCells #[.int .i64 0] n).toList=_
   rw [toList_madeCells_one,pl,List.map_const',List.length_range];rfl
  rw [e]
def bl (f:Nat→Bool) (n:Nat):Array Value:=((List.range n).map fun i=>Value.bool (f i)).toArray
theorem nO (f:Nat→Bool) (n:Nat):(bl f n).size=n:=by simp [bl]
theorem nT (f:Nat→Bool) {n i:Nat} (h:i < n):(bl f n)[i]?=some (.bool (f i)):=by simp [bl,h]
theorem bl_set (f:Nat→Bool) (n i:Nat) (b:Bool):(bl f n).setIfInBounds i (.bool b)=bl (fun k=>if k=i then b else f k) n:=by
 apply Array.ext_getElem?
 intro k
 rw [Array.getElem?_setIfInBounds]
 by_cases hk:k < n
 ·rw [nT f hk,nT _ hk,nO]
  by_cases h:k=i
  ·subst h;simp [hk]
  ·rw [if_neg (fun q=>h q.symm),if_neg h]
 ·have a:∀f:Nat→Bool,(bl f n)[k]?=none:=fun f=>Array.getElem?_eq_none (by rw [nO];omega)
  rw [a,a,nO]
  by_cases h:i=k
  ·subst h;simp [hk]
  ·rw [if_neg h]
theorem made_bools (W:World) (n:Nat) (hn:n≤1000):(Instr.makeSlice 94 (.int .i64 (n:Int)) (.int .i64 (n:Int))).run Tryz.prog W= .ok (.slice (some ⟨W.heap.size,0,none⟩) n n) (W.alloc (.cells (bl (fun _=>false) n) 4)):=by
 have hi:=info_bool
 cases hq:Tryz.prog.info? 4 with
 | none=>simp [hq] at hi
 | some i=>
  simp [hq] at hi
  obtain ⟨hz,h1,h2⟩:=hi
  have hr:=run_make (P:=Tryz.prog) W 94 4 i _ Tryz.underlying94 hq hz .i64 .i64 n n (by omega) (Int.le_refl _) (by rw [h2];omega) (by omega)
  rw [hr,h1,Int.toNat_natCast,Nat.mul_one]
  have e:madeCells (Value.cells (.bool false)) n=bl (fun _=>false) n:=by
   apply Array.toList_inj.1
   show (madeCells #[.bool false] n).toList=_
   rw [toList_madeCells_one,bl,List.map_const',List.length_range]
  rw [e]
theorem comp_any (x y:Op) (w:World):Calls Tryz.prog 44 #[.agg (ov x),.agg (ov y)] w (Rt w (.int .i64 (jH (rkO x) (rkO y)))):=by
 go_enter Tryz.func44,Tryz.ntmps44
 go_upto_region 1 with (first
  | (refine aZ rfl 45 (.tmp 0) rfl (ov x) rfl ?_;intro U b hb hU;have HA:=Lh (show Blk U b 45 (ov x)∧Below w.heap.size w U by subst hb;subst hU;exact ⟨Blk.new _ _ _,(Below.refl _ w).alloc (Nat.le_refl _) _⟩);clear hb hU)
  | (refine aZ rfl 45 (.tmp 1) rfl (ov y) rfl ?_;intro V b2 hb hU;have HB:=Lh (show Blk V b2 45 (ov y)∧Blk V b 45 (ov x)∧Below w.heap.size w V by subst hb;subst hU;exact ⟨Blk.new _ _ _,HA.out.1.alloc _,HA.out.2.alloc HA.out.2.size _⟩);clear hb hU HA))
 refine bI (n:=6) rfl ?_
 intro Z0 B0
 refine stG 0 (.agg (ov x)) rfl B0 (fun W q=>xRw 45 (.tmp 2) b (HB.out.2.1.below q HB.out.2.1.lt) Tryz.underlying45 (aJ x)) (stG 2 (.agg (ov y)) rfl B0 (fun W q=>xRw 45 (.tmp 3) b2 (HB.out.1.below q HB.out.1.lt) Tryz.underlying45 (aJ y)) ?_)
 refine stB 1 (v:=.int .i64 (rkO x:Int)) rfl (jJ x _ (.inl rfl) Z0) B0 ?_
 intro Z1 B1
 clear B0
 refine stB 3 (v:=.int .i64 (rkO y:Int)) rfl (jJ y _ (.inl rfl) Z1) B1 ?_
 intro Z2 B2
 clear B1
 refine stB 4 (v:=.int .i64 (jH (rkO x) (rkO y))) rfl ((compare_any (rkO x) (rkO y) Z2).mono (by rintro e W ⟨rfl,rfl⟩;exact ⟨rfl,Below.refl _ _⟩)) B2 ?_
 intro Z3 B3
 clear B2
 refine stF 5 (.int .i64 (jH (rkO x) (rkO y))) rfl B3 ?_
 refine aN ⟨List.toArray (Value.agg (ov x)::Value.agg (ov y)::Value.pointer (some ⟨b,0,none⟩)::Value.pointer (some ⟨b2,0,none⟩)::Value.int .i64 (jH (rkO x) (rkO y))::Value.agg (ov x)::Value.int .i64 (rkO x:Int)::Value.agg (ov y)::Value.int .i64 (rkO y:Int)::Value.int .i64 (jH (rkO x) (rkO y))::[]),[]⟩ (by kernel_rfl) (by kernel_rfl) ?_
 go_wp2_with fail
 go_ret
 exact ⟨rfl,HB.out.2.2.trans (B3.mono HB.out.2.2.size)⟩
theorem closure_any (c1 c2:Nat) (v:Value) (l:List Op) (hl:l.length≤1000) (p q:Nat) (x y:Op) (hx:l[p]?=some x) (hy:l[q]?=some y) (w:World) (h1:Blk w c1 98 #[.func (.func 44) #[] #[]]) (h2:Blk w c2 48 #[v]) (hr:lZ w v l):
  Calls Tryz.prog 65 #[.int .i64 (p:Int),.int .i64 (q:Int),.pointer (some ⟨c1,0,none⟩),.pointer (some ⟨c2,0,none⟩)] w (Rt w (.int .i64 (jH (rkO x) (rkO y)))):=by
 have H1:=Lh h1
 have H2:=Lh h2
 have hp:p < l.length:=(List.getElem?_eq_some_iff.1 hx).1
 have hq:q < l.length:=(List.getElem?_eq_some_iff.1 hy).1
 obtain ⟨pp,cap,hv,hlc,hcap,hc⟩:=id hr
 subst hv
 obtain ⟨ad,e1,hg,hra⟩:=hr.at p x hx
 obtain ⟨ad',e2,hg',hrb⟩:=hr.at q y hy
 subst e1
 obtain rfl:ad=ad':=Option.some.inj e2
 have HRA:=Lh hra
 have HRB:=Lh hrb
 have HG:=Lh hg
 have HP:=Lh (fun W=>kS ad p l.length cap hp (by omega) W)
 have HQ:=Lh (fun W=>kS ad q l.length cap hq (by omega) W)
 clear h1 h2 hr hra hrb hg hg' hc hx hy e2
 go_enter Tryz.func65,Tryz.ntmps65
 go_upto_region 1 with fail
 refine bI (n:=11) rfl ?_
 intro Z0 B0
 refine stG 0 (.func (.func 44) #[] #[]) rfl B0 (fun W b=>xLd 98 (.tmp 2) ⟨c1,0,none⟩ (((H1.out.below b H1.out.lt).cell 0).trans rfl)) (stG 1 (.slice (some ad) l.length cap) rfl B0 (fun W b=>xLd 48 (.tmp 3) ⟨c2,0,none⟩ (((H2.out.below b H2.out.lt).cell 0).trans rfl)) (stF 2 (.int .i64 (p:Int)) rfl B0 (stG 3 (.pointer (some (ad.add (p * 38)))) rfl B0 (fun W _=>gZ 48 (.tmp 8) (.tmp 9) _ _ _ (HP.out W)) (stG 4 (.agg (ov x)) rfl B0 (fun W b=>qP (.tmp 10) (ad.add (p * 38)) x (lS HRA.out (b.block _ HG.out))) (stG 5 (.slice (some ad) l.length cap) rfl B0 (fun W b=>xLd 48 (.tmp 3) ⟨c2,0,none⟩ (((H2.out.below b H2.out.lt).cell 0).trans rfl)) (stF 6 (.int .i64 (q:Int)) rfl B0 (stG 7 (.pointer (some (ad.add (q * 38)))) rfl B0 (fun W _=>gZ 48 (.tmp 12) (.tmp 13) _ _ _ (HQ.out W)) (stG 8 (.agg (ov y)) rfl B0 (fun W b=>qP (.tmp 14) (ad.add (q * 38)) y (lS HRB.out (b.block _ HG.out))) ?_))))))))
 refine stB 9 (v:=.int .i64 (jH (rkO x) (rkO y))) rfl (comp_any x y Z0) B0 ?_
 intro Z1 B1
 clear B0
 refine stF 10 (.int .i64 (jH (rkO x) (rkO y))) rfl B1 ?_
 refine aN ⟨List.toArray (Value.int .i64 (p:Int)::Value.int .i64 (q:Int)::Value.pointer (some ⟨c1,0,none⟩)::Value.pointer (some ⟨c2,0,none⟩)::undef::undef::Value.int .i64 (jH (rkO x) (rkO y))::Value.func (.func 44) #[] #[]::Value.slice (some ad) l.length cap::Value.int .i64 (p:Int)::Value.pointer (some (ad.add (p * 38)))::Value.agg (ov x)::Value.slice (some ad) l.length cap::Value.int .i64 (q:Int)::Value.pointer (some (ad.add (q * 38)))::Value.agg (ov y)::Value.int .i64 (jH (rkO x) (rkO y))::[]),[]⟩ (by kernel_rfl) (by kernel_rfl) ?_
 go_wp2_with fail
 go_ret
 exact ⟨rfl,B1⟩
theorem fill_step (j:Nat):upd (fun i=>if i < j then i else 0) j j=fun i=>if i < j+1 then i else 0:=by
 funext i
 unfold upd
 show (if i=j then j else if i < j then i else 0)=if i < j+1 then i else 0
 by_cases e:i=j
 ·rw [if_pos e,if_pos (by omega),e]
 ·rw [if_neg e]
  by_cases q:i < j
  ·rw [if_pos q,if_pos (by omega)]
  ·rw [if_neg q,if_neg (by omega)]
theorem Rw_same {w0 W:World} {g:Nat} {d e:Nat→Nat} {n:Nat} (h:Rw w0 W g d n) (q:∀i,i < n→d i=e i):Rw w0 W g e n:=⟨h.grown,by rw [←pl_congr q];exact h.blk⟩
def rkL (l:List Op) (i:Nat):Nat:=match l[i]? with | some x=>rkO x | none=>0
theorem rkL_at {l:List Op} {i:Nat} {x:Op} (h:l[i]?=some x):rkL l i=rkO x:=by unfold rkL;rw [h]
theorem pR (l:List Op) (i:Nat):rkL l i < 10:=by
 unfold rkL
 cases l[i]? with
 | none=>decide
 | some x=>exact rkO_lt x
theorem cmp_of (c1 c2 g:Nat) (v:Value) (l:List Op) (hl:l.length≤1000) (w:World) (n0:Nat) (h1:Blk w c1 98 #[.func (.func 44) #[] #[]]) (h2:Blk w c2 48 #[v]) (hr:eX n0 w v l) (hn:n0≤w.heap.size) (hg:n0≤g) (g1:c1≠g) (g2:c2≠g):Cmp c1 c2 w g l.length (rkL l):=by
 intro W hW p q hp hq
 obtain ⟨x,hx⟩:∃x,l[p]?=some x:=⟨_,List.getElem?_eq_getElem hp⟩
 obtain ⟨y,hy⟩:∃y,l[q]?=some y:=⟨_,List.getElem?_eq_getElem hq⟩
 refine ⟨_,closure_any c1 c2 v l hl p q x y hx hy W (h1.grown hW (by intro e;injection e with e;exact g1 e)) (h2.grown hW (by intro e;injection e with e;exact g2 e)) ((hr.keep fun k hk=>hW.block k (Nat.lt_of_lt_of_le hk hn) (by intro e;injection e with e;omega)).wide (Nat.le_trans hn hW.size)),?_⟩
 rw [rkL_at hx,rkL_at hy];exact cmpN_neg _ _
theorem visits_any (v:Value) (l:List Op) (hl:l.length < 40) (w:World) (hr:lZ w v l):Calls Tryz.prog 43 #[v,.func (.func 44) #[] #[]] w fun e w'=>
  ∃(g:Nat) (d:Nat→Nat),e= .returned (.slice (some ⟨g,0,none⟩) l.length l.length)∧Blk w' g 3 (pl d l.length)∧Done (rkL l) id d 0 l.length∧Below w.heap.size w w':=by
 have HR:=Lh hr
 obtain ⟨p,cap,hv,hlc,hcap,hc⟩:=id hr
 clear hc hr
 have hl2:(l.length:Int) < 40:=by omega
 subst hv
 go_enter Tryz.func43,Tryz.ntmps43
 go_upto_region 1 with fail
 obtain ⟨c2,hc2⟩:∃c,c=w.heap.size:=⟨_,rfl⟩
 obtain ⟨c1,hc1⟩:∃c,c=w.heap.size+1:=⟨_,rfl⟩
 obtain ⟨V,hV⟩:=eqx ((w.alloc (.cells #[.slice p l.length cap] 48)).alloc (.cells #[.func (.func 44) #[] #[]] 98))
 have H2:=Lh (show Blk V c2 48 #[.slice p l.length cap] by rw [hV,hc2];exact (Blk.new _ _ _).alloc _)
 have H1:=Lh (show Blk V c1 98 #[.func (.func 44) #[] #[]] by rw [hV,hc1];have:=Blk.new (w.alloc (.cells #[.slice p l.length cap] 48)) 98 #[.func (.func 44) #[] #[]];simpa using this)
 have HB:=Lh (show Below w.heap.size w V by rw [hV];exact ((Below.refl _ w).alloc (Nat.le_refl _) _).alloc (by simp) _)
 have HCS:=Lh (show c1 < V.heap.size∧c2 < V.heap.size from ⟨H1.out.lt,H2.out.lt⟩)
 rw [←hV,←hc1,←hc2]
 clear hV hc1 hc2
 have k2:=H2.out.cell 0
 simp only [List.getElem?_toArray,List.getElem?_cons_zero] at k2
 have hmk:=made_ints V l.length (by omega)
 go_upto_region 2 with fail
 clear hmk
 obtain ⟨g,hg⟩:=eqx V.heap.size
 obtain ⟨V2,hV2⟩:∃W,W=V.alloc (.cells (pl (fun _=>0) l.length) 3):=⟨_,rfl⟩
 have HRW:=Lh (show Rw V2 V2 g (fun _=>0) l.length by rw [hV2,hg];exact Rw.start (Blk.new _ _ _))
 have HBV:=Lh (mX hV2)
 have HGS:=Lh hg
 rw [←hV2,←hg]
 clear hV2 hg k2
 go_wp2_with fail
 go_loopw [6,12] (fun v6 vi wr=>∃j:Nat,j≤l.length∧vi= .int .i64 (j:Int)∧Hid (Rw V2 wr g (fun i=>if i < j then i else 0) l.length)) (fun _ vi _=>l.length - (intOf vi).toNat)
 case atStart=>exact ⟨0,Nat.zero_le _,rfl,Lh (HRW.out.to (by funext i;simp))⟩
 case round=>
  obtain ⟨j,hj,rfl,HX⟩:=hrel
  by_cases hlt:j < l.length
  ·have hl3:(j:Int) < (l.length:Int):=by omega
   have hpl:=lX g j l.length l.length hlt (by omega)
   have cj:=HX.out.cell hlt
   have fj:=HX.out.blk.frozen j
   go_wp2_with fail
   have HY:=Lh (HX.out.put (i:=j) (e:=j))
   generalize wr.setCell ⟨g,j,none⟩ (.int .i64 (j:Int))=w3 at HY ⊢
   clear cj fj HX hpl
   go_wp2_with fail
   go_roundw
   case rel=>exact ⟨j+1,by omega,by go_num,Lh (HY.out.to (fill_step j))⟩
   case measure=>simp [intOf];omega
  ·have hl3:¬(j:Int) < (l.length:Int):=by omega
   have e:j=l.length:=by omega
   subst e
   have HI:=Lh (show Rw V2 wr g id l.length from Rw_same HX.out fun i hi=>by show (if i < l.length then i else 0)=i;rw [if_pos hi])
   have HN:=Lh (show c1≠g∧c2≠g by have h1:=HCS.out;have h2:=HGS.out;omega)
   have HRO:=Lh (show eX V.heap.size wr (.slice p l.length cap) l from (eX.below HR.out HB.out).keep fun k hk=>(HI.out.grown.block k (Nat.lt_of_lt_of_le hk HBV.out.size) (by intro e;injection e with e;have:=HGS.out;omega)).trans (HBV.out.block k hk))
   have HC:=Lh (cmp_of c1 c2 g (.slice p l.length cap) l (by omega) wr V.heap.size ((H1.out.below HBV.out HCS.out.1).grown HI.out.grown (by intro e;injection e with e;exact HN.out.1 e)) ((H2.out.below HBV.out HCS.out.2).grown HI.out.grown (by intro e;injection e with e;exact HN.out.2 e)) HRO.out (Nat.le_trans HBV.out.size HI.out.grown.size) (by have:=HGS.out;omega) HN.out.1 HN.out.2)
   clear HX
   go_wp2_with fail
   refine (sorted_any c1 c2 g l.length l.length hl (rkL l) id wr HC.out (fun x hx=>hx) (fun x y h1 _=>h1) HI.out.blk).mono ?_
   rintro e w3 ⟨rfl,d,hw,hd⟩
   have HW:=Lh (HI.out.trans hw)
   have HD:=Lh hd
   clear hw hd
   go_wp2_with fail
   go_ret
   exact ⟨g,d,rfl,HW.out.blk,HD.out,(HB.out.trans (HBV.out.mono HB.out.size)).trans (aB HW.out.grown (by have:=HGS.out;have:=HB.out.size;omega) (Nat.le_trans HB.out.size HBV.out.size))⟩
open Go Go.RowKit Go.ChangeAt
noncomputable def szO (x:Op):Nat:=if lY x then 2+x.body.1.size else 0
theorem mF {x:Op} (h:lY x):szO x=2+x.body.1.size:=if_pos h
theorem rF {x:Op} (h:¬lY x):szO x=0:=if_neg h
theorem szO_le (x:Op):szO x≤40:=by
 by_cases h:lY x
 ·rw [mF h];have:=(kZ x h.1).2;omega
 ·rw [rF h];omega
theorem fV (x:Op) (hx:x.Ok) (w:World) (ht:L10.Tbl w) (hh:Hnd w):Calls Tryz.prog 17 #[.agg (ov x)] w (Rt w (.int .i64 (szO x:Int))):=by
 have HX:=Lh hx
 have HT:=Lh ht
 have HH:=Lh hh
 clear ht hh
 obtain ⟨R,hR⟩:=eqx (szO x)
 have HR:=Lh hR
 rw [←hR]
 clear hx hR
 by_cases hm:lY x
 ·obtain ⟨T,hT⟩:=eqx x.body.1
  have HM:=Lh (show R=2+T.size by rw [HR.out,mF hm,hT])
  have HV:=Lh (show bJ x= .tuple #[.agg (itv (30,T)),.int .i64 0] by unfold bJ;rw [encO_t hm,hT])
  have hts:T.size≤38:=by rw [hT];exact (kZ x hm.1).2
  have hts2:(T.size:Int)≤38:=by omega
  clear hm hT
  go_enter Tryz.func17,Tryz.ntmps17
  go_upto_region 1 with (refine aZ rfl 45 _ rfl (ov x) rfl ?_;intro V b hb hU;have HA:=Lh (show Blk V b 45 (ov x)∧Below w.heap.size w V by subst hb;subst hU;exact ⟨Blk.new _ _ _,(Below.refl _ w).alloc (Nat.le_refl _) _⟩);clear hb hU)
  go_wp2_with (refine ldO rfl _ rfl b rfl x HA.out.1 ?_)
  refine (answer (dC x HX.out V (HT.out.below HA.out.2) (HH.out.below HA.out.2)) HV.out).mono ?_
  rintro e W ⟨rfl,q⟩
  have HB:=Lh (HA.out.2.trans (q.mono HA.out.2.size))
  clear q HA
  go_upto_region 2 with (refine wp_varI rfl rfl 3 rfl rfl _ rfl (30,T) (fun _=>by kernel_rfl) (fun _=>by kernel_rfl) ?_;intro U X hb hB hx;have HI:=Lh hb;have HB2:=Lh (HB.out.trans (hB.mono HB.out.size));clear hb hB hx)
  have ct:=(HI.out.cell 1).trans (show _=some (Value.string T) by kernel_rfl)
  go_wp2_with fail
  go_ret
  exact ⟨by rw [HM.out];first | rfl | go_num | (congr 2;omega),HB2.out⟩
 ·have HM:=Lh (show R=0 by rw [HR.out,rF hm])
  have HV:=Lh (show bJ x= .tuple #[.agg (itv (0,⟨#[]⟩)),.int .i64 2] by unfold bJ;rw [nS hm])
  clear hm
  go_enter Tryz.func17,Tryz.ntmps17
  go_upto_region 1 with (refine aZ rfl 45 _ rfl (ov x) rfl ?_;intro V b hb hU;have HA:=Lh (show Blk V b 45 (ov x)∧Below w.heap.size w V by subst hb;subst hU;exact ⟨Blk.new _ _ _,(Below.refl _ w).alloc (Nat.le_refl _) _⟩);clear hb hU)
  go_wp2_with (refine ldO rfl _ rfl b rfl x HA.out.1 ?_)
  refine (answer (dC x HX.out V (HT.out.below HA.out.2) (HH.out.below HA.out.2)) HV.out).mono ?_
  rintro e W ⟨rfl,q⟩
  have HB:=Lh (HA.out.2.trans (q.mono HA.out.2.size))
  clear q HA
  go_upto_region 2 with (refine wp_varI rfl rfl 3 rfl rfl _ rfl (0,⟨#[]⟩) (fun _=>by kernel_rfl) (fun _=>by kernel_rfl) ?_;intro U X hb hB hx;have HB2:=Lh (HB.out.trans (hB.mono HB.out.size));clear hb hB hx)
  go_wp2_with fail
  go_ret
  exact ⟨by rw [HM.out];rfl,HB2.out⟩
end Go.Proofs.YtklakghlliihkaaGreatDoor.L14
namespace Go.Proofs.YtklakghlliihkaaGreatDoor.L15
def fl (sz:Nat→Nat) (M:Int) (P:List Nat):Nat→Bool:=fun i=>decide (i∈P∧0 < sz i∧i ∉ chosen sz M P)
def dP (sz:Nat→Nat) (M:Int) (P:List Nat):Int:=M - (tot sz (chosen sz M P):Int)
theorem fl_nil (sz:Nat→Nat) (M:Int):fl sz M []=fun _=>false:=by funext i;simp [fl]
theorem step_pass {sz:Nat→Nat} {M:Int} {P:List Nat} {i:Nat} (h:sz i=0):chosen sz M (P++[i])=chosen sz M P∧dP sz M (P++[i])=dP sz M P∧fl sz M (P++[i])=fl sz M P:=by
 have e:chosen sz M (P++[i])=chosen sz M P:=by rw [iY,if_neg (by omega),List.append_nil]
 refine ⟨e,by unfold dP;rw [e],?_⟩
 funext k
 unfold fl
 rw [e]
 by_cases q:k=i
 ·subst q;simp [h]
 ·simp [q]
theorem step_take {sz:Nat→Nat} {M:Int} {P:List Nat} {i:Nat} (h0:0 < sz i) (h:(sz i:Int)≤dP sz M P) (hi:i ∉ P):chosen sz M (P++[i])=chosen sz M P++[i]∧dP sz M (P++[i])=dP sz M P - (sz i:Int)∧fl sz M (P++[i])=fl sz M P:=by
 have e:chosen sz M (P++[i])=chosen sz M P++[i]:=by rw [iY,if_pos ⟨h0,h⟩]
 refine ⟨e,?_,?_⟩
 ·unfold dP;rw [e,tot_append];show M - ((tot sz (chosen sz M P)+(sz i+0):Nat):Int)=_;omega
 ·funext k
  unfold fl
  rw [e]
  by_cases q:k=i
  ·subst q;simp [hi]
  ·simp [q]
theorem step_wait {sz:Nat→Nat} {M:Int} {P:List Nat} {i:Nat} (h0:0 < sz i) (h:¬(sz i:Int)≤dP sz M P) (hi:i ∉ P):chosen sz M (P++[i])=chosen sz M P∧dP sz M (P++[i])=dP sz M P∧fl sz M (P++[i])=fun k=>if k=i then true else fl sz M P k:=by
 have e:chosen sz M (P++[i])=chosen sz M P:=by rw [iY,if_neg (fun q=>h q.2),List.append_nil]
 refine ⟨e,by unfold dP;rw [e],?_⟩
 funext k
 unfold fl
 rw [e]
 by_cases q:k=i
 ·subst q
  have:k ∉ chosen sz M P:=fun z=>hi ((gW sz P M).subset z)
  simp [h0,this]
 ·simp [q]
theorem step_at {V:List Nat} {k i:Nat} (h:V[k]?=some i) (hn:V.Nodup):V.take (k+1)=V.take k++[i]∧i ∉ V.take k:=by
 obtain ⟨hk,e⟩:=List.getElem?_eq_some_iff.1 h
 refine ⟨by rw [List.take_add_one,h];rfl,fun q=>?_⟩
 have e2:V=V.take k++i::V.drop (k+1):=by
  conv=>lhs;rw [←List.take_append_drop k V]
  congr 1
  rw [List.drop_eq_getElem_cons hk,e]
 rw [e2] at hn
 exact (List.nodup_append.1 hn).2.2 i q i (List.mem_cons_self ..) rfl
theorem rest_le (sz:Nat→Nat) (M:Int) (P:List Nat):dP sz M P≤M∧min 0 M≤dP sz M P:=by
 have:=iW sz P M
 unfold dP;omega
theorem chosen_len (sz:Nat→Nat) (P:List Nat) (M:Int):(chosen sz M P).length≤P.length:=(gW sz P M).length_le
theorem fl_all {sz rk:Nat→Nat} {M:Int} {n:Nat} (hr:∀i,i < n→rk i < 10):(List.range n).filter (fl sz M (order rk n))=waits sz rk n M:=by
 unfold waits
 refine List.filter_congr fun i hi=>?_
 have hm:i∈order rk n:=(kK rk n hr i).2 (List.mem_range.1 hi)
 unfold fl
 by_cases h:0 < sz i<;>by_cases q:i∈chosen sz M (order rk n)<;>simp [h,q,hm]
theorem filter_step (f:Nat→Bool) (j:Nat):(List.range (j+1)).filter f=(List.range j).filter f++(if f j then [j] else []):=by
 rw [List.range_succ,List.filter_append]
 congr 1
 by_cases h:f j=true
 ·simp [h]
 ·simp [h]
end Go.Proofs.YtklakghlliihkaaGreatDoor.L15
namespace Go.Proofs.YtklakghlliihkaaGreatDoor.L14
open Go Go.RowKit Go.ChangeAt Go.Proofs.YtklakghlliihkaaGreatDoor.L15
def at_ (l:List Op) (i:Nat):Op:=match l[i]? with | some x=>x | none=> .none 0
theorem at_of {l:List Op} {i:Nat} {x:Op} (h:l[i]?=some x):at_ l i=x:=by unfold at_;rw [h]
noncomputable def szL (l:List Op) (i:Nat):Nat:=match l[i]? with | some x=>szO x | none=>0
theorem szL_of {l:List Op} {i:Nat} {x:Op} (h:l[i]?=some x):szL l i=szO x:=by unfold szL;rw [h]
noncomputable def taken (l:List Op) (room:Int):List Op:=(chosen (szL l) (min room 40) (order (rkL l) l.length)).map (at_ l)
noncomputable def eH (l:List Op) (room:Int):List Op:=(waits (szL l) (rkL l) l.length (min room 40)).map (at_ l)
def Packs (l:List Op) (room:Int) (w:World) (e:Ending) (w':World):Prop:=∃v u,e= .returned (.tuple #[v,u])∧aQ w' v (taken l room)∧aQ w' u (eH l room)∧Below w.heap.size w w'
theorem app_in {ops:Array Oper} {rest:List Oper} {o:Oper} {a:Act} {w:World} {Q:Exit→Act→World→Prop} (hgd:o.guard=none) (s x:Operand) (ho:o.op= .call { callee:=.builtin .append,args:=#[s,x],argTypes:=#[48,48] })
  (B:Nat) (W1:World) (gw:Nat) (v:Value) (l:List Op) (y:Op) (hs:a.eval s=v) (h:iU B w v l) (hW:W1.grownBy w (some gw)) (hB:W1.heap.size≤B) (hBw:B≤w.heap.size) (g:Nat) (hg:Blk w g 45 (ov y)) (hx:a.eval x= .slice (some ⟨g,0,none⟩) 1 1) (hl:l.length≤100000)
  (k:∀v' w',iU B w' v' (l++[y])→W1.grownBy w' (some gw)→Below B w w'→wpList Tryz.prog ops Q rest (a.put o.dst v') w'):wpList Tryz.prog ops Q (o::rest) a w:=by
 obtain ⟨ie,hq,hz,s1,b1⟩:=kJ
 refine wpList_append_own _ hgd s x 48 ho B 45 ie (.agg (ov (.none 0))) 38 ie.bytes Tryz.underlying48 hq hz s1 rfl (aF _) (by decide) v l.length (aW l) hs h ⟨g,0,none⟩ 1 1 (aW [y]) hx (fE _) ?_ ?_ ?_ ?_ hBw ?_
 ·intro j u hu
  rw [iZ] at hu
  rw [L4.dB,hg.cell];simpa using hu
 ·exact fun u hu=>cellsO_cell u _ hu
 ·unfold maxLen;omega
 ·have:(l.length+1) * ie.bytes≤100001 * 1000:=Nat.mul_le_mul (by omega) b1
  omega
 ·intro v' w' own grow _
  refine k v' w' ?_ ⟨grow.os.trans hW.os,grow.tape.trans hW.tape,grow.output.trans hW.output,Nat.le_trans hW.size grow.size,fun i hi hne=>(grow.block i (Nat.lt_of_lt_of_le hi hW.size) (fun e=>by have:=iK h i e.symm;omega)).trans (hW.block i hi hne)⟩ ⟨grow.os,grow.tape,grow.output,grow.size,fun i hi=>grow.block i (Nat.lt_of_lt_of_le hi hBw) (fun e=>by have:=iK h i e.symm;omega)⟩
  show w'.ownsRow _ _ 38 v' (l++[y]).length _
  rw [List.length_append,cellsO_append]
  exact own
theorem own_aside {B gw:Nat} {w W:World} {v:Value} {l:List Op} (h:iU B w v l) (g:w.grownBy W (some gw)) (hb:gw < B):iU B W v l:=by
 refine World.ownsRow.kept h g ?_
 cases hv:v.ownBlock with
 | none=>exact .inl rfl
 | some j=>exact .inr fun e=>by have:=iK h j hv;injection e with e;omega
theorem grown_of_alloc {W1 w U:World} {g:Nat} {o:Obj} (h:W1.grownBy w (some g)) (hU:U=w.alloc o):W1.grownBy U (some g):=by subst hU;exact bM h _
theorem blk_of_alloc {w U:World} {g:Nat} {T:TypeId} {cs:Array Value} {o:Obj} (h:Blk w g T cs) (hU:U=w.alloc o):Blk U g T cs:=by subst hU;exact h.alloc _
theorem new_of {w U:World} {X:Nat} {T:TypeId} {cs:Array Value} (hX:X=w.heap.size) (hU:U=w.alloc (.cells cs T)):Blk U X T cs:=by subst hX;subst hU;exact Blk.new _ _ _
theorem oW {a w:World} {X:Nat} (h:Below a.heap.size a w) (hX:X=w.heap.size):a.heap.size≤X:=by subst hX;exact h.size
def Past (B:Nat) (U:World) (v:Value) (l:List Op) (X:Nat):Prop:=iU B U v l∧(v.ownBlock=none∨v.ownBlock≠some X)
theorem past_of {B X:Nat} {w U:World} {v:Value} {l:List Op} {o:Obj} (h:iU B w v l) (hX:X=w.heap.size) (hU:U=w.alloc o):Past B U v l X:=by
 subst hX
 refine ⟨kE (w:=w) h hU,?_⟩
 cases hv:v.ownBlock with
 | none=>exact .inl rfl
 | some j=>exact .inr fun e=>by have:=World.ownsRow.lt h j hv;injection e with e;omega
theorem Past.kept {B X:Nat} {w W:World} {v:Value} {l:List Op} (h:Past B w v l X) (g:w.grownBy W (some X)):iU B W v l:=World.ownsRow.kept h.1 g h.2
theorem place_bl (g j n cap:Nat) (hj:j < n) (hn:n≤1099511627776) (w:World):(Instr.indexAt 94 (.slice (some ⟨g,0,none⟩) n cap) (.int .i64 (j:Int))).run Tryz.prog w= .ok (.pointer (some ⟨g,j,none⟩)) w:=by
 have e2:(sizeOf (Tryz.prog.elem 94)).run Tryz.prog w= .ok 1 w:=by kernel_rfl
 have hu:Tryz.prog.underlying 94=some (.slice (Tryz.prog.elem 94)):=by kernel_rfl
 have e3:(⟨g,0,none⟩:Addr).add j=⟨g,j,none⟩:=dB _ _
 rw [run_indexAt_slice w _ _ _ _ _ _ hu]
 simp [hj,go_sem,e2,e3]
end Go.Proofs.YtklakghlliihkaaGreatDoor.L14
set_option pp.deepTerms true
set_option pp.maxSteps 10000000
namespace Go.Proofs.YtklakghlliihkaaGreatDoor.L14
open Go Go.RowKit Go.ChangeAt Go.Proofs.YtklakghlliihkaaGreatDoor.L15
theorem fM (v:Value) (l:List Op) (hl:l.length < 40) (hok:∀x∈l,x.Ok) (room:Int) (hrm: -9223372036854775808≤room∧room≤9223372036854775807) (w:World) (hr:lZ w v l) (ht:L10.Tbl w) (hh:Hnd w):Calls Tryz.prog 21 #[v,.int .i64 room] w (Packs l room w):=by
 have HT:=Lh ht
 have HH:=Lh hh
 have HR:=Lh hr
 have HOK:=Lh hok
 obtain ⟨M,hM⟩:=eqx (min room 40)
 have HMM:=Lh hM
 have hm1: -9223372036854775808≤M:=by omega
 have hm2:M≤40:=by omega
 have HMR:=Lh (And.intro hm1 hm2)
 obtain ⟨p,cap,hv,hlc,hcap,hc⟩:=id hr
 subst hv
 have hl2:(l.length:Int) < 40:=by omega
 clear hc hr ht hh hok hm1 hm2 hrm hM
 go_enter Tryz.func21,Tryz.ntmps21
 go_upto_region 2 with fail
 rw [show min room 40=M from HMM.out.symm]
 have hmk:=made_bools w l.length (by omega)
 go_upto_region 3 with fail
 clear hmk
 obtain ⟨gw,hg⟩:∃g,g=w.heap.size:=⟨_,rfl⟩
 obtain ⟨V0,hV⟩:∃W,W=w.alloc (.cells (bl (fun _=>false) l.length) 4):=⟨_,rfl⟩
 have HW0:=Lh (show Blk V0 gw 4 (bl (fun _=>false) l.length) by rw [hV,hg];exact Blk.new _ _ _)
 have HB0:=Lh (mX hV)
 have HGS:=Lh (show w.heap.size≤gw by omega)
 rw [←hV,←hg]
 clear hV hg
 go_wp2_with fail
 refine (visits_any (.slice p l.length cap) l hl V0 (eX.below HR.out HB0.out)).mono ?_
 rintro e W1 ⟨gv,d,rfl,hb,hd,q⟩
 have HV:=Lh hb
 have HO:=Lh (sorted_order hd fun i _=>pR l i)
 have HB1:=Lh (HB0.out.trans (q.mono HB0.out.size))
 have HW1:=Lh (HW0.out.below q HW0.out.lt)
 have HGL:=Lh (show gw < W1.heap.size from Nat.lt_of_lt_of_le HW0.out.lt q.size)
 have HNE:=Lh (show gv≠gw from hb.ne_ HW1.out (by decide))
 obtain ⟨V,hV⟩:=eqx (order (rkL l) l.length)
 have HVO:=Lh hV
 have HVL:=Lh (show V.length=l.length by rw [hV,←HO.out,List.length_map,List.length_range])
 have HVA:=Lh (show∀k,k < l.length→V[k]?=some (d k)∧d k < l.length from fun k hk=>by
  have e:V[k]?=some (d k):=by rw [hV,←HO.out,List.getElem?_map,List.getElem?_range hk];rfl
  exact ⟨e,(kK (rkL l) l.length (fun i _=>pR l i) _).1 (by rw [←hV];exact List.mem_of_getElem? e)⟩)
 have HVN:=Lh (show V.Nodup by rw [hV];exact order_nodup _ _)
 obtain ⟨sz,hsz⟩:∃f,f=szL l:=⟨_,rfl⟩
 have HSZ:=Lh hsz
 clear hb hd q hV hsz HW0 HO
 go_wp2_with fail
 go_loopw [1,4,20] (fun vr vt vi wr=>∃k:Nat,k≤l.length∧vi= .int .i64 (k:Int)∧vr= .int .i64 (dP sz M (V.take k))∧Hid (iU W1.heap.size wr vt ((chosen sz M (V.take k)).map (at_ l)))∧Hid (Blk wr gw 4 (bl (fl sz M (V.take k)) l.length))∧Hid (W1.grownBy wr (some gw))) (fun _ _ vi _=>l.length - (intOf vi).toNat)
 case atStart=>exact ⟨0,Nat.zero_le _,rfl,by rw [show dP sz M (V.take 0)=M by unfold dP;show M - ((0:Nat):Int)=M;omega],Lh (World.ownsRow_nil _ _ _ _),Lh (by rw [List.take_zero,fl_nil];exact HW1.out),Lh (World.grownBy.refl _ _)⟩
 case round=>
  obtain ⟨k,hk,rfl,rfl,HT1,HW2,HGR⟩:=hrel
  have HRO:=Lh (show lZ wr (.slice p l.length cap) l from eX.wide (eX.keep (show eX w.heap.size W1 (.slice p l.length cap) l from eX.keep HR.out fun i hi=>HB1.out.block i hi) fun i hi=>HGR.out.block i (Nat.lt_of_lt_of_le hi HB1.out.size) (by intro e;injection e with e;have:=HGS.out;omega)) (Nat.le_trans HB1.out.size HGR.out.size))
  have HBW:=Lh (show Below w.heap.size w wr from HB1.out.trans (aB HGR.out HGS.out HB1.out.size))
  have HVR:=Lh (show Blk wr gv 3 (pl d l.length) from HV.out.grown HGR.out (by intro e;injection e with e;exact HNE.out e))
  by_cases hlt:k < l.length
  ·have hl3:(k:Int) < (l.length:Int):=by omega
   have hlv:=HVL.out
   obtain ⟨i,hi⟩:=eqx (d k)
   obtain ⟨hv1,hv2⟩:=HVA.out k hlt
   rw [←hi] at hv1 hv2
   obtain ⟨x,hx⟩:∃x,l[i]?=some x:=⟨_,List.getElem?_eq_getElem hv2⟩
   obtain ⟨P,hP⟩:=eqx (V.take k)
   rw [←hP] at HT1 HW2 ⊢
   obtain ⟨hs1,hs2⟩:=step_at hv1 HVN.out
   rw [←hP] at hs1 hs2
   have HS1:=Lh hs1
   have HS2:=Lh hs2
   have HX:=Lh hx
   have HXO:=Lh (HOK.out x (List.mem_of_getElem? hx))
   obtain ⟨s,hs⟩:=eqx (szO x)
   have HS:=Lh (show sz i=s by rw [HSZ.out,hs];exact szL_of hx)
   have hs40:(s:Int)≤40:=by rw [hs];have:=szO_le x;omega
   have HSX:=Lh hs.symm
   obtain ⟨Q,hQ⟩:=eqx (dP sz M P)
   have HQ:=Lh hQ
   have HQR:=Lh (show -9223372036854775808≤Q∧Q≤40 by have:=rest_le sz M P;have:=HMR.out;omega)
   rw [←hQ]
   obtain ⟨ga,hp,hga,hra⟩:=eX.at HRO.out i x hx
   subst hp
   have HRA:=Lh hra
   have HGA:=Lh hga
   have HPL:=Lh (fun W=>kS ga i l.length cap hv2 (by omega) W)
   have hpl:=lX gv k l.length l.length hlt (by omega)
   have ck:=(HVR.out.cell k).trans (nH d hlt)
   rw [←hi] at ck
   clear hP hs1 hs2 hx hs hQ hra hga hv1 hi
   have hv3:(i:Int) < (l.length:Int):=by omega
   go_upto_region 6 with fail
   clear ck hpl
   go_wp2_with (first
    | (refine iG rfl (.pointer (some (ga.add (i * 38)))) (gZ 48 (.tmp 24) (.tmp 25) _ _ _ (HPL.out _) rfl rfl rfl) ?_)
    | (refine uK rfl (.tmp 26) rfl (ga.add (i * 38)) rfl x HRA.out ?_))
   refine (answer (fV x HXO.out wr (HT.out.below HBW.out) (HH.out.below HBW.out)) (v':=.int .i64 (s:Int)) (by rw [HSX.out])).mono ?_
   rintro e W2 ⟨rfl,q⟩
   have HT2:=Lh (own_below HT1.out q)
   have HW3:=Lh (HW2.out.below q HW2.out.lt)
   have HG2:=Lh (grown_of_below HGR.out q)
   have HR2:=Lh (lS HRA.out (q.block _ HGA.out))
   clear q HT1 HW2 HGR HRO HBW HVR HRA
   by_cases h0:s=0
   ·have h0':((s:Int)==0)=true:=by rw [h0];rfl
    have H0:=Lh h0
    clear h0
    go_wp2_with fail
    obtain ⟨e1,e2,e3⟩:=step_pass (sz:=sz) (M:=M) (P:=P) (i:=i) (by rw [HS.out];exact H0.out)
    go_roundw
    case rel=>exact ⟨k+1,by omega,by go_num,by rw [HS1.out,e2,←HQ.out],Lh (by rw [HS1.out,e1];exact HT2.out),Lh (by rw [HS1.out,e3];exact HW3.out),HG2⟩
    case measure=>simp [intOf];omega
   ·have h0':((s:Int)==0)=false:=by simp;omega
    have H0:=Lh (show 0 < s by omega)
    clear h0
    by_cases h1:(s:Int)≤Q
    ·obtain ⟨e1,e2,e3⟩:=step_take (sz:=sz) (M:=M) (P:=P) (i:=i) (by rw [HS.out];exact H0.out) (by rw [HS.out,←HQ.out];exact h1) HS2.out
     have hq1:=HQR.out
     have HLN:=Lh (show ((chosen sz M P).map (at_ l)).length≤100000 by rw [List.length_map];have:=chosen_len sz (V.take (k+1)) M;rw [HS1.out,e1,List.length_append,←HS1.out] at this;rw [List.length_take] at this;have:=HVL.out;omega)
     go_wp2_with (first
      | (refine iG rfl (.pointer (some (ga.add (i * 38)))) (gZ 48 (.tmp 40) (.tmp 41) _ _ _ (HPL.out _) rfl rfl rfl) ?_)
      | (refine uK rfl (.tmp 42) rfl (ga.add (i * 38)) rfl x HR2.out ?_)
      | (refine wp_opts rfl 1 #[(0,.tmp 43)] rfl [x] Nat.one_pos (Nat.le_of_ble_eq_true rfl) rfl (by kernel_rfl) ?_;intro U X hX hU;have HN:=Lh (one_blk x hX hU);have HT3:=Lh (kE (w:=w) HT2.out hU);have HG3:=Lh (grown_of_alloc HG2.out hU);have HW5:=Lh (blk_of_alloc HW3.out hU);clear hX hU)
      | (at_builtin;refine app_in rfl (.tmp 39) (.tmp 44) rfl W1.heap.size W1 gw u4 _ x (by kernel_rfl) HT3.out HG3.out (Nat.le_refl _) HG3.out.size X HN.out (by kernel_rfl) HLN.out ?_;intro v4 w4 o4 g4 b4;have HO4:=Lh o4;have HG4:=Lh g4;have HW4:=Lh (HW5.out.below b4 HGL.out);clear o4 g4 b4))
     go_roundw
     case rel=>exact ⟨k+1,by omega,by go_num,by rw [HS1.out,e2,HS.out,←HQ.out],Lh (by rw [HS1.out,e1,List.map_append,show [i].map (at_ l)=[x] by rw [List.map_cons,at_of HX.out];rfl];exact HO4.out),Lh (by rw [HS1.out,e3];exact HW4.out),HG4⟩
     case measure=>simp [intOf];omega
    ·obtain ⟨e1,e2,e3⟩:=step_wait (sz:=sz) (M:=M) (P:=P) (i:=i) (by rw [HS.out];exact H0.out) (by rw [HS.out,←HQ.out];exact h1) HS2.out
     have hpb:=place_bl gw i l.length l.length hv2 (by omega)
     have ck:=(HW3.out.cell i).trans (nT (fl sz M P) hv2)
     have fk:=HW3.out.frozen i
     go_wp2_with fail
     have HW4:=Lh (show Blk (W2.setCell ⟨gw,i,none⟩ (.bool true)) gw 4 (bl (fl sz M (V.take (k+1))) l.length) by rw [HS1.out,e3,←bl_set];exact HW3.out.fJ _ _)
     have HG4:=Lh (show W1.grownBy (W2.setCell ⟨gw,i,none⟩ (.bool true)) (some gw) from aT HG2.out rfl _)
     have HT4:=Lh (show iU W1.heap.size (W2.setCell ⟨gw,i,none⟩ (.bool true)) u4 _ from own_aside HT2.out (aT (World.grownBy.refl _ _) rfl _) HGL.out)
     generalize W2.setCell ⟨gw,i,none⟩ (.bool true)=w4 at HW4 HG4 HT4 ⊢
     clear ck fk hpb
     go_wp2_with fail
     go_roundw
     case rel=>exact ⟨k+1,by omega,by go_num,by rw [HS1.out,e2,←HQ.out],Lh (by rw [HS1.out,e1];exact HT4.out),HW4,HG4⟩
     case measure=>simp [intOf];omega
  ·have hl3:¬(k:Int) < (l.length:Int):=by omega
   have hk2:k=l.length:=by omega
   subst hk2
   go_upto_region 13 with fail
   obtain ⟨W3,hW3⟩:∃W,W=wr:=⟨_,rfl⟩
   rw [←hW3] at HT1 HW2 HGR HRO HBW ⊢
   clear hW3 HVR
   obtain ⟨f,hf⟩:=eqx (fl sz M (V.take l.length))
   have HFF:=Lh hf
   have HWF:=Lh (show Blk W3 gw 4 (bl f l.length) by rw [hf];exact HW2.out)
   clear hf HW2
   go_wp2_with fail
   go_loopw [5,52] (fun vl vi wr=>∃j:Nat,j≤l.length∧vi= .int .i64 (j:Int)∧Hid (iU W3.heap.size wr vl (((List.range j).filter f).map (at_ l)))∧Hid (Below W3.heap.size W3 wr)) (fun _ vi _=>l.length - (intOf vi).toNat)
   case atStart=>exact ⟨0,Nat.zero_le _,rfl,Lh (World.ownsRow_nil _ _ _ _),Lh (Below.refl _ _)⟩
   case round=>
    obtain ⟨j,hj,rfl,HL1,HB3⟩:=hrel
    by_cases hlt:j < l.length
    ·have hl4:(j:Int) < (l.length:Int):=by omega
     obtain ⟨x,hx⟩:∃x,l[j]?=some x:=⟨_,List.getElem?_eq_getElem hlt⟩
     obtain ⟨ga,hp,hga,hra⟩:=eX.at (eX.below HRO.out HB3.out) j x hx
     subst hp
     have HRA:=Lh hra
     have HPL:=Lh (fun W=>kS ga j l.length cap hlt (by omega) W)
     have HX:=Lh hx
     obtain ⟨b,hb⟩:=eqx (f j)
     have HBJ:=Lh hb
     have HWB:=Lh (HWF.out.below HB3.out HWF.out.lt)
     clear hra hga hx hb
     go_upto_region 16 with (first
      | (refine iG rfl (.pointer (some (ga.add (j * 38)))) (gZ 48 (.tmp 50) (.tmp 52) _ _ _ (HPL.out _) rfl rfl rfl) ?_)
      | (refine uK rfl (.tmp 55) rfl (ga.add (j * 38)) rfl x HRA.out ?_)
      | (refine bD rfl 45 rfl (ov (.none 0)) aV ?_;intro U X hX hU;have HN:=Lh (new_of hX hU);have HB4:=Lh (iO HB3.out hU);have HBZ:=Lh (iO (Below.refl wr.heap.size wr) hU);have HGZ:=Lh (oW (Below.refl wr.heap.size wr) hX);have HL2:=Lh (past_of HL1.out hX hU);have HGX:=Lh (oW HB3.out hX);clear hX hU)
      | (refine bC rfl 45 (.tmp 11) (.tmp 56) rfl X rfl 45 (ov (.none 0)) (ov x) rfl HN.out ((aF _).trans (aF _).symm) (aJ _) (bK _) ?_;intro w5 g5 n5;have HBX:=Lh ((HBZ.out.trans (aB g5 HGZ.out HBZ.out.size)));have HN5:=Lh n5;have HB5:=Lh (HB4.out.trans (aB g5 HGX.out HB4.out.size));have HL3:=Lh (HL2.out.kept g5);clear g5 n5))
     rw [put_none]
     have hpb:=place_bl gw j l.length l.length hlt (by omega)
     have ck:=((HWB.out.below (show Below wr.heap.size wr w5 from HBX.out) HWB.out.lt).cell j).trans (nT f hlt)
     rw [←HBJ.out] at ck
     cases b with
     | true=>
      have e:=filter_step f j
      rw [←HBJ.out,if_pos rfl] at e
      have HE:=Lh e
      clear e
      have HLN:=Lh (show (((List.range j).filter f).map (at_ l)).length≤100000 by rw [List.length_map];have:=List.length_filter_le f (List.range j);rw [List.length_range] at this;omega)
      go_upto_region 17 with (refine iG rfl (.bool true) (xLd 4 (.tmp 59) ⟨gw,j,none⟩ ck rfl rfl (by kernel_rfl)) ?_)
      clear ck hpb
      go_wp2_with (first
       | (refine ld_blk rfl (.tmp 11) rfl X rfl x HN5.out ?_)
       | (refine wp_opts rfl 1 #[(0,.tmp 62)] rfl [x] Nat.one_pos (Nat.le_of_ble_eq_true rfl) rfl (by kernel_rfl) ?_;intro U6 X6 hX hU;have HN6:=Lh (one_blk x hX hU);have HL6:=Lh (kE (w:=w) HL3.out hU);have HB6:=Lh (iO HB5.out hU);clear hX hU)
       | (at_builtin;refine app_opt rfl (.tmp 61) (.tmp 63) rfl W3 u5 _ x (by kernel_rfl) HL6.out HB6.out X6 HN6.out (by kernel_rfl) HLN.out ?_;intro v7 w7 o7 b7;have HO7:=Lh o7;have HB7:=Lh b7;clear o7 b7))
      go_roundw
      case rel=>exact ⟨j+1,by omega,by go_num,Lh (by rw [HE.out,List.map_append,show [j].map (at_ l)=[x] by rw [List.map_cons,at_of HX.out];rfl];exact HO7.out),HB7⟩
      case measure=>simp [intOf];omega
     | false=>
      have e:=filter_step f j
      rw [←HBJ.out,if_neg (by decide),List.append_nil] at e
      have HE:=Lh e
      clear e
      go_wp2_with (refine iG rfl (.bool false) (xLd 4 (.tmp 59) ⟨gw,j,none⟩ ck rfl rfl (by kernel_rfl)) ?_)
      go_roundw
      case rel=>exact ⟨j+1,by omega,by go_num,Lh (by rw [HE.out];exact HL3.out),HB5⟩
      case measure=>simp [intOf];omega
    ·have hl4:¬(j:Int) < (l.length:Int):=by omega
     have hj2:j=l.length:=by omega
     subst hj2
     go_wp2_with fail
     go_ret2
     refine ⟨_,_,rfl,?_,?_,HBW.out.trans (HB3.out.mono HBW.out.size)⟩
     ·have e:V.take l.length=order (rkL l) l.length:=by have h:=HVL.out;rw [←HVO.out,←h,List.take_length]
      have q:=aQ.qG (own_below HT1.out HB3.out)
      unfold taken
      rw [←HMM.out,←e,←HSZ.out];exact q
     ·have e:V.take l.length=order (rkL l) l.length:=by have h:=HVL.out;rw [←HVO.out,←h,List.take_length]
      have q:=aQ.qG HL1.out
      unfold eH
      rw [←HMM.out,←fl_all (fun i _=>pR l i),←e,←HSZ.out,←HFF.out];exact q
open Go Go.RowKit Go.ChangeAt
open Go Go.RowKit Go.ChangeAt
def sizeK:List Nat:=[2,10,6,6,2,1,10,10,2]
theorem none_ok (k:Int) (h: -9223372036854775808≤k∧k≤9223372036854775807):(Op.none k).Ok:=by
 have z:=Op.dD
 exact ⟨h,z.cap,z.jn,z.ds,z.ad,z.rm,z.fa,z.fs,z.rf,z.rr⟩
structure Nice (j:Nat) (x:Op):Prop where
 ok:x.Ok
 may:lY x
 size:x.body.1.size=sizeK.getD j 0
 head:byteAt x.body.1 0=16 * j+x.cap.ver.toNat+(if j=3 then 1 else 0)
 ver:x.cap.ver=if j=0 then 1 else 0
def ids:ByteArray:=txt (List.replicate 37 0)
open Go Go.RowKit
section
variable {P:Program} {ops:Array Oper} {rest:List Oper} {op:Oper} {a:Act} {w:World} {Q:Exit→Act→World→Prop}
theorem sqF (v:Value) (h:wpList P ops Q rest (a.put op.dst v) w) (hw:Region.wanted op (yielded ops a.tmps)=true:=by kernel_rfl) (he:(execOp a.eval op).run P w= .ok (.value v) w:=by kernel_rfl):wpList P ops Q (op::rest) a w:=wpv hw v he h
theorem sqG (v:Value) (he:(execOp a.eval op).run P w= .ok (.value v) w) (h:wpList P ops Q rest (a.put op.dst v) w) (hw:Region.wanted op (yielded ops a.tmps)=true:=by kernel_rfl):wpList P ops Q (op::rest) a w:=wpv hw v he h
theorem sqC {f:FuncId} {args:Array Value} (v:Value) (hc:Calls P f args w (Rt w v)) (h:∀w',Below w.heap.size w w'→wpList P ops Q rest (a.put op.dst v) w')
  (hw:Region.wanted op (yielded ops a.tmps)=true:=by kernel_rfl) (he:(execOp a.eval op).run P w= .ok (.enter f args) w:=by kernel_rfl):wpList P ops Q (op::rest) a w:=
 rX hw fun K hK=>by
  unfold Oper.wp;rw [he]
  exact hc.mono fun e w' ⟨h1,h2⟩=>by subst h1;exact hK _ _ (h w' h2)
theorem cZ {l:List Oper} (A:Act) (h:wpList P ops Q l A w) (hA:a=A:=by kernel_rfl):wpList P ops Q l a w:=by subst hA;exact h
theorem oI (A:Act) (h:Q .normal A w) (hA:a=A:=by kernel_rfl):wpList P ops Q [] a w:=by subst hA;exact wpList_nil h
end
theorem sqO {ops:Array Oper} {rest:List Oper} {op:Oper} {a:Act} {w:World} {Q:Exit→Act→World→Prop} (n:Nat) (parts:Array (Nat×Operand)) (l:List Op) (h0:0 < l.length) (h1:l.length≤1000) (hn:n=l.length)
  (h:∀U X,aQ U (.slice (some ⟨X,0,none⟩) n n) l→Below w.heap.size w U→wpList Tryz.prog ops Q rest (a.put op.dst (.slice (some ⟨X,0,none⟩) n n)) U)
  (hw:Region.wanted op (yielded ops a.tmps)=true:=by kernel_rfl) (ho:op.op= .buildSlice 48 n parts:=by kernel_rfl) (hp:(parts.map fun (i,x)=>(i,a.eval x)).toList=((l.map fun x=>Value.agg (ov x)).zipIdx 0).map fun x=>(x.2,x.1):=by kernel_rfl):wpList Tryz.prog ops Q (op::rest) a w:=optsW hw n parts ho l h0 h1 hn hp h
open Go Go.RowKit Go.ChangeAt Go.Proofs.YtklakghlliihkaaGreatDoor.L15
def q0:Op:=.pr_ false
def q1:Op:=.ds_ ⟨false,true,false,5,false,false,0,0,0,false,0⟩
def q2:Op:=.fa_ 9
def q3:Op:=.ds_ ⟨false,true,false,0,true,false,0,0,1,true,0⟩
def qs:List Op:=[q0,q1,q2,q3]
theorem q0_ok:q0.Ok:=none_ok 5 (by decide)
theorem q1_ok:q1.Ok:=by
 have z:=Op.dD
 exact ⟨by decide,z.cap,z.jn,⟨by decide,by decide,by decide,by decide,by decide⟩,z.ad,z.rm,z.fa,z.fs,z.rf,z.rr⟩
theorem oH:q2.Ok:=by
 have z:=Op.dD
 exact ⟨by decide,z.cap,z.jn,z.ds,z.ad,z.rm,by decide,z.fs,z.rf,z.rr⟩
theorem q3_ok:q3.Ok:=by
 have z:=Op.dD
 exact ⟨by decide,z.cap,z.jn,⟨by decide,by decide,by decide,by decide,by decide⟩,z.ad,z.rm,z.fa,z.fs,z.rf,z.rr⟩
theorem sz_q0:szO q0=3:=(mF ⟨by kernel_rfl,by kernel_rfl⟩).trans (by kernel_rfl)
theorem sz_q1:szO q1=8:=(mF ⟨by kernel_rfl,by kernel_rfl⟩).trans (by kernel_rfl)
theorem oK:szO q2=12:=(mF ⟨by kernel_rfl,by kernel_rfl⟩).trans (by kernel_rfl)
theorem sz_q3:szO q3=20:=(mF ⟨by kernel_rfl,by kernel_rfl⟩).trans (by kernel_rfl)
theorem eQ {s t:Nat→Nat}:∀(P:List Nat) (M:Int),(∀i∈P,s i=t i)→chosen s M P=chosen t M P
 | [],_,_=>rfl
 | i::P,M,h=>by
  have hi:=h i (List.mem_cons_self ..)
  have hP:∀j∈P,s j=t j:=fun j hj=>h j (List.mem_cons_of_mem _ hj)
  by_cases q:0 < s i∧(s i:Int)≤M
  ·rw [jE P q,jE P (by rw [←hi];exact q),eQ P _ hP,hi]
  ·rw [jL P q,jL P (by rw [←hi];exact q),eQ P _ hP]
theorem order_congr {r t:Nat→Nat} {n:Nat} (h:∀i,i < n→r i=t i):order r n=order t n:=by
 have e:∀L:List Nat,(L.flatMap fun q=>(List.range n).filter fun i=>r i==q)=L.flatMap fun q=>(List.range n).filter fun i=>t i==q:=by
  intro L
  induction L with
  | nil=>rfl
  | cons q L ih=>rw [List.flatMap_cons,List.flatMap_cons,ih,List.filter_congr fun i hi=>by rw [h i (List.mem_range.1 hi)]]
 exact e _
theorem order_below {r:Nat→Nat} {n:Nat}:∀i∈order r n,i < n:=fun i hi=>by
 unfold order at hi
 obtain ⟨q,_,h⟩:=List.mem_flatMap.1 hi
 exact List.mem_range.1 (List.mem_filter.1 h).1
theorem iE {l:List Op} (s t:Nat→Nat) (hs:∀i,i < l.length→szL l i=s i) (ht:∀i,i < l.length→rkL l i=t i) (room:Int):taken l room=(chosen s (min room 40) (order t l.length)).map (at_ l):=by
 unfold taken
 rw [order_congr ht,eQ _ _ fun i hi=>hs i (order_below i hi)]
theorem left_of {l:List Op} (s t:Nat→Nat) (hs:∀i,i < l.length→szL l i=s i) (ht:∀i,i < l.length→rkL l i=t i) (room:Int):eH l room=(waits s t l.length (min room 40)).map (at_ l):=by
 unfold eH waits
 rw [order_congr ht,eQ _ _ fun i hi=>hs i (order_below i hi)]
 rw [List.filter_congr fun i hi=>by rw [hs i (List.mem_range.1 hi)]]
def qa:List Op:=[q0,q1,q2]
theorem qa_ok:∀x∈qa,x.Ok:=fun x hx=>by
 rcases List.mem_cons.1 hx with rfl | hx
 ·exact q0_ok
 rcases List.mem_cons.1 hx with rfl | hx
 ·exact q1_ok
 rw [List.mem_singleton.1 hx];exact oH
def sa:Nat→Nat:=fun i=>[3,8,12].getD i 0
def ra:Nat→Nat:=fun i=>[8,0,3].getD i 0
theorem mD:∀i,i < qa.length→szL qa i=sa i:=fun i hi=>by
 match i,hi with
 | 0,_=>exact sz_q0
 | 1,_=>exact sz_q1
 | 2,_=>exact oK
theorem pY:rkL qa 0=ra 0∧rkL qa 1=ra 1∧rkL qa 2=ra 2:=⟨by kernel_rfl,by kernel_rfl,by kernel_rfl⟩
theorem mG:∀i,i < qa.length→rkL qa i=ra i:=fun i hi=>by
 match i,hi with
 | 0,_=>exact pY.1
 | 1,_=>exact pY.2.1
 | 2,_=>exact pY.2.2
theorem qa_40:taken qa 40=[q1,q2,q0]∧eH qa 40=[]:=by
 rw [iE sa ra mD mG,left_of sa ra mD mG]
 exact ⟨by kernel_rfl,by kernel_rfl⟩
theorem qa_19:taken qa 19=[q1,q0]∧eH qa 19=[q2]:=by
 rw [iE sa ra mD mG,left_of sa ra mD mG]
 exact ⟨by kernel_rfl,by kernel_rfl⟩
theorem qa_2:taken qa 2=[]∧eH qa 2=qa:=by
 rw [iE sa ra mD mG,left_of sa ra mD mG]
 exact ⟨by kernel_rfl,by kernel_rfl⟩
def av4:Array Value:=(aW qs).toArray
theorem av_size:av4.size=152:=by kernel_rfl
theorem av_one:av4.all (·.oneCell')=true:=by kernel_rfl
theorem mQ:(Tryz.prog.info? 77).map (·.size)=some av4.size:=by kernel_rfl
def az4:Array Value:=(aW [.none 0,.none 0,.none 0,.none 0]).toArray
theorem az_size:az4.size=152:=by kernel_rfl
theorem az_zero (w:World):(zeroValue 77).run Tryz.prog w= .ok (.agg az4) w:=by kernel_rfl
theorem rC {w:World} {g:Nat} (h:Blk w g 77 av4) (i:Nat) (x:Op) (hx:qs[i]?=some x):w.rangeAt g (i * 38) (ov x).toList:=fun j v hj=>by
 have hlt:j < 38:=by have:=(List.getElem?_eq_some_iff.1 hj).1;rw [Array.length_toList,aF] at this;exact this
 rw [h.cell]
 show (aW qs).toArray[i * 38+j]?=_
 rw [List.getElem?_toArray,iV qs i x hx j hlt,←hj]
 simp
theorem av_p0 (g:Nat) (w:World):(Instr.indexAt 77 (.pointer (some ⟨g,0,none⟩)) (.int .i64 0)).run Tryz.prog w= .ok (.pointer (some ⟨g,0,none⟩)) w:=by kernel_rfl
theorem av_p1 (g:Nat) (w:World):(Instr.indexAt 77 (.pointer (some ⟨g,0,none⟩)) (.int .i64 1)).run Tryz.prog w= .ok (.pointer (some ⟨g,38,none⟩)) w:=by kernel_rfl
theorem av_p2 (g:Nat) (w:World):(Instr.indexAt 77 (.pointer (some ⟨g,0,none⟩)) (.int .i64 2)).run Tryz.prog w= .ok (.pointer (some ⟨g,76,none⟩)) w:=by kernel_rfl
theorem av_p3 (g:Nat) (w:World):(Instr.indexAt 77 (.pointer (some ⟨g,0,none⟩)) (.int .i64 3)).run Tryz.prog w= .ok (.pointer (some ⟨g,114,none⟩)) w:=by kernel_rfl
theorem wp_var4 {ops:Array Oper} {rest:List Oper} {op op2:Oper} {a:Act} {w:World} {Q:Exit→Act→World→Prop} (h1:op.guard=none) (t:Nat) (ho:op.op= .alloc 77) (hd:op.dst=some t) (h2:op2.guard=none) (y:Operand) (ho2:op2.op= .store 77 (.tmp t) y) (A:Array Value) (hA:A=av4) (hx:∀p,(a.put (some t) p).eval (.tmp t)=p) (hy:∀p,(a.put (some t) p).eval y= .agg A)
  (h:∀U X,Blk U X 77 A→Below w.heap.size w U→w.heap.size≤X→wpList Tryz.prog ops Q rest ((a.put op.dst (.pointer (some ⟨X,0,none⟩))).put op2.dst undef) U):wpList Tryz.prog ops Q (op::op2::rest) a w:=
 by subst hA;exact qR _ h1 ho t hd h2 y ho2 az4 av4 az_zero hx hy (av_size.trans az_size.symm) mQ av_one h
theorem build4 {ρ:Operand→Value} {o:Oper} {w:World} (x0 x1 x2 x3:Operand) (ho:o.op= .build 77 #[(0,x0),(1,x1),(2,x2),(3,x3)]) (h0:ρ x0= .agg (ov q0)) (h1:ρ x1= .agg (ov q1)) (h2:ρ x2= .agg (ov q2)) (h3:ρ x3= .agg (ov q3)):(execOp ρ o).run Tryz.prog w= .ok (.value (.agg av4)) w:=by
 have h:(Instr.build 77 #[(0,.agg (ov q0)),(1,.agg (ov q1)),(2,.agg (ov q2)),(3,.agg (ov q3))]).run Tryz.prog w= .ok (.agg av4) w:=by kernel_rfl
 unfold execOp
 rw [ho]
 simp [h0,h1,h2,h3,h]
theorem some_t (w:World):Calls Tryz.prog 27 #[] w (Rt w (.agg av4)):=by
 go_enter Tryz.func27,Tryz.ntmps27
 go_wp2_with (first
  | (refine bD rfl 77 rfl az4 az_zero ?_;intro U r hr hU;have HA:=Lh (new_of hr hU);have HB:=Lh (iO (Below.refl w.heap.size w) hU);have HG:=Lh (oW (Below.refl w.heap.size w) hr);clear hr hU)
  | (refine jX rfl #[(0,.const (.int .i64 5))] rfl q0 (by intro w;kernel_rfl) ?_)
  | (refine jX rfl #[(0,.const (.int .i64 2)),(3,.tmp 2)] rfl q1 (by intro w;kernel_rfl) ?_)
  | (refine jX rfl #[(0,.const (.int .i64 6)),(7,.tmp 4)] rfl q2 (by intro w;kernel_rfl) ?_)
  | (refine jX rfl #[(0,.const (.int .i64 2)),(3,.tmp 6)] rfl q3 (by intro w;kernel_rfl) ?_)
  | (refine iG rfl (.agg av4) (build4 (.tmp 1) (.tmp 3) (.tmp 5) (.tmp 7) rfl rfl rfl rfl rfl) ?_)
  | (refine bC rfl 77 (.tmp 0) (.tmp 8) rfl r rfl 77 az4 av4 rfl HA.out (av_size.trans az_size.symm) mQ av_one ?_;intro w5 g5 n5;have HN:=Lh n5;have HB5:=Lh (HB.out.trans (aB g5 HG.out HB.out.size));clear g5 n5))
 exact bodyPost_ret (results_cell_row (p:=0) rfl _ _ r 77 av4 (0,0) _ rfl HN.out Tryz.underlying77 rfl mQ) rfl ⟨rfl,HB5.out⟩
section
variable {ρ:Operand→Value} {o:Oper} {w:World}
theorem uC (s g:Nat) (ho:o.op= .indexAddr 77 (.tmp s) (.const (.int .i64 0)):=by kernel_rfl) (hx:ρ (.tmp s)= .pointer (some ⟨g,0,none⟩):=by kernel_rfl) (hy:ρ (.const (.int .i64 0))= .int .i64 0:=by kernel_rfl):(execOp ρ o).run Tryz.prog w= .ok (.value (.pointer (some ⟨g,0,none⟩))) w:=gZ 77 (.tmp s) (.const (.int .i64 0)) _ _ _ (av_p0 g w) ho hx hy
theorem tZ (t g:Nat) (A:Array Value) (y:Op) (hb:Blk w g 77 A) (hA:A=av4) (hy:y=q0) (ho:o.op= .load 45 (.tmp t):=by kernel_rfl) (hx:ρ (.tmp t)= .pointer (some ⟨g,0,none⟩):=by kernel_rfl):(execOp ρ o).run Tryz.prog w= .ok (.value (.agg (ov y))) w:=by
 subst hA;subst hy;exact jZ (.tmp t) g 0 q0 (rC hb 0 q0 rfl) ho hx
theorem sU (s g:Nat) (ho:o.op= .indexAddr 77 (.tmp s) (.const (.int .i64 1)):=by kernel_rfl) (hx:ρ (.tmp s)= .pointer (some ⟨g,0,none⟩):=by kernel_rfl) (hy:ρ (.const (.int .i64 1))= .int .i64 1:=by kernel_rfl):(execOp ρ o).run Tryz.prog w= .ok (.value (.pointer (some ⟨g,38,none⟩))) w:=gZ 77 (.tmp s) (.const (.int .i64 1)) _ _ _ (av_p1 g w) ho hx hy
theorem sN (t g:Nat) (A:Array Value) (y:Op) (hb:Blk w g 77 A) (hA:A=av4) (hy:y=q1) (ho:o.op= .load 45 (.tmp t):=by kernel_rfl) (hx:ρ (.tmp t)= .pointer (some ⟨g,38,none⟩):=by kernel_rfl):(execOp ρ o).run Tryz.prog w= .ok (.value (.agg (ov y))) w:=by
 subst hA;subst hy;exact jZ (.tmp t) g 38 q1 (rC hb 1 q1 rfl) ho hx
theorem lG (s g:Nat) (ho:o.op= .indexAddr 77 (.tmp s) (.const (.int .i64 2)):=by kernel_rfl) (hx:ρ (.tmp s)= .pointer (some ⟨g,0,none⟩):=by kernel_rfl) (hy:ρ (.const (.int .i64 2))= .int .i64 2:=by kernel_rfl):(execOp ρ o).run Tryz.prog w= .ok (.value (.pointer (some ⟨g,76,none⟩))) w:=gZ 77 (.tmp s) (.const (.int .i64 2)) _ _ _ (av_p2 g w) ho hx hy
theorem lM (t g:Nat) (A:Array Value) (y:Op) (hb:Blk w g 77 A) (hA:A=av4) (hy:y=q2) (ho:o.op= .load 45 (.tmp t):=by kernel_rfl) (hx:ρ (.tmp t)= .pointer (some ⟨g,76,none⟩):=by kernel_rfl):(execOp ρ o).run Tryz.prog w= .ok (.value (.agg (ov y))) w:=by
 subst hA;subst hy;exact jZ (.tmp t) g 76 q2 (rC hb 2 q2 rfl) ho hx
theorem xPq3 (s g:Nat) (ho:o.op= .indexAddr 77 (.tmp s) (.const (.int .i64 3)):=by kernel_rfl) (hx:ρ (.tmp s)= .pointer (some ⟨g,0,none⟩):=by kernel_rfl) (hy:ρ (.const (.int .i64 3))= .int .i64 3:=by kernel_rfl):(execOp ρ o).run Tryz.prog w= .ok (.value (.pointer (some ⟨g,114,none⟩))) w:=gZ 77 (.tmp s) (.const (.int .i64 3)) _ _ _ (av_p3 g w) ho hx hy
theorem xLq3 (t g:Nat) (A:Array Value) (y:Op) (hb:Blk w g 77 A) (hA:A=av4) (hy:y=q3) (ho:o.op= .load 45 (.tmp t):=by kernel_rfl) (hx:ρ (.tmp t)= .pointer (some ⟨g,114,none⟩):=by kernel_rfl):(execOp ρ o).run Tryz.prog w= .ok (.value (.agg (ov y))) w:=by
 subst hA;subst hy;exact jZ (.tmp t) g 114 q3 (rC hb 3 q3 rfl) ho hx
end
open Go Go.RowKit Go.ChangeAt
theorem dQ (v u:Value) (l m:List Op) (hl:l.length≤1000) (B:Bool) (hBB:B=true↔l=m) (w:World) (hr:aQ w v l) (hq:aQ w u m):Calls Tryz.prog 23 #[v,u] w (Rt w (.bool B)):=by
 have HR:=Lh hr
 have HQ:=Lh hq
 have HBB:=Lh hBB
 obtain ⟨p,cap,hv,hlc,hcap,hc⟩:=hr
 obtain ⟨p',cap',hu,hlc',hcap',hc'⟩:=hq
 subst hv;subst hu
 clear hc hc' hBB
 by_cases hn:l.length=m.length
 ·have hn1:((l.length:Int) !=(m.length:Int))=false:=by simp;omega
  have HN:=Lh hn
  have hm1:l.length≤m.length:=by omega
  have hm2:m.length≤1000:=by omega
  clear hn
  go_enter Tryz.func23,Tryz.ntmps23
  go_wp2_with fail
  go_loopw [5] (fun i wr=>∃j:Nat,j≤l.length∧i= .int .i64 (j:Int)∧l.take j=m.take j∧Below w.heap.size w wr) (fun i _=>l.length - (intOf i).toNat)
  case atStart=>exact ⟨0,Nat.zero_le _,rfl,rfl,Below.refl _ _⟩
  case round=>
   obtain ⟨j,hj,rfl,ht,hW⟩:=hrel
   have HW:=Lh hW
   have HTK:=Lh ht
   clear hW ht
   by_cases hlt:j < l.length
   ·obtain ⟨x,hx⟩:∃x,l[j]?=some x:=⟨_,List.getElem?_eq_getElem hlt⟩
    obtain ⟨y,hy⟩:∃y,m[j]?=some y:=⟨_,List.getElem?_eq_getElem (by omega)⟩
    have R1:=HR.out.below HW.out
    have R2:=HQ.out.below HW.out
    obtain ⟨g,rfl,hg,hra⟩:=R1.at j x hx
    obtain ⟨g',rfl,hg',hra'⟩:=R2.at j y hy
    have HRA:=Lh hra
    have HRB:=Lh hra'
    have HG:=Lh hg
    have HG':=Lh hg'
    have HX:=Lh hx
    have HY:=Lh hy
    have HP:=Lh (show∀W:World,(Instr.indexAt 48 (.slice (some ⟨g,0,none⟩) l.length cap) (.int .i64 (j:Int))).run Tryz.prog W= .ok (.pointer (some ⟨g,j * 38,none⟩)) W from fun W=>nD g j _ cap hlt (by omega) W)
    have HP':=Lh (show∀W:World,(Instr.indexAt 48 (.slice (some ⟨g',0,none⟩) m.length cap') (.int .i64 (j:Int))).run Tryz.prog W= .ok (.pointer (some ⟨g',j * 38,none⟩)) W from fun W=>nD g' j _ cap' (by omega) (by omega) W)
    have g2:(j:Int) < (l.length:Int):=by omega
    clear hra hra' hg hg' hx hy R1 R2
    obtain ⟨E,hE⟩:∃E:Bool,E=true↔x=y:=⟨@decide (x=y) (Classical.propDecidable _),by simp⟩
    have HE:=Lh hE
    clear hE
    go_upto_region 6 with fail
    refine bI (n:=9) rfl ?_
    intro W0 B0
    refine stF 0 (.slice (some ⟨g,0,none⟩) l.length cap) rfl B0 (stF 1 (.int .i64 (j:Int)) rfl B0 (stG 2 (.pointer (some ⟨g,j * 38,none⟩)) rfl B0 (fun W _=>gZ 48 (.tmp 17) (.tmp 18) _ _ _ (HP.out W)) (stG 3 (.agg (ov x)) rfl B0 (fun W q=>jZ (.tmp 19) g (j * 38) x (fun i z hz=>(World.cell?_of_block (a:=⟨g,j * 38+i,none⟩) (q.block g HG.out)).trans (HRA.out i z hz))) (stF 4 (.slice (some ⟨g',0,none⟩) m.length cap') rfl B0 (stF 5 (.int .i64 (j:Int)) rfl B0 (stG 6 (.pointer (some ⟨g',j * 38,none⟩)) rfl B0 (fun W _=>gZ 48 (.tmp 21) (.tmp 22) _ _ _ (HP'.out W)) (stG 7 (.agg (ov y)) rfl B0 (fun W q=>jZ (.tmp 23) g' (j * 38) y (fun i z hz=>(World.cell?_of_block (a:=⟨g',j * 38+i,none⟩) (q.block g' HG'.out)).trans (HRB.out i z hz))) (stG 8 (.bool (!E)) rfl B0 (fun W _=>jK 45 45 (.tmp 20) (.tmp 24) (by kernel_rfl) (ov x) (ov y) (by kernel_rfl) (by kernel_rfl) (by kernel_rfl) E (iP x y E HE.out W)) ?_))))))))
    have HW2:=Lh (HW.out.trans (B0.mono HW.out.size))
    cases E with
    | true=>
     have hxy:x=y:=HE.out.1 rfl
     refine aN ⟨List.toArray (Value.slice (some ⟨g,0,none⟩) l.length cap::Value.slice (some ⟨g',0,none⟩) m.length cap'::undef::undef::u4::Value.int .i64 (j:Int)::Value.slice (some ⟨g,0,none⟩) l.length cap::Value.int .i64 (l.length:Int)::Value.slice (some ⟨g',0,none⟩) m.length cap'::Value.int .i64 (m.length:Int)::Value.bool false::Value.int .i64 (j:Int)::Value.slice (some ⟨g,0,none⟩) l.length cap::Value.int .i64 (l.length:Int)::Value.bool true::u15::u16::Value.slice (some ⟨g,0,none⟩) l.length cap::Value.int .i64 (j:Int)::Value.pointer (some ⟨g,j * 38,none⟩)::Value.agg (ov x)::Value.slice (some ⟨g',0,none⟩) m.length cap'::Value.int .i64 (j:Int)::Value.pointer (some ⟨g',j * 38,none⟩)::Value.agg (ov y)::Value.bool false::[]),[]⟩ (by kernel_rfl) (by kernel_rfl) ?_
     have HT2:=Lh (show l.take (j+1)=m.take (j+1) by rw [L4.take_snoc_of l j x HX.out,L4.take_snoc_of m j y HY.out,HTK.out,hxy])
     clear hxy B0
     go_wp2_with fail
     go_roundw
     case rel=>exact ⟨j+1,by omega,by go_num,HT2.out,HW2.out⟩
     case measure=>simp [intOf];omega
    | false=>
     have hxy:¬x=y:=fun h=>absurd (HE.out.2 h) (by decide)
     refine aN ⟨List.toArray (Value.slice (some ⟨g,0,none⟩) l.length cap::Value.slice (some ⟨g',0,none⟩) m.length cap'::undef::undef::u4::Value.int .i64 (j:Int)::Value.slice (some ⟨g,0,none⟩) l.length cap::Value.int .i64 (l.length:Int)::Value.slice (some ⟨g',0,none⟩) m.length cap'::Value.int .i64 (m.length:Int)::Value.bool false::Value.int .i64 (j:Int)::Value.slice (some ⟨g,0,none⟩) l.length cap::Value.int .i64 (l.length:Int)::Value.bool true::u15::u16::Value.slice (some ⟨g,0,none⟩) l.length cap::Value.int .i64 (j:Int)::Value.pointer (some ⟨g,j * 38,none⟩)::Value.agg (ov x)::Value.slice (some ⟨g',0,none⟩) m.length cap'::Value.int .i64 (j:Int)::Value.pointer (some ⟨g',j * 38,none⟩)::Value.agg (ov y)::Value.bool true::[]),[]⟩ (by kernel_rfl) (by kernel_rfl) ?_
     have HLM:=Lh (show B=false by
      cases B with
      | false=>rfl
      | true=>
       have e:=HBB.out.1 rfl
       have e1:=HX.out
       rw [e,HY.out] at e1
       exact absurd (Option.some.inj e1).symm hxy)
     clear hxy B0
     go_wp2_with fail
     go_ret
     exact ⟨by rw [HLM.out];rfl,HW2.out⟩
   ·obtain rfl:j=l.length:=by omega
    have HLM:=Lh (show B=true from HBB.out.2 (by have:=HTK.out;rw [List.take_length,HN.out,List.take_length] at this;exact this))
    go_wp2_with fail
    go_ret
    exact ⟨by rw [HLM.out];rfl,HW.out⟩
 ·have hn1:((l.length:Int) !=(m.length:Int))=true:=by simp;omega
  have HLM:=Lh (show B=false by
   cases B with
   | false=>rfl
   | true=>exact absurd (congrArg List.length (HBB.out.1 rfl)) hn)
  clear hn
  go_enter Tryz.func23,Tryz.ntmps23
  go_wp2_with fail
  go_ret
  exact ⟨by rw [HLM.out];rfl,Below.refl _ _⟩
end Go.Proofs.YtklakghlliihkaaGreatDoor.L14
set_option pp.deepTerms true
set_option pp.maxSteps 10000000
namespace Go.Proofs.YtklakghlliihkaaGreatDoor.L14
open Go Go.RowKit Go.ChangeAt Go.Proofs.YtklakghlliihkaaGreatDoor.L15
theorem works15_t (w:World) (ht:L10.Tbl w) (hh:Hnd w):Calls Tryz.prog 24 #[] w (Rt w (.bool true)):=by
 have HT:=Lh ht
 have HH:=Lh hh
 obtain ⟨x0,h0⟩:∃x,x=q0:=⟨_,rfl⟩
 obtain ⟨x1,h1⟩:∃x,x=q1:=⟨_,rfl⟩
 obtain ⟨x2,h2⟩:∃x,x=q2:=⟨_,rfl⟩
 obtain ⟨x3,h3⟩:∃x,x=q3:=⟨_,rfl⟩
 obtain ⟨A4,hA⟩:∃A,A=av4:=⟨_,rfl⟩
 have HA4:=Lh hA
 have HQ0:=Lh h0
 have HQ1:=Lh h1
 have HQ2:=Lh h2
 have HQ3:=Lh h3
 have HOK:=Lh (show∀x∈[x0,x1,x2],x.Ok by rw [h0,h1,h2];exact qa_ok)
 have HP4:=Lh (show taken [x0,x1,x2] 40=[x1,x2,x0]∧eH [x0,x1,x2] 40=[] by rw [h0,h1,h2];exact qa_40)
 have HP1:=Lh (show taken [x0,x1,x2] 19=[x1,x0]∧eH [x0,x1,x2] 19=[x2] by rw [h0,h1,h2];exact qa_19)
 have HP2:=Lh (show taken [x0,x1,x2] 2=[]∧eH [x0,x1,x2] 2=[x0,x1,x2] by rw [h0,h1,h2];exact qa_2)
 clear ht hh h0 h1 h2 h3 hA
 go_enter Tryz.func24,Tryz.ntmps24
 go_wp2_with fail
 refine (answer (some_t w) (v':=.agg A4) (by rw [HA4.out])).mono ?_
 rintro e U1 ⟨rfl,q⟩
 have sD:=Lh (q)
 clear q
 go_upto_region 2 with (refine wp_var4 rfl 1 rfl rfl rfl (.tmp 9) rfl A4 HA4.out (fun _=>by kernel_rfl) (fun _=>by kernel_rfl) ?_;intro V2 Xx hb hB hx;have oM:=Lh hb;have rJ:=Lh (sD.out.trans (hB.mono sD.out.size));clear hb hB hx)
 refine wp_region_lit ?_
 refine sqG (.pointer (some ⟨Xx,0,none⟩)) (by exact uC 1 Xx) ?_
 refine sqG (.agg (ov x0)) (by exact tZ 10 Xx A4 x0 oM.out HA4.out HQ0.out) ?_
 refine sqG (.pointer (some ⟨Xx,38,none⟩)) (by exact sU 1 Xx) ?_
 refine sqG (.agg (ov x1)) (by exact sN 12 Xx A4 x1 oM.out HA4.out HQ1.out) ?_
 refine cZ ⟨List.toArray (Value.bool false::Value.pointer (some ⟨Xx,0,none⟩)::undef::undef::undef::undef::undef::undef::undef::Value.agg A4::Value.pointer (some ⟨Xx,0,none⟩)::Value.agg (ov x0)::Value.pointer (some ⟨Xx,38,none⟩)::Value.agg (ov x1)::undef::undef::undef::undef::undef::undef::undef::undef::undef::undef::undef::undef::undef::undef::undef::undef::undef::undef::undef::undef::undef::undef::undef::undef::undef::undef::undef::undef::undef::undef::undef::undef::undef::undef::undef::undef::undef::undef::undef::undef::undef::undef::undef::undef::undef::undef::undef::undef::undef::undef::undef::undef::undef::undef::undef::undef::undef::undef::undef::undef::undef::undef::undef::undef::undef::undef::undef::undef::undef::undef::undef::undef::undef::undef::undef::undef::[]),[]⟩ ?_
 refine sqG (.pointer (some ⟨Xx,76,none⟩)) (by exact lG 1 Xx) ?_
 refine sqG (.agg (ov x2)) (by exact lM 14 Xx A4 x2 oM.out HA4.out HQ2.out) ?_
 refine sqO 3 #[(0,.tmp 11),(1,.tmp 13),(2,.tmp 15)] [x0,x1,x2] (show 0 < 3 by decide) (show 3≤1000 by decide) rfl ?_
 intro V3 Xl hr hB
 have Hl_3:=Lh hr
 have nZ:=Lh (rJ.out.trans (hB.mono rJ.out.size))
 have rU:=Lh (oM.out.below hB oM.out.lt)
 clear hr hB
 refine sqF (.slice (some ⟨Xl,0,none⟩) 3 3) ?_
 refine cZ ⟨List.toArray (Value.bool false::Value.pointer (some ⟨Xx,0,none⟩)::Value.slice (some ⟨Xl,0,none⟩) 3 3::undef::undef::undef::undef::undef::undef::Value.agg A4::Value.pointer (some ⟨Xx,0,none⟩)::Value.agg (ov x0)::Value.pointer (some ⟨Xx,38,none⟩)::Value.agg (ov x1)::Value.pointer (some ⟨Xx,76,none⟩)::Value.agg (ov x2)::Value.slice (some ⟨Xl,0,none⟩) 3 3::undef::undef::undef::undef::undef::undef::undef::undef::undef::undef::undef::undef::undef::undef::undef::undef::undef::undef::undef::undef::undef::undef::undef::undef::undef::undef::undef::undef::undef::undef::undef::undef::undef::undef::undef::undef::undef::undef::undef::undef::undef::undef::undef::undef::undef::undef::undef::undef::undef::undef::undef::undef::undef::undef::undef::undef::undef::undef::undef::undef::undef::undef::undef::undef::undef::undef::undef::undef::undef::undef::undef::undef::undef::[]),[]⟩ ?_
 refine oI ⟨List.toArray (Value.bool false::Value.pointer (some ⟨Xx,0,none⟩)::Value.slice (some ⟨Xl,0,none⟩) 3 3::undef::undef::undef::undef::undef::undef::Value.agg A4::Value.pointer (some ⟨Xx,0,none⟩)::Value.agg (ov x0)::Value.pointer (some ⟨Xx,38,none⟩)::Value.agg (ov x1)::Value.pointer (some ⟨Xx,76,none⟩)::Value.agg (ov x2)::Value.slice (some ⟨Xl,0,none⟩) 3 3::undef::undef::undef::undef::undef::undef::undef::undef::undef::undef::undef::undef::undef::undef::undef::undef::undef::undef::undef::undef::undef::undef::undef::undef::undef::undef::undef::undef::undef::undef::undef::undef::undef::undef::undef::undef::undef::undef::undef::undef::undef::undef::undef::undef::undef::undef::undef::undef::undef::undef::undef::undef::undef::undef::undef::undef::undef::undef::undef::undef::undef::undef::undef::undef::undef::undef::undef::undef::undef::undef::undef::undef::undef::[]),[]⟩ ?_
 go_wp2_with fail
 refine (fM (.slice (some ⟨Xl,0,none⟩) 3 3) [x0,x1,x2] (show 3 < 40 by decide) HOK.out 40 (by decide) V3 (mY.any Hl_3.out) (HT.out.below nZ.out) (HH.out.below nZ.out)).mono ?_
 rintro e U4 ⟨va1,vb1,rfl,hra,hrb,q⟩
 have HA1:=Lh (show aQ U4 va1 [x1,x2,x0] by rw [←HP4.out.1];exact hra)
 have HB1:=Lh (show aQ U4 vb1 [] by rw [←HP4.out.2];exact hrb)
 have qJ:=Lh (nZ.out.trans (q.mono nZ.out.size))
 have nG:=Lh (rU.out.below q rU.out.lt)
 have Hl_4:=Lh (Hl_3.out.below q)
 clear q
 obtain ⟨pb1,cb1,eb1, -, -, -⟩:=id HB1.out
 have eb1:vb1= .slice pb1 ([]:List Op).length cb1:=eb1
 have eb1:vb1= .slice pb1 0 cb1:=eb1
 subst eb1
 clear hra hrb
 go_wp2_with fail
 refine (fM (.slice (some ⟨Xl,0,none⟩) 3 3) [x0,x1,x2] (show 3 < 40 by decide) HOK.out 19 (by decide) U4 (mY.any Hl_4.out) (HT.out.below qJ.out) (HH.out.below qJ.out)).mono ?_
 rintro e U5 ⟨va2,vb2,rfl,hra,hrb,q⟩
 have HA2:=Lh (show aQ U5 va2 [x1,x0] by rw [←HP1.out.1];exact hra)
 have HB2:=Lh (show aQ U5 vb2 [x2] by rw [←HP1.out.2];exact hrb)
 have mZ:=Lh (qJ.out.trans (q.mono qJ.out.size))
 have sH:=Lh (nG.out.below q nG.out.lt)
 have sK:=Lh (Hl_4.out.below q)
 have Ha1_5:=Lh (HA1.out.below q)
 have Hb1_5:=Lh (HB1.out.below q)
 clear q
 clear hra hrb
 go_wp2_with fail
 refine (fM (.slice (some ⟨Xl,0,none⟩) 3 3) [x0,x1,x2] (show 3 < 40 by decide) HOK.out 2 (by decide) U5 (mY.any sK.out) (HT.out.below mZ.out) (HH.out.below mZ.out)).mono ?_
 rintro e U6 ⟨va3,vb3,rfl,hra,hrb,q⟩
 have HA3:=Lh (show aQ U6 va3 [] by rw [←HP2.out.1];exact hra)
 have HB3:=Lh (show aQ U6 vb3 [x0,x1,x2] by rw [←HP2.out.2];exact hrb)
 have mW:=Lh (mZ.out.trans (q.mono mZ.out.size))
 have rM:=Lh (sH.out.below q sH.out.lt)
 have uB:=Lh (sK.out.below q)
 have Ha1_6:=Lh (Ha1_5.out.below q)
 have Hb1_6:=Lh (Hb1_5.out.below q)
 have Ha2_6:=Lh (HA2.out.below q)
 have Hb2_6:=Lh (HB2.out.below q)
 clear q
 obtain ⟨pa3,ca3,ea3, -, -, -⟩:=id HA3.out
 have ea3:va3= .slice pa3 ([]:List Op).length ca3:=ea3
 have ea3:va3= .slice pa3 0 ca3:=ea3
 subst ea3
 clear hra hrb
 go_upto_region 6 with fail
 refine wp_region_lit ?_
 refine sqG (.pointer (some ⟨Xx,0,none⟩)) (by exact uC 1 Xx) ?_
 refine sqG (.agg (ov x0)) (by exact tZ 32 Xx A4 x0 rM.out HA4.out HQ0.out) ?_
 refine sqC (.int .i64 3) (answer (fV x0 (by rw [HQ0.out];exact q0_ok) U6 (HT.out.below mW.out) (HH.out.below mW.out)) (v':=.int .i64 3) (by rw [HQ0.out,sz_q0];rfl)) ?_
 intro U7 q
 have pW:=Lh (mW.out.trans (q.mono mW.out.size))
 have pF:=Lh (rM.out.below q rM.out.lt)
 have Hl_7:=Lh (uB.out.below q)
 have rP:=Lh (Ha1_6.out.below q)
 have rV:=Lh (Hb1_6.out.below q)
 have Ha2_7:=Lh (Ha2_6.out.below q)
 have Hb2_7:=Lh (Hb2_6.out.below q)
 have Ha3_7:=Lh (HA3.out.below q)
 have Hb3_7:=Lh (HB3.out.below q)
 clear q
 refine sqF (.bool true) ?_
 refine cZ ⟨List.toArray (Value.bool false::Value.pointer (some ⟨Xx,0,none⟩)::Value.slice (some ⟨Xl,0,none⟩) 3 3::va1::Value.slice pb1 0 cb1::va2::vb2::Value.slice pa3 0 ca3::vb3::Value.agg A4::Value.pointer (some ⟨Xx,0,none⟩)::Value.agg (ov x0)::Value.pointer (some ⟨Xx,38,none⟩)::Value.agg (ov x1)::Value.pointer (some ⟨Xx,76,none⟩)::Value.agg (ov x2)::Value.slice (some ⟨Xl,0,none⟩) 3 3::Value.tuple #[va1,.slice pb1 0 cb1]::Value.slice (some ⟨Xl,0,none⟩) 3 3::Value.tuple #[va1,.slice pb1 0 cb1]::va1::Value.slice pb1 0 cb1::Value.tuple #[va2,vb2]::Value.slice (some ⟨Xl,0,none⟩) 3 3::Value.tuple #[va2,vb2]::va2::vb2::Value.tuple #[.slice pa3 0 ca3,vb3]::Value.slice (some ⟨Xl,0,none⟩) 3 3::Value.tuple #[.slice pa3 0 ca3,vb3]::Value.slice pa3 0 ca3::vb3::Value.pointer (some ⟨Xx,0,none⟩)::Value.agg (ov x0)::Value.int .i64 3::Value.bool true::undef::undef::undef::undef::undef::undef::undef::undef::undef::undef::undef::undef::undef::undef::undef::undef::undef::undef::undef::undef::undef::undef::undef::undef::undef::undef::undef::undef::undef::undef::undef::undef::undef::undef::undef::undef::undef::undef::undef::undef::undef::undef::undef::undef::undef::undef::undef::undef::undef::undef::undef::undef::undef::undef::[]),[]⟩ ?_
 refine sqF (.bool true) ?_
 refine sqG (.pointer (some ⟨Xx,38,none⟩)) (by exact sU 1 Xx) ?_
 refine sqG (.agg (ov x1)) (by exact sN 37 Xx A4 x1 pF.out HA4.out HQ1.out) ?_
 refine sqC (.int .i64 8) (answer (fV x1 (by rw [HQ1.out];exact q1_ok) U7 (HT.out.below pW.out) (HH.out.below pW.out)) (v':=.int .i64 8) (by rw [HQ1.out,sz_q1];rfl)) ?_
 intro U8 q
 have qO:=Lh (pW.out.trans (q.mono pW.out.size))
 have rH:=Lh (pF.out.below q pF.out.lt)
 have Hl_8:=Lh (Hl_7.out.below q)
 have sF:=Lh (rP.out.below q)
 have rZ:=Lh (rV.out.below q)
 have tC:=Lh (Ha2_7.out.below q)
 have sV:=Lh (Hb2_7.out.below q)
 have Ha3_8:=Lh (Ha3_7.out.below q)
 have Hb3_8:=Lh (Hb3_7.out.below q)
 clear q
 refine cZ ⟨List.toArray (Value.bool false::Value.pointer (some ⟨Xx,0,none⟩)::Value.slice (some ⟨Xl,0,none⟩) 3 3::va1::Value.slice pb1 0 cb1::va2::vb2::Value.slice pa3 0 ca3::vb3::Value.agg A4::Value.pointer (some ⟨Xx,0,none⟩)::Value.agg (ov x0)::Value.pointer (some ⟨Xx,38,none⟩)::Value.agg (ov x1)::Value.pointer (some ⟨Xx,76,none⟩)::Value.agg (ov x2)::Value.slice (some ⟨Xl,0,none⟩) 3 3::Value.tuple #[va1,.slice pb1 0 cb1]::Value.slice (some ⟨Xl,0,none⟩) 3 3::Value.tuple #[va1,.slice pb1 0 cb1]::va1::Value.slice pb1 0 cb1::Value.tuple #[va2,vb2]::Value.slice (some ⟨Xl,0,none⟩) 3 3::Value.tuple #[va2,vb2]::va2::vb2::Value.tuple #[.slice pa3 0 ca3,vb3]::Value.slice (some ⟨Xl,0,none⟩) 3 3::Value.tuple #[.slice pa3 0 ca3,vb3]::Value.slice pa3 0 ca3::vb3::Value.pointer (some ⟨Xx,0,none⟩)::Value.agg (ov x0)::Value.int .i64 3::Value.bool true::Value.bool true::Value.pointer (some ⟨Xx,38,none⟩)::Value.agg (ov x1)::Value.int .i64 8::undef::undef::undef::undef::undef::undef::undef::undef::undef::undef::undef::undef::undef::undef::undef::undef::undef::undef::undef::undef::undef::undef::undef::undef::undef::undef::undef::undef::undef::undef::undef::undef::undef::undef::undef::undef::undef::undef::undef::undef::undef::undef::undef::undef::undef::undef::undef::undef::undef::undef::[]),[]⟩ ?_
 refine sqF (.bool true) ?_
 refine sqF (.bool true) ?_
 refine sqF (.bool true) ?_
 refine sqG (.pointer (some ⟨Xx,114,none⟩)) (by exact xPq3 1 Xx) ?_
 refine cZ ⟨List.toArray (Value.bool false::Value.pointer (some ⟨Xx,0,none⟩)::Value.slice (some ⟨Xl,0,none⟩) 3 3::va1::Value.slice pb1 0 cb1::va2::vb2::Value.slice pa3 0 ca3::vb3::Value.agg A4::Value.pointer (some ⟨Xx,0,none⟩)::Value.agg (ov x0)::Value.pointer (some ⟨Xx,38,none⟩)::Value.agg (ov x1)::Value.pointer (some ⟨Xx,76,none⟩)::Value.agg (ov x2)::Value.slice (some ⟨Xl,0,none⟩) 3 3::Value.tuple #[va1,.slice pb1 0 cb1]::Value.slice (some ⟨Xl,0,none⟩) 3 3::Value.tuple #[va1,.slice pb1 0 cb1]::va1::Value.slice pb1 0 cb1::Value.tuple #[va2,vb2]::Value.slice (some ⟨Xl,0,none⟩) 3 3::Value.tuple #[va2,vb2]::va2::vb2::Value.tuple #[.slice pa3 0 ca3,vb3]::Value.slice (some ⟨Xl,0,none⟩) 3 3::Value.tuple #[.slice pa3 0 ca3,vb3]::Value.slice pa3 0 ca3::vb3::Value.pointer (some ⟨Xx,0,none⟩)::Value.agg (ov x0)::Value.int .i64 3::Value.bool true::Value.bool true::Value.pointer (some ⟨Xx,38,none⟩)::Value.agg (ov x1)::Value.int .i64 8::Value.bool true::Value.bool true::Value.bool true::Value.pointer (some ⟨Xx,114,none⟩)::undef::undef::undef::undef::undef::undef::undef::undef::undef::undef::undef::undef::undef::undef::undef::undef::undef::undef::undef::undef::undef::undef::undef::undef::undef::undef::undef::undef::undef::undef::undef::undef::undef::undef::undef::undef::undef::undef::undef::undef::undef::undef::undef::undef::undef::undef::[]),[]⟩ ?_
 refine sqG (.agg (ov x3)) (by exact xLq3 43 Xx A4 x3 rH.out HA4.out HQ3.out) ?_
 refine sqC (.int .i64 20) (answer (fV x3 (by rw [HQ3.out];exact q3_ok) U8 (HT.out.below qO.out) (HH.out.below qO.out)) (v':=.int .i64 20) (by rw [HQ3.out,sz_q3];rfl)) ?_
 intro U9 q
 have qY:=Lh (qO.out.trans (q.mono qO.out.size))
 have nV:=Lh (rH.out.below q rH.out.lt)
 have Hl_9:=Lh (Hl_8.out.below q)
 have tH:=Lh (sF.out.below q)
 have sQ:=Lh (rZ.out.below q)
 have rW:=Lh (tC.out.below q)
 have sJ:=Lh (sV.out.below q)
 have Ha3_9:=Lh (Ha3_8.out.below q)
 have Hb3_9:=Lh (Hb3_8.out.below q)
 clear q
 refine sqF (.bool true) ?_
 refine sqF (.bool true) ?_
 refine cZ ⟨List.toArray (Value.bool false::Value.pointer (some ⟨Xx,0,none⟩)::Value.slice (some ⟨Xl,0,none⟩) 3 3::va1::Value.slice pb1 0 cb1::va2::vb2::Value.slice pa3 0 ca3::vb3::Value.agg A4::Value.pointer (some ⟨Xx,0,none⟩)::Value.agg (ov x0)::Value.pointer (some ⟨Xx,38,none⟩)::Value.agg (ov x1)::Value.pointer (some ⟨Xx,76,none⟩)::Value.agg (ov x2)::Value.slice (some ⟨Xl,0,none⟩) 3 3::Value.tuple #[va1,.slice pb1 0 cb1]::Value.slice (some ⟨Xl,0,none⟩) 3 3::Value.tuple #[va1,.slice pb1 0 cb1]::va1::Value.slice pb1 0 cb1::Value.tuple #[va2,vb2]::Value.slice (some ⟨Xl,0,none⟩) 3 3::Value.tuple #[va2,vb2]::va2::vb2::Value.tuple #[.slice pa3 0 ca3,vb3]::Value.slice (some ⟨Xl,0,none⟩) 3 3::Value.tuple #[.slice pa3 0 ca3,vb3]::Value.slice pa3 0 ca3::vb3::Value.pointer (some ⟨Xx,0,none⟩)::Value.agg (ov x0)::Value.int .i64 3::Value.bool true::Value.bool true::Value.pointer (some ⟨Xx,38,none⟩)::Value.agg (ov x1)::Value.int .i64 8::Value.bool true::Value.bool true::Value.bool true::Value.pointer (some ⟨Xx,114,none⟩)::Value.agg (ov x3)::Value.int .i64 20::Value.bool true::Value.bool true::undef::undef::undef::undef::undef::undef::undef::undef::undef::undef::undef::undef::undef::undef::undef::undef::undef::undef::undef::undef::undef::undef::undef::undef::undef::undef::undef::undef::undef::undef::undef::undef::undef::undef::undef::undef::undef::undef::undef::undef::undef::undef::[]),[]⟩ ?_
 refine sqF (.bool true) ?_
 refine sqF va1 ?_
 refine sqG (.pointer (some ⟨Xx,38,none⟩)) (by exact sU 1 Xx) ?_
 refine sqG (.agg (ov x1)) (by exact sN 50 Xx A4 x1 nV.out HA4.out HQ1.out) ?_
 refine cZ ⟨List.toArray (Value.bool false::Value.pointer (some ⟨Xx,0,none⟩)::Value.slice (some ⟨Xl,0,none⟩) 3 3::va1::Value.slice pb1 0 cb1::va2::vb2::Value.slice pa3 0 ca3::vb3::Value.agg A4::Value.pointer (some ⟨Xx,0,none⟩)::Value.agg (ov x0)::Value.pointer (some ⟨Xx,38,none⟩)::Value.agg (ov x1)::Value.pointer (some ⟨Xx,76,none⟩)::Value.agg (ov x2)::Value.slice (some ⟨Xl,0,none⟩) 3 3::Value.tuple #[va1,.slice pb1 0 cb1]::Value.slice (some ⟨Xl,0,none⟩) 3 3::Value.tuple #[va1,.slice pb1 0 cb1]::va1::Value.slice pb1 0 cb1::Value.tuple #[va2,vb2]::Value.slice (some ⟨Xl,0,none⟩) 3 3::Value.tuple #[va2,vb2]::va2::vb2::Value.tuple #[.slice pa3 0 ca3,vb3]::Value.slice (some ⟨Xl,0,none⟩) 3 3::Value.tuple #[.slice pa3 0 ca3,vb3]::Value.slice pa3 0 ca3::vb3::Value.pointer (some ⟨Xx,0,none⟩)::Value.agg (ov x0)::Value.int .i64 3::Value.bool true::Value.bool true::Value.pointer (some ⟨Xx,38,none⟩)::Value.agg (ov x1)::Value.int .i64 8::Value.bool true::Value.bool true::Value.bool true::Value.pointer (some ⟨Xx,114,none⟩)::Value.agg (ov x3)::Value.int .i64 20::Value.bool true::Value.bool true::Value.bool true::va1::Value.pointer (some ⟨Xx,38,none⟩)::Value.agg (ov x1)::undef::undef::undef::undef::undef::undef::undef::undef::undef::undef::undef::undef::undef::undef::undef::undef::undef::undef::undef::undef::undef::undef::undef::undef::undef::undef::undef::undef::undef::undef::undef::undef::undef::undef::undef::undef::undef::undef::[]),[]⟩ ?_
 refine sqG (.pointer (some ⟨Xx,76,none⟩)) (by exact lG 1 Xx) ?_
 refine sqG (.agg (ov x2)) (by exact lM 52 Xx A4 x2 nV.out HA4.out HQ2.out) ?_
 refine sqG (.pointer (some ⟨Xx,0,none⟩)) (by exact uC 1 Xx) ?_
 refine sqG (.agg (ov x0)) (by exact tZ 54 Xx A4 x0 nV.out HA4.out HQ0.out) ?_
 refine cZ ⟨List.toArray (Value.bool false::Value.pointer (some ⟨Xx,0,none⟩)::Value.slice (some ⟨Xl,0,none⟩) 3 3::va1::Value.slice pb1 0 cb1::va2::vb2::Value.slice pa3 0 ca3::vb3::Value.agg A4::Value.pointer (some ⟨Xx,0,none⟩)::Value.agg (ov x0)::Value.pointer (some ⟨Xx,38,none⟩)::Value.agg (ov x1)::Value.pointer (some ⟨Xx,76,none⟩)::Value.agg (ov x2)::Value.slice (some ⟨Xl,0,none⟩) 3 3::Value.tuple #[va1,.slice pb1 0 cb1]::Value.slice (some ⟨Xl,0,none⟩) 3 3::Value.tuple #[va1,.slice pb1 0 cb1]::va1::Value.slice pb1 0 cb1::Value.tuple #[va2,vb2]::Value.slice (some ⟨Xl,0,none⟩) 3 3::Value.tuple #[va2,vb2]::va2::vb2::Value.tuple #[.slice pa3 0 ca3,vb3]::Value.slice (some ⟨Xl,0,none⟩) 3 3::Value.tuple #[.slice pa3 0 ca3,vb3]::Value.slice pa3 0 ca3::vb3::Value.pointer (some ⟨Xx,0,none⟩)::Value.agg (ov x0)::Value.int .i64 3::Value.bool true::Value.bool true::Value.pointer (some ⟨Xx,38,none⟩)::Value.agg (ov x1)::Value.int .i64 8::Value.bool true::Value.bool true::Value.bool true::Value.pointer (some ⟨Xx,114,none⟩)::Value.agg (ov x3)::Value.int .i64 20::Value.bool true::Value.bool true::Value.bool true::va1::Value.pointer (some ⟨Xx,38,none⟩)::Value.agg (ov x1)::Value.pointer (some ⟨Xx,76,none⟩)::Value.agg (ov x2)::Value.pointer (some ⟨Xx,0,none⟩)::Value.agg (ov x0)::undef::undef::undef::undef::undef::undef::undef::undef::undef::undef::undef::undef::undef::undef::undef::undef::undef::undef::undef::undef::undef::undef::undef::undef::undef::undef::undef::undef::undef::undef::undef::undef::undef::undef::[]),[]⟩ ?_
 refine sqO 3 #[(0,.tmp 51),(1,.tmp 53),(2,.tmp 55)] [x1,x2,x0] (show 0 < 3 by decide) (show 3≤1000 by decide) rfl ?_
 intro V10 Xr hr hB
 have Hr_10:=Lh hr
 have lF:=Lh (qY.out.trans (hB.mono qY.out.size))
 have oJ:=Lh (nV.out.below hB nV.out.lt)
 have Hl_10:=Lh (Hl_9.out.below hB)
 have mV:=Lh (tH.out.below hB)
 have pK:=Lh (sQ.out.below hB)
 have oO:=Lh (rW.out.below hB)
 have qU:=Lh (sJ.out.below hB)
 have Ha3_10:=Lh (Ha3_9.out.below hB)
 have Hb3_10:=Lh (Hb3_9.out.below hB)
 clear hr hB
 refine sqC (.bool true) (dQ va1 (.slice (some ⟨Xr,0,none⟩) 3 3) [x1,x2,x0] [x1,x2,x0] (show 3≤1000 by decide) true ⟨fun _=>rfl,fun _=>rfl⟩ V10 mV.out Hr_10.out) ?_
 intro U11 q
 have lQ:=Lh (lF.out.trans (q.mono lF.out.size))
 have lW:=Lh (oJ.out.below q oJ.out.lt)
 have Hl_11:=Lh (Hl_10.out.below q)
 have pM:=Lh (mV.out.below q)
 have qA:=Lh (pK.out.below q)
 have pO:=Lh (oO.out.below q)
 have oU:=Lh (qU.out.below q)
 have o8:=Lh (Ha3_10.out.below q)
 have o5:=Lh (Hb3_10.out.below q)
 have Hr_11:=Lh (Hr_10.out.below q)
 clear q
 refine sqF (.bool true) ?_
 refine sqF (.bool true) ?_
 refine cZ ⟨List.toArray (Value.bool false::Value.pointer (some ⟨Xx,0,none⟩)::Value.slice (some ⟨Xl,0,none⟩) 3 3::va1::Value.slice pb1 0 cb1::va2::vb2::Value.slice pa3 0 ca3::vb3::Value.agg A4::Value.pointer (some ⟨Xx,0,none⟩)::Value.agg (ov x0)::Value.pointer (some ⟨Xx,38,none⟩)::Value.agg (ov x1)::Value.pointer (some ⟨Xx,76,none⟩)::Value.agg (ov x2)::Value.slice (some ⟨Xl,0,none⟩) 3 3::Value.tuple #[va1,.slice pb1 0 cb1]::Value.slice (some ⟨Xl,0,none⟩) 3 3::Value.tuple #[va1,.slice pb1 0 cb1]::va1::Value.slice pb1 0 cb1::Value.tuple #[va2,vb2]::Value.slice (some ⟨Xl,0,none⟩) 3 3::Value.tuple #[va2,vb2]::va2::vb2::Value.tuple #[.slice pa3 0 ca3,vb3]::Value.slice (some ⟨Xl,0,none⟩) 3 3::Value.tuple #[.slice pa3 0 ca3,vb3]::Value.slice pa3 0 ca3::vb3::Value.pointer (some ⟨Xx,0,none⟩)::Value.agg (ov x0)::Value.int .i64 3::Value.bool true::Value.bool true::Value.pointer (some ⟨Xx,38,none⟩)::Value.agg (ov x1)::Value.int .i64 8::Value.bool true::Value.bool true::Value.bool true::Value.pointer (some ⟨Xx,114,none⟩)::Value.agg (ov x3)::Value.int .i64 20::Value.bool true::Value.bool true::Value.bool true::va1::Value.pointer (some ⟨Xx,38,none⟩)::Value.agg (ov x1)::Value.pointer (some ⟨Xx,76,none⟩)::Value.agg (ov x2)::Value.pointer (some ⟨Xx,0,none⟩)::Value.agg (ov x0)::Value.slice (some ⟨Xr,0,none⟩) 3 3::Value.bool true::Value.bool true::Value.bool true::undef::undef::undef::undef::undef::undef::undef::undef::undef::undef::undef::undef::undef::undef::undef::undef::undef::undef::undef::undef::undef::undef::undef::undef::undef::undef::undef::undef::undef::undef::[]),[]⟩ ?_
 refine sqF (.slice pb1 0 cb1) ?_
 refine sqF (.int .i64 0) ?_
 refine sqF (.bool true) ?_
 refine sqF (.bool true) ?_
 refine cZ ⟨List.toArray (Value.bool false::Value.pointer (some ⟨Xx,0,none⟩)::Value.slice (some ⟨Xl,0,none⟩) 3 3::va1::Value.slice pb1 0 cb1::va2::vb2::Value.slice pa3 0 ca3::vb3::Value.agg A4::Value.pointer (some ⟨Xx,0,none⟩)::Value.agg (ov x0)::Value.pointer (some ⟨Xx,38,none⟩)::Value.agg (ov x1)::Value.pointer (some ⟨Xx,76,none⟩)::Value.agg (ov x2)::Value.slice (some ⟨Xl,0,none⟩) 3 3::Value.tuple #[va1,.slice pb1 0 cb1]::Value.slice (some ⟨Xl,0,none⟩) 3 3::Value.tuple #[va1,.slice pb1 0 cb1]::va1::Value.slice pb1 0 cb1::Value.tuple #[va2,vb2]::Value.slice (some ⟨Xl,0,none⟩) 3 3::Value.tuple #[va2,vb2]::va2::vb2::Value.tuple #[.slice pa3 0 ca3,vb3]::Value.slice (some ⟨Xl,0,none⟩) 3 3::Value.tuple #[.slice pa3 0 ca3,vb3]::Value.slice pa3 0 ca3::vb3::Value.pointer (some ⟨Xx,0,none⟩)::Value.agg (ov x0)::Value.int .i64 3::Value.bool true::Value.bool true::Value.pointer (some ⟨Xx,38,none⟩)::Value.agg (ov x1)::Value.int .i64 8::Value.bool true::Value.bool true::Value.bool true::Value.pointer (some ⟨Xx,114,none⟩)::Value.agg (ov x3)::Value.int .i64 20::Value.bool true::Value.bool true::Value.bool true::va1::Value.pointer (some ⟨Xx,38,none⟩)::Value.agg (ov x1)::Value.pointer (some ⟨Xx,76,none⟩)::Value.agg (ov x2)::Value.pointer (some ⟨Xx,0,none⟩)::Value.agg (ov x0)::Value.slice (some ⟨Xr,0,none⟩) 3 3::Value.bool true::Value.bool true::Value.bool true::Value.slice pb1 0 cb1::Value.int .i64 0::Value.bool true::Value.bool true::undef::undef::undef::undef::undef::undef::undef::undef::undef::undef::undef::undef::undef::undef::undef::undef::undef::undef::undef::undef::undef::undef::undef::undef::undef::undef::[]),[]⟩ ?_
 refine sqF (.bool true) ?_
 refine sqF va2 ?_
 refine sqG (.pointer (some ⟨Xx,38,none⟩)) (by exact sU 1 Xx) ?_
 refine sqG (.agg (ov x1)) (by exact sN 66 Xx A4 x1 lW.out HA4.out HQ1.out) ?_
 refine cZ ⟨List.toArray (Value.bool false::Value.pointer (some ⟨Xx,0,none⟩)::Value.slice (some ⟨Xl,0,none⟩) 3 3::va1::Value.slice pb1 0 cb1::va2::vb2::Value.slice pa3 0 ca3::vb3::Value.agg A4::Value.pointer (some ⟨Xx,0,none⟩)::Value.agg (ov x0)::Value.pointer (some ⟨Xx,38,none⟩)::Value.agg (ov x1)::Value.pointer (some ⟨Xx,76,none⟩)::Value.agg (ov x2)::Value.slice (some ⟨Xl,0,none⟩) 3 3::Value.tuple #[va1,.slice pb1 0 cb1]::Value.slice (some ⟨Xl,0,none⟩) 3 3::Value.tuple #[va1,.slice pb1 0 cb1]::va1::Value.slice pb1 0 cb1::Value.tuple #[va2,vb2]::Value.slice (some ⟨Xl,0,none⟩) 3 3::Value.tuple #[va2,vb2]::va2::vb2::Value.tuple #[.slice pa3 0 ca3,vb3]::Value.slice (some ⟨Xl,0,none⟩) 3 3::Value.tuple #[.slice pa3 0 ca3,vb3]::Value.slice pa3 0 ca3::vb3::Value.pointer (some ⟨Xx,0,none⟩)::Value.agg (ov x0)::Value.int .i64 3::Value.bool true::Value.bool true::Value.pointer (some ⟨Xx,38,none⟩)::Value.agg (ov x1)::Value.int .i64 8::Value.bool true::Value.bool true::Value.bool true::Value.pointer (some ⟨Xx,114,none⟩)::Value.agg (ov x3)::Value.int .i64 20::Value.bool true::Value.bool true::Value.bool true::va1::Value.pointer (some ⟨Xx,38,none⟩)::Value.agg (ov x1)::Value.pointer (some ⟨Xx,76,none⟩)::Value.agg (ov x2)::Value.pointer (some ⟨Xx,0,none⟩)::Value.agg (ov x0)::Value.slice (some ⟨Xr,0,none⟩) 3 3::Value.bool true::Value.bool true::Value.bool true::Value.slice pb1 0 cb1::Value.int .i64 0::Value.bool true::Value.bool true::Value.bool true::va2::Value.pointer (some ⟨Xx,38,none⟩)::Value.agg (ov x1)::undef::undef::undef::undef::undef::undef::undef::undef::undef::undef::undef::undef::undef::undef::undef::undef::undef::undef::undef::undef::undef::undef::[]),[]⟩ ?_
 refine sqG (.pointer (some ⟨Xx,0,none⟩)) (by exact uC 1 Xx) ?_
 refine sqG (.agg (ov x0)) (by exact tZ 68 Xx A4 x0 lW.out HA4.out HQ0.out) ?_
 refine sqO 2 #[(0,.tmp 67),(1,.tmp 69)] [x1,x0] (show 0 < 2 by decide) (show 2≤1000 by decide) rfl ?_
 intro V12 Xs hr hB
 have Hs_12:=Lh hr
 have lJ:=Lh (lQ.out.trans (hB.mono lQ.out.size))
 have nY:=Lh (lW.out.below hB lW.out.lt)
 have Hl_12:=Lh (Hl_11.out.below hB)
 have qF:=Lh (pM.out.below hB)
 have qI:=Lh (qA.out.below hB)
 have nJ:=Lh (pO.out.below hB)
 have oZ:=Lh (oU.out.below hB)
 have qM:=Lh (o8.out.below hB)
 have qV:=Lh (o5.out.below hB)
 clear hr hB
 refine sqC (.bool true) (dQ va2 (.slice (some ⟨Xs,0,none⟩) 2 2) [x1,x0] [x1,x0] (show 2≤1000 by decide) true ⟨fun _=>rfl,fun _=>rfl⟩ V12 nJ.out Hs_12.out) ?_
 intro U13 q
 have oC:=Lh (lJ.out.trans (q.mono lJ.out.size))
 have l9:=Lh (nY.out.below q nY.out.lt)
 have Hl_13:=Lh (Hl_12.out.below q)
 have pV:=Lh (qF.out.below q)
 have oQ:=Lh (qI.out.below q)
 have qX:=Lh (nJ.out.below q)
 have o6:=Lh (oZ.out.below q)
 have oV:=Lh (qM.out.below q)
 have pI:=Lh (qV.out.below q)
 have Hs_13:=Lh (Hs_12.out.below q)
 clear q
 refine cZ ⟨List.toArray (Value.bool false::Value.pointer (some ⟨Xx,0,none⟩)::Value.slice (some ⟨Xl,0,none⟩) 3 3::va1::Value.slice pb1 0 cb1::va2::vb2::Value.slice pa3 0 ca3::vb3::Value.agg A4::Value.pointer (some ⟨Xx,0,none⟩)::Value.agg (ov x0)::Value.pointer (some ⟨Xx,38,none⟩)::Value.agg (ov x1)::Value.pointer (some ⟨Xx,76,none⟩)::Value.agg (ov x2)::Value.slice (some ⟨Xl,0,none⟩) 3 3::Value.tuple #[va1,.slice pb1 0 cb1]::Value.slice (some ⟨Xl,0,none⟩) 3 3::Value.tuple #[va1,.slice pb1 0 cb1]::va1::Value.slice pb1 0 cb1::Value.tuple #[va2,vb2]::Value.slice (some ⟨Xl,0,none⟩) 3 3::Value.tuple #[va2,vb2]::va2::vb2::Value.tuple #[.slice pa3 0 ca3,vb3]::Value.slice (some ⟨Xl,0,none⟩) 3 3::Value.tuple #[.slice pa3 0 ca3,vb3]::Value.slice pa3 0 ca3::vb3::Value.pointer (some ⟨Xx,0,none⟩)::Value.agg (ov x0)::Value.int .i64 3::Value.bool true::Value.bool true::Value.pointer (some ⟨Xx,38,none⟩)::Value.agg (ov x1)::Value.int .i64 8::Value.bool true::Value.bool true::Value.bool true::Value.pointer (some ⟨Xx,114,none⟩)::Value.agg (ov x3)::Value.int .i64 20::Value.bool true::Value.bool true::Value.bool true::va1::Value.pointer (some ⟨Xx,38,none⟩)::Value.agg (ov x1)::Value.pointer (some ⟨Xx,76,none⟩)::Value.agg (ov x2)::Value.pointer (some ⟨Xx,0,none⟩)::Value.agg (ov x0)::Value.slice (some ⟨Xr,0,none⟩) 3 3::Value.bool true::Value.bool true::Value.bool true::Value.slice pb1 0 cb1::Value.int .i64 0::Value.bool true::Value.bool true::Value.bool true::va2::Value.pointer (some ⟨Xx,38,none⟩)::Value.agg (ov x1)::Value.pointer (some ⟨Xx,0,none⟩)::Value.agg (ov x0)::Value.slice (some ⟨Xs,0,none⟩) 2 2::Value.bool true::undef::undef::undef::undef::undef::undef::undef::undef::undef::undef::undef::undef::undef::undef::undef::undef::undef::undef::[]),[]⟩ ?_
 refine sqF (.bool true) ?_
 refine sqF (.bool true) ?_
 refine sqF vb2 ?_
 refine sqG (.pointer (some ⟨Xx,76,none⟩)) (by exact lG 1 Xx) ?_
 refine cZ ⟨List.toArray (Value.bool false::Value.pointer (some ⟨Xx,0,none⟩)::Value.slice (some ⟨Xl,0,none⟩) 3 3::va1::Value.slice pb1 0 cb1::va2::vb2::Value.slice pa3 0 ca3::vb3::Value.agg A4::Value.pointer (some ⟨Xx,0,none⟩)::Value.agg (ov x0)::Value.pointer (some ⟨Xx,38,none⟩)::Value.agg (ov x1)::Value.pointer (some ⟨Xx,76,none⟩)::Value.agg (ov x2)::Value.slice (some ⟨Xl,0,none⟩) 3 3::Value.tuple #[va1,.slice pb1 0 cb1]::Value.slice (some ⟨Xl,0,none⟩) 3 3::Value.tuple #[va1,.slice pb1 0 cb1]::va1::Value.slice pb1 0 cb1::Value.tuple #[va2,vb2]::Value.slice (some ⟨Xl,0,none⟩) 3 3::Value.tuple #[va2,vb2]::va2::vb2::Value.tuple #[.slice pa3 0 ca3,vb3]::Value.slice (some ⟨Xl,0,none⟩) 3 3::Value.tuple #[.slice pa3 0 ca3,vb3]::Value.slice pa3 0 ca3::vb3::Value.pointer (some ⟨Xx,0,none⟩)::Value.agg (ov x0)::Value.int .i64 3::Value.bool true::Value.bool true::Value.pointer (some ⟨Xx,38,none⟩)::Value.agg (ov x1)::Value.int .i64 8::Value.bool true::Value.bool true::Value.bool true::Value.pointer (some ⟨Xx,114,none⟩)::Value.agg (ov x3)::Value.int .i64 20::Value.bool true::Value.bool true::Value.bool true::va1::Value.pointer (some ⟨Xx,38,none⟩)::Value.agg (ov x1)::Value.pointer (some ⟨Xx,76,none⟩)::Value.agg (ov x2)::Value.pointer (some ⟨Xx,0,none⟩)::Value.agg (ov x0)::Value.slice (some ⟨Xr,0,none⟩) 3 3::Value.bool true::Value.bool true::Value.bool true::Value.slice pb1 0 cb1::Value.int .i64 0::Value.bool true::Value.bool true::Value.bool true::va2::Value.pointer (some ⟨Xx,38,none⟩)::Value.agg (ov x1)::Value.pointer (some ⟨Xx,0,none⟩)::Value.agg (ov x0)::Value.slice (some ⟨Xs,0,none⟩) 2 2::Value.bool true::Value.bool true::Value.bool true::vb2::Value.pointer (some ⟨Xx,76,none⟩)::undef::undef::undef::undef::undef::undef::undef::undef::undef::undef::undef::undef::undef::undef::[]),[]⟩ ?_
 refine sqG (.agg (ov x2)) (by exact lM 75 Xx A4 x2 l9.out HA4.out HQ2.out) ?_
 refine sqO 1 #[(0,.tmp 76)] [x2] (show 0 < 1 by decide) (show 1≤1000 by decide) rfl ?_
 intro V14 Xt hr hB
 have Ht_14:=Lh hr
 have nX:=Lh (oC.out.trans (hB.mono oC.out.size))
 have kQ:=Lh (l9.out.below hB l9.out.lt)
 have Hl_14:=Lh (Hl_13.out.below hB)
 have pG:=Lh (pV.out.below hB)
 have oP:=Lh (oQ.out.below hB)
 have qC:=Lh (qX.out.below hB)
 have nP:=Lh (o6.out.below hB)
 have qK:=Lh (oV.out.below hB)
 have pX:=Lh (pI.out.below hB)
 clear hr hB
 refine sqC (.bool true) (dQ vb2 (.slice (some ⟨Xt,0,none⟩) 1 1) [x2] [x2] (show 1≤1000 by decide) true ⟨fun _=>rfl,fun _=>rfl⟩ V14 nP.out Ht_14.out) ?_
 intro U15 q
 have oG:=Lh (nX.out.trans (q.mono nX.out.size))
 have oD:=Lh (kQ.out.below q kQ.out.lt)
 have Hl_15:=Lh (Hl_14.out.below q)
 have nI:=Lh (pG.out.below q)
 have qN:=Lh (oP.out.below q)
 have qQ:=Lh (qC.out.below q)
 have qH:=Lh (nP.out.below q)
 have qB:=Lh (qK.out.below q)
 have mO:=Lh (pX.out.below q)
 have Ht_15:=Lh (Ht_14.out.below q)
 clear q
 refine sqF (.bool true) ?_
 refine cZ ⟨List.toArray (Value.bool false::Value.pointer (some ⟨Xx,0,none⟩)::Value.slice (some ⟨Xl,0,none⟩) 3 3::va1::Value.slice pb1 0 cb1::va2::vb2::Value.slice pa3 0 ca3::vb3::Value.agg A4::Value.pointer (some ⟨Xx,0,none⟩)::Value.agg (ov x0)::Value.pointer (some ⟨Xx,38,none⟩)::Value.agg (ov x1)::Value.pointer (some ⟨Xx,76,none⟩)::Value.agg (ov x2)::Value.slice (some ⟨Xl,0,none⟩) 3 3::Value.tuple #[va1,.slice pb1 0 cb1]::Value.slice (some ⟨Xl,0,none⟩) 3 3::Value.tuple #[va1,.slice pb1 0 cb1]::va1::Value.slice pb1 0 cb1::Value.tuple #[va2,vb2]::Value.slice (some ⟨Xl,0,none⟩) 3 3::Value.tuple #[va2,vb2]::va2::vb2::Value.tuple #[.slice pa3 0 ca3,vb3]::Value.slice (some ⟨Xl,0,none⟩) 3 3::Value.tuple #[.slice pa3 0 ca3,vb3]::Value.slice pa3 0 ca3::vb3::Value.pointer (some ⟨Xx,0,none⟩)::Value.agg (ov x0)::Value.int .i64 3::Value.bool true::Value.bool true::Value.pointer (some ⟨Xx,38,none⟩)::Value.agg (ov x1)::Value.int .i64 8::Value.bool true::Value.bool true::Value.bool true::Value.pointer (some ⟨Xx,114,none⟩)::Value.agg (ov x3)::Value.int .i64 20::Value.bool true::Value.bool true::Value.bool true::va1::Value.pointer (some ⟨Xx,38,none⟩)::Value.agg (ov x1)::Value.pointer (some ⟨Xx,76,none⟩)::Value.agg (ov x2)::Value.pointer (some ⟨Xx,0,none⟩)::Value.agg (ov x0)::Value.slice (some ⟨Xr,0,none⟩) 3 3::Value.bool true::Value.bool true::Value.bool true::Value.slice pb1 0 cb1::Value.int .i64 0::Value.bool true::Value.bool true::Value.bool true::va2::Value.pointer (some ⟨Xx,38,none⟩)::Value.agg (ov x1)::Value.pointer (some ⟨Xx,0,none⟩)::Value.agg (ov x0)::Value.slice (some ⟨Xs,0,none⟩) 2 2::Value.bool true::Value.bool true::Value.bool true::vb2::Value.pointer (some ⟨Xx,76,none⟩)::Value.agg (ov x2)::Value.slice (some ⟨Xt,0,none⟩) 1 1::Value.bool true::Value.bool true::undef::undef::undef::undef::undef::undef::undef::undef::undef::undef::[]),[]⟩ ?_
 refine sqF (.bool true) ?_
 refine sqF (.slice pa3 0 ca3) ?_
 refine sqF (.int .i64 0) ?_
 refine sqF (.bool true) ?_
 refine cZ ⟨List.toArray (Value.bool false::Value.pointer (some ⟨Xx,0,none⟩)::Value.slice (some ⟨Xl,0,none⟩) 3 3::va1::Value.slice pb1 0 cb1::va2::vb2::Value.slice pa3 0 ca3::vb3::Value.agg A4::Value.pointer (some ⟨Xx,0,none⟩)::Value.agg (ov x0)::Value.pointer (some ⟨Xx,38,none⟩)::Value.agg (ov x1)::Value.pointer (some ⟨Xx,76,none⟩)::Value.agg (ov x2)::Value.slice (some ⟨Xl,0,none⟩) 3 3::Value.tuple #[va1,.slice pb1 0 cb1]::Value.slice (some ⟨Xl,0,none⟩) 3 3::Value.tuple #[va1,.slice pb1 0 cb1]::va1::Value.slice pb1 0 cb1::Value.tuple #[va2,vb2]::Value.slice (some ⟨Xl,0,none⟩) 3 3::Value.tuple #[va2,vb2]::va2::vb2::Value.tuple #[.slice pa3 0 ca3,vb3]::Value.slice (some ⟨Xl,0,none⟩) 3 3::Value.tuple #[.slice pa3 0 ca3,vb3]::Value.slice pa3 0 ca3::vb3::Value.pointer (some ⟨Xx,0,none⟩)::Value.agg (ov x0)::Value.int .i64 3::Value.bool true::Value.bool true::Value.pointer (some ⟨Xx,38,none⟩)::Value.agg (ov x1)::Value.int .i64 8::Value.bool true::Value.bool true::Value.bool true::Value.pointer (some ⟨Xx,114,none⟩)::Value.agg (ov x3)::Value.int .i64 20::Value.bool true::Value.bool true::Value.bool true::va1::Value.pointer (some ⟨Xx,38,none⟩)::Value.agg (ov x1)::Value.pointer (some ⟨Xx,76,none⟩)::Value.agg (ov x2)::Value.pointer (some ⟨Xx,0,none⟩)::Value.agg (ov x0)::Value.slice (some ⟨Xr,0,none⟩) 3 3::Value.bool true::Value.bool true::Value.bool true::Value.slice pb1 0 cb1::Value.int .i64 0::Value.bool true::Value.bool true::Value.bool true::va2::Value.pointer (some ⟨Xx,38,none⟩)::Value.agg (ov x1)::Value.pointer (some ⟨Xx,0,none⟩)::Value.agg (ov x0)::Value.slice (some ⟨Xs,0,none⟩) 2 2::Value.bool true::Value.bool true::Value.bool true::vb2::Value.pointer (some ⟨Xx,76,none⟩)::Value.agg (ov x2)::Value.slice (some ⟨Xt,0,none⟩) 1 1::Value.bool true::Value.bool true::Value.bool true::Value.slice pa3 0 ca3::Value.int .i64 0::Value.bool true::undef::undef::undef::undef::undef::undef::[]),[]⟩ ?_
 refine sqF (.bool true) ?_
 refine sqF (.bool true) ?_
 refine sqF vb3 ?_
 refine sqF (.slice (some ⟨Xl,0,none⟩) 3 3) ?_
 refine cZ ⟨List.toArray (Value.bool false::Value.pointer (some ⟨Xx,0,none⟩)::Value.slice (some ⟨Xl,0,none⟩) 3 3::va1::Value.slice pb1 0 cb1::va2::vb2::Value.slice pa3 0 ca3::vb3::Value.agg A4::Value.pointer (some ⟨Xx,0,none⟩)::Value.agg (ov x0)::Value.pointer (some ⟨Xx,38,none⟩)::Value.agg (ov x1)::Value.pointer (some ⟨Xx,76,none⟩)::Value.agg (ov x2)::Value.slice (some ⟨Xl,0,none⟩) 3 3::Value.tuple #[va1,.slice pb1 0 cb1]::Value.slice (some ⟨Xl,0,none⟩) 3 3::Value.tuple #[va1,.slice pb1 0 cb1]::va1::Value.slice pb1 0 cb1::Value.tuple #[va2,vb2]::Value.slice (some ⟨Xl,0,none⟩) 3 3::Value.tuple #[va2,vb2]::va2::vb2::Value.tuple #[.slice pa3 0 ca3,vb3]::Value.slice (some ⟨Xl,0,none⟩) 3 3::Value.tuple #[.slice pa3 0 ca3,vb3]::Value.slice pa3 0 ca3::vb3::Value.pointer (some ⟨Xx,0,none⟩)::Value.agg (ov x0)::Value.int .i64 3::Value.bool true::Value.bool true::Value.pointer (some ⟨Xx,38,none⟩)::Value.agg (ov x1)::Value.int .i64 8::Value.bool true::Value.bool true::Value.bool true::Value.pointer (some ⟨Xx,114,none⟩)::Value.agg (ov x3)::Value.int .i64 20::Value.bool true::Value.bool true::Value.bool true::va1::Value.pointer (some ⟨Xx,38,none⟩)::Value.agg (ov x1)::Value.pointer (some ⟨Xx,76,none⟩)::Value.agg (ov x2)::Value.pointer (some ⟨Xx,0,none⟩)::Value.agg (ov x0)::Value.slice (some ⟨Xr,0,none⟩) 3 3::Value.bool true::Value.bool true::Value.bool true::Value.slice pb1 0 cb1::Value.int .i64 0::Value.bool true::Value.bool true::Value.bool true::va2::Value.pointer (some ⟨Xx,38,none⟩)::Value.agg (ov x1)::Value.pointer (some ⟨Xx,0,none⟩)::Value.agg (ov x0)::Value.slice (some ⟨Xs,0,none⟩) 2 2::Value.bool true::Value.bool true::Value.bool true::vb2::Value.pointer (some ⟨Xx,76,none⟩)::Value.agg (ov x2)::Value.slice (some ⟨Xt,0,none⟩) 1 1::Value.bool true::Value.bool true::Value.bool true::Value.slice pa3 0 ca3::Value.int .i64 0::Value.bool true::Value.bool true::Value.bool true::vb3::Value.slice (some ⟨Xl,0,none⟩) 3 3::undef::undef::[]),[]⟩ ?_
 refine sqC (.bool true) (dQ vb3 (.slice (some ⟨Xl,0,none⟩) 3 3) [x0,x1,x2] [x0,x1,x2] (show 3≤1000 by decide) true ⟨fun _=>rfl,fun _=>rfl⟩ U15 mO.out Hl_15.out) ?_
 intro U16 q
 have qZ:=Lh (oG.out.trans (q.mono oG.out.size))
 have rE:=Lh (oD.out.below q oD.out.lt)
 have Hl_16:=Lh (Hl_15.out.below q)
 have Ha1_16:=Lh (nI.out.below q)
 have Hb1_16:=Lh (qN.out.below q)
 have Ha2_16:=Lh (qQ.out.below q)
 have Hb2_16:=Lh (qH.out.below q)
 have Ha3_16:=Lh (qB.out.below q)
 have Hb3_16:=Lh (mO.out.below q)
 clear q
 refine sqF (.bool true) ?_
 refine sqF (.bool true) ?_
 refine oI ⟨List.toArray (Value.bool true::Value.pointer (some ⟨Xx,0,none⟩)::Value.slice (some ⟨Xl,0,none⟩) 3 3::va1::Value.slice pb1 0 cb1::va2::vb2::Value.slice pa3 0 ca3::vb3::Value.agg A4::Value.pointer (some ⟨Xx,0,none⟩)::Value.agg (ov x0)::Value.pointer (some ⟨Xx,38,none⟩)::Value.agg (ov x1)::Value.pointer (some ⟨Xx,76,none⟩)::Value.agg (ov x2)::Value.slice (some ⟨Xl,0,none⟩) 3 3::Value.tuple #[va1,.slice pb1 0 cb1]::Value.slice (some ⟨Xl,0,none⟩) 3 3::Value.tuple #[va1,.slice pb1 0 cb1]::va1::Value.slice pb1 0 cb1::Value.tuple #[va2,vb2]::Value.slice (some ⟨Xl,0,none⟩) 3 3::Value.tuple #[va2,vb2]::va2::vb2::Value.tuple #[.slice pa3 0 ca3,vb3]::Value.slice (some ⟨Xl,0,none⟩) 3 3::Value.tuple #[.slice pa3 0 ca3,vb3]::Value.slice pa3 0 ca3::vb3::Value.pointer (some ⟨Xx,0,none⟩)::Value.agg (ov x0)::Value.int .i64 3::Value.bool true::Value.bool true::Value.pointer (some ⟨Xx,38,none⟩)::Value.agg (ov x1)::Value.int .i64 8::Value.bool true::Value.bool true::Value.bool true::Value.pointer (some ⟨Xx,114,none⟩)::Value.agg (ov x3)::Value.int .i64 20::Value.bool true::Value.bool true::Value.bool true::va1::Value.pointer (some ⟨Xx,38,none⟩)::Value.agg (ov x1)::Value.pointer (some ⟨Xx,76,none⟩)::Value.agg (ov x2)::Value.pointer (some ⟨Xx,0,none⟩)::Value.agg (ov x0)::Value.slice (some ⟨Xr,0,none⟩) 3 3::Value.bool true::Value.bool true::Value.bool true::Value.slice pb1 0 cb1::Value.int .i64 0::Value.bool true::Value.bool true::Value.bool true::va2::Value.pointer (some ⟨Xx,38,none⟩)::Value.agg (ov x1)::Value.pointer (some ⟨Xx,0,none⟩)::Value.agg (ov x0)::Value.slice (some ⟨Xs,0,none⟩) 2 2::Value.bool true::Value.bool true::Value.bool true::vb2::Value.pointer (some ⟨Xx,76,none⟩)::Value.agg (ov x2)::Value.slice (some ⟨Xt,0,none⟩) 1 1::Value.bool true::Value.bool true::Value.bool true::Value.slice pa3 0 ca3::Value.int .i64 0::Value.bool true::Value.bool true::Value.bool true::vb3::Value.slice (some ⟨Xl,0,none⟩) 3 3::Value.bool true::Value.bool true::[]),[]⟩ ?_
 go_wp2_with fail
 go_ret
 exact ⟨rfl,qZ.out⟩
end Go.Proofs.YtklakghlliihkaaGreatDoor.L14
