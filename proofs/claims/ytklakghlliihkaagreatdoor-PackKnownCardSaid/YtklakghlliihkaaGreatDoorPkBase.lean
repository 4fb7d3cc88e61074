/- PkBase. -/
import Derived.Lib.Hide
import Derived.OrdersHeld
import Derived.Deep.RegionHeld3
import Derived.KernelRfl
import Derived.Laws.Entries
import Derived.Laws.Rows
import Derived.Test.YtklakghlliihkaaGreatDoorRows
import Derived.WalkKit
import Derived.ProofKit
import Derived.OpenShut
import Derived.Below
import Derived.Laws.OwnMore
import Derived.Deep.Draws
import Derived.OwnWalk
import Derived.Laws.AppendOwn
import Derived.Maps.AppendAt
import Derived.Laws.Tables
import Derived.Laws.Concat
import Derived.Laws.StructEq
import Derived.Deep.DeepCutAuto
import Derived.Laws.BitsAllLaws
import Derived.Laws.BitsLemmas
import Derived.Laws.BytesArg
import Derived.Deep.QuietTactic
import Derived.BigQuiet
import Derived.IntWalk
import Derived.Deep.OwnRows
import Derived.Laws.MakeOwn
import Derived.Laws.IdiomStrings
import Derived.Defers
import Derived.Recover
set_option maxHeartbeats 4000000
set_option maxRecDepth 100000
set_option linter.unusedVariables false
set_option linter.unusedSimpArgs false
namespace Go.Proofs.YtklakghlliihkaaGreatDoor
theorem Lh {p : Prop} (h : p) : RowKit.Hid p := Lib.hid h
abbrev Rt (w : World) (v : Value) : Ending → World → Prop := fun e w' => e = .returned v ∧ RowKit.Below w.heap.size w w'
end Go.Proofs.YtklakghlliihkaaGreatDoor
namespace Go.Proofs.YtklakghlliihkaaGreatDoor
open Go
section
variable {P:Program} {ops:Array Oper} {S:World→Prop} {Q:Exit→Act→World→Prop} {md:Region.Mode} {fuel:Nat} {listed:Array Bool} {a:Act} {w:World}
theorem held_start {id:Nat} {s:List Oper} {n:Nat} (S:World→Prop) (hm:P.follows .mixedOrders=true) (hn:n=s.length) (h:wpAnyH P .any s.toArray (NoPanic Q) S n (Array.replicate n false) a w.drew):(Code.region id s.toArray true).wp P Q a w:=by
 subst hn
 refine wp_region_noPanic (wp_region_held (S:=S) hm ?_)
 simpa using h
theorem held_free (i:Nat) {o:Oper} (v:Value) (hi:ops[i]?=some o) (hs:Region.noSelect ops=true) (hf:Region.free md ops listed i=true) (hr:(Region.ready md ops listed).contains i=true) (hw:Region.wanted o (yielded ops a.tmps)=true) (hS:S w)
  (hv:∀w,S w→(execOp a.eval o).run P w= .ok (.value v) w) (h:wpAnyH P md ops (NoPanic Q) S fuel (listed.setIfInBounds i true) (a.put o.dst v) w):wpAnyH P md ops (NoPanic Q) S (fuel+1) listed a w:=
 wpAnyH_take hi hs hf hr (fun c a w h=>h) (.inl ⟨hw,hv⟩) hS h
theorem kX {i:Nat} {o:Oper} (hi:ops[i]?=some o) (hr:Region.ready md ops listed=[i]) (hw:Region.wanted o (yielded ops a.tmps)=true) (h:o.wp P a w (fun a' w'=>S w'∧wpAnyH P md ops Q S fuel (listed.setIfInBounds i true) a' w') Q):wpAnyH P md ops Q S (fuel+1) listed a w:=by
 refine ⟨fun h0=>(by rw [hr] at h0;cases h0),fun k hk=>?_⟩
 rw [hr,List.mem_singleton] at hk
 subst hk
 unfold wpOp
 rw [hi]
 simp only [hw,if_true]
 exact .inl h
theorem held_call (i:Nat) {o:Oper} {f:FuncId} {args:Array Value} {v:Value} {R:World→Prop} (hi:ops[i]?=some o) (hr:Region.ready md ops listed=[i]) (hw:Region.wanted o (yielded ops a.tmps)=true)
  (he:(execOp a.eval o).run P w= .ok (.enter f args) w) (hc:Calls P f args w fun e w'=>e= .returned v∧R w') (hR:∀w',R w'→S w') (h:∀w',R w'→wpAnyH P md ops Q S fuel (listed.setIfInBounds i true) (a.put o.dst v) w'):wpAnyH P md ops Q S (fuel+1) listed a w:=by
 refine kX hi hr hw ?_
 unfold Oper.wp
 rw [he]
 exact hc.mono fun e w' ⟨h1,h2⟩=>by subst h1;exact ⟨hR _ h2,h _ h2⟩
theorem held_lone (i:Nat) {o:Oper} {v:Value} {w':World} (hi:ops[i]?=some o) (hr:Region.ready md ops listed=[i]) (hw:Region.wanted o (yielded ops a.tmps)=true) (he:(execOp a.eval o).run P w= .ok (.value v) w') (hS:S w')
  (h:wpAnyH P md ops Q S fuel (listed.setIfInBounds i true) (a.put o.dst v) w'):wpAnyH P md ops Q S (fuel+1) listed a w:=by
 refine kX hi hr hw ?_
 unfold Oper.wp
 rw [he]
 exact ⟨hS,h⟩
theorem aG (hr:Region.ready md ops listed=[]) (h:Q .normal a w):wpAnyH P md ops (NoPanic Q) S fuel listed a w:=wpAnyH_done hr (NoPanic.normal h) _
theorem ex_index {ρ:Operand→Value} {o:Oper} {t:TypeId} {x y:Operand} {n i v:Value} (ho:o.op= .indexAddr t x y) (hx:ρ x=n) (hy:ρ y=i) (h:(Instr.indexAt t n i).run P w= .ok v w):(execOp ρ o).run P w= .ok (.value v) w:=by
 unfold execOp
 rw [ho]
 simp [hx,hy,h]
theorem ex_load {ρ:Operand→Value} {o:Oper} (ty:TypeId) (x:Operand) (ho:o.op= .load ty x) (p:Addr) {v:Value} (hx:ρ x= .pointer (some p)) (hu:(isAgg ty).run P w= .ok false w) (hc:w.cell? p=some v):(execOp ρ o).run P w= .ok (.value v) w:=by
 unfold execOp
 rw [ho]
 simp [hx,hu,hc,go_sem]
end
open Go
section
variable {P:Program} {ops:Array Oper} {R:World→Prop} {Q:Exit→Act→World→Prop} {md:Region.Mode}
variable {z:Nat}
def Fine (z:Nat) (R:World→Prop) (l:Array Bool) (w:World):Prop:=l.getD z true=true∨R w
def Walk (P:Program) (md:Region.Mode) (ops:Array Oper) (Q:Exit→Act→World→Prop) (z:Nat) (R:World→Prop):Nat→Array Bool→Act→World→Prop
 | n,l,a,w=>(Region.ready md ops l=[]→Q .normal a w)∧(match n with
  | 0=>Region.ready md ops l=[]
  | n+1=>∀i∈Region.ready md ops l,wpOp P ops Q i (fun a' w'=>Fine z R (l.setIfInBounds i true) w'∧Walk P md ops Q z R n (l.setIfInBounds i true) a' w') a w)
theorem Walk.any:∀{n:Nat} {l:Array Bool} {a:Act} {w:World},Walk P md ops Q z R n l a w→wpAny P md ops Q n l a w
 | 0,_,_,_,h=>by rw [Walk] at h;exact ⟨h.2,h.1 h.2⟩
 | n+1,_,_,_,h=>by rw [Walk] at h;exact ⟨h.1,fun i hi=>wpOp_mono (fun _ _ k=>k.2.any) (h.2 i hi)⟩
theorem Walk.first {i:Nat} {o:Oper} {v:Value} (hi:ops[i]?=some o) (hsel:∀(j:Nat) (o:Oper) cs b,ops[j]?=some o→o.op≠ .select cs b) (hQ:∀c a w,Q (.panic c) (a.put o.dst v) w→Q (.panic c) a w)
  (hz:∃u,ops[z]?=some u∧∃e∈u.after,Region.binds md e=true∧e.on=i) (hzi:z≠i) (n:Nat):
  ∀(l:Array Bool) (a:Act) (w:World),(∀j u,ops[j]?=some u→j≠i→l.getD j true=false→(∀e∈u.after,Region.binds md e=true→e.on≠i)→o.apart ops u=true)→
   i∈Region.ready md ops l→l.getD z true=false→YieldsIf P ops R o v a→R w→Walk P md ops Q z R n (l.setIfInBounds i true) (a.put o.dst v) w→Walk P md ops Q z R (n+1) l a w:=by
 have hin:i < ops.size:=(Array.getElem?_eq_some_iff.1 hi).1
 have self:∀(n:Nat) (l:Array Bool) (a:Act) (w:World),YieldsIf P ops R o v a→R w→Walk P md ops Q z R n (l.setIfInBounds i true) (a.put o.dst v) w→
   wpOp P ops Q i (fun a' w'=>Fine z R (l.setIfInBounds i true) w'∧Walk P md ops Q z R n (l.setIfInBounds i true) a' w') a w:=fun n l a w hy hR H=>hy.wpOp hi hR ⟨.inr hR,H⟩
 induction n with
 | zero=>
  intro l a w _ hr _ hy hR H
  rw [Walk]
  refine ⟨fun h0=>absurd hr (by rw [h0];exact List.not_mem_nil),fun j hj=>?_⟩
  by_cases e:j=i
  ·rw [e];exact self 0 l a w hy hR H
  ·have h0:=H
   rw [Walk] at h0
   have:=ready_mono hj e
   rw [h0.2] at this
   exact absurd this List.not_mem_nil
 | succ n ih=>
  intro l a w far hr hlz hy hR H
  rw [Walk]
  refine ⟨fun h0=>absurd hr (by rw [h0];exact List.not_mem_nil),fun j hj=>?_⟩
  by_cases e:j=i
  ·rw [e];exact self (n+1) l a w hy hR H
  ·obtain ⟨hjl,u,hu,hall⟩:=mem_ready.1 hj
   have hil:l.getD i true=false:=(mem_ready.1 hr).1
   have hwait:∀e∈u.after,Region.binds md e=true→e.on≠i:=fun x hx hb q=>by
    have k:=hall x hx hb
    rw [q] at k
    by_cases hs:i < l.size
    ·simp [hs] at hil k;rw [hil] at k;cases k
    ·simp [Array.getElem?_eq_none (Nat.le_of_not_lt hs)] at hil
   have hstep:=H
   rw [Walk] at hstep
   refine wpOp_mono (fun a' w' k=>?_) (wpOp_putIf hu (far j u hu e hjl hwait) (fun cs b=>hsel i o cs b hi) (fun cs b=>hsel j u cs b hu) hQ hy (hstep.2 j (ready_mono hj e)))
   obtain ⟨hy',hf,hw'⟩:=k
   have hun:(l.setIfInBounds j true).getD i true=false:=by rw [getD_set_ne true e];exact hil
   have hjz:j≠z:=fun q=>by
    obtain ⟨u',hu',x,hx,hb,hon⟩:=hz
    rw [q] at hu
    rw [hu] at hu'
    injection hu' with hu'
    subst hu'
    exact hwait x hx hb hon
   have hlz':(l.setIfInBounds j true).getD z true=false:=by rw [getD_set_ne true hjz];exact hlz
   have hR':R w':=by
    rcases hf with hf | hf
    ·rw [getD_set_ne true hjz,getD_set_ne true (Ne.symm hzi),hlz] at hf;cases hf
    ·exact hf
   refine ⟨.inr hR',ih (l.setIfInBounds j true) a' w' (fun k u' hk hki hkl hno=>far k u' hk hki ?_ hno) (ready_mono hr (Ne.symm e)) hlz' hy' hR' (by rw [Array.setIfInBounds_comm _ _ e];exact hw')⟩
   by_cases q:j=k
   ·rw [←q];exact hjl
   ·rwa [getD_set_ne true q] at hkl
variable {fuel:Nat} {listed:Array Bool} {a:Act} {w:World}
theorem walk_start {id:Nat} {s:List Oper} {n:Nat} (z:Nat) (R:World→Prop) (hm:P.follows .mixedOrders=true) (hn:n=s.length) (h:Walk P .any s.toArray (NoPanic Q) z R n (Array.replicate n false) a w.drew):(Code.region id s.toArray true).wp P Q a w:=by
 subst hn
 refine wp_region_noPanic (wp_region_any hm ?_)
 have:=h.any
 simpa using this
def nC (md:Region.Mode) (ops:Array Oper) (z i:Nat):Bool:=match ops[z]? with
 | some u=>z !=i && u.after.any (fun e=>Region.binds md e && e.on==i)
 | none=>false
theorem waits_spec {i:Nat} (h:nC md ops z i=true):(∃u,ops[z]?=some u∧∃e∈u.after,Region.binds md e=true∧e.on=i)∧z≠i:=by
 unfold nC at h
 split at h
 ·rename_i u hu
  simp only [Bool.and_eq_true,bne_iff_ne,ne_eq,Array.any_eq_true'] at h
  obtain ⟨h1,e,he,h2⟩:=h
  simp only [beq_iff_eq] at h2
  exact ⟨⟨u,hu,e,he,h2.1,h2.2⟩,h1⟩
 ·cases h
theorem walk_free (i:Nat) {o:Oper} (v:Value) (hi:ops[i]?=some o) (hs:Region.noSelect ops=true) (hf:Region.free md ops listed i=true) (hr:(Region.ready md ops listed).contains i=true) (hwz:nC md ops z i=true) (hlz:listed.getD z true=false)
  (hw:Region.wanted o (yielded ops a.tmps)=true) (hR:R w) (hv:∀w,R w→(execOp a.eval o).run P w= .ok (.value v) w) (h:Walk P md ops (NoPanic Q) z R fuel (listed.setIfInBounds i true) (a.put o.dst v) w):Walk P md ops (NoPanic Q) z R (fuel+1) listed a w:=
 Walk.first hi (Region.noSelect_spec hs) (fun c a w h=>h) (waits_spec hwz).1 (waits_spec hwz).2 fuel listed a w (Region.free_spec hi hf) (by simpa using hr) hlz (.inl ⟨hw,hv⟩) hR h
structure lL (P:Program) (md:Region.Mode) (ops:Array Oper) (Q:Exit→Act→World→Prop) (z:Nat) (R:World→Prop) (fuel:Nat) (listed:Array Bool) (i:Nat) (a:Act) (w:World):Prop where
 ok:wpOp P ops Q i (fun a' w'=>Fine z R (listed.setIfInBounds i true) w'∧Walk P md ops Q z R fuel (listed.setIfInBounds i true) a' w') a w
theorem dA (i:Nat) (hr:Region.ready md ops listed=[i]) (h:lL P md ops Q z R fuel listed i a w):Walk P md ops Q z R (fuel+1) listed a w:=by
 rw [Walk]
 refine ⟨fun h0=>absurd (hr.symm.trans h0) (by simp),fun k hk=>?_⟩
 rw [hr,List.mem_singleton] at hk
 subst hk
 exact h.ok
theorem lH (i j:Nat) (hr:Region.ready md ops listed=[i,j]) (h:lL P md ops Q z R fuel listed i a w) (h':lL P md ops Q z R fuel listed j a w):Walk P md ops Q z R (fuel+1) listed a w:=by
 rw [Walk]
 refine ⟨fun h0=>absurd (hr.symm.trans h0) (by simp),fun k hk=>?_⟩
 rw [hr] at hk
 simp only [List.mem_cons,List.not_mem_nil,or_false] at hk
 rcases hk with rfl | rfl
 ·exact h.ok
 ·exact h'.ok
theorem lI {i:Nat} {o:Oper} (hi:ops[i]?=some o) (hw:Region.wanted o (yielded ops a.tmps)=true) (h:o.wp P a w (fun a' w'=>Fine z R (listed.setIfInBounds i true) w'∧Walk P md ops Q z R fuel (listed.setIfInBounds i true) a' w') Q):lL P md ops Q z R fuel listed i a w:=by
 refine ⟨?_⟩
 unfold wpOp
 rw [hi]
 simp only [hw,if_true]
 exact .inl h
theorem eP (i:Nat) {o:Oper} {f:FuncId} {args:Array Value} {v:Value} {K:World→Prop} (hi:ops[i]?=some o) (hw:Region.wanted o (yielded ops a.tmps)=true)
  (he:(execOp a.eval o).run P w= .ok (.enter f args) w) (hc:Calls P f args w fun e w'=>e= .returned v∧K w') (hR:∀w',K w'→R w') (h:∀w',K w'→Walk P md ops Q z R fuel (listed.setIfInBounds i true) (a.put o.dst v) w'):lL P md ops Q z R fuel listed i a w:=by
 refine lI hi hw ?_
 unfold Oper.wp
 rw [he]
 exact hc.mono fun e w' ⟨h1,h2⟩=>by subst h1;exact ⟨.inr (hR _ h2),h _ h2⟩
theorem kV (i:Nat) {o:Oper} {v:Value} {w':World} (hi:ops[i]?=some o) (hw:Region.wanted o (yielded ops a.tmps)=true) (he:(execOp a.eval o).run P w= .ok (.value v) w') (hR:R w')
  (h:Walk P md ops Q z R fuel (listed.setIfInBounds i true) (a.put o.dst v) w'):lL P md ops Q z R fuel listed i a w:=by
 refine lI hi hw ?_
 unfold Oper.wp
 rw [he]
 exact ⟨.inr hR,h⟩
theorem kY (i:Nat) {o:Oper} {w':World} (hi:ops[i]?=some o) (hw:Region.wanted o (yielded ops a.tmps)=true) (he:(execOp a.eval o).run P w= .ok .skip w') (hl:(listed.setIfInBounds i true).getD z true=true)
  (h:Walk P md ops Q z R fuel (listed.setIfInBounds i true) (a.put o.dst undef) w'):lL P md ops Q z R fuel listed i a w:=by
 refine lI hi hw ?_
 unfold Oper.wp
 rw [he]
 exact ⟨.inl hl,h⟩
theorem walk_end (hr:Region.ready md ops listed=[]) (h:Q .normal a w):Walk P md ops (NoPanic Q) z R 0 listed a w:=by
 rw [Walk]
 exact ⟨fun _=>NoPanic.normal h,hr⟩
theorem dV {o:Oper} (ty:TypeId) (x y:Operand) (ho:o.op= .store ty x y) (p:Addr) (v:Value) (hx:a.eval x= .pointer (some p)) (hy:a.eval y=v) (hs:(storeVar ty p v).run P w= .ok () (w.setCell p v)):(execOp a.eval o).run P w= .ok .skip (w.setCell p v):=by
 unfold execOp
 simp only [ho,hx,hy,Instr.storeAt,Instr.sureAddr,Sem.run_bind,Sem.run_pure,Result.andThen_ok,hs]
end
open Go.RowKit
theorem bV {a b:Bool} (h:a=b):Ending.returned (.bool a)= .returned (.bool b):=by rw [h]
theorem ret_int {k:IntKind} {a b:Int} (h:a=b):Ending.returned (.int k a)= .returned (.int k b):=by rw [h]
theorem jV {a b:ByteArray} (h:a=b):Ending.returned (.string a)= .returned (.string b):=by rw [h]
def Blk (w:World) (g:Nat) (t:TypeId) (cs:Array Value):Prop:=w.heap[g]?=some (.cells cs t (0,0))
namespace Blk
variable {w w':World} {g:Nat} {t:TypeId} {cs:Array Value}
theorem same (h:Blk w g t cs) (e:w'.heap[g]?=w.heap[g]?):Blk w' g t cs:=e.trans h
theorem lt (h:Blk w g t cs):g < w.heap.size:=(Array.getElem?_eq_some_iff.1 h).1
theorem cell (h:Blk w g t cs) (i:Nat):w.cell? ⟨g,i,none⟩=cs[i]?:=cell_of_row w g i cs t (0,0) h
theorem frozen (h:Blk w g t cs) (i:Nat):w.frozen? ⟨g,i,none⟩=false:=by simp [World.frozen?,show w.heap[g]?=some (.cells cs t (0,0)) from h]
theorem new (w:World) (t:TypeId) (cs:Array Value):Blk (w.alloc (.cells cs t)) w.heap.size t cs:=heap_alloc_new w (.cells cs t)
theorem drew (h:Blk w g t cs):Blk w.drew g t cs:=h.same rfl
theorem drewN (h:Blk w g t cs) (n:Nat):Blk (w.drewN n) g t cs:=h.same rfl
theorem alloc (h:Blk w g t cs) (o:Obj):Blk (w.alloc o) g t cs:=h.same (Below.heap_alloc w o g h.lt)
theorem below {B:Nat} (h:Blk w g t cs) (hb:Below B w w') (hg:g < B):Blk w' g t cs:=h.same (hb.block g hg)
theorem grown {row:Option Nat} (h:Blk w g t cs) (hb:w.grownBy w' row) (hg:some g≠row):Blk w' g t cs:=h.same (hb.block g h.lt hg)
theorem fJ (h:Blk w g t cs) (i:Nat) (u:Value):Blk (w.setCell ⟨g,i,none⟩ u) g t (cs.setIfInBounds i u):=by
 have e:w.heap[g]?=some (.cells cs t (0,0)):=h
 show (w.setCell ⟨g,i,none⟩ u).heap[g]?=_
 rw [World.setCell,Array.getElem?_modify,e]
 simp
theorem ne_ {g':Nat} {t':TypeId} {cs':Array Value} (h:Blk w g t cs) (h':Blk w g' t' cs') (hne:t≠t'):g≠g':=fun e=>by
 have hh:some (Obj.cells cs t (0,0))=some (Obj.cells cs' t' (0,0)):=by rw [←show w.heap[g]?=_ from h,e];exact h'
 simp only [Option.some.injEq,Obj.cells.injEq] at hh
 exact hne hh.2.1
end Blk
theorem jC (w:World) (n:Nat) (row:Option Nat):w.grownBy (w.drewN n) row:=⟨rfl,rfl,rfl,Nat.le_refl _,fun _ _ _=>rfl⟩
theorem only_drewN {a w:World} {row:Option Nat} (h:a.grownBy w row) (n:Nat):a.grownBy (w.drewN n) row:=h.trans (jC w n row)
theorem only_drew {a w:World} {row:Option Nat} (h:a.grownBy w row):a.grownBy w.drew row:=h.trans ⟨rfl,rfl,rfl,Nat.le_refl _,fun _ _ _=>rfl⟩
theorem bM {a w:World} {row:Option Nat} (h:a.grownBy w row) (o:Obj):a.grownBy (w.alloc o) row:=h.trans (World.grownBy_alloc w o row)
theorem aT {a w:World} {g:Nat} (h:a.grownBy w (some g)) {p:Addr} (hp:p.block=g) (u:Value):a.grownBy (w.setCell p u) (some g):=
 h.trans ⟨rfl,rfl,rfl,by simp [World.setCell],fun k _ hk=>Below.heap_setCell w p u k fun e=>hk (by rw [e,hp])⟩
theorem bH {a w:World} (h:Below a.heap.size a w) (row:Option Nat):a.grownBy w row:={ os:=h.os,tape:=h.tape,output:=h.output,size:=h.size,block:=fun k hk _=>h.block k hk }
theorem below_drewN {B:Nat} {a w:World} (h:Below B a w) (n:Nat):Below B a (w.drewN n):=h.trans ⟨rfl,rfl,rfl,Nat.le_refl _,fun _ _=>rfl⟩
theorem aB {B:Nat} {a w:World} {b:Nat} (h:a.grownBy w (some b)) (hb:B≤b) (hs:B≤a.heap.size):Below B a w:=
 ⟨h.os,h.tape,h.output,h.size,fun i hi=>h.block i (by omega) (fun e=>by injection e with e;omega)⟩
def fG (n:Nat) (w:World) (v:Value) (ss:List ByteArray):Prop:=
 ∃(p:Option Addr) (cap:Nat),v= .slice p ss.length cap∧∀(i:Nat) (s:ByteArray),ss[i]?=some s→∃g,p=some ⟨g,0,none⟩∧g < n∧w.cell? ⟨g,i,none⟩=some (.string s)
abbrev Row (w:World) (v:Value) (ss:List ByteArray):Prop:=fG w.heap.size w v ss
theorem Row.nil (w:World):Row w (.slice none 0 0) []:=⟨none,0,rfl,fun i s h=>by simp at h⟩
theorem fG.kept {n:Nat} {w w':World} {v:Value} {ss:List ByteArray} (h:fG n w v ss) (b:∀k,k < n→w'.heap[k]?=w.heap[k]?):fG n w' v ss:=by
 obtain ⟨p,cap,hv,hc⟩:=h
 refine ⟨p,cap,hv,fun i s hs=>?_⟩
 obtain ⟨g,hp,hg,hi⟩:=hc i s hs
 exact ⟨g,hp,hg,(World.cell?_of_block (a:=⟨g,i,none⟩) (b g hg)).trans hi⟩
theorem fG.mono {n m:Nat} {w:World} {v:Value} {ss:List ByteArray} (h:fG n w v ss) (b:n≤m):fG m w v ss:=by
 obtain ⟨p,cap,hv,hc⟩:=h
 refine ⟨p,cap,hv,fun i s hs=>?_⟩
 obtain ⟨g,hp,hg,hi⟩:=hc i s hs
 exact ⟨g,hp,Nat.lt_of_lt_of_le hg b,hi⟩
theorem Row.below {w w':World} {v:Value} {ss:List ByteArray} (h:Row w v ss) (b:Below w.heap.size w w'):Row w' v ss:=(fG.kept h b.block).mono b.size
theorem Row.qW {w:World} {g:Nat} {t:TypeId} {ss:List ByteArray} (n:Nat) (hn:n=ss.length) (h:Blk w g t (ss.map Value.string).toArray) (cap:Nat):Row w (.slice (some ⟨g,0,none⟩) n cap) ss:=by
 subst hn
 refine ⟨_,cap,rfl,fun i s hs=>⟨g,rfl,h.lt,?_⟩⟩
 rw [h.cell i];simp [hs]
open Go Go.RowKit
theorem aN {P:Program} {ops:Array Oper} {S:World→Prop} {Q:Exit→Act→World→Prop} {md:Region.Mode} {listed:Array Bool} {a:Act} {w:World} (A:Act) (hr:Region.ready md ops listed=[]) (hA:a=A) (h:Q .normal A w):wpAnyH P md ops (NoPanic Q) S 0 listed a w:=by subst hA;exact aG hr h
theorem ex_strcat {ρ:Operand→Value} {o:Oper} {w:World} (t u:TypeId) (x y:Operand) (ho:o.op= .binOp .add t x y u) (a b c:ByteArray) (hx:ρ x= .string a) (hy:ρ y= .string b) (ha:(a.size:Int)≤8388608) (hb:(b.size:Int)≤8388608) (h:c=a++b):
  (execOp ρ o).run Tryz.prog w= .ok (.value (.string c)) w:=by
 subst h
 unfold execOp
 rw [ho]
 have hr:=run_string_add (P:=Tryz.prog) w a b ha hb
 simp [hx,hy,eqGuard,Go.binOp,hr]
theorem fB {P:Program} {ops:Array Oper} {R:World→Prop} {Q:Exit→Act→World→Prop} {md:Region.Mode} {z:Nat} {listed:Array Bool} {a:Act} {w:World} (A:Act) (hr:Region.ready md ops listed=[]) (hA:a=A) (h:Q .normal A w):Walk P md ops (NoPanic Q) z R 0 listed a w:=by subst hA;exact walk_end hr h
theorem cO {P:Program} {ρ:Operand→Value} {o:Oper} {w w':World} (t u:TypeId) (x:Operand) (ho:o.op= .convert t u x) {v r:Value} (hx:ρ x=v) (he:(convert t u v).run P w= .ok r w'):(execOp ρ o).run P w= .ok (.value r) w':=by
 unfold execOp
 rw [ho]
 simp [hx,he]
theorem exec_row_ {P:Program} {o:Oper} {ρ:Operand→Value} {w:World} (ty:TypeId) (x:Operand) (ho:o.op= .load ty x) (g:Nat) (hx:ρ x= .pointer (some ⟨g,0,none⟩)) (t:TypeId) (cs:Array Value) (fr:Nat×Nat) (d:TypeDesc) (hg:w.heap[g]?=some (.cells cs t fr))
  (hu:P.underlying ty=some d) (hd:(match d with | .struct _ | .array _ _=>true | _=>false)=true) (hi:(P.info? ty).map (·.size)=some cs.size):(execOp ρ o).run P w= .ok (.value (.agg cs)) w:=by
 unfold execOp
 simp only [ho,hx,Instr.loadAt,Instr.sureAddr,Sem.run_bind,Sem.run_pure,Result.andThen_ok,run_loadVar_row w g t ty cs fr d hg hu hd hi]
theorem ex_alloc {ρ:Operand→Value} {o:Oper} {w:World} (t:TypeId) (cs:Array Value) (ho:o.op= .alloc t) (hz:∀w,(zeroValue t).run Tryz.prog w= .ok (.agg cs) w):
  (execOp ρ o).run Tryz.prog w= .ok (.value (.pointer (some ⟨w.heap.size,0,none⟩))) (w.alloc (.cells cs t)):=by
 unfold execOp
 rw [ho]
 simp [Instr.alloc,hz,newVar,newRow,Value.cells]
theorem jS {P:Program} {ρ:Operand→Value} {o:Oper} {w:World} (t:TypeId) (x:Operand) (k:Nat) (ho:o.op= .fieldAddr t x k) {v r:Value} (hx:ρ x=v) (he:(Instr.fieldAt t v k).run P w= .ok r w):(execOp ρ o).run P w= .ok (.value r) w:=by
 unfold execOp
 rw [ho]
 simp [hx,he]
theorem grown_of_below {a w w1:World} {b:Nat} (h:a.grownBy w (some b)) (q:Below w.heap.size w w1):a.grownBy w1 (some b):=
 ⟨q.os.trans h.os,q.tape.trans h.tape,q.output.trans h.output,Nat.le_trans h.size q.size,fun k hk hne=>(q.block k (Nat.lt_of_lt_of_le hk h.size)).trans (h.block k hk hne)⟩
theorem aK {P:Program} {fn:Func} {R:Ending→World→Prop} {a:Act} {w:World} (t:Tmp) (v:Value) (hf:fn.results=#[.tmp t]) (ht:a.tmps.getD t undef=v) (hd:a.defers=[]) (hR:R (.returned v) w):bodyPost P fn R .ret a w:=
 bodyPost_ret (by rw [results_tmp hf,ht]) hd hR
theorem aU {a b c:World} (h:Below a.heap.size a b) (q:Below b.heap.size b c):Below a.heap.size a c:=h.trans (q.mono h.size)
theorem put_none (a:Act) (v:Value):a.put none v=a:=rfl
theorem ex_intleb {ρ:Operand→Value} {o:Oper} {w:World} (k:IntKind) (t u:TypeId) (x y:Operand) (ho:o.op= .binOp .leq t x y u) (a b:Int) (hx:ρ x= .int k a) (hy:ρ y= .int k b) (ht:Tryz.prog.underlying t=some (.int k)) (B:Bool) (h:decide (a≤b)=B):
  (execOp ρ o).run Tryz.prog w= .ok (.value (.bool B)) w:=by
 subst h
 unfold execOp
 rw [ho]
 simp [hx,hy,go_sem]
theorem ex_inteqb {ρ:Operand→Value} {o:Oper} {w:World} (k:IntKind) (t u:TypeId) (x y:Operand) (ho:o.op= .binOp .eql t x y u) (a b:Int) (hx:ρ x= .int k a) (hy:ρ y= .int k b) (ht:Tryz.prog.underlying t=some (.int k)) (B:Bool) (h:decide (a=b)=B):
  (execOp ρ o).run Tryz.prog w= .ok (.value (.bool B)) w:=by
 subst h
 unfold execOp
 rw [ho]
 simp [hx,hy,go_sem,Bool.beq_eq_decide_eq]
theorem ex_aggeq {ρ:Operand→Value} {o:Oper} {w:World} (t u:TypeId) (x y:Operand) (ho:o.op= .binOp .eql t x y u) (a b:Array Value) (hx:ρ x= .agg a) (hy:ρ y= .agg b) (hm:Tryz.prog.eqGuardType Tryz.prog.depth t=false) (B:Bool) (h:(Op.equalIn 10000 t (.agg a) (.agg b)).run Tryz.prog w= .ok B w):
  (execOp ρ o).run Tryz.prog w= .ok (.value (.bool B)) w:=by
 have g:=run_eqGuard_agg (P:=Tryz.prog) w .eql t x y a b hm
 have e:=run_eql_struct (P:=Tryz.prog) w t a b
 rw [h] at e
 unfold execOp
 rw [ho]
 simp [hx,hy,g,e]
theorem held_pass {P:Program} {ops:Array Oper} {S:World→Prop} {Q:Exit→Act→World→Prop} {md:Region.Mode} {fuel:Nat} {listed:Array Bool} {a:Act} {w:World} (i:Nat) {o:Oper} (hi:ops[i]?=some o) (hs:Region.noSelect ops=true) (hf:Region.free md ops listed i=true) (hr:(Region.ready md ops listed).contains i=true) (hw:Region.wanted o (yielded ops a.tmps)=false) (hS:S w)
  (h:wpAnyH P md ops (NoPanic Q) S fuel (listed.setIfInBounds i true) (a.put o.dst undef) w):wpAnyH P md ops (NoPanic Q) S (fuel+1) listed a w:=
 wpAnyH_take hi hs hf hr (fun c a w h=>h) (.inr ⟨hw,rfl⟩) hS h
theorem gV {P:Program} {ops:Array Oper} {S:World→Prop} {Q:Exit→Act→World→Prop} {md:Region.Mode} {fuel:Nat} {listed:Array Bool} {a:Act} {w:World} (i:Nat) {o:Oper} {f:FuncId} {args:Array Value} {R:Value→World→Prop} (hi:ops[i]?=some o) (hr:Region.ready md ops listed=[i]) (hw:Region.wanted o (yielded ops a.tmps)=true)
  (he:(execOp a.eval o).run P w= .ok (.enter f args) w) (hc:Calls P f args w fun e w'=>∃v,e= .returned v∧R v w') (hR:∀v w',R v w'→S w') (h:∀v w',R v w'→wpAnyH P md ops Q S fuel (listed.setIfInBounds i true) (a.put o.dst v) w'):wpAnyH P md ops Q S (fuel+1) listed a w:=by
 refine kX hi hr hw ?_
 unfold Oper.wp
 rw [he]
 exact hc.mono fun e w' ⟨v,h1,h2⟩=>by subst h1;exact ⟨hR _ _ h2,h _ _ h2⟩
theorem dW {ρ:Operand→Value} {o:Oper} {w:World} (t:TypeId) (v:Value) (ho:o.op= .alloc t) (hv:v.cells=#[v]) (hz:∀w,(zeroValue t).run Tryz.prog w= .ok v w):
  (execOp ρ o).run Tryz.prog w= .ok (.value (.pointer (some ⟨w.heap.size,0,none⟩))) (w.alloc (.cells #[v] t)):=by
 unfold execOp
 rw [ho]
 simp [Instr.alloc,hz,newVar,newRow,hv]
theorem iT (W:World) (g:Nat) (z s:ByteArray) (h:Blk W g 9 #[.string z]):(storeVar 9 ⟨g,0,none⟩ (.string s)).run Tryz.prog W= .ok () (W.setCell ⟨g,0,none⟩ (.string s)):=by
 have hi:(Tryz.prog.info? 9).map (·.size)=some 1:=by kernel_rfl
 have hst:(store ((⟨g,0,none⟩:Addr).add 0) (.string s)).run Tryz.prog W= .ok () (W.setCell ⟨g,0,none⟩ (.string s)):=by
  rw [show (⟨g,0,none⟩:Addr).add 0=⟨g,0,none⟩ from rfl,run_store Tryz.prog W _ _ _ rfl,h.cell 0]
  simp [h.frozen 0]
 cases hq:Tryz.prog.info? 9 with
 | none=>rw [hq] at hi;cases hi
 | some i=>
  have hs:i.size=1:=by simpa [hq] using hi
  simp [storeVar,sizeOf,typeInfo,hq,Value.cells,hs,storeCells,hst]
theorem fD (n:Int) (u:Nat) (h:n%256=(u:Int)) (w:World):(convert 3 5 (.int .i64 n)).run Tryz.prog w= .ok (.int .u8 (u:Int)) w:=by
 rw [run_convert_int w 3 5 .i64 _ (by kernel_rfl) (by kernel_rfl),show Tryz.prog.intKind 5= .u8 by kernel_rfl,IntKind.wrap_u8,h]
open Go Go.RowKit
section
variable {P:Program} {ops:Array Oper} {S:World→Prop} {Q:Exit→Act→World→Prop} {md:Region.Mode} {fuel:Nat} {listed:Array Bool} {a:Act} {w:World}
theorem stF (i:Nat) {o:Oper} (v:Value) (hi:ops[i]?=some o) (hS:S w) (h:wpAnyH P md ops (NoPanic Q) S fuel (listed.setIfInBounds i true) (a.put o.dst v) w)
  (hs:Region.noSelect ops=true:=by kernel_rfl) (hf:Region.free md ops listed i=true:=by kernel_rfl) (hr:(Region.ready md ops listed).contains i=true:=by kernel_rfl) (hw:Region.wanted o (yielded ops a.tmps)=true:=by kernel_rfl)
  (hv:∀w,S w→(execOp a.eval o).run P w= .ok (.value v) w:=by intro _ _;kernel_rfl):wpAnyH P md ops (NoPanic Q) S (fuel+1) listed a w:=held_free i v hi hs hf hr hw hS hv h
theorem stG (i:Nat) {o:Oper} (v:Value) (hi:ops[i]?=some o) (hS:S w) (hv:∀w,S w→(execOp a.eval o).run P w= .ok (.value v) w) (h:wpAnyH P md ops (NoPanic Q) S fuel (listed.setIfInBounds i true) (a.put o.dst v) w)
  (hs:Region.noSelect ops=true:=by kernel_rfl) (hf:Region.free md ops listed i=true:=by kernel_rfl) (hr:(Region.ready md ops listed).contains i=true:=by kernel_rfl) (hw:Region.wanted o (yielded ops a.tmps)=true:=by kernel_rfl):
  wpAnyH P md ops (NoPanic Q) S (fuel+1) listed a w:=held_free i v hi hs hf hr hw hS hv h
theorem stP (i:Nat) {o:Oper} (hi:ops[i]?=some o) (hS:S w) (h:wpAnyH P md ops (NoPanic Q) S fuel (listed.setIfInBounds i true) (a.put o.dst undef) w)
  (hs:Region.noSelect ops=true:=by kernel_rfl) (hf:Region.free md ops listed i=true:=by kernel_rfl) (hr:(Region.ready md ops listed).contains i=true:=by kernel_rfl) (hw:Region.wanted o (yielded ops a.tmps)=false:=by kernel_rfl):
  wpAnyH P md ops (NoPanic Q) S (fuel+1) listed a w:=held_pass i hi hs hf hr hw hS h
theorem bI {w:World} {id:Nat} {s:List Oper} {n:Nat} (hn:n=s.length) (h:∀W0,Below w.heap.size w W0→wpAnyH P .any s.toArray (NoPanic Q) (fun W=>Below w.heap.size w W) n (Array.replicate n false) a W0) (hm:P.follows .mixedOrders=true:=by kernel_rfl):(Code.region id s.toArray true).wp P Q a w:=
 held_start _ hm hn (h _ (Below.refl _ w).drew)
theorem stB (i:Nat) {V:World} {o:Oper} {f:FuncId} {args:Array Value} {v:Value} (hi:ops[i]?=some o) (hc:Calls P f args w (Rt w v)) (hB:Below V.heap.size V w) (h:∀w',Below V.heap.size V w'→wpAnyH P md ops Q (fun W=>Below V.heap.size V W) fuel (listed.setIfInBounds i true) (a.put o.dst v) w')
  (hr:Region.ready md ops listed=[i]:=by kernel_rfl) (hw:Region.wanted o (yielded ops a.tmps)=true:=by kernel_rfl) (he:(execOp a.eval o).run P w= .ok (.enter f args) w:=by kernel_rfl):wpAnyH P md ops Q (fun W=>Below V.heap.size V W) (fuel+1) listed a w:=held_call i hi hr hw he hc (fun _ h'=>aU hB h') fun w' h'=>h w' (aU hB h')
variable {z:Nat} {R:World→Prop}
theorem wkG (i:Nat) {o:Oper} (v:Value) (hi:ops[i]?=some o) (hR:R w) (hv:∀w,R w→(execOp a.eval o).run P w= .ok (.value v) w) (h:Walk P md ops (NoPanic Q) z R fuel (listed.setIfInBounds i true) (a.put o.dst v) w)
  (hs:Region.noSelect ops=true:=by kernel_rfl) (hf:Region.free md ops listed i=true:=by kernel_rfl) (hr:(Region.ready md ops listed).contains i=true:=by kernel_rfl) (hwz:nC md ops z i=true:=by kernel_rfl) (hlz:listed.getD z true=false:=by kernel_rfl)
  (hw:Region.wanted o (yielded ops a.tmps)=true:=by kernel_rfl):Walk P md ops (NoPanic Q) z R (fuel+1) listed a w:=walk_free i v hi hs hf hr hwz hlz hw hR hv h
end
theorem xLd {P:Program} {ρ:Operand→Value} {o:Oper} {w:World} (ty:TypeId) (x:Operand) (p:Addr) {v:Value} (hc:w.cell? p=some v) (ho:o.op= .load ty x:=by kernel_rfl) (hx:ρ x= .pointer (some p):=by kernel_rfl) (hu:(isAgg ty).run P w= .ok false w:=by kernel_rfl):(execOp ρ o).run P w= .ok (.value v) w:=ex_load ty x ho p hx hu hc
theorem xRw {P:Program} {o:Oper} {ρ:Operand→Value} {w:World} (ty:TypeId) (x:Operand) (g:Nat) {cs:Array Value} {d:TypeDesc} (hg:w.heap[g]?=some (.cells cs ty (0,0))) (hu:P.underlying ty=some d) (hi:(P.info? ty).map (·.size)=some cs.size)
  (ho:o.op= .load ty x:=by kernel_rfl) (hx:ρ x= .pointer (some ⟨g,0,none⟩):=by kernel_rfl) (hd:(match d with | .struct _ | .array _ _=>true | _=>false)=true:=by rfl):(execOp ρ o).run P w= .ok (.value (.agg cs)) w:=exec_row_ ty x ho g hx ty cs (0,0) d hg hu hd hi
section
variable {ρ:Operand→Value} {o:Oper} {w:World}
theorem xLb (k:IntKind) (t u:TypeId) (x y:Operand) (a b:Int) (B:Bool) (h:decide (a≤b)=B) (ho:o.op= .binOp .leq t x y u:=by kernel_rfl) (hx:ρ x= .int k a:=by kernel_rfl) (hy:ρ y= .int k b:=by kernel_rfl) (ht:Tryz.prog.underlying t=some (.int k):=by kernel_rfl):
  (execOp ρ o).run Tryz.prog w= .ok (.value (.bool B)) w:=ex_intleb k t u x y ho a b hx hy ht B h
theorem xEb (k:IntKind) (t u:TypeId) (x y:Operand) (a b:Int) (B:Bool) (h:decide (a=b)=B) (ho:o.op= .binOp .eql t x y u:=by kernel_rfl) (hx:ρ x= .int k a:=by kernel_rfl) (hy:ρ y= .int k b:=by kernel_rfl) (ht:Tryz.prog.underlying t=some (.int k):=by kernel_rfl):
  (execOp ρ o).run Tryz.prog w= .ok (.value (.bool B)) w:=ex_inteqb k t u x y ho a b hx hy ht B h
theorem xAb (t u:TypeId) (x y:Operand) (a b:Array Value) (B:Bool) (h:(Op.equalIn 10000 t (.agg a) (.agg b)).run Tryz.prog w= .ok B w) (ho:o.op= .binOp .eql t x y u:=by kernel_rfl) (hx:ρ x= .agg a:=by kernel_rfl) (hy:ρ y= .agg b:=by kernel_rfl) (hm:Tryz.prog.eqGuardType Tryz.prog.depth t=false:=by kernel_rfl):
  (execOp ρ o).run Tryz.prog w= .ok (.value (.bool B)) w:=ex_aggeq t u x y ho a b hx hy hm B h
end
open Go Go.RowKit
theorem eqx {α:Sort _} (a:α):∃x,x=a:=⟨_,rfl⟩
theorem mX {w w0:World} {o:Obj} (h:w0=w.alloc o):Below w.heap.size w w0:=by
 rw [h]
 exact (Below.refl _ w).alloc (Nat.le_refl _) _
def num (s:ByteArray) (a:Nat):Nat→Nat
 | 0=>0
 | j+1=>num s a j * 256+(s.data.toList.getD (a+j) 0).toNat
def be:Nat→Nat→List UInt8
 | 0,_=>[]
 | m+1,n=>UInt8.ofNat (n / 256 ^ m)::be m n
theorem aI:∀m n,(be m n).length=m
 | 0,_=>rfl
 | m+1,n=>by rw [be,List.length_cons,aI m n]
theorem o9:∀m n i,i < m→(be m n)[i]?=some (UInt8.ofNat (n / 256 ^ (m - 1 - i)))
 | m+1,n,0,_=>by simp [be]
 | m+1,n,i+1,h=>by
  rw [be,List.getElem?_cons_succ,o9 m n i (by omega)]
  congr 4
  omega
theorem aX {k:IntKind} {a b:Int} (h:a=b):Value.int k a= .int k b:=by rw [h]
theorem be_nums (m n:Nat):strOfNums ((be m n).map fun c=>(c.toNat:Int))=⟨(be m n).toArray⟩:=by
 unfold strOfNums
 rw [List.map_map]
 congr 2
 conv=>rhs;rw [←List.map_id (be m n)]
 apply List.map_congr_left
 intro x _
 simp
theorem kU (m n:Nat):(⟨(be m n).toArray⟩:ByteArray).size=m:=by
 show (be m n).toArray.size=m
 simp [aI]
def fits (s:ByteArray) (k:Nat) (br:Bool) (n:Int):Bool:=!br && (decide (0≤n) && decide (n≤(s.size:Int) - k))
def numO (s:ByteArray) (k:Nat) (br:Bool) (m:Nat):Nat:=if fits s k br m then num s k m else 0
def eH (s:ByteArray) (k:Nat) (br:Bool):Int:=if br then 0 else (s.size:Int) - k
def uA (s:ByteArray) (k:Nat) (br:Bool):Int:=if br then 4 else if k < s.size then 5 else 0
def txt (l:List UInt8):ByteArray:=⟨l.toArray⟩
theorem txt_list (l:List UInt8):(txt l).data.toList=l:=rfl
theorem aO (l:List UInt8):(txt l).size=l.length:=by simp [txt,ByteArray.size]
theorem bP (a b:List UInt8):txt a++txt b=txt (a++b):=by apply ByteArray.ext;simp [txt,ByteArray.data_append]
theorem txt_of (s:ByteArray):txt s.data.toList=s:=rfl
theorem iM (s:ByteArray):s++txt []=s:=by apply ByteArray.ext;simp [txt,ByteArray.data_append]
theorem iI (s:ByteArray):s.data.toList.length=s.size:=by simp
def byteAt (s:ByteArray) (i:Nat):Nat:=(s.data.toList.getD i 0).toNat
open Go.RowKit
def Cur (w:World) (b:Nat) (s:ByteArray) (k:Nat) (br:Bool):Prop:=Blk w b 256 #[.string s,.int .i64 (k:Int),.bool br]
section
variable {w w':World} {b:Nat} {s:ByteArray} {k:Nat} {br:Bool}
theorem Cur.c0 (h:Cur w b s k br):w.cell? ⟨b,0,none⟩=some (.string s):=Blk.cell h 0
theorem Cur.c1 (h:Cur w b s k br):w.cell? ⟨b,1,none⟩=some (.int .i64 (k:Int)):=Blk.cell h 1
theorem Cur.c2 (h:Cur w b s k br):w.cell? ⟨b,2,none⟩=some (.bool br):=Blk.cell h 2
theorem Cur.fz (h:Cur w b s k br) (i:Nat):w.frozen? ⟨b,i,none⟩=false:=Blk.frozen h i
end
def jM (w w':World) (b:Nat) (s:ByteArray) (k:Nat) (br:Bool):Prop:=w.grownBy w' (some b)∧Cur w' b s k br
theorem jM.trans {w w' w'':World} {b:Nat} {s s':ByteArray} {k k':Nat} {br br':Bool} (h:jM w w' b s k br) (h':jM w' w'' b s' k' br'):jM w w'' b s' k' br':=⟨h.1.trans h'.1,h'.2⟩
theorem jM.after {w w' w'':World} {b:Nat} {s:ByteArray} {k:Nat} {br:Bool} (h:w.grownBy w' (some b)) (h':jM w' w'' b s k br):jM w w'' b s k br:=⟨h.trans h'.1,h'.2⟩
open Go.ChangeShapes Go.WideShapes Go.ChangeAt Go.RowKit
abbrev enough (g:Nat):Value:=.func (.func 230) #[] #[.pointer (some ⟨g,0,none⟩)]
theorem dZ (n:Int) (w:World):
  Calls Tryz.prog 206 #[.int .i64 n] w fun e w'=>e= .returned (enough w.heap.size)∧w.alloc (.cells #[.int .i64 n] 3)=w':=by
 go_enter Tryz.func206,Tryz.ntmps206
 go_wp2
 go_ret;exact ⟨rfl,rfl⟩
theorem jF (g:Nat) (n m:Int) (h0:0≤n) (h1:n≤m) (w:World) (h:Blk w g 3 #[.int .i64 n]):
  Calls Tryz.prog 230 #[.int .i64 m,.pointer (some ⟨g,0,none⟩)] w fun e w'=>e= .returned (.bool true)∧w=w':=by
 have c0:w.cell? ⟨g,0,none⟩=some (.int .i64 n):=h.cell 0
 clear h
 go_enter Tryz.func230,Tryz.ntmps230
 go_wp2
 go_ret;exact ⟨rfl,rfl⟩
theorem jI (g:Nat) (n m:Int) (h1:n < 0∨m < n) (w:World) (h:Blk w g 3 #[.int .i64 n]):
  Calls Tryz.prog 230 #[.int .i64 m,.pointer (some ⟨g,0,none⟩)] w fun e w'=>e= .returned (.bool false)∧w=w':=by
 have c0:w.cell? ⟨g,0,none⟩=some (.int .i64 n):=h.cell 0
 clear h
 by_cases h0:0≤n
 ·have h2:m < n:=by omega
  have h3:decide (n≤m)=false:=by simp;omega
  clear h1
  go_enter Tryz.func230,Tryz.ntmps230
  go_wp2
  go_ret;exact ⟨rfl,rfl⟩
 ·have h2:n < 0:=by omega
  clear h0 h1
  go_enter Tryz.func230,Tryz.ntmps230
  go_wp2
  go_ret;exact ⟨rfl,rfl⟩
open Go.ChangeShapes Go.WideShapes Go.ChangeAt Go.RowKit
theorem Blk.cur {w:World} {b:Nat} {s:ByteArray} {k:Nat} {br:Bool} (h:Cur w b s k br) (o:Obj):Cur (w.alloc o) b s k br:=Blk.alloc h o
open Go.ChangeShapes Go.WideShapes Go.ChangeAt Go.RowKit
def fP (n j i:Nat):Value:=.int .u8 ((if i < 8 - j then 0 else n / 256 ^ (7 - i)%256:Nat):Int)
theorem gI (n:Nat):∀i,i < (#[Value.int IntKind.u8 0,Value.int IntKind.u8 0,Value.int IntKind.u8 0,Value.int IntKind.u8 0,Value.int IntKind.u8 0,Value.int IntKind.u8 0,Value.int IntKind.u8 0,Value.int IntKind.u8 0]:Array Value).size→(#[Value.int IntKind.u8 0,Value.int IntKind.u8 0,Value.int IntKind.u8 0,Value.int IntKind.u8 0,Value.int IntKind.u8 0,Value.int IntKind.u8 0,Value.int IntKind.u8 0,Value.int IntKind.u8 0]:Array Value)[i]?=some (fP n 0 i):=by
 intro i hi
 have h8:i < 8:=hi
 have e:fP n 0 i= .int .u8 0:=by unfold fP;rw [if_pos (by omega)];rfl
 rw [e]
 obtain rfl | rfl | rfl | rfl | rfl | rfl | rfl | rfl:i=0∨i=1∨i=2∨i=3∨i=4∨i=5∨i=6∨i=7:=by omega
 all_goals rfl
theorem iR (n j p r:Nat) (hp:p+j=7) (hr:r=n / 256 ^ j):∀i,i < 8→(if i=p then Value.int .u8 ((r:Int)%256) else fP n j i)=fP n (j+1) i:=by
 intro i hi
 unfold fP
 subst hr
 by_cases e:i=p
 ·subst e
  rw [if_pos rfl,if_neg (by omega),show 7 - i=j by omega]
  exact aX (by omega)
 ·rw [if_neg e]
  by_cases h:i < 8 - j
  ·rw [if_pos h,if_pos (by omega)]
  ·rw [if_neg h,if_neg (by omega)]
theorem row_len:Tryz.prog.arrayLen 296=8:=by kernel_rfl
theorem row_under:Tryz.prog.underlying 296=some (.array (Tryz.prog.arrayLen 296) (Tryz.prog.elem 296)):=by kernel_rfl
theorem row_size (w:World):(sizeOf (Tryz.prog.elem 296)).run Tryz.prog w= .ok 1 w:=by kernel_rfl
theorem iQ (wr:World) (b q:Nat) (h:q < 8):
  (Instr.sliceAt 296 (.pointer (some ⟨b,0,none⟩)) (some (.int .i64 (q:Int))) none none).run Tryz.prog wr= .ok (.slice (some ⟨b,q,none⟩) (8 - q) (8 - q)) wr:=by
 rw [run_sliceAt_array_l wr 296 ⟨b,0,none⟩ row_under .i64 q (by omega) (by rw [row_len];omega),row_size,row_len]
 unfold slicedAt
 simp only [Result.andThen_ok,Int.toNat_natCast,Nat.mul_one]
 rw [if_neg (by omega)]
 unfold Addr.add
 by_cases e:q=0
 ·subst e;rfl
 ·simp [e]
theorem jT (wr:World) (b n m q:Nat) (h:q+m=8) (hr:wr.rowIs b 296 8 (fP n m)):
  (convert 58 9 (.slice (some ⟨b,q,none⟩) (8 - q) (8 - q))).run Tryz.prog wr= .ok (.string ⟨(be m n).toArray⟩) wr:=by
 rw [←be_nums]
 refine run_convert_bytes_arg wr 58 5 Tryz.underlying58 Tryz.underlying5 b q (8 - q) (8 - q) _ (by rw [List.length_map,aI];omega) (fun i hi=>?_) 9 Tryz.underlying9
 rw [hr.cell (by omega),fP,if_neg (by omega)]
 have e:=o9 m n i (by omega)
 rw [List.getD_eq_getElem?_getD,List.getElem?_map,e]
 simp only [Option.map_some,Option.getD_some,Option.some.injEq]
 refine aX ?_
 rw [show 7 - (q+i)=m - 1 - i by omega]
 simp
theorem write8_any (s:ByteArray) (n g m:Nat) (w:World) (hs:s.size≤9223372036854775000) (hn:n≤255) (h0:1≤m) (hm:m≤8) (hg:Blk w g 3 #[.int .i64 (m:Int)]):
  Calls Tryz.prog 205 #[.string s,.int .u8 (n:Int),enough g] w (Rt w (.string (s++⟨(be m n).toArray⟩))):=by
 have G:=Lh hg
 have glt:=hg.lt
 clear hg
 go_enter Tryz.func205,Tryz.ntmps205
 go_wp2
 go_loopw [8,9] (fun x r wr=>∃j:Nat,j≤m∧x= .int .i64 ((8 - j:Nat):Int)∧r= .int .u64 ((n / 256 ^ j:Nat):Int)∧Below w.heap.size w wr∧wr.rowIs w.heap.size 296 8 (fP n j)) (fun x _ _=>(intOf x).toNat)
 case atStart=>exact ⟨0,Nat.zero_le _,rfl,aX (by simp),(Below.refl _ _).alloc (Nat.le_refl _) _,World.rowIs_alloc w _ _ _ (gI n)⟩
 case round=>
  obtain ⟨j,hj,rfl,rfl,hB,hr⟩:=hrel
  have G':Blk wr g 3 #[.int .i64 (m:Int)]:=Blk.below G.out hB glt
  have GG:=Lh G'
  clear G'
  by_cases hlt:j < m
  ·obtain ⟨p,hp⟩:∃p,p+1=8 - j:=⟨7 - j,by omega⟩
   obtain ⟨r,hrr⟩:=eqx (n / 256 ^ j)
   rw [←hp,←hrr]
   have hp8:p≤7:=by omega
   have c1:wr.cell? ⟨w.heap.size,p,none⟩=some (fP n j p):=hr.cell (by omega)
   have f1:=hr.frozen p
   unfold fP at c1
   have q1:p+j=7:=by omega
   have HP:=Lh hp
   have HR:=Lh hrr
   have HB:=Lh hB
   have HRR:=Lh hr
   clear hp hrr hB hr
   go_wp2_with (go_at_call 230;(with_reducible refine (jI g m _ (by omega) _ GG.out).mono ?_);rintro e w' ⟨rfl,rfl⟩)
   go_roundw
   case rel=>exact ⟨j+1,by omega,aX (by omega),aX (by rw [HR.out,Nat.pow_succ,←Nat.div_div_eq_div_mul];rfl),HB.out.setCell (Nat.le_refl _) _,(HRR.out.set p _).congr (iR n j p r (by omega) HR.out)⟩
   case measure=>simp [intOf]
  ·obtain rfl:m=j:=by omega
   obtain ⟨q,hq⟩:=eqx (8 - m)
   rw [←hq]
   have q1:q+m=8:=by omega
   have hsl:=iQ wr w.heap.size q (by omega)
   have hconv:=jT wr w.heap.size n m q q1 hr
   obtain ⟨t,ht⟩:∃t:ByteArray,t=⟨(be m n).toArray⟩:=⟨_,rfl⟩
   have hts:t.size≤8:=by rw [ht,kU];omega
   rw [←ht] at hconv
   have HT:=Lh ht
   have HB:=Lh hB
   clear hr hB hq ht
   go_wp2_with (go_at_call 230;(with_reducible refine (jF g m _ (by omega) (by omega) _ GG.out).mono ?_);rintro e w' ⟨rfl,rfl⟩)
   go_ret
   exact ⟨jV (by rw [HT.out]),HB.out⟩
theorem bG (s:ByteArray) (n:Nat) (w:World) (hs:s.size≤9223372036854775000) (hn:n≤255):
  Calls Tryz.prog 146 #[.string s,.int .u8 (n:Int)] w (Rt w (.string (s++⟨(be 1 n).toArray⟩))):=by
 have bn:Blk (w.alloc (.cells #[.int .i64 1] 3)) w.heap.size 3 #[.int .i64 ((1:Nat):Int)]:=Blk.new _ _ _
 have BN:=Lh bn
 clear bn
 go_enter Tryz.func146,Tryz.ntmps146
 go_wp2_with (first
  | (go_at_call 206;(with_reducible refine (dZ 1 _).mono ?_);rintro e w' ⟨rfl,rfl⟩)
  | (go_at_call 205;(with_reducible refine (write8_any s n w.heap.size 1 _ hs hn (by omega) (by omega) BN.out).mono ?_);rintro e w1 ⟨rfl,hb⟩))
 go_ret;exact ⟨rfl,((Below.refl _ _).alloc (Nat.le_refl _) _).trans (hb.mono (by simp))⟩
theorem write16_any (s:ByteArray) (n g m:Nat) (w:World) (hs:s.size≤9223372036854775000) (hn:n≤65535) (h0:1≤m) (hm:m≤8) (hg:Blk w g 3 #[.int .i64 (m:Int)]):
  Calls Tryz.prog 219 #[.string s,.int .u16 (n:Int),enough g] w (Rt w (.string (s++⟨(be m n).toArray⟩))):=by
 have G:=Lh hg
 have glt:=hg.lt
 clear hg
 go_enter Tryz.func219,Tryz.ntmps219
 go_wp2
 go_loopw [8,9] (fun x r wr=>∃j:Nat,j≤m∧x= .int .i64 ((8 - j:Nat):Int)∧r= .int .u64 ((n / 256 ^ j:Nat):Int)∧Below w.heap.size w wr∧wr.rowIs w.heap.size 296 8 (fP n j)) (fun x _ _=>(intOf x).toNat)
 case atStart=>exact ⟨0,Nat.zero_le _,rfl,aX (by simp),(Below.refl _ _).alloc (Nat.le_refl _) _,World.rowIs_alloc w _ _ _ (gI n)⟩
 case round=>
  obtain ⟨j,hj,rfl,rfl,hB,hr⟩:=hrel
  have G':Blk wr g 3 #[.int .i64 (m:Int)]:=Blk.below G.out hB glt
  have GG:=Lh G'
  clear G'
  by_cases hlt:j < m
  ·obtain ⟨p,hp⟩:∃p,p+1=8 - j:=⟨7 - j,by omega⟩
   obtain ⟨r,hrr⟩:=eqx (n / 256 ^ j)
   rw [←hp,←hrr]
   have hp8:p≤7:=by omega
   have c1:wr.cell? ⟨w.heap.size,p,none⟩=some (fP n j p):=hr.cell (by omega)
   have f1:=hr.frozen p
   unfold fP at c1
   have q1:p+j=7:=by omega
   have HP:=Lh hp
   have HR:=Lh hrr
   have HB:=Lh hB
   have HRR:=Lh hr
   clear hp hrr hB hr
   go_wp2_with (go_at_call 230;(with_reducible refine (jI g m _ (by omega) _ GG.out).mono ?_);rintro e w' ⟨rfl,rfl⟩)
   go_roundw
   case rel=>exact ⟨j+1,by omega,aX (by omega),aX (by rw [HR.out,Nat.pow_succ,←Nat.div_div_eq_div_mul];rfl),HB.out.setCell (Nat.le_refl _) _,(HRR.out.set p _).congr (iR n j p r (by omega) HR.out)⟩
   case measure=>simp [intOf]
  ·obtain rfl:m=j:=by omega
   obtain ⟨q,hq⟩:=eqx (8 - m)
   rw [←hq]
   have q1:q+m=8:=by omega
   have hsl:=iQ wr w.heap.size q (by omega)
   have hconv:=jT wr w.heap.size n m q q1 hr
   obtain ⟨t,ht⟩:∃t:ByteArray,t=⟨(be m n).toArray⟩:=⟨_,rfl⟩
   have hts:t.size≤8:=by rw [ht,kU];omega
   rw [←ht] at hconv
   have HT:=Lh ht
   have HB:=Lh hB
   clear hr hB hq ht
   go_wp2_with (go_at_call 230;(with_reducible refine (jF g m _ (by omega) (by omega) _ GG.out).mono ?_);rintro e w' ⟨rfl,rfl⟩)
   go_ret
   exact ⟨jV (by rw [HT.out]),HB.out⟩
theorem kM (s:ByteArray) (n:Nat) (w:World) (hs:s.size≤9223372036854775000) (hn:n≤65535):
  Calls Tryz.prog 181 #[.string s,.int .u16 (n:Int)] w (Rt w (.string (s++⟨(be 2 n).toArray⟩))):=by
 have bn:Blk (w.alloc (.cells #[.int .i64 2] 3)) w.heap.size 3 #[.int .i64 ((2:Nat):Int)]:=Blk.new _ _ _
 have BN:=Lh bn
 clear bn
 go_enter Tryz.func181,Tryz.ntmps181
 go_wp2_with (first
  | (go_at_call 206;(with_reducible refine (dZ 2 _).mono ?_);rintro e w' ⟨rfl,rfl⟩)
  | (go_at_call 219;(with_reducible refine (write16_any s n w.heap.size 2 _ hs hn (by omega) (by omega) BN.out).mono ?_);rintro e w1 ⟨rfl,hb⟩))
 go_ret;exact ⟨rfl,((Below.refl _ _).alloc (Nat.le_refl _) _).trans (hb.mono (by simp))⟩
theorem write32_any (s:ByteArray) (n g m:Nat) (w:World) (hs:s.size≤9223372036854775000) (hn:n≤4294967295) (h0:1≤m) (hm:m≤8) (hg:Blk w g 3 #[.int .i64 (m:Int)]):
  Calls Tryz.prog 222 #[.string s,.int .u32 (n:Int),enough g] w (Rt w (.string (s++⟨(be m n).toArray⟩))):=by
 have G:=Lh hg
 have glt:=hg.lt
 clear hg
 go_enter Tryz.func222,Tryz.ntmps222
 go_wp2
 go_loopw [8,9] (fun x r wr=>∃j:Nat,j≤m∧x= .int .i64 ((8 - j:Nat):Int)∧r= .int .u64 ((n / 256 ^ j:Nat):Int)∧Below w.heap.size w wr∧wr.rowIs w.heap.size 296 8 (fP n j)) (fun x _ _=>(intOf x).toNat)
 case atStart=>exact ⟨0,Nat.zero_le _,rfl,aX (by simp),(Below.refl _ _).alloc (Nat.le_refl _) _,World.rowIs_alloc w _ _ _ (gI n)⟩
 case round=>
  obtain ⟨j,hj,rfl,rfl,hB,hr⟩:=hrel
  have G':Blk wr g 3 #[.int .i64 (m:Int)]:=Blk.below G.out hB glt
  have GG:=Lh G'
  clear G'
  by_cases hlt:j < m
  ·obtain ⟨p,hp⟩:∃p,p+1=8 - j:=⟨7 - j,by omega⟩
   obtain ⟨r,hrr⟩:=eqx (n / 256 ^ j)
   rw [←hp,←hrr]
   have hp8:p≤7:=by omega
   have c1:wr.cell? ⟨w.heap.size,p,none⟩=some (fP n j p):=hr.cell (by omega)
   have f1:=hr.frozen p
   unfold fP at c1
   have q1:p+j=7:=by omega
   have HP:=Lh hp
   have HR:=Lh hrr
   have HB:=Lh hB
   have HRR:=Lh hr
   clear hp hrr hB hr
   go_wp2_with (go_at_call 230;(with_reducible refine (jI g m _ (by omega) _ GG.out).mono ?_);rintro e w' ⟨rfl,rfl⟩)
   go_roundw
   case rel=>exact ⟨j+1,by omega,aX (by omega),aX (by rw [HR.out,Nat.pow_succ,←Nat.div_div_eq_div_mul];rfl),HB.out.setCell (Nat.le_refl _) _,(HRR.out.set p _).congr (iR n j p r (by omega) HR.out)⟩
   case measure=>simp [intOf]
  ·obtain rfl:m=j:=by omega
   obtain ⟨q,hq⟩:=eqx (8 - m)
   rw [←hq]
   have q1:q+m=8:=by omega
   have hsl:=iQ wr w.heap.size q (by omega)
   have hconv:=jT wr w.heap.size n m q q1 hr
   obtain ⟨t,ht⟩:∃t:ByteArray,t=⟨(be m n).toArray⟩:=⟨_,rfl⟩
   have hts:t.size≤8:=by rw [ht,kU];omega
   rw [←ht] at hconv
   have HT:=Lh ht
   have HB:=Lh hB
   clear hr hB hq ht
   go_wp2_with (go_at_call 230;(with_reducible refine (jF g m _ (by omega) (by omega) _ GG.out).mono ?_);rintro e w' ⟨rfl,rfl⟩)
   go_ret
   exact ⟨jV (by rw [HT.out]),HB.out⟩
theorem iL (s:ByteArray) (n:Nat) (w:World) (hs:s.size≤9223372036854775000) (hn:n≤4294967295):
  Calls Tryz.prog 189 #[.string s,.int .u32 (n:Int)] w (Rt w (.string (s++⟨(be 4 n).toArray⟩))):=by
 have bn:Blk (w.alloc (.cells #[.int .i64 4] 3)) w.heap.size 3 #[.int .i64 ((4:Nat):Int)]:=Blk.new _ _ _
 have BN:=Lh bn
 clear bn
 go_enter Tryz.func189,Tryz.ntmps189
 go_wp2_with (first
  | (go_at_call 206;(with_reducible refine (dZ 4 _).mono ?_);rintro e w' ⟨rfl,rfl⟩)
  | (go_at_call 222;(with_reducible refine (write32_any s n w.heap.size 4 _ hs hn (by omega) (by omega) BN.out).mono ?_);rintro e w1 ⟨rfl,hb⟩))
 go_ret;exact ⟨rfl,((Below.refl _ _).alloc (Nat.le_refl _) _).trans (hb.mono (by simp))⟩
theorem write64_any (s:ByteArray) (n g m:Nat) (w:World) (hs:s.size≤9223372036854775000) (hn:n≤18446744073709551615) (h0:1≤m) (hm:m≤8) (hg:Blk w g 3 #[.int .i64 (m:Int)]):
  Calls Tryz.prog 220 #[.string s,.int .u64 (n:Int),enough g] w (Rt w (.string (s++⟨(be m n).toArray⟩))):=by
 have G:=Lh hg
 have glt:=hg.lt
 clear hg
 go_enter Tryz.func220,Tryz.ntmps220
 go_wp2
 go_loopw [8,9] (fun x r wr=>∃j:Nat,j≤m∧x= .int .i64 ((8 - j:Nat):Int)∧r= .int .u64 ((n / 256 ^ j:Nat):Int)∧Below w.heap.size w wr∧wr.rowIs w.heap.size 296 8 (fP n j)) (fun x _ _=>(intOf x).toNat)
 case atStart=>exact ⟨0,Nat.zero_le _,rfl,aX (by simp),(Below.refl _ _).alloc (Nat.le_refl _) _,World.rowIs_alloc w _ _ _ (gI n)⟩
 case round=>
  obtain ⟨j,hj,rfl,rfl,hB,hr⟩:=hrel
  have G':Blk wr g 3 #[.int .i64 (m:Int)]:=Blk.below G.out hB glt
  have GG:=Lh G'
  clear G'
  by_cases hlt:j < m
  ·obtain ⟨p,hp⟩:∃p,p+1=8 - j:=⟨7 - j,by omega⟩
   obtain ⟨r,hrr⟩:=eqx (n / 256 ^ j)
   rw [←hp,←hrr]
   have hp8:p≤7:=by omega
   have c1:wr.cell? ⟨w.heap.size,p,none⟩=some (fP n j p):=hr.cell (by omega)
   have f1:=hr.frozen p
   unfold fP at c1
   have q1:p+j=7:=by omega
   have HP:=Lh hp
   have HR:=Lh hrr
   have HB:=Lh hB
   have HRR:=Lh hr
   clear hp hrr hB hr
   go_wp2_with (go_at_call 230;(with_reducible refine (jI g m _ (by omega) _ GG.out).mono ?_);rintro e w' ⟨rfl,rfl⟩)
   go_roundw
   case rel=>exact ⟨j+1,by omega,aX (by omega),aX (by rw [HR.out,Nat.pow_succ,←Nat.div_div_eq_div_mul];rfl),HB.out.setCell (Nat.le_refl _) _,(HRR.out.set p _).congr (iR n j p r (by omega) HR.out)⟩
   case measure=>simp [intOf]
  ·obtain rfl:m=j:=by omega
   obtain ⟨q,hq⟩:=eqx (8 - m)
   rw [←hq]
   have q1:q+m=8:=by omega
   have hsl:=iQ wr w.heap.size q (by omega)
   have hconv:=jT wr w.heap.size n m q q1 hr
   obtain ⟨t,ht⟩:∃t:ByteArray,t=⟨(be m n).toArray⟩:=⟨_,rfl⟩
   have hts:t.size≤8:=by rw [ht,kU];omega
   rw [←ht] at hconv
   have HT:=Lh ht
   have HB:=Lh hB
   clear hr hB hq ht
   go_wp2_with (go_at_call 230;(with_reducible refine (jF g m _ (by omega) (by omega) _ GG.out).mono ?_);rintro e w' ⟨rfl,rfl⟩)
   go_ret
   exact ⟨jV (by rw [HT.out]),HB.out⟩
theorem kH (s:ByteArray) (n:Nat) (w:World) (hs:s.size≤9223372036854775000) (hn:n≤18446744073709551615):
  Calls Tryz.prog 182 #[.string s,.int .u64 (n:Int)] w (Rt w (.string (s++⟨(be 8 n).toArray⟩))):=by
 have bn:Blk (w.alloc (.cells #[.int .i64 8] 3)) w.heap.size 3 #[.int .i64 ((8:Nat):Int)]:=Blk.new _ _ _
 have BN:=Lh bn
 clear bn
 go_enter Tryz.func182,Tryz.ntmps182
 go_wp2_with (first
  | (go_at_call 206;(with_reducible refine (dZ 8 _).mono ?_);rintro e w' ⟨rfl,rfl⟩)
  | (go_at_call 220;(with_reducible refine (write64_any s n w.heap.size 8 _ hs hn (by omega) (by omega) BN.out).mono ?_);rintro e w1 ⟨rfl,hb⟩))
 go_ret;exact ⟨rfl,((Below.refl _ _).alloc (Nat.le_refl _) _).trans (hb.mono (by simp))⟩
open Go.RowKit
theorem jM.same {w:World} {b:Nat} {s:ByteArray} {k:Nat} {br:Bool} (h:Cur w b s k br):jM w w b s k br:=⟨.refl _ _,h⟩
theorem answer {P:Program} {f:FuncId} {args:Array Value} {w:World} {v v':Value} {R:World→Prop} (h:Calls P f args w fun e w'=>e= .returned v∧R w') (hv:v=v'):
  Calls P f args w fun e w'=>e= .returned v'∧R w':=hv ▸ h
section
variable (b:Nat) (s:ByteArray) (k:Nat) (w:World)
end
open Go.RowKit
open Go Go.RowKit
open Go.ChangeShapes Go.WideShapes Go.ChangeAt Go.RowKit
def byv (l:List UInt8):Array Value:=(l.map fun b=>Value.int .u8 (b.toNat:Int)).toArray
theorem add_off (b q:Nat):(⟨b,0,none⟩:Addr).add q=⟨b,q,none⟩:=by unfold Addr.add;split<;>simp_all
theorem info8r:(Tryz.prog.info? 5).map (fun i=>(i.zero,i.size,i.bytes))=some (some (.int .u8 0),1,1):=by kernel_rfl
theorem be_take (m n j:Nat) (h:j < m):(be m n).take (j+1)=(be m n).take j++[UInt8.ofNat (n / 256 ^ (m - 1 - j))]:=by
 rw [List.take_add_one,o9 m n j h];rfl
theorem Laid_ref (n m:Nat) (w:World) (hn:n≤18446744073709551615) (h1:1≤m) (hm:m≤8):
  Calls Tryz.prog 172 #[.int .u64 (n:Int),.int .i64 (m:Int)] w (Rt w (.string (txt (be m n)))):=by
 obtain ⟨i0,hi,hz0,hz1,hz2⟩:=info_parts info8r
 have HI:=Lh hi
 have HZ0:=Lh hz0
 have HZ1:=Lh hz1
 have HZ2:=Lh hz2
 clear hi hz0 hz1 hz2
 go_enter Tryz.func172,Tryz.ntmps172
 go_wp2
 go_loopw [5,6] (fun v x wr=>∃j:Nat,j≤m∧x= .int .i64 ((m:Int) - 1 - (j:Int))∧wr.ownsRow w.heap.size 5 1 v j (byv ((be m n).take j)).toList∧Below w.heap.size w wr) (fun _ x _=>(intOf x+1).toNat)
 case atStart=>exact ⟨0,Nat.zero_le _,by go_num,World.ownsRow_nil _ _ _ _,Below.refl _ _⟩
 case round=>
  obtain ⟨j,hj,rfl,hO,hB⟩:=hrel
  by_cases hlt:j < m
  ·obtain ⟨k,hk⟩:∃k:Nat,k+1+j=m:=⟨m - 1 - j,by omega⟩
   have ek:(m:Int) - 1 - (j:Int)=(k:Int):=by omega
   rw [ek]
   have hk8:k≤7:=by omega
   have HO:=Lh hO
   have HB:=Lh hB
   clear hO hB
   obtain ⟨V,hV⟩:∃V:UInt8,V=UInt8.ofNat (n / 256 ^ k):=⟨_,rfl⟩
   have hv:(n:Int) / 2 ^ (8 * k)%256=(V.toNat:Int):=by
    rw [hV,UInt8.toNat_ofNat',show (2:Nat) ^ 8=256 from rfl,show (2:Int) ^ (8 * k)=((256 ^ k:Nat):Int) by rw [Int.pow_mul];norm_cast]
    omega
   have htk:(be m n).take (j+1)=(be m n).take j++[V]:=by rw [be_take m n j hlt,hV,show m - 1 - j=k by omega]
   have HTK:=Lh htk
   have HVV:=Lh hv
   clear hV htk
   go_wp2_with (at_builtin;rw [HVV.out];refine wpList_append_own _ rfl _ _ 58 rfl w.heap.size 5 i0 (.int .u8 0) 1 1 Tryz.underlying58 HI.out HZ0.out HZ1.out HZ2.out rfl (by decide) _ _ _ rfl (HO.out.alloc _) ⟨wr.heap.size,0,none⟩ 1 1 [.int .u8 (V.toNat:Int)] rfl rfl ?c1 ?c2 ?c3 ?c4 ?c5 ?_)
   case c1=>
    intro i u hu
    obtain rfl:i=0:=by
     rcases Nat.eq_zero_or_pos i with h | h
     ·exact h
     ·rw [List.getElem?_eq_none (by simp;omega)] at hu;cases hu
    injection hu with hu
    subst hu
    exact (Blk.new wr 5 #[.int .u8 (V.toNat:Int)]).cell 0
   case c2=>intro u hu;obtain rfl:=List.mem_singleton.1 hu;rfl
   case c3=>unfold maxLen;omega
   case c4=>omega
   case c5=>have:=HB.out.size;simp;omega
   intro v' w2 own2 grow2 _
   have HN:=Lh (show w2.ownsRow w.heap.size 5 1 v' (j+1) (byv ((be m n).take (j+1))).toList by
    rw [HTK.out];simpa [byv] using own2)
   have HB2:=Lh ((HB.out.alloc HB.out.size _).grown grow2 (by have:=HB.out.size;simp;omega) (fun k hk=>(HO.out.lt k hk).1))
   clear own2 grow2
   go_wp2_with fail
   go_roundw
   case rel=>exact ⟨j+1,by omega,by go_num,HN.out,HB2.out⟩
   case measure=>simp [intOf]
  ·obtain rfl:j=m:=by omega
   rw [show (be j n).take j=be j n from List.take_of_length_le (by rw [aI];exact Nat.le_refl _)] at hO
   obtain ⟨_,⟨_,h0,_⟩ | ⟨g,cap,cur,rfl,_,hg,_,_,_,htake⟩⟩:=id hO
   ·omega
   have HB:=Lh hB
   have hcv:(convert 58 9 (.slice (some ⟨g,0,none⟩) j cap)).run Tryz.prog wr= .ok (.string (txt (be j n))) wr:=by
    have q:=run_convert_bytes_back wr 58 9 5 ⟨g,0,none⟩ cap (be j n) Tryz.underlying58 Tryz.underlying5 Tryz.underlying9 (fun i hi=>by
     have hi':i < j:=by rw [aI] at hi;exact hi
     rw [add_off,cell_of_row wr g i cur _ _ hg]
     have q:=congrArg (fun l=>l[i]?) htake
     simp only [Nat.mul_one] at q
     rw [List.getElem?_take_of_lt hi'] at q
     rw [←Array.getElem?_toList,q]
     simp [byv,hi])
    rwa [aI] at q
   clear hO hB hg htake
   go_wp2
   go_ret;exact ⟨rfl,HB.out⟩
theorem Laid_t (n m:Nat) (t:ByteArray) (w:World) (hn:n≤18446744073709551615) (h1:1≤m) (hm:m≤8) (ht:txt (be m n)=t):
  Calls Tryz.prog 172 #[.int .u64 (n:Int),.int .i64 (m:Int)] w (Rt w (.string t)):=by
 rw [←ht];exact Laid_ref n m w hn h1 hm
section
variable {P:Program} {ops:Array Oper} {Q:Exit→Act→List Frame→World→Prop} {a:Act} {cs cs':List Frame} {w w':World} {rest:List Nat}
end
open Go.ChangeShapes Go.WideShapes Go.ChangeAt Go.RowKit
def Bts (W:World) (g:Nat) (l:List UInt8):Prop:=g < W.heap.size∧∀(j:Nat) (h:j < l.length),W.cell? ⟨g,j,none⟩=some (.int .u8 (l[j].toNat:Int))∧W.frozen? ⟨g,j,none⟩=false
namespace Bts
variable {W W':World} {g:Nat} {l:List UInt8}
theorem same (h:Bts W g l) (e:W'.heap[g]?=W.heap[g]?) (hs:W.heap.size≤W'.heap.size):Bts W' g l:=
 ⟨Nat.lt_of_lt_of_le h.1 hs,fun j hj=>⟨(World.cell?_of_block (a:=⟨g,j,none⟩) e).trans (h.2 j hj).1,(World.frozen?_of_block (a:=⟨g,j,none⟩) e).trans (h.2 j hj).2⟩⟩
theorem below {B:Nat} (h:Bts W g l) (b:Below B W W') (hg:g < B):Bts W' g l:=h.same (b.block g hg) b.size
theorem alloc (h:Bts W g l) (o:Obj):Bts (W.alloc o) g l:=h.same (Below.heap_alloc W o g h.1) (by simp)
theorem drew (h:Bts W g l):Bts W.drew g l:=h
theorem drewN (h:Bts W g l) (n:Nat):Bts (W.drewN n) g l:=h
theorem cell (h:Bts W g l) (j:Nat) (hj:j < l.length):W.cell? ⟨g,j,none⟩=some (.int .u8 (l[j].toNat:Int)):=(h.2 j hj).1
theorem frozen (h:Bts W g l) (j:Nat) (hj:j < l.length):W.frozen? ⟨g,j,none⟩=false:=(h.2 j hj).2
theorem fJ (h:Bts W g l) (p:Nat) (v:UInt8) (hp:p < l.length):Bts (W.setCell ⟨g,p,none⟩ (.int .u8 (v.toNat:Int))) g (l.set p v):=by
 refine ⟨by simpa [World.setCell] using h.1,fun j hj=>?_⟩
 have hj':j < l.length:=by simpa using hj
 refine ⟨?_,by rw [World.frozen?_setCell];exact (h.2 j hj').2⟩
 by_cases e:p=j
 ·subst e
  rw [World.cell?_setCell_same W _ _ (h.2 p hj').1];simp
 ·rw [World.cell?_setCell_other W _ _ _ (fun q=>e (by injection q))]
  rw [(h.2 j hj').1];simp [e]
end Bts
end Go.Proofs.YtklakghlliihkaaGreatDoor
