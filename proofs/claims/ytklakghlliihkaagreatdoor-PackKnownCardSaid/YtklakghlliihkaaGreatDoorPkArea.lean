/- PkArea. -/
import Derived.Test.YtklakghlliihkaaGreatDoorRows
import Derived.WalkKit
import Derived.ProofKit
import Derived.OpenShut
import Derived.Lib.Hide
import Derived.Below
import Derived.Laws.OwnMore
import Derived.Deep.Draws
import Derived.Laws.Rows
import Derived.OwnWalk
import Derived.Laws.AppendOwn
import Derived.Maps.AppendAt
import Derived.Test.YtklakghlliihkaaGreatDoorPkBase
import Derived.Deep.QuietTactic
import Derived.BigQuiet
import Derived.IntWalk
import Derived.Lib.AppendStr
import Derived.Deep.AppendLies
import Derived.Deep.RegionHeld3
import Derived.Deep.RegionLaw
import Derived.Laws.IdiomStrings
import Derived.RangeFuncNested
import Derived.RangeFuncBound
import Derived.RangeFuncCalls
import Derived.RangeFuncLeaves
import Derived.RangeFuncFrom
import Derived.Shelf.Abstract
import Derived.Shelf.RegionOpen
import Derived.OwnWalkIn
import Derived.TacticsInMore
import Derived.LoopNIn
import Derived.LoopIn
import Derived.RegionTactic
import Derived.WalkMore
set_option maxHeartbeats 4000000
set_option maxRecDepth 100000
set_option linter.unusedVariables false
set_option linter.unusedSimpArgs false
namespace Go.Proofs.YtklakghlliihkaaGreatDoor.L4
abbrev It:=Int×ByteArray
abbrev txt (l:List UInt8):ByteArray:=⟨l.toArray⟩
theorem aO (l:List UInt8):(txt l).size=l.length:=by simp [ByteArray.size]
theorem data_append (a b:ByteArray):(a++b).data.toList=a.data.toList++b.data.toList:=by simp [ByteArray.data_append]
def may (x:It):Bool:=decide (2≤x.1∧x.1≤255∧x.2.size≤253)
def enc1 (x:It):List UInt8:=UInt8.ofNat x.1.toNat::UInt8.ofNat (x.2.size+2)::x.2.data.toList
def enc:List It→List UInt8
 | []=>[]
 | x::r=>enc1 x++enc r
def wide:List It→Nat
 | []=>0
 | x::r=>2+x.2.size+wide r
theorem take_snoc_of {α:Type} (l:List α) (j:Nat) (x:α) (h:l[j]?=some x):l.take (j+1)=l.take j++[x]:=by
 obtain ⟨hj,rfl⟩:=List.getElem?_eq_some_iff.1 h
 exact List.take_succ_eq_append_getElem hj
def fst:List UInt8→It×Nat×Int
 | []=>((0,⟨#[]⟩),1,0)
 | a::r=>if a.toNat < 2 then (((a.toNat:Int),⟨#[]⟩),1,0) else
  match r with
  | []=>((0,⟨#[]⟩),0,4)
  | b::t=>if b.toNat < 2 then ((0,⟨#[]⟩),0,5) else if t.length+2 < b.toNat then ((0,⟨#[]⟩),0,4) else (((a.toNat:Int),txt (t.take (b.toNat - 2))),b.toNat,0)
abbrev Ev:=It×(Int×Int)
open Go.RowKit
theorem bV {a b:Bool} (h:a=b):Ending.returned (.bool a)= .returned (.bool b):=by rw [h]
theorem ret_int {k:IntKind} {a b:Int} (h:a=b):Ending.returned (.int k a)= .returned (.int k b):=by rw [h]
theorem jV {a b:ByteArray} (h:a=b):Ending.returned (.string a)= .returned (.string b):=by rw [h]
def Blk (w:World) (g:Nat) (t:TypeId) (cs:Array Value):Prop:=w.heap[g]?=some (.cells cs t (0,0))
namespace Blk
variable {w w':World} {g:Nat} {t:TypeId} {cs:Array Value}
theorem same (h:Blk w g t cs) (e:w'.heap[g]?=w.heap[g]?):Blk w' g t cs:=e.trans h
theorem lt (h:Blk w g t cs):g < w.heap.size:=(Array.getElem?_eq_some_iff.1 h).1
theorem cell (h:Blk w g t cs) (i:Nat):w.cell? ⟨g,i,none⟩=cs[i]?:=cell_of_row w g i cs t (0,0) h
theorem frozen (h:Blk w g t cs) (i:Nat):w.frozen? ⟨g,i,none⟩=false:=by simp [World.frozen?,show w.heap[g]?=some (.cells cs t (0,0)) from h]
theorem new (w:World) (t:TypeId) (cs:Array Value):Blk (w.alloc (.cells cs t)) w.heap.size t cs:=heap_alloc_new w (.cells cs t)
theorem drew (h:Blk w g t cs):Blk w.drew g t cs:=h.same rfl
theorem drewN (h:Blk w g t cs) (n:Nat):Blk (w.drewN n) g t cs:=h.same rfl
theorem alloc (h:Blk w g t cs) (o:Obj):Blk (w.alloc o) g t cs:=h.same (Below.heap_alloc w o g h.lt)
theorem below {B:Nat} (h:Blk w g t cs) (hb:Below B w w') (hg:g < B):Blk w' g t cs:=h.same (hb.block g hg)
theorem grown {row:Option Nat} (h:Blk w g t cs) (hb:w.grownBy w' row) (hg:some g≠row):Blk w' g t cs:=h.same (hb.block g h.lt hg)
theorem fJ (h:Blk w g t cs) (i:Nat) (u:Value):Blk (w.setCell ⟨g,i,none⟩ u) g t (cs.setIfInBounds i u):=by
 have e:w.heap[g]?=some (.cells cs t (0,0)):=h
 show (w.setCell ⟨g,i,none⟩ u).heap[g]?=_
 rw [World.setCell,Array.getElem?_modify,e]
 simp
theorem ne_ {g':Nat} {t':TypeId} {cs':Array Value} (h:Blk w g t cs) (h':Blk w g' t' cs') (hne:t≠t'):g≠g':=fun e=>by
 have hh:some (Obj.cells cs t (0,0))=some (Obj.cells cs' t' (0,0)):=by rw [←show w.heap[g]?=_ from h,e];exact h'
 simp only [Option.some.injEq,Obj.cells.injEq] at hh
 exact hne hh.2.1
end Blk
theorem jC (w:World) (n:Nat) (row:Option Nat):w.grownBy (w.drewN n) row:=⟨rfl,rfl,rfl,Nat.le_refl _,fun _ _ _=>rfl⟩
theorem only_drewN {a w:World} {row:Option Nat} (h:a.grownBy w row) (n:Nat):a.grownBy (w.drewN n) row:=h.trans (jC w n row)
theorem only_drew {a w:World} {row:Option Nat} (h:a.grownBy w row):a.grownBy w.drew row:=h.trans ⟨rfl,rfl,rfl,Nat.le_refl _,fun _ _ _=>rfl⟩
theorem bM {a w:World} {row:Option Nat} (h:a.grownBy w row) (o:Obj):a.grownBy (w.alloc o) row:=h.trans (World.grownBy_alloc w o row)
theorem aT {a w:World} {g:Nat} (h:a.grownBy w (some g)) {p:Addr} (hp:p.block=g) (u:Value):a.grownBy (w.setCell p u) (some g):=
 h.trans ⟨rfl,rfl,rfl,by simp [World.setCell],fun k _ hk=>Below.heap_setCell w p u k fun e=>hk (by rw [e,hp])⟩
theorem bH {a w:World} (h:Below a.heap.size a w) (row:Option Nat):a.grownBy w row:={ os:=h.os,tape:=h.tape,output:=h.output,size:=h.size,block:=fun k hk _=>h.block k hk }
theorem below_drewN {B:Nat} {a w:World} (h:Below B a w) (n:Nat):Below B a (w.drewN n):=h.trans ⟨rfl,rfl,rfl,Nat.le_refl _,fun _ _=>rfl⟩
theorem aB {B:Nat} {a w:World} {b:Nat} (h:a.grownBy w (some b)) (hb:B≤b) (hs:B≤a.heap.size):Below B a w:=
 ⟨h.os,h.tape,h.output,h.size,fun i hi=>h.block i (by omega) (fun e=>by injection e with e;omega)⟩
theorem gJ {a b:World} (h:Below a.heap.size a b) (o:Obj):Below a.heap.size a (b.alloc o):=h.alloc h.size o
theorem aP {a b:Value} {c d:Value} (h:a=b) (k:c=d):Ending.returned (.tuple #[a,c])= .returned (.tuple #[b,d]):=by rw [h,k]
def cellsOf:List It→List Value
 | []=>[]
 | x::r=> .int .i64 x.1:: .string x.2::cellsOf r
theorem iD:∀(l:List It) (i:Nat) (x:It),l[i]?=some x→(cellsOf l)[i * 2]?=some (.int .i64 x.1)∧(cellsOf l)[i * 2+1]?=some (.string x.2)
 | [],i,x,h=>by simp at h
 | y::r,0,x,h=>by simp at h;subst h;exact ⟨rfl,rfl⟩
 | y::r,i+1,x,h=>by
  have:=iD r i x (by simpa using h)
  rw [show (i+1) * 2=i * 2+1+1 by omega]
  exact ⟨by simpa [cellsOf] using this.1,by simpa [cellsOf] using this.2⟩
def fG (n:Nat) (w:World) (v:Value) (l:List It):Prop:=
 ∃(p:Option Addr) (cap:Nat),v= .slice p l.length cap∧l.length≤cap∧cap≤9223372036854775807∧∀(i:Nat) (x:It),l[i]?=some x→∃ad,p=some ad∧ad.block < n∧w.cell? (ad.add (i * 2))=some (.int .i64 x.1)∧w.cell? ⟨(ad.add (i * 2)).block,(ad.add (i * 2)).off+1,none⟩=some (.string x.2)
abbrev Row (w:World) (v:Value) (l:List It):Prop:=fG w.heap.size w v l
theorem add_block (ad:Addr) (i:Nat):(ad.add i).block=ad.block:=by unfold Addr.add;split<;>rfl
theorem Row.nil (w:World) (n:Nat):fG n w (.slice none 0 0) []:=⟨none,0,rfl,by simp,by omega,fun i s h=>by simp at h⟩
theorem fG.kept {n:Nat} {w w':World} {v:Value} {l:List It} (h:fG n w v l) (b:∀k,k < n→w'.heap[k]?=w.heap[k]?):fG n w' v l:=by
 obtain ⟨p,cap,hv,hl,hcap,hc⟩:=h
 refine ⟨p,cap,hv,hl,hcap,fun i s hs=>?_⟩
 obtain ⟨ad,hp,hg,h0,h1⟩:=hc i s hs
 exact ⟨ad,hp,hg,(World.cell?_of_block (b _ (by rw [add_block];exact hg))).trans h0,(World.cell?_of_block (a:=⟨(ad.add (i * 2)).block,(ad.add (i * 2)).off+1,none⟩) (b _ (by show (ad.add (i * 2)).block < n;rw [add_block];exact hg))).trans h1⟩
theorem fG.mono {n m:Nat} {w:World} {v:Value} {l:List It} (h:fG n w v l) (b:n≤m):fG m w v l:=by
 obtain ⟨p,cap,hv,hl,hcap,hc⟩:=h
 refine ⟨p,cap,hv,hl,hcap,fun i s hs=>?_⟩
 obtain ⟨ad,hp,hg,h0,h1⟩:=hc i s hs
 exact ⟨ad,hp,Nat.lt_of_lt_of_le hg b,h0,h1⟩
theorem Row.below {w w':World} {v:Value} {l:List It} (h:Row w v l) (b:Below w.heap.size w w'):Row w' v l:=(fG.kept h b.block).mono b.size
theorem Row.drewN {w:World} {v:Value} {l:List It} (h:Row w v l) (n:Nat):Row (w.drewN n) v l:=h
theorem Row.drew {w:World} {v:Value} {l:List It} (h:Row w v l):Row w.drew v l:=h
theorem Row.more {w:World} {v:Value} {l:List It} (h:Row w v l) (o:Obj):Row (w.alloc o) v l:=Row.below h ((Below.refl _ w).alloc (Nat.le_refl _) o)
theorem dB (g i:Nat):(⟨g,0,none⟩:Addr).add i=⟨g,i,none⟩:=by unfold Addr.add;split<;>simp_all
theorem Row.of_cells {w:World} {g:Nat} {l:List It} (n cap:Nat) (hn:n=l.length) (hcap:n≤cap) (hmax:cap≤9223372036854775807) (hg:g < w.heap.size) (h:∀(j:Nat) (u:Value),(cellsOf l)[j]?=some u→w.cell? ⟨g,j,none⟩=some u):Row w (.slice (some ⟨g,0,none⟩) n cap) l:=by
 subst hn
 refine ⟨_,cap,rfl,hcap,hmax,fun i x hx=>⟨_,rfl,hg,?_,?_⟩⟩
 ·rw [dB];exact h _ _ (iD l i x hx).1
 ·rw [dB];exact h _ _ (iD l i x hx).2
theorem Row.qW {w:World} {g:Nat} {t:TypeId} {l:List It} (n cap:Nat) (hn:n=l.length) (hcap:n≤cap) (hmax:cap≤9223372036854775807) (h:Blk w g t (cellsOf l).toArray):Row w (.slice (some ⟨g,0,none⟩) n cap) l:=
 Row.of_cells n cap hn hcap hmax h.lt fun j u hu=>by rw [h.cell j];simpa using hu
theorem Row.qG {w:World} {base k:Nat} {v:Value} {e:TypeId} {l:List It} (h:w.ownsRow base e 2 v k (cellsOf l)) (hk:k=l.length):Row w v l:=by
 subst hk
 rcases id h.2 with ⟨rfl,h0⟩ | ⟨g,cap,cur,rfl,hb,hg,hn,hm,hs,ht⟩
 ·have:l=[]:=by simpa using h0
  subst this;exact Row.nil w _
 ·exact Row.of_cells _ cap rfl hn (by unfold maxLen at hm;omega) (Array.getElem?_eq_some_iff.1 hg).1 fun j u hu=>by rw [←dB];exact h.cells rfl j u hu
theorem fG.take {n:Nat} {w:World} {p:Option Addr} {len cap:Nat} {l:List It} (h:fG n w (.slice p len cap) l) (k:Nat) (hk:k≤l.length):fG n w (.slice p k cap) (l.take k):=by
 obtain ⟨p',cap',hv,hl,hcap,hc⟩:=h
 injection hv with e1 e2 e3
 subst e1;subst e3
 refine ⟨p,cap,by rw [List.length_take,Nat.min_eq_left hk],by rw [List.length_take];omega,hcap,fun i x hx=>hc i x ?_⟩
 rw [List.getElem?_take] at hx
 split at hx
 ·exact hx
 ·cases hx
open Go.ChangeShapes Go.WideShapes Go.ChangeAt Go.RowKit
theorem sizeOf_any (x:It) (w:World) (hs:x.2.size≤9223372036854775800):
  Calls Tryz.prog 51 #[.agg #[.int .i64 x.1,.string x.2]] w fun e w'=>e= .returned (.int .i64 (2+(x.2.size:Int)))∧w.alloc (.cells #[.int .i64 x.1,.string x.2] 61)=w':=by
 go_enter Tryz.func51,Tryz.ntmps51
 go_wp2
 go_ret;exact ⟨rfl,rfl⟩
theorem bW (x:It) (w:World) (hs:x.2.size≤9223372036854775800):
  Calls Tryz.prog 104 #[.agg #[.int .i64 x.1,.string x.2]] w (Rt w (.bool (may x))):=by
 by_cases h1:2≤x.1
 ·by_cases h2:x.1≤255
  ·go_enter Tryz.func104,Tryz.ntmps104
   go_wp2_with (go_at_call 51;refine (sizeOf_any x _ hs).mono ?_;rintro e w' ⟨rfl,rfl⟩)
   go_ret;exact ⟨bV (by rw [Bool.eq_iff_iff];simp [may];omega),gJ (gJ (Below.refl _ _) _) _⟩
  ·have d2:decide (x.1≤255)=false:=by simpa using h2
   go_enter Tryz.func104,Tryz.ntmps104
   go_wp2
   go_ret;exact ⟨bV (by rw [Bool.eq_iff_iff];simp [may];omega),gJ (Below.refl _ _) _⟩
 ·have d1:decide (2≤x.1)=false:=by simpa using h1
  go_enter Tryz.func104,Tryz.ntmps104
  go_wp2
  go_ret;exact ⟨bV (by rw [Bool.eq_iff_iff];simp [may];omega),gJ (Below.refl _ _) _⟩
open Go.ChangeShapes Go.WideShapes Go.ChangeAt Go.RowKit
open Go.ChangeShapes Go.WideShapes Go.ChangeAt Go.RowKit
open Go.RowKit Go.Shelf
attribute [local go_sem] Oper.semAt_some
def Kpt (b:Nat) (W W':World):Prop:=W'.heap[b]?=W.heap[b]?
open Go.RowKit Go.Shelf
attribute [local go_sem] Oper.semAt_some
def sel (l:List Ev):List It:=(l.filter fun e=>decide (e.1.1≠1)).map (·.1)
def Clean (l:List Ev):Prop:=∀e∈l,e.2=(0,0)∧e.1.1≠0
def Mid (w:World) (s:ByteArray) (pre:List Ev) (W:World):Prop:=
 (∃v,Boxed W (w.heap.size+1+1) 62 v∧W.ownsRow w.heap.size 61 2 v (sel pre).length (cellsOf (sel pre))∧True)∧
 ((Boxed W w.heap.size 62 (.slice none 0 0)∧Boxed W (w.heap.size+1) 55 (.int .i64 0))∧Boxed W (w.heap.size+1+1+1) 9 (.string s))∧(Below w.heap.size w W∧Clean pre)
theorem mid_own (w:World) (s:ByteArray) (B:Nat) (hB:w.heap.size≤B):OwnFrom B (Mid w s):=
 OwnFrom.and (Own.from (holdsRow_own w.heap.size (w.heap.size+1+1) 62 61 2 (fun (pre:List Ev)=>(sel pre).length) (fun (pre:List Ev)=>cellsOf (sel pre)) (fun _ _=>True)) _)
  (OwnFrom.and (OwnFrom.and (OwnFrom.and (Own.from (boxed_own _ _ _) _) (Own.from (boxed_own _ _ _) _)) (Own.from (boxed_own _ _ _) _)) (OwnFrom.and (ownFrom_below (Nat.le_refl _) hB) (ownFrom_pure _ _)))
theorem Mid.alloc {w:World} {s:ByteArray} {pre:List Ev} {W:World} (h:Mid w s pre W) (o:Obj):Mid w s pre (W.alloc o):=OwnFrom.alloc (mid_own w s _ (Nat.le_refl _)) o h
theorem Kpt.of {b:Nat} {t:TypeId} {v:Value} {W W':World} (h:Boxed W b t v) (h':Boxed W' b t v):Kpt b W W':=(show W'.heap[b]?=_ from h').trans (show W.heap[b]?=_ from h).symm
end Go.Proofs.YtklakghlliihkaaGreatDoor.L4
