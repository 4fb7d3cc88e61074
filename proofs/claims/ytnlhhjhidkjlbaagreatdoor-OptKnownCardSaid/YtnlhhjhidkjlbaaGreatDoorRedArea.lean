/- RedArea. -/
import Derived.Test.YtnlhhjhidkjlbaaGreatDoorRows
import Derived.WalkKit
import Derived.ProofKit
import Derived.OpenShut
import Derived.Lib.Hide
import Derived.Below
import Derived.Laws.OwnMore
import Derived.Deep.Draws
import Derived.Laws.Rows
import Derived.OwnWalk
import Derived.Laws.AppendOwn
import Derived.Maps.AppendAt
import Derived.Test.YtnlhhjhidkjlbaaGreatDoorRedBase
import Derived.Deep.QuietTactic
import Derived.BigQuiet
import Derived.IntWalk
import Derived.Lib.AppendStr
import Derived.Deep.AppendLies
import Derived.Deep.RegionHeld3
import Derived.Deep.RegionLaw
import Derived.Laws.IdiomStrings
import Derived.RangeFuncNested
import Derived.RangeFuncBound
import Derived.RangeFuncCalls
import Derived.RangeFuncLeaves
import Derived.RangeFuncFrom
import Derived.Shelf.Abstract
import Derived.Shelf.RegionOpen
import Derived.OwnWalkIn
import Derived.TacticsInMore
import Derived.LoopNIn
import Derived.LoopIn
import Derived.RegionTactic
import Derived.WalkMore
set_option maxHeartbeats 4000000
set_option maxRecDepth 100000
set_option linter.unusedVariables false
set_option linter.unusedSimpArgs false
namespace Go.Proofs.YtnlhhjhidkjlbaaGreatDoor.L4
abbrev It:=Int×ByteArray
abbrev txt (l:List UInt8):ByteArray:=⟨l.toArray⟩
theorem aN (l:List UInt8):(txt l).size=l.length:=by simp [ByteArray.size]
theorem data_txt (l:List UInt8):(txt l).data.toList=l:=by simp
theorem data_append (a b:ByteArray):(a++b).data.toList=a.data.toList++b.data.toList:=by simp [ByteArray.data_append]
theorem data_extract (s:ByteArray) (a b:Nat):(s.extract a b).data.toList=(s.data.toList.take b).drop a:=by
 rw [ByteArray.data_extract,Array.toList_extract,List.extract_eq_take_drop,List.drop_take]
theorem eq_of_data {a b:ByteArray} (h:a.data.toList=b.data.toList):a=b:=by
 cases a;cases b;simp at h;simpa using h
theorem kQ (s:ByteArray):s.data.toList.length=s.size:=by simp
def may (x:It):Bool:=decide (2≤x.1∧x.1≤255∧x.2.size≤253)
theorem lJ (x:It):may x=true↔2≤x.1∧x.1≤255∧x.2.size≤253:=by simp [may]
def enc1 (x:It):List UInt8:=UInt8.ofNat x.1.toNat::UInt8.ofNat (x.2.size+2)::x.2.data.toList
def enc:List It→List UInt8
 | []=>[]
 | x::r=>enc1 x++enc r
def wide:List It→Nat
 | []=>0
 | x::r=>2+x.2.size+wide r
theorem enc1_length (x:It):(enc1 x).length=2+x.2.size:=by simp [enc1];omega
theorem jU:∀l,(enc l).length=wide l
 | []=>rfl
 | x::r=>by rw [enc,List.length_append,enc1_length,jU r,wide]
theorem oM:∀l m,enc (l++m)=enc l++enc m
 | [],m=>rfl
 | x::r,m=>by simp [enc,oM r m]
theorem wide_append (l m:List It):wide (l++m)=wide l+wide m:=by rw [←jU,oM,List.length_append,jU,jU]
theorem wide_one (x:It):wide [x]=2+x.2.size:=by simp [wide]
theorem eX {α:Type} (l:List α) (j:Nat) (x:α) (h:l[j]?=some x):l.take (j+1)=l.take j++[x]:=by
 obtain ⟨hj,rfl⟩:=List.getElem?_eq_some_iff.1 h
 exact List.take_succ_eq_append_getElem hj
theorem wide_take_succ (l:List It) (j:Nat) (x:It) (h:l[j]?=some x):wide (l.take (j+1))=wide (l.take j)+2+x.2.size:=by
 rw [eX l j x h,wide_append,wide_one];omega
theorem enc_take_succ (l:List It) (j:Nat) (x:It) (h:l[j]?=some x):enc (l.take (j+1))=enc (l.take j)++enc1 x:=by
 rw [eX l j x h,oM];simp [enc]
theorem wide_take_le (l:List It) (j:Nat):wide (l.take j)≤wide l:=by
 have:=wide_append (l.take j) (l.drop j);rw [List.take_append_drop] at this;omega
theorem length_le_wide:∀l:List It,2 * l.length≤wide l
 | []=>Nat.le_refl _
 | x::r=>by have:=length_le_wide r;simp [wide];omega
def pad (n:Nat):Nat:=(n+3) / 4 * 4
theorem pad_b (n:Nat):n≤pad n∧pad n≤n+3∧pad n%4=0:=by unfold pad;omega
def laid (l:List It):ByteArray×Int:=
 if l.all may then (if wide l≤40 then (txt (enc l++List.replicate (pad (wide l) - wide l) 0),0) else (⟨#[]⟩,6)) else (⟨#[]⟩,2)
def sized (l:List It):Int×Int:=
 if l.all may then (if wide l≤40 then ((pad (wide l):Int),0) else (0,6)) else (0,2)
theorem laid_ok (l:List It) (h:l.all may=true) (hw:wide l≤40):laid l=(txt (enc l++List.replicate (pad (wide l) - wide l) 0),0):=by
 unfold laid;rw [if_pos h,if_pos hw]
theorem sized_ok (l:List It) (h:l.all may=true) (hw:wide l≤40):sized l=((pad (wide l):Int),0):=by
 unfold sized;rw [if_pos h,if_pos hw]
def fst:List UInt8→It×Nat×Int
 | []=>((0,⟨#[]⟩),1,0)
 | a::r=>if a.toNat < 2 then (((a.toNat:Int),⟨#[]⟩),1,0) else
  match r with
  | []=>((0,⟨#[]⟩),0,4)
  | b::t=>if b.toNat < 2 then ((0,⟨#[]⟩),0,5) else if t.length+2 < b.toNat then ((0,⟨#[]⟩),0,4) else (((a.toNat:Int),txt (t.take (b.toNat - 2))),b.toNat,0)
theorem qK (a:UInt8):fst [a]=if a.toNat < 2 then (((a.toNat:Int),⟨#[]⟩),1,0) else ((0,⟨#[]⟩),0,4):=rfl
theorem lH (a b:UInt8) (t:List UInt8):fst (a::b::t)=if a.toNat < 2 then (((a.toNat:Int),⟨#[]⟩),1,0) else if b.toNat < 2 then ((0,⟨#[]⟩),0,5) else if t.length+2 < b.toNat then ((0,⟨#[]⟩),0,4) else (((a.toNat:Int),txt (t.take (b.toNat - 2))),b.toNat,0):=rfl
abbrev Ev:=It×(Int×Int)
def evs:Nat→Nat→List UInt8→List Ev
 | 0,_,_=>[]
 | n+1,k,q=>if q=[] then [] else if (fst q).2.2=0 then ((fst q).1,(0,0))::evs n (k+(fst q).2.1) (q.drop (fst q).2.1) else [((0,⟨#[]⟩),((fst q).2.2,(k:Int)))]
def fold:List It→List Ev→List It×Int
 | acc,[]=>(acc,0)
 | acc,e::r=>if e.2≠(0,0) then ([],e.2.1) else if e.1.1=0 then (acc,0) else if e.1.1=1 then fold acc r else fold (acc++[e.1]) r
def go:Nat→List It→List UInt8→List It×Int
 | 0,acc,_=>(acc,0)
 | n+1,acc,q=>if q=[] then (acc,0) else if (fst q).2.2≠0 then ([],(fst q).2.2) else if (fst q).1.1=0 then (acc,0) else if (fst q).1.1=1 then go n acc (q.drop (fst q).2.1) else go n (acc++[(fst q).1]) (q.drop (fst q).2.1)
theorem vI:∀n k acc q,fold acc (evs n k q)=go n acc q
 | 0,k,acc,q=>rfl
 | n+1,k,acc,q=>by
  rw [evs,go]
  by_cases h:q=[]
  ·rw [if_pos h,if_pos h];rfl
  ·rw [if_neg h,if_neg h]
   by_cases hc:(fst q).2.2=0
   ·rw [if_pos hc,if_neg (by simpa using hc),fold,if_neg (by simp)]
    split
    ·rfl
    ·split
     ·exact vI n _ _ _
     ·exact vI n _ _ _
   ·rw [if_neg hc,if_pos hc,fold,if_pos (by simp [hc])]
def read (s:ByteArray):List It×Int:=if 40 < s.size then ([],6) else if s.size%4≠0 then ([],5) else go 41 [] s.data.toList
theorem read_ok (s:ByteArray) (h:s.size≤40) (h4:s.size%4=0):read s=go 41 [] s.data.toList:=by
 unfold read;rw [if_neg (by omega),if_neg (by omega)]
theorem go_back:∀(n:Nat) (acc m:List It) (q:List UInt8),go n acc q=(m,0)→∃l,m=acc++l∧l.all may=true∧wide l≤q.length
 | 0,acc,m,q,h=>⟨[],by simp [go] at h;simp [h],rfl,Nat.zero_le _⟩
 | n+1,acc,m,q,h=>by
  rw [go] at h
  split at h
  ·exact ⟨[],by simp at h;simp [h],rfl,Nat.zero_le _⟩
  ·split at h
   ·next hne hc=>simp at h;exact absurd h.2 hc
   ·next hq hc=>
    split at h
    ·exact ⟨[],by simp at h;simp [h],rfl,Nat.zero_le _⟩
    ·split at h
     ·obtain ⟨l,e,a,b⟩:=go_back n _ _ _ h
      exact ⟨l,e,a,by rw [List.length_drop] at b;omega⟩
     ·next h0 h1=>
      obtain ⟨l,e,a,b⟩:=go_back n _ _ _ h
      refine ⟨(fst q).1::l,by rw [e];simp,?_,?_⟩
      all_goals
       match q,hq with
       | [x],_=>
        rw [qK] at h0 h1 hc b ⊢
        split at h0
        ·next h2=>rw [if_pos h2] at h1;simp at h0 h1;omega
        ·next h2=>rw [if_neg h2] at hc;simp at hc
       | x::y::t,_=>
        rw [lH] at h0 h1 hc b ⊢
        split at h0
        ·next h2=>rw [if_pos h2] at h1;simp at h0 h1;omega
        ·next h2=>
         rw [if_neg h2] at h1 hc b ⊢
         split at h0
         ·simp at h0
         ·next h3=>
          rw [if_neg h3] at h1 hc b ⊢
          split at h0
          ·simp at h0
          ·next h4=>
           rw [if_neg h4] at h1 hc b ⊢
           have hx:=x.toNat_lt
           have hy:=y.toNat_lt
           have hl:(txt (t.take (y.toNat - 2))).size=y.toNat - 2:=by rw [aN,List.length_take];omega
           first
            | (rw [List.all_cons,a,Bool.and_true,lJ];simp only [hl];omega)
            | (rw [List.length_drop] at b;simp only [wide,hl,List.length_cons] at b ⊢;omega)
theorem fst_code (q:List UInt8):(fst q).2.2=0∨(fst q).2.2=4∨(fst q).2.2=5:=by
 cases q with
 | nil=>exact .inl rfl
 | cons a r=>
  cases r with
  | nil=>
   rw [qK]
   split
   ·exact .inl rfl
   ·exact .inr (.inl rfl)
  | cons b t=>
   rw [lH]
   split
   ·exact .inl rfl
   ·split
    ·exact .inr (.inr rfl)
    ·split
     ·exact .inr (.inl rfl)
     ·exact .inl rfl
theorem xP:∀(n:Nat) (acc m:List It) (q:List UInt8) (c:Int),go n acc q=(m,c)→c≠0→m=[]∧(c=4∨c=5)
 | 0,acc,m,q,c,h,hc=>by simp [go] at h;omega
 | n+1,acc,m,q,c,h,hc=>by
  rw [go] at h
  split at h
  ·simp at h;omega
  ·split at h
   ·simp at h
    have:=fst_code q
    exact ⟨h.1,by omega⟩
   ·split at h
    ·simp at h;omega
    ·split at h
     ·exact xP n _ _ _ _ h hc
     ·exact xP n _ _ _ _ h hc
open Go.RowKit
theorem eH {a b:Bool} (h:a=b):Ending.returned (.bool a)= .returned (.bool b):=by rw [h]
theorem kM {k:IntKind} {a b:Int} (h:a=b):Ending.returned (.int k a)= .returned (.int k b):=by rw [h]
theorem pY {a b:ByteArray} (h:a=b):Ending.returned (.string a)= .returned (.string b):=by rw [h]
def Blk (w:World) (g:Nat) (t:TypeId) (cs:Array Value):Prop:=w.heap[g]?=some (.cells cs t (0,0))
namespace Blk
variable {w w':World} {g:Nat} {t:TypeId} {cs:Array Value}
theorem same (h:Blk w g t cs) (e:w'.heap[g]?=w.heap[g]?):Blk w' g t cs:=e.trans h
theorem lt (h:Blk w g t cs):g < w.heap.size:=(Array.getElem?_eq_some_iff.1 h).1
theorem cell (h:Blk w g t cs) (i:Nat):w.cell? ⟨g,i,none⟩=cs[i]?:=cell_of_row w g i cs t (0,0) h
theorem frozen (h:Blk w g t cs) (i:Nat):w.frozen? ⟨g,i,none⟩=false:=by simp [World.frozen?,show w.heap[g]?=some (.cells cs t (0,0)) from h]
theorem new (w:World) (t:TypeId) (cs:Array Value):Blk (w.alloc (.cells cs t)) w.heap.size t cs:=heap_alloc_new w (.cells cs t)
theorem drew (h:Blk w g t cs):Blk w.drew g t cs:=h.same rfl
theorem drewN (h:Blk w g t cs) (n:Nat):Blk (w.drewN n) g t cs:=h.same rfl
theorem alloc (h:Blk w g t cs) (o:Obj):Blk (w.alloc o) g t cs:=h.same (Below.heap_alloc w o g h.lt)
theorem below {B:Nat} (h:Blk w g t cs) (hb:Below B w w') (hg:g < B):Blk w' g t cs:=h.same (hb.block g hg)
theorem grown {row:Option Nat} (h:Blk w g t cs) (hb:w.grownBy w' row) (hg:some g≠row):Blk w' g t cs:=h.same (hb.block g h.lt hg)
theorem fV (h:Blk w g t cs) (i:Nat) (u:Value):Blk (w.setCell ⟨g,i,none⟩ u) g t (cs.setIfInBounds i u):=by
 have e:w.heap[g]?=some (.cells cs t (0,0)):=h
 show (w.setCell ⟨g,i,none⟩ u).heap[g]?=_
 rw [World.setCell,Array.getElem?_modify,e]
 simp
theorem ne_ {g':Nat} {t':TypeId} {cs':Array Value} (h:Blk w g t cs) (h':Blk w g' t' cs') (hne:t≠t'):g≠g':=fun e=>by
 have hh:some (Obj.cells cs t (0,0))=some (Obj.cells cs' t' (0,0)):=by rw [←show w.heap[g]?=_ from h,e];exact h'
 simp only [Option.some.injEq,Obj.cells.injEq] at hh
 exact hne hh.2.1
end Blk
theorem fK (w:World) (n:Nat) (row:Option Nat):w.grownBy (w.drewN n) row:=⟨rfl,rfl,rfl,Nat.le_refl _,fun _ _ _=>rfl⟩
theorem gY {a w:World} {row:Option Nat} (h:a.grownBy w row) (n:Nat):a.grownBy (w.drewN n) row:=h.trans (fK w n row)
theorem sD {a w:World} {row:Option Nat} (h:a.grownBy w row):a.grownBy w.drew row:=h.trans ⟨rfl,rfl,rfl,Nat.le_refl _,fun _ _ _=>rfl⟩
theorem bZ {a w:World} {row:Option Nat} (h:a.grownBy w row) (o:Obj):a.grownBy (w.alloc o) row:=h.trans (World.grownBy_alloc w o row)
theorem aZ {a w:World} {g:Nat} (h:a.grownBy w (some g)) {p:Addr} (hp:p.block=g) (u:Value):a.grownBy (w.setCell p u) (some g):=
 h.trans ⟨rfl,rfl,rfl,by simp [World.setCell],fun k _ hk=>Below.heap_setCell w p u k fun e=>hk (by rw [e,hp])⟩
theorem bM {a w:World} (h:Below a.heap.size a w) (row:Option Nat):a.grownBy w row:={ os:=h.os,tape:=h.tape,output:=h.output,size:=h.size,block:=fun k hk _=>h.block k hk }
theorem below_drewN {B:Nat} {a w:World} (h:Below B a w) (n:Nat):Below B a (w.drewN n):=h.trans ⟨rfl,rfl,rfl,Nat.le_refl _,fun _ _=>rfl⟩
theorem aA {B:Nat} {a w:World} {b:Nat} (h:a.grownBy w (some b)) (hb:B≤b) (hs:B≤a.heap.size):Below B a w:=
 ⟨h.os,h.tape,h.output,h.size,fun i hi=>h.block i (by omega) (fun e=>by injection e with e;omega)⟩
theorem yQ {W w1:World} (hb:Below W.heap.size W w1) (b o:Nat) (h:b < W.heap.size):w1.cell? ⟨b,o,none⟩=W.cell? ⟨b,o,none⟩:=hb.cell (p:=⟨b,o,none⟩) h
theorem oW {a b c:World} (h:Below a.heap.size a b) (k:Below b.heap.size b c):Below a.heap.size a c:=h.trans (k.mono h.size)
theorem aS {a b:World} (h:Below a.heap.size a b) (o:Obj):Below a.heap.size a (b.alloc o):=h.alloc h.size o
theorem bC {a b:Value} {c d:Value} (h:a=b) (k:c=d):Ending.returned (.tuple #[a,c])= .returned (.tuple #[b,d]):=by rw [h,k]
def cellsOf:List It→List Value
 | []=>[]
 | x::r=> .int .i64 x.1:: .string x.2::cellsOf r
theorem cellsOf_length:∀l,(cellsOf l).length=l.length * 2
 | []=>rfl
 | x::r=>by simp [cellsOf,cellsOf_length r];omega
theorem jX:∀l m,cellsOf (l++m)=cellsOf l++cellsOf m
 | [],m=>rfl
 | x::r,m=>by simp [cellsOf,jX r m]
theorem mG:∀(l:List It) (i:Nat) (x:It),l[i]?=some x→(cellsOf l)[i * 2]?=some (.int .i64 x.1)∧(cellsOf l)[i * 2+1]?=some (.string x.2)
 | [],i,x,h=>by simp at h
 | y::r,0,x,h=>by simp at h;subst h;exact ⟨rfl,rfl⟩
 | y::r,i+1,x,h=>by
  have:=mG r i x (by simpa using h)
  rw [show (i+1) * 2=i * 2+1+1 by omega]
  exact ⟨by simpa [cellsOf] using this.1,by simpa [cellsOf] using this.2⟩
theorem cellsOf_one (u:Value):∀(l:List It),u∈cellsOf l→u.oneCell'=true
 | [],h=>by simp [cellsOf] at h
 | x::r,h=>by
  simp [cellsOf] at h
  rcases h with rfl | rfl | h
  ·rfl
  ·rfl
  ·exact cellsOf_one u r h
def kV (n:Nat) (w:World) (v:Value) (l:List It):Prop:=
 ∃(p:Option Addr) (cap:Nat),v= .slice p l.length cap∧l.length≤cap∧cap≤9223372036854775807∧∀(i:Nat) (x:It),l[i]?=some x→∃ad,p=some ad∧ad.block < n∧w.cell? (ad.add (i * 2))=some (.int .i64 x.1)∧w.cell? ⟨(ad.add (i * 2)).block,(ad.add (i * 2)).off+1,none⟩=some (.string x.2)
abbrev Row (w:World) (v:Value) (l:List It):Prop:=kV w.heap.size w v l
theorem add_block (ad:Addr) (i:Nat):(ad.add i).block=ad.block:=by unfold Addr.add;split<;>rfl
theorem Row.nil (w:World) (n:Nat):kV n w (.slice none 0 0) []:=⟨none,0,rfl,by simp,by omega,fun i s h=>by simp at h⟩
theorem kV.kept {n:Nat} {w w':World} {v:Value} {l:List It} (h:kV n w v l) (b:∀k,k < n→w'.heap[k]?=w.heap[k]?):kV n w' v l:=by
 obtain ⟨p,cap,hv,hl,hcap,hc⟩:=h
 refine ⟨p,cap,hv,hl,hcap,fun i s hs=>?_⟩
 obtain ⟨ad,hp,hg,h0,h1⟩:=hc i s hs
 exact ⟨ad,hp,hg,(World.cell?_of_block (b _ (by rw [add_block];exact hg))).trans h0,(World.cell?_of_block (a:=⟨(ad.add (i * 2)).block,(ad.add (i * 2)).off+1,none⟩) (b _ (by show (ad.add (i * 2)).block < n;rw [add_block];exact hg))).trans h1⟩
theorem kV.mono {n m:Nat} {w:World} {v:Value} {l:List It} (h:kV n w v l) (b:n≤m):kV m w v l:=by
 obtain ⟨p,cap,hv,hl,hcap,hc⟩:=h
 refine ⟨p,cap,hv,hl,hcap,fun i s hs=>?_⟩
 obtain ⟨ad,hp,hg,h0,h1⟩:=hc i s hs
 exact ⟨ad,hp,Nat.lt_of_lt_of_le hg b,h0,h1⟩
theorem Row.below {w w':World} {v:Value} {l:List It} (h:Row w v l) (b:Below w.heap.size w w'):Row w' v l:=(kV.kept h b.block).mono b.size
theorem Row.drewN {w:World} {v:Value} {l:List It} (h:Row w v l) (n:Nat):Row (w.drewN n) v l:=h
theorem Row.drew {w:World} {v:Value} {l:List It} (h:Row w v l):Row w.drew v l:=h
theorem Row.more {w:World} {v:Value} {l:List It} (h:Row w v l) (o:Obj):Row (w.alloc o) v l:=Row.below h ((Below.refl _ w).alloc (Nat.le_refl _) o)
theorem jG (g i:Nat):(⟨g,0,none⟩:Addr).add i=⟨g,i,none⟩:=by unfold Addr.add;split<;>simp_all
theorem Row.of_cells {w:World} {g:Nat} {l:List It} (n cap:Nat) (hn:n=l.length) (hcap:n≤cap) (hmax:cap≤9223372036854775807) (hg:g < w.heap.size) (h:∀(j:Nat) (u:Value),(cellsOf l)[j]?=some u→w.cell? ⟨g,j,none⟩=some u):Row w (.slice (some ⟨g,0,none⟩) n cap) l:=by
 subst hn
 refine ⟨_,cap,rfl,hcap,hmax,fun i x hx=>⟨_,rfl,hg,?_,?_⟩⟩
 ·rw [jG];exact h _ _ (mG l i x hx).1
 ·rw [jG];exact h _ _ (mG l i x hx).2
theorem Row.o7 {w:World} {g:Nat} {t:TypeId} {l:List It} (n cap:Nat) (hn:n=l.length) (hcap:n≤cap) (hmax:cap≤9223372036854775807) (h:Blk w g t (cellsOf l).toArray):Row w (.slice (some ⟨g,0,none⟩) n cap) l:=
 Row.of_cells n cap hn hcap hmax h.lt fun j u hu=>by rw [h.cell j];simpa using hu
theorem Row.wI {w:World} {base k:Nat} {v:Value} {e:TypeId} {l:List It} (h:w.ownsRow base e 2 v k (cellsOf l)) (hk:k=l.length):Row w v l:=by
 subst hk
 rcases id h.2 with ⟨rfl,h0⟩ | ⟨g,cap,cur,rfl,hb,hg,hn,hm,hs,ht⟩
 ·have:l=[]:=by simpa using h0
  subst this;exact Row.nil w _
 ·exact Row.of_cells _ cap rfl hn (by unfold maxLen at hm;omega) (Array.getElem?_eq_some_iff.1 hg).1 fun j u hu=>by rw [←jG];exact h.cells rfl j u hu
theorem kV.take {n:Nat} {w:World} {p:Option Addr} {len cap:Nat} {l:List It} (h:kV n w (.slice p len cap) l) (k:Nat) (hk:k≤l.length):kV n w (.slice p k cap) (l.take k):=by
 obtain ⟨p',cap',hv,hl,hcap,hc⟩:=h
 injection hv with e1 e2 e3
 subst e1;subst e3
 refine ⟨p,cap,by rw [List.length_take,Nat.min_eq_left hk],by rw [List.length_take];omega,hcap,fun i x hx=>hc i x ?_⟩
 rw [List.getElem?_take] at hx
 split at hx
 ·exact hx
 ·cases hx
open Go.ChangeShapes Go.WideShapes Go.ChangeAt Go.RowKit
theorem oL (x:It) (w:World) (hs:x.2.size≤9223372036854775800):
  Calls Tryz.prog 52 #[.agg #[.int .i64 x.1,.string x.2]] w fun e w'=>e= .returned (.int .i64 (2+(x.2.size:Int)))∧w.alloc (.cells #[.int .i64 x.1,.string x.2] 53)=w':=by
 go_enter Tryz.func52,Tryz.ntmps52
 go_wp2
 go_ret;exact ⟨rfl,rfl⟩
theorem dX (x:It) (w:World) (hs:x.2.size≤9223372036854775800):
  Calls Tryz.prog 107 #[.agg #[.int .i64 x.1,.string x.2]] w (Rt w (.bool (may x))):=by
 by_cases h1:2≤x.1
 ·by_cases h2:x.1≤255
  ·go_enter Tryz.func107,Tryz.ntmps107
   go_wp2_with (go_at_call 52;refine (oL x _ hs).mono ?_;rintro e w' ⟨rfl,rfl⟩)
   go_ret;exact ⟨eH (by rw [Bool.eq_iff_iff];simp [may];omega),aS (aS (Below.refl _ _) _) _⟩
  ·have d2:decide (x.1≤255)=false:=by simpa using h2
   go_enter Tryz.func107,Tryz.ntmps107
   go_wp2
   go_ret;exact ⟨eH (by rw [Bool.eq_iff_iff];simp [may];omega),aS (Below.refl _ _) _⟩
 ·have d1:decide (2≤x.1)=false:=by simpa using h1
  go_enter Tryz.func107,Tryz.ntmps107
  go_wp2
  go_ret;exact ⟨eH (by rw [Bool.eq_iff_iff];simp [may];omega),aS (Below.refl _ _) _⟩
theorem valid_as (x:It) (b:Bool) (hb:may x=b) (w:World) (hs:x.2.size≤9223372036854775800):
  Calls Tryz.prog 107 #[.agg #[.int .i64 x.1,.string x.2]] w (Rt w (.bool b)):=hb ▸ dX x w hs
theorem info_of {B:Nat} (l:List It) (j:Nat) (x:It) (h:l[j]?=some x) (hs:∀y∈l,y.2.size≤B):x.2.size≤B:=hs x (List.mem_of_getElem? h)
theorem all_take_succ (l:List It) (j:Nat) (x:It) (h:l[j]?=some x):(l.take (j+1)).all may=((l.take j).all may && may x):=by
 rw [eX l j x h];simp
theorem wide_may:∀l:List It,l.all may=true→wide l≤l.length * 255
 | [],_=>Nat.le_refl _
 | x::r,h=>by
  simp at h
  have h1:=(lJ x).1 h.1
  have h2:=wide_may r (by simpa using h.2)
  simp [wide];omega
theorem sized_bad (l:List It) (j:Nat) (x:It) (h:l[j]?=some x) (hm:may x=false):sized l=(0,2):=by
 have:l.all may=false:=by
  rw [List.all_eq_false];exact ⟨x,List.mem_of_getElem? h,by simp [hm]⟩
 unfold sized;rw [this];rfl
theorem sized_big (l:List It) (h:l.all may=true) (hw:40 < wide l):sized l=(0,6):=by
 unfold sized;rw [if_pos h,if_neg (by omega)]
theorem measure_any (v:Value) (l:List It) (r:Int×Int) (w:World) (hr:Row w v l) (hs:∀y∈l,y.2.size≤140737488355328) (hl:l.length≤1099511627776) (h:sized l=r):
  Calls Tryz.prog 51 #[v] w (Rt w (.tuple #[.int .i64 r.1,.int .i64 r.2])):=by
 obtain ⟨p,cap,hv,hlc,hcap,hc⟩:=id hr
 subst hv
 have HR:=Lh hr
 have HC:=Lh hc
 have HH:=Lh h
 have HS:=Lh hs
 clear hr hc h hs
 go_enter Tryz.func51,Tryz.ntmps51
 go_wp2
 go_loopw [4,9] (fun n i wr=>∃j:Nat,j≤l.length∧i= .int .i64 (j:Int)∧n= .int .i64 (wide (l.take j):Int)∧(l.take j).all may=true∧Below w.heap.size w wr) (fun _ i _=>l.length - (intOf i).toNat)
 case atStart=>exact ⟨0,Nat.zero_le _,rfl,rfl,rfl,Below.refl _ _⟩
 case round=>
  obtain ⟨j,hj,rfl,rfl,hall,hB⟩:=hrel
  have hwb:=wide_may _ hall
  have hwl:(l.take j).length≤l.length:=by rw [List.length_take];omega
  by_cases hlt:j < l.length
  ·obtain ⟨x,hx⟩:∃x,l[j]?=some x:=⟨_,List.getElem?_eq_getElem hlt⟩
   obtain ⟨ad,hp,hg,c0,c1⟩:=HC.out j x hx
   subst hp
   replace c0:=(World.cell?_of_block (hB.block _ (by rw [add_block];exact hg))).trans c0
   replace c1:=(World.cell?_of_block (w:=w) (w':=wr) (a:=⟨(ad.add (j * 2)).block,(ad.add (j * 2)).off+1,none⟩) (hB.block _ (by show (ad.add (j * 2)).block < _;rw [add_block];exact hg))).trans c1
   have hxs:=info_of l j x hx HS.out
   obtain ⟨n,hn⟩:=eqx (wide (l.take j))
   have hws:=wide_take_succ l j x hx
   have has:=all_take_succ l j x hx
   rw [←hn] at hwb hws ⊢
   have HX:=Lh hx
   have HW:=Lh hws
   have HA:=Lh has
   have HB:=Lh hB
   have HL:=Lh hall
   clear hx hws has hB hn hall
   cases hm:may x with
   | false=>
    have HM:=Lh hm
    clear hm
    go_wp2_with (go_at_call 107;refine (valid_as x false HM.out _ (by omega)).mono ?_;rintro e w1 ⟨rfl,B1⟩)
    go_ret2
    have e:=sized_bad l j x HX.out HM.out
    rw [HH.out] at e
    refine ⟨by rw [e];rfl,oW (aS HB.out _) B1⟩
   | true=>
    have HM:=Lh hm
    have hmx:=(lJ x).1 hm
    clear hm
    go_wp2_with fail
    refine (valid_as x true HM.out _ (by omega)).mono ?_
    rintro e w1 ⟨rfl,B1⟩
    have d0:w1.cell? ⟨wr.heap.size,0,none⟩=some (.int .i64 x.1):=(yQ B1 _ _ (by simp)).trans (Blk.cell (Blk.new wr _ _) 0)
    have d1:w1.cell? ⟨wr.heap.size,1,none⟩=some (.string x.2):=(yQ B1 _ _ (by simp)).trans (Blk.cell (Blk.new wr _ _) 1)
    have B2:=Lh (oW (aS HB.out _) B1)
    clear B1
    go_wp2_with (go_at_call 52;refine (oL x _ (by omega)).mono ?_;rintro e w2 ⟨rfl,rfl⟩)
    go_roundw
    case rel=>exact ⟨j+1,by omega,by go_num,by rw [HW.out];go_num,by rw [HA.out,HL.out,HM.out];rfl,aS B2.out _⟩
    case measure=>simp [intOf];omega
  ·obtain rfl:j=l.length:=by omega
   rw [List.take_length] at hall hwb ⊢
   have HB:=Lh hB
   have HL:=Lh hall
   obtain ⟨n,hn⟩:=eqx (wide l)
   rw [←hn] at hwb ⊢
   have HN:=Lh hn
   clear hB hall hn
   by_cases h40:40 < n
   ·go_wp2
    go_ret2
    have e:=sized_big l HL.out (by rw [←HN.out];exact h40)
    rw [HH.out] at e
    exact ⟨by rw [e];rfl,HB.out⟩
   ·go_wp2
    go_ret2
    have e:=sized_ok l HL.out (by rw [←HN.out];omega)
    rw [HH.out,←HN.out] at e
    have en:((n:Int)+4 - 1) / 4 * 4=(pad n:Int):=by unfold pad;omega
    refine ⟨by rw [e];show Ending.returned (.tuple #[.int .i64 (((n:Int)+4 - 1) / 4 * 4),.int .i64 0])=_;rw [en],HB.out⟩
open Go.ChangeShapes Go.WideShapes Go.ChangeAt Go.RowKit
def bcs (l:List UInt8):List Value:=l.map fun b=>Value.int .u8 (b.toNat:Int)
theorem bcs_append (l m:List UInt8):bcs (l++m)=bcs l++bcs m:=by simp [bcs]
theorem bcs_two (x:It) (h:may x=true):bcs (enc1 x)=[.int .u8 x.1,.int .u8 (2+(x.2.size:Int))]++Lib.strCells x.2:=by
 obtain ⟨h1,h2,h3⟩:=(lJ x).1 h
 have e1:((UInt8.ofNat x.1.toNat).toNat:Int)=x.1:=by rw [UInt8.toNat_ofNat'];omega
 have e2:((UInt8.ofNat (x.2.size+2)).toNat:Int)=2+(x.2.size:Int):=by rw [UInt8.toNat_ofNat'];omega
 show [Value.int .u8 ((UInt8.ofNat x.1.toNat).toNat:Int),.int .u8 ((UInt8.ofNat (x.2.size+2)).toNat:Int)]++Lib.strCells x.2=_
 rw [e1,e2]
theorem own_base {w:World} {base:Nat} {e:TypeId} {size n:Nat} {v:Value} {xs:List Value} (h:w.ownsRow base e size v n xs):∀k,v.ownBlock=some k→base≤k:=fun k hk=>(h.lt k hk).1
theorem own_text (W:World) (base g cap n:Nat) (l:List UInt8) (h:W.ownsRow base 5 1 (.slice (some ⟨g,0,none⟩) n cap) n (bcs l)) (hn:n=l.length):
  (convert 61 9 (.slice (some ⟨g,0,none⟩) n cap)).run Tryz.prog W= .ok (.string (txt l)) W:=by
 subst hn
 exact run_convert_bytes_back W 61 9 5 ⟨g,0,none⟩ cap l Tryz.underlying61 Tryz.underlying5 Tryz.underlying9 fun j hj=>
  h.cells rfl j _ (by simp [bcs,hj])
theorem zM:(Tryz.prog.info? 5).map (fun i=>(i.zero,i.size,i.bytes))=some (some (.int .u8 0),1,1):=by kernel_rfl
theorem Lay_bad (v:Value) (l:List It) (c:Int) (w:World) (hr:Row w v l) (hs:∀y∈l,y.2.size≤140737488355328) (hl:l.length≤1099511627776) (h:sized l=(0,c)) (hc:c=2∨c=6):
  Calls Tryz.prog 26 #[v] w (Rt w (.tuple #[.string ⟨#[]⟩,.int .i64 c])):=by
 have HR:=Lh hr
 have HH:=Lh h
 have HS:=Lh hs
 obtain ⟨p,cap,hv,hlc,hcap,hcl⟩:=hr
 subst hv
 clear hcl h hs
 have hne:(c !=0)=true:=by rcases hc with rfl | rfl<;>rfl
 go_enter Tryz.func26,Tryz.ntmps26
 go_wp2_with (go_at_call 51;refine (measure_any _ l (0,c) _ HR.out HS.out hl HH.out).mono ?_;rintro e w1 ⟨rfl,B1⟩)
 go_ret2;exact ⟨rfl,B1⟩
theorem Lay_good (v:Value) (l:List It) (w:World) (hr:Row w v l) (hl:l.length≤1099511627776) (hm:l.all may=true) (hw:wide l≤40):
  Calls Tryz.prog 26 #[v] w (Rt w (.tuple #[.string (laid l).1,.int .i64 0])):=by
 have hs:∀y∈l,y.2.size≤140737488355328:=fun y hy=>by
  have:=(lJ y).1 (List.all_eq_true.1 hm y hy);omega
 have hmem:∀(i:Nat) (y:It),l[i]?=some y→may y=true:=fun i y hy=>List.all_eq_true.1 hm y (List.mem_of_getElem? hy)
 have HR:=Lh hr
 have HS:=Lh hs
 have HH:=Lh (sized_ok l hm hw)
 have HMM:=Lh hmem
 have HLA:=Lh (laid_ok l hm hw)
 obtain ⟨p,cap,hv,hlc,hcap,hcl⟩:=hr
 subst hv
 have HC:=Lh hcl
 clear hcl hs hm hmem
 obtain ⟨P,hP⟩:=eqx (pad (wide l))
 have hpb:=pad_b (wide l)
 rw [←hP] at hpb
 have hP40:P≤40:=by rw [hP];unfold pad;omega
 have HP:=Lh hP
 clear hP
 obtain ⟨i0,hi,hz0,hz1,hz2⟩:=info_parts zM
 have HI:=Lh hi
 have HZ0:=Lh hz0
 have HZ1:=Lh hz1
 have HZ2:=Lh hz2
 clear hi hz0 hz1 hz2
 go_enter Tryz.func26,Tryz.ntmps26
 go_wp2_with fail
 refine (measure_any _ l ((P:Int),0) _ HR.out HS.out hl (by rw [HP.out];exact HH.out)).mono ?_
 rintro e w1 ⟨rfl,B1⟩
 have HB1:=Lh B1
 clear B1
 go_wp2_with (at_make;refine wpList_make_own _ rfl _ _ 61 rfl w.heap.size 5 i0 (.int .u8 0) 1 Tryz.underlying61 HI.out HZ0.out HZ1.out .i64 .i64 _ P rfl rfl rfl (by rw [HZ2.out];omega) (by unfold maxLen;omega) HB1.out.size ?_;intro w2 hown2 hgrow2;have HO2:=Lh hown2;have HB2:=Lh (HB1.out.grown hgrow2 HB1.out.size (fun k e=>by cases e));clear hown2 hgrow2)
 go_loopw [6,21] (fun a i wr=>∃(j g c:Nat),j≤l.length∧i= .int .i64 (j:Int)∧a= .slice (some ⟨g,0,none⟩) (wide (l.take j)) c∧wr.ownsRow w.heap.size 5 1 (.slice (some ⟨g,0,none⟩) (wide (l.take j)) c) (wide (l.take j)) (bcs (enc (l.take j)))∧Below w.heap.size w wr) (fun _ i _=>l.length - (intOf i).toNat)
 case atStart=>exact ⟨0,_,_,Nat.zero_le _,rfl,rfl,HO2.out,HB2.out⟩
 case round=>
  clear HO2 HB2 HB1
  obtain ⟨j,g,c,hj,rfl,rfl,hO,hB⟩:=hrel
  have hwl:=wide_take_le l j
  by_cases hlt:j < l.length
  ·obtain ⟨x,hx⟩:∃x,l[j]?=some x:=⟨_,List.getElem?_eq_getElem hlt⟩
   obtain ⟨ad,hp,hg,c0,c1⟩:=HC.out j x hx
   subst hp
   replace c0:=(World.cell?_of_block (hB.block _ (by rw [add_block];exact hg))).trans c0
   replace c1:=(World.cell?_of_block (w:=w) (w':=wr) (a:=⟨(ad.add (j * 2)).block,(ad.add (j * 2)).off+1,none⟩) (hB.block _ (by show (ad.add (j * 2)).block < _;rw [add_block];exact hg))).trans c1
   have hmx:=HMM.out j x hx
   obtain ⟨m1,m2,m3⟩:=(lJ x).1 hmx
   have hws:=wide_take_succ l j x hx
   have hes:=enc_take_succ l j x hx
   have hwl':=wide_take_le l (j+1)
   have h2:=bcs_two x hmx
   obtain ⟨k,s⟩:=x
   simp only at m1 m2 m3 c0 c1 hws h2
   obtain ⟨n,hn⟩:=eqx (wide (l.take j))
   obtain ⟨X,hX⟩:=eqx (bcs (enc (l.take j)))
   rw [hws] at hwl'
   rw [←hn] at hws hwl hwl' hO ⊢
   have HX:Hid (bcs (enc (l.take (j+1)))=X++([.int .u8 k,.int .u8 (2+(s.size:Int))]++Lib.strCells s)):=Lh (by rw [hes,bcs_append,h2,hX])
   rw [←hX] at hO
   have HW:=Lh hws
   have HO:=Lh hO
   have HB:=Lh hB
   clear hx hws hes h2 hO hB hX hn hmx
   have e8:IntKind.u8.wrap k=k:=by rw [IntKind.wrap_u8];omega
   have e8':IntKind.u8.wrap (2+(s.size:Int))=2+(s.size:Int):=by rw [IntKind.wrap_u8];omega
   have bs:=HB.out.size
   go_wp2
   have d0:(wr.alloc (Obj.cells #[Value.int IntKind.i64 k,Value.string s] 53)).cell? ⟨wr.heap.size,0,none⟩=some (.int .i64 k):=Blk.cell (Blk.new wr _ _) 0
   have d1:(wr.alloc (Obj.cells #[Value.int IntKind.i64 k,Value.string s] 53)).cell? ⟨wr.heap.size,1,none⟩=some (.string s):=Blk.cell (Blk.new wr _ _) 1
   obtain ⟨W,hW⟩:=eqx (wr.alloc (Obj.cells #[Value.int IntKind.i64 k,Value.string s] 53))
   have hz:W.heap.size=wr.heap.size+1:=by rw [hW];simp
   have HBW:Hid (Below w.heap.size w W):=Lh (by rw [hW];exact aS HB.out _)
   have HOW:Hid (W.ownsRow w.heap.size 5 1 (.slice (some ⟨g,0,none⟩) n c) n X):=Lh (by rw [hW];exact HO.out.alloc _)
   rw [←hW] at d0 d1 ⊢
   have HK:Hid (Blk W wr.heap.size 53 #[.int .i64 k,.string s]):=Lh (by rw [hW];exact Blk.new wr _ _)
   have HZ:=Lh hz
   clear hW HO HB hz
   obtain ⟨W3,hW3⟩:=eqx ((W.alloc (.cells #[.int .i64 k,.string s] 53)).alloc (.cells #[.int .u8 k,.int .u8 (2+(s.size:Int))] 5))
   have z3:W3.heap.size=W.heap.size+2:=by rw [hW3];simp
   have B3:Below w.heap.size w W3:=by rw [hW3];exact aS (aS HBW.out _) _
   have K3:Blk W3 wr.heap.size 53 #[.int .i64 k,.string s]:=by rw [hW3];exact (HK.out.alloc _).alloc _
   have o3:W3.ownsRow w.heap.size 5 1 (.slice (some ⟨g,0,none⟩) n c) n X:=by rw [hW3];exact (HOW.out.alloc _).alloc _
   have n3:W3.heap[W.heap.size+1]?=some (.cells #[.int .u8 k,.int .u8 (2+(s.size:Int))] 5 (0,0)):=by
    rw [hW3];have:=heap_alloc_new (W.alloc (.cells #[.int .i64 k,.string s] 53)) (.cells #[.int .u8 k,.int .u8 (2+(s.size:Int))] 5)
    rwa [World.size_alloc] at this
   have HO3:=Lh (show∀V:World,V.heap=W3.heap→V.ownsRow w.heap.size 5 1 (.slice (some ⟨g,0,none⟩) n c) n X by
    intro V hV;unfold World.ownsRow at o3 ⊢;rw [hV];exact o3)
   have HC3:=Lh (show∀V:World,V.heap=W3.heap→∀j u,[Value.int .u8 k,.int .u8 (2+(s.size:Int))][j]?=some u→V.cell? ((⟨W.heap.size+1,0,none⟩:Addr).add j)=some u by
    intro V hV
    exact World.news_of_block (cs:=#[.int .u8 k,.int .u8 (2+(s.size:Int))]) (t:=5) (fr:=(0,0)) (by rw [hV];exact n3))
   have HZ3:=Lh (show∀V:World,V.heap=W3.heap→V.heap.size=W.heap.size+2 by intro V hV;rw [hV];exact z3)
   have HL3:=Lh (show∀V:World,V.heap=W3.heap→w.heap.size≤V.heap.size by intro V hV;rw [hV];exact B3.size)
   have HG3:=Lh (show∀(V V':World),V.heap=W3.heap→V.os=W3.os→V.tape=W3.tape→V.output=W3.output→V.grownBy V' (some g)→Below w.heap.size w V'∧Blk V' wr.heap.size 53 #[.int .i64 k,.string s] by
    intro V V' h1 h2 h3 h4 hg
    have hgr:W3.grownBy V' (some g):=⟨hg.os.trans h2,hg.tape.trans h3,hg.output.trans h4,by rw [←h1];exact hg.size,fun q hq hne=>by rw [←h1];exact hg.block q (by rw [h1];exact hq) hne⟩
    refine ⟨B3.grown hgr B3.size (fun q e=>by cases e;exact own_base o3 _ rfl),K3.grown hgr fun e=>?_⟩
    injection e with e
    rcases o3.2 with ⟨h0,_⟩ | ⟨g',_,cur,hv,_,hg',_⟩
    ·cases h0
    ·cases hv
     rw [e] at K3
     have:=K3.symm.trans hg'
     simp at this)
   have HW3:=Lh hW3
   clear z3 B3 K3 o3 n3 hW3
   go_region_held3 (fun w'=>w'.cell? ⟨wr.heap.size,0,none⟩=some (.int .i64 k)∧w'.cell? ⟨wr.heap.size,1,none⟩=some (.string s))
    (first | exact ⟨HK.out.cell 0,HK.out.cell 1⟩ | exact ⟨(HK.out.alloc _).cell 0,(HK.out.alloc _).cell 1⟩ | exact ⟨((HK.out.alloc _).alloc _).cell 0,((HK.out.alloc _).alloc _).cell 1⟩ | exact ⟨K4.cell 0,K4.cell 1⟩)
    (first
     | (go_at_call 52;refine (oL (k,s) _ (by show s.size≤_;omega)).mono ?_;rintro e w' ⟨rfl,rfl⟩)
     | (refine step_append_lies _ rfl (.tmp 25) (.tmp 32) 61 rfl w.heap.size 5 i0 (.int .u8 0) 1 1 Tryz.underlying61 HI.out HZ0.out HZ1.out HZ2.out rfl (by decide) (.slice (some ⟨g,0,none⟩) n c) n X (by simp [Act.eval]) (HO3.out _ (by rw [HW3.out];rfl)) ⟨W.heap.size+1,0,none⟩ 2 2 [.int .u8 k,.int .u8 (2+(s.size:Int))] (by simp [Act.eval]) rfl (HC3.out _ (by rw [HW3.out];rfl)) (by simp [Value.oneCell']) (by decide) (by unfold maxLen;omega) (by omega) (HL3.out _ (by rw [HW3.out];rfl)) (W.heap.size+2) (HZ3.out _ (by rw [HW3.out];rfl)) ?_;intro g' cap' w2 hown2 hgrow2 hat2 hlt2;obtain ⟨B4,K4⟩:=HG3.out _ _ (by rw [HW3.out];rfl) (by rw [HW3.out];rfl) (by rw [HW3.out];rfl) (by rw [HW3.out];rfl) hgrow2))
   have c1':=K4.cell 1
   have HB4:=Lh B4
   have HO4:=Lh hown2
   have H24:=Lh B4.size
   clear B4 K4 hown2 hgrow2 hat2 hlt2 HO3 HC3 HZ3 HL3 HG3 HW3 HK HOW HBW HZ d0 d1 e8 e8' c0 c1
   go_wp2_with (at_builtin;refine Lib.wpList_append_own_string _ rfl (.tmp 34) (.tmp 36) 61 9 rfl w.heap.size 5 i0 Tryz.underlying61 Tryz.underlying9 HI.out HZ0.out HZ1.out HZ2.out (.slice (some ⟨g',0,none⟩) (n+2) cap') (n+2) _ rfl HO4.out s rfl (by unfold maxLen;omega) (by omega) H24.out ?_;intro v5 w5 hown5 hgrow5 _;obtain ⟨g5,cap5,rfl,_,hlt5⟩:=hown5.form (by omega);have HO5:=Lh hown5;have HB5:=Lh (HB4.out.grown hgrow5 H24.out (own_base HO4.out));clear hown5 hgrow5 hlt5)
   go_roundw
   case rel=>exact ⟨j+1,g5,cap5,by omega,by go_num,by rw [HW.out],by rw [HW.out,HX.out,←List.append_assoc];exact HO5.out,HB5.out⟩
   case measure=>simp [intOf];omega
  ·obtain rfl:j=l.length:=by omega
   rw [List.take_length] at hO ⊢
   obtain ⟨n,hn⟩:=eqx (wide l)
   rw [←hn] at hpb hO hw ⊢
   have HN:=Lh hn
   have HO:=Lh hO
   have HB:=Lh hB
   clear hn hO hB hwl
   go_wp2
   go_loopw [6] (fun a wr=>∃(q g c:Nat),n+q≤P∧a= .slice (some ⟨g,0,none⟩) (n+q) c∧wr.ownsRow w.heap.size 5 1 (.slice (some ⟨g,0,none⟩) (n+q) c) (n+q) (bcs (enc l++List.replicate q 0))∧Below w.heap.size w wr) (fun a _=>match a with | .slice _ m _=>P - m | _=>0)
   case atStart=>exact ⟨0,g,c,by omega,rfl,by simpa using HO.out,HB.out⟩
   case round=>
    clear HO HB
    obtain ⟨q,g1,c1,hq,rfl,hO,hB⟩:=hrel
    have HO:=Lh hO
    have HB:=Lh hB
    have hsz:=hB.size
    clear hO hB
    by_cases hlt:n+q < P
    ·go_wp2_with (at_builtin;refine wpList_append_lies _ (by rfl) (.tmp 43) (.tmp 44) 61 (by rfl) w.heap.size 5 i0 (.int .u8 0) 1 1 Tryz.underlying61 HI.out HZ0.out HZ1.out HZ2.out rfl (by decide) (.slice (some ⟨g1,0,none⟩) (n+q) c1) (n+q) _ (by rfl) (HO.out.alloc _) ⟨wr.heap.size,0,none⟩ 1 1 [.int .u8 0] (by rfl) (by rfl) (World.news_of_block (cs:=#[.int .u8 0]) (t:=5) (fr:=(0,0)) (heap_alloc_new _ _)) (by simp [Value.oneCell']) (by decide) (by unfold maxLen;omega) (by omega) (by simp;omega) (wr.heap.size+1) (by simp) ?_;intro g5 cap5 w5 hown5 hgrow5 hat5 hlt5;have HO5:=Lh hown5;have HB5:=Lh (Below.grown (aS HB.out _) hgrow5 (aS HB.out _).size (own_base HO.out));clear hown5 hgrow5 hat5 hlt5)
     go_roundw
     case rel=>exact ⟨q+1,g5,cap5,by omega,rfl,by rw [List.replicate_succ',←List.append_assoc,bcs_append];exact HO5.out,HB5.out⟩
     case measure=>simp;omega
    ·obtain rfl:P=n+q:=by omega
     have hcv:=own_text _ _ _ _ _ _ HO.out (by rw [List.length_append,List.length_replicate,jU,HN.out])
     have eq:q=pad (wide l) - wide l:=by rw [←HP.out,←HN.out];omega
     have HQ:=Lh eq
     clear eq
     go_wp2
     go_ret2
     exact ⟨by rw [HLA.out,←HQ.out];rfl,HB.out⟩
theorem lN (v:Value) (l:List It) (r:ByteArray×Int) (w:World) (hr:Row w v l) (hs:∀y∈l,y.2.size≤140737488355328) (hl:l.length≤1099511627776) (h:laid l=r):
  Calls Tryz.prog 26 #[v] w (Rt w (.tuple #[.string r.1,.int .i64 r.2])):=by
 subst h
 cases hm:l.all may with
 | false=>
  have e1:laid l=(⟨#[]⟩,2):=by unfold laid;rw [hm];rfl
  have e2:sized l=(0,2):=by unfold sized;rw [hm];rfl
  rw [e1];exact Lay_bad v l 2 w hr hs hl e2 (.inl rfl)
 | true=>
  by_cases hw:wide l≤40
  ·have e1:(laid l).2=0:=by rw [laid_ok l hm hw]
   rw [e1];exact Lay_good v l w hr hl hm hw
  ·have e1:laid l=(⟨#[]⟩,6):=by unfold laid;rw [if_pos hm,if_neg hw]
   rw [e1];exact Lay_bad v l 6 w hr hs hl (sized_big l hm (by omega)) (.inr rfl)
open Go.ChangeShapes Go.WideShapes Go.ChangeAt Go.RowKit
theorem head_one (s:ByteArray) (h:0 < s.size):∃t,s.data.toList=s[0]::t∧t.length+1=s.size:=by
 obtain ⟨⟨l⟩⟩:=s
 cases l with
 | nil=>simp [ByteArray.size] at h
 | cons a r=>exact ⟨r,rfl,by simp [ByteArray.size]⟩
theorem tJ (s:ByteArray) (h:1 < s.size):∃t,s.data.toList=s[0]::s[1]::t∧t.length+2=s.size:=by
 obtain ⟨⟨l⟩⟩:=s
 match l with
 | []=>simp [ByteArray.size] at h
 | [a]=>simp [ByteArray.size] at h
 | a::b::r=>exact ⟨r,rfl,by simp [ByteArray.size]⟩
theorem fst_low (s:ByteArray) (h:0 < s.size) (hk:s[0].toNat < 2):fst s.data.toList=(((s[0].toNat:Int),⟨#[]⟩),1,0):=by
 obtain ⟨t,ht,_⟩:=head_one s h
 rw [ht]
 cases t with
 | nil=>rw [qK,if_pos hk]
 | cons b r=>rw [lH,if_pos hk]
theorem fst_alone (s:ByteArray) (h:s.size=1) (hk:¬s[0].toNat < 2):fst s.data.toList=((0,⟨#[]⟩),0,4):=by
 obtain ⟨t,ht,hl⟩:=head_one s (by omega)
 have:t=[]:=List.length_eq_zero_iff.1 (by omega)
 rw [ht,this,qK,if_neg hk]
theorem fst_form (s:ByteArray) (h:1 < s.size) (hk:¬s[0].toNat < 2) (hb:s[1].toNat < 2):fst s.data.toList=((0,⟨#[]⟩),0,5):=by
 obtain ⟨t,ht,hl⟩:=tJ s h
 rw [ht,lH,if_neg hk,if_pos hb]
theorem fst_short (s:ByteArray) (h:1 < s.size) (hk:¬s[0].toNat < 2) (hb:¬s[1].toNat < 2) (hn:s.size < s[1].toNat):fst s.data.toList=((0,⟨#[]⟩),0,4):=by
 obtain ⟨t,ht,hl⟩:=tJ s h
 rw [ht,lH,if_neg hk,if_neg hb,if_pos (by omega)]
theorem fst_item (s:ByteArray) (h:1 < s.size) (hk:¬s[0].toNat < 2) (hb:¬s[1].toNat < 2) (hn:¬s.size < s[1].toNat):fst s.data.toList=(((s[0].toNat:Int),s.extract 2 s[1].toNat),s[1].toNat,0):=by
 obtain ⟨t,ht,hl⟩:=tJ s h
 have e:txt (t.take (s[1].toNat - 2))=s.extract 2 s[1].toNat:=by
  apply eq_of_data
  rw [data_txt,data_extract,ht]
  obtain ⟨m,hm⟩:∃m,s[1].toNat=m+2:=⟨s[1].toNat - 2,by omega⟩
  rw [hm];simp
 rw [ht,lH,if_neg hk,if_neg hb,if_neg (by omega),e]
theorem first_any (s:ByteArray) (r:It×Nat×Int) (h:fst s.data.toList=r) (w:World) (h0:0 < s.size) (hs:s.size≤140737488355328):
  Calls Tryz.prog 163 #[.string s] w (Rt w (.tuple #[.agg #[.int .i64 r.1.1,.string r.1.2],.int .i64 (r.2.1:Int),.int .i64 r.2.2])):=by
 have hb0:=s[0].toNat_lt
 have g0:(0:Int) < (s.size:Int):=by omega
 by_cases hk:s[0].toNat < 2
 ·have e:=fst_low s h0 hk
  rw [h] at e
  subst e
  clear h
  go_enter Tryz.func163,Tryz.ntmps163
  go_wp2
  exact bodyPost_ret (v:=.tuple #[.agg #[.int .i64 (s[0].toNat:Int),.string ⟨#[]⟩],.int .i64 1,.int .i64 0]) (by simp [results,Tryz.results163,go_sem]) rfl ⟨rfl,by first | exact aS (Below.refl _ _) _ | exact (aS (Below.refl _ _) _).setCell (by simp) _⟩
 ·by_cases h1:1 < s.size
  ·have g1:(1:Int) < (s.size:Int):=by omega
   have hb1:=s[1].toNat_lt
   by_cases hb:s[1].toNat < 2
   ·have e:=fst_form s h1 hk hb
    rw [h] at e
    subst e
    clear h
    go_enter Tryz.func163,Tryz.ntmps163
    go_wp2
    exact bodyPost_ret (v:=.tuple #[.agg #[.int .i64 0,.string ⟨#[]⟩],.int .i64 0,.int .i64 5]) (by simp [results,Tryz.results163,go_sem]) rfl ⟨rfl,aS (Below.refl _ _) _⟩
   ·by_cases hn:s.size < s[1].toNat
    ·have e:=fst_short s h1 hk hb hn
     rw [h] at e
     subst e
     clear h
     go_enter Tryz.func163,Tryz.ntmps163
     go_wp2
     exact bodyPost_ret (v:=.tuple #[.agg #[.int .i64 0,.string ⟨#[]⟩],.int .i64 0,.int .i64 4]) (by simp [results,Tryz.results163,go_sem]) rfl ⟨rfl,aS (Below.refl _ _) _⟩
    ·have e:=fst_item s h1 hk hb hn
     rw [h] at e
     subst e
     clear h
     have q1:(2:Int)≤(s[1].toNat:Int):=by omega
     have q2:(s[1].toNat:Int)≤(s.size:Int):=by omega
     have q3:2≤s[1].toNat:=by omega
     have q4:s[1].toNat≤s.size:=by omega
     go_enter Tryz.func163,Tryz.ntmps163
     go_wp2
     exact bodyPost_ret (v:=.tuple #[.agg #[.int .i64 (s[0].toNat:Int),.string (s.extract 2 s[1].toNat)],.int .i64 (s[1].toNat:Int),.int .i64 0]) (by simp [results,Tryz.results163,go_sem]) rfl ⟨rfl,aS (Below.refl _ _) _⟩
  ·have e:=fst_alone s (by omega) hk
   rw [h] at e
   subst e
   have h1':s.size=1:=by omega
   clear h
   go_enter Tryz.func163,Tryz.ntmps163
   go_wp2
   exact bodyPost_ret (v:=.tuple #[.agg #[.int .i64 0,.string ⟨#[]⟩],.int .i64 0,.int .i64 4]) (by simp [results,Tryz.results163,go_sem]) rfl ⟨rfl,aS (Below.refl _ _) _⟩
open Go.RowKit Go.Shelf
attribute [local go_sem] Oper.semAt_some
theorem items_any (s:ByteArray) (w:World):
  Calls Tryz.prog 106 #[.string s] w fun e w'=>e= .returned (.func (.func 162) #[] #[.pointer (some ⟨w.heap.size,0,none⟩)])∧w'=w.alloc (.cells #[.string s] 9):=by
 go_enter Tryz.func106,Tryz.ntmps106
 go_wp2
 go_ret;exact ⟨rfl,rfl⟩
abbrev encs (x:Ev):Array Value:=#[.agg #[.int .i64 x.1.1,.string x.1.2],.agg #[.int .i64 x.2.1,.int .i64 x.2.2]]
def Kpt (b:Nat) (W W':World):Prop:=W'.heap[b]?=W.heap[b]?
theorem fst_size (q:List UInt8) (h:q≠[]) (hc:(fst q).2.2=0):1≤(fst q).2.1∧(fst q).2.1≤q.length:=by
 match q,h with
 | [a],_=>
  rw [qK] at hc ⊢
  split at hc
  ·next h=>rw [if_pos h];simp
  ·simp at hc
 | a::b::t,_=>
  rw [lH] at hc ⊢
  split at hc
  ·next h=>rw [if_pos h];simp
  ·next h=>
   rw [if_neg h]
   split at hc
   ·simp at hc
   ·next h2=>
    rw [if_neg h2]
    split at hc
    ·simp at hc
    ·next h3=>rw [if_neg h3];simp;omega
theorem evs_nil (m k:Nat):evs m k []=[]:=by cases m<;>simp [evs]
theorem evs_ok (m k:Nat) (q:List UInt8) (h:q≠[]) (hc:(fst q).2.2=0):evs (m+1) k q=((fst q).1,(0,0))::evs m (k+(fst q).2.1) (q.drop (fst q).2.1):=by
 rw [evs,if_neg h,if_pos hc]
theorem evs_bad (m k:Nat) (q:List UInt8) (h:q≠[]) (hc:(fst q).2.2≠0):evs (m+1) k q=[((0,⟨#[]⟩),((fst q).2.2,(k:Int)))]:=by
 rw [evs,if_neg h,if_neg hc]
theorem items1_in (m l b:Nat) (s:ByteArray) (hs:s.size≤40) (J Jx:List Ev→World→Prop) (W:World)
  (hJ:∀pre V V',J pre V→V.grownBy V' none→J pre V')
  (hJx:∀pre V V',Jx pre V→V.grownBy V' none→Jx pre V')
  (hY:∀pre x V,J pre V→pre.length < 41→YieldAt Fence.wide m Tryz.prog l (encs x) V fun e V'=>(e= .returned (.bool true)∧J (pre++[x]) V'∧Kpt b V V')∨(e= .returned (.bool false)∧Jx (pre++[x]) V'))
  (hb:W.cell? ⟨b,0,none⟩=some (.string s)) (h0:J [] W):
  CallsIn Fence.wide (m+1) Tryz.prog 162 #[.func (.yield l) #[] #[],.pointer (some ⟨b,0,none⟩)] W fun e W'=>(∃v,e= .returned v)∧((∃xs,xs=evs 41 0 s.data.toList∧J xs W')∨(∃pre,pre <+:evs 41 0 s.data.toList∧Jx pre W')):=by
 obtain ⟨E,hE⟩:=eqx (evs 41 0 s.data.toList)
 rw [←hE]
 have HE:=Lh hE
 have HJ:=Lh hJ
 have HY:=Lh hY
 have H0:=Lh h0
 clear hJ hY h0 hJx hE
 refine callsIn_of_wp Tryz.func162 rfl trivial ?_ rfl
 simp only [Tryz.ntmps162,List.size_toArray,List.length_cons,List.length_nil,Nat.reduceAdd,Nat.reduceSub,Array.replicate_succ,Array.replicate_zero,List.push_toArray,List.append_toArray,List.nil_append,List.cons_append]
 gi_wp2
 gi_loopw [3] (fun i wr=>∃(k f:Nat) (pre:List Ev),k≤s.size∧i= .int .i64 (k:Int)∧J pre wr∧E=pre++evs f k (s.data.toList.drop k)∧s.size - k≤f∧pre.length+f≤41∧wr.cell? ⟨b,0,none⟩=some (.string s)) (fun i _=>s.size - (intOf i).toNat)
 case atStart=>exact ⟨0,41,[],Nat.zero_le _,rfl,H0.out,by rw [HE.out];rfl,by omega,by simp,hb⟩
 case round=>
  clear hb H0
  obtain ⟨k,f,pre,hk,rfl,hJp,hEp,hf,hpf,hc⟩:=hrel
  by_cases hlt:k < s.size
  ·obtain ⟨q,hq⟩:=eqx (s.extract k s.size)
   have hqd:q.data.toList=s.data.toList.drop k:=by rw [hq,data_extract,List.take_of_length_le (by simp)]
   have hqs:q.size=s.size - k:=by rw [←kQ,hqd,List.length_drop,kQ]
   obtain ⟨f',rfl⟩:∃f',f=f'+1:=⟨f - 1,by omega⟩
   have hne:q.data.toList≠[]:=fun e=>by rw [←List.length_eq_zero_iff,kQ] at e;omega
   rw [←hqd] at hEp
   obtain ⟨⟨⟨ki,bi⟩,sz,c⟩,hr⟩:∃r,fst q.data.toList=r:=⟨_,rfl⟩
   have HQ:=Lh hq.symm
   have HJP:=Lh hJp
   have HEP:=Lh hEp
   have HR:=Lh hr
   have HN:=Lh hne
   have HQD:=Lh hqd
   have hb':b < wr.heap.size:=by
    obtain ⟨o,ho,_⟩:=cells_of_cell hc
    exact (Array.getElem?_eq_some_iff.1 ho).1
   have hcode:=fst_code q.data.toList
   rw [hr] at hcode
   simp only at hcode
   clear hq hJp hEp hr hne hqd
   by_cases h0c:c=0
   ·subst h0c
    have hsz:=fst_size _ HN.out (by rw [HR.out])
    rw [HR.out,kQ] at hsz
    simp only at hsz
    clear hcode
    gi_wp2_with (refine ⟨trivial,?_⟩;gi_at_call 163;rw [HQ.out];refine (callsIn_wide.2 (first_any q ((ki,bi),sz,0) HR.out _ (by omega) (by omega))).mono ?_;rintro e w1 ⟨rfl,B1⟩;have hc1:=(yQ B1 b 0 hb').trans hc;clear hc;have J1:=HJ.out pre _ (w1.alloc (.cells #[.int .i64 ki,.string bi] 53)) HJP.out ((bM B1 none).trans (World.grownBy_alloc _ _ none));obtain ⟨fn,tmps,assign,body,hy,hR⟩:=HY.out pre ((ki,bi),(0,0)) _ J1 (by omega);have HJ1:=Lh J1;clear J1;dsimp only [encs] at hy)
    have hc2:(w1.alloc (.cells #[.int .i64 ki,.string bi] 53)).cell? ⟨b,0,none⟩=some (.string s):=(yQ (aS (Below.refl _ w1) _) b 0 (Nat.lt_of_lt_of_le hb' B1.size)).trans hc1
    refine hR.mono ?_
    rintro e W3 (⟨rfl,J3,k3⟩ | ⟨rfl,Jx3⟩)
    ·have hc3:W3.cell? ⟨b,0,none⟩=some (.string s):=(World.cell?_of_block (a:=⟨b,0,none⟩) k3).trans hc2
     have HJ3:=Lh J3
     clear J3 k3 hc1 hc2 hy hR B1
     gi_wp2
     go_roundw
     case rel=>
      have e1:=HEP.out
      rw [evs_ok _ _ _ HN.out (by rw [HR.out]),HR.out,HQD.out,List.drop_drop] at e1
      exact ⟨k+sz,f',pre++[((ki,bi),(0,0))],by omega,by go_num,HJ3.out,by rw [e1];simp,by omega,by simp;omega,hc3⟩
     case measure=>simp [intOf];omega
    ·have HJ3:=Lh Jx3
     clear Jx3 hc1 hc2 hy hR B1
     gi_wp2
     refine bodyPost_ret (results_none rfl _ _ _) rfl ?_
     have e1:=HEP.out
     rw [evs_ok _ _ _ HN.out (by rw [HR.out]),HR.out] at e1
     exact ⟨⟨_,rfl⟩,.inr ⟨pre++[((ki,bi),(0,0))],⟨evs f' (k+sz) (q.data.toList.drop sz),by rw [e1];simp⟩,HJ3.out⟩⟩
   ·have hcb:(c !=0)=true:=by simpa using h0c
    gi_wp2_with (refine ⟨trivial,?_⟩;gi_at_call 163;rw [HQ.out];refine (callsIn_wide.2 (first_any q ((ki,bi),sz,c) HR.out _ (by omega) (by omega))).mono ?_;rintro e w1 ⟨rfl,B1⟩;have J1:=HJ.out pre _ (w1.alloc (.cells #[.int .i64 ki,.string bi] 53)) HJP.out ((bM B1 none).trans (World.grownBy_alloc _ _ none));obtain ⟨fn,tmps,assign,body,hy,hR⟩:=HY.out pre ((0,⟨#[]⟩),(c,(k:Int))) _ J1 (by omega);have HJ1:=Lh J1;clear J1;dsimp only [encs] at hy)
    have e1:=HEP.out
    rw [evs_bad _ _ _ HN.out (by rw [HR.out];exact h0c),HR.out] at e1
    refine hR.mono ?_
    rintro e W3 (⟨rfl,J3,k3⟩ | ⟨rfl,Jx3⟩)
    ·have HJ3:=Lh J3
     have HE1:=Lh e1
     clear J3 k3 hy hR B1 e1
     gi_wp2
     refine bodyPost_ret (results_none rfl _ _ _) rfl ?_
     exact ⟨⟨_,rfl⟩,.inl ⟨_,HE1.out.symm,HJ3.out⟩⟩
    ·have HJ3:=Lh Jx3
     have HE1:=Lh e1
     clear Jx3 hy hR B1 e1
     gi_wp2
     refine bodyPost_ret (results_none rfl _ _ _) rfl ?_
     exact ⟨⟨_,rfl⟩,.inr ⟨_,⟨[],by rw [HE1.out];simp⟩,HJ3.out⟩⟩
  ·obtain rfl:k=s.size:=by omega
   rw [List.drop_of_length_le (by simp),evs_nil,List.append_nil] at hEp
   have HJP:=Lh hJp
   have HEP:=Lh hEp
   clear hJp hEp
   gi_wp2
   go_end0
   exact ⟨⟨_,rfl⟩,.inl ⟨pre,HEP.out.symm,HJP.out⟩⟩
open Go.RowKit Go.Shelf
attribute [local go_sem] Oper.semAt_some
def sel (l:List Ev):List It:=(l.filter fun e=>decide (e.1.1≠1)).map (·.1)
def Clean (l:List Ev):Prop:=∀e∈l,e.2=(0,0)∧e.1.1≠0
theorem kF:∀(p:List Ev) (acc:List It) (r:List Ev),Clean p→fold acc (p++r)=fold (acc++sel p) r
 | [],acc,r,_=>by simp [sel]
 | e::p,acc,r,h=>by
  obtain ⟨h1,h2⟩:=h e (by simp)
  have hp:Clean p:=fun x hx=>h x (by simp [hx])
  rw [List.cons_append,fold,if_neg (by simp [h1]),if_neg h2]
  by_cases h3:e.1.1=1
  ·rw [if_pos h3,kF p _ _ hp];simp [sel,h3]
  ·rw [if_neg h3,kF p _ _ hp];simp [sel,h3]
theorem sel_snoc (p:List Ev) (x:Ev) (h:x.1.1≠1):sel (p++[x])=sel p++[x.1]:=by simp [sel,h]
theorem sel_skip (p:List Ev) (x:Ev) (h:x.1.1=1):sel (p++[x])=sel p:=by simp [sel,h]
theorem sel_length (p:List Ev):(sel p).length≤p.length:=by simp [sel];exact List.length_filter_le _ _
theorem Clean.snoc {p:List Ev} {x:Ev} (h:Clean p) (h1:x.2=(0,0)) (h2:x.1.1≠0):Clean (p++[x]):=fun e he=>by
 simp at he
 rcases he with he | rfl
 ·exact h e he
 ·exact ⟨h1,h2⟩
theorem wide_scope {n:Nat} {P:Program} {c:Code} {Q:Exit→Act→World→Prop} {a:Act} {w:World} (h:c.wpIn Fence.wide n P (Exit.noGoto Q) a w):(Code.scope c).wpIn Fence.wide n P Q a w:=wpIn_wide.2 (wp_scope_straight (wpIn_wide.1 h))
theorem wide_label {n:Nat} {P:Program} {l:Nat} {Q:Exit→Act→World→Prop} {a:Act} {w:World} (h:Q .normal a w):(Code.label l).wpIn Fence.wide n P Q a w:=wpIn_wide.2 (wp_label h)
theorem info24:(Tryz.prog.info? 53).map (fun i=>(i.zero,i.size,i.bytes))=some (some (.agg #[.int .i64 0,.string ⟨#[]⟩]),2,24):=by kernel_rfl
def uJ (R:List It×Int) (w:World) (e:Ending) (w':World):Prop:=∃v,e= .returned (.tuple #[v,.int .i64 R.2])∧Row w' v R.1∧Below w.heap.size w w'
theorem Walk_bad (s:ByteArray) (c:Int) (w:World) (hs:s.size≤140737488355328) (h:read s=([],c)) (hc:40 < s.size∨s.size%4≠0):
  Calls Tryz.prog 49 #[.string s] w (uJ ([],c) w):=by
 have hB:Below w.heap.size w ((w.alloc (.cells #[.slice none 0 0] 72)).alloc (.cells #[.int .i64 c] 54)):=aS (aS (Below.refl _ _) _) _
 by_cases h40:40 < s.size
 ·have e:c=6:=by unfold read at h;rw [if_pos h40] at h;simpa using h.symm
  subst e
  have HB:=Lh hB
  clear h hc hB
  go_enter Tryz.func49,Tryz.ntmps49
  go_wp2
  go_step3
  go_wp2
  rw [Exit.noGoto_ret]
  exact bodyPost_ret (v:=.tuple #[.slice none 0 0,.int .i64 6]) (by simp [results,Tryz.results49,go_sem]) rfl ⟨_,rfl,Row.nil _ _,HB.out⟩
 ·have h4:s.size%4≠0:=by omega
  have e:c=5:=by unfold read at h;rw [if_neg h40,if_pos h4] at h;simpa using h.symm
  subst e
  have HB:=Lh hB
  have h4':((s.size:Int)%4 !=0)=true:=by simp;omega
  clear h hc hB h4
  go_enter Tryz.func49,Tryz.ntmps49
  go_wp2
  go_step3
  go_wp2
  rw [Exit.noGoto_ret]
  exact bodyPost_ret (v:=.tuple #[.slice none 0 0,.int .i64 5]) (by simp [results,Tryz.results49,go_sem]) rfl ⟨_,rfl,Row.nil _ _,HB.out⟩
def Mid (w:World) (s:ByteArray) (pre:List Ev) (W:World):Prop:=
 (∃v,Boxed W (w.heap.size+1+1) 72 v∧W.ownsRow w.heap.size 53 2 v (sel pre).length (cellsOf (sel pre))∧True)∧
 ((Boxed W w.heap.size 72 (.slice none 0 0)∧Boxed W (w.heap.size+1) 54 (.int .i64 0))∧Boxed W (w.heap.size+1+1+1) 9 (.string s))∧(Below w.heap.size w W∧Clean pre)
def errOf (c:Code) (pre:List Ev):Value:=match c with
 | .ret=> .int .i64 ((pre.getLast?.map (·.2.1)).getD 0)
 | _=> .int .i64 0
def Bad (c:Code) (pre:List Ev):Prop:=match c with
 | .ret=>∃p x,pre=p++[x]∧Clean p∧x.2≠(0,0)
 | .exit id=>id=0∧∃p x,pre=p++[x]∧Clean p∧x.2=(0,0)∧x.1.1=0
 | _=>False
def Out (w:World) (c:Code) (pre:List Ev) (W:World):Prop:=
 (∃v,Boxed W (w.heap.size+1+1) 72 v∧W.ownsRow w.heap.size 53 2 v (sel pre.dropLast).length (cellsOf (sel pre.dropLast))∧True)∧
 (Boxed W w.heap.size 72 (.slice none 0 0)∧Boxed W (w.heap.size+1) 54 (errOf c pre))∧(Below w.heap.size w W∧Bad c pre)
theorem mid_own (w:World) (s:ByteArray) (B:Nat) (hB:w.heap.size≤B):OwnFrom B (Mid w s):=
 OwnFrom.and (Own.from (holdsRow_own w.heap.size (w.heap.size+1+1) 72 53 2 (fun (pre:List Ev)=>(sel pre).length) (fun (pre:List Ev)=>cellsOf (sel pre)) (fun _ _=>True)) _)
  (OwnFrom.and (OwnFrom.and (OwnFrom.and (Own.from (boxed_own _ _ _) _) (Own.from (boxed_own _ _ _) _)) (Own.from (boxed_own _ _ _) _)) (OwnFrom.and (ownFrom_below (Nat.le_refl _) hB) (ownFrom_pure _ _)))
theorem out_own (w:World) (c:Code) (B:Nat) (hB:w.heap.size≤B):OwnFrom B (Out w c):=
 OwnFrom.and (Own.from (holdsRow_own w.heap.size (w.heap.size+1+1) 72 53 2 (fun (pre:List Ev)=>(sel pre.dropLast).length) (fun (pre:List Ev)=>cellsOf (sel pre.dropLast)) (fun _ _=>True)) _)
  (OwnFrom.and (OwnFrom.and (Own.from (boxed_own _ _ _) _) (Own.from (boxed_own _ _ (fun pre=>errOf c pre)) _)) (OwnFrom.and (ownFrom_below (Nat.le_refl _) hB) (ownFrom_pure _ _)))
theorem blk_own {B:Nat} {X Y:World} {row:Option Nat} {g:Nat} {t:TypeId} {cs:Array Value} (h:Blk X g t cs) (hg:X.grownBy Y row) (hr:∀r,row=some r→B≤r∧∃o:Obj,X.heap[r]?=some o∧o.isCells=false):Blk Y g t cs:=
 h.grown hg fun e=>by
  obtain ⟨_,o,ho,hc⟩:=hr g e.symm
  rw [show X.heap[g]?=_ from h] at ho;cases ho;cases hc
theorem Mid.alloc {w:World} {s:ByteArray} {pre:List Ev} {W:World} (h:Mid w s pre W) (o:Obj):Mid w s pre (W.alloc o):=OwnFrom.alloc (mid_own w s _ (Nat.le_refl _)) o h
theorem Kpt.of {b:Nat} {t:TypeId} {v:Value} {W W':World} (h:Boxed W b t v) (h':Boxed W' b t v):Kpt b W W':=(show W'.heap[b]?=_ from h').trans (show W.heap[b]?=_ from h).symm
theorem out_ret {w:World} {s:ByteArray} {pre:List Ev} {W:World} (x:Ev) (h:Mid w s pre W) (hx:x.2≠(0,0)) (B:Nat):
  KeepsFrom B W ((W.setCell ⟨w.heap.size,0,none⟩ (.slice none 0 0)).setCell ⟨w.heap.size+1,0,none⟩ (.int .i64 x.2.1)).drew∧Out w .ret (pre++[x]) ((W.setCell ⟨w.heap.size,0,none⟩ (.slice none 0 0)).setCell ⟨w.heap.size+1,0,none⟩ (.int .i64 x.2.1)).drew:=by
 obtain ⟨⟨v,bL,hO,_⟩,⟨⟨bR,bE⟩,bS⟩,hB,hC⟩:=h
 have bE1:=bE.other (B':=w.heap.size) (by omega) (.slice none 0 0)
 have o1:=hO.kept (grownBy_setCell' W w.heap.size (.slice none 0 0)) (.inr (bR.not_row (by decide) hO).symm)
 have o2:=o1.kept (grownBy_setCell' _ (w.heap.size+1) (.int .i64 x.2.1)) (.inr (bE1.not_row (by decide) o1).symm)
 refine ⟨((((KeepsOthers.setCell _ _ _).trans (KeepsOthers.setCell _ _ _)).trans (KeepsOthers.drew _)).from _),⟨v,(bL.other (by omega) _).other (by omega) _,?_,trivial⟩,⟨(bR.set _).other (by omega) _,?_⟩,((hB.setCell (p:=⟨w.heap.size,0,none⟩) (Nat.le_refl _) _).setCell (p:=⟨w.heap.size+1,0,none⟩) (by simp) _).drew,pre,x,rfl,hC,hx⟩
 ·rw [List.dropLast_concat];exact o2
 ·have e:errOf .ret (pre++[x])= .int .i64 x.2.1:=by simp [errOf]
  rw [e];exact bE1.set _
theorem own_slice {w:World} {base:Nat} {e:TypeId} {size:Nat} {v:Value} {n:Nat} {xs:List Value} (h:w.ownsRow base e size v n xs):∃p cap,v= .slice p n cap:=by
 rcases h.2 with ⟨rfl,rfl⟩ | ⟨g,cap,_,rfl,_⟩
 ·exact ⟨none,0,rfl⟩
 ·exact ⟨_,cap,rfl⟩
theorem two_results (W:World) (tm:Array Value) (b:Nat) (v u:Value) (h2:tm[2]?.getD undef= .pointer (some ⟨b,0,none⟩)) (h3:tm[3]?.getD undef= .pointer (some ⟨b+1,0,none⟩)) (c0:Boxed W b 72 v) (c1:Boxed W (b+1) 54 u):
  (results Tryz.f49 tm).run Tryz.prog W= .ok (.tuple #[v,u]) W:=by
 have k0:=c0.cell
 have k1:=c1.cell
 simp [results,Tryz.results49,go_sem,h2,h3,k0,k1]
theorem finish (w W:World) (D:Nat) (v:Value) (c:Int) (l:List It) (R:List It×Int) (hR:R=(l,c)) (hD:w.heap.size+4≤D) (bR:Boxed W w.heap.size 72 v) (bE:Boxed W (w.heap.size+1) 54 (.int .i64 c)) (hO:W.ownsRow w.heap.size 53 2 v l.length (cellsOf l))
  (hB:Below w.heap.size w W) (hK:W.heap[D]?=some (.deferred (some []))) (tm:Array Value) (h2:tm[2]?.getD undef= .pointer (some ⟨w.heap.size,0,none⟩)) (h3:tm[3]?.getD undef= .pointer (some ⟨w.heap.size+1,0,none⟩)):
  Exit.noGoto (bodyPostM Fence.wide 8 Tryz.prog Tryz.f49 (uJ R w)) .ret { tmps:=tm,defers:=[{ target:=.collected D,args:=#[] }] } W:=by
 subst hR
 rw [Exit.noGoto_ret]
 refine ⟨by simp,.inl ⟨_,_,rfl,run_takeDeferred hK,?_⟩⟩
 refine ⟨_,two_results _ tm w.heap.size v (.int .i64 c) h2 h3 (bR.kept (grownBy_putObj' _ _ _) (fun e=>by injection e;omega)) (bE.kept (grownBy_putObj' _ _ _) (fun e=>by injection e;omega)),?_⟩
 exact ⟨v,rfl,Row.wI (ownsRow_putObj hO _ hK rfl) rfl,hB.trans (belowK_b (w:=w) (Nat.le_refl _) W D _ _ (by omega) hK rfl rfl)⟩
theorem finish_set (w W:World) (D:Nat) (v:Value) (l:List It) (R:List It×Int) (hR:R=(l,0)) (hD:w.heap.size+4≤D) (bR:Boxed W w.heap.size 72 (.slice none 0 0)) (bE:Boxed W (w.heap.size+1) 54 (.int .i64 0)) (hO:W.ownsRow w.heap.size 53 2 v l.length (cellsOf l))
  (hB:Below w.heap.size w W) (hK:W.heap[D]?=some (.deferred (some []))) (tm:Array Value) (h2:tm[2]?.getD undef= .pointer (some ⟨w.heap.size,0,none⟩)) (h3:tm[3]?.getD undef= .pointer (some ⟨w.heap.size+1,0,none⟩)):
  Exit.noGoto (bodyPostM Fence.wide 8 Tryz.prog Tryz.f49 (uJ R w)) .ret { tmps:=tm,defers:=[{ target:=.collected D,args:=#[] }] } ((W.setCell ⟨w.heap.size,0,none⟩ v).setCell ⟨w.heap.size+1,0,none⟩ (.int .i64 0)):=by
 have bE1:=bE.other (B':=w.heap.size) (by omega) v
 have o1:=hO.kept (grownBy_setCell' W w.heap.size v) (.inr (bR.not_row (by decide) hO).symm)
 have o2:=o1.kept (grownBy_setCell' _ (w.heap.size+1) (.int .i64 0)) (.inr (bE1.not_row (by decide) o1).symm)
 exact finish w _ D v 0 l R hR hD ((bR.set _).other (by omega) _) (bE1.set _) o2 ((hB.setCell (p:=⟨w.heap.size,0,none⟩) (Nat.le_refl _) _).setCell (p:=⟨w.heap.size+1,0,none⟩) (by simp) _) (((KeepsOthers.setCell _ _ _).trans (KeepsOthers.setCell _ _ _)).same D _ hK rfl) tm h2 h3
theorem Walk_in (s:ByteArray) (R:List It×Int) (w:World) (hs:s.size≤40) (h4:s.size%4=0) (h:fold [] (evs 41 0 s.data.toList)=R):
  CallsIn Fence.wide 8 Tryz.prog 49 #[.string s] w (uJ R w):=by
 have HH:=Lh h
 clear h
 have h4':((s.size:Int)%4 !=0)=false:=by simp;omega
 refine callsIn_of_wp_marks Tryz.func49 rfl trivial ?_ rfl
 simp only [Tryz.ntmps49,List.size_toArray,List.length_cons,List.length_nil,Nat.reduceAdd,Nat.reduceSub,Array.replicate_succ,Array.replicate_zero,List.push_toArray,List.append_toArray,List.nil_append,List.cons_append]
 gi_wp2
 refine wide_scope ?_
 gi_wp2
 refine wide_label ?_
 gi_wp2_with (refine ⟨trivial,?_⟩;gi_at_call 106;refine (callsIn_wide.2 (items_any s _)).mono ?_;rintro e w' ⟨rfl,rfl⟩)
 have bR:Boxed ((((w.alloc (.cells #[.slice none 0 0] 72)).alloc (.cells #[.int .i64 0] 54)).alloc (.cells #[.slice none 0 0] 72)).alloc (.cells #[.string s] 9)) w.heap.size 72 (.slice none 0 0):=(((Boxed.new w 72 (.slice none 0 0)).alloc _).alloc _).alloc _
 have bE:=((Boxed.new (w.alloc (.cells #[.slice none 0 0] 72)) 54 (.int .i64 0)).alloc (.cells #[.slice none 0 0] 72)).alloc (.cells #[.string s] 9)
 have bL:=(Boxed.new ((w.alloc (.cells #[.slice none 0 0] 72)).alloc (.cells #[.int .i64 0] 54)) 72 (.slice none 0 0)).alloc (.cells #[.string s] 9)
 have bS:=Boxed.new (((w.alloc (.cells #[.slice none 0 0] 72)).alloc (.cells #[.int .i64 0] 54)).alloc (.cells #[.slice none 0 0] 72)) 9 (.string s)
 simp only [World.size_alloc] at bE bL bS
 have hB0:Below w.heap.size w ((((w.alloc (.cells #[.slice none 0 0] 72)).alloc (.cells #[.int .i64 0] 54)).alloc (.cells #[.slice none 0 0] 72)).alloc (.cells #[.string s] 9)):=aS (aS (aS (aS (Below.refl _ _) _) _) _) _
 have hsz:((((w.alloc (.cells #[.slice none 0 0] 72)).alloc (.cells #[.int .i64 0] 54)).alloc (.cells #[.slice none 0 0] 72)).alloc (.cells #[.string s] 9)).heap.size=w.heap.size+4:=by simp
 obtain ⟨W0,hW0⟩:∃W0,(((w.alloc (.cells #[.slice none 0 0] 72)).alloc (.cells #[.int .i64 0] 54)).alloc (.cells #[.slice none 0 0] 72)).alloc (.cells #[.string s] 9)=W0:=⟨_,rfl⟩
 rw [hW0] at bR bE bL bS hB0 hsz ⊢
 clear hW0
 obtain ⟨E,hE⟩:=eqx (evs 41 0 s.data.toList)
 have HE:=Lh hE
 have HF:Hid (fold [] E=R):=Lh (by rw [hE];exact HH.out)
 clear hE HH
 obtain ⟨i0,hi,hz0,hz1,hz2⟩:=info_parts info24
 have HI:=Lh hi
 have HZ0:=Lh hz0
 have HZ1:=Lh hz1
 have HZ2:=Lh hz2
 clear hi hz0 hz1 hz2
 have m0:Mid w s [] W0:=⟨⟨_,bL,World.ownsRow_nil _ _ _ _,trivial⟩,⟨⟨bR,bE⟩,bS⟩,hB0,fun e he=>by simp at he⟩
 have hcs:=bS.cell
 refine wpIn_rangeFunc_ownH (α:=Ev) (F:=Fence.wide) (n:=8) rfl (by decide) (gf:=162) (lb:=#[.pointer (some ⟨w.heap.size+1+1+1,0,none⟩)]) rfl trivial (enters_of Tryz.func162 (by kernel_rfl) rfl)
  (encs:=encs) (Kp:=Kpt (w.heap.size+1+1+1)) (S:=fun xs=>xs=E) (Sp:=fun pre=>pre <+:E) (N:=41) (w0:=W0)
  (fun l J Jx W hW hJ hJx hY h0=>by
   rw [HE.out]
   exact items1_in 6 l (w.heap.size+1+1+1) s hs J Jx W (fun pre V V' h g=>hJ pre V V' none h g (fun r e=>by cases e)) (fun pre V V' h g=>hJx pre V V' none h g (fun r e=>by cases e)) hY ((hW.cell (p:=⟨w.heap.size+1+1+1,0,none⟩) (by simp;omega)).trans hcs) h0)
  (fun h k=>k.trans h) (fun W l o o' hl _ _ _=>World.putObj_heap_other (by omega)) (Below.refl _ _) (fun _=>rfl)
  (Mid w s) (Out w) (mid_own w s _ (by omega)) (fun c=>out_own w c _ (by omega)) m0
  (fun x a' W=>∃Bx,w.heap.size+3 < Bx∧Blk W Bx 53 #[.int .i64 x.1.1,.string x.1.2]∧Blk W (Bx+1) 158 #[.int .i64 x.2.1,.int .i64 x.2.2]∧a'={ tmps:=#[Value.string s,undef,Value.pointer (some { block:=w.heap.size,off:=0 }),Value.pointer (some { block:=w.heap.size+1,off:=0 }),Value.pointer (some { block:=w.heap.size+1+1,off:=0 }),.pointer (some ⟨Bx,0,none⟩),.pointer (some ⟨Bx+1,0,none⟩),Value.string s,Value.int IntKind.i64 ↑s.size,Value.bool (decide ((40:Int) < ↑s.size)),Value.string s,Value.int IntKind.i64 ↑s.size,Value.int IntKind.i64 (↑s.size%4),Value.bool false,Value.string s,Value.func (Fn.func 162) #[] #[Value.pointer (some { block:=w.heap.size+1+1+1,off:=0 })],.agg #[.int .i64 x.1.1,.string x.1.2],.agg #[.int .i64 x.2.1,.int .i64 x.2.2],undef,undef,undef,undef,undef,undef,undef,undef,undef,undef,undef,undef,undef,undef,undef,undef,undef,undef,undef],defers:=[] })
  (fun x a' _ X Y row hs' hg hr=>by obtain ⟨Bx,h1,h2,h3,h4⟩:=hs';exact ⟨Bx,h1,blk_own h2 hg hr,blk_own h3 hg hr,h4⟩)
  ?assign ?body ?done ?stop
 case assign=>
  clear bR bE bL bS hB0 m0 hcs
  rintro l pre x W K hi hK
  obtain ⟨⟨k,b⟩,c,n⟩:=x
  have HM:=Lh hi
  have HK:=Lh hK
  have hlt:w.heap.size+3 < W.heap.size:=hi.2.1.2.lt
  clear hi hK
  gi_wp2
  refine HK.out _ _ (((KeepsOthers.alloc _ _).trans (KeepsOthers.alloc _ _)).from _) ?_ ((HM.out.alloc _).alloc _) ⟨W.heap.size,hlt,(Blk.new W _ _).alloc _,?_,rfl⟩
  ·exact Kpt.of HM.out.2.1.2 ((HM.out.2.1.2.alloc _).alloc _)
  ·have:=Blk.new (W.alloc (.cells #[.int .i64 k,.string b] 53)) 158 #[.int .i64 c,.int .i64 n]
   rwa [World.size_alloc] at this
 case body=>
  clear bR bE bL bS hB0 m0 hcs
  rintro l pre x a' W hl ⟨r,hr⟩ hi ⟨Bx,hBx,bX,bY,rfl⟩ hlt
  obtain ⟨⟨k,b⟩,c,n⟩:=x
  simp only at bX bY ⊢
  have x0:=bX.cell 0
  have x1:=bX.cell 1
  have y0:=bY.cell 0
  have y1:=bY.cell 1
  have HM:=Lh hi
  have HX:=Lh bX
  have HY:=Lh bY
  have HR:=Lh hr
  obtain ⟨⟨v,bL,hO,_⟩,⟨⟨bR,bE⟩,bS⟩,hB,hC⟩:=hi
  have HO:=Lh hO
  have HB:=Lh hB
  have HC:=Lh hC
  have HL:=Lh bL
  have HS:=Lh bS
  have hsl:=sel_length pre
  have hlt':W.heap.size≥w.heap.size:=hB.size
  clear bX bY hr hO hB hC
  by_cases hf:c=0∧n=0
  ·obtain ⟨rfl,rfl⟩:=hf
   by_cases hk0:k=0
   ·subst hk0
    gi_wp2
    exact ⟨KeepsFrom.refl _ _,⟨v,bL,by rw [List.dropLast_concat];exact HO.out,trivial⟩,⟨bR,bE⟩,HB.out,rfl,pre,_,rfl,HC.out,rfl,rfl⟩
   ·have kb:(k==0)=false:=by simpa using hk0
    by_cases hk1:k=1
    ·subst hk1
     gi_wp2
     exact ⟨KeepsFrom.refl _ _,rfl,⟨v,bL,by rw [sel_skip _ _ rfl];exact HO.out,trivial⟩,⟨⟨bR,bE⟩,bS⟩,HB.out,HC.out.snoc rfl hk0⟩
    ·have kb1:(k !=1)=true:=by simpa using hk1
     have cL:=bL.cell
     have hn24:Hid (((sel pre).length+1) * 24≤140737488355328):=Lh (by omega)
     have HRE:=Lh (And.intro bR bE)
     clear bR bE
     gi_wp2_with (gi_at_builtin;refine wpListIn_append_own _ rfl _ _ 72 rfl w.heap.size 53 i0 (.agg #[.int .i64 0,.string ⟨#[]⟩]) 2 24 Tryz.underlying72 HI.out HZ0.out HZ1.out HZ2.out rfl (by decide) _ _ _ rfl (HO.out.alloc _) ⟨W.heap.size,0,none⟩ 1 1 [.int .i64 k,.string b] rfl rfl (World.news_of_block (cs:=#[.int .i64 k,.string b]) (t:=53) (fr:=(0,0)) (heap_alloc_new _ _)) (by simp [Value.oneCell']) (by unfold maxLen;omega) hn24.out (by simp;omega) ?_;intro v' w1 hown' hgrow _;obtain ⟨g',cap',rfl⟩:=ownsRow_succ hown';have HA:=Lh (Boxed.appended HL.out (by decide) HO.out hlt' (by omega) hown' hgrow);have hc1:=HA.out.1.cell;have hf1:=HA.out.1.frozen;have HG:=Lh hgrow;clear hown' hgrow)
     have hkr:Boxed w1 (w.heap.size+1+1+1) 9 (.string s):=(HS.out.alloc _).kept HG.out (HS.out.not_row (by decide) HO.out)
     have hke:Boxed w1 (w.heap.size+1) 54 (.int .i64 0):=(HRE.out.2.alloc _).kept HG.out (HRE.out.2.not_row (by decide) HO.out)
     have hkl:Boxed w1 w.heap.size 72 (.slice none 0 0):=(HRE.out.1.alloc _).kept HG.out (HRE.out.1.not_row (by decide) HO.out)
     obtain ⟨q1,q2,q3,q4,q5⟩:=HA.out
     have hS2:=hkr.other (B':=w.heap.size+1+1) (by omega) (.slice (some ⟨g',0,none⟩) ((sel pre).length+1) cap')
     exact ⟨q4.from _,Kpt.of HS.out hS2,⟨_,q2,by rw [sel_snoc _ _ hk1,jX,List.length_append];exact q3,trivial⟩,⟨⟨hkl.other (by omega) _,hke.other (by omega) _⟩,hS2⟩,HB.out.trans q5,HC.out.snoc rfl hk0⟩
  ·have e0:=bR.cell
   have e1:=bE.cell
   have f0:=bR.frozen
   have f1:=bE.frozen
   have fo:Tryz.prog.follows Departure.mixedOrders=true:=by kernel_rfl
   have hne:((k,b),c,n).2≠(0,0):=fun e=>hf (by simpa using e)
   have HN:=Lh hne
   clear hne bS bL
   by_cases hc0:c=0
   ·subst hc0
    have hn0:¬n=0:=fun e=>hf ⟨rfl,e⟩
    clear hf
    gi_wp2
    gi_region_o
    all_goals gi_wp2
    all_goals exact out_ret ((k,b),0,n) HM.out HN.out _
   ·clear hf
    gi_wp2
    gi_region_o
    all_goals gi_wp2
    all_goals exact out_ret ((k,b),c,n) HM.out HN.out _
 case done=>
  clear bR bE bL bS hB0 m0 hcs
  rintro D xs W hD hxs hi hK
  have HM:=Lh hi
  have HK:=Lh hK
  have HXS:=Lh hxs
  obtain ⟨⟨v,bL,hO,_⟩,⟨⟨bR,bE⟩,bS⟩,hB,hC⟩:=hi
  obtain ⟨vp,vc,rfl⟩:=own_slice hO
  have cL:=bL.cell
  have c0:=bR.cell
  have f0:=bR.frozen
  have c1:=bE.cell
  have f1:=bE.frozen
  clear bL hO bR bE bS hB hC hK hxs
  gi_wp2
  obtain ⟨⟨v,bL,hO,_⟩,⟨⟨bR,bE⟩,bS⟩,hB,hC⟩:=HM.out
  have ev:=Option.some.inj (cL.symm.trans bL.cell)
  subst ev
  have er:R=(sel xs,0):=by
   have:=kF xs [] [] hC
   rw [List.append_nil,HXS.out,HF.out] at this
   rw [this,←HXS.out];rfl
  exact finish_set w W D _ (sel xs) R er (by omega) bR bE hO hB HK.out _ rfl rfl
 case stop=>
  clear bR bE bL bS hB0 m0 hcs
  rintro D c pre W hD hSp hx hK
  have HM:=Lh hx
  have HK:=Lh hK
  have HSP:=Lh hSp
  obtain ⟨⟨v,bL,hO,_⟩,⟨bR,bE⟩,hB,hC⟩:=hx
  clear hK hSp
  cases c with
  | ret=>
   obtain ⟨p,x,rfl,hp,hx⟩:=hC
   have er:R=([],x.2.1):=by
    obtain ⟨t,ht⟩:=HSP.out
    have:=kF p [] (x::t) hp
    rw [show p++x::t=E by rw [←ht];simp,HF.out] at this
    rw [this,fold,if_pos hx]
   have e1:errOf .ret (p++[x])= .int .i64 x.2.1:=by simp [errOf]
   rw [e1] at bE
   have HBR:=Lh bR
   have HBE:=Lh bE
   have HB:=Lh hB
   have HER:=Lh er
   clear bR bE hB er hO bL e1 hx hp
   gi_wp2
   exact finish w W D _ x.2.1 [] R HER.out (by omega) HBR.out HBE.out (World.ownsRow_nil _ _ _ _) HB.out HK.out _ rfl rfl
  | exit id=>
   obtain ⟨rfl,p,x,rfl,hp,hx,hx0⟩:=hC
   rw [List.dropLast_concat] at hO
   have er:R=(sel p,0):=by
    obtain ⟨t,ht⟩:=HSP.out
    have:=kF p [] (x::t) hp
    rw [show p++x::t=E by rw [←ht];simp,HF.out] at this
    rw [this,fold,if_neg (by simp [hx]),if_pos hx0];rfl
   obtain ⟨vp,vc,rfl⟩:=own_slice hO
   have cL:=bL.cell
   have c0:=bR.cell
   have f0:=bR.frozen
   have c1:W.cell? ⟨w.heap.size+1,0,none⟩=some (.int .i64 0):=bE.cell
   have f1:=bE.frozen
   have HO:=Lh hO
   have HBR:=Lh bR
   have HBE:=Lh bE
   have HB:=Lh hB
   have HER:=Lh er
   clear bR bE hB er hO bL hx hp hx0 HM
   gi_wp2
   exact finish_set w W D _ (sel p) R HER.out (by omega) HBR.out HBE.out HO.out HB.out HK.out _ rfl rfl
  | _=>exact hC.elim
theorem Walk_any (s:ByteArray) (R:List It×Int) (w:World) (hs:s.size≤140737488355328) (h:read s=R):Calls Tryz.prog 49 #[.string s] w (uJ R w):=by
 by_cases hc:40 < s.size∨s.size%4≠0
 ·obtain ⟨c,hr⟩:∃c,read s=([],c):=by
   unfold read
   by_cases h40:40 < s.size
   ·rw [if_pos h40];exact ⟨_,rfl⟩
   ·rw [if_neg h40,if_pos (by omega)];exact ⟨_,rfl⟩
  rw [←h,hr];exact Walk_bad s c w hs hr hc
 ·refine callsIn_wide.1 (Walk_in s R w (by omega) (by omega) ?_)
  rw [vI,←read_ok s (by omega) (by omega),h]
end Go.Proofs.YtnlhhjhidkjlbaaGreatDoor.L4
