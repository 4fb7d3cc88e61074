/- AllCap. -/
import Derived.Test.YtnlhhjhidkjlbaaGreatDoorAllBase
import Derived.Laws.Tables
import Derived.Laws.Rows
import Derived.Laws.CopyOwn
import Derived.Deep.RegionHeld3
import Derived.StillTailTactics
set_option maxHeartbeats 4000000
set_option maxRecDepth 100000
set_option linter.unusedVariables false
set_option linter.unusedSimpArgs false
namespace Go.Proofs.YtnlhhjhidkjlbaaGreatDoor.L9
structure Cap where
 form:Int
 ver:Int
 sums:Bool
 alone:Bool
 own:Nat
 peer:Nat
 len:Int
 sum:Nat
namespace Cap
structure Ok (x:Cap):Prop where
 form: -9223372036854775808≤x.form∧x.form≤9223372036854775807
 ver: -9223372036854775808≤x.ver∧x.ver≤9223372036854775807
 len: -9223372036854775808≤x.len∧x.len≤9223372036854775807
 own:x.own≤18446744073709551615
 peer:x.peer≤18446744073709551615
 sum:x.sum≤65535
abbrev May (x:Cap):Prop:=(0≤x.form∧x.form < 5)∧(0≤x.ver∧x.ver≤15)∧(0≤x.len∧x.len≤65535)∧(x.form < 1→x.own=0)∧(x.form < 2→x.peer=0)∧(x.form < 3→x.len=0)∧(x.form < 4→x.sum=0)
def flags (x:Cap):Nat:=1+(if x.sums then 128 else 0)+(if x.alone then 32 else 0)
def all (x:Cap):List UInt8:=be 1 x.ver.toNat++be 1 x.flags++be 8 x.own++be 8 x.peer++be 2 x.len.toNat++be 2 x.sum
def size (f:Int):Nat:=if f=0 then 2 else if f=1 then 10 else (14+2 * f).toNat
def body (x:Cap):List UInt8:=x.all.take (size x.form)
def zero:Cap:=⟨0,0,false,false,0,0,0,0⟩
def enc (x:Cap):ByteArray×Int:=if x.May then (txt x.body,0) else (txt [],2)
theorem zI (x:Cap):x.flags < 256:=by unfold flags;split<;>split<;>omega
theorem jT:zero.Ok:=⟨by decide,by decide,by decide,by decide,by decide,by decide⟩
end Cap
def jD (n:Nat):Option Nat:=if n=2 then some 0 else if n=10 then some 1 else if n=18 then some 2 else if n=20 then some 3 else if n=22 then some 4 else none
def got (f:Nat) (s:ByteArray):Cap:=⟨(f:Int),(byteAt s 0:Int),decide (128≤byteAt s 1),decide (byteAt s 1 / 32%2=1),num s 2 8,num s 10 8,(num s 18 2:Int),num s 20 2⟩
def dec (s:ByteArray):Cap×Int:=
 if s.size=0 then (.zero,4) else if 16≤byteAt s 0 then (.zero,7) else match jD s.size with
  | none=>(.zero,5)
  | some f=>if byteAt s 1%2=0 then (.zero,2) else (got f s,0)
theorem qJ (n:Nat):(n=2∧jD n=some 0)∨(n=10∧jD n=some 1)∨(n=18∧jD n=some 2)∨(n=20∧jD n=some 3)∨(n=22∧jD n=some 4)∨((n≠2∧n≠10∧n≠18∧n≠20∧n≠22)∧jD n=none):=by
 unfold jD
 by_cases h2:n=2
 ·exact .inl ⟨h2,if_pos h2⟩
 by_cases h10:n=10
 ·exact .inr (.inl ⟨h10,by rw [if_neg h2,if_pos h10]⟩)
 by_cases h18:n=18
 ·exact .inr (.inr (.inl ⟨h18,by rw [if_neg h2,if_neg h10,if_pos h18]⟩))
 by_cases h20:n=20
 ·exact .inr (.inr (.inr (.inl ⟨h20,by rw [if_neg h2,if_neg h10,if_neg h18,if_pos h20]⟩)))
 by_cases h22:n=22
 ·exact .inr (.inr (.inr (.inr (.inl ⟨h22,by rw [if_neg h2,if_neg h10,if_neg h18,if_neg h20,if_pos h22]⟩))))
 ·exact .inr (.inr (.inr (.inr (.inr ⟨⟨h2,h10,h18,h20,h22⟩,by rw [if_neg h2,if_neg h10,if_neg h18,if_neg h20,if_neg h22]⟩))))
namespace Cap
def front (x:Cap):List UInt8:=be 1 x.ver.toNat++be 1 x.flags
theorem front_length (x:Cap):x.front.length=2:=by simp [front,aS]
theorem nP (x:Cap) (r:List UInt8):(x.front++r).drop 2=r:=by rw [List.drop_append_of_le_length (by rw [front_length];omega),List.drop_of_length_le (by rw [front_length];omega),List.nil_append]
theorem body0 (x:Cap) (h:x.form=0):x.body=x.front:=by
 unfold body size all;rw [if_pos h,←front]
 simp only [List.append_assoc]
 rw [List.take_append_of_le_length (by rw [front_length];omega),List.take_of_length_le (by rw [front_length];omega)]
theorem body1 (x:Cap) (h:x.form=1):x.body=x.front++be 8 x.own:=by
 unfold body size all;rw [if_neg (by omega),if_pos h,←front]
 have:(x.front++be 8 x.own).length=10:=by simp [front_length,aS]
 simp only [List.append_assoc] at this ⊢
 rw [←List.append_assoc,List.take_append_of_le_length (by simp [front_length,aS]),List.take_of_length_le (by simp [front_length,aS])]
theorem body2 (x:Cap) (h:x.form=2):x.body=x.front++be 8 x.own++be 8 x.peer:=by
 unfold body size all;rw [if_neg (by omega),if_neg (by omega),h,←front]
 rw [List.append_assoc _ (be 2 _) (be 2 _),List.take_append_of_le_length (by simp [front_length,aS]),List.take_of_length_le (by simp [front_length,aS])]
theorem body3 (x:Cap) (h:x.form=3):x.body=x.front++be 8 x.own++be 8 x.peer++be 2 x.len.toNat:=by
 unfold body size all;rw [if_neg (by omega),if_neg (by omega),h,←front]
 rw [List.take_append_of_le_length (by simp [front_length,aS]),List.take_of_length_le (by simp [front_length,aS])]
theorem body4 (x:Cap) (h:x.form=4):x.body=x.front++be 8 x.own++be 8 x.peer++be 2 x.len.toNat++be 2 x.sum:=by
 unfold body size all;rw [if_neg (by omega),if_neg (by omega),h,←front]
 rw [List.take_of_length_le (by simp [front_length,aS])]
theorem body_front (x:Cap) (h:0≤x.form) (h':x.form < 5):∃r,x.body=x.front++r:=by
 have:x.form=0∨x.form=1∨x.form=2∨x.form=3∨x.form=4:=by omega
 rcases this with h | h | h | h | h
 ·exact ⟨[],by rw [x.body0 h,List.append_nil]⟩
 ·exact ⟨_,x.body1 h⟩
 ·exact ⟨_,by rw [x.body2 h,List.append_assoc]⟩
 ·exact ⟨_,by rw [x.body3 h,List.append_assoc,List.append_assoc]⟩
 ·exact ⟨_,by rw [x.body4 h,List.append_assoc,List.append_assoc,List.append_assoc]⟩
theorem jQ (x:Cap) (h:0≤x.form) (h':x.form < 5):x.body.length=size x.form:=by
 have:x.form=0∨x.form=1∨x.form=2∨x.form=3∨x.form=4:=by omega
 rcases this with h | h | h | h | h
 ·rw [x.body0 h,h,front_length];rfl
 ·rw [x.body1 h,h];simp [front_length,aS,size]
 ·rw [x.body2 h,h];simp [front_length,aS,size]
 ·rw [x.body3 h,h];simp [front_length,aS,size]
 ·rw [x.body4 h,h];simp [front_length,aS,size]
theorem size_form (f:Int) (h:0≤f) (h':f < 5):jD (size f)=some f.toNat:=by
 have:f=0∨f=1∨f=2∨f=3∨f=4:=by omega
 rcases this with h | h | h | h | h<;>subst h<;>rfl
theorem got_of (x:Cap) (hx:x.Ok) (hm:x.May) (c:Nat) (hc:c < 256) (h1:decide (128≤c)=x.sums) (h2:decide (c / 32%2=1)=x.alone):got x.form.toNat (txt (be 1 x.ver.toNat++be 1 c++x.body.drop 2))=x:=by
 obtain ⟨⟨f0,f5⟩,⟨v0,v15⟩,⟨l0,l6⟩,mo,mp,ml,ms⟩:=hm
 have hcases:x.form=0∨x.form=1∨x.form=2∨x.form=3∨x.form=4:=by omega
 have hfl:(be 1 x.ver.toNat++be 1 c).length=2:=by simp [aS]
 have b0:∀r,byteAt (txt (be 1 x.ver.toNat++be 1 c++r)) 0=x.ver.toNat:=fun r=>by
  have:=dY [] (be 1 c++r) 0 1 x.ver.toNat rfl
  rw [List.nil_append,←List.append_assoc,lN] at this
  rw [this];omega
 have b1:∀r,byteAt (txt (be 1 x.ver.toNat++be 1 c++r)) 1=c:=fun r=>by
  have:=dY (be 1 x.ver.toNat) r 1 1 c (by rw [aS])
  rw [lN] at this
  rw [this];omega
 have eo:=hx.own
 have ep:=hx.peer
 have es:=hx.sum
 obtain ⟨form,ver,sums,alone,own,peer,len,sum⟩:=x
 simp only [] at *
 unfold got
 rw [b0,b1,h1,h2]
 have fin:∀a b l s',a=own→b=peer→l=len.toNat→s'=sum→(⟨(form.toNat:Int),(ver.toNat:Int),sums,alone,a,b,(l:Int),s'⟩:Cap)=⟨form,ver,sums,alone,own,peer,len,sum⟩:=by
  intro a b l s' e1 e2 e3 e4
  subst e1;subst e2;subst e4
  have:(l:Int)=len:=by omega
  rw [this,show (form.toNat:Int)=form by omega,show (ver.toNat:Int)=ver by omega]
 have past:∀(L:List UInt8) k m,L.length≤k→num (txt L) k m=0:=fun L k m h=>zD _ _ (by rw [aU];exact h) m
 rcases hcases with h | h | h | h | h
 ·rw [body0 _ h,List.drop_of_length_le (by rw [front_length];omega),List.append_nil]
  exact fin _ _ _ _ (by rw [past _ _ _ (by omega),mo (by omega)]) (by rw [past _ _ _ (by omega),mp (by omega)]) (by rw [past _ _ _ (by omega),ml (by omega)];rfl) (by rw [past _ _ _ (by omega),ms (by omega)])
 ·rw [body1 _ h,nP]
  have n1:=dY (be 1 ver.toNat++be 1 c) [] 2 8 own hfl
  rw [List.append_nil] at n1
  exact fin _ _ _ _ (by rw [n1];omega) (by rw [past _ _ _ (by simp [aS]),mp (by omega)]) (by rw [past _ _ _ (by simp [aS]),ml (by omega)];rfl) (by rw [past _ _ _ (by simp [aS]),ms (by omega)])
 ·rw [body2 _ h]
  simp only [List.append_assoc (front _)]
  rw [nP]
  have n1:=dY (be 1 ver.toNat++be 1 c) (be 8 peer) 2 8 own hfl
  have n2:=dY (be 1 ver.toNat++be 1 c++be 8 own) [] 10 8 peer (by simp [aS])
  rw [List.append_nil] at n2
  simp only [List.append_assoc] at n1 n2 ⊢
  exact fin _ _ _ _ (by rw [n1];omega) (by rw [n2];omega) (by rw [past _ _ _ (by simp [aS]),ml (by omega)];rfl) (by rw [past _ _ _ (by simp [aS]),ms (by omega)])
 ·rw [body3 _ h]
  simp only [List.append_assoc (front _)]
  rw [nP]
  have n1:=dY (be 1 ver.toNat++be 1 c) (be 8 peer++be 2 len.toNat) 2 8 own hfl
  have n2:=dY (be 1 ver.toNat++be 1 c++be 8 own) (be 2 len.toNat) 10 8 peer (by simp [aS])
  have n3:=dY (be 1 ver.toNat++be 1 c++be 8 own++be 8 peer) [] 18 2 len.toNat (by simp [aS])
  rw [List.append_nil] at n3
  simp only [List.append_assoc] at n1 n2 n3 ⊢
  exact fin _ _ _ _ (by rw [n1];omega) (by rw [n2];omega) (by rw [n3];omega) (by rw [past _ _ _ (by simp [aS]),ms (by omega)])
 ·rw [body4 _ h]
  simp only [List.append_assoc (front _)]
  rw [nP]
  have n1:=dY (be 1 ver.toNat++be 1 c) (be 8 peer++be 2 len.toNat++be 2 sum) 2 8 own hfl
  have n2:=dY (be 1 ver.toNat++be 1 c++be 8 own) (be 2 len.toNat++be 2 sum) 10 8 peer (by simp [aS])
  have n3:=dY (be 1 ver.toNat++be 1 c++be 8 own++be 8 peer) (be 2 sum) 18 2 len.toNat (by simp [aS])
  have n4:=dY (be 1 ver.toNat++be 1 c++be 8 own++be 8 peer++be 2 len.toNat) [] 20 2 sum (by simp [aS])
  rw [List.append_nil] at n4
  simp only [List.append_assoc] at n1 n2 n3 n4 ⊢
  exact fin _ _ _ _ (by rw [n1];omega) (by rw [n2];omega) (by rw [n3];omega) (by rw [n4];omega)
theorem dec_of (x:Cap) (hx:x.Ok) (hm:x.May) (c:Nat) (hc:c < 256) (h0:c%2=1) (h1:decide (128≤c)=x.sums) (h2:decide (c / 32%2=1)=x.alone):dec (txt (be 1 x.ver.toNat++be 1 c++x.body.drop 2))=(x,0):=by
 have g:=x.got_of hx hm c hc h1 h2
 obtain ⟨⟨f0,f5⟩,⟨v0,v15⟩,_⟩:=hm
 have hsz:(txt (be 1 x.ver.toNat++be 1 c++x.body.drop 2)).size=size x.form:=by
  have hb:=x.jQ f0 f5
  obtain ⟨r,hr⟩:=x.body_front f0 f5
  have hr2:=congrArg List.length hr
  rw [List.length_append,front_length] at hr2
  rw [aU,List.length_append,List.length_append,aS,aS,List.length_drop]
  omega
 have b0:byteAt (txt (be 1 x.ver.toNat++be 1 c++x.body.drop 2)) 0=x.ver.toNat:=by
  have:=dY [] (be 1 c++x.body.drop 2) 0 1 x.ver.toNat rfl
  rw [List.nil_append,←List.append_assoc,lN] at this
  rw [this];omega
 have b1:byteAt (txt (be 1 x.ver.toNat++be 1 c++x.body.drop 2)) 1=c:=by
  have:=dY (be 1 x.ver.toNat) (x.body.drop 2) 1 1 c (by rw [aS])
  rw [lN] at this
  rw [this];omega
 have hs0:size x.form≠0:=by unfold size;split;omega;split<;>omega
 unfold dec
 rw [hsz,if_neg hs0,b0,if_neg (by omega),size_form _ f0 f5]
 simp only []
 rw [b1,if_neg (by omega),g]
theorem flags_odd (x:Cap):x.flags%2=1:=by unfold flags;split<;>split<;>omega
theorem flags_sums (x:Cap):decide (128≤x.flags)=x.sums:=by obtain ⟨_,_,s,a,_,_,_,_⟩:=x;cases s<;>cases a<;>rfl
theorem flags_alone (x:Cap):decide (x.flags / 32%2=1)=x.alone:=by obtain ⟨_,_,s,a,_,_,_,_⟩:=x;cases s<;>cases a<;>simp [flags]
theorem uQ (x:Cap) (h:0≤x.form) (h':x.form < 5):x.body=be 1 x.ver.toNat++be 1 x.flags++x.body.drop 2:=by
 obtain ⟨r,hr⟩:=x.body_front h h'
 rw [hr,nP,front]
theorem oK (x:Cap) (hx:x.Ok) (hm:x.May):dec (txt x.body)=(x,0):=by
 have:=x.dec_of hx hm x.flags x.zI x.flags_odd x.flags_sums x.flags_alone
 rwa [←x.uQ hm.1.1 hm.1.2] at this
end Cap
open Go.ChangeShapes Go.WideShapes Go.ChangeAt Go.RowKit
abbrev bC (x:Cap):Array Value:=#[.int .i64 x.form,.int .i64 x.ver,.bool x.sums,.bool x.alone,.int .u64 (x.own:Int),.int .u64 (x.peer:Int),.int .i64 x.len,.int .u16 (x.sum:Int)]
theorem aX:(Tryz.prog.info? 25).map (·.size)=some 8:=by kernel_rfl
theorem iC (x:Cap):(bC x).all (·.oneCell')=true:=by simp [Value.oneCell']
theorem fits_any (n k:Nat) (hn:n≤18446744073709551615) (hk:k≤64) (w:World):
  Calls Tryz.prog 164 #[.int .u64 (n:Int),.int .i64 (k:Int)] w fun e w'=>e= .returned (.bool (decide (n / 2 ^ k=0)))∧w=w':=by
 go_enter Tryz.func164,Tryz.ntmps164
 go_wp2
 go_ret
 refine ⟨bT ?_,rfl⟩
 have e:((n:Int) / 2 ^ k)=((n / 2 ^ k:Nat):Int):=by norm_cast
 rw [e]
 by_cases h:n / 2 ^ k=0
 ·rw [h];rfl
 ·rw [decide_eq_false h,beq_eq_false_iff_ne];omega
theorem wG (n k:Nat) (b:Bool) (hn:n≤18446744073709551615) (hk:k≤64) (hb:decide (n / 2 ^ k=0)=b) (N K:Int) (hN:N=(n:Int)) (hK:K=(k:Int)) (w:World):
  Calls Tryz.prog 164 #[.int .u64 N,.int .i64 K] w fun e w'=>e= .returned (.bool b)∧w=w':=by subst hN hK hb;exact fits_any n k hn hk w
theorem flagsOf_any (x:Cap) (w:World):
  Calls Tryz.prog 111 #[.agg (bC x)] w (Rt w (.int .u64 (x.flags:Int))):=by
 obtain ⟨form,ver,sums,alone,own,peer,len,sum⟩:=x
 cases sums<;>cases alone
 all_goals
  go_enter Tryz.func111,Tryz.ntmps111
  go_wp2
  go_ret;exact ⟨mG (by simp [Cap.flags];try decide),(Below.refl _ _).alloc (Nat.le_refl _) _⟩
theorem put_0 (s:ByteArray) (n:Nat) (w:World):
  Calls Tryz.prog 110 #[.string s,.int .i64 0,.int .u64 (n:Int)] w (Rt w (.string s)):=by
 go_enter Tryz.func110,Tryz.ntmps110
 go_wp2
 go_ret;exact ⟨rfl,Below.refl _ _⟩
theorem put_1 (s:ByteArray) (n:Nat) (w:World) (hs:s.size≤9223372036854775000) (hn:n≤255):
  Calls Tryz.prog 110 #[.string s,.int .i64 1,.int .u64 (n:Int)] w (Rt w (.string (s++txt (be 1 n)))):=by
 have e:(n:Int)%256=(n:Int):=by omega
 go_enter Tryz.func110,Tryz.ntmps110
 go_wp2_with fail
 try rw [e]
 refine (eU s n w hs hn).mono ?_
 rintro e w' ⟨rfl,b⟩
 go_wp2
 go_ret;exact ⟨rfl,b⟩
theorem put_2 (s:ByteArray) (n:Nat) (w:World) (hs:s.size≤9223372036854775000) (hn:n≤65535):
  Calls Tryz.prog 110 #[.string s,.int .i64 2,.int .u64 (n:Int)] w (Rt w (.string (s++txt (be 2 n)))):=by
 have e:IntKind.u16.wrap (n:Int)=(n:Int):=by rw [IntKind.wrap_u16];omega
 go_enter Tryz.func110,Tryz.ntmps110
 go_wp2_with fail
 try rw [e]
 refine (xJ s n w hs hn).mono ?_
 rintro e w' ⟨rfl,b⟩
 go_wp2
 go_ret;exact ⟨rfl,b⟩
theorem put_8 (s:ByteArray) (n:Nat) (w:World) (hs:s.size≤9223372036854775000) (hn:n≤18446744073709551615):
  Calls Tryz.prog 110 #[.string s,.int .i64 8,.int .u64 (n:Int)] w (Rt w (.string (s++txt (be 8 n)))):=by
 go_enter Tryz.func110,Tryz.ntmps110
 go_wp2_with fail
 refine (wW s n w hs hn).mono ?_
 rintro e w' ⟨rfl,b⟩
 go_wp2
 go_ret;exact ⟨rfl,b⟩
theorem put_any (s:ByteArray) (m n:Nat) (w:World) (hs:s.size≤9223372036854775000) (hm:m=0∨m=1∨m=2∨m=8) (hn:n < 256 ^ m) (t:ByteArray) (ht:s++txt (be m n)=t):
  Calls Tryz.prog 110 #[.string s,.int .i64 (m:Int),.int .u64 (n:Int)] w (Rt w (.string t)):=by
 subst ht
 rcases hm with rfl | rfl | rfl | rfl
 ·have:=put_0 s n w
  rwa [show be 0 n=[] from rfl,qM]
 ·exact put_1 s n w hs (by omega)
 ·exact put_2 s n w hs (by omega)
 ·exact put_8 s n w hs (by omega)
def fA (f:Int):Nat:=if 1≤f∧f≤4 then 8 else 0
def dJ (f:Int):Nat:=if 2≤f∧f≤4 then 8 else 0
def fZ (f:Int):Nat:=if 3≤f∧f≤4 then 2 else 0
def gZ (f:Int):Nat:=if f=4 then 2 else 0
theorem c_own (f:Int):fA f=0∨fA f=1∨fA f=2∨fA f=8:=by unfold fA;split<;>omega
theorem c_peer (f:Int):dJ f=0∨dJ f=1∨dJ f=2∨dJ f=8:=by unfold dJ;split<;>omega
theorem c_len (f:Int):fZ f=0∨fZ f=1∨fZ f=2∨fZ f=8:=by unfold fZ;split<;>omega
theorem c_sum (f:Int):gZ f=0∨gZ f=1∨gZ f=2∨gZ f=8:=by unfold gZ;split<;>omega
abbrev xW (f:Int):Array Value:=#[.int .i64 (fA f:Int),.int .i64 (dJ f:Int),.int .i64 (fZ f:Int),.int .i64 (gZ f:Int)]
theorem jO:(Tryz.prog.info? 161).map (·.size)=some 4:=by kernel_rfl
theorem oG (f:Int) (w:World) (b:Bool) (tmps:Array Value) (W:World) (hW:W=(w.alloc (.cells (xW f) 161)).alloc (.cells (xW f) 161)) (ht:tmps.getD 2 undef= .pointer (some ⟨w.heap.size,0,none⟩)):
  (results Tryz.f109 tmps).run Tryz.prog W= .ok (.agg (xW f)) W:=by
 subst hW
 exact results_cell_row rfl _ _ w.heap.size 161 (xW f) (0,0) _ ht ((Blk.new w 161 (xW f)).alloc _) Tryz.underlying161 rfl jO
theorem nI (f:Int) (w:World):
  Calls Tryz.prog 109 #[.int .i64 f] w (Rt w (.agg (xW f))):=by
 have hb:Below w.heap.size w ((w.alloc (.cells (xW f) 161)).alloc (.cells (xW f) 161)):=((Below.refl _ w).alloc (Nat.le_refl _) _).alloc (by simp) _
 have HB:=Lh hb
 clear hb
 have cs:f=4∨f=3∨f=2∨f=1∨(¬f=4∧¬f=3∧¬f=2∧¬f=1):=by omega
 rcases cs with rfl | rfl | rfl | rfl | ⟨n4,n3,n2,n1⟩
 ·go_enter Tryz.func109,Tryz.ntmps109
  go_wp2_with fail
  exact bodyPost_ret (oG 4 w true _ _ rfl rfl) rfl ⟨rfl,HB.out⟩
 ·go_enter Tryz.func109,Tryz.ntmps109
  go_wp2_with fail
  exact bodyPost_ret (oG 3 w true _ _ rfl rfl) rfl ⟨rfl,HB.out⟩
 ·go_enter Tryz.func109,Tryz.ntmps109
  go_wp2_with fail
  exact bodyPost_ret (oG 2 w true _ _ rfl rfl) rfl ⟨rfl,HB.out⟩
 ·go_enter Tryz.func109,Tryz.ntmps109
  go_wp2_with fail
  exact bodyPost_ret (oG 1 w true _ _ rfl rfl) rfl ⟨rfl,HB.out⟩
 ·have z1:fA f=0:=by unfold fA;rw [if_neg (by omega)]
  have z2:dJ f=0:=by unfold dJ;rw [if_neg (by omega)]
  have z3:fZ f=0:=by unfold fZ;rw [if_neg (by omega)]
  have z4:gZ f=0:=by unfold gZ;rw [if_neg (by omega)]
  have hv:xW f=#[.int .i64 0,.int .i64 0,.int .i64 0,.int .i64 0]:=by simp [z1,z2,z3,z4]
  have HV:=Lh hv
  clear hv z1 z2 z3 z4
  go_enter Tryz.func109,Tryz.ntmps109
  go_wp2_with fail
  exact bodyPost_ret (oG f w true _ _ (by rw [HV.out]) rfl) rfl ⟨rfl,by have:=HB.out;rwa [HV.out] at this⟩
theorem fM (f:Int) (cs:Array Value) (hcs:xW f=cs) (w:World):
  Calls Tryz.prog 109 #[.int .i64 f] w (Rt w (.agg cs)):=by subst hcs;exact nI f w
def formV (n:Nat):Value:=match jD n with | some f=> .tuple #[.int .i64 (f:Int),.bool true] | none=> .tuple #[.int .i64 0,.bool false]
theorem formOf_any (n:Nat) (hn:n≤9223372036854775807) (w:World):
  Calls Tryz.prog 113 #[.int .i64 (n:Int)] w (Rt w (formV n)):=by
 go_enter Tryz.func113,Tryz.ntmps113
 go_wp2_with fail
 go_loopw [6] (fun i wr=>∃j:Nat,j≤5∧i= .int .i64 (j:Int)∧(∀k:Nat,k < j→n≠Cap.size (k:Int))∧Below w.heap.size w wr) (fun i _=>(5 - intOf i).toNat)
 case atStart=>exact ⟨0,by omega,rfl,fun k hk=>by omega,Below.refl _ _⟩
 case round=>
  obtain ⟨j,hj,rfl,hN,hB⟩:=hrel
  have HB:=Lh hB
  have HN:=Lh hN
  clear hB hN
  have cases6:j=0∨j=1∨j=2∨j=3∨j=4∨j=5:=by omega
  clear hj
  rcases cases6 with rfl | rfl | rfl | rfl | rfl | rfl
  ·by_cases hs:n=2
   ·have e0:((2:Int)==(n:Int))=true:=by rw [hs];rfl
    have HS:=Lh hs
    clear hs
    go_wp2_with fail
    refine (fM 0 #[.int .i64 0,.int .i64 0,.int .i64 0,.int .i64 0] rfl wr).mono ?_
    rintro e W ⟨rfl,b⟩
    have HBW:=Lh (HB.out.trans (b.mono HB.out.size))
    clear b
    go_wp2_with (refine wpList_store_row rfl 161 _ _ rfl W.heap.size #[.int .i64 0,.int .i64 0,.int .i64 0,.int .i64 0] rfl rfl 161 #[.int .i64 0,.int .i64 0,.int .i64 0,.int .i64 0] ?_ jO rfl (by simp [Value.oneCell']) ?_;exact heap_alloc_new W _;rw [World.setRow_alloc_new])
    go_ret2
    exact ⟨by rw [HS.out];rfl,HBW.out.alloc HBW.out.size _⟩
   ·have e0:((2:Int)==(n:Int))=false:=by rw [beq_eq_false_iff_ne];omega
    have HS:=Lh hs
    clear hs
    go_wp2_with fail
    refine (fM 0 #[.int .i64 0,.int .i64 0,.int .i64 0,.int .i64 0] rfl wr).mono ?_
    rintro e W ⟨rfl,b⟩
    have HBW:=Lh (HB.out.trans (b.mono HB.out.size))
    clear b
    go_wp2_with (refine wpList_store_row rfl 161 _ _ rfl W.heap.size #[.int .i64 0,.int .i64 0,.int .i64 0,.int .i64 0] rfl rfl 161 #[.int .i64 0,.int .i64 0,.int .i64 0,.int .i64 0] ?_ jO rfl (by simp [Value.oneCell']) ?_;exact heap_alloc_new W _;rw [World.setRow_alloc_new])
    go_roundw
    case rel=>exact ⟨1,by omega,by go_num,fun k hk=>by rcases (show k < 0∨k=0 by omega) with h | h;exact HN.out k h;subst h;exact fun e=>HS.out e,HBW.out.alloc HBW.out.size _⟩
    case measure=>simp [intOf]
  ·by_cases hs:n=10
   ·have e0:((10:Int)==(n:Int))=true:=by rw [hs];rfl
    have HS:=Lh hs
    clear hs
    go_wp2_with fail
    refine (fM 1 #[.int .i64 8,.int .i64 0,.int .i64 0,.int .i64 0] rfl wr).mono ?_
    rintro e W ⟨rfl,b⟩
    have HBW:=Lh (HB.out.trans (b.mono HB.out.size))
    clear b
    go_wp2_with (refine wpList_store_row rfl 161 _ _ rfl W.heap.size #[.int .i64 8,.int .i64 0,.int .i64 0,.int .i64 0] rfl rfl 161 #[.int .i64 0,.int .i64 0,.int .i64 0,.int .i64 0] ?_ jO rfl (by simp [Value.oneCell']) ?_;exact heap_alloc_new W _;rw [World.setRow_alloc_new])
    go_ret2
    exact ⟨by rw [HS.out];rfl,HBW.out.alloc HBW.out.size _⟩
   ·have e0:((10:Int)==(n:Int))=false:=by rw [beq_eq_false_iff_ne];omega
    have HS:=Lh hs
    clear hs
    go_wp2_with fail
    refine (fM 1 #[.int .i64 8,.int .i64 0,.int .i64 0,.int .i64 0] rfl wr).mono ?_
    rintro e W ⟨rfl,b⟩
    have HBW:=Lh (HB.out.trans (b.mono HB.out.size))
    clear b
    go_wp2_with (refine wpList_store_row rfl 161 _ _ rfl W.heap.size #[.int .i64 8,.int .i64 0,.int .i64 0,.int .i64 0] rfl rfl 161 #[.int .i64 0,.int .i64 0,.int .i64 0,.int .i64 0] ?_ jO rfl (by simp [Value.oneCell']) ?_;exact heap_alloc_new W _;rw [World.setRow_alloc_new])
    go_roundw
    case rel=>exact ⟨2,by omega,by go_num,fun k hk=>by rcases (show k < 1∨k=1 by omega) with h | h;exact HN.out k h;subst h;exact fun e=>HS.out e,HBW.out.alloc HBW.out.size _⟩
    case measure=>simp [intOf]
  ·by_cases hs:n=18
   ·have e0:((18:Int)==(n:Int))=true:=by rw [hs];rfl
    have HS:=Lh hs
    clear hs
    go_wp2_with fail
    refine (fM 2 #[.int .i64 8,.int .i64 8,.int .i64 0,.int .i64 0] rfl wr).mono ?_
    rintro e W ⟨rfl,b⟩
    have HBW:=Lh (HB.out.trans (b.mono HB.out.size))
    clear b
    go_wp2_with (refine wpList_store_row rfl 161 _ _ rfl W.heap.size #[.int .i64 8,.int .i64 8,.int .i64 0,.int .i64 0] rfl rfl 161 #[.int .i64 0,.int .i64 0,.int .i64 0,.int .i64 0] ?_ jO rfl (by simp [Value.oneCell']) ?_;exact heap_alloc_new W _;rw [World.setRow_alloc_new])
    go_ret2
    exact ⟨by rw [HS.out];rfl,HBW.out.alloc HBW.out.size _⟩
   ·have e0:((18:Int)==(n:Int))=false:=by rw [beq_eq_false_iff_ne];omega
    have HS:=Lh hs
    clear hs
    go_wp2_with fail
    refine (fM 2 #[.int .i64 8,.int .i64 8,.int .i64 0,.int .i64 0] rfl wr).mono ?_
    rintro e W ⟨rfl,b⟩
    have HBW:=Lh (HB.out.trans (b.mono HB.out.size))
    clear b
    go_wp2_with (refine wpList_store_row rfl 161 _ _ rfl W.heap.size #[.int .i64 8,.int .i64 8,.int .i64 0,.int .i64 0] rfl rfl 161 #[.int .i64 0,.int .i64 0,.int .i64 0,.int .i64 0] ?_ jO rfl (by simp [Value.oneCell']) ?_;exact heap_alloc_new W _;rw [World.setRow_alloc_new])
    go_roundw
    case rel=>exact ⟨3,by omega,by go_num,fun k hk=>by rcases (show k < 2∨k=2 by omega) with h | h;exact HN.out k h;subst h;exact fun e=>HS.out e,HBW.out.alloc HBW.out.size _⟩
    case measure=>simp [intOf]
  ·by_cases hs:n=20
   ·have e0:((20:Int)==(n:Int))=true:=by rw [hs];rfl
    have HS:=Lh hs
    clear hs
    go_wp2_with fail
    refine (fM 3 #[.int .i64 8,.int .i64 8,.int .i64 2,.int .i64 0] rfl wr).mono ?_
    rintro e W ⟨rfl,b⟩
    have HBW:=Lh (HB.out.trans (b.mono HB.out.size))
    clear b
    go_wp2_with (refine wpList_store_row rfl 161 _ _ rfl W.heap.size #[.int .i64 8,.int .i64 8,.int .i64 2,.int .i64 0] rfl rfl 161 #[.int .i64 0,.int .i64 0,.int .i64 0,.int .i64 0] ?_ jO rfl (by simp [Value.oneCell']) ?_;exact heap_alloc_new W _;rw [World.setRow_alloc_new])
    go_ret2
    exact ⟨by rw [HS.out];rfl,HBW.out.alloc HBW.out.size _⟩
   ·have e0:((20:Int)==(n:Int))=false:=by rw [beq_eq_false_iff_ne];omega
    have HS:=Lh hs
    clear hs
    go_wp2_with fail
    refine (fM 3 #[.int .i64 8,.int .i64 8,.int .i64 2,.int .i64 0] rfl wr).mono ?_
    rintro e W ⟨rfl,b⟩
    have HBW:=Lh (HB.out.trans (b.mono HB.out.size))
    clear b
    go_wp2_with (refine wpList_store_row rfl 161 _ _ rfl W.heap.size #[.int .i64 8,.int .i64 8,.int .i64 2,.int .i64 0] rfl rfl 161 #[.int .i64 0,.int .i64 0,.int .i64 0,.int .i64 0] ?_ jO rfl (by simp [Value.oneCell']) ?_;exact heap_alloc_new W _;rw [World.setRow_alloc_new])
    go_roundw
    case rel=>exact ⟨4,by omega,by go_num,fun k hk=>by rcases (show k < 3∨k=3 by omega) with h | h;exact HN.out k h;subst h;exact fun e=>HS.out e,HBW.out.alloc HBW.out.size _⟩
    case measure=>simp [intOf]
  ·by_cases hs:n=22
   ·have e0:((22:Int)==(n:Int))=true:=by rw [hs];rfl
    have HS:=Lh hs
    clear hs
    go_wp2_with fail
    refine (fM 4 #[.int .i64 8,.int .i64 8,.int .i64 2,.int .i64 2] rfl wr).mono ?_
    rintro e W ⟨rfl,b⟩
    have HBW:=Lh (HB.out.trans (b.mono HB.out.size))
    clear b
    go_wp2_with (refine wpList_store_row rfl 161 _ _ rfl W.heap.size #[.int .i64 8,.int .i64 8,.int .i64 2,.int .i64 2] rfl rfl 161 #[.int .i64 0,.int .i64 0,.int .i64 0,.int .i64 0] ?_ jO rfl (by simp [Value.oneCell']) ?_;exact heap_alloc_new W _;rw [World.setRow_alloc_new])
    go_ret2
    exact ⟨by rw [HS.out];rfl,HBW.out.alloc HBW.out.size _⟩
   ·have e0:((22:Int)==(n:Int))=false:=by rw [beq_eq_false_iff_ne];omega
    have HS:=Lh hs
    clear hs
    go_wp2_with fail
    refine (fM 4 #[.int .i64 8,.int .i64 8,.int .i64 2,.int .i64 2] rfl wr).mono ?_
    rintro e W ⟨rfl,b⟩
    have HBW:=Lh (HB.out.trans (b.mono HB.out.size))
    clear b
    go_wp2_with (refine wpList_store_row rfl 161 _ _ rfl W.heap.size #[.int .i64 8,.int .i64 8,.int .i64 2,.int .i64 2] rfl rfl 161 #[.int .i64 0,.int .i64 0,.int .i64 0,.int .i64 0] ?_ jO rfl (by simp [Value.oneCell']) ?_;exact heap_alloc_new W _;rw [World.setRow_alloc_new])
    go_roundw
    case rel=>exact ⟨5,by omega,by go_num,fun k hk=>by rcases (show k < 4∨k=4 by omega) with h | h;exact HN.out k h;subst h;exact fun e=>HS.out e,HBW.out.alloc HBW.out.size _⟩
    case measure=>simp [intOf]
  ·go_wp2_with fail
   go_ret2
   refine ⟨?_,HB.out⟩
   have h0:=HN.out 0 (by omega)
   have h1:=HN.out 1 (by omega)
   have h2:=HN.out 2 (by omega)
   have h3:=HN.out 3 (by omega)
   have h4:=HN.out 4 (by omega)
   rw [show Cap.size ((0:Nat):Int)=2 from rfl] at h0
   rw [show Cap.size ((1:Nat):Int)=10 from rfl] at h1
   rw [show Cap.size ((2:Nat):Int)=18 from rfl] at h2
   rw [show Cap.size ((3:Nat):Int)=20 from rfl] at h3
   rw [show Cap.size ((4:Nat):Int)=22 from rfl] at h4
   unfold formV jD
   rw [if_neg h0,if_neg h1,if_neg h2,if_neg h3,if_neg h4]
   rfl
open Go.ChangeShapes Go.WideShapes Go.ChangeAt Go.RowKit
def uns (z:Int):Nat:=(z%18446744073709551616).toNat
theorem uns_le (z:Int):uns z≤18446744073709551615:=by unfold uns;omega
theorem uns_of (z:Int):z%18446744073709551616=(uns z:Int):=by unfold uns;omega
theorem small (n k:Nat):n / 2 ^ k=0↔n < 2 ^ k:=by
 rw [Nat.div_eq_zero_iff]
 have:=Nat.two_pow_pos k
 omega
theorem may_fits (x:Cap) (hx:x.Ok):x.May↔(((((((0≤x.form)∧(x.form < 5))∧uns x.ver / 2 ^ 4=0)∧x.own / 2 ^ (8 * fA x.form)=0)∧x.peer / 2 ^ (8 * dJ x.form)=0)∧uns x.len / 2 ^ (8 * fZ x.form)=0)∧x.sum / 2 ^ (8 * gZ x.form)=0):=by
 simp only [small]
 by_cases hf:0≤x.form∧x.form < 5
 ·obtain ⟨form,ver,sums,alone,own,peer,len,sum⟩:=x
  obtain ⟨_,h1,h2,h3,h4,h5⟩:=hx
  simp only [Cap.May] at *
  obtain ⟨f0,f5⟩:=hf
  have:form=0∨form=1∨form=2∨form=3∨form=4:=by omega
  rcases this with rfl | rfl | rfl | rfl | rfl<;>simp only [fA,dJ,fZ,gZ,uns]<;>simp<;>omega
 ·constructor
  ·intro h;exact absurd h.1 hf
  ·intro h;exact absurd h.1.1.1.1.1 hf
theorem kOwn (f:Int):wrap64 (8 * (fA f:Int))=((8 * fA f:Nat):Int):=by unfold fA;split<;>kernel_rfl
theorem kPeer (f:Int):wrap64 (8 * (dJ f:Int))=((8 * dJ f:Nat):Int):=by unfold dJ;split<;>kernel_rfl
theorem kLen (f:Int):wrap64 (8 * (fZ f:Int))=((8 * fZ f:Nat):Int):=by unfold fZ;split<;>kernel_rfl
theorem kSum (f:Int):wrap64 (8 * (gZ f:Int))=((8 * gZ f:Nat):Int):=by unfold gZ;split<;>kernel_rfl
theorem wOwn_le (f:Int):8 * fA f≤64:=by unfold fA;split<;>omega
theorem wPeer_le (f:Int):8 * dJ f≤64:=by unfold dJ;split<;>omega
theorem wLen_le (f:Int):8 * fZ f≤64:=by unfold fZ;split<;>omega
theorem wSum_le (f:Int):8 * gZ f≤64:=by unfold gZ;split<;>omega
theorem gJ (x:Cap) (hx:x.Ok) (w:World):
  Calls Tryz.prog 108 #[.agg (bC x)] w (Rt w (.bool (decide x.May))):=by
 obtain ⟨M,hM⟩:=eqx (decide x.May)
 rw [←hM]
 obtain ⟨b1,hb1⟩:∃b,b=decide (uns x.ver / 2 ^ 4=0):=⟨_,rfl⟩
 obtain ⟨b2,hb2⟩:∃b,b=decide (x.own / 2 ^ (8 * fA x.form)=0):=⟨_,rfl⟩
 obtain ⟨b3,hb3⟩:∃b,b=decide (x.peer / 2 ^ (8 * dJ x.form)=0):=⟨_,rfl⟩
 obtain ⟨b4,hb4⟩:∃b,b=decide (uns x.len / 2 ^ (8 * fZ x.form)=0):=⟨_,rfl⟩
 obtain ⟨b5,hb5⟩:∃b,b=decide (x.sum / 2 ^ (8 * gZ x.form)=0):=⟨_,rfl⟩
 have hm:M=(decide (0≤x.form) && decide (x.form < 5) && b1 && b2 && b3 && b4 && b5):=by
  subst hb1 hb2 hb3 hb4 hb5
  rw [hM,Bool.eq_iff_iff]
  simp only [Bool.and_eq_true,decide_eq_true_eq]
  exact may_fits x hx
 have HX:=Lh hx
 have HM:=Lh hm
 have H1:=Lh hb1.symm
 have H2:=Lh hb2.symm
 have H3:=Lh hb3.symm
 have H4:=Lh hb4.symm
 have H5:=Lh hb5.symm
 clear hx hM hm hb1 hb2 hb3 hb4 hb5
 go_enter Tryz.func108,Tryz.ntmps108
 go_wp2_with fail
 refine (nI x.form _).mono ?_
 rintro e W ⟨rfl,b⟩
 have HB:=Lh (((Below.refl _ w).alloc (Nat.le_refl _) (.cells (bC x) 25)).trans (b.mono (by simp)))
 have hc:=(Blk.new w 25 (bC x)).below b (by simp)
 clear b
 obtain ⟨W2,hW2⟩:=eqx (W.alloc (.cells #[.int .i64 (fA x.form:Int),.int .i64 (dJ x.form:Int),.int .i64 (fZ x.form:Int),.int .i64 (gZ x.form:Int)] 161))
 have HC:=Lh (show Blk W2 w.heap.size 25 (bC x) by rw [hW2];exact hc.alloc _)
 have HV:=Lh (show Blk W2 W.heap.size 161 (xW x.form) by rw [hW2];exact Blk.new _ _ _)
 have HB2:=Lh (show Below w.heap.size w W2 by rw [hW2];exact HB.out.alloc HB.out.size _)
 have HW2:=Lh hW2
 clear hW2 hc
 have c0:=HC.out.cell 0
 have c1:=HC.out.cell 1
 have c4:=HC.out.cell 4
 have c5:=HC.out.cell 5
 have c6:=HC.out.cell 6
 have c7:=HC.out.cell 7
 have v0:=HV.out.cell 0
 have v1:=HV.out.cell 1
 have v2:=HV.out.cell 2
 have v3:=HV.out.cell 3
 simp only [List.getElem?_toArray,List.getElem?_cons_zero,List.getElem?_cons_succ] at c0 c1 c4 c5 c6 c7 v0 v1 v2 v3
 have a0:=c0
 have a1:=c1
 rw [HW2.out] at a0 a1
 by_cases h0:0≤x.form
 ·by_cases h5:x.form < 5
  ·go_wp2_with fail
   rw [←HW2.out]
   clear a0 a1
   refine (wG (uns x.ver) 4 b1 (uns_le _) (by decide) H1.out _ _ (uns_of _) rfl W2).mono ?_
   rintro e w' ⟨rfl,rfl⟩
   cases b1
   ·go_wp2_with fail
    go_ret;exact ⟨bT (by rw [HM.out];simp),HB2.out⟩
   go_wp2_with fail
   refine (wG x.own (8 * fA x.form) b2 HX.out.own (wOwn_le _) H2.out _ _ rfl (kOwn _) W2).mono ?_
   rintro e w' ⟨rfl,rfl⟩
   cases b2
   ·go_wp2_with fail
    go_ret;exact ⟨bT (by rw [HM.out];simp),HB2.out⟩
   go_wp2_with fail
   refine (wG x.peer (8 * dJ x.form) b3 HX.out.peer (wPeer_le _) H3.out _ _ rfl (kPeer _) W2).mono ?_
   rintro e w' ⟨rfl,rfl⟩
   cases b3
   ·go_wp2_with fail
    go_ret;exact ⟨bT (by rw [HM.out];simp),HB2.out⟩
   go_wp2_with fail
   refine (wG (uns x.len) (8 * fZ x.form) b4 (uns_le _) (wLen_le _) H4.out _ _ (uns_of _) (kLen _) W2).mono ?_
   rintro e w' ⟨rfl,rfl⟩
   cases b4
   ·go_wp2_with fail
    go_ret;exact ⟨bT (by rw [HM.out];simp),HB2.out⟩
   go_wp2_with fail
   refine (wG x.sum (8 * gZ x.form) b5 (by have:=HX.out.sum;omega) (wSum_le _) H5.out _ _ (by have:=HX.out.sum;rw [IntKind.wrap_u64];omega) (kSum _) W2).mono ?_
   rintro e w' ⟨rfl,rfl⟩
   cases b5
   ·go_wp2_with fail
    go_ret;exact ⟨bT (by rw [HM.out];simp),HB2.out⟩
   ·go_wp2_with fail
    go_ret;exact ⟨bT (by rw [HM.out];simp [h0,h5]),HB2.out⟩
  ·go_wp2_with fail
   rw [←HW2.out]
   go_ret;exact ⟨bT (by rw [HM.out,decide_eq_false (by omega:¬x.form < 5)];simp),HB2.out⟩
 ·go_wp2_with fail
  rw [←HW2.out]
  go_ret;exact ⟨bT (by rw [HM.out,decide_eq_false (by omega:¬0≤x.form)];simp),HB2.out⟩
theorem wX (s:ByteArray) (m n:Nat) (N M:Int) (w:World) (hs:s.size≤9223372036854775000) (hm:m=0∨m=1∨m=2∨m=8) (hn:n < 256 ^ m) (t:ByteArray) (ht:s++txt (be m n)=t) (hN:N=(n:Int)) (hM:M=(m:Int)):
  Calls Tryz.prog 110 #[.string s,.int .i64 M,.int .u64 N] w (Rt w (.string t)):=by
 subst hN hM;exact put_any s m n w hs hm hn t ht
def dC (x:Cap):Value:=.tuple #[.string x.enc.1,.int .i64 x.enc.2]
theorem iD (x:Cap) (h:x.May):dC x= .tuple #[.string (txt x.body),.int .i64 0]:=by unfold dC Cap.enc;rw [if_pos h]
theorem oM (x:Cap) (h:¬x.May):dC x= .tuple #[.string ⟨#[]⟩,.int .i64 2]:=by unfold dC Cap.enc;rw [if_neg h];rfl
theorem laid_body (x:Cap) (h:x.May):txt (be 1 x.ver.toNat)++txt (be 1 x.flags)++txt (be (fA x.form) x.own)++txt (be (dJ x.form) x.peer)++txt (be (fZ x.form) x.len.toNat)++txt (be (gZ x.form) x.sum)=txt x.body:=by
 obtain ⟨⟨f0,f5⟩,_⟩:=h
 have:x.form=0∨x.form=1∨x.form=2∨x.form=3∨x.form=4:=by omega
 simp only [dK]
 rcases this with h | h | h | h | h
 ·rw [x.body0 h,h];simp [fA,dJ,fZ,gZ,be,Cap.front]
 ·rw [x.body1 h,h];simp [fA,dJ,fZ,gZ,be,Cap.front]
 ·rw [x.body2 h,h];simp [fA,dJ,fZ,gZ,be,Cap.front]
 ·rw [x.body3 h,h];simp [fA,dJ,fZ,gZ,be,Cap.front]
 ·rw [x.body4 h,h];simp [fA,dJ,fZ,gZ,Cap.front]
theorem w_own (x:Cap) (hx:x.Ok) (h:x.May):x.own < 256 ^ fA x.form:=by
 have:=hx.own;obtain ⟨⟨f0,f5⟩,_,_,ho,_⟩:=h
 unfold fA;split
 ·omega
 ·rw [ho (by omega)];decide
theorem w_peer (x:Cap) (hx:x.Ok) (h:x.May):x.peer < 256 ^ dJ x.form:=by
 have:=hx.peer;obtain ⟨⟨f0,f5⟩,_,_,_,ho,_⟩:=h
 unfold dJ;split
 ·omega
 ·rw [ho (by omega)];decide
theorem w_len (x:Cap) (h:x.May):x.len.toNat < 256 ^ fZ x.form:=by
 obtain ⟨⟨f0,f5⟩,_,⟨l0,l1⟩,_,_,ho,_⟩:=h
 unfold fZ;split
 ·omega
 ·rw [ho (by omega)];decide
theorem w_sum (x:Cap) (hx:x.Ok) (h:x.May):x.sum < 256 ^ gZ x.form:=by
 have:=hx.sum;obtain ⟨⟨f0,f5⟩,_,_,_,_,_,ho⟩:=h
 unfold gZ;split
 ·omega
 ·rw [ho (by omega)];decide
theorem fU (x:Cap) (hx:x.Ok) (w:World):
  Calls Tryz.prog 54 #[.agg (bC x)] w (Rt w (dC x)):=by
 have HX:=Lh hx
 clear hx
 obtain ⟨V,hV⟩:=eqx (dC x)
 rw [←hV]
 have HC:=Lh (Blk.new w 25 (bC x))
 have HB:=Lh ((Below.refl _ w).alloc (Nat.le_refl _) (.cells (bC x) 25))
 have hlt:w.heap.size < (w.alloc (.cells (bC x) 25)).heap.size:=by simp
 have HL:=Lh hlt
 clear hlt
 by_cases hm:x.May
 ·rw [iD x hm,←laid_body x hm] at hV
  have HVV:=Lh hV
  have HM:=Lh hm
  clear hV hm
  go_enter Tryz.func54,Tryz.ntmps54
  go_wp2_with (refine wpList_load_row rfl 25 _ rfl w.heap.size rfl 25 (bC x) (0,0) _ ?_ Tryz.underlying25 rfl aX ?_;exact HC.out)
  refine (gJ x HX.out _).mono ?_
  rintro e W0 ⟨rfl,b⟩
  rw [decide_eq_true HM.out]
  have HC0:=Lh (HC.out.below b HL.out)
  have HB0:=Lh (HB.out.trans (b.mono HB.out.size))
  have c0:=HC0.out.cell 0
  simp only [List.getElem?_toArray,List.getElem?_cons_zero] at c0
  clear b
  go_wp2_with fail
  refine (nI x.form W0).mono ?_
  rintro e W1 ⟨rfl,b⟩
  have HC1:=Lh (HC0.out.below b HC0.out.lt)
  have HB1:=Lh (HB0.out.trans (b.mono HB0.out.size))
  clear b c0
  obtain ⟨W2,hW2⟩:=eqx (W1.alloc (.cells #[.int .i64 (fA x.form:Int),.int .i64 (dJ x.form:Int),.int .i64 (fZ x.form:Int),.int .i64 (gZ x.form:Int)] 161))
  obtain ⟨g,hg⟩:=eqx W1.heap.size
  have HC2:=Lh (show Blk W2 w.heap.size 25 (bC x) by rw [hW2];exact HC1.out.alloc _)
  have HV2:=Lh (show Blk W2 g 161 (xW x.form) by rw [hW2,hg];exact Blk.new _ _ _)
  have HB2:=Lh (show Below w.heap.size w W2 by rw [hW2];exact HB1.out.alloc HB1.out.size _)
  have HW2:=Lh hW2
  have HG:=Lh hg
  clear hW2 hg
  have c1:=HC2.out.cell 1
  simp only [List.getElem?_toArray,List.getElem?_cons_zero,List.getElem?_cons_succ] at c1
  rw [HW2.out] at c1
  go_wp2_with fail
  rw [←HW2.out]
  clear c1
  rw [←HG.out]
  obtain ⟨T1,hT1⟩:∃T,T=txt (be 1 x.ver.toNat):=⟨_,rfl⟩
  have HT1:=Lh hT1
  have HS1:=Lh (show T1.size≤100 by rw [hT1,aU,aS];omega)
  clear hT1
  refine (wX _ 1 x.ver.toNat _ _ W2 (by decide) (by omega) (by have:=HM.out.2.1;omega) T1 (by rw [HT1.out];exact (dK [] _)) ?N1 rfl).mono ?_
  case N1=>have:=HM.out.2.1;simp only [IntKind.wrap_u64];omega
  rintro e W3 ⟨rfl,b⟩
  have HC3:=Lh (HC2.out.below b HC2.out.lt)
  have HV3:=Lh (HV2.out.below b HV2.out.lt)
  have HB3:=Lh (HB2.out.trans (b.mono HB2.out.size))
  clear b
  go_wp2_with (refine wpList_load_row rfl 25 _ rfl w.heap.size rfl 25 (bC x) (0,0) _ ?_ Tryz.underlying25 rfl aX ?_;exact HC3.out)
  refine (flagsOf_any x W3).mono ?_
  rintro e W4 ⟨rfl,b⟩
  have HC4:=Lh (HC3.out.below b HC3.out.lt)
  have HV4:=Lh (HV3.out.below b HV3.out.lt)
  have HB4:=Lh (HB3.out.trans (b.mono HB3.out.size))
  clear b
  go_wp2_with fail
  obtain ⟨T2,hT2⟩:∃T,T=T1++txt (be 1 x.flags):=⟨_,rfl⟩
  have HT2:=Lh hT2
  have HS2:=Lh (show T2.size≤200 by have:=HS1.out;rw [hT2,ByteArray.size_append,aU,aS];omega)
  clear hT2
  refine (wX T1 1 (x.flags) _ _ W4 (by have:=HS1.out;omega) (by omega) (by have:=x.zI;omega) T2 HT2.out.symm ?N2 rfl).mono ?_
  case N2=>rfl
  rintro e W5 ⟨rfl,b⟩
  have HC5:=Lh (HC4.out.below b HC4.out.lt)
  have HV5:=Lh (HV4.out.below b HV4.out.lt)
  have HB5:=Lh (HB4.out.trans (b.mono HB4.out.size))
  clear b
  have v0:=HV5.out.cell 0
  have c4:=HC5.out.cell 4
  simp only [List.getElem?_toArray,List.getElem?_cons_zero,List.getElem?_cons_succ] at v0 c4
  go_wp2_with fail
  clear v0 c4
  obtain ⟨T3,hT3⟩:∃T,T=T2++txt (be (fA x.form) x.own):=⟨_,rfl⟩
  have HT3:=Lh hT3
  have HS3:=Lh (show T3.size≤300 by have:=HS2.out;rw [hT3,ByteArray.size_append,aU,aS];rcases c_own x.form with h | h | h | h<;>omega)
  clear hT3
  refine (wX T2 ((fA x.form)) (x.own) _ _ W5 (by have:=HS2.out;omega) (c_own x.form) (w_own x HX.out HM.out) T3 HT3.out.symm ?N3 rfl).mono ?_
  case N3=>rfl
  rintro e W6 ⟨rfl,b⟩
  have HC6:=Lh (HC5.out.below b HC5.out.lt)
  have HV6:=Lh (HV5.out.below b HV5.out.lt)
  have HB6:=Lh (HB5.out.trans (b.mono HB5.out.size))
  clear b
  have v1:=HV6.out.cell 1
  have c5:=HC6.out.cell 5
  simp only [List.getElem?_toArray,List.getElem?_cons_zero,List.getElem?_cons_succ] at v1 c5
  go_wp2_with fail
  clear v1 c5
  obtain ⟨T4,hT4⟩:∃T,T=T3++txt (be (dJ x.form) x.peer):=⟨_,rfl⟩
  have HT4:=Lh hT4
  have HS4:=Lh (show T4.size≤400 by have:=HS3.out;rw [hT4,ByteArray.size_append,aU,aS];rcases c_peer x.form with h | h | h | h<;>omega)
  clear hT4
  refine (wX T3 ((dJ x.form)) (x.peer) _ _ W6 (by have:=HS3.out;omega) (c_peer x.form) (w_peer x HX.out HM.out) T4 HT4.out.symm ?N4 rfl).mono ?_
  case N4=>rfl
  rintro e W7 ⟨rfl,b⟩
  have HC7:=Lh (HC6.out.below b HC6.out.lt)
  have HV7:=Lh (HV6.out.below b HV6.out.lt)
  have HB7:=Lh (HB6.out.trans (b.mono HB6.out.size))
  clear b
  have v2:=HV7.out.cell 2
  have c6:=HC7.out.cell 6
  simp only [List.getElem?_toArray,List.getElem?_cons_zero,List.getElem?_cons_succ] at v2 c6
  go_wp2_with fail
  clear v2 c6
  obtain ⟨T5,hT5⟩:∃T,T=T4++txt (be (fZ x.form) x.len.toNat):=⟨_,rfl⟩
  have HT5:=Lh hT5
  have HS5:=Lh (show T5.size≤500 by have:=HS4.out;rw [hT5,ByteArray.size_append,aU,aS];rcases c_len x.form with h | h | h | h<;>omega)
  clear hT5
  refine (wX T4 ((fZ x.form)) (x.len.toNat) _ _ W7 (by have:=HS4.out;omega) (c_len x.form) (w_len x HM.out) T5 HT5.out.symm ?N5 rfl).mono ?_
  case N5=>have:=HM.out.2.2.1;rw [IntKind.wrap_u64];omega
  rintro e W8 ⟨rfl,b⟩
  have HC8:=Lh (HC7.out.below b HC7.out.lt)
  have HV8:=Lh (HV7.out.below b HV7.out.lt)
  have HB8:=Lh (HB7.out.trans (b.mono HB7.out.size))
  clear b
  have v3:=HV8.out.cell 3
  have c7:=HC8.out.cell 7
  simp only [List.getElem?_toArray,List.getElem?_cons_zero,List.getElem?_cons_succ] at v3 c7
  go_wp2_with fail
  clear v3 c7
  obtain ⟨T6,hT6⟩:∃T,T=T5++txt (be (gZ x.form) x.sum):=⟨_,rfl⟩
  have HT6:=Lh hT6
  have HS6:=Lh (show T6.size≤600 by have:=HS5.out;rw [hT6,ByteArray.size_append,aU,aS];rcases c_sum x.form with h | h | h | h<;>omega)
  clear hT6
  refine (wX T5 ((gZ x.form)) (x.sum) _ _ W8 (by have:=HS5.out;omega) (c_sum x.form) (w_sum x HX.out HM.out) T6 HT6.out.symm ?N6 rfl).mono ?_
  case N6=>have:=HX.out.sum;rw [IntKind.wrap_u64];omega
  rintro e W9 ⟨rfl,b⟩
  have HC9:=Lh (HC8.out.below b HC8.out.lt)
  have HV9:=Lh (HV8.out.below b HV8.out.lt)
  have HB9:=Lh (HB8.out.trans (b.mono HB8.out.size))
  clear b
  go_wp2_with fail
  go_ret2
  refine ⟨?_,HB9.out⟩
  show Ending.returned (.tuple #[.string T6,.int .i64 0])=_
  rw [HVV.out,←HT1.out,←HT2.out,←HT3.out,←HT4.out,←HT5.out,←HT6.out]
 ·rw [oM x hm] at hV
  subst hV
  have HM:=Lh hm
  clear hm
  go_enter Tryz.func54,Tryz.ntmps54
  go_wp2_with (refine wpList_load_row rfl 25 _ rfl w.heap.size rfl 25 (bC x) (0,0) _ ?_ Tryz.underlying25 rfl aX ?_;exact HC.out)
  refine (gJ x HX.out _).mono ?_
  rintro e W0 ⟨rfl,b⟩
  rw [decide_eq_false HM.out]
  have HB0:=Lh (HB.out.trans (b.mono HB.out.size))
  clear b
  go_wp2_with fail
  go_ret2
  exact ⟨rfl,HB0.out⟩
open Go.ChangeShapes Go.WideShapes Go.ChangeAt Go.RowKit
abbrev nextF (g:Nat):Value:=.func (.func 167) #[] #[.pointer (some ⟨g,0,none⟩)]
structure Rdr (w:World) (g b:Nat) (s:ByteArray) (k:Nat) (br:Bool):Prop where
 box:Blk w g 177 #[.pointer (some ⟨b,0,none⟩)]
 cur:Cur w b s k br
 ne:g≠b
 at_:k≤s.size
theorem Rdr.below {w w':World} {g b:Nat} {s:ByteArray} {k:Nat} {br:Bool} (h:Rdr w g b s k br) (q:Below w.heap.size w w'):Rdr w' g b s k br:=⟨h.box.below q h.box.lt,Blk.below h.cur q (Blk.lt h.cur),h.ne,h.at_⟩
theorem Rdr.alloc {w:World} {g b:Nat} {s:ByteArray} {k:Nat} {br:Bool} (h:Rdr w g b s k br) (o:Obj):Rdr (w.alloc o) g b s k br:=⟨h.box.alloc o,Blk.alloc h.cur o,h.ne,h.at_⟩
theorem qH (s:ByteArray) (w:World):
  Calls Tryz.prog 112 #[.string s] w fun e w'=>e= .returned (nextF (w.heap.size+1))∧Rdr w' (w.heap.size+1) w.heap.size s 0 false∧Below w.heap.size w w':=by
 go_enter Tryz.func112,Tryz.ntmps112
 go_wp2_with fail
 refine (yX s w).mono ?_
 rintro e w' ⟨rfl,rfl⟩
 go_wp2_with fail
 go_ret
 refine ⟨by simp,⟨?_,(Blk.new w 248 _).alloc _,by omega,Nat.zero_le _⟩,((Below.refl _ w).alloc (Nat.le_refl _) _).alloc (by simp) _⟩
 have:=Blk.new (w.alloc (.cells #[.string s,.int .i64 0,.bool false] 248)) 177 #[.pointer (some ⟨w.heap.size,0,none⟩)]
 simpa using this
theorem next_0 (g b:Nat) (s:ByteArray) (k:Nat) (br:Bool) (w:World) (h:Rdr w g b s k br):
  Calls Tryz.prog 167 #[.int .i64 0,.pointer (some ⟨g,0,none⟩)] w fun e w'=>e= .returned (.int .u64 0)∧w=w':=by
 go_enter Tryz.func167,Tryz.ntmps167
 go_wp2_with fail
 go_ret;exact ⟨rfl,rfl⟩
theorem next_1 (g b:Nat) (s:ByteArray) (k:Nat) (br:Bool) (w:World) (hs:s.size≤9223372036854775807) (h:Rdr w g b s k br):
  Calls Tryz.prog 167 #[.int .i64 1,.pointer (some ⟨g,0,none⟩)] w fun e w'=>e= .returned (.int .u64 (numO s k br 1:Nat))∧w.grownBy w' (some b)∧Rdr w' g b s (fC s k br (1:Nat)) (brO s k br (1:Nat)):=by
 have c:=h.box.cell 0
 simp only [List.getElem?_toArray,List.getElem?_cons_zero] at c
 have H:=Lh h
 clear h
 go_enter Tryz.func167,Tryz.ntmps167
 go_wp2_with fail
 refine (sF b s k br w hs H.out.at_ H.out.cur).mono ?_
 rintro e w' ⟨rfl,hg,hc⟩
 have HG:=Lh hg
 have HC:=Lh hc
 clear hg hc
 have hn:=tY s k br
 obtain ⟨n,hN⟩:=eqx (numO s k br 1)
 rw [←hN] at hn ⊢
 have HN:=Lh hN
 clear hN
 have hw16:IntKind.u64.wrap (n:Int)=(n:Int):=by rw [IntKind.wrap_u64];omega
 go_wp2_with fail
 go_ret
 refine ⟨?_,HG.out,⟨H.out.box.grown HG.out (by simpa using H.out.ne),HC.out,H.out.ne,nM s k br _ H.out.at_⟩⟩
 show Ending.returned (.int .u64 _)= .returned (.int .u64 _)
 exact mG (by rw [HN.out])
theorem next_2 (g b:Nat) (s:ByteArray) (k:Nat) (br:Bool) (w:World) (hs:s.size≤9223372036854775807) (h:Rdr w g b s k br):
  Calls Tryz.prog 167 #[.int .i64 2,.pointer (some ⟨g,0,none⟩)] w fun e w'=>e= .returned (.int .u64 (numO s k br 2:Nat))∧w.grownBy w' (some b)∧Rdr w' g b s (fC s k br (2:Nat)) (brO s k br (2:Nat)):=by
 have c:=h.box.cell 0
 simp only [List.getElem?_toArray,List.getElem?_cons_zero] at c
 have H:=Lh h
 clear h
 go_enter Tryz.func167,Tryz.ntmps167
 go_wp2_with fail
 refine (yL b s k br w hs H.out.at_ H.out.cur).mono ?_
 rintro e w' ⟨rfl,hg,hc⟩
 have HG:=Lh hg
 have HC:=Lh hc
 clear hg hc
 have hn:=wZ s k br
 obtain ⟨n,hN⟩:=eqx (numO s k br 2)
 rw [←hN] at hn ⊢
 have HN:=Lh hN
 clear hN
 have hw16:IntKind.u64.wrap (n:Int)=(n:Int):=by rw [IntKind.wrap_u64];omega
 go_wp2_with fail
 go_ret
 refine ⟨?_,HG.out,⟨H.out.box.grown HG.out (by simpa using H.out.ne),HC.out,H.out.ne,nM s k br _ H.out.at_⟩⟩
 show Ending.returned (.int .u64 _)= .returned (.int .u64 _)
 exact mG (by rw [HN.out])
theorem next_8 (g b:Nat) (s:ByteArray) (k:Nat) (br:Bool) (w:World) (hs:s.size≤9223372036854775807) (h:Rdr w g b s k br):
  Calls Tryz.prog 167 #[.int .i64 8,.pointer (some ⟨g,0,none⟩)] w fun e w'=>e= .returned (.int .u64 (numO s k br 8:Nat))∧w.grownBy w' (some b)∧Rdr w' g b s (fC s k br (8:Nat)) (brO s k br (8:Nat)):=by
 have c:=h.box.cell 0
 simp only [List.getElem?_toArray,List.getElem?_cons_zero] at c
 have H:=Lh h
 clear h
 go_enter Tryz.func167,Tryz.ntmps167
 go_wp2_with fail
 refine (U64_any b s k br w hs H.out.at_ H.out.cur).mono ?_
 rintro e w' ⟨rfl,hg,hc⟩
 have HG:=Lh hg
 have HC:=Lh hc
 clear hg hc
 have hn:=numO_le_8 s k br
 obtain ⟨n,hN⟩:=eqx (numO s k br 8)
 rw [←hN] at hn ⊢
 have HN:=Lh hN
 clear hN
 have hw16:IntKind.u64.wrap (n:Int)=(n:Int):=by rw [IntKind.wrap_u64];omega
 go_wp2_with fail
 go_ret
 refine ⟨?_,HG.out,⟨H.out.box.grown HG.out (by simpa using H.out.ne),HC.out,H.out.ne,nM s k br _ H.out.at_⟩⟩
 show Ending.returned (.int .u64 _)= .returned (.int .u64 _)
 exact mG (by rw [HN.out])
theorem next_any (g b:Nat) (s:ByteArray) (k:Nat) (m:Nat) (hm:m=0∨m=1∨m=2∨m=8) (w:World) (hs:s.size≤9223372036854775807) (h:Rdr w g b s k false) (hk:k+m≤s.size):
  Calls Tryz.prog 167 #[.int .i64 (m:Int),.pointer (some ⟨g,0,none⟩)] w fun e w'=>e= .returned (.int .u64 (num s k m:Nat))∧w.grownBy w' (some b)∧Rdr w' g b s (k+m) false:=by
 have hf:fits s k false (m:Int)=true:=by unfold fits;simp;omega
 rcases hm with rfl | rfl | rfl | rfl
 ·exact (next_0 g b s k false w h).mono fun e w' q=>⟨q.1,by rw [←q.2];exact ⟨.refl _ _,h⟩⟩
 ·have:=next_1 g b s k false w hs h
  rw [iF hf,kF hf,iG hf] at this
  exact this
 ·have:=next_2 g b s k false w hs h
  rw [iF hf,kF hf,iG hf] at this
  exact this
 ·have:=next_8 g b s k false w hs h
  rw [iF hf,kF hf,iG hf] at this
  exact this
theorem capz:(#[.int .i64 0,.int .i64 0,.bool false,.bool false,.int .u64 0,.int .u64 0,.int .i64 0,.int .u16 0]:Array Value)=bC Cap.zero:=rfl
theorem aF {P:Program} {fn:Func} {p t:Tmp} {ty:TypeId} (h:fn.results=#[.cell p ty,.tmp t]) (tmps:Array Value) (w:World) (g:Nat) (t':TypeId) (cs:Array Value) (fr:Nat×Nat) (d:TypeDesc)
  (hp:tmps.getD p undef= .pointer (some ⟨g,0,none⟩)) (hg:w.heap[g]?=some (.cells cs t' fr))
  (hu:P.underlying ty=some d) (hd:(match d with | .struct _ | .array _ _=>true | _=>false)=true) (hi:(P.info? ty).map (·.size)=some cs.size):
  (results fn tmps).run P w= .ok (.tuple #[.agg cs,tmps.getD t undef]) w:=by
 have hp':tmps[p]?.getD undef= .pointer (some ⟨g,0,none⟩):=by simpa using hp
 simp [results,h,hp',asAddr,run_loadVar_row w g t' ty cs fr d hg hu hd hi]
def dO (s:ByteArray):Value:=.tuple #[.agg (bC (dec s).1),.int .i64 (dec s).2]
theorem xO:∀c:Fin 256,bits .and .u64 (c.val:Int) 1=((c.val%2:Nat):Int):=by decide+kernel
theorem byte_and128:∀c:Fin 256,(!(bits .and .u64 (c.val:Int) 128==0))=decide (128≤c.val):=by decide+kernel
theorem byte_and32:∀c:Fin 256,(!(bits .and .u64 (c.val:Int) 32==0))=decide (c.val / 32%2=1):=by decide+kernel
theorem _root_.Go.Proofs.YtnlhhjhidkjlbaaGreatDoor.Blk.setOther {w:World} {g:Nat} {t:TypeId} {cs:Array Value} (h:Blk w g t cs) {X:Nat} (hne:g≠X) (i:Nat) (u:Value):Blk (w.setCell ⟨X,i,none⟩ u) g t cs:=h.same (Below.heap_setCell w ⟨X,i,none⟩ u g hne)
structure Fill (w W:World) (g c X D:Nat) (s:ByteArray) (k:Nat) (f:Int) (cs:Array Value):Prop where
 rd:Rdr W g c s k false
 x:Blk W X 25 cs
 d:Blk W D 161 (xW f)
 z:Blk W w.heap.size 25 (bC Cap.zero)
 b:Below w.heap.size w W
 zc:w.heap.size < c
 cX:c≠X
 gX:g≠X
 cD:c≠D
 DX:D≠X
 zX:w.heap.size < X
namespace Fill
variable {w W W':World} {g c X D:Nat} {s:ByteArray} {k k':Nat} {f:Int} {cs:Array Value}
theorem next (h:Fill w W g c X D s k f cs) (hg:W.grownBy W' (some c)) (hr:Rdr W' g c s k' false):Fill w W' g c X D s k' f cs:=
 ⟨hr,h.x.grown hg (by have:=h.cX;simp;omega),h.d.grown hg (by have:=h.cD;simp;omega),h.z.grown hg (by have:=h.zc;simp;omega),h.b.trans (aA hg (Nat.le_of_lt h.zc) h.b.size),h.zc,h.cX,h.gX,h.cD,h.DX,h.zX⟩
theorem set (h:Fill w W g c X D s k f cs) (i:Nat) (u:Value):Fill w (W.setCell ⟨X,i,none⟩ u) g c X D s k f (cs.setIfInBounds i u):=
 ⟨⟨h.rd.box.setOther h.gX i u,Blk.setOther h.rd.cur h.cX i u,h.rd.ne,h.rd.at_⟩,h.x.gG i u,h.d.setOther h.DX i u,h.z.setOther (by have:=h.zX;omega) i u,h.b.trans (aA (bV (.refl _ _) rfl u) (Nat.le_of_lt h.zX) h.b.size),h.zc,h.cX,h.gX,h.cD,h.DX,h.zX⟩
end Fill
theorem got_fields (f:Nat) (hf:f < 5) (s:ByteArray) (hs:s.size=Cap.size (f:Int)):
  num s 2 (fA f)=num s 2 8∧num s (2+fA f) (dJ f)=num s 10 8∧num s (2+fA f+dJ f) (fZ f)=num s 18 2∧num s (2+fA f+dJ f+fZ f) (gZ f)=num s 20 2∧2+fA f+dJ f+fZ f+gZ f=s.size:=by
 have past:∀k m,s.size≤k→num s k m=0:=fun k m h=>zD s k h m
 have:f=0∨f=1∨f=2∨f=3∨f=4:=by omega
 rcases this with rfl | rfl | rfl | rfl | rfl
 ·have z:s.size=2:=hs
  rw [show fA ((0:Nat):Int)=0 from rfl,show dJ ((0:Nat):Int)=0 from rfl,show fZ ((0:Nat):Int)=0 from rfl,show gZ ((0:Nat):Int)=0 from rfl,past 2 8 (by omega),past 10 8 (by omega),past 18 2 (by omega),past 20 2 (by omega)]
  exact ⟨rfl,rfl,rfl,rfl,z.symm⟩
 ·have z:s.size=10:=hs
  rw [show fA ((1:Nat):Int)=8 from rfl,show dJ ((1:Nat):Int)=0 from rfl,show fZ ((1:Nat):Int)=0 from rfl,show gZ ((1:Nat):Int)=0 from rfl,past 10 8 (by omega),past 18 2 (by omega),past 20 2 (by omega)]
  exact ⟨rfl,rfl,rfl,rfl,z.symm⟩
 ·have z:s.size=18:=hs
  rw [show fA ((2:Nat):Int)=8 from rfl,show dJ ((2:Nat):Int)=8 from rfl,show fZ ((2:Nat):Int)=0 from rfl,show gZ ((2:Nat):Int)=0 from rfl,past 18 2 (by omega),past 20 2 (by omega)]
  exact ⟨rfl,rfl,rfl,rfl,z.symm⟩
 ·have z:s.size=20:=hs
  rw [show fA ((3:Nat):Int)=8 from rfl,show dJ ((3:Nat):Int)=8 from rfl,show fZ ((3:Nat):Int)=2 from rfl,show gZ ((3:Nat):Int)=0 from rfl,past 20 2 (by omega)]
  exact ⟨rfl,rfl,rfl,rfl,z.symm⟩
 ·have z:s.size=22:=hs
  exact ⟨rfl,rfl,rfl,rfl,z.symm⟩
theorem wLen_lt (s:ByteArray) (k:Nat) (f:Int):num s k (fZ f)≤65535:=by unfold fZ;split;have:=fH s k 2;omega;simp [num]
theorem wSum_lt (s:ByteArray) (k:Nat) (f:Int):num s k (gZ f)≤65535:=by unfold gZ;split;have:=fH s k 2;omega;simp [num]
theorem gW (s:ByteArray) (w:World) (hs:s.size≤9223372036854775807):
  Calls Tryz.prog 56 #[.string s] w (Rt w (dO s)):=by
 have HS:=Lh hs
 obtain ⟨V,hV⟩:=eqx (dO s)
 rw [←hV]
 have HV:=Lh hV
 clear hs hV
 obtain ⟨w0,hw0⟩:=eqx (w.alloc (.cells #[.int .i64 0,.int .i64 0,.bool false,.bool false,.int .u64 0,.int .u64 0,.int .i64 0,.int .u16 0] 25))
 have HZ:=Lh (show Blk w0 w.heap.size 25 (bC Cap.zero) by rw [hw0];exact Blk.new _ _ _)
 have HB0:=Lh (kD hw0)
 have HLT:=Lh (show w.heap.size < w0.heap.size by rw [hw0];simp)
 have HW0:=Lh hw0
 clear hw0
 go_enter Tryz.func56,Tryz.ntmps56
 go_wp2_with fail
 rw [←HW0.out]
 refine (qH s w0).mono ?_
 rintro e W1 ⟨rfl,hr,b⟩
 obtain ⟨g,hg⟩:=eqx (w0.heap.size+1)
 obtain ⟨c,hc⟩:=eqx w0.heap.size
 rw [←hg,←hc] at hr
 rw [←hg]
 have HR1:=Lh hr
 have HC:=Lh (show w.heap.size < c by rw [hc];exact HLT.out)
 have HB1:=Lh (HB0.out.trans (b.mono HB0.out.size))
 have HZ1:=Lh (HZ.out.below b HZ.out.lt)
 clear hr b hg hc HZ HB0 HLT HW0
 go_wp2_with fail
 refine (next_1 g c s 0 false W1 HS.out HR1.out).mono ?_
 rintro e W2 ⟨rfl,hg2,hr⟩
 obtain ⟨k1,hk1⟩:∃k,k=fC s 0 false ((1:Nat):Int):=⟨_,rfl⟩
 obtain ⟨b1,hb1⟩:∃b,b=brO s 0 false ((1:Nat):Int):=⟨_,rfl⟩
 obtain ⟨F,hF⟩:=eqx (numO s 0 false 1)
 rw [←hk1,←hb1] at hr
 rw [←hF]
 have HR2:=Lh hr
 have HB2:=Lh (HB1.out.trans (aA hg2 (Nat.le_of_lt HC.out) HB1.out.size))
 have HZ2:=Lh (HZ1.out.grown hg2 (by have:=HC.out;simp;omega))
 have HK1:=Lh hk1
 have HBR1:=Lh hb1
 have HF:=Lh hF
 clear hg2 hr hk1 hb1 hF HR1
 go_wp2_with fail
 refine (next_1 g c s k1 b1 W2 HS.out HR2.out).mono ?_
 rintro e W3 ⟨rfl,hg3,hr⟩
 obtain ⟨k2,hk2⟩:∃k,k=fC s k1 b1 ((1:Nat):Int):=⟨_,rfl⟩
 obtain ⟨b2,hb2⟩:∃b,b=brO s k1 b1 ((1:Nat):Int):=⟨_,rfl⟩
 obtain ⟨G,hG⟩:=eqx (numO s k1 b1 1)
 rw [←hk2,←hb2] at hr
 rw [←hG]
 have HR3:=Lh hr
 have HB3:=Lh (HB2.out.trans (aA hg3 (Nat.le_of_lt HC.out) HB2.out.size))
 have HZ3:=Lh (HZ2.out.grown hg3 (by have:=HC.out;simp;omega))
 have HK2:=Lh hk2
 have HBR2:=Lh hb2
 have HG:=Lh hG
 clear hg3 hr hk2 hb2 hG HR2 HB1 HB2 HZ1 HZ2
 go_wp2_with fail
 refine (formOf_any s.size HS.out W3).mono ?_
 rintro e W4 ⟨rfl,b⟩
 have HR4:=Lh (HR3.out.below b)
 have HB4:=Lh (HB3.out.trans (b.mono HB3.out.size))
 have HZ4:=Lh (HZ3.out.below b HZ3.out.lt)
 clear b HR3 HB3 HZ3
 obtain ⟨f,kn,hfv⟩:∃f kn,formV s.size= .tuple #[.int .i64 f,.bool kn]:=by
  unfold formV
  cases jD s.size with
  | none=>exact ⟨_,_,rfl⟩
  | some f=>exact ⟨_,_,rfl⟩
 rw [hfv]
 have HFV:=Lh hfv
 have HSE:=Lh (setRow_heap _ w.heap.size _ (bC Cap.zero) _ _ HZ4.out)
 have HBE:=Lh (below_setRow HB4.out (Nat.le_refl _) (bC Cap.zero))
 clear hfv
 by_cases hs0:s.size=0
 ·have e0:((s.size:Int)==0)=true:=by rw [hs0];rfl
  have HVZ:=Lh (show V= .tuple #[.agg (bC Cap.zero),.int .i64 4] by rw [HV.out,dO,dec,if_pos hs0])
  clear hs0
  go_wp2_with (refine wpList_store_row rfl 25 _ _ rfl w.heap.size (bC Cap.zero) rfl rfl 25 _ HZ4.out aX rfl (iC _) ?_)
  exact bodyPost_ret (aF rfl _ _ w.heap.size 25 (bC Cap.zero) (0,0) _ rfl HSE.out Tryz.underlying25 rfl aX) rfl ⟨by rw [HVZ.out];rfl,HBE.out⟩
 ·have e0:((s.size:Int)==0)=false:=by rw [beq_eq_false_iff_ne];omega
  have hF0:F=byteAt s 0:=by rw [HF.out,iG (by unfold fits;simp;omega),lN]
  have hk:k1=1:=by rw [HK1.out,iF (by unfold fits;simp;omega)];rfl
  have hb:b1=false:=by rw [HBR1.out,kF (by unfold fits;simp;omega)]
  have hF8:F≤255:=by have:=bK s 0;omega
  have HS0:=Lh hs0
  have HF0:=Lh hF0
  have HK:=Lh hk
  have HBR:=Lh hb
  clear hs0 hF0 hk hb
  by_cases h16:16≤F
  ·have HVZ:=Lh (show V= .tuple #[.agg (bC Cap.zero),.int .i64 7] by rw [HV.out,dO,dec,if_neg HS0.out,if_pos (by rw [←HF0.out];exact h16)])
   go_wp2_with (refine wpList_store_row rfl 25 _ _ rfl w.heap.size (bC Cap.zero) rfl rfl 25 _ HZ4.out aX rfl (iC _) ?_)
   exact bodyPost_ret (aF rfl _ _ w.heap.size 25 (bC Cap.zero) (0,0) _ rfl HSE.out Tryz.underlying25 rfl aX) rfl ⟨by rw [HVZ.out];rfl,HBE.out⟩
  ·have h15:F < 16:=by omega
   clear h16
   have x8:=Lh h15
   cases e:jD s.size with
   | none=>
    have hx:=HFV.out
    rw [formV,e] at hx
    simp only [Value.tuple.injEq,Array.mk.injEq,List.cons.injEq,Value.int.injEq,Value.bool.injEq,and_true,true_and] at hx
    obtain ⟨rfl,rfl⟩:=hx
    have HVZ:=Lh (show V= .tuple #[.agg (bC Cap.zero),.int .i64 5] by rw [HV.out,dO,dec,if_neg HS0.out,if_neg (by rw [←HF0.out];have:=x8.out;omega),e])
    clear e
    go_wp2_with (refine wpList_store_row rfl 25 _ _ rfl w.heap.size (bC Cap.zero) rfl rfl 25 _ HZ4.out aX rfl (iC _) ?_)
    exact bodyPost_ret (aF rfl _ _ w.heap.size 25 (bC Cap.zero) (0,0) _ rfl HSE.out Tryz.underlying25 rfl aX) rfl ⟨by rw [HVZ.out];rfl,HBE.out⟩
   | some fN=>
    have hz:s.size=Cap.size (fN:Int)∧fN < 5:=by
     rcases qJ s.size with ⟨z,e'⟩ | ⟨z,e'⟩ | ⟨z,e'⟩ | ⟨z,e'⟩ | ⟨z,e'⟩ | ⟨z,e'⟩<;>rw [e'] at e<;>cases e<;>exact ⟨z,by omega⟩
    obtain ⟨hzs,hf5⟩:=hz
    have HZS:=Lh hzs
    have HF5:=Lh hf5
    have HE:=Lh e
    have hq:=got_fields fN hf5 s hzs
    have h2:2≤s.size:=by rw [←hq.2.2.2.2];omega
    have HQ:=Lh hq
    have hx:=HFV.out
    rw [formV,e] at hx
    simp only [Value.tuple.injEq,Array.mk.injEq,List.cons.injEq,Value.int.injEq,Value.bool.injEq,and_true,true_and] at hx
    obtain ⟨rfl,rfl⟩:=hx
    have hG1:G=byteAt s 1:=by rw [HG.out,HK.out,HBR.out,iG (by unfold fits;simp;omega),lN]
    have hk2:k2=2:=by rw [HK2.out,HK.out,HBR.out,iF (by unfold fits;simp;omega)];rfl
    have hb2:b2=false:=by rw [HBR2.out,HK.out,HBR.out,kF (by unfold fits;simp;omega)]
    have hG8:G < 256:=by have:=bK s 1;omega
    subst hk2 hb2
    have HG1:=Lh hG1
    have HG8:=Lh hG8
    clear e hzs hf5 hq h2 hG1 hG8
    have ea:bits .and .u64 (G:Int) 1=((G%2:Nat):Int):=xO ⟨G,HG8.out⟩
    by_cases ho:G%2=0
    ·have e2:(bits .and .u64 (G:Int) 1==0)=true:=by rw [ea,ho];rfl
     have HVZ:=Lh (show V= .tuple #[.agg (bC Cap.zero),.int .i64 2] by rw [HV.out,dO,dec,if_neg HS0.out,if_neg (by rw [←HF0.out];have:=x8.out;omega),HE.out];simp only [];rw [if_pos (by rw [←HG1.out];exact ho)])
     clear ea ho
     go_wp2_with (refine wpList_store_row rfl 25 _ _ rfl w.heap.size (bC Cap.zero) rfl rfl 25 _ HZ4.out aX rfl (iC _) ?_)
     exact bodyPost_ret (aF rfl _ _ w.heap.size 25 (bC Cap.zero) (0,0) _ rfl HSE.out Tryz.underlying25 rfl aX) rfl ⟨by rw [HVZ.out];rfl,HBE.out⟩
    ·have e2:(bits .and .u64 (G:Int) 1==0)=false:=by rw [ea,beq_eq_false_iff_ne];omega
     have HVZ:=Lh (show V= .tuple #[.agg (bC (got fN s)),.int .i64 0] by rw [HV.out,dO,dec,if_neg HS0.out,if_neg (by rw [←HF0.out];have:=x8.out;omega),HE.out];simp only [];rw [if_neg (by rw [←HG1.out];exact ho)])
     clear ea ho HSE HBE
     go_wp2_with (refine wpList_store_row rfl 25 _ _ rfl w.heap.size (bC Cap.zero) rfl rfl 25 _ HZ4.out aX rfl (iC _) ?_)
     refine (nI (fN:Int) W4).mono ?_
     rintro e W5 ⟨rfl,b⟩
     have HR5:=Lh (HR4.out.below b)
     have HB5:=Lh (HB4.out.trans (b.mono HB4.out.size))
     have HZ5:=Lh (HZ4.out.below b HZ4.out.lt)
     clear b HR4 HB4 HZ4
     have e3:(bits .and .u64 (G:Int) 128 !=0)=decide (128≤byteAt s 1):=by rw [←HG1.out];exact byte_and128 ⟨G,HG8.out⟩
     have e4:(bits .and .u64 (G:Int) 32 !=0)=decide (byteAt s 1 / 32%2=1):=by rw [←HG1.out];exact byte_and32 ⟨G,HG8.out⟩
     obtain ⟨sb,hsb⟩:∃b,b=decide (128≤byteAt s 1):=⟨_,rfl⟩
     obtain ⟨ab,hab⟩:∃b,b=decide (byteAt s 1 / 32%2=1):=⟨_,rfl⟩
     rw [←hsb] at e3
     rw [←hab] at e4
     have HSB:=Lh hsb
     have HAB:=Lh hab
     clear hsb hab
     have e5:(F:Int)%16=(F:Int):=by omega
     obtain ⟨W6,hW6⟩:=eqx ((W5.alloc (.cells #[.int .i64 (fA fN:Int),.int .i64 (dJ fN:Int),.int .i64 (fZ fN:Int),.int .i64 (gZ fN:Int)] 161)).alloc (.cells #[.int .i64 (fN:Int),.int .i64 (F:Int),.bool sb,.bool ab,.int .u64 0,.int .u64 0,.int .i64 0,.int .u16 0] 25))
     obtain ⟨D,hD⟩:=eqx W5.heap.size
     obtain ⟨X,hX⟩:=eqx (W5.heap.size+1)
     have HM6:=Lh (show Fill w W6 g c X D s 2 fN #[.int .i64 (fN:Int),.int .i64 (F:Int),.bool sb,.bool ab,.int .u64 0,.int .u64 0,.int .i64 0,.int .u16 0] by
      have q1:=HR5.out.box.lt
      have q2:=Blk.lt HR5.out.cur
      have q3:=HZ5.out.lt
      have q4:=HC.out
      rw [hW6,hD,hX]
      refine ⟨(HR5.out.alloc _).alloc _,?_,(Blk.new W5 _ _).alloc _,(HZ5.out.alloc _).alloc _,(HB5.out.alloc HB5.out.size _).alloc (by have:=HB5.out.size;simp;omega) _,HC.out,by omega,by omega,by omega,by omega,by omega⟩
      have:=Blk.new (W5.alloc (.cells #[.int .i64 (fA fN:Int),.int .i64 (dJ fN:Int),.int .i64 (fZ fN:Int),.int .i64 (gZ fN:Int)] 161)) 25 #[.int .i64 (fN:Int),.int .i64 (F:Int),.bool sb,.bool ab,.int .u64 0,.int .u64 0,.int .i64 0,.int .u16 0]
      simpa using this)
     have HW6:=Lh hW6
     have HD:=Lh hD
     have HX:=Lh hX
     have v0:=HM6.out.d.cell 0
     simp only [List.getElem?_toArray,List.getElem?_cons_zero] at v0
     rw [HW6.out,HD.out] at v0
     clear hW6 hD hX HR5 HB5 HZ5 HC
     go_wp2_with fail
     rw [←HW6.out,←HX.out,←HD.out]
     clear v0 e2 e3 e4 e5
     refine (next_any g c s (2) (fA fN) (c_own fN) W6 HS.out HM6.out.rd (by have:=HQ.out.2.2.2.2;omega)).mono ?_
     rintro e W7 ⟨rfl,hg,hr⟩
     have HM7:=Lh (HM6.out.next hg hr)
     clear hg hr
     obtain ⟨n1,hn1⟩:∃n,n=num s (2) (fA fN):=⟨_,rfl⟩
     rw [←hn1]
     have ln1:n1≤18446744073709551615:=by rw [hn1];exact num_le8 s _ _ (by rcases c_own (fN:Int) with h | h | h | h<;>omega)
     have Hn1:=Lh hn1
     clear hn1
     have fz:=HM7.out.x.frozen 4
     have xc:=HM7.out.x.cell 4
     simp only [List.getElem?_toArray,List.getElem?_cons_zero,List.getElem?_cons_succ] at xc
     obtain ⟨W8,hW8⟩:∃W,W=W7.setCell ⟨X,4,none⟩ (.int .u64 (n1:Int)):=⟨_,rfl⟩
     have HM8:=Lh (show Fill w W8 g c X D s (2+fA fN) fN #[.int .i64 (fN:Int),.int .i64 (F:Int),.bool sb,.bool ab,.int .u64 (n1:Int),.int .u64 0,.int .i64 0,.int .u16 0] by rw [hW8];exact HM7.out.set 4 (.int .u64 (n1:Int)))
     have HW8:=Lh hW8
     have v:=HM8.out.d.cell 1
     simp only [List.getElem?_toArray,List.getElem?_cons_zero,List.getElem?_cons_succ] at v
     rw [HW8.out] at v
     clear hW8
     go_wp2_with fail
     rw [←HW8.out]
     clear v fz xc
     refine (next_any g c s (2+fA fN) (dJ fN) (c_peer fN) W8 HS.out HM8.out.rd (by have:=HQ.out.2.2.2.2;omega)).mono ?_
     rintro e W9 ⟨rfl,hg,hr⟩
     have HM9:=Lh (HM8.out.next hg hr)
     clear hg hr
     obtain ⟨n2,hn2⟩:∃n,n=num s (2+fA fN) (dJ fN):=⟨_,rfl⟩
     rw [←hn2]
     have ln2:n2≤18446744073709551615:=by rw [hn2];exact num_le8 s _ _ (by rcases c_peer (fN:Int) with h | h | h | h<;>omega)
     have Hn2:=Lh hn2
     clear hn2
     have fz:=HM9.out.x.frozen 5
     have xc:=HM9.out.x.cell 5
     simp only [List.getElem?_toArray,List.getElem?_cons_zero,List.getElem?_cons_succ] at xc
     obtain ⟨W10,hW10⟩:∃W,W=W9.setCell ⟨X,5,none⟩ (.int .u64 (n2:Int)):=⟨_,rfl⟩
     have HM10:=Lh (show Fill w W10 g c X D s (2+fA fN+dJ fN) fN #[.int .i64 (fN:Int),.int .i64 (F:Int),.bool sb,.bool ab,.int .u64 (n1:Int),.int .u64 (n2:Int),.int .i64 0,.int .u16 0] by rw [hW10];exact HM9.out.set 5 (.int .u64 (n2:Int)))
     have HW10:=Lh hW10
     have v:=HM10.out.d.cell 2
     simp only [List.getElem?_toArray,List.getElem?_cons_zero,List.getElem?_cons_succ] at v
     rw [HW10.out] at v
     clear hW10
     go_wp2_with fail
     rw [←HW10.out]
     clear v fz xc
     refine (next_any g c s (2+fA fN+dJ fN) (fZ fN) (c_len fN) W10 HS.out HM10.out.rd (by have:=HQ.out.2.2.2.2;omega)).mono ?_
     rintro e W11 ⟨rfl,hg,hr⟩
     have HM11:=Lh (HM10.out.next hg hr)
     clear hg hr
     obtain ⟨n3,hn3⟩:∃n,n=num s (2+fA fN+dJ fN) (fZ fN):=⟨_,rfl⟩
     rw [←hn3]
     have ln3:n3≤65535:=by rw [hn3];exact wLen_lt s _ _
     have Hn3:=Lh hn3
     clear hn3
     have fz:=HM11.out.x.frozen 6
     have xc:=HM11.out.x.cell 6
     simp only [List.getElem?_toArray,List.getElem?_cons_zero,List.getElem?_cons_succ] at xc
     obtain ⟨W12,hW12⟩:∃W,W=W11.setCell ⟨X,6,none⟩ (.int .i64 (n3:Int)):=⟨_,rfl⟩
     have HM12:=Lh (show Fill w W12 g c X D s (2+fA fN+dJ fN+fZ fN) fN #[.int .i64 (fN:Int),.int .i64 (F:Int),.bool sb,.bool ab,.int .u64 (n1:Int),.int .u64 (n2:Int),.int .i64 (n3:Int),.int .u16 0] by rw [hW12];exact HM11.out.set 6 (.int .i64 (n3:Int)))
     have HW12:=Lh hW12
     have v:=HM12.out.d.cell 3
     simp only [List.getElem?_toArray,List.getElem?_cons_zero,List.getElem?_cons_succ] at v
     rw [HW12.out] at v
     clear hW12
     go_wp2_with fail
     rw [←HW12.out]
     clear v fz xc
     refine (next_any g c s (2+fA fN+dJ fN+fZ fN) (gZ fN) (c_sum fN) W12 HS.out HM12.out.rd (by have:=HQ.out.2.2.2.2;omega)).mono ?_
     rintro e W13 ⟨rfl,hg,hr⟩
     have HM13:=Lh (HM12.out.next hg hr)
     clear hg hr
     obtain ⟨n4,hn4⟩:∃n,n=num s (2+fA fN+dJ fN+fZ fN) (gZ fN):=⟨_,rfl⟩
     rw [←hn4]
     have ln4:n4≤65535:=by rw [hn4];exact wSum_lt s _ _
     have Hn4:=Lh hn4
     clear hn4
     have fz:=HM13.out.x.frozen 7
     have xc:=HM13.out.x.cell 7
     simp only [List.getElem?_toArray,List.getElem?_cons_zero,List.getElem?_cons_succ] at xc
     obtain ⟨W14,hW14⟩:∃W,W=W13.setCell ⟨X,7,none⟩ (.int .u16 (n4:Int)):=⟨_,rfl⟩
     have HM14:=Lh (show Fill w W14 g c X D s (2+fA fN+dJ fN+fZ fN+gZ fN) fN #[.int .i64 (fN:Int),.int .i64 (F:Int),.bool sb,.bool ab,.int .u64 (n1:Int),.int .u64 (n2:Int),.int .i64 (n3:Int),.int .u16 (n4:Int)] by rw [hW14];exact HM13.out.set 7 (.int .u16 (n4:Int)))
     have HW14:=Lh hW14
     clear hW14
     have HEQ:=Lh (show #[.int .i64 (fN:Int),.int .i64 (F:Int),.bool sb,.bool ab,.int .u64 (n1:Int),.int .u64 (n2:Int),.int .i64 (n3:Int),.int .u16 (n4:Int)]=bC (got fN s) by rw [bC,got,Hn1.out,Hn2.out,Hn3.out,Hn4.out,HQ.out.1,HQ.out.2.1,HQ.out.2.2.1,HQ.out.2.2.2.1,HSB.out,HAB.out,HF0.out])
     have HSE:=Lh (setRow_heap _ w.heap.size _ (#[.int .i64 (fN:Int),.int .i64 (F:Int),.bool sb,.bool ab,.int .u64 (n1:Int),.int .u64 (n2:Int),.int .i64 (n3:Int),.int .u16 (n4:Int)]) _ _ HM14.out.z)
     have HBE:=Lh (below_setRow HM14.out.b (Nat.le_refl _) (#[.int .i64 (fN:Int),.int .i64 (F:Int),.bool sb,.bool ab,.int .u64 (n1:Int),.int .u64 (n2:Int),.int .i64 (n3:Int),.int .u16 (n4:Int)]))
     rw [HW14.out] at HSE HBE
     go_wp2_with (first
      | (refine wpList_load_row rfl 25 _ rfl X rfl 25 (#[.int .i64 (fN:Int),.int .i64 (F:Int),.bool sb,.bool ab,.int .u64 (n1:Int),.int .u64 (n2:Int),.int .i64 (n3:Int),.int .u16 (n4:Int)]) (0,0) _ ?_ Tryz.underlying25 rfl aX ?_;rw [←HW14.out];exact HM14.out.x)
      | (refine wpList_store_row rfl 25 _ _ rfl w.heap.size (#[.int .i64 (fN:Int),.int .i64 (F:Int),.bool sb,.bool ab,.int .u64 (n1:Int),.int .u64 (n2:Int),.int .i64 (n3:Int),.int .u16 (n4:Int)]) rfl rfl 25 (bC Cap.zero) ?_ aX rfl (by simp [Value.oneCell']) ?_;rw [←HW14.out];exact HM14.out.z))
     exact bodyPost_ret (aF rfl _ _ w.heap.size 25 (#[.int .i64 (fN:Int),.int .i64 (F:Int),.bool sb,.bool ab,.int .u64 (n1:Int),.int .u64 (n2:Int),.int .i64 (n3:Int),.int .u16 (n4:Int)]) (0,0) _ rfl HSE.out Tryz.underlying25 rfl aX) rfl ⟨by rw [HVZ.out,←HEQ.out];rfl,HBE.out⟩
open Go.ChangeShapes Go.WideShapes Go.ChangeAt Go.RowKit
theorem SizeR_any (f:Nat) (hf:f < 5) (w:World):
  Calls Tryz.prog 99 #[.int .i64 (f:Int)] w fun e w'=>e= .returned (.int .i64 (Cap.size (f:Int):Nat))∧w=w':=by
 have:f=0∨f=1∨f=2∨f=3∨f=4:=by omega
 rcases this with rfl | rfl | rfl | rfl | rfl
 all_goals
  go_enter Tryz.func99,Tryz.ntmps99
  go_wp2
  go_ret;exact ⟨mG (by decide),rfl⟩
theorem SizeR_at (f:Nat) (hf:f < 5) (F:Int) (hF:F=(f:Int)) (w:World):
  Calls Tryz.prog 99 #[.int .i64 F] w fun e w'=>e= .returned (.int .i64 (Cap.size (f:Int):Nat))∧w=w':=by subst hF;exact SizeR_any f hf w
theorem rP (x:Cap) (w:World):
  Calls Tryz.prog 155 #[.agg (bC x)] w (Rt w (.bool (decide x.May))):=by
 obtain ⟨form,ver,sums,alone,own,peer,len,sum⟩:=x
 obtain ⟨M,hM⟩:=eqx (decide (Cap.May ⟨form,ver,sums,alone,own,peer,len,sum⟩))
 rw [←hM]
 have HM:=Lh hM
 clear hM
 by_cases h0:form < 0
 ·
  go_enter Tryz.func155,Tryz.ntmps155
  go_wp2
  go_ret;exact ⟨bT (by rw [HM.out];exact (decide_eq_false (fun h=>by obtain ⟨⟨a0,a1⟩,⟨a2,a3⟩,⟨a4,a5⟩,a6,a7,a8,a9⟩:=h;simp only [] at *;omega)).symm),(Below.refl _ w).alloc (Nat.le_refl _) _⟩
 replace h0:0≤form:=by omega
 by_cases h1:5≤form
 ·
  go_enter Tryz.func155,Tryz.ntmps155
  go_wp2
  go_ret;exact ⟨bT (by rw [HM.out];exact (decide_eq_false (fun h=>by obtain ⟨⟨a0,a1⟩,⟨a2,a3⟩,⟨a4,a5⟩,a6,a7,a8,a9⟩:=h;simp only [] at *;omega)).symm),(Below.refl _ w).alloc (Nat.le_refl _) _⟩
 replace h1:form < 5:=by omega
 by_cases h2:ver < 0
 ·
  go_enter Tryz.func155,Tryz.ntmps155
  go_wp2
  go_ret;exact ⟨bT (by rw [HM.out];exact (decide_eq_false (fun h=>by obtain ⟨⟨a0,a1⟩,⟨a2,a3⟩,⟨a4,a5⟩,a6,a7,a8,a9⟩:=h;simp only [] at *;omega)).symm),(Below.refl _ w).alloc (Nat.le_refl _) _⟩
 replace h2:0≤ver:=by omega
 by_cases h3:15 < ver
 ·
  go_enter Tryz.func155,Tryz.ntmps155
  go_wp2
  go_ret;exact ⟨bT (by rw [HM.out];exact (decide_eq_false (fun h=>by obtain ⟨⟨a0,a1⟩,⟨a2,a3⟩,⟨a4,a5⟩,a6,a7,a8,a9⟩:=h;simp only [] at *;omega)).symm),(Below.refl _ w).alloc (Nat.le_refl _) _⟩
 replace h3:ver≤15:=by omega
 by_cases h4:len < 0
 ·
  go_enter Tryz.func155,Tryz.ntmps155
  go_wp2
  go_ret;exact ⟨bT (by rw [HM.out];exact (decide_eq_false (fun h=>by obtain ⟨⟨a0,a1⟩,⟨a2,a3⟩,⟨a4,a5⟩,a6,a7,a8,a9⟩:=h;simp only [] at *;omega)).symm),(Below.refl _ w).alloc (Nat.le_refl _) _⟩
 replace h4:0≤len:=by omega
 by_cases h5:65535 < len
 ·
  go_enter Tryz.func155,Tryz.ntmps155
  go_wp2
  go_ret;exact ⟨bT (by rw [HM.out];exact (decide_eq_false (fun h=>by obtain ⟨⟨a0,a1⟩,⟨a2,a3⟩,⟨a4,a5⟩,a6,a7,a8,a9⟩:=h;simp only [] at *;omega)).symm),(Below.refl _ w).alloc (Nat.le_refl _) _⟩
 replace h5:len≤65535:=by omega
 have cs:form=0∨form=1∨form=2∨form=3∨form=4:=by omega
 clear h0 h1
 rcases cs with rfl | rfl | rfl | rfl | rfl
 ·by_cases e0:¬(own=0)
  ·have g0:((own:Int)==0)=false:=by rw [beq_eq_false_iff_ne];omega
   go_enter Tryz.func155,Tryz.ntmps155
   go_wp2
   go_ret;exact ⟨bT (by rw [HM.out];exact (decide_eq_false (fun h=>by obtain ⟨⟨a0,a1⟩,⟨a2,a3⟩,⟨a4,a5⟩,a6,a7,a8,a9⟩:=h;simp only [] at *;omega)).symm),(Below.refl _ w).alloc (Nat.le_refl _) _⟩
  replace e0:own=0:=by omega
  have g0:((own:Int)==0)=true:=by rw [e0];rfl
  by_cases e1:¬(peer=0)
  ·have g1:((peer:Int)==0)=false:=by rw [beq_eq_false_iff_ne];omega
   go_enter Tryz.func155,Tryz.ntmps155
   go_wp2
   go_ret;exact ⟨bT (by rw [HM.out];exact (decide_eq_false (fun h=>by obtain ⟨⟨a0,a1⟩,⟨a2,a3⟩,⟨a4,a5⟩,a6,a7,a8,a9⟩:=h;simp only [] at *;omega)).symm),(Below.refl _ w).alloc (Nat.le_refl _) _⟩
  replace e1:peer=0:=by omega
  have g1:((peer:Int)==0)=true:=by rw [e1];rfl
  by_cases e2:¬(len=0)
  ·have g2:(len==0)=false:=by rw [beq_eq_false_iff_ne];omega
   go_enter Tryz.func155,Tryz.ntmps155
   go_wp2
   go_ret;exact ⟨bT (by rw [HM.out];exact (decide_eq_false (fun h=>by obtain ⟨⟨a0,a1⟩,⟨a2,a3⟩,⟨a4,a5⟩,a6,a7,a8,a9⟩:=h;simp only [] at *;omega)).symm),(Below.refl _ w).alloc (Nat.le_refl _) _⟩
  replace e2:len=0:=by omega
  have g2:(len==0)=true:=by rw [e2];rfl
  by_cases e3:¬(sum=0)
  ·have g3:((sum:Int)==0)=false:=by rw [beq_eq_false_iff_ne];omega
   go_enter Tryz.func155,Tryz.ntmps155
   go_wp2
   go_ret;exact ⟨bT (by rw [HM.out];exact (decide_eq_false (fun h=>by obtain ⟨⟨a0,a1⟩,⟨a2,a3⟩,⟨a4,a5⟩,a6,a7,a8,a9⟩:=h;simp only [] at *;omega)).symm),(Below.refl _ w).alloc (Nat.le_refl _) _⟩
  replace e3:sum=0:=by omega
  have g3:((sum:Int)==0)=true:=by rw [e3];rfl
  go_enter Tryz.func155,Tryz.ntmps155
  go_wp2
  go_ret;exact ⟨bT (by rw [HM.out];exact (decide_eq_true ⟨⟨by simp only [];omega,by simp only [];omega⟩,⟨by simp only [];omega,by simp only [];omega⟩,⟨by simp only [];omega,by simp only [];omega⟩,by simp only [];omega,by simp only [];omega,by simp only [];omega,by simp only [];omega⟩).symm),(Below.refl _ w).alloc (Nat.le_refl _) _⟩
 ·by_cases e0:¬(peer=0)
  ·have g0:((peer:Int)==0)=false:=by rw [beq_eq_false_iff_ne];omega
   go_enter Tryz.func155,Tryz.ntmps155
   go_wp2
   go_ret;exact ⟨bT (by rw [HM.out];exact (decide_eq_false (fun h=>by obtain ⟨⟨a0,a1⟩,⟨a2,a3⟩,⟨a4,a5⟩,a6,a7,a8,a9⟩:=h;simp only [] at *;omega)).symm),(Below.refl _ w).alloc (Nat.le_refl _) _⟩
  replace e0:peer=0:=by omega
  have g0:((peer:Int)==0)=true:=by rw [e0];rfl
  by_cases e1:¬(len=0)
  ·have g1:(len==0)=false:=by rw [beq_eq_false_iff_ne];omega
   go_enter Tryz.func155,Tryz.ntmps155
   go_wp2
   go_ret;exact ⟨bT (by rw [HM.out];exact (decide_eq_false (fun h=>by obtain ⟨⟨a0,a1⟩,⟨a2,a3⟩,⟨a4,a5⟩,a6,a7,a8,a9⟩:=h;simp only [] at *;omega)).symm),(Below.refl _ w).alloc (Nat.le_refl _) _⟩
  replace e1:len=0:=by omega
  have g1:(len==0)=true:=by rw [e1];rfl
  by_cases e2:¬(sum=0)
  ·have g2:((sum:Int)==0)=false:=by rw [beq_eq_false_iff_ne];omega
   go_enter Tryz.func155,Tryz.ntmps155
   go_wp2
   go_ret;exact ⟨bT (by rw [HM.out];exact (decide_eq_false (fun h=>by obtain ⟨⟨a0,a1⟩,⟨a2,a3⟩,⟨a4,a5⟩,a6,a7,a8,a9⟩:=h;simp only [] at *;omega)).symm),(Below.refl _ w).alloc (Nat.le_refl _) _⟩
  replace e2:sum=0:=by omega
  have g2:((sum:Int)==0)=true:=by rw [e2];rfl
  go_enter Tryz.func155,Tryz.ntmps155
  go_wp2
  go_ret;exact ⟨bT (by rw [HM.out];exact (decide_eq_true ⟨⟨by simp only [];omega,by simp only [];omega⟩,⟨by simp only [];omega,by simp only [];omega⟩,⟨by simp only [];omega,by simp only [];omega⟩,by simp only [];omega,by simp only [];omega,by simp only [];omega,by simp only [];omega⟩).symm),(Below.refl _ w).alloc (Nat.le_refl _) _⟩
 ·by_cases e0:¬(len=0)
  ·have g0:(len==0)=false:=by rw [beq_eq_false_iff_ne];omega
   go_enter Tryz.func155,Tryz.ntmps155
   go_wp2
   go_ret;exact ⟨bT (by rw [HM.out];exact (decide_eq_false (fun h=>by obtain ⟨⟨a0,a1⟩,⟨a2,a3⟩,⟨a4,a5⟩,a6,a7,a8,a9⟩:=h;simp only [] at *;omega)).symm),(Below.refl _ w).alloc (Nat.le_refl _) _⟩
  replace e0:len=0:=by omega
  have g0:(len==0)=true:=by rw [e0];rfl
  by_cases e1:¬(sum=0)
  ·have g1:((sum:Int)==0)=false:=by rw [beq_eq_false_iff_ne];omega
   go_enter Tryz.func155,Tryz.ntmps155
   go_wp2
   go_ret;exact ⟨bT (by rw [HM.out];exact (decide_eq_false (fun h=>by obtain ⟨⟨a0,a1⟩,⟨a2,a3⟩,⟨a4,a5⟩,a6,a7,a8,a9⟩:=h;simp only [] at *;omega)).symm),(Below.refl _ w).alloc (Nat.le_refl _) _⟩
  replace e1:sum=0:=by omega
  have g1:((sum:Int)==0)=true:=by rw [e1];rfl
  go_enter Tryz.func155,Tryz.ntmps155
  go_wp2
  go_ret;exact ⟨bT (by rw [HM.out];exact (decide_eq_true ⟨⟨by simp only [];omega,by simp only [];omega⟩,⟨by simp only [];omega,by simp only [];omega⟩,⟨by simp only [];omega,by simp only [];omega⟩,by simp only [];omega,by simp only [];omega,by simp only [];omega,by simp only [];omega⟩).symm),(Below.refl _ w).alloc (Nat.le_refl _) _⟩
 ·by_cases e0:¬(sum=0)
  ·have g0:((sum:Int)==0)=false:=by rw [beq_eq_false_iff_ne];omega
   go_enter Tryz.func155,Tryz.ntmps155
   go_wp2
   go_ret;exact ⟨bT (by rw [HM.out];exact (decide_eq_false (fun h=>by obtain ⟨⟨a0,a1⟩,⟨a2,a3⟩,⟨a4,a5⟩,a6,a7,a8,a9⟩:=h;simp only [] at *;omega)).symm),(Below.refl _ w).alloc (Nat.le_refl _) _⟩
  replace e0:sum=0:=by omega
  have g0:((sum:Int)==0)=true:=by rw [e0];rfl
  go_enter Tryz.func155,Tryz.ntmps155
  go_wp2
  go_ret;exact ⟨bT (by rw [HM.out];exact (decide_eq_true ⟨⟨by simp only [];omega,by simp only [];omega⟩,⟨by simp only [];omega,by simp only [];omega⟩,⟨by simp only [];omega,by simp only [];omega⟩,by simp only [];omega,by simp only [];omega,by simp only [];omega,by simp only [];omega⟩).symm),(Below.refl _ w).alloc (Nat.le_refl _) _⟩
 ·go_enter Tryz.func155,Tryz.ntmps155
  go_wp2
  go_ret;exact ⟨bT (by rw [HM.out];exact (decide_eq_true ⟨⟨by simp only [];omega,by simp only [];omega⟩,⟨by simp only [];omega,by simp only [];omega⟩,⟨by simp only [];omega,by simp only [];omega⟩,by simp only [];omega,by simp only [];omega,by simp only [];omega,by simp only [];omega⟩).symm),(Below.refl _ w).alloc (Nat.le_refl _) _⟩
open Go.ChangeShapes Go.WideShapes Go.ChangeAt Go.RowKit
theorem text_take (t:ByteArray) (m:Nat) (h:m≤t.size):t.extract 0 m=txt (t.data.toList.take m):=by
 apply ByteArray.ext
 apply Array.toList_inj.1
 rw [ByteArray.data_extract,Array.toList_extract,List.extract_eq_take_drop]
 simp [txt]
theorem all_length (x:Cap):x.all.length=22:=by simp [Cap.all,aS]
theorem size_le (f:Nat) (hf:f < 5):Cap.size (f:Int)≤22:=by
 have:f=0∨f=1∨f=2∨f=3∨f=4:=by omega
 rcases this with rfl | rfl | rfl | rfl | rfl<;>decide
theorem iH (x:Cap) (hx:x.Ok) (w:World):
  Calls Tryz.prog 90 #[.agg (bC x)] w (Rt w (dC x)):=by
 have HX:=Lh hx
 clear hx
 obtain ⟨V,hV⟩:=eqx (dC x)
 rw [←hV]
 have HC:=Lh (Blk.new w 25 (bC x))
 have HB:=Lh ((Below.refl _ w).alloc (Nat.le_refl _) (.cells (bC x) 25))
 have HL:=Lh (show w.heap.size < (w.alloc (.cells (bC x) 25)).heap.size by simp)
 by_cases hm:x.May
 ·rw [iD x hm] at hV
  have HVV:=Lh hV
  have HM:=Lh hm
  clear hV hm
  go_enter Tryz.func90,Tryz.ntmps90
  go_wp2_with (refine wpList_load_row rfl 25 _ rfl w.heap.size rfl 25 (bC x) (0,0) _ ?_ Tryz.underlying25 rfl aX ?_;exact HC.out)
  refine (rP x _).mono ?_
  rintro e W0 ⟨rfl,b⟩
  rw [decide_eq_true HM.out]
  have HBX:=Lh (HC.out.below b HL.out)
  have HBB:=Lh (HB.out.trans (b.mono HB.out.size))
  clear b HC HB HL
  have c2:=HBX.out.cell 2
  have c3:=HBX.out.cell 3
  simp only [List.getElem?_toArray,List.getElem?_cons_zero,List.getElem?_cons_succ] at c2 c3
  obtain ⟨f,hf⟩:=Int.eq_ofNat_of_zero_le HM.out.1.1
  have hf5:f < 5:=by have:=HM.out.1.2;omega
  obtain ⟨v,hv⟩:=Int.eq_ofNat_of_zero_le HM.out.2.1.1
  have hv15:v≤15:=by have:=HM.out.2.1.2;omega
  obtain ⟨l,hl⟩:=Int.eq_ofNat_of_zero_le HM.out.2.2.1.1
  have hl16:l≤65535:=by have:=HM.out.2.2.1.2;omega
  obtain ⟨t1,h1⟩:∃t,txt (be 1 v)=t:=⟨_,rfl⟩
  obtain ⟨t2,h2⟩:∃t,txt (be 1 x.flags)=t:=⟨_,rfl⟩
  obtain ⟨t3,h3⟩:∃t,txt (be 8 x.own)=t:=⟨_,rfl⟩
  obtain ⟨t4,h4⟩:∃t,txt (be 8 x.peer)=t:=⟨_,rfl⟩
  obtain ⟨t5,h5⟩:∃t,txt (be 2 l)=t:=⟨_,rfl⟩
  obtain ⟨t6,h6⟩:∃t,txt (be 2 x.sum)=t:=⟨_,rfl⟩
  have z1:t1.size=1:=by rw [←h1,aU,aS]
  have z2:t2.size=1:=by rw [←h2,aU,aS]
  have z3:t3.size=8:=by rw [←h3,aU,aS]
  have z4:t4.size=8:=by rw [←h4,aU,aS]
  have z5:t5.size=2:=by rw [←h5,aU,aS]
  have z6:t6.size=2:=by rw [←h6,aU,aS]
  have z12:(t1++t2).size=2:=by rw [ByteArray.size_append];omega
  have z13:(t1++t2++t3).size=10:=by rw [ByteArray.size_append];omega
  have z14:(t1++t2++t3++t4).size=18:=by rw [ByteArray.size_append];omega
  have z15:(t1++t2++t3++t4++t5).size=20:=by rw [ByteArray.size_append];omega
  have HALL:=Lh (show t1++t2++t3++t4++t5++t6=txt x.all by rw [←h1,←h2,←h3,←h4,←h5,←h6];simp only [dK,Cap.all,hv,hl];rfl)
  have y1:IntKind.u64.wrap x.ver=(v:Int):=by rw [IntKind.wrap_u64,hv];omega
  have y5:IntKind.u64.wrap x.len=(l:Int):=by rw [IntKind.wrap_u64,hl];omega
  have y6:IntKind.u64.wrap (x.sum:Int)=(x.sum:Int):=by rw [IntKind.wrap_u64];have:=HX.out.sum;omega
  have HT1:=Lh h1
  have HT2:=Lh h2
  have HT3:=Lh h3
  have HT4:=Lh h4
  have HT5:=Lh h5
  have HT6:=Lh h6
  have K1:=Lh trivial
  have K2:=Lh trivial
  have K3:=Lh trivial
  have K4:=Lh trivial
  have K5:=Lh trivial
  have K6:=Lh trivial
  have HFL:=Lh (show x.flags=1+(if x.sums then 128 else 0)+(if x.alone then 32 else 0) from rfl)
  have HFF:=Lh hf
  clear hf hv hl h1 h2 h3 h4 h5 h6
  obtain ⟨sb,hsb⟩:∃b,b=x.sums:=⟨_,rfl⟩
  obtain ⟨ab,hab⟩:∃b,b=x.alone:=⟨_,rfl⟩
  rw [←hsb] at c2 HFL
  rw [←hab] at c3 HFL
  have HSB:=Lh hsb
  have HAB:=Lh hab
  clear hsb hab
  cases sb<;>cases ab
  all_goals
   go_wp2_with fail
   clear c2 c3
   go_region_held3 (fun V=>V.cell? ⟨w.heap.size,1,none⟩=some (.int .i64 x.ver)∧V.cell? ⟨w.heap.size,4,none⟩=some (.int .u64 (x.own:Int))∧V.cell? ⟨w.heap.size,5,none⟩=some (.int .u64 (x.peer:Int))∧V.cell? ⟨w.heap.size,6,none⟩=some (.int .i64 x.len)∧V.cell? ⟨w.heap.size,7,none⟩=some (.int .u16 (x.sum:Int)))
    (first | exact ⟨HBX.out.cell 1,HBX.out.cell 4,HBX.out.cell 5,HBX.out.cell 6,HBX.out.cell 7⟩)
    (first
   | (go_at_call 156;clear K1;refine (yB (_) (v) 1 t1 _ ?_ (by omega) (by decide) (by decide) HT1.out).mono ?_;rfl;rintro e w1 ⟨rfl,b⟩;have HBX:Hid (Blk w1 w.heap.size 25 (bC x)):=Lh (by refine Blk.below ?_ b ?_;exact HBX.out;exact HBX.out.lt);have HBB:Hid (Below w.heap.size w w1):=Lh (by first | exact HBB.out.trans (b.mono HBB.out.size) | exact HBB.out.drew.trans (b.mono HBB.out.size));clear b)
   | (go_at_call 156;clear K2;refine (yB (_) (x.flags) 1 t2 _ ?_ (by have:=x.zI;omega) (by decide) (by decide) HT2.out).mono ?_;rw [HFL.out];rfl;rintro e w1 ⟨rfl,b⟩;have HBX:Hid (Blk w1 w.heap.size 25 (bC x)):=Lh (by refine Blk.below ?_ b ?_;exact HBX.out;exact HBX.out.lt);have HBB:Hid (Below w.heap.size w w1):=Lh (by first | exact HBB.out.trans (b.mono HBB.out.size) | exact HBB.out.drew.trans (b.mono HBB.out.size));clear b)
   | (go_at_call 156;clear K3;refine (yB (_) (x.own) 8 t3 _ ?_ HX.out.own (by decide) (by decide) HT3.out).mono ?_;rfl;rintro e w1 ⟨rfl,b⟩;have HBX:Hid (Blk w1 w.heap.size 25 (bC x)):=Lh (by refine Blk.below ?_ b ?_;exact HBX.out;exact HBX.out.lt);have HBB:Hid (Below w.heap.size w w1):=Lh (by first | exact HBB.out.trans (b.mono HBB.out.size) | exact HBB.out.drew.trans (b.mono HBB.out.size));clear b)
   | (go_at_call 156;clear K4;refine (yB (_) (x.peer) 8 t4 _ ?_ HX.out.peer (by decide) (by decide) HT4.out).mono ?_;rfl;rintro e w1 ⟨rfl,b⟩;have HBX:Hid (Blk w1 w.heap.size 25 (bC x)):=Lh (by refine Blk.below ?_ b ?_;exact HBX.out;exact HBX.out.lt);have HBB:Hid (Below w.heap.size w w1):=Lh (by first | exact HBB.out.trans (b.mono HBB.out.size) | exact HBB.out.drew.trans (b.mono HBB.out.size));clear b)
   | (go_at_call 156;clear K5;refine (yB (_) (l) 2 t5 _ ?_ (by omega) (by decide) (by decide) HT5.out).mono ?_;rfl;rintro e w1 ⟨rfl,b⟩;have HBX:Hid (Blk w1 w.heap.size 25 (bC x)):=Lh (by refine Blk.below ?_ b ?_;exact HBX.out;exact HBX.out.lt);have HBB:Hid (Below w.heap.size w w1):=Lh (by first | exact HBB.out.trans (b.mono HBB.out.size) | exact HBB.out.drew.trans (b.mono HBB.out.size));clear b)
   | (go_at_call 156;clear K6;refine (yB (_) (x.sum) 2 t6 _ ?_ (by have:=HX.out.sum;omega) (by decide) (by decide) HT6.out).mono ?_;rfl;rintro e w1 ⟨rfl,b⟩;have HBX:Hid (Blk w1 w.heap.size 25 (bC x)):=Lh (by refine Blk.below ?_ b ?_;exact HBX.out;exact HBX.out.lt);have HBB:Hid (Below w.heap.size w w1):=Lh (by first | exact HBB.out.trans (b.mono HBB.out.size) | exact HBB.out.drew.trans (b.mono HBB.out.size));clear b))
   obtain ⟨T,hT⟩:=eqx (txt x.all)
   rw [HALL.out,←hT]
   have zT:T.size=22:=by rw [hT,aU,all_length]
   have HTT:=Lh hT
   have c0:=HBX.out.cell 0
   simp only [List.getElem?_toArray,List.getElem?_cons_zero] at c0
   clear hT z1 z2 z3 z4 z5 z6 z12 z13 z14 z15 y1 y5 y6
   go_wp2_with fail
   refine (SizeR_at f hf5 _ HFF.out _).mono ?_
   rintro e w2 ⟨rfl,rfl⟩
   clear c0
   obtain ⟨n,hn⟩:=eqx (Cap.size (f:Int))
   rw [←hn]
   have hn22:n≤22:=by rw [hn];exact size_le f hf5
   have HN:=Lh hn
   clear hn
   have HTK:=Lh (show T.extract 0 n=txt x.body by rw [text_take T n (by omega),HTT.out,Cap.body,HN.out,HFF.out];rfl)
   go_wp2_with fail
   go_ret2
   refine ⟨?_,HBB.out⟩
   show Ending.returned (.tuple #[.string (T.extract 0 n),.int .i64 0])=_
   rw [HVV.out,HTK.out]
 ·rw [oM x hm] at hV
  subst hV
  have HM:=Lh hm
  clear hm
  go_enter Tryz.func90,Tryz.ntmps90
  go_wp2_with (refine wpList_load_row rfl 25 _ rfl w.heap.size rfl 25 (bC x) (0,0) _ ?_ Tryz.underlying25 rfl aX ?_;exact HC.out)
  refine (rP x _).mono ?_
  rintro e W0 ⟨rfl,b⟩
  rw [decide_eq_false HM.out]
  have HB0:=Lh (HB.out.trans (b.mono HB.out.size))
  clear b
  go_wp2_with fail
  go_ret2
  exact ⟨rfl,HB0.out⟩
open Go.ChangeShapes Go.WideShapes Go.ChangeAt Go.RowKit
def found (n j:Nat):Int:=match jD n with | some f=>if f < j then (f:Int) else -1 | none=> -1
theorem form_iff (n j:Nat) (hj:j < 5):jD n=some j↔n=Cap.size (j:Int):=by
 have hc:j=0∨j=1∨j=2∨j=3∨j=4:=by omega
 constructor
 ·intro h
  rcases qJ n with ⟨z,e⟩ | ⟨z,e⟩ | ⟨z,e⟩ | ⟨z,e⟩ | ⟨z,e⟩ | ⟨z,e⟩<;>rw [e] at h<;>cases h<;>exact z
 ·intro h
  subst h
  rcases hc with rfl | rfl | rfl | rfl | rfl<;>rfl
theorem found_0 (n:Nat):found n 0= -1:=by unfold found;cases jD n<;>simp
theorem found_hit (n j:Nat) (hj:j < 5) (h:n=Cap.size (j:Int)):found n (j+1)=(j:Int):=by
 unfold found
 rw [(form_iff n j hj).2 h]
 simp
theorem found_miss (n j:Nat) (hj:j < 5) (h:n≠Cap.size (j:Int)):found n (j+1)=found n j:=by
 unfold found
 cases e:jD n with
 | none=>rfl
 | some f=>
  have:f≠j:=fun q=>h ((form_iff n j hj).1 (by rw [e,q]))
  simp only []
  by_cases hf:f < j
  ·rw [if_pos hf,if_pos (by omega)]
  ·rw [if_neg hf,if_neg (by omega)]
theorem byte_32:∀c:Fin (2 ^ 8),((IntKind.u8.wrap ((c.val:Int) / 32)).tmod 2==1)=decide (c.val / 32%2=1):=by decide+kernel
theorem Num_s (s:ByteArray) (w:World) (hs:s.size≤8):
  Calls Tryz.prog 100 #[.string s] w fun e w'=>e= .returned (.int .u64 ((num s 0 s.size:Nat):Int))∧w'=w:=(Num01_ref s w hs).mono fun _ _ h=>⟨h.1,h.2.symm⟩
theorem jM (s:ByteArray) (w:World) (hs:s.size≤9223372036854775000):
  Calls Tryz.prog 39 #[.string s] w (Rt w (dO s)):=by
 obtain ⟨V,hV⟩:=eqx (dO s)
 rw [←hV]
 have HV:=Lh hV
 clear hV
 have HZ:=Lh (Blk.new w 25 (bC Cap.zero))
 have HB:=Lh ((Below.refl _ w).alloc (Nat.le_refl _) (.cells (bC Cap.zero) 25))
 have HSE:=Lh (setRow_heap _ w.heap.size _ (bC Cap.zero) _ _ HZ.out)
 have HBE:=Lh (below_setRow HB.out (Nat.le_refl _) (bC Cap.zero))
 by_cases hs0:s.size=0
 ·have hnil:s.toList=([]:List UInt8):=by
   rw [ByteArray.toList_eq]
   have:s.data.toList.length=0:=by rw [bG];exact hs0
   exact List.length_eq_zero_iff.1 this
  have HVZ:=Lh (show V= .tuple #[.agg (bC Cap.zero),.int .i64 4] by rw [HV.out,dO,dec,if_pos hs0])
  clear hs0
  go_enter Tryz.func39,Tryz.ntmps39
  go_wp2_with (refine wpList_store_row rfl 25 _ _ rfl w.heap.size (bC Cap.zero) rfl rfl 25 _ HZ.out aX rfl (iC _) ?_)
  exact bodyPost_ret (aF rfl _ _ w.heap.size 25 (bC Cap.zero) (0,0) _ rfl HSE.out Tryz.underlying25 rfl aX) rfl ⟨by rw [HVZ.out];rfl,HBE.out⟩
 ·have i0:(0:Int) < (s.size:Int):=by omega
  have h00:0 < s.size:=by omega
  have hne:¬s.toList=([]:List UInt8):=by
   rw [ByteArray.toList_eq]
   intro h
   have:=congrArg List.length h
   rw [bG] at this
   exact hs0 this
  replace hne:s.toList.isEmpty=false:=by rw [List.isEmpty_eq_false_iff];exact hne
  have hb0:=bD s 0 h00
  have hlt0:=s[0].toNat_lt
  have HS0:=Lh hs0
  have HB0:=Lh hb0
  clear hs0 hb0
  by_cases h16:16≤s[0].toNat
  ·have e1:((s[0].toNat:Int) / 16%256 !=0)=true:=by rw [bne_iff_ne];omega
   have HVZ:=Lh (show V= .tuple #[.agg (bC Cap.zero),.int .i64 7] by rw [HV.out,dO,dec,if_neg HS0.out,if_pos (by rw [HB0.out];exact h16)])
   clear h16
   go_enter Tryz.func39,Tryz.ntmps39
   go_wp2_with (refine wpList_store_row rfl 25 _ _ rfl w.heap.size (bC Cap.zero) rfl rfl 25 _ HZ.out aX rfl (iC _) ?_)
   exact bodyPost_ret (aF rfl _ _ w.heap.size 25 (bC Cap.zero) (0,0) _ rfl HSE.out Tryz.underlying25 rfl aX) rfl ⟨by rw [HVZ.out];rfl,HBE.out⟩
  ·have e1:((s[0].toNat:Int) / 16%256 !=0)=false:=by rw [bne_eq_false_iff_eq];omega
   have h15:s[0].toNat < 16:=by omega
   clear h16
   go_enter Tryz.func39,Tryz.ntmps39
   go_wp2_with fail
   have e9:((s[0].toNat:Int) / 16 !=0)=false:=by rw [bne_eq_false_iff_eq];omega
   try rw [e9]
   have H15:=Lh h15
   clear e1 e9 h15 hlt0
   obtain ⟨W0,hW0⟩:=eqx (w.alloc (.cells (bC Cap.zero) 25))
   rw [←hW0] at HZ HB HSE HBE
   rw [capz,←hW0]
   clear hW0
   go_loopw [4,5] (fun f i wr=>∃j:Nat,j≤5∧i= .int .i64 (j:Int)∧f= .int .i64 (found s.size j)∧W0=wr) (fun _ i _=>(5 - intOf i).toNat)
   case atStart=>exact ⟨0,by omega,rfl,by rw [found_0],rfl⟩
   case round=>
    obtain ⟨j,hj,rfl,rfl,rfl⟩:=hrel
    obtain ⟨q,hq⟩:=eqx (found s.size j)
    rw [←hq]
    by_cases hlt:j < 5
    ·have HLT:=Lh hlt
     have HQ:=Lh hq
     have HJ:=Lh hj
     have i5:(j:Int) < 5:=by omega
     clear hq hlt hj
     go_wp2_with fail
     refine (SizeR_any j HLT.out _).mono ?_
     rintro e w2 ⟨rfl,rfl⟩
     obtain ⟨m,hm⟩:=eqx (Cap.size (j:Int))
     rw [←hm]
     have HM:=Lh hm
     clear hm
     by_cases hn:s.size=m
     ·have e2:((s.size:Int)==(m:Int))=true:=by rw [hn];simp
      have HN:=Lh hn
      clear hn
      go_wp2_with fail
      go_roundw
      case rel=>exact ⟨j+1,by have:=HLT.out;omega,by go_num,by rw [found_hit _ _ HLT.out (HN.out.trans HM.out)],by first | rfl | trivial⟩
      case measure=>simp [intOf];omega
     ·have e2:((s.size:Int)==(m:Int))=false:=by rw [beq_eq_false_iff_ne];omega
      have HN:=Lh hn
      clear hn
      go_wp2_with fail
      go_roundw
      case rel=>exact ⟨j+1,by have:=HLT.out;omega,by go_num,by rw [found_miss _ _ HLT.out (fun h=>HN.out (h.trans HM.out.symm)),←HQ.out],by first | rfl | trivial⟩
      case measure=>simp [intOf];omega
    ·obtain rfl:j=5:=by omega
     cases e:jD s.size with
     | none=>
      have hq':q= -1:=by rw [hq,found,e]
      subst hq'
      have HVZ:=Lh (show V= .tuple #[.agg (bC Cap.zero),.int .i64 5] by rw [HV.out,dO,dec,if_neg HS0.out,if_neg (by rw [HB0.out];have:=H15.out;omega),e])
      clear e hq
      go_wp2_with (refine wpList_store_row rfl 25 _ _ rfl w.heap.size (bC Cap.zero) rfl rfl 25 _ HZ.out aX rfl (iC _) ?_)
      exact bodyPost_ret (aF rfl _ _ w.heap.size 25 (bC Cap.zero) (0,0) _ rfl HSE.out Tryz.underlying25 rfl aX) rfl ⟨by rw [HVZ.out];rfl,HBE.out⟩
     | some fN=>
      have hz:s.size=Cap.size (fN:Int)∧fN < 5:=by
       rcases qJ s.size with ⟨z,e'⟩ | ⟨z,e'⟩ | ⟨z,e'⟩ | ⟨z,e'⟩ | ⟨z,e'⟩ | ⟨z,e'⟩<;>rw [e'] at e<;>cases e<;>exact ⟨z,by omega⟩
      obtain ⟨hzs,hf5⟩:=hz
      have hq':q=(fN:Int):=by rw [hq,found,e];simp only [];rw [if_pos hf5]
      subst hq'
      have h2:2≤s.size:=by rw [←(got_fields fN hf5 s hzs).2.2.2.2];omega
      have h22:s.size≤22:=by rw [hzs];exact size_le fN hf5
      have i1:(1:Int) < (s.size:Int):=by omega
      have h11:1 < s.size:=by omega
      have hb1:=bD s 1 h11
      have hlt1:=s[1].toNat_lt
      have HB1:=Lh hb1
      have HE:=Lh e
      have i6:(0:Int)≤(fN:Int):=by omega
      clear e hq hb1 hzs
      by_cases ho:s[1].toNat%2=0
      ·have e3:((s[1].toNat:Int)%2==0)=true:=by rw [beq_iff_eq];omega
       have HVZ:=Lh (show V= .tuple #[.agg (bC Cap.zero),.int .i64 2] by rw [HV.out,dO,dec,if_neg HS0.out,if_neg (by rw [HB0.out];have:=H15.out;omega),HE.out];simp only [];rw [if_pos (by rw [HB1.out];exact ho)])
       clear ho
       go_wp2_with (refine wpList_store_row rfl 25 _ _ rfl w.heap.size (bC Cap.zero) rfl rfl 25 _ HZ.out aX rfl (iC _) ?_)
       exact bodyPost_ret (aF rfl _ _ w.heap.size 25 (bC Cap.zero) (0,0) _ rfl HSE.out Tryz.underlying25 rfl aX) rfl ⟨by rw [HVZ.out];rfl,HBE.out⟩
      ·have e3:((s[1].toNat:Int)%2==0)=false:=by rw [beq_eq_false_iff_ne];omega
       have HVZ:=Lh (show V= .tuple #[.agg (bC (got fN s)),.int .i64 0] by rw [HV.out,dO,dec,if_neg HS0.out,if_neg (by rw [HB0.out];have:=H15.out;omega),HE.out];simp only [];rw [if_neg (by rw [HB1.out];exact ho)])
       obtain ⟨n,hn⟩:∃n:Nat,n=22 - s.size:=⟨_,rfl⟩
       have hni:(22:Int) - (s.size:Int)=(n:Int):=by omega
       have hn20:n≤20:=by omega
       have hmk:∀W,(Instr.makeSlice 61 (.int .i64 (n:Int)) (.int .i64 (n:Int))).run Tryz.prog W= .ok (.slice (some ⟨W.heap.size,0,none⟩) n n) (W.alloc (.cells (byv (List.replicate n 0)) 5)):=fun W=>make_any W n _ rfl (by omega)
       have hcv:=zeros_text W0 n n
       obtain ⟨Z,hZ⟩:=eqx (txt (List.replicate n 0))
       rw [←hZ] at hcv
       have hzz:Z.size=n:=by rw [hZ,aU,List.length_replicate]
       have HN:=Lh hn
       have HZT:=Lh hZ
       clear hn hZ ho
       go_wp2_with fail
       obtain ⟨A,hA⟩:=eqx (s++Z)
       rw [←hA]
       have hAs:A.size=22:=by rw [hA,ByteArray.size_append,hzz,HN.out];omega
       have hAn:∀k m,num A k m=num s k m:=fun k m=>by rw [hA,HZT.out];exact num_zeros s n k m
       have HAN:=Lh hAn
       obtain ⟨W1,hW1⟩:=eqx (W0.alloc (.cells (byv (List.replicate n 0)) 5))
       have HZ1:=Lh (show Blk W1.drew w.heap.size 25 (bC Cap.zero) by rw [hW1];exact (HZ.out.alloc _).drew)
       have HBD:=Lh (show Below w.heap.size w W1.drew by rw [hW1];exact (HB.out.alloc HB.out.size _).drew)
       rw [←hW1]
       clear hW1 hA hAn hmk hcv hzz e3 HSE HBE hni
       have k2:(2:Int)≤(A.size:Int):=by omega
       have k10:(10:Int)≤(A.size:Int):=by omega
       have k18:(18:Int)≤(A.size:Int):=by omega
       have k20:(20:Int)≤(A.size:Int):=by omega
       have k22:(22:Int)≤(A.size:Int):=by omega
       refine wp_region_still_tail 27 (by kernel_rfl) (by kernel_rfl) ?_
       simp only [List.take_succ_cons,List.take_zero,List.drop_succ_cons,List.drop_zero]
       change wpStill _ _ W1.drew _ _ _
       repeat (first | still_step | still_call (Num_s _ _ (by rw [ByteArray.size_extract];omega)))
       refine wpStill_nil ?_
       change wpList _ _ _ _ _ W1.drew
       refine wpList_store_row rfl 25 _ _ rfl w.heap.size (bC (got fN s)) rfl ?_ 25 _ HZ1.out aX rfl (iC _) ?_
       ·refine Eq.trans (b:=Value.agg #[.int .i64 (fN:Int),.int .i64 (IntKind.i64.wrap (s[0].toNat:Int)),.bool (decide ((128:Int)≤(s[1].toNat:Int))),.bool ((IntKind.u8.wrap ((s[1].toNat:Int) / 32)).tmod 2==1),.int .u64 (num (A.extract 2 10) 0 8:Nat),.int .u64 (num (A.extract 10 18) 0 8:Nat),.int .i64 (IntKind.i64.wrap (num (A.extract 18 20) 0 2:Nat)),.int .u16 (IntKind.u16.wrap (num (A.extract 20 22) 0 2:Nat))]) rfl ?_
        have n1:num (A.extract 2 10) 0 8=num s 2 8:=by rw [←HAN.out 2 8];exact kK A 2 8 (by omega)
        have n2:num (A.extract 10 18) 0 8=num s 10 8:=by rw [←HAN.out 10 8];exact kK A 10 8 (by omega)
        have n3:num (A.extract 18 20) 0 2=num s 18 2:=by rw [←HAN.out 18 2];exact kK A 18 2 (by omega)
        have n4:num (A.extract 20 22) 0 2=num s 20 2:=by rw [←HAN.out 20 2];exact kK A 20 2 (by omega)
        have l3:=fH s 18 2
        have l4:=fH s 20 2
        have w3:IntKind.i64.wrap ((num s 18 2:Nat):Int)=((num s 18 2:Nat):Int):=IntWalk.i64_in _ (by omega)
        have w4:IntKind.u16.wrap ((num s 20 2:Nat):Int)=((num s 20 2:Nat):Int):=by rw [IntKind.wrap_u16];omega
        have hq0:=s[0].toNat_lt
        have w0:IntKind.i64.wrap (s[0].toNat:Int)=(byteAt s 0:Int):=by rw [HB0.out];exact IntWalk.i64_in _ (by omega)
        have b1:decide ((128:Int)≤(s[1].toNat:Int))=decide (128≤byteAt s 1):=by rw [HB1.out];by_cases h:128≤s[1].toNat<;>simp [h]<;>omega
        have b2:((IntKind.u8.wrap ((s[1].toNat:Int) / 32)).tmod 2==1)=decide (byteAt s 1 / 32%2=1):=by
         rw [HB1.out]
         have:=byte_32 ⟨s[1].toNat,hlt1⟩
         exact this
        rw [n1,n2,n3,n4,w3,w4,w0,b1,b2]
        rfl
       have HB3:=Lh (below_setRow HBD.out (Nat.le_refl _) (bC (got fN s)))
       have HS3:=Lh (setRow_heap _ w.heap.size _ (bC (got fN s)) _ _ HZ1.out)
       clear HZ1 HBD
       go_wp2_with fail
       exact bodyPost_ret (aF rfl _ _ w.heap.size 25 (bC (got fN s)) (0,0) _ rfl HS3.out Tryz.underlying25 rfl aX) rfl ⟨by rw [HVZ.out];rfl,HB3.out⟩
end Go.Proofs.YtnlhhjhidkjlbaaGreatDoor.L9
