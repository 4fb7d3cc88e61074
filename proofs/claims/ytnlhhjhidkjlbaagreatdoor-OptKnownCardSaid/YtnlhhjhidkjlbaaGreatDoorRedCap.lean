/- RedCap. -/
import Derived.Test.YtnlhhjhidkjlbaaGreatDoorRedBase
import Derived.Laws.Tables
import Derived.Laws.Rows
import Derived.Laws.CopyOwn
import Derived.Deep.RegionHeld3
set_option maxHeartbeats 4000000
set_option maxRecDepth 100000
set_option linter.unusedVariables false
set_option linter.unusedSimpArgs false
namespace Go.Proofs.YtnlhhjhidkjlbaaGreatDoor.L9
structure Cap where
 form:Int
 ver:Int
 sums:Bool
 alone:Bool
 own:Nat
 peer:Nat
 len:Int
 sum:Nat
namespace Cap
structure Ok (x:Cap):Prop where
 form: -9223372036854775808≤x.form∧x.form≤9223372036854775807
 ver: -9223372036854775808≤x.ver∧x.ver≤9223372036854775807
 len: -9223372036854775808≤x.len∧x.len≤9223372036854775807
 own:x.own≤18446744073709551615
 peer:x.peer≤18446744073709551615
 sum:x.sum≤65535
abbrev May (x:Cap):Prop:=(0≤x.form∧x.form < 5)∧(0≤x.ver∧x.ver≤15)∧(0≤x.len∧x.len≤65535)∧(x.form < 1→x.own=0)∧(x.form < 2→x.peer=0)∧(x.form < 3→x.len=0)∧(x.form < 4→x.sum=0)
def flags (x:Cap):Nat:=1+(if x.sums then 128 else 0)+(if x.alone then 32 else 0)
def all (x:Cap):List UInt8:=be 1 x.ver.toNat++be 1 x.flags++be 8 x.own++be 8 x.peer++be 2 x.len.toNat++be 2 x.sum
def size (f:Int):Nat:=if f=0 then 2 else if f=1 then 10 else (14+2 * f).toNat
def body (x:Cap):List UInt8:=x.all.take (size x.form)
def zero:Cap:=⟨0,0,false,false,0,0,0,0⟩
def enc (x:Cap):ByteArray×Int:=if x.May then (txt x.body,0) else (txt [],2)
theorem flags_lt (x:Cap):x.flags < 256:=by unfold flags;split<;>split<;>omega
theorem dM:zero.Ok:=⟨by decide,by decide,by decide,by decide,by decide,by decide⟩
end Cap
def iP (n:Nat):Option Nat:=if n=2 then some 0 else if n=10 then some 1 else if n=18 then some 2 else if n=20 then some 3 else if n=22 then some 4 else none
def got (f:Nat) (s:ByteArray):Cap:=⟨(f:Int),(byteAt s 0:Int),decide (128≤byteAt s 1),decide (byteAt s 1 / 32%2=1),num s 2 8,num s 10 8,(num s 18 2:Int),num s 20 2⟩
def dec (s:ByteArray):Cap×Int:=
 if s.size=0 then (.zero,4) else if 16≤byteAt s 0 then (.zero,7) else match iP s.size with
  | none=>(.zero,5)
  | some f=>if byteAt s 1%2=0 then (.zero,2) else (got f s,0)
theorem formOf_cases (n:Nat):(n=2∧iP n=some 0)∨(n=10∧iP n=some 1)∨(n=18∧iP n=some 2)∨(n=20∧iP n=some 3)∨(n=22∧iP n=some 4)∨((n≠2∧n≠10∧n≠18∧n≠20∧n≠22)∧iP n=none):=by
 unfold iP
 by_cases h2:n=2
 ·exact .inl ⟨h2,if_pos h2⟩
 by_cases h10:n=10
 ·exact .inr (.inl ⟨h10,by rw [if_neg h2,if_pos h10]⟩)
 by_cases h18:n=18
 ·exact .inr (.inr (.inl ⟨h18,by rw [if_neg h2,if_neg h10,if_pos h18]⟩))
 by_cases h20:n=20
 ·exact .inr (.inr (.inr (.inl ⟨h20,by rw [if_neg h2,if_neg h10,if_neg h18,if_pos h20]⟩)))
 by_cases h22:n=22
 ·exact .inr (.inr (.inr (.inr (.inl ⟨h22,by rw [if_neg h2,if_neg h10,if_neg h18,if_neg h20,if_pos h22]⟩))))
 ·exact .inr (.inr (.inr (.inr (.inr ⟨⟨h2,h10,h18,h20,h22⟩,by rw [if_neg h2,if_neg h10,if_neg h18,if_neg h20,if_neg h22]⟩))))
namespace Cap
def front (x:Cap):List UInt8:=be 1 x.ver.toNat++be 1 x.flags
theorem front_length (x:Cap):x.front.length=2:=by simp [front,aH]
theorem jY (x:Cap) (r:List UInt8):(x.front++r).drop 2=r:=by rw [List.drop_append_of_le_length (by rw [front_length];omega),List.drop_of_length_le (by rw [front_length];omega),List.nil_append]
theorem yF (x:Cap) (h:x.form=0):x.body=x.front:=by
 unfold body size all;rw [if_pos h,←front]
 simp only [List.append_assoc]
 rw [List.take_append_of_le_length (by rw [front_length];omega),List.take_of_length_le (by rw [front_length];omega)]
theorem yK (x:Cap) (h:x.form=1):x.body=x.front++be 8 x.own:=by
 unfold body size all;rw [if_neg (by omega),if_pos h,←front]
 have:(x.front++be 8 x.own).length=10:=by simp [front_length,aH]
 simp only [List.append_assoc] at this ⊢
 rw [←List.append_assoc,List.take_append_of_le_length (by simp [front_length,aH]),List.take_of_length_le (by simp [front_length,aH])]
theorem body2 (x:Cap) (h:x.form=2):x.body=x.front++be 8 x.own++be 8 x.peer:=by
 unfold body size all;rw [if_neg (by omega),if_neg (by omega),h,←front]
 rw [List.append_assoc _ (be 2 _) (be 2 _),List.take_append_of_le_length (by simp [front_length,aH]),List.take_of_length_le (by simp [front_length,aH])]
theorem body3 (x:Cap) (h:x.form=3):x.body=x.front++be 8 x.own++be 8 x.peer++be 2 x.len.toNat:=by
 unfold body size all;rw [if_neg (by omega),if_neg (by omega),h,←front]
 rw [List.take_append_of_le_length (by simp [front_length,aH]),List.take_of_length_le (by simp [front_length,aH])]
theorem body4 (x:Cap) (h:x.form=4):x.body=x.front++be 8 x.own++be 8 x.peer++be 2 x.len.toNat++be 2 x.sum:=by
 unfold body size all;rw [if_neg (by omega),if_neg (by omega),h,←front]
 rw [List.take_of_length_le (by simp [front_length,aH])]
theorem body_front (x:Cap) (h:0≤x.form) (h':x.form < 5):∃r,x.body=x.front++r:=by
 have:x.form=0∨x.form=1∨x.form=2∨x.form=3∨x.form=4:=by omega
 rcases this with h | h | h | h | h
 ·exact ⟨[],by rw [x.yF h,List.append_nil]⟩
 ·exact ⟨_,x.yK h⟩
 ·exact ⟨_,by rw [x.body2 h,List.append_assoc]⟩
 ·exact ⟨_,by rw [x.body3 h,List.append_assoc,List.append_assoc]⟩
 ·exact ⟨_,by rw [x.body4 h,List.append_assoc,List.append_assoc,List.append_assoc]⟩
theorem gB (x:Cap) (h:0≤x.form) (h':x.form < 5):x.body.length=size x.form:=by
 have:x.form=0∨x.form=1∨x.form=2∨x.form=3∨x.form=4:=by omega
 rcases this with h | h | h | h | h
 ·rw [x.yF h,h,front_length];rfl
 ·rw [x.yK h,h];simp [front_length,aH,size]
 ·rw [x.body2 h,h];simp [front_length,aH,size]
 ·rw [x.body3 h,h];simp [front_length,aH,size]
 ·rw [x.body4 h,h];simp [front_length,aH,size]
theorem size_form (f:Int) (h:0≤f) (h':f < 5):iP (size f)=some f.toNat:=by
 have:f=0∨f=1∨f=2∨f=3∨f=4:=by omega
 rcases this with h | h | h | h | h<;>subst h<;>rfl
theorem got_of (x:Cap) (hx:x.Ok) (hm:x.May) (c:Nat) (hc:c < 256) (h1:decide (128≤c)=x.sums) (h2:decide (c / 32%2=1)=x.alone):got x.form.toNat (txt (be 1 x.ver.toNat++be 1 c++x.body.drop 2))=x:=by
 obtain ⟨⟨f0,f5⟩,⟨v0,v15⟩,⟨l0,l6⟩,mo,mp,ml,ms⟩:=hm
 have hcases:x.form=0∨x.form=1∨x.form=2∨x.form=3∨x.form=4:=by omega
 have hfl:(be 1 x.ver.toNat++be 1 c).length=2:=by simp [aH]
 have b0:∀r,byteAt (txt (be 1 x.ver.toNat++be 1 c++r)) 0=x.ver.toNat:=fun r=>by
  have:=bU [] (be 1 c++r) 0 1 x.ver.toNat rfl
  rw [List.nil_append,←List.append_assoc,jI] at this
  rw [this];omega
 have b1:∀r,byteAt (txt (be 1 x.ver.toNat++be 1 c++r)) 1=c:=fun r=>by
  have:=bU (be 1 x.ver.toNat) r 1 1 c (by rw [aH])
  rw [jI] at this
  rw [this];omega
 have eo:=hx.own
 have ep:=hx.peer
 have es:=hx.sum
 obtain ⟨form,ver,sums,alone,own,peer,len,sum⟩:=x
 simp only [] at *
 unfold got
 rw [b0,b1,h1,h2]
 have fin:∀a b l s',a=own→b=peer→l=len.toNat→s'=sum→(⟨(form.toNat:Int),(ver.toNat:Int),sums,alone,a,b,(l:Int),s'⟩:Cap)=⟨form,ver,sums,alone,own,peer,len,sum⟩:=by
  intro a b l s' e1 e2 e3 e4
  subst e1;subst e2;subst e4
  have:(l:Int)=len:=by omega
  rw [this,show (form.toNat:Int)=form by omega,show (ver.toNat:Int)=ver by omega]
 have past:∀(L:List UInt8) k m,L.length≤k→num (txt L) k m=0:=fun L k m h=>uH _ _ (by rw [aN];exact h) m
 rcases hcases with h | h | h | h | h
 ·rw [yF _ h,List.drop_of_length_le (by rw [front_length];omega),List.append_nil]
  exact fin _ _ _ _ (by rw [past _ _ _ (by omega),mo (by omega)]) (by rw [past _ _ _ (by omega),mp (by omega)]) (by rw [past _ _ _ (by omega),ml (by omega)];rfl) (by rw [past _ _ _ (by omega),ms (by omega)])
 ·rw [yK _ h,jY]
  have n1:=bU (be 1 ver.toNat++be 1 c) [] 2 8 own hfl
  rw [List.append_nil] at n1
  exact fin _ _ _ _ (by rw [n1];omega) (by rw [past _ _ _ (by simp [aH]),mp (by omega)]) (by rw [past _ _ _ (by simp [aH]),ml (by omega)];rfl) (by rw [past _ _ _ (by simp [aH]),ms (by omega)])
 ·rw [body2 _ h]
  simp only [List.append_assoc (front _)]
  rw [jY]
  have n1:=bU (be 1 ver.toNat++be 1 c) (be 8 peer) 2 8 own hfl
  have n2:=bU (be 1 ver.toNat++be 1 c++be 8 own) [] 10 8 peer (by simp [aH])
  rw [List.append_nil] at n2
  simp only [List.append_assoc] at n1 n2 ⊢
  exact fin _ _ _ _ (by rw [n1];omega) (by rw [n2];omega) (by rw [past _ _ _ (by simp [aH]),ml (by omega)];rfl) (by rw [past _ _ _ (by simp [aH]),ms (by omega)])
 ·rw [body3 _ h]
  simp only [List.append_assoc (front _)]
  rw [jY]
  have n1:=bU (be 1 ver.toNat++be 1 c) (be 8 peer++be 2 len.toNat) 2 8 own hfl
  have n2:=bU (be 1 ver.toNat++be 1 c++be 8 own) (be 2 len.toNat) 10 8 peer (by simp [aH])
  have n3:=bU (be 1 ver.toNat++be 1 c++be 8 own++be 8 peer) [] 18 2 len.toNat (by simp [aH])
  rw [List.append_nil] at n3
  simp only [List.append_assoc] at n1 n2 n3 ⊢
  exact fin _ _ _ _ (by rw [n1];omega) (by rw [n2];omega) (by rw [n3];omega) (by rw [past _ _ _ (by simp [aH]),ms (by omega)])
 ·rw [body4 _ h]
  simp only [List.append_assoc (front _)]
  rw [jY]
  have n1:=bU (be 1 ver.toNat++be 1 c) (be 8 peer++be 2 len.toNat++be 2 sum) 2 8 own hfl
  have n2:=bU (be 1 ver.toNat++be 1 c++be 8 own) (be 2 len.toNat++be 2 sum) 10 8 peer (by simp [aH])
  have n3:=bU (be 1 ver.toNat++be 1 c++be 8 own++be 8 peer) (be 2 sum) 18 2 len.toNat (by simp [aH])
  have n4:=bU (be 1 ver.toNat++be 1 c++be 8 own++be 8 peer++be 2 len.toNat) [] 20 2 sum (by simp [aH])
  rw [List.append_nil] at n4
  simp only [List.append_assoc] at n1 n2 n3 n4 ⊢
  exact fin _ _ _ _ (by rw [n1];omega) (by rw [n2];omega) (by rw [n3];omega) (by rw [n4];omega)
theorem yD (x:Cap) (hx:x.Ok) (hm:x.May) (c:Nat) (hc:c < 256) (h0:c%2=1) (h1:decide (128≤c)=x.sums) (h2:decide (c / 32%2=1)=x.alone):dec (txt (be 1 x.ver.toNat++be 1 c++x.body.drop 2))=(x,0):=by
 have g:=x.got_of hx hm c hc h1 h2
 obtain ⟨⟨f0,f5⟩,⟨v0,v15⟩,_⟩:=hm
 have hsz:(txt (be 1 x.ver.toNat++be 1 c++x.body.drop 2)).size=size x.form:=by
  have hb:=x.gB f0 f5
  obtain ⟨r,hr⟩:=x.body_front f0 f5
  have hr2:=congrArg List.length hr
  rw [List.length_append,front_length] at hr2
  rw [aN,List.length_append,List.length_append,aH,aH,List.length_drop]
  omega
 have b0:byteAt (txt (be 1 x.ver.toNat++be 1 c++x.body.drop 2)) 0=x.ver.toNat:=by
  have:=bU [] (be 1 c++x.body.drop 2) 0 1 x.ver.toNat rfl
  rw [List.nil_append,←List.append_assoc,jI] at this
  rw [this];omega
 have b1:byteAt (txt (be 1 x.ver.toNat++be 1 c++x.body.drop 2)) 1=c:=by
  have:=bU (be 1 x.ver.toNat) (x.body.drop 2) 1 1 c (by rw [aH])
  rw [jI] at this
  rw [this];omega
 have hs0:size x.form≠0:=by unfold size;split;omega;split<;>omega
 unfold dec
 rw [hsz,if_neg hs0,b0,if_neg (by omega),size_form _ f0 f5]
 simp only []
 rw [b1,if_neg (by omega),g]
theorem flags_odd (x:Cap):x.flags%2=1:=by unfold flags;split<;>split<;>omega
theorem flags_sums (x:Cap):decide (128≤x.flags)=x.sums:=by obtain ⟨_,_,s,a,_,_,_,_⟩:=x;cases s<;>cases a<;>rfl
theorem flags_alone (x:Cap):decide (x.flags / 32%2=1)=x.alone:=by obtain ⟨_,_,s,a,_,_,_,_⟩:=x;cases s<;>cases a<;>simp [flags]
theorem oN (x:Cap) (h:0≤x.form) (h':x.form < 5):x.body=be 1 x.ver.toNat++be 1 x.flags++x.body.drop 2:=by
 obtain ⟨r,hr⟩:=x.body_front h h'
 rw [hr,jY,front]
theorem kE (x:Cap) (hx:x.Ok) (hm:x.May):dec (txt x.body)=(x,0):=by
 have:=x.yD hx hm x.flags x.flags_lt x.flags_odd x.flags_sums x.flags_alone
 rwa [←x.oN hm.1.1 hm.1.2] at this
end Cap
open Go.ChangeShapes Go.WideShapes Go.ChangeAt Go.RowKit
abbrev dW (x:Cap):Array Value:=#[.int .i64 x.form,.int .i64 x.ver,.bool x.sums,.bool x.alone,.int .u64 (x.own:Int),.int .u64 (x.peer:Int),.int .i64 x.len,.int .u16 (x.sum:Int)]
theorem cZ:(Tryz.prog.info? 25).map (·.size)=some 8:=by kernel_rfl
theorem lM (x:Cap):(dW x).all (·.oneCell')=true:=by simp [Value.oneCell']
theorem fits_any (n k:Nat) (hn:n≤18446744073709551615) (hk:k≤64) (w:World):
  Calls Tryz.prog 164 #[.int .u64 (n:Int),.int .i64 (k:Int)] w fun e w'=>e= .returned (.bool (decide (n / 2 ^ k=0)))∧w=w':=by
 go_enter Tryz.func164,Tryz.ntmps164
 go_wp2
 go_ret
 refine ⟨eH ?_,rfl⟩
 have e:((n:Int) / 2 ^ k)=((n / 2 ^ k:Nat):Int):=by norm_cast
 rw [e]
 by_cases h:n / 2 ^ k=0
 ·rw [h];rfl
 ·rw [decide_eq_false h,beq_eq_false_iff_ne];omega
theorem qH (n k:Nat) (b:Bool) (hn:n≤18446744073709551615) (hk:k≤64) (hb:decide (n / 2 ^ k=0)=b) (N K:Int) (hN:N=(n:Int)) (hK:K=(k:Int)) (w:World):
  Calls Tryz.prog 164 #[.int .u64 N,.int .i64 K] w fun e w'=>e= .returned (.bool b)∧w=w':=by subst hN hK hb;exact fits_any n k hn hk w
theorem flagsOf_any (x:Cap) (w:World):
  Calls Tryz.prog 111 #[.agg (dW x)] w (Rt w (.int .u64 (x.flags:Int))):=by
 obtain ⟨form,ver,sums,alone,own,peer,len,sum⟩:=x
 cases sums<;>cases alone
 all_goals
  go_enter Tryz.func111,Tryz.ntmps111
  go_wp2
  go_ret;exact ⟨kM (by simp [Cap.flags];try decide),(Below.refl _ _).alloc (Nat.le_refl _) _⟩
theorem put_0 (s:ByteArray) (n:Nat) (w:World):
  Calls Tryz.prog 110 #[.string s,.int .i64 0,.int .u64 (n:Int)] w (Rt w (.string s)):=by
 go_enter Tryz.func110,Tryz.ntmps110
 go_wp2
 go_ret;exact ⟨rfl,Below.refl _ _⟩
theorem put_1 (s:ByteArray) (n:Nat) (w:World) (hs:s.size≤9223372036854775000) (hn:n≤255):
  Calls Tryz.prog 110 #[.string s,.int .i64 1,.int .u64 (n:Int)] w (Rt w (.string (s++txt (be 1 n)))):=by
 have e:(n:Int)%256=(n:Int):=by omega
 go_enter Tryz.func110,Tryz.ntmps110
 go_wp2_with fail
 try rw [e]
 refine (dB s n w hs hn).mono ?_
 rintro e w' ⟨rfl,b⟩
 go_wp2
 go_ret;exact ⟨rfl,b⟩
theorem put_2 (s:ByteArray) (n:Nat) (w:World) (hs:s.size≤9223372036854775000) (hn:n≤65535):
  Calls Tryz.prog 110 #[.string s,.int .i64 2,.int .u64 (n:Int)] w (Rt w (.string (s++txt (be 2 n)))):=by
 have e:IntKind.u16.wrap (n:Int)=(n:Int):=by rw [IntKind.wrap_u16];omega
 go_enter Tryz.func110,Tryz.ntmps110
 go_wp2_with fail
 try rw [e]
 refine (qV s n w hs hn).mono ?_
 rintro e w' ⟨rfl,b⟩
 go_wp2
 go_ret;exact ⟨rfl,b⟩
theorem put_8 (s:ByteArray) (n:Nat) (w:World) (hs:s.size≤9223372036854775000) (hn:n≤18446744073709551615):
  Calls Tryz.prog 110 #[.string s,.int .i64 8,.int .u64 (n:Int)] w (Rt w (.string (s++txt (be 8 n)))):=by
 go_enter Tryz.func110,Tryz.ntmps110
 go_wp2_with fail
 refine (rG s n w hs hn).mono ?_
 rintro e w' ⟨rfl,b⟩
 go_wp2
 go_ret;exact ⟨rfl,b⟩
theorem put_any (s:ByteArray) (m n:Nat) (w:World) (hs:s.size≤9223372036854775000) (hm:m=0∨m=1∨m=2∨m=8) (hn:n < 256 ^ m) (t:ByteArray) (ht:s++txt (be m n)=t):
  Calls Tryz.prog 110 #[.string s,.int .i64 (m:Int),.int .u64 (n:Int)] w (Rt w (.string t)):=by
 subst ht
 rcases hm with rfl | rfl | rfl | rfl
 ·have:=put_0 s n w
  rwa [show be 0 n=[] from rfl,nT]
 ·exact put_1 s n w hs (by omega)
 ·exact put_2 s n w hs (by omega)
 ·exact put_8 s n w hs (by omega)
def dF (f:Int):Nat:=if 1≤f∧f≤4 then 8 else 0
def bD (f:Int):Nat:=if 2≤f∧f≤4 then 8 else 0
def dV (f:Int):Nat:=if 3≤f∧f≤4 then 2 else 0
def dY (f:Int):Nat:=if f=4 then 2 else 0
theorem yR (f:Int):dF f=0∨dF f=1∨dF f=2∨dF f=8:=by unfold dF;split<;>omega
theorem wR (f:Int):bD f=0∨bD f=1∨bD f=2∨bD f=8:=by unfold bD;split<;>omega
theorem zD (f:Int):dV f=0∨dV f=1∨dV f=2∨dV f=8:=by unfold dV;split<;>omega
theorem zK (f:Int):dY f=0∨dY f=1∨dY f=2∨dY f=8:=by unfold dY;split<;>omega
abbrev qM (f:Int):Array Value:=#[.int .i64 (dF f:Int),.int .i64 (bD f:Int),.int .i64 (dV f:Int),.int .i64 (dY f:Int)]
theorem fQ:(Tryz.prog.info? 161).map (·.size)=some 4:=by kernel_rfl
theorem kG (f:Int) (w:World) (b:Bool) (tmps:Array Value) (W:World) (hW:W=(w.alloc (.cells (qM f) 161)).alloc (.cells (qM f) 161)) (ht:tmps.getD 2 undef= .pointer (some ⟨w.heap.size,0,none⟩)):
  (results Tryz.f109 tmps).run Tryz.prog W= .ok (.agg (qM f)) W:=by
 subst hW
 exact results_cell_row rfl _ _ w.heap.size 161 (qM f) (0,0) _ ht ((Blk.new w 161 (qM f)).alloc _) Tryz.underlying161 rfl fQ
theorem jQ (f:Int) (w:World):
  Calls Tryz.prog 109 #[.int .i64 f] w (Rt w (.agg (qM f))):=by
 have hb:Below w.heap.size w ((w.alloc (.cells (qM f) 161)).alloc (.cells (qM f) 161)):=((Below.refl _ w).alloc (Nat.le_refl _) _).alloc (by simp) _
 have HB:=Lh hb
 clear hb
 have cs:f=4∨f=3∨f=2∨f=1∨(¬f=4∧¬f=3∧¬f=2∧¬f=1):=by omega
 rcases cs with rfl | rfl | rfl | rfl | ⟨n4,n3,n2,n1⟩
 ·go_enter Tryz.func109,Tryz.ntmps109
  go_wp2_with fail
  exact bodyPost_ret (kG 4 w true _ _ rfl rfl) rfl ⟨rfl,HB.out⟩
 ·go_enter Tryz.func109,Tryz.ntmps109
  go_wp2_with fail
  exact bodyPost_ret (kG 3 w true _ _ rfl rfl) rfl ⟨rfl,HB.out⟩
 ·go_enter Tryz.func109,Tryz.ntmps109
  go_wp2_with fail
  exact bodyPost_ret (kG 2 w true _ _ rfl rfl) rfl ⟨rfl,HB.out⟩
 ·go_enter Tryz.func109,Tryz.ntmps109
  go_wp2_with fail
  exact bodyPost_ret (kG 1 w true _ _ rfl rfl) rfl ⟨rfl,HB.out⟩
 ·have z1:dF f=0:=by unfold dF;rw [if_neg (by omega)]
  have z2:bD f=0:=by unfold bD;rw [if_neg (by omega)]
  have z3:dV f=0:=by unfold dV;rw [if_neg (by omega)]
  have z4:dY f=0:=by unfold dY;rw [if_neg (by omega)]
  have hv:qM f=#[.int .i64 0,.int .i64 0,.int .i64 0,.int .i64 0]:=by simp [z1,z2,z3,z4]
  have HV:=Lh hv
  clear hv z1 z2 z3 z4
  go_enter Tryz.func109,Tryz.ntmps109
  go_wp2_with fail
  exact bodyPost_ret (kG f w true _ _ (by rw [HV.out]) rfl) rfl ⟨rfl,by have:=HB.out;rwa [HV.out] at this⟩
theorem dO (f:Int) (cs:Array Value) (hcs:qM f=cs) (w:World):
  Calls Tryz.prog 109 #[.int .i64 f] w (Rt w (.agg cs)):=by subst hcs;exact jQ f w
def vK (n:Nat):Value:=match iP n with | some f=> .tuple #[.int .i64 (f:Int),.bool true] | none=> .tuple #[.int .i64 0,.bool false]
theorem formOf_any (n:Nat) (hn:n≤9223372036854775807) (w:World):
  Calls Tryz.prog 113 #[.int .i64 (n:Int)] w (Rt w (vK n)):=by
 go_enter Tryz.func113,Tryz.ntmps113
 go_wp2_with fail
 go_loopw [6] (fun i wr=>∃j:Nat,j≤5∧i= .int .i64 (j:Int)∧(∀k:Nat,k < j→n≠Cap.size (k:Int))∧Below w.heap.size w wr) (fun i _=>(5 - intOf i).toNat)
 case atStart=>exact ⟨0,by omega,rfl,fun k hk=>by omega,Below.refl _ _⟩
 case round=>
  obtain ⟨j,hj,rfl,hN,hB⟩:=hrel
  have HB:=Lh hB
  have HN:=Lh hN
  clear hB hN
  have yE:j=0∨j=1∨j=2∨j=3∨j=4∨j=5:=by omega
  clear hj
  rcases yE with rfl | rfl | rfl | rfl | rfl | rfl
  ·by_cases hs:n=2
   ·have e0:((2:Int)==(n:Int))=true:=by rw [hs];rfl
    have HS:=Lh hs
    clear hs
    go_wp2_with fail
    refine (dO 0 #[.int .i64 0,.int .i64 0,.int .i64 0,.int .i64 0] rfl wr).mono ?_
    rintro e W ⟨rfl,b⟩
    have HBW:=Lh (HB.out.trans (b.mono HB.out.size))
    clear b
    go_wp2_with (refine wpList_store_row rfl 161 _ _ rfl W.heap.size #[.int .i64 0,.int .i64 0,.int .i64 0,.int .i64 0] rfl rfl 161 #[.int .i64 0,.int .i64 0,.int .i64 0,.int .i64 0] ?_ fQ rfl (by simp [Value.oneCell']) ?_;exact heap_alloc_new W _;rw [World.setRow_alloc_new])
    go_ret2
    exact ⟨by rw [HS.out];rfl,HBW.out.alloc HBW.out.size _⟩
   ·have e0:((2:Int)==(n:Int))=false:=by rw [beq_eq_false_iff_ne];omega
    have HS:=Lh hs
    clear hs
    go_wp2_with fail
    refine (dO 0 #[.int .i64 0,.int .i64 0,.int .i64 0,.int .i64 0] rfl wr).mono ?_
    rintro e W ⟨rfl,b⟩
    have HBW:=Lh (HB.out.trans (b.mono HB.out.size))
    clear b
    go_wp2_with (refine wpList_store_row rfl 161 _ _ rfl W.heap.size #[.int .i64 0,.int .i64 0,.int .i64 0,.int .i64 0] rfl rfl 161 #[.int .i64 0,.int .i64 0,.int .i64 0,.int .i64 0] ?_ fQ rfl (by simp [Value.oneCell']) ?_;exact heap_alloc_new W _;rw [World.setRow_alloc_new])
    go_roundw
    case rel=>exact ⟨1,by omega,by go_num,fun k hk=>by rcases (show k < 0∨k=0 by omega) with h | h;exact HN.out k h;subst h;exact fun e=>HS.out e,HBW.out.alloc HBW.out.size _⟩
    case measure=>simp [intOf]
  ·by_cases hs:n=10
   ·have e0:((10:Int)==(n:Int))=true:=by rw [hs];rfl
    have HS:=Lh hs
    clear hs
    go_wp2_with fail
    refine (dO 1 #[.int .i64 8,.int .i64 0,.int .i64 0,.int .i64 0] rfl wr).mono ?_
    rintro e W ⟨rfl,b⟩
    have HBW:=Lh (HB.out.trans (b.mono HB.out.size))
    clear b
    go_wp2_with (refine wpList_store_row rfl 161 _ _ rfl W.heap.size #[.int .i64 8,.int .i64 0,.int .i64 0,.int .i64 0] rfl rfl 161 #[.int .i64 0,.int .i64 0,.int .i64 0,.int .i64 0] ?_ fQ rfl (by simp [Value.oneCell']) ?_;exact heap_alloc_new W _;rw [World.setRow_alloc_new])
    go_ret2
    exact ⟨by rw [HS.out];rfl,HBW.out.alloc HBW.out.size _⟩
   ·have e0:((10:Int)==(n:Int))=false:=by rw [beq_eq_false_iff_ne];omega
    have HS:=Lh hs
    clear hs
    go_wp2_with fail
    refine (dO 1 #[.int .i64 8,.int .i64 0,.int .i64 0,.int .i64 0] rfl wr).mono ?_
    rintro e W ⟨rfl,b⟩
    have HBW:=Lh (HB.out.trans (b.mono HB.out.size))
    clear b
    go_wp2_with (refine wpList_store_row rfl 161 _ _ rfl W.heap.size #[.int .i64 8,.int .i64 0,.int .i64 0,.int .i64 0] rfl rfl 161 #[.int .i64 0,.int .i64 0,.int .i64 0,.int .i64 0] ?_ fQ rfl (by simp [Value.oneCell']) ?_;exact heap_alloc_new W _;rw [World.setRow_alloc_new])
    go_roundw
    case rel=>exact ⟨2,by omega,by go_num,fun k hk=>by rcases (show k < 1∨k=1 by omega) with h | h;exact HN.out k h;subst h;exact fun e=>HS.out e,HBW.out.alloc HBW.out.size _⟩
    case measure=>simp [intOf]
  ·by_cases hs:n=18
   ·have e0:((18:Int)==(n:Int))=true:=by rw [hs];rfl
    have HS:=Lh hs
    clear hs
    go_wp2_with fail
    refine (dO 2 #[.int .i64 8,.int .i64 8,.int .i64 0,.int .i64 0] rfl wr).mono ?_
    rintro e W ⟨rfl,b⟩
    have HBW:=Lh (HB.out.trans (b.mono HB.out.size))
    clear b
    go_wp2_with (refine wpList_store_row rfl 161 _ _ rfl W.heap.size #[.int .i64 8,.int .i64 8,.int .i64 0,.int .i64 0] rfl rfl 161 #[.int .i64 0,.int .i64 0,.int .i64 0,.int .i64 0] ?_ fQ rfl (by simp [Value.oneCell']) ?_;exact heap_alloc_new W _;rw [World.setRow_alloc_new])
    go_ret2
    exact ⟨by rw [HS.out];rfl,HBW.out.alloc HBW.out.size _⟩
   ·have e0:((18:Int)==(n:Int))=false:=by rw [beq_eq_false_iff_ne];omega
    have HS:=Lh hs
    clear hs
    go_wp2_with fail
    refine (dO 2 #[.int .i64 8,.int .i64 8,.int .i64 0,.int .i64 0] rfl wr).mono ?_
    rintro e W ⟨rfl,b⟩
    have HBW:=Lh (HB.out.trans (b.mono HB.out.size))
    clear b
    go_wp2_with (refine wpList_store_row rfl 161 _ _ rfl W.heap.size #[.int .i64 8,.int .i64 8,.int .i64 0,.int .i64 0] rfl rfl 161 #[.int .i64 0,.int .i64 0,.int .i64 0,.int .i64 0] ?_ fQ rfl (by simp [Value.oneCell']) ?_;exact heap_alloc_new W _;rw [World.setRow_alloc_new])
    go_roundw
    case rel=>exact ⟨3,by omega,by go_num,fun k hk=>by rcases (show k < 2∨k=2 by omega) with h | h;exact HN.out k h;subst h;exact fun e=>HS.out e,HBW.out.alloc HBW.out.size _⟩
    case measure=>simp [intOf]
  ·by_cases hs:n=20
   ·have e0:((20:Int)==(n:Int))=true:=by rw [hs];rfl
    have HS:=Lh hs
    clear hs
    go_wp2_with fail
    refine (dO 3 #[.int .i64 8,.int .i64 8,.int .i64 2,.int .i64 0] rfl wr).mono ?_
    rintro e W ⟨rfl,b⟩
    have HBW:=Lh (HB.out.trans (b.mono HB.out.size))
    clear b
    go_wp2_with (refine wpList_store_row rfl 161 _ _ rfl W.heap.size #[.int .i64 8,.int .i64 8,.int .i64 2,.int .i64 0] rfl rfl 161 #[.int .i64 0,.int .i64 0,.int .i64 0,.int .i64 0] ?_ fQ rfl (by simp [Value.oneCell']) ?_;exact heap_alloc_new W _;rw [World.setRow_alloc_new])
    go_ret2
    exact ⟨by rw [HS.out];rfl,HBW.out.alloc HBW.out.size _⟩
   ·have e0:((20:Int)==(n:Int))=false:=by rw [beq_eq_false_iff_ne];omega
    have HS:=Lh hs
    clear hs
    go_wp2_with fail
    refine (dO 3 #[.int .i64 8,.int .i64 8,.int .i64 2,.int .i64 0] rfl wr).mono ?_
    rintro e W ⟨rfl,b⟩
    have HBW:=Lh (HB.out.trans (b.mono HB.out.size))
    clear b
    go_wp2_with (refine wpList_store_row rfl 161 _ _ rfl W.heap.size #[.int .i64 8,.int .i64 8,.int .i64 2,.int .i64 0] rfl rfl 161 #[.int .i64 0,.int .i64 0,.int .i64 0,.int .i64 0] ?_ fQ rfl (by simp [Value.oneCell']) ?_;exact heap_alloc_new W _;rw [World.setRow_alloc_new])
    go_roundw
    case rel=>exact ⟨4,by omega,by go_num,fun k hk=>by rcases (show k < 3∨k=3 by omega) with h | h;exact HN.out k h;subst h;exact fun e=>HS.out e,HBW.out.alloc HBW.out.size _⟩
    case measure=>simp [intOf]
  ·by_cases hs:n=22
   ·have e0:((22:Int)==(n:Int))=true:=by rw [hs];rfl
    have HS:=Lh hs
    clear hs
    go_wp2_with fail
    refine (dO 4 #[.int .i64 8,.int .i64 8,.int .i64 2,.int .i64 2] rfl wr).mono ?_
    rintro e W ⟨rfl,b⟩
    have HBW:=Lh (HB.out.trans (b.mono HB.out.size))
    clear b
    go_wp2_with (refine wpList_store_row rfl 161 _ _ rfl W.heap.size #[.int .i64 8,.int .i64 8,.int .i64 2,.int .i64 2] rfl rfl 161 #[.int .i64 0,.int .i64 0,.int .i64 0,.int .i64 0] ?_ fQ rfl (by simp [Value.oneCell']) ?_;exact heap_alloc_new W _;rw [World.setRow_alloc_new])
    go_ret2
    exact ⟨by rw [HS.out];rfl,HBW.out.alloc HBW.out.size _⟩
   ·have e0:((22:Int)==(n:Int))=false:=by rw [beq_eq_false_iff_ne];omega
    have HS:=Lh hs
    clear hs
    go_wp2_with fail
    refine (dO 4 #[.int .i64 8,.int .i64 8,.int .i64 2,.int .i64 2] rfl wr).mono ?_
    rintro e W ⟨rfl,b⟩
    have HBW:=Lh (HB.out.trans (b.mono HB.out.size))
    clear b
    go_wp2_with (refine wpList_store_row rfl 161 _ _ rfl W.heap.size #[.int .i64 8,.int .i64 8,.int .i64 2,.int .i64 2] rfl rfl 161 #[.int .i64 0,.int .i64 0,.int .i64 0,.int .i64 0] ?_ fQ rfl (by simp [Value.oneCell']) ?_;exact heap_alloc_new W _;rw [World.setRow_alloc_new])
    go_roundw
    case rel=>exact ⟨5,by omega,by go_num,fun k hk=>by rcases (show k < 4∨k=4 by omega) with h | h;exact HN.out k h;subst h;exact fun e=>HS.out e,HBW.out.alloc HBW.out.size _⟩
    case measure=>simp [intOf]
  ·go_wp2_with fail
   go_ret2
   refine ⟨?_,HB.out⟩
   have h0:=HN.out 0 (by omega)
   have h1:=HN.out 1 (by omega)
   have h2:=HN.out 2 (by omega)
   have h3:=HN.out 3 (by omega)
   have h4:=HN.out 4 (by omega)
   rw [show Cap.size ((0:Nat):Int)=2 from rfl] at h0
   rw [show Cap.size ((1:Nat):Int)=10 from rfl] at h1
   rw [show Cap.size ((2:Nat):Int)=18 from rfl] at h2
   rw [show Cap.size ((3:Nat):Int)=20 from rfl] at h3
   rw [show Cap.size ((4:Nat):Int)=22 from rfl] at h4
   unfold vK iP
   rw [if_neg h0,if_neg h1,if_neg h2,if_neg h3,if_neg h4]
   rfl
open Go.ChangeShapes Go.WideShapes Go.ChangeAt Go.RowKit
def uns (z:Int):Nat:=(z%18446744073709551616).toNat
theorem uns_le (z:Int):uns z≤18446744073709551615:=by unfold uns;omega
theorem uns_of (z:Int):z%18446744073709551616=(uns z:Int):=by unfold uns;omega
theorem small (n k:Nat):n / 2 ^ k=0↔n < 2 ^ k:=by
 rw [Nat.div_eq_zero_iff]
 have:=Nat.two_pow_pos k
 omega
theorem may_fits (x:Cap) (hx:x.Ok):x.May↔(((((((0≤x.form)∧(x.form < 5))∧uns x.ver / 2 ^ 4=0)∧x.own / 2 ^ (8 * dF x.form)=0)∧x.peer / 2 ^ (8 * bD x.form)=0)∧uns x.len / 2 ^ (8 * dV x.form)=0)∧x.sum / 2 ^ (8 * dY x.form)=0):=by
 simp only [small]
 by_cases hf:0≤x.form∧x.form < 5
 ·obtain ⟨form,ver,sums,alone,own,peer,len,sum⟩:=x
  obtain ⟨_,h1,h2,h3,h4,h5⟩:=hx
  simp only [Cap.May] at *
  obtain ⟨f0,f5⟩:=hf
  have:form=0∨form=1∨form=2∨form=3∨form=4:=by omega
  rcases this with rfl | rfl | rfl | rfl | rfl<;>simp only [dF,bD,dV,dY,uns]<;>simp<;>omega
 ·constructor
  ·intro h;exact absurd h.1 hf
  ·intro h;exact absurd h.1.1.1.1.1 hf
theorem kOwn (f:Int):wrap64 (8 * (dF f:Int))=((8 * dF f:Nat):Int):=by unfold dF;split<;>kernel_rfl
theorem kPeer (f:Int):wrap64 (8 * (bD f:Int))=((8 * bD f:Nat):Int):=by unfold bD;split<;>kernel_rfl
theorem kLen (f:Int):wrap64 (8 * (dV f:Int))=((8 * dV f:Nat):Int):=by unfold dV;split<;>kernel_rfl
theorem kSum (f:Int):wrap64 (8 * (dY f:Int))=((8 * dY f:Nat):Int):=by unfold dY;split<;>kernel_rfl
theorem wOwn_le (f:Int):8 * dF f≤64:=by unfold dF;split<;>omega
theorem wPeer_le (f:Int):8 * bD f≤64:=by unfold bD;split<;>omega
theorem wLen_le (f:Int):8 * dV f≤64:=by unfold dV;split<;>omega
theorem wSum_le (f:Int):8 * dY f≤64:=by unfold dY;split<;>omega
theorem dX (x:Cap) (hx:x.Ok) (w:World):
  Calls Tryz.prog 108 #[.agg (dW x)] w (Rt w (.bool (decide x.May))):=by
 obtain ⟨M,hM⟩:=eqx (decide x.May)
 rw [←hM]
 obtain ⟨b1,hb1⟩:∃b,b=decide (uns x.ver / 2 ^ 4=0):=⟨_,rfl⟩
 obtain ⟨b2,hb2⟩:∃b,b=decide (x.own / 2 ^ (8 * dF x.form)=0):=⟨_,rfl⟩
 obtain ⟨b3,hb3⟩:∃b,b=decide (x.peer / 2 ^ (8 * bD x.form)=0):=⟨_,rfl⟩
 obtain ⟨b4,hb4⟩:∃b,b=decide (uns x.len / 2 ^ (8 * dV x.form)=0):=⟨_,rfl⟩
 obtain ⟨b5,hb5⟩:∃b,b=decide (x.sum / 2 ^ (8 * dY x.form)=0):=⟨_,rfl⟩
 have hm:M=(decide (0≤x.form) && decide (x.form < 5) && b1 && b2 && b3 && b4 && b5):=by
  subst hb1 hb2 hb3 hb4 hb5
  rw [hM,Bool.eq_iff_iff]
  simp only [Bool.and_eq_true,decide_eq_true_eq]
  exact may_fits x hx
 have HX:=Lh hx
 have HM:=Lh hm
 have H1:=Lh hb1.symm
 have H2:=Lh hb2.symm
 have H3:=Lh hb3.symm
 have H4:=Lh hb4.symm
 have H5:=Lh hb5.symm
 clear hx hM hm hb1 hb2 hb3 hb4 hb5
 go_enter Tryz.func108,Tryz.ntmps108
 go_wp2_with fail
 refine (jQ x.form _).mono ?_
 rintro e W ⟨rfl,b⟩
 have HB:=Lh (((Below.refl _ w).alloc (Nat.le_refl _) (.cells (dW x) 25)).trans (b.mono (by simp)))
 have hc:=(Blk.new w 25 (dW x)).below b (by simp)
 clear b
 obtain ⟨W2,hW2⟩:=eqx (W.alloc (.cells #[.int .i64 (dF x.form:Int),.int .i64 (bD x.form:Int),.int .i64 (dV x.form:Int),.int .i64 (dY x.form:Int)] 161))
 have HC:=Lh (show Blk W2 w.heap.size 25 (dW x) by rw [hW2];exact hc.alloc _)
 have HV:=Lh (show Blk W2 W.heap.size 161 (qM x.form) by rw [hW2];exact Blk.new _ _ _)
 have HB2:=Lh (show Below w.heap.size w W2 by rw [hW2];exact HB.out.alloc HB.out.size _)
 have HW2:=Lh hW2
 clear hW2 hc
 have c0:=HC.out.cell 0
 have c1:=HC.out.cell 1
 have c4:=HC.out.cell 4
 have c5:=HC.out.cell 5
 have c6:=HC.out.cell 6
 have c7:=HC.out.cell 7
 have v0:=HV.out.cell 0
 have v1:=HV.out.cell 1
 have v2:=HV.out.cell 2
 have v3:=HV.out.cell 3
 simp only [List.getElem?_toArray,List.getElem?_cons_zero,List.getElem?_cons_succ] at c0 c1 c4 c5 c6 c7 v0 v1 v2 v3
 have a0:=c0
 have a1:=c1
 rw [HW2.out] at a0 a1
 by_cases h0:0≤x.form
 ·by_cases h5:x.form < 5
  ·go_wp2_with fail
   rw [←HW2.out]
   clear a0 a1
   refine (qH (uns x.ver) 4 b1 (uns_le _) (by decide) H1.out _ _ (uns_of _) rfl W2).mono ?_
   rintro e w' ⟨rfl,rfl⟩
   cases b1
   ·go_wp2_with fail
    go_ret;exact ⟨eH (by rw [HM.out];simp),HB2.out⟩
   go_wp2_with fail
   refine (qH x.own (8 * dF x.form) b2 HX.out.own (wOwn_le _) H2.out _ _ rfl (kOwn _) W2).mono ?_
   rintro e w' ⟨rfl,rfl⟩
   cases b2
   ·go_wp2_with fail
    go_ret;exact ⟨eH (by rw [HM.out];simp),HB2.out⟩
   go_wp2_with fail
   refine (qH x.peer (8 * bD x.form) b3 HX.out.peer (wPeer_le _) H3.out _ _ rfl (kPeer _) W2).mono ?_
   rintro e w' ⟨rfl,rfl⟩
   cases b3
   ·go_wp2_with fail
    go_ret;exact ⟨eH (by rw [HM.out];simp),HB2.out⟩
   go_wp2_with fail
   refine (qH (uns x.len) (8 * dV x.form) b4 (uns_le _) (wLen_le _) H4.out _ _ (uns_of _) (kLen _) W2).mono ?_
   rintro e w' ⟨rfl,rfl⟩
   cases b4
   ·go_wp2_with fail
    go_ret;exact ⟨eH (by rw [HM.out];simp),HB2.out⟩
   go_wp2_with fail
   refine (qH x.sum (8 * dY x.form) b5 (by have:=HX.out.sum;omega) (wSum_le _) H5.out _ _ (by have:=HX.out.sum;rw [IntKind.wrap_u64];omega) (kSum _) W2).mono ?_
   rintro e w' ⟨rfl,rfl⟩
   cases b5
   ·go_wp2_with fail
    go_ret;exact ⟨eH (by rw [HM.out];simp),HB2.out⟩
   ·go_wp2_with fail
    go_ret;exact ⟨eH (by rw [HM.out];simp [h0,h5]),HB2.out⟩
  ·go_wp2_with fail
   rw [←HW2.out]
   go_ret;exact ⟨eH (by rw [HM.out,decide_eq_false (by omega:¬x.form < 5)];simp),HB2.out⟩
 ·go_wp2_with fail
  rw [←HW2.out]
  go_ret;exact ⟨eH (by rw [HM.out,decide_eq_false (by omega:¬0≤x.form)];simp),HB2.out⟩
theorem rU (s:ByteArray) (m n:Nat) (N M:Int) (w:World) (hs:s.size≤9223372036854775000) (hm:m=0∨m=1∨m=2∨m=8) (hn:n < 256 ^ m) (t:ByteArray) (ht:s++txt (be m n)=t) (hN:N=(n:Int)) (hM:M=(m:Int)):
  Calls Tryz.prog 110 #[.string s,.int .i64 M,.int .u64 N] w (Rt w (.string t)):=by
 subst hN hM;exact put_any s m n w hs hm hn t ht
def dA (x:Cap):Value:=.tuple #[.string x.enc.1,.int .i64 x.enc.2]
theorem lS (x:Cap) (h:x.May):dA x= .tuple #[.string (txt x.body),.int .i64 0]:=by unfold dA Cap.enc;rw [if_pos h]
theorem o6 (x:Cap) (h:¬x.May):dA x= .tuple #[.string ⟨#[]⟩,.int .i64 2]:=by unfold dA Cap.enc;rw [if_neg h];rfl
theorem laid_body (x:Cap) (h:x.May):txt (be 1 x.ver.toNat)++txt (be 1 x.flags)++txt (be (dF x.form) x.own)++txt (be (bD x.form) x.peer)++txt (be (dV x.form) x.len.toNat)++txt (be (dY x.form) x.sum)=txt x.body:=by
 obtain ⟨⟨f0,f5⟩,_⟩:=h
 have:x.form=0∨x.form=1∨x.form=2∨x.form=3∨x.form=4:=by omega
 simp only [dU]
 rcases this with h | h | h | h | h
 ·rw [x.yF h,h];simp [dF,bD,dV,dY,be,Cap.front]
 ·rw [x.yK h,h];simp [dF,bD,dV,dY,be,Cap.front]
 ·rw [x.body2 h,h];simp [dF,bD,dV,dY,be,Cap.front]
 ·rw [x.body3 h,h];simp [dF,bD,dV,dY,be,Cap.front]
 ·rw [x.body4 h,h];simp [dF,bD,dV,dY,Cap.front]
theorem w_own (x:Cap) (hx:x.Ok) (h:x.May):x.own < 256 ^ dF x.form:=by
 have:=hx.own;obtain ⟨⟨f0,f5⟩,_,_,ho,_⟩:=h
 unfold dF;split
 ·omega
 ·rw [ho (by omega)];decide
theorem w_peer (x:Cap) (hx:x.Ok) (h:x.May):x.peer < 256 ^ bD x.form:=by
 have:=hx.peer;obtain ⟨⟨f0,f5⟩,_,_,_,ho,_⟩:=h
 unfold bD;split
 ·omega
 ·rw [ho (by omega)];decide
theorem w_len (x:Cap) (h:x.May):x.len.toNat < 256 ^ dV x.form:=by
 obtain ⟨⟨f0,f5⟩,_,⟨l0,l1⟩,_,_,ho,_⟩:=h
 unfold dV;split
 ·omega
 ·rw [ho (by omega)];decide
theorem w_sum (x:Cap) (hx:x.Ok) (h:x.May):x.sum < 256 ^ dY x.form:=by
 have:=hx.sum;obtain ⟨⟨f0,f5⟩,_,_,_,_,_,ho⟩:=h
 unfold dY;split
 ·omega
 ·rw [ho (by omega)];decide
theorem dI (x:Cap) (hx:x.Ok) (w:World):
  Calls Tryz.prog 54 #[.agg (dW x)] w (Rt w (dA x)):=by
 have HX:=Lh hx
 clear hx
 obtain ⟨V,hV⟩:=eqx (dA x)
 rw [←hV]
 have HC:=Lh (Blk.new w 25 (dW x))
 have HB:=Lh ((Below.refl _ w).alloc (Nat.le_refl _) (.cells (dW x) 25))
 have hlt:w.heap.size < (w.alloc (.cells (dW x) 25)).heap.size:=by simp
 have HL:=Lh hlt
 clear hlt
 by_cases hm:x.May
 ·rw [lS x hm,←laid_body x hm] at hV
  have HVV:=Lh hV
  have HM:=Lh hm
  clear hV hm
  go_enter Tryz.func54,Tryz.ntmps54
  go_wp2_with (refine wpList_load_row rfl 25 _ rfl w.heap.size rfl 25 (dW x) (0,0) _ ?_ Tryz.underlying25 rfl cZ ?_;exact HC.out)
  refine (dX x HX.out _).mono ?_
  rintro e W0 ⟨rfl,b⟩
  rw [decide_eq_true HM.out]
  have HC0:=Lh (HC.out.below b HL.out)
  have HB0:=Lh (HB.out.trans (b.mono HB.out.size))
  have c0:=HC0.out.cell 0
  simp only [List.getElem?_toArray,List.getElem?_cons_zero] at c0
  clear b
  go_wp2_with fail
  refine (jQ x.form W0).mono ?_
  rintro e W1 ⟨rfl,b⟩
  have HC1:=Lh (HC0.out.below b HC0.out.lt)
  have HB1:=Lh (HB0.out.trans (b.mono HB0.out.size))
  clear b c0
  obtain ⟨W2,hW2⟩:=eqx (W1.alloc (.cells #[.int .i64 (dF x.form:Int),.int .i64 (bD x.form:Int),.int .i64 (dV x.form:Int),.int .i64 (dY x.form:Int)] 161))
  obtain ⟨g,hg⟩:=eqx W1.heap.size
  have HC2:=Lh (show Blk W2 w.heap.size 25 (dW x) by rw [hW2];exact HC1.out.alloc _)
  have HV2:=Lh (show Blk W2 g 161 (qM x.form) by rw [hW2,hg];exact Blk.new _ _ _)
  have HB2:=Lh (show Below w.heap.size w W2 by rw [hW2];exact HB1.out.alloc HB1.out.size _)
  have HW2:=Lh hW2
  have HG:=Lh hg
  clear hW2 hg
  have c1:=HC2.out.cell 1
  simp only [List.getElem?_toArray,List.getElem?_cons_zero,List.getElem?_cons_succ] at c1
  rw [HW2.out] at c1
  go_wp2_with fail
  rw [←HW2.out]
  clear c1
  rw [←HG.out]
  obtain ⟨T1,hT1⟩:∃T,T=txt (be 1 x.ver.toNat):=⟨_,rfl⟩
  have HT1:=Lh hT1
  have HS1:=Lh (show T1.size≤100 by rw [hT1,aN,aH];omega)
  clear hT1
  refine (rU _ 1 x.ver.toNat _ _ W2 (by decide) (by omega) (by have:=HM.out.2.1;omega) T1 (by rw [HT1.out];exact (dU [] _)) ?N1 rfl).mono ?_
  case N1=>have:=HM.out.2.1;simp only [IntKind.wrap_u64];omega
  rintro e W3 ⟨rfl,b⟩
  have HC3:=Lh (HC2.out.below b HC2.out.lt)
  have HV3:=Lh (HV2.out.below b HV2.out.lt)
  have HB3:=Lh (HB2.out.trans (b.mono HB2.out.size))
  clear b
  go_wp2_with (refine wpList_load_row rfl 25 _ rfl w.heap.size rfl 25 (dW x) (0,0) _ ?_ Tryz.underlying25 rfl cZ ?_;exact HC3.out)
  refine (flagsOf_any x W3).mono ?_
  rintro e W4 ⟨rfl,b⟩
  have HC4:=Lh (HC3.out.below b HC3.out.lt)
  have HV4:=Lh (HV3.out.below b HV3.out.lt)
  have HB4:=Lh (HB3.out.trans (b.mono HB3.out.size))
  clear b
  go_wp2_with fail
  obtain ⟨T2,hT2⟩:∃T,T=T1++txt (be 1 x.flags):=⟨_,rfl⟩
  have HT2:=Lh hT2
  have HS2:=Lh (show T2.size≤200 by have:=HS1.out;rw [hT2,ByteArray.size_append,aN,aH];omega)
  clear hT2
  refine (rU T1 1 (x.flags) _ _ W4 (by have:=HS1.out;omega) (by omega) (by have:=x.flags_lt;omega) T2 HT2.out.symm ?N2 rfl).mono ?_
  case N2=>rfl
  rintro e W5 ⟨rfl,b⟩
  have HC5:=Lh (HC4.out.below b HC4.out.lt)
  have HV5:=Lh (HV4.out.below b HV4.out.lt)
  have HB5:=Lh (HB4.out.trans (b.mono HB4.out.size))
  clear b
  have v0:=HV5.out.cell 0
  have c4:=HC5.out.cell 4
  simp only [List.getElem?_toArray,List.getElem?_cons_zero,List.getElem?_cons_succ] at v0 c4
  go_wp2_with fail
  clear v0 c4
  obtain ⟨T3,hT3⟩:∃T,T=T2++txt (be (dF x.form) x.own):=⟨_,rfl⟩
  have HT3:=Lh hT3
  have HS3:=Lh (show T3.size≤300 by have:=HS2.out;rw [hT3,ByteArray.size_append,aN,aH];rcases yR x.form with h | h | h | h<;>omega)
  clear hT3
  refine (rU T2 ((dF x.form)) (x.own) _ _ W5 (by have:=HS2.out;omega) (yR x.form) (w_own x HX.out HM.out) T3 HT3.out.symm ?N3 rfl).mono ?_
  case N3=>rfl
  rintro e W6 ⟨rfl,b⟩
  have HC6:=Lh (HC5.out.below b HC5.out.lt)
  have HV6:=Lh (HV5.out.below b HV5.out.lt)
  have HB6:=Lh (HB5.out.trans (b.mono HB5.out.size))
  clear b
  have v1:=HV6.out.cell 1
  have c5:=HC6.out.cell 5
  simp only [List.getElem?_toArray,List.getElem?_cons_zero,List.getElem?_cons_succ] at v1 c5
  go_wp2_with fail
  clear v1 c5
  obtain ⟨T4,hT4⟩:∃T,T=T3++txt (be (bD x.form) x.peer):=⟨_,rfl⟩
  have HT4:=Lh hT4
  have HS4:=Lh (show T4.size≤400 by have:=HS3.out;rw [hT4,ByteArray.size_append,aN,aH];rcases wR x.form with h | h | h | h<;>omega)
  clear hT4
  refine (rU T3 ((bD x.form)) (x.peer) _ _ W6 (by have:=HS3.out;omega) (wR x.form) (w_peer x HX.out HM.out) T4 HT4.out.symm ?N4 rfl).mono ?_
  case N4=>rfl
  rintro e W7 ⟨rfl,b⟩
  have HC7:=Lh (HC6.out.below b HC6.out.lt)
  have HV7:=Lh (HV6.out.below b HV6.out.lt)
  have HB7:=Lh (HB6.out.trans (b.mono HB6.out.size))
  clear b
  have v2:=HV7.out.cell 2
  have c6:=HC7.out.cell 6
  simp only [List.getElem?_toArray,List.getElem?_cons_zero,List.getElem?_cons_succ] at v2 c6
  go_wp2_with fail
  clear v2 c6
  obtain ⟨T5,hT5⟩:∃T,T=T4++txt (be (dV x.form) x.len.toNat):=⟨_,rfl⟩
  have HT5:=Lh hT5
  have HS5:=Lh (show T5.size≤500 by have:=HS4.out;rw [hT5,ByteArray.size_append,aN,aH];rcases zD x.form with h | h | h | h<;>omega)
  clear hT5
  refine (rU T4 ((dV x.form)) (x.len.toNat) _ _ W7 (by have:=HS4.out;omega) (zD x.form) (w_len x HM.out) T5 HT5.out.symm ?N5 rfl).mono ?_
  case N5=>have:=HM.out.2.2.1;rw [IntKind.wrap_u64];omega
  rintro e W8 ⟨rfl,b⟩
  have HC8:=Lh (HC7.out.below b HC7.out.lt)
  have HV8:=Lh (HV7.out.below b HV7.out.lt)
  have HB8:=Lh (HB7.out.trans (b.mono HB7.out.size))
  clear b
  have v3:=HV8.out.cell 3
  have c7:=HC8.out.cell 7
  simp only [List.getElem?_toArray,List.getElem?_cons_zero,List.getElem?_cons_succ] at v3 c7
  go_wp2_with fail
  clear v3 c7
  obtain ⟨T6,hT6⟩:∃T,T=T5++txt (be (dY x.form) x.sum):=⟨_,rfl⟩
  have HT6:=Lh hT6
  have HS6:=Lh (show T6.size≤600 by have:=HS5.out;rw [hT6,ByteArray.size_append,aN,aH];rcases zK x.form with h | h | h | h<;>omega)
  clear hT6
  refine (rU T5 ((dY x.form)) (x.sum) _ _ W8 (by have:=HS5.out;omega) (zK x.form) (w_sum x HX.out HM.out) T6 HT6.out.symm ?N6 rfl).mono ?_
  case N6=>have:=HX.out.sum;rw [IntKind.wrap_u64];omega
  rintro e W9 ⟨rfl,b⟩
  have HC9:=Lh (HC8.out.below b HC8.out.lt)
  have HV9:=Lh (HV8.out.below b HV8.out.lt)
  have HB9:=Lh (HB8.out.trans (b.mono HB8.out.size))
  clear b
  go_wp2_with fail
  go_ret2
  refine ⟨?_,HB9.out⟩
  show Ending.returned (.tuple #[.string T6,.int .i64 0])=_
  rw [HVV.out,←HT1.out,←HT2.out,←HT3.out,←HT4.out,←HT5.out,←HT6.out]
 ·rw [o6 x hm] at hV
  subst hV
  have HM:=Lh hm
  clear hm
  go_enter Tryz.func54,Tryz.ntmps54
  go_wp2_with (refine wpList_load_row rfl 25 _ rfl w.heap.size rfl 25 (dW x) (0,0) _ ?_ Tryz.underlying25 rfl cZ ?_;exact HC.out)
  refine (dX x HX.out _).mono ?_
  rintro e W0 ⟨rfl,b⟩
  rw [decide_eq_false HM.out]
  have HB0:=Lh (HB.out.trans (b.mono HB.out.size))
  clear b
  go_wp2_with fail
  go_ret2
  exact ⟨rfl,HB0.out⟩
open Go.ChangeShapes Go.WideShapes Go.ChangeAt Go.RowKit
abbrev nextF (g:Nat):Value:=.func (.func 167) #[] #[.pointer (some ⟨g,0,none⟩)]
structure Rdr (w:World) (g b:Nat) (s:ByteArray) (k:Nat) (br:Bool):Prop where
 box:Blk w g 177 #[.pointer (some ⟨b,0,none⟩)]
 cur:Cur w b s k br
 ne:g≠b
 at_:k≤s.size
theorem Rdr.below {w w':World} {g b:Nat} {s:ByteArray} {k:Nat} {br:Bool} (h:Rdr w g b s k br) (q:Below w.heap.size w w'):Rdr w' g b s k br:=⟨h.box.below q h.box.lt,Blk.below h.cur q (Blk.lt h.cur),h.ne,h.at_⟩
theorem Rdr.alloc {w:World} {g b:Nat} {s:ByteArray} {k:Nat} {br:Bool} (h:Rdr w g b s k br) (o:Obj):Rdr (w.alloc o) g b s k br:=⟨h.box.alloc o,Blk.alloc h.cur o,h.ne,h.at_⟩
theorem lK (s:ByteArray) (w:World):
  Calls Tryz.prog 112 #[.string s] w fun e w'=>e= .returned (nextF (w.heap.size+1))∧Rdr w' (w.heap.size+1) w.heap.size s 0 false∧Below w.heap.size w w':=by
 go_enter Tryz.func112,Tryz.ntmps112
 go_wp2_with fail
 refine (uN s w).mono ?_
 rintro e w' ⟨rfl,rfl⟩
 go_wp2_with fail
 go_ret
 refine ⟨by simp,⟨?_,(Blk.new w 248 _).alloc _,by omega,Nat.zero_le _⟩,((Below.refl _ w).alloc (Nat.le_refl _) _).alloc (by simp) _⟩
 have:=Blk.new (w.alloc (.cells #[.string s,.int .i64 0,.bool false] 248)) 177 #[.pointer (some ⟨w.heap.size,0,none⟩)]
 simpa using this
theorem next_0 (g b:Nat) (s:ByteArray) (k:Nat) (br:Bool) (w:World) (h:Rdr w g b s k br):
  Calls Tryz.prog 167 #[.int .i64 0,.pointer (some ⟨g,0,none⟩)] w fun e w'=>e= .returned (.int .u64 0)∧w=w':=by
 go_enter Tryz.func167,Tryz.ntmps167
 go_wp2_with fail
 go_ret;exact ⟨rfl,rfl⟩
theorem xJ (g b:Nat) (s:ByteArray) (k:Nat) (br:Bool) (w:World) (hs:s.size≤9223372036854775807) (h:Rdr w g b s k br):
  Calls Tryz.prog 167 #[.int .i64 1,.pointer (some ⟨g,0,none⟩)] w fun e w'=>e= .returned (.int .u64 (numO s k br 1:Nat))∧w.grownBy w' (some b)∧Rdr w' g b s (dK s k br (1:Nat)) (brO s k br (1:Nat)):=by
 have c:=h.box.cell 0
 simp only [List.getElem?_toArray,List.getElem?_cons_zero] at c
 have H:=Lh h
 clear h
 go_enter Tryz.func167,Tryz.ntmps167
 go_wp2_with fail
 refine (mJ b s k br w hs H.out.at_ H.out.cur).mono ?_
 rintro e w' ⟨rfl,hg,hc⟩
 have HG:=Lh hg
 have HC:=Lh hc
 clear hg hc
 have hn:=nU s k br
 obtain ⟨n,hN⟩:=eqx (numO s k br 1)
 rw [←hN] at hn ⊢
 have HN:=Lh hN
 clear hN
 have hw16:IntKind.u64.wrap (n:Int)=(n:Int):=by rw [IntKind.wrap_u64];omega
 go_wp2_with fail
 go_ret
 refine ⟨?_,HG.out,⟨H.out.box.grown HG.out (by simpa using H.out.ne),HC.out,H.out.ne,jL s k br _ H.out.at_⟩⟩
 show Ending.returned (.int .u64 _)= .returned (.int .u64 _)
 exact kM (by rw [HN.out])
theorem next_2 (g b:Nat) (s:ByteArray) (k:Nat) (br:Bool) (w:World) (hs:s.size≤9223372036854775807) (h:Rdr w g b s k br):
  Calls Tryz.prog 167 #[.int .i64 2,.pointer (some ⟨g,0,none⟩)] w fun e w'=>e= .returned (.int .u64 (numO s k br 2:Nat))∧w.grownBy w' (some b)∧Rdr w' g b s (dK s k br (2:Nat)) (brO s k br (2:Nat)):=by
 have c:=h.box.cell 0
 simp only [List.getElem?_toArray,List.getElem?_cons_zero] at c
 have H:=Lh h
 clear h
 go_enter Tryz.func167,Tryz.ntmps167
 go_wp2_with fail
 refine (sQ b s k br w hs H.out.at_ H.out.cur).mono ?_
 rintro e w' ⟨rfl,hg,hc⟩
 have HG:=Lh hg
 have HC:=Lh hc
 clear hg hc
 have hn:=rH s k br
 obtain ⟨n,hN⟩:=eqx (numO s k br 2)
 rw [←hN] at hn ⊢
 have HN:=Lh hN
 clear hN
 have hw16:IntKind.u64.wrap (n:Int)=(n:Int):=by rw [IntKind.wrap_u64];omega
 go_wp2_with fail
 go_ret
 refine ⟨?_,HG.out,⟨H.out.box.grown HG.out (by simpa using H.out.ne),HC.out,H.out.ne,jL s k br _ H.out.at_⟩⟩
 show Ending.returned (.int .u64 _)= .returned (.int .u64 _)
 exact kM (by rw [HN.out])
theorem next_8 (g b:Nat) (s:ByteArray) (k:Nat) (br:Bool) (w:World) (hs:s.size≤9223372036854775807) (h:Rdr w g b s k br):
  Calls Tryz.prog 167 #[.int .i64 8,.pointer (some ⟨g,0,none⟩)] w fun e w'=>e= .returned (.int .u64 (numO s k br 8:Nat))∧w.grownBy w' (some b)∧Rdr w' g b s (dK s k br (8:Nat)) (brO s k br (8:Nat)):=by
 have c:=h.box.cell 0
 simp only [List.getElem?_toArray,List.getElem?_cons_zero] at c
 have H:=Lh h
 clear h
 go_enter Tryz.func167,Tryz.ntmps167
 go_wp2_with fail
 refine (wY b s k br w hs H.out.at_ H.out.cur).mono ?_
 rintro e w' ⟨rfl,hg,hc⟩
 have HG:=Lh hg
 have HC:=Lh hc
 clear hg hc
 have hn:=numO_le_8 s k br
 obtain ⟨n,hN⟩:=eqx (numO s k br 8)
 rw [←hN] at hn ⊢
 have HN:=Lh hN
 clear hN
 have hw16:IntKind.u64.wrap (n:Int)=(n:Int):=by rw [IntKind.wrap_u64];omega
 go_wp2_with fail
 go_ret
 refine ⟨?_,HG.out,⟨H.out.box.grown HG.out (by simpa using H.out.ne),HC.out,H.out.ne,jL s k br _ H.out.at_⟩⟩
 show Ending.returned (.int .u64 _)= .returned (.int .u64 _)
 exact kM (by rw [HN.out])
theorem next_any (g b:Nat) (s:ByteArray) (k:Nat) (m:Nat) (hm:m=0∨m=1∨m=2∨m=8) (w:World) (hs:s.size≤9223372036854775807) (h:Rdr w g b s k false) (hk:k+m≤s.size):
  Calls Tryz.prog 167 #[.int .i64 (m:Int),.pointer (some ⟨g,0,none⟩)] w fun e w'=>e= .returned (.int .u64 (num s k m:Nat))∧w.grownBy w' (some b)∧Rdr w' g b s (k+m) false:=by
 have hf:fits s k false (m:Int)=true:=by unfold fits;simp;omega
 rcases hm with rfl | rfl | rfl | rfl
 ·exact (next_0 g b s k false w h).mono fun e w' q=>⟨q.1,by rw [←q.2];exact ⟨.refl _ _,h⟩⟩
 ·have:=xJ g b s k false w hs h
  rw [fD hf,iO hf,fM hf] at this
  exact this
 ·have:=next_2 g b s k false w hs h
  rw [fD hf,iO hf,fM hf] at this
  exact this
 ·have:=next_8 g b s k false w hs h
  rw [fD hf,iO hf,fM hf] at this
  exact this
theorem aC {P:Program} {fn:Func} {p t:Tmp} {ty:TypeId} (h:fn.results=#[.cell p ty,.tmp t]) (tmps:Array Value) (w:World) (g:Nat) (t':TypeId) (cs:Array Value) (fr:Nat×Nat) (d:TypeDesc)
  (hp:tmps.getD p undef= .pointer (some ⟨g,0,none⟩)) (hg:w.heap[g]?=some (.cells cs t' fr))
  (hu:P.underlying ty=some d) (hd:(match d with | .struct _ | .array _ _=>true | _=>false)=true) (hi:(P.info? ty).map (·.size)=some cs.size):
  (results fn tmps).run P w= .ok (.tuple #[.agg cs,tmps.getD t undef]) w:=by
 have hp':tmps[p]?.getD undef= .pointer (some ⟨g,0,none⟩):=by simpa using hp
 simp [results,h,hp',asAddr,run_loadVar_row w g t' ty cs fr d hg hu hd hi]
def iY (s:ByteArray):Value:=.tuple #[.agg (dW (dec s).1),.int .i64 (dec s).2]
theorem qN:∀c:Fin 256,bits .and .u64 (c.val:Int) 1=((c.val%2:Nat):Int):=by decide+kernel
theorem byte_and128:∀c:Fin 256,(!(bits .and .u64 (c.val:Int) 128==0))=decide (128≤c.val):=by decide+kernel
theorem byte_and32:∀c:Fin 256,(!(bits .and .u64 (c.val:Int) 32==0))=decide (c.val / 32%2=1):=by decide+kernel
theorem _root_.Go.Proofs.YtnlhhjhidkjlbaaGreatDoor.Blk.setOther {w:World} {g:Nat} {t:TypeId} {cs:Array Value} (h:Blk w g t cs) {X:Nat} (hne:g≠X) (i:Nat) (u:Value):Blk (w.setCell ⟨X,i,none⟩ u) g t cs:=h.same (Below.heap_setCell w ⟨X,i,none⟩ u g hne)
structure Fill (w W:World) (g c X D:Nat) (s:ByteArray) (k:Nat) (f:Int) (cs:Array Value):Prop where
 rd:Rdr W g c s k false
 x:Blk W X 25 cs
 d:Blk W D 161 (qM f)
 z:Blk W w.heap.size 25 (dW Cap.zero)
 b:Below w.heap.size w W
 zc:w.heap.size < c
 cX:c≠X
 gX:g≠X
 cD:c≠D
 DX:D≠X
 zX:w.heap.size < X
namespace Fill
variable {w W W':World} {g c X D:Nat} {s:ByteArray} {k k':Nat} {f:Int} {cs:Array Value}
theorem next (h:Fill w W g c X D s k f cs) (hg:W.grownBy W' (some c)) (hr:Rdr W' g c s k' false):Fill w W' g c X D s k' f cs:=
 ⟨hr,h.x.grown hg (by have:=h.cX;simp;omega),h.d.grown hg (by have:=h.cD;simp;omega),h.z.grown hg (by have:=h.zc;simp;omega),h.b.trans (aA hg (Nat.le_of_lt h.zc) h.b.size),h.zc,h.cX,h.gX,h.cD,h.DX,h.zX⟩
theorem set (h:Fill w W g c X D s k f cs) (i:Nat) (u:Value):Fill w (W.setCell ⟨X,i,none⟩ u) g c X D s k f (cs.setIfInBounds i u):=
 ⟨⟨h.rd.box.setOther h.gX i u,Blk.setOther h.rd.cur h.cX i u,h.rd.ne,h.rd.at_⟩,h.x.fV i u,h.d.setOther h.DX i u,h.z.setOther (by have:=h.zX;omega) i u,h.b.trans (aA (aZ (.refl _ _) rfl u) (Nat.le_of_lt h.zX) h.b.size),h.zc,h.cX,h.gX,h.cD,h.DX,h.zX⟩
end Fill
theorem got_fields (f:Nat) (hf:f < 5) (s:ByteArray) (hs:s.size=Cap.size (f:Int)):
  num s 2 (dF f)=num s 2 8∧num s (2+dF f) (bD f)=num s 10 8∧num s (2+dF f+bD f) (dV f)=num s 18 2∧num s (2+dF f+bD f+dV f) (dY f)=num s 20 2∧2+dF f+bD f+dV f+dY f=s.size:=by
 have past:∀k m,s.size≤k→num s k m=0:=fun k m h=>uH s k h m
 have:f=0∨f=1∨f=2∨f=3∨f=4:=by omega
 rcases this with rfl | rfl | rfl | rfl | rfl
 ·have z:s.size=2:=hs
  rw [show dF ((0:Nat):Int)=0 from rfl,show bD ((0:Nat):Int)=0 from rfl,show dV ((0:Nat):Int)=0 from rfl,show dY ((0:Nat):Int)=0 from rfl,past 2 8 (by omega),past 10 8 (by omega),past 18 2 (by omega),past 20 2 (by omega)]
  exact ⟨rfl,rfl,rfl,rfl,z.symm⟩
 ·have z:s.size=10:=hs
  rw [show dF ((1:Nat):Int)=8 from rfl,show bD ((1:Nat):Int)=0 from rfl,show dV ((1:Nat):Int)=0 from rfl,show dY ((1:Nat):Int)=0 from rfl,past 10 8 (by omega),past 18 2 (by omega),past 20 2 (by omega)]
  exact ⟨rfl,rfl,rfl,rfl,z.symm⟩
 ·have z:s.size=18:=hs
  rw [show dF ((2:Nat):Int)=8 from rfl,show bD ((2:Nat):Int)=8 from rfl,show dV ((2:Nat):Int)=0 from rfl,show dY ((2:Nat):Int)=0 from rfl,past 18 2 (by omega),past 20 2 (by omega)]
  exact ⟨rfl,rfl,rfl,rfl,z.symm⟩
 ·have z:s.size=20:=hs
  rw [show dF ((3:Nat):Int)=8 from rfl,show bD ((3:Nat):Int)=8 from rfl,show dV ((3:Nat):Int)=2 from rfl,show dY ((3:Nat):Int)=0 from rfl,past 20 2 (by omega)]
  exact ⟨rfl,rfl,rfl,rfl,z.symm⟩
 ·have z:s.size=22:=hs
  exact ⟨rfl,rfl,rfl,rfl,z.symm⟩
theorem wLen_lt (s:ByteArray) (k:Nat) (f:Int):num s k (dV f)≤65535:=by unfold dV;split;have:=jW s k 2;omega;simp [num]
theorem wSum_lt (s:ByteArray) (k:Nat) (f:Int):num s k (dY f)≤65535:=by unfold dY;split;have:=jW s k 2;omega;simp [num]
theorem eY (s:ByteArray) (w:World) (hs:s.size≤9223372036854775807):
  Calls Tryz.prog 56 #[.string s] w (Rt w (iY s)):=by
 have HS:=Lh hs
 obtain ⟨V,hV⟩:=eqx (iY s)
 rw [←hV]
 have HV:=Lh hV
 clear hs hV
 obtain ⟨w0,hw0⟩:=eqx (w.alloc (.cells #[.int .i64 0,.int .i64 0,.bool false,.bool false,.int .u64 0,.int .u64 0,.int .i64 0,.int .u16 0] 25))
 have HZ:=Lh (show Blk w0 w.heap.size 25 (dW Cap.zero) by rw [hw0];exact Blk.new _ _ _)
 have HB0:=Lh (qA hw0)
 have HLT:=Lh (show w.heap.size < w0.heap.size by rw [hw0];simp)
 have HW0:=Lh hw0
 clear hw0
 go_enter Tryz.func56,Tryz.ntmps56
 go_wp2_with fail
 rw [←HW0.out]
 refine (lK s w0).mono ?_
 rintro e W1 ⟨rfl,hr,b⟩
 obtain ⟨g,hg⟩:=eqx (w0.heap.size+1)
 obtain ⟨c,hc⟩:=eqx w0.heap.size
 rw [←hg,←hc] at hr
 rw [←hg]
 have HR1:=Lh hr
 have HC:=Lh (show w.heap.size < c by rw [hc];exact HLT.out)
 have HB1:=Lh (HB0.out.trans (b.mono HB0.out.size))
 have HZ1:=Lh (HZ.out.below b HZ.out.lt)
 clear hr b hg hc HZ HB0 HLT HW0
 go_wp2_with fail
 refine (xJ g c s 0 false W1 HS.out HR1.out).mono ?_
 rintro e W2 ⟨rfl,hg2,hr⟩
 obtain ⟨k1,hk1⟩:∃k,k=dK s 0 false ((1:Nat):Int):=⟨_,rfl⟩
 obtain ⟨b1,hb1⟩:∃b,b=brO s 0 false ((1:Nat):Int):=⟨_,rfl⟩
 obtain ⟨F,hF⟩:=eqx (numO s 0 false 1)
 rw [←hk1,←hb1] at hr
 rw [←hF]
 have HR2:=Lh hr
 have HB2:=Lh (HB1.out.trans (aA hg2 (Nat.le_of_lt HC.out) HB1.out.size))
 have HZ2:=Lh (HZ1.out.grown hg2 (by have:=HC.out;simp;omega))
 have HK1:=Lh hk1
 have HBR1:=Lh hb1
 have HF:=Lh hF
 clear hg2 hr hk1 hb1 hF HR1
 go_wp2_with fail
 refine (xJ g c s k1 b1 W2 HS.out HR2.out).mono ?_
 rintro e W3 ⟨rfl,hg3,hr⟩
 obtain ⟨k2,hk2⟩:∃k,k=dK s k1 b1 ((1:Nat):Int):=⟨_,rfl⟩
 obtain ⟨b2,hb2⟩:∃b,b=brO s k1 b1 ((1:Nat):Int):=⟨_,rfl⟩
 obtain ⟨G,hG⟩:=eqx (numO s k1 b1 1)
 rw [←hk2,←hb2] at hr
 rw [←hG]
 have HR3:=Lh hr
 have HB3:=Lh (HB2.out.trans (aA hg3 (Nat.le_of_lt HC.out) HB2.out.size))
 have HZ3:=Lh (HZ2.out.grown hg3 (by have:=HC.out;simp;omega))
 have HK2:=Lh hk2
 have HBR2:=Lh hb2
 have HG:=Lh hG
 clear hg3 hr hk2 hb2 hG HR2 HB1 HB2 HZ1 HZ2
 go_wp2_with fail
 refine (formOf_any s.size HS.out W3).mono ?_
 rintro e W4 ⟨rfl,b⟩
 have HR4:=Lh (HR3.out.below b)
 have HB4:=Lh (HB3.out.trans (b.mono HB3.out.size))
 have HZ4:=Lh (HZ3.out.below b HZ3.out.lt)
 clear b HR3 HB3 HZ3
 obtain ⟨f,kn,hfv⟩:∃f kn,vK s.size= .tuple #[.int .i64 f,.bool kn]:=by
  unfold vK
  cases iP s.size with
  | none=>exact ⟨_,_,rfl⟩
  | some f=>exact ⟨_,_,rfl⟩
 rw [hfv]
 have HFV:=Lh hfv
 have HSE:=Lh (setRow_heap _ w.heap.size _ (dW Cap.zero) _ _ HZ4.out)
 have HBE:=Lh (below_setRow HB4.out (Nat.le_refl _) (dW Cap.zero))
 clear hfv
 by_cases hs0:s.size=0
 ·have e0:((s.size:Int)==0)=true:=by rw [hs0];rfl
  have HVZ:=Lh (show V= .tuple #[.agg (dW Cap.zero),.int .i64 4] by rw [HV.out,iY,dec,if_pos hs0])
  clear hs0
  go_wp2_with (refine wpList_store_row rfl 25 _ _ rfl w.heap.size (dW Cap.zero) rfl rfl 25 _ HZ4.out cZ rfl (lM _) ?_)
  exact bodyPost_ret (aC rfl _ _ w.heap.size 25 (dW Cap.zero) (0,0) _ rfl HSE.out Tryz.underlying25 rfl cZ) rfl ⟨by rw [HVZ.out];rfl,HBE.out⟩
 ·have e0:((s.size:Int)==0)=false:=by rw [beq_eq_false_iff_ne];omega
  have hF0:F=byteAt s 0:=by rw [HF.out,fM (by unfold fits;simp;omega),jI]
  have hk:k1=1:=by rw [HK1.out,fD (by unfold fits;simp;omega)];rfl
  have hb:b1=false:=by rw [HBR1.out,iO (by unfold fits;simp;omega)]
  have hF8:F≤255:=by have:=bJ s 0;omega
  have HS0:=Lh hs0
  have HF0:=Lh hF0
  have HK:=Lh hk
  have HBR:=Lh hb
  clear hs0 hF0 hk hb
  by_cases h16:16≤F
  ·have HVZ:=Lh (show V= .tuple #[.agg (dW Cap.zero),.int .i64 7] by rw [HV.out,iY,dec,if_neg HS0.out,if_pos (by rw [←HF0.out];exact h16)])
   go_wp2_with (refine wpList_store_row rfl 25 _ _ rfl w.heap.size (dW Cap.zero) rfl rfl 25 _ HZ4.out cZ rfl (lM _) ?_)
   exact bodyPost_ret (aC rfl _ _ w.heap.size 25 (dW Cap.zero) (0,0) _ rfl HSE.out Tryz.underlying25 rfl cZ) rfl ⟨by rw [HVZ.out];rfl,HBE.out⟩
  ·have h15:F < 16:=by omega
   clear h16
   have xU:=Lh h15
   cases e:iP s.size with
   | none=>
    have hx:=HFV.out
    rw [vK,e] at hx
    simp only [Value.tuple.injEq,Array.mk.injEq,List.cons.injEq,Value.int.injEq,Value.bool.injEq,and_true,true_and] at hx
    obtain ⟨rfl,rfl⟩:=hx
    have HVZ:=Lh (show V= .tuple #[.agg (dW Cap.zero),.int .i64 5] by rw [HV.out,iY,dec,if_neg HS0.out,if_neg (by rw [←HF0.out];have:=xU.out;omega),e])
    clear e
    go_wp2_with (refine wpList_store_row rfl 25 _ _ rfl w.heap.size (dW Cap.zero) rfl rfl 25 _ HZ4.out cZ rfl (lM _) ?_)
    exact bodyPost_ret (aC rfl _ _ w.heap.size 25 (dW Cap.zero) (0,0) _ rfl HSE.out Tryz.underlying25 rfl cZ) rfl ⟨by rw [HVZ.out];rfl,HBE.out⟩
   | some fN=>
    have hz:s.size=Cap.size (fN:Int)∧fN < 5:=by
     rcases formOf_cases s.size with ⟨z,e'⟩ | ⟨z,e'⟩ | ⟨z,e'⟩ | ⟨z,e'⟩ | ⟨z,e'⟩ | ⟨z,e'⟩<;>rw [e'] at e<;>cases e<;>exact ⟨z,by omega⟩
    obtain ⟨hzs,hf5⟩:=hz
    have HZS:=Lh hzs
    have HF5:=Lh hf5
    have HE:=Lh e
    have hq:=got_fields fN hf5 s hzs
    have h2:2≤s.size:=by rw [←hq.2.2.2.2];omega
    have HQ:=Lh hq
    have hx:=HFV.out
    rw [vK,e] at hx
    simp only [Value.tuple.injEq,Array.mk.injEq,List.cons.injEq,Value.int.injEq,Value.bool.injEq,and_true,true_and] at hx
    obtain ⟨rfl,rfl⟩:=hx
    have hG1:G=byteAt s 1:=by rw [HG.out,HK.out,HBR.out,fM (by unfold fits;simp;omega),jI]
    have hk2:k2=2:=by rw [HK2.out,HK.out,HBR.out,fD (by unfold fits;simp;omega)];rfl
    have hb2:b2=false:=by rw [HBR2.out,HK.out,HBR.out,iO (by unfold fits;simp;omega)]
    have hG8:G < 256:=by have:=bJ s 1;omega
    subst hk2 hb2
    have HG1:=Lh hG1
    have HG8:=Lh hG8
    clear e hzs hf5 hq h2 hG1 hG8
    have ea:bits .and .u64 (G:Int) 1=((G%2:Nat):Int):=qN ⟨G,HG8.out⟩
    by_cases ho:G%2=0
    ·have e2:(bits .and .u64 (G:Int) 1==0)=true:=by rw [ea,ho];rfl
     have HVZ:=Lh (show V= .tuple #[.agg (dW Cap.zero),.int .i64 2] by rw [HV.out,iY,dec,if_neg HS0.out,if_neg (by rw [←HF0.out];have:=xU.out;omega),HE.out];simp only [];rw [if_pos (by rw [←HG1.out];exact ho)])
     clear ea ho
     go_wp2_with (refine wpList_store_row rfl 25 _ _ rfl w.heap.size (dW Cap.zero) rfl rfl 25 _ HZ4.out cZ rfl (lM _) ?_)
     exact bodyPost_ret (aC rfl _ _ w.heap.size 25 (dW Cap.zero) (0,0) _ rfl HSE.out Tryz.underlying25 rfl cZ) rfl ⟨by rw [HVZ.out];rfl,HBE.out⟩
    ·have e2:(bits .and .u64 (G:Int) 1==0)=false:=by rw [ea,beq_eq_false_iff_ne];omega
     have HVZ:=Lh (show V= .tuple #[.agg (dW (got fN s)),.int .i64 0] by rw [HV.out,iY,dec,if_neg HS0.out,if_neg (by rw [←HF0.out];have:=xU.out;omega),HE.out];simp only [];rw [if_neg (by rw [←HG1.out];exact ho)])
     clear ea ho HSE HBE
     go_wp2_with (refine wpList_store_row rfl 25 _ _ rfl w.heap.size (dW Cap.zero) rfl rfl 25 _ HZ4.out cZ rfl (lM _) ?_)
     refine (jQ (fN:Int) W4).mono ?_
     rintro e W5 ⟨rfl,b⟩
     have HR5:=Lh (HR4.out.below b)
     have HB5:=Lh (HB4.out.trans (b.mono HB4.out.size))
     have HZ5:=Lh (HZ4.out.below b HZ4.out.lt)
     clear b HR4 HB4 HZ4
     have e3:(bits .and .u64 (G:Int) 128 !=0)=decide (128≤byteAt s 1):=by rw [←HG1.out];exact byte_and128 ⟨G,HG8.out⟩
     have e4:(bits .and .u64 (G:Int) 32 !=0)=decide (byteAt s 1 / 32%2=1):=by rw [←HG1.out];exact byte_and32 ⟨G,HG8.out⟩
     obtain ⟨sb,hsb⟩:∃b,b=decide (128≤byteAt s 1):=⟨_,rfl⟩
     obtain ⟨ab,hab⟩:∃b,b=decide (byteAt s 1 / 32%2=1):=⟨_,rfl⟩
     rw [←hsb] at e3
     rw [←hab] at e4
     have HSB:=Lh hsb
     have HAB:=Lh hab
     clear hsb hab
     have e5:(F:Int)%16=(F:Int):=by omega
     obtain ⟨W6,hW6⟩:=eqx ((W5.alloc (.cells #[.int .i64 (dF fN:Int),.int .i64 (bD fN:Int),.int .i64 (dV fN:Int),.int .i64 (dY fN:Int)] 161)).alloc (.cells #[.int .i64 (fN:Int),.int .i64 (F:Int),.bool sb,.bool ab,.int .u64 0,.int .u64 0,.int .i64 0,.int .u16 0] 25))
     obtain ⟨D,hD⟩:=eqx W5.heap.size
     obtain ⟨X,hX⟩:=eqx (W5.heap.size+1)
     have HM6:=Lh (show Fill w W6 g c X D s 2 fN #[.int .i64 (fN:Int),.int .i64 (F:Int),.bool sb,.bool ab,.int .u64 0,.int .u64 0,.int .i64 0,.int .u16 0] by
      have q1:=HR5.out.box.lt
      have q2:=Blk.lt HR5.out.cur
      have q3:=HZ5.out.lt
      have q4:=HC.out
      rw [hW6,hD,hX]
      refine ⟨(HR5.out.alloc _).alloc _,?_,(Blk.new W5 _ _).alloc _,(HZ5.out.alloc _).alloc _,(HB5.out.alloc HB5.out.size _).alloc (by have:=HB5.out.size;simp;omega) _,HC.out,by omega,by omega,by omega,by omega,by omega⟩
      have:=Blk.new (W5.alloc (.cells #[.int .i64 (dF fN:Int),.int .i64 (bD fN:Int),.int .i64 (dV fN:Int),.int .i64 (dY fN:Int)] 161)) 25 #[.int .i64 (fN:Int),.int .i64 (F:Int),.bool sb,.bool ab,.int .u64 0,.int .u64 0,.int .i64 0,.int .u16 0]
      simpa using this)
     have HW6:=Lh hW6
     have HD:=Lh hD
     have HX:=Lh hX
     have v0:=HM6.out.d.cell 0
     simp only [List.getElem?_toArray,List.getElem?_cons_zero] at v0
     rw [HW6.out,HD.out] at v0
     clear hW6 hD hX HR5 HB5 HZ5 HC
     go_wp2_with fail
     rw [←HW6.out,←HX.out,←HD.out]
     clear v0 e2 e3 e4 e5
     refine (next_any g c s (2) (dF fN) (yR fN) W6 HS.out HM6.out.rd (by have:=HQ.out.2.2.2.2;omega)).mono ?_
     rintro e W7 ⟨rfl,hg,hr⟩
     have HM7:=Lh (HM6.out.next hg hr)
     clear hg hr
     obtain ⟨n1,hn1⟩:∃n,n=num s (2) (dF fN):=⟨_,rfl⟩
     rw [←hn1]
     have ln1:n1≤18446744073709551615:=by rw [hn1];exact num_le8 s _ _ (by rcases yR (fN:Int) with h | h | h | h<;>omega)
     have Hn1:=Lh hn1
     clear hn1
     have fz:=HM7.out.x.frozen 4
     have xc:=HM7.out.x.cell 4
     simp only [List.getElem?_toArray,List.getElem?_cons_zero,List.getElem?_cons_succ] at xc
     obtain ⟨W8,hW8⟩:∃W,W=W7.setCell ⟨X,4,none⟩ (.int .u64 (n1:Int)):=⟨_,rfl⟩
     have HM8:=Lh (show Fill w W8 g c X D s (2+dF fN) fN #[.int .i64 (fN:Int),.int .i64 (F:Int),.bool sb,.bool ab,.int .u64 (n1:Int),.int .u64 0,.int .i64 0,.int .u16 0] by rw [hW8];exact HM7.out.set 4 (.int .u64 (n1:Int)))
     have HW8:=Lh hW8
     have v:=HM8.out.d.cell 1
     simp only [List.getElem?_toArray,List.getElem?_cons_zero,List.getElem?_cons_succ] at v
     rw [HW8.out] at v
     clear hW8
     go_wp2_with fail
     rw [←HW8.out]
     clear v fz xc
     refine (next_any g c s (2+dF fN) (bD fN) (wR fN) W8 HS.out HM8.out.rd (by have:=HQ.out.2.2.2.2;omega)).mono ?_
     rintro e W9 ⟨rfl,hg,hr⟩
     have HM9:=Lh (HM8.out.next hg hr)
     clear hg hr
     obtain ⟨n2,hn2⟩:∃n,n=num s (2+dF fN) (bD fN):=⟨_,rfl⟩
     rw [←hn2]
     have ln2:n2≤18446744073709551615:=by rw [hn2];exact num_le8 s _ _ (by rcases wR (fN:Int) with h | h | h | h<;>omega)
     have Hn2:=Lh hn2
     clear hn2
     have fz:=HM9.out.x.frozen 5
     have xc:=HM9.out.x.cell 5
     simp only [List.getElem?_toArray,List.getElem?_cons_zero,List.getElem?_cons_succ] at xc
     obtain ⟨W10,hW10⟩:∃W,W=W9.setCell ⟨X,5,none⟩ (.int .u64 (n2:Int)):=⟨_,rfl⟩
     have HM10:=Lh (show Fill w W10 g c X D s (2+dF fN+bD fN) fN #[.int .i64 (fN:Int),.int .i64 (F:Int),.bool sb,.bool ab,.int .u64 (n1:Int),.int .u64 (n2:Int),.int .i64 0,.int .u16 0] by rw [hW10];exact HM9.out.set 5 (.int .u64 (n2:Int)))
     have HW10:=Lh hW10
     have v:=HM10.out.d.cell 2
     simp only [List.getElem?_toArray,List.getElem?_cons_zero,List.getElem?_cons_succ] at v
     rw [HW10.out] at v
     clear hW10
     go_wp2_with fail
     rw [←HW10.out]
     clear v fz xc
     refine (next_any g c s (2+dF fN+bD fN) (dV fN) (zD fN) W10 HS.out HM10.out.rd (by have:=HQ.out.2.2.2.2;omega)).mono ?_
     rintro e W11 ⟨rfl,hg,hr⟩
     have HM11:=Lh (HM10.out.next hg hr)
     clear hg hr
     obtain ⟨n3,hn3⟩:∃n,n=num s (2+dF fN+bD fN) (dV fN):=⟨_,rfl⟩
     rw [←hn3]
     have ln3:n3≤65535:=by rw [hn3];exact wLen_lt s _ _
     have Hn3:=Lh hn3
     clear hn3
     have fz:=HM11.out.x.frozen 6
     have xc:=HM11.out.x.cell 6
     simp only [List.getElem?_toArray,List.getElem?_cons_zero,List.getElem?_cons_succ] at xc
     obtain ⟨W12,hW12⟩:∃W,W=W11.setCell ⟨X,6,none⟩ (.int .i64 (n3:Int)):=⟨_,rfl⟩
     have HM12:=Lh (show Fill w W12 g c X D s (2+dF fN+bD fN+dV fN) fN #[.int .i64 (fN:Int),.int .i64 (F:Int),.bool sb,.bool ab,.int .u64 (n1:Int),.int .u64 (n2:Int),.int .i64 (n3:Int),.int .u16 0] by rw [hW12];exact HM11.out.set 6 (.int .i64 (n3:Int)))
     have HW12:=Lh hW12
     have v:=HM12.out.d.cell 3
     simp only [List.getElem?_toArray,List.getElem?_cons_zero,List.getElem?_cons_succ] at v
     rw [HW12.out] at v
     clear hW12
     go_wp2_with fail
     rw [←HW12.out]
     clear v fz xc
     refine (next_any g c s (2+dF fN+bD fN+dV fN) (dY fN) (zK fN) W12 HS.out HM12.out.rd (by have:=HQ.out.2.2.2.2;omega)).mono ?_
     rintro e W13 ⟨rfl,hg,hr⟩
     have HM13:=Lh (HM12.out.next hg hr)
     clear hg hr
     obtain ⟨n4,hn4⟩:∃n,n=num s (2+dF fN+bD fN+dV fN) (dY fN):=⟨_,rfl⟩
     rw [←hn4]
     have ln4:n4≤65535:=by rw [hn4];exact wSum_lt s _ _
     have Hn4:=Lh hn4
     clear hn4
     have fz:=HM13.out.x.frozen 7
     have xc:=HM13.out.x.cell 7
     simp only [List.getElem?_toArray,List.getElem?_cons_zero,List.getElem?_cons_succ] at xc
     obtain ⟨W14,hW14⟩:∃W,W=W13.setCell ⟨X,7,none⟩ (.int .u16 (n4:Int)):=⟨_,rfl⟩
     have zY:=Lh (show Fill w W14 g c X D s (2+dF fN+bD fN+dV fN+dY fN) fN #[.int .i64 (fN:Int),.int .i64 (F:Int),.bool sb,.bool ab,.int .u64 (n1:Int),.int .u64 (n2:Int),.int .i64 (n3:Int),.int .u16 (n4:Int)] by rw [hW14];exact HM13.out.set 7 (.int .u16 (n4:Int)))
     have HW14:=Lh hW14
     clear hW14
     have HEQ:=Lh (show #[.int .i64 (fN:Int),.int .i64 (F:Int),.bool sb,.bool ab,.int .u64 (n1:Int),.int .u64 (n2:Int),.int .i64 (n3:Int),.int .u16 (n4:Int)]=dW (got fN s) by rw [dW,got,Hn1.out,Hn2.out,Hn3.out,Hn4.out,HQ.out.1,HQ.out.2.1,HQ.out.2.2.1,HQ.out.2.2.2.1,HSB.out,HAB.out,HF0.out])
     have HSE:=Lh (setRow_heap _ w.heap.size _ (#[.int .i64 (fN:Int),.int .i64 (F:Int),.bool sb,.bool ab,.int .u64 (n1:Int),.int .u64 (n2:Int),.int .i64 (n3:Int),.int .u16 (n4:Int)]) _ _ zY.out.z)
     have HBE:=Lh (below_setRow zY.out.b (Nat.le_refl _) (#[.int .i64 (fN:Int),.int .i64 (F:Int),.bool sb,.bool ab,.int .u64 (n1:Int),.int .u64 (n2:Int),.int .i64 (n3:Int),.int .u16 (n4:Int)]))
     rw [HW14.out] at HSE HBE
     go_wp2_with (first
      | (refine wpList_load_row rfl 25 _ rfl X rfl 25 (#[.int .i64 (fN:Int),.int .i64 (F:Int),.bool sb,.bool ab,.int .u64 (n1:Int),.int .u64 (n2:Int),.int .i64 (n3:Int),.int .u16 (n4:Int)]) (0,0) _ ?_ Tryz.underlying25 rfl cZ ?_;rw [←HW14.out];exact zY.out.x)
      | (refine wpList_store_row rfl 25 _ _ rfl w.heap.size (#[.int .i64 (fN:Int),.int .i64 (F:Int),.bool sb,.bool ab,.int .u64 (n1:Int),.int .u64 (n2:Int),.int .i64 (n3:Int),.int .u16 (n4:Int)]) rfl rfl 25 (dW Cap.zero) ?_ cZ rfl (by simp [Value.oneCell']) ?_;rw [←HW14.out];exact zY.out.z))
     exact bodyPost_ret (aC rfl _ _ w.heap.size 25 (#[.int .i64 (fN:Int),.int .i64 (F:Int),.bool sb,.bool ab,.int .u64 (n1:Int),.int .u64 (n2:Int),.int .i64 (n3:Int),.int .u16 (n4:Int)]) (0,0) _ rfl HSE.out Tryz.underlying25 rfl cZ) rfl ⟨by rw [HVZ.out,←HEQ.out];rfl,HBE.out⟩
end Go.Proofs.YtnlhhjhidkjlbaaGreatDoor.L9
