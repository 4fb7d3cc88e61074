/-
  A body that is read, in memory; what the closure over its cursor, and the methods that read its parts, answer, each by its walk.
-/
import Derived.Test.YtdhkjhkgjfcolaaDssPut
import Derived.Test.YtdhkjhkgjfcolaaCurMoves
import Derived.Test.YtdhkjhkgjfcolaaHeldSteps
namespace Go.Proofs.Ytdhkjhkgjfcolaa
open Go.ChangeShapes Go.WideShapes Go.ChangeAt Go.RowKit
set_option linter.unusedVariables false

/-- Nothing but two blocks, and what is new, has turned. -/
structure Two (w w' : World) (b c : Nat) : Prop where
  os : w'.os = w.os
  tape : w'.tape = w.tape
  output : w'.output = w.output
  size : w.heap.size ≤ w'.heap.size
  block : ∀ k, k < w.heap.size → k ≠ b → k ≠ c → w'.heap[k]? = w.heap[k]?
namespace Two
variable {w w' w'' : World} {b c : Nat}
theorem refl (w : World) (b c : Nat) : Two w w b c := ⟨rfl, rfl, rfl, Nat.le_refl _, fun _ _ _ _ => rfl⟩
theorem trans (h : Two w w' b c) (h' : Two w' w'' b c) : Two w w'' b c := ⟨h'.os.trans h.os, h'.tape.trans h.tape, h'.output.trans h.output, Nat.le_trans h.size h'.size, fun k hk hb hc => (h'.block k (Nat.lt_of_lt_of_le hk h.size) hb hc).trans (h.block k hk hb hc)⟩
theorem left (h : w.grownBy w' (some b)) : Two w w' b c := ⟨h.os, h.tape, h.output, h.size, fun k hk hb _ => h.block k hk (by intro q; injection q with q; exact hb q)⟩
theorem right (h : w.grownBy w' (some c)) : Two w w' b c := ⟨h.os, h.tape, h.output, h.size, fun k hk _ hc => h.block k hk (by intro q; injection q with q; exact hc q)⟩
theorem of_below (h : Below w.heap.size w w') : Two w w' b c := ⟨h.os, h.tape, h.output, h.size, fun k hk _ _ => h.block k hk⟩
theorem blk (h : Two w w' b c) {g : Nat} {t : TypeId} {cs : Array Value} (hg : Blk w g t cs) (hb : g ≠ b) (hc : g ≠ c) : Blk w' g t cs := hg.same (h.block g hg.lt hb hc)
theorem below (h : Two w w' b c) {B : Nat} (hb : B ≤ b) (hc : B ≤ c) (hs : B ≤ w.heap.size) : Below B w w' :=
  ⟨h.os, h.tape, h.output, h.size, fun k hk => h.block k (Nat.lt_of_lt_of_le hk hs) (Nat.ne_of_lt (Nat.lt_of_lt_of_le hk hb)) (Nat.ne_of_lt (Nat.lt_of_lt_of_le hk hc))⟩
end Two
/-- A body that is read: its signal so far, its cursor. -/
structure Rb (w : World) (b c : Nat) (s : ByteArray) (k : Nat) (br : Bool) (x : Ds) : Prop where
  body : Bd w b (ptr c) x ⟨#[]⟩
  cur : Cur w c s k br
  at_ : k ≤ s.size
  ne : b ≠ c
namespace Rb
variable {w w' : World} {b c : Nat} {s : ByteArray} {k k' : Nat} {br br' : Bool} {x y : Ds}
theorem below (h : Rb w b c s k br x) (q : Below w.heap.size w w') : Rb w' b c s k br x := ⟨h.body.below q h.body.lt, Blk.below h.cur q (Blk.lt h.cur), h.at_, h.ne⟩
theorem alloc (h : Rb w b c s k br x) (o : Obj) : Rb (w.alloc o) b c s k br x := ⟨h.body.alloc o, Blk.alloc h.cur o, h.at_, h.ne⟩
theorem moved (h : Rb w b c s k br x) {n : Int} (hm : Moved w w' c s (posO s k br n) (brO s k br n)) : Rb w' b c s (posO s k br n) (brO s k br n) x := ⟨Blk.grown h.body hm.1 (by intro q; injection q with q; exact h.ne q), hm.2, posO_le s k br n h.at_, h.ne⟩
theorem turned (h : Rb w b c s k br x) (hg : w.grownBy w' (some b)) (hd : Bd w' b (ptr c) y ⟨#[]⟩) : Rb w' b c s k br y := ⟨hd, Blk.grown h.cur hg (by intro q; injection q with q; exact h.ne q.symm), h.at_, h.ne⟩
theorem drewN (h : Rb w b c s k br x) (n : Nat) : Rb (w.drewN n) b c s k br x := ⟨Blk.drewN h.body n, Blk.drewN h.cur n, h.at_, h.ne⟩
end Rb

/-! ### A number of two possible sizes -/
abbrev r32 (c : Nat) : Value := .func (.func 52) #[ptr c] #[]
abbrev r64 (c : Nat) : Value := .func (.func 53) #[ptr c] #[]
abbrev rclo (g : Nat) : Value := .func (.func 67) #[] #[ptr (g + 1), ptr g]
/-- The closure's two variables. -/
structure Rcl (w : World) (g c : Nat) : Prop where
  b32 : Blk w g 88 #[r32 c]
  b64 : Blk w (g + 1) 89 #[r64 c]
theorem reader_any (c : Nat) (w : World) :
    Calls Try.prog 51 #[r32 c, r64 c] w fun e w' => e = .returned (rclo w.heap.size) ∧ Rcl w' w.heap.size c ∧ Below w.heap.size w w' := by
  have hb : Below w.heap.size w ((w.alloc (.cells #[r32 c] 88)).alloc (.cells #[r64 c] 89)) := ((Below.refl _ w).alloc (Nat.le_refl _) _).alloc (by simp) _
  have h1 : Blk ((w.alloc (.cells #[r32 c] 88)).alloc (.cells #[r64 c] 89)) w.heap.size 88 #[r32 c] := (Blk.new _ _ _).alloc _
  have h2 : Blk ((w.alloc (.cells #[r32 c] 88)).alloc (.cells #[r64 c] 89)) (w.heap.size + 1) 89 #[r64 c] := by
    have := Blk.new (w.alloc (.cells #[r32 c] 88)) 89 #[r64 c]
    simpa using this
  have HE := Lib.hid (show Rcl ((w.alloc (.cells #[r32 c] 88)).alloc (.cells #[r64 c] 89)) w.heap.size c ∧ Below w.heap.size w ((w.alloc (.cells #[r32 c] 88)).alloc (.cells #[r64 c] 89)) from ⟨⟨h1, h2⟩, hb⟩)
  clear hb h1 h2
  go_enter Try.func51, Try.ntmps51
  go_wp2_with fail
  go_ret; exact ⟨rfl, HE.out⟩
theorem rclo_any (l : Bool) (g c : Nat) (s : ByteArray) (k : Nat) (br : Bool) (w : World) (hs : s.size ≤ 9223372036854775807) (hk : k ≤ s.size) (h : Cur w c s k br) (hg : Rcl w g c) :
    Calls Try.prog 67 #[.bool l, ptr (g + 1), ptr g] w fun e w' => e = .returned (.int .u64 (numO s k br (wA true l) : Nat)) ∧ Moved w w' c s (posO s k br (wA true l : Nat)) (brO s k br (wA true l : Nat)) := by
  have c0 := hg.b32.cell 0
  have c1 := hg.b64.cell 0
  simp only [List.getElem?_toArray, List.getElem?_cons_zero] at c0 c1
  cases l
  · have HC := Lib.hid (U32_any c s k br w hs hk h)
    have hn := numO_le_4 s k br
    obtain ⟨n, hN⟩ : ∃ n, n = numO s k br 4 := ⟨_, rfl⟩
    rw [show numO s k br (wA true false) = n from hN.symm, show (wA true false : Nat) = 4 from rfl]
    rw [← hN] at HC hn
    have hc : (n : Int) % 18446744073709551616 = (n : Int) := by omega
    clear h hg c1 hN
    go_enter Try.func67, Try.ntmps67
    go_wp2_with fail
    refine HC.out.mono ?_
    rintro e W ⟨rfl, hm⟩
    have HE := Lib.hid hm
    clear hm
    go_wp2_with fail
    go_ret; exact ⟨rfl, HE.out⟩
  · have HC := Lib.hid (U64_any c s k br w hs hk h)
    obtain ⟨n, hN⟩ : ∃ n, n = numO s k br 8 := ⟨_, rfl⟩
    rw [show numO s k br (wA true true) = n from hN.symm, show (wA true true : Nat) = 8 from rfl]
    rw [← hN] at HC
    clear h hg c0 hN
    go_enter Try.func67, Try.ntmps67
    go_wp2_with fail
    refine HC.out.mono ?_
    rintro e W ⟨rfl, hm⟩
    have HE := Lib.hid hm
    clear hm
    go_wp2_with fail
    go_ret; exact ⟨rfl, HE.out⟩

/-! ### The first two bytes -/
/-- What two bytes tell. -/
def frontX (g : Nat) : Ds := Ds.bare ⟨fl g 16, fl g 1, fl g 2, 0, fl g 4, fl g 8, 0, 0, 0, false, 0⟩
def setAll (cs : Array Value) : Nat → List Value → Array Value
  | _, [] => cs
  | o, v :: r => setAll (cs.setIfInBounds o v) (o + 1) r
theorem Blk.setAll_ {g : Nat} {t : TypeId} : ∀ (vs : List Value) (o : Nat) (w : World) (cs : Array Value), Blk w g t cs → Blk (w.setCells g o vs) g t (setAll cs o vs)
  | [], _, _, _, h => h
  | v :: r, o, w, cs, h => Blk.setAll_ r (o + 1) _ _ (h.set_ o v)
theorem only_setCells {g : Nat} : ∀ (vs : List Value) (o : Nat) (a w : World), a.grownBy w (some g) → a.grownBy (w.setCells g o vs) (some g)
  | [], _, _, _, h => h
  | v :: r, o, a, w, h => only_setCells r (o + 1) a _ (only_setCell h rfl v)
theorem bdv_set (c : Value) (x y : Ds) (T : ByteArray) : setAll (bdv c x T) 1 (dsv y).toList = bdv c y T := by kernel_rfl
/-- A signal stored into a body. -/
theorem store_ds {ops : Array Oper} {rest : List Oper} {o : Oper} {a : Act} {w : World} {Q : Exit → Act → World → Prop} (hgd : o.guard = none) (u v : Operand) (ho : o.op = .store 26 u v) (b : Nat) (hx : a.eval u = .pointer (some ⟨b, 1, none⟩)) (c : Value) (x y : Ds) (T : ByteArray) (hy : a.eval v = .agg (dsv y)) (hb : Bd w b c x T)
    (h : ∀ w', w.grownBy w' (some b) → Bd w' b c y T → wpList Try.prog ops Q rest (a.put o.dst undef) w') : wpList Try.prog ops Q (o :: rest) a w := by
  refine wpList_store_mid hgd 26 u v ho b 1 (dsv y) hx hy ?_ ds_size (ds_one y) (h _ ?_ ?_)
  · intro j hj
    have hj : j < 11 := hj
    refine ⟨?_, Blk.frozen hb _⟩
    rw [hb.cell]
    have : (1 + j) < (bdv c x T).size := by show 1 + j < 13; omega
    rw [Array.getElem?_eq_getElem this]; rfl
  · exact only_setCells _ _ _ _ (.refl _ _)
  · have := Blk.setAll_ (dsv y).toList 1 w _ hb
    rw [bdv_set] at this
    exact this
/-- What readFront leaves. -/
def Fronted (w : World) (b c : Nat) (s : ByteArray) (e : Ending) (w' : World) : Prop := ∃ v : Int, e = .returned (.int .i64 v) ∧ Two w w' b c ∧ ((v ≠ 0 ∧ dec s = (.zero, v)) ∨ (v = 0 ∧ 2 ≤ s.size ∧ byteAt s 0 / 16 = 2 ∧ ¬ (fl (byteAt s 1) 1 = false ∧ fl (byteAt s 1) 4 = false) ∧ Rb w' b c s 2 false (frontX (byteAt s 1))))
theorem byte_16 (n : Nat) (h : n < 256) : (n : Int).tdiv 16 = ((n / 16 : Nat) : Int) := by rw [Int.tdiv_eq_ediv_of_nonneg (by omega)]; omega
theorem byte_and5 : ∀ c : Fin 256, (bits .and .u8 (c.val : Int) 5 == 0) = (!(fl c.val 1) && !(fl c.val 4)) := by decide +kernel
theorem byte_and1 : ∀ c : Fin 256, (!(bits .and .u8 (c.val : Int) 1 == 0)) = fl c.val 1 := by decide +kernel
theorem byte_and2 : ∀ c : Fin 256, (!(bits .and .u8 (c.val : Int) 2 == 0)) = fl c.val 2 := by decide +kernel
theorem byte_and4 : ∀ c : Fin 256, (!(bits .and .u8 (c.val : Int) 4 == 0)) = fl c.val 4 := by decide +kernel
theorem byte_and8 : ∀ c : Fin 256, (!(bits .and .u8 (c.val : Int) 8 == 0)) = fl c.val 8 := by decide +kernel
theorem byte_and16 : ∀ c : Fin 256, (!(bits .and .u8 (c.val : Int) 16 == 0)) = fl c.val 16 := by decide +kernel
end Go.Proofs.Ytdhkjhkgjfcolaa
