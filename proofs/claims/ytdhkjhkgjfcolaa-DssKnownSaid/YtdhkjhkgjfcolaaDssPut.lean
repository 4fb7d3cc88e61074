/-
  A body that is written, in memory; what the methods of package dss that write its parts answer, each by its walk.
-/
import Derived.Test.YtdhkjhkgjfcolaaDssWalks
import Derived.Deep.MidRow
namespace Go.Proofs.Ytdhkjhkgjfcolaa
open Go.ChangeShapes Go.WideShapes Go.ChangeAt Go.RowKit
set_option linter.unusedVariables false

/-- A body's struct, as cells: its cursor, its signal, its text. -/
abbrev bdv (c : Value) (x : Ds) (T : ByteArray) : Array Value := #[c, .bool x.fin, .bool x.ha, .bool x.la, .int .u64 (x.ack : Int), .bool x.hm, .bool x.ld, .int .u64 (x.dsn : Int), .int .u32 (x.ssn : Int), .int .i64 x.len, .bool x.hs, .int .u16 (x.sum : Int), .string T]
abbrev ptr (b : Nat) : Value := .pointer (some ⟨b, 0, none⟩)
/-- A body in memory. -/
def Bd (w : World) (b : Nat) (c : Value) (x : Ds) (T : ByteArray) : Prop := Blk w b 53 (bdv c x T)
section
variable {w w' : World} {b : Nat} {c : Value} {x : Ds} {T : ByteArray}
theorem Bd.blk (h : Bd w b c x T) : Blk w b 53 (bdv c x T) := h
theorem Bd.cell (h : Bd w b c x T) (i : Nat) : w.cell? ⟨b, i, none⟩ = (bdv c x T)[i]? := Blk.cell h i
theorem Bd.setText (h : Bd w b c x T) (S : ByteArray) : Bd (w.setCell ⟨b, 12, none⟩ (.string S)) b c x S := Blk.set_ h 12 _
theorem Bd.below (h : Bd w b c x T) {B : Nat} (hb : Below B w w') (hg : b < B) : Bd w' b c x T := Blk.below h hb hg
theorem Bd.lt (h : Bd w b c x T) : b < w.heap.size := Blk.lt h
theorem Bd.alloc (h : Bd w b c x T) (o : Obj) : Bd (w.alloc o) b c x T := Blk.alloc h o
theorem Bd.range (h : Bd w b c x T) : w.rangeAt b 1 (dsv x).toList := World.rangeAt_of_block h 1 11
end
theorem ds_size' (x : Ds) : (Try.prog.info? 26).map (·.size) = some (dsv x).toList.length := ds_size
/-- A signal loaded out of a body. -/
theorem load_ds {ops : Array Oper} {rest : List Oper} {o : Oper} {a : Act} {w : World} {Q : Exit → Act → World → Prop} (hgd : o.guard = none) (v : Operand) (ho : o.op = .load 26 v) (b : Nat) (hx : a.eval v = .pointer (some ⟨b, 1, none⟩)) (c : Value) (x : Ds) (T : ByteArray) (hb : Bd w b c x T)
    (h : wpList Try.prog ops Q rest (a.put o.dst (.agg (dsv x))) w) : wpList Try.prog ops Q (o :: rest) a w :=
  wpList_load_mid hgd 26 v ho b 1 hx (dsv x).toList _ hb.range Try.underlying26 rfl (ds_size' x) h
/-- What writing leaves: the body's text is S, nothing but the body has turned. -/
abbrev Wrote (w : World) (b : Nat) (c : Value) (x : Ds) (S : ByteArray) (e : Ending) (w' : World) : Prop := e = .returned (.tuple #[]) ∧ w.grownBy w' (some b) ∧ Bd w' b c x S
set_option maxRecDepth 100000 in
theorem put8_any (b n : Nat) (c : Value) (x : Ds) (T S : ByteArray) (w : World) (hT : T.size ≤ 9223372036854775000) (hn : n ≤ 255) (hS : T ++ txt (be 1 n) = S) (h : Bd w b c x T) :
    Calls Try.prog 42 #[ptr b, .int .u8 (n : Int)] w (Wrote w b c x S) := by
  have H := Lib.hid h
  have HS := Lib.hid (show T ++ ⟨(be 1 n).toArray⟩ = S from hS)
  have c12 := h.cell 12
  simp only [List.getElem?_toArray, List.getElem?_cons_zero, List.getElem?_cons_succ] at c12
  clear h hS
  go_enter Try.func42, Try.ntmps42
  go_wp2_with fail
  refine (answer (Put8_any T n w hT hn) (congrArg Value.string HS.out)).mono ?_
  rintro e W ⟨rfl, hb⟩
  have HW := Lib.hid (H.out.below hb H.out.lt)
  have HB := Lib.hid (only_of_below hb (some b))
  have c' := HW.out.cell 12
  have fz := HW.out.blk.frozen 12
  simp only [List.getElem?_toArray, List.getElem?_cons_zero, List.getElem?_cons_succ] at c'
  clear hb c12
  go_wp2_with fail
  go_end0; exact ⟨rfl, only_setCell HB.out rfl _, HW.out.setText _⟩
set_option maxRecDepth 100000 in
theorem put16_any (b n : Nat) (c : Value) (x : Ds) (T S : ByteArray) (w : World) (hT : T.size ≤ 9223372036854775000) (hn : n ≤ 65535) (hS : T ++ txt (be 2 n) = S) (h : Bd w b c x T) :
    Calls Try.prog 47 #[ptr b, .int .u16 (n : Int)] w (Wrote w b c x S) := by
  have H := Lib.hid h
  have HS := Lib.hid (show T ++ ⟨(be 2 n).toArray⟩ = S from hS)
  have c12 := h.cell 12
  simp only [List.getElem?_toArray, List.getElem?_cons_zero, List.getElem?_cons_succ] at c12
  clear h hS
  go_enter Try.func47, Try.ntmps47
  go_wp2_with fail
  refine (answer (Put16_any T n w hT hn) (congrArg Value.string HS.out)).mono ?_
  rintro e W ⟨rfl, hb⟩
  have HW := Lib.hid (H.out.below hb H.out.lt)
  have HB := Lib.hid (only_of_below hb (some b))
  have c' := HW.out.cell 12
  have fz := HW.out.blk.frozen 12
  simp only [List.getElem?_toArray, List.getElem?_cons_zero, List.getElem?_cons_succ] at c'
  clear hb c12
  go_wp2_with fail
  go_end0; exact ⟨rfl, only_setCell HB.out rfl _, HW.out.setText _⟩
set_option maxRecDepth 100000 in
theorem put32_any (b n : Nat) (c : Value) (x : Ds) (T S : ByteArray) (w : World) (hT : T.size ≤ 9223372036854775000) (hn : n ≤ 4294967295) (hS : T ++ txt (be 4 n) = S) (h : Bd w b c x T) :
    Calls Try.prog 45 #[ptr b, .int .u32 (n : Int)] w (Wrote w b c x S) := by
  have H := Lib.hid h
  have HS := Lib.hid (show T ++ ⟨(be 4 n).toArray⟩ = S from hS)
  have c12 := h.cell 12
  simp only [List.getElem?_toArray, List.getElem?_cons_zero, List.getElem?_cons_succ] at c12
  clear h hS
  go_enter Try.func45, Try.ntmps45
  go_wp2_with fail
  refine (answer (Put32_any T n w hT hn) (congrArg Value.string HS.out)).mono ?_
  rintro e W ⟨rfl, hb⟩
  have HW := Lib.hid (H.out.below hb H.out.lt)
  have HB := Lib.hid (only_of_below hb (some b))
  have c' := HW.out.cell 12
  have fz := HW.out.blk.frozen 12
  simp only [List.getElem?_toArray, List.getElem?_cons_zero, List.getElem?_cons_succ] at c'
  clear hb c12
  go_wp2_with fail
  go_end0; exact ⟨rfl, only_setCell HB.out rfl _, HW.out.setText _⟩
set_option maxRecDepth 100000 in
theorem put64_any (b n : Nat) (c : Value) (x : Ds) (T S : ByteArray) (w : World) (hT : T.size ≤ 9223372036854775000) (hn : n ≤ 18446744073709551615) (hS : T ++ txt (be 8 n) = S) (h : Bd w b c x T) :
    Calls Try.prog 46 #[ptr b, .int .u64 (n : Int)] w (Wrote w b c x S) := by
  have H := Lib.hid h
  have HS := Lib.hid (show T ++ ⟨(be 8 n).toArray⟩ = S from hS)
  have c12 := h.cell 12
  simp only [List.getElem?_toArray, List.getElem?_cons_zero, List.getElem?_cons_succ] at c12
  clear h hS
  go_enter Try.func46, Try.ntmps46
  go_wp2_with fail
  refine (answer (Put64_any T n w hT hn) (congrArg Value.string HS.out)).mono ?_
  rintro e W ⟨rfl, hb⟩
  have HW := Lib.hid (H.out.below hb H.out.lt)
  have HB := Lib.hid (only_of_below hb (some b))
  have c' := HW.out.cell 12
  have fz := HW.out.blk.frozen 12
  simp only [List.getElem?_toArray, List.getElem?_cons_zero, List.getElem?_cons_succ] at c'
  clear hb c12
  go_wp2_with fail
  go_end0; exact ⟨rfl, only_setCell HB.out rfl _, HW.out.setText _⟩

/-! ### A number of two possible sizes -/
abbrev m32 (b : Nat) : Value := .func (.func 45) #[ptr b] #[]
abbrev m64 (b : Nat) : Value := .func (.func 46) #[ptr b] #[]
abbrev wclo (g : Nat) : Value := .func (.func 61) #[] #[ptr (g + 1), ptr g]
/-- The closure's two variables. -/
structure Wcl (w : World) (g b : Nat) : Prop where
  b32 : Blk w g 79 #[m32 b]
  b64 : Blk w (g + 1) 80 #[m64 b]
theorem writer_any (b : Nat) (w : World) :
    Calls Try.prog 44 #[m32 b, m64 b] w fun e w' => e = .returned (wclo w.heap.size) ∧ Wcl w' w.heap.size b ∧ Below w.heap.size w w' := by
  have hb : Below w.heap.size w ((w.alloc (.cells #[m32 b] 79)).alloc (.cells #[m64 b] 80)) := ((Below.refl _ w).alloc (Nat.le_refl _) _).alloc (by simp) _
  have h1 : Blk ((w.alloc (.cells #[m32 b] 79)).alloc (.cells #[m64 b] 80)) w.heap.size 79 #[m32 b] := (Blk.new _ _ _).alloc _
  have h2 : Blk ((w.alloc (.cells #[m32 b] 79)).alloc (.cells #[m64 b] 80)) (w.heap.size + 1) 80 #[m64 b] := by
    have := Blk.new (w.alloc (.cells #[m32 b] 79)) 80 #[m64 b]
    simpa using this
  have HE := Lib.hid (show Wcl ((w.alloc (.cells #[m32 b] 79)).alloc (.cells #[m64 b] 80)) w.heap.size b ∧ Below w.heap.size w ((w.alloc (.cells #[m32 b] 79)).alloc (.cells #[m64 b] 80)) from ⟨⟨h1, h2⟩, hb⟩)
  clear hb h1 h2
  go_enter Try.func44, Try.ntmps44
  go_wp2_with fail
  go_ret; exact ⟨rfl, HE.out⟩
theorem wclo_any (l : Bool) (n g b : Nat) (c : Value) (x : Ds) (T S : ByteArray) (w : World) (hT : T.size ≤ 9223372036854775000) (hn : n < 256 ^ wA true l) (hS : T ++ txt (be (wA true l) n) = S) (h : Bd w b c x T) (hg : Wcl w g b) :
    Calls Try.prog 61 #[.int .u64 (n : Int), .bool l, ptr (g + 1), ptr g] w (Wrote w b c x S) := by
  have c0 := hg.b32.cell 0
  have c1 := hg.b64.cell 0
  simp only [List.getElem?_toArray, List.getElem?_cons_zero] at c0 c1
  cases l
  · have HC := Lib.hid (put32_any b n c x T S w hT (by have : n < 256 ^ 4 := hn; omega) hS h)
    have hc : (n : Int) % 4294967296 = (n : Int) := by have : n < 256 ^ 4 := hn; omega
    clear hS h hg hn c1
    go_enter Try.func61, Try.ntmps61
    go_wp2_with fail
    refine HC.out.mono ?_
    rintro e W ⟨rfl, hb, hd⟩
    have HE := Lib.hid (And.intro hb hd)
    clear hb hd
    go_wp2_with fail
    go_end0; exact ⟨rfl, HE.out⟩
  · have HC := Lib.hid (put64_any b n c x T S w hT (by have : n < 256 ^ 8 := hn; omega) hS h)
    clear hS h hg hn c0
    go_enter Try.func61, Try.ntmps61
    go_wp2_with fail
    refine HC.out.mono ?_
    rintro e W ⟨rfl, hb, hd⟩
    have HE := Lib.hid (And.intro hb hd)
    clear hb hd
    go_wp2_with fail
    go_end0; exact ⟨rfl, HE.out⟩
end Go.Proofs.Ytdhkjhkgjfcolaa
