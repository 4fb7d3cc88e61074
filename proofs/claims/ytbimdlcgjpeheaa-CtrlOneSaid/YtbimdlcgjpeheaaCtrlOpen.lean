/-
  Arguments of layer 13, opened: a Prio, a Rst, arrays of bytes. No statement of the document is here.
-/
import Derived.Test.YtbimdlcgjpeheaaCtrlWalks
import Derived.Test.YtbimdlcgjpeheaaNumRefs
import Derived.WalkKit
import Derived.ProofKit
import Derived.OpenShut
import Derived.ShutString
import Derived.ChangeOld
import Derived.Below
import Derived.SizedLaws
namespace Go.Proofs.Ytbimdlcgjpeheaa
open Go.ChangeShapes Go.WideShapes Go.ChangeAt Go.RowKit
set_option linter.unusedVariables false

/-- An array of bytes. -/
theorem bytes_of {H : Type} {enc : TypeId × Value → H} {w : World} {base : Nat} {spare : Nat → Bool} {held : Bool} {fuel : Nat} {t : TypeId} {cs : List Value} {y : DataW H × List MemPlace} (N : Nat) (ht : Try.prog.underlying t = some (.array N 5)) (hct : Try.prog.cellsOf t = N)
    (h : DataW.trod enc Try.prog w base spare held fuel t cs = some y) : ∃ m : List UInt8, m.length = N ∧ cs = m.map fun b => Value.int .u8 (b.toNat : Int) := by
  obtain ⟨xs, m, _, hx, hl, hlen, hi⟩ := DataW.trod_array ht h
  rw [show Try.prog.cellsOf 5 = 1 by kernel_rfl] at hi
  rw [hct] at hl
  have hc : ∀ i (hi' : i < N), ∃ b : UInt8, cs[i]? = some (.int .u8 (b.toNat : Int)) := fun i hi' => by
    have q := hi i hi'
    have hcell : (cs.drop i).take 1 = [cs[i]'(by omega)] := by rw [List.drop_eq_getElem_cons (by omega : i < cs.length)]; rfl
    rw [Nat.mul_one, hcell, List.getElem?_eq_getElem (show i < xs.length by omega)] at q
    obtain ⟨b, hb, _, wf⟩ := DataW.trod_int Try.underlying5 q
    have e : cs[i]'(by omega) = .int .u8 b := by simpa using hb
    have hbd := bounds_u8 wf
    exact ⟨UInt8.ofNat b.toNat, by rw [List.getElem?_eq_getElem (by omega), e]; simp; omega⟩
  refine ⟨(List.range N).map fun i => if h : i < N then (hc i h).choose else 0, by simp, ?_⟩
  apply List.ext_getElem?
  intro i
  by_cases h : i < N
  · rw [(hc i h).choose_spec]
    simp [h]
  · rw [List.getElem?_eq_none (by omega), List.getElem?_eq_none (by simp; omega)]
set_option maxRecDepth 100000 in
theorem open_prio {H : Type} {enc : TypeId × Value → H} {w : World} {base : Nat} {spare : Nat → Bool} {held : Bool} {r : Reach} {b0 : Nat} {v : Value} {d : DataW H} {p : List MemPlace}
    (hv : Value.okWide Try.prog w r b0 23 v) (h : DataW.Trod enc Try.prog w base spare held 23 v d p) :
    ∃ b : Bool, v = .agg (prv b) := by
  obtain ⟨cs, rfl, hcs⟩ := okWide_struct Try.underlying23 hv
  obtain ⟨fuel, hf⟩ := h
  have hn : cs.size = 1 := hcs.trans (by kernel_rfl : Try.prog.cellsOf 23 = 1)
  obtain ⟨xs, n, _, hx, hl, hlen, hfld⟩ := DataW.trod_struct Try.underlying23 hf
  have hd : d = .agg (xs.map (·.1)) := congrArg Prod.fst hx
  obtain ⟨l⟩ := cs
  have hln : l.length = 1 := hn
  have hxn : xs.length = 1 := hlen
  subst hd
  clear hx hl hlen hn hcs hv
  match l, hln, xs, hxn, hfld with
  | [c0], hln, [y0], _, hfld =>
    have t0 : DataW.trod enc Try.prog w base spare held n 4 [c0] = some y0 := by
      have q : DataW.trod enc Try.prog w base spare held n 4 (([c0].drop 0).take (Try.prog.cellsOf 4)) = some y0 := hfld 0 _ rfl
      rw [show Try.prog.cellsOf 4 = 1 by kernel_rfl] at q
      exact q
    obtain ⟨z0, e0, d0⟩ := DataW.trod_bool Try.underlying4 t0
    obtain rfl : c0 = _ := by simpa using e0
    exact ⟨z0, rfl⟩
set_option maxRecDepth 100000 in
theorem open_rst {H : Type} {enc : TypeId × Value → H} {w : World} {base : Nat} {spare : Nat → Bool} {held : Bool} {r : Reach} {b0 : Nat} {v : Value} {d : DataW H} {p : List MemPlace}
    (hv : Value.okWide Try.prog w r b0 26 v) (h : DataW.Trod enc Try.prog w base spare held 26 v d p) :
    ∃ f q : Int, v = .agg (rsv f q) ∧ (-9223372036854775808 ≤ f ∧ f ≤ 9223372036854775807) ∧ (-9223372036854775808 ≤ q ∧ q ≤ 9223372036854775807) := by
  obtain ⟨cs, rfl, hcs⟩ := okWide_struct Try.underlying26 hv
  obtain ⟨fuel, hf⟩ := h
  have hn : cs.size = 2 := hcs.trans (by kernel_rfl : Try.prog.cellsOf 26 = 2)
  obtain ⟨xs, n, _, hx, hl, hlen, hfld⟩ := DataW.trod_struct Try.underlying26 hf
  have hd : d = .agg (xs.map (·.1)) := congrArg Prod.fst hx
  obtain ⟨l⟩ := cs
  have hln : l.length = 2 := hn
  have hxn : xs.length = 2 := hlen
  subst hd
  clear hx hl hlen hn hcs hv
  match l, hln, xs, hxn, hfld with
  | [c0, c1], hln, [y0, y1], _, hfld =>
    have t0 : DataW.trod enc Try.prog w base spare held n 3 [c0] = some y0 := by
      have q : DataW.trod enc Try.prog w base spare held n 3 (([c0, c1].drop 0).take (Try.prog.cellsOf 3)) = some y0 := hfld 0 _ rfl
      rw [show Try.prog.cellsOf 3 = 1 by kernel_rfl] at q
      exact q
    have t1 : DataW.trod enc Try.prog w base spare held n 3 [c1] = some y1 := by
      have q : DataW.trod enc Try.prog w base spare held n 3 (([c0, c1].drop 1).take (Try.prog.cellsOf 3)) = some y1 := hfld 1 _ rfl
      rw [show Try.prog.cellsOf 3 = 1 by kernel_rfl] at q
      exact q
    obtain ⟨z0, e0, d0, w0⟩ := DataW.trod_int Try.underlying3 t0
    obtain rfl : c0 = _ := by simpa using e0
    obtain ⟨l0, u0⟩ := bounds_i64 w0
    obtain ⟨z1, e1, d1, w1⟩ := DataW.trod_int Try.underlying3 t1
    obtain rfl : c1 = _ := by simpa using e1
    obtain ⟨l1, u1⟩ := bounds_i64 w1
    exact ⟨z0, z1, rfl, ⟨l0, u0⟩, ⟨l1, u1⟩⟩
set_option maxRecDepth 100000 in
theorem open_12 {H : Type} {enc : TypeId × Value → H} {w : World} {base : Nat} {spare : Nat → Bool} {held : Bool} {r : Reach} {b0 : Nat} {v : Value} {d : DataW H} {p : List MemPlace}
    (hv : Value.okWide Try.prog w r b0 44 v) (h : DataW.Trod enc Try.prog w base spare held 44 v d p) : ∃ m : List UInt8, m.length = 12 ∧ v = .agg (byv m) := by
  simp only [Value.okWide, Try.underlying44] at hv
  obtain ⟨cs, rfl, hsz', _⟩ := hv
  obtain ⟨fuel, hf⟩ := h
  obtain ⟨m, hm, he⟩ := bytes_of 12 Try.underlying44 (by kernel_rfl) hf
  have he : cs.toList = _ := he
  exact ⟨m, hm, by rw [← Array.toArray_toList (xs := cs), he]; rfl⟩
set_option maxRecDepth 100000 in
theorem open_9 {H : Type} {enc : TypeId × Value → H} {w : World} {base : Nat} {spare : Nat → Bool} {held : Bool} {r : Reach} {b0 : Nat} {v : Value} {d : DataW H} {p : List MemPlace}
    (hv : Value.okWide Try.prog w r b0 56 v) (h : DataW.Trod enc Try.prog w base spare held 56 v d p) : ∃ m : List UInt8, m.length = 9 ∧ v = .agg (byv m) := by
  simp only [Value.okWide, Try.underlying56] at hv
  obtain ⟨cs, rfl, hsz', _⟩ := hv
  obtain ⟨fuel, hf⟩ := h
  obtain ⟨m, hm, he⟩ := bytes_of 9 Try.underlying56 (by kernel_rfl) hf
  have he : cs.toList = _ := he
  exact ⟨m, hm, by rw [← Array.toArray_toList (xs := cs), he]; rfl⟩
end Go.Proofs.Ytbimdlcgjpeheaa
