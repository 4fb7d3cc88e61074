/-
  A digest as an argument: its 32 bytes. No statement of the document is here.
-/
import Derived.Test.YtaeedicihildoaaDoorShaOpen
namespace Go.Proofs.YtaeedicihildoaaDoor
open Go.ChangeShapes Go.WideShapes Go.ChangeAt Go.RowKit
set_option linter.unusedVariables false

theorem dig_arr : Tryd.prog.underlying 23 = some (.array 32 5) := by kernel_rfl
set_option maxRecDepth 100000 in
theorem open_dig {H : Type} {enc : TypeId × Value → H} {w : World} {base : Nat} {spare : Nat → Bool} {held : Bool} {r : Reach} {b0 : Nat} {v : Value} {d : DataW H} {p : List MemPlace}
    (hv : Value.okWide Tryd.prog w r b0 23 v) (h : DataW.Trod enc Tryd.prog w base spare held 23 v d p) : ∃ l : List UInt8, l.length = 32 ∧ v = .agg (byv l) := by
  simp only [Value.okWide, dig_arr] at hv
  obtain ⟨cs, rfl, hsz', _⟩ := hv
  have hsz : cs.size = 32 := hsz'.trans (by kernel_rfl : Tryd.prog.cellsOf 23 = 32)
  obtain ⟨fuel, hf⟩ := h
  obtain ⟨xs, m, _, _, _, hx, hi⟩ := DataW.trod_array dig_arr hf
  have hc : ∀ i (hi' : i < 32), ∃ b : UInt8, cs[i]? = some (.int .u8 (b.toNat : Int)) := fun i hi' => by
    have q := hi i (by omega)
    have hcell : (((Value.agg cs).cells.toList.drop (i * Tryd.prog.cellsOf 5)).take (Tryd.prog.cellsOf 5)) = [cs[i]'(by omega)] := by
      rw [show Tryd.prog.cellsOf 5 = 1 by kernel_rfl, Nat.mul_one]
      show (cs.toList.drop i).take 1 = _
      rw [List.drop_eq_getElem_cons (by simpa using (by omega : i < cs.size))]
      simp
    first
      | rw [hcell, List.getElem?_eq_getElem (by omega)] at q
        obtain ⟨b, hb, _, wf⟩ := DataW.trod_int Tryd.underlying5 q
        have e : cs[i]'(by omega) = .int .u8 b := by simpa using hb
        have hbd := bounds_u8 wf
        exact ⟨UInt8.ofNat b.toNat, by rw [Array.getElem?_eq_getElem (by omega), e]; simp; omega⟩
  refine ⟨(List.range 32).map fun i => if h : i < 32 then (hc i h).choose else 0, by simp, ?_⟩
  congr 1
  apply Array.ext_getElem?
  intro i
  by_cases h : i < 32
  · rw [(hc i h).choose_spec]
    simp [byv, h]
  · rw [Array.getElem?_eq_none (by omega), Array.getElem?_eq_none (by simp [byv]; omega)]
end Go.Proofs.YtaeedicihildoaaDoor
