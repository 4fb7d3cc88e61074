/-
  Arguments of layer 8, opened: a pair of keys with two numbers; an address. No statement of the document is here.
-/
import Derived.Test.YtcbakfnpbhgjoaaDoorShaOpen
import Derived.Test.YtcbakfnpbhgjoaaDoorKeyWalks
namespace Go.Proofs.YtcbakfnpbhgjoaaDoor
open Go.ChangeShapes Go.WideShapes Go.ChangeAt Go.RowKit
set_option linter.unusedVariables false

theorem agg_string {H : Type} {P : Program} {ts : List TypeId} {ds : List (DataW H)} (h : (DataW.weightsEach P ts ds).all (· ≤ reachBytes) = true) {j k : Nat} {t tk : TypeId} {fs : Array Field} {parts : List (DataW H)} {bytes : List UInt8}
    (ht : ts[j]? = some t) (hd : ds[j]? = some (.agg parts)) (hu : P.underlying t = some (.struct fs)) (hk : (fs.toList.map (·.type))[k]? = some tk) (hp : parts[k]? = some (.lit (.string bytes))) : bytes.length ≤ reachBytes := by
  have := List.all_eq_true.1 h _ (DataW.weights_mem_each ht hd bytes.length (by
    have hm := DataW.weights_mem_each (P := P) hk hp bytes.length (by simp [DataW.weights])
    simp only [DataW.weights, hu]
    exact hm))
  simpa using this
set_option maxRecDepth 100000 in
theorem open_keys {H : Type} {enc : TypeId × Value → H} {w : World} {base : Nat} {spare : Nat → Bool} {held : Bool} {r : Reach} {b0 : Nat} {v : Value} {d : DataW H} {p : List MemPlace}
    (hv : Value.okWide Tryd.prog w r b0 30 v) (h : DataW.Trod enc Tryd.prog w base spare held 30 v d p) :
    ∃ f s a b : Nat, v = .agg #[.int .u64 (f : Int), .int .u64 (s : Int), .int .u32 (a : Int), .int .u32 (b : Int)] ∧ f ≤ 18446744073709551615 ∧ s ≤ 18446744073709551615 ∧ a ≤ 4294967295 ∧ b ≤ 4294967295 := by
  obtain ⟨cs, rfl, hcs⟩ := okWide_struct Tryd.underlying30 hv
  obtain ⟨fuel, hf⟩ := h
  have h4 : cs.size = 4 := hcs.trans (by kernel_rfl : Tryd.prog.cellsOf 30 = 4)
  obtain ⟨xs, n, _, hx, hl, hlen, hfld⟩ := DataW.trod_struct Tryd.underlying30 hf
  have hd : d = .agg (xs.map (·.1)) := congrArg Prod.fst hx
  obtain ⟨l⟩ := cs
  have hl4 : l.length = 4 := h4
  have hx4 : xs.length = 4 := hlen
  subst hd
  clear hx hl hlen h4 hcs hv
  match l, hl4, xs, hx4, hfld with
  | [c0, c1, c2, c3], _, [y0, y1, y2, y3], _, hfld =>
    have t0 : DataW.trod enc Tryd.prog w base spare held n 22 [c0] = some y0 := by
      have q : DataW.trod enc Tryd.prog w base spare held n 22 (([c0, c1, c2, c3].drop 0).take (Tryd.prog.cellsOf 22)) = some y0 := hfld 0 _ rfl
      rw [show Tryd.prog.cellsOf 22 = 1 by kernel_rfl] at q
      exact q
    have t1 : DataW.trod enc Tryd.prog w base spare held n 22 [c1] = some y1 := by
      have q : DataW.trod enc Tryd.prog w base spare held n 22 (([c0, c1, c2, c3].drop 1).take (Tryd.prog.cellsOf 22)) = some y1 := hfld 1 _ rfl
      rw [show Tryd.prog.cellsOf 22 = 1 by kernel_rfl] at q
      exact q
    have t2 : DataW.trod enc Tryd.prog w base spare held n 24 [c2] = some y2 := by
      have q : DataW.trod enc Tryd.prog w base spare held n 24 (([c0, c1, c2, c3].drop 2).take (Tryd.prog.cellsOf 24)) = some y2 := hfld 2 _ rfl
      rw [show Tryd.prog.cellsOf 24 = 1 by kernel_rfl] at q
      exact q
    have t3 : DataW.trod enc Tryd.prog w base spare held n 24 [c3] = some y3 := by
      have q : DataW.trod enc Tryd.prog w base spare held n 24 (([c0, c1, c2, c3].drop 3).take (Tryd.prog.cellsOf 24)) = some y3 := hfld 3 _ rfl
      rw [show Tryd.prog.cellsOf 24 = 1 by kernel_rfl] at q
      exact q
    obtain ⟨z0, e0, d0, w0⟩ := DataW.trod_int Tryd.underlying22 t0
    obtain rfl : c0 = _ := by simpa using e0
    obtain ⟨z1, e1, d1, w1⟩ := DataW.trod_int Tryd.underlying22 t1
    obtain rfl : c1 = _ := by simpa using e1
    obtain ⟨z2, e2, d2, w2⟩ := DataW.trod_int Tryd.underlying24 t2
    obtain rfl : c2 = _ := by simpa using e2
    obtain ⟨z3, e3, d3, w3⟩ := DataW.trod_int Tryd.underlying24 t3
    obtain rfl : c3 = _ := by simpa using e3
    obtain ⟨l0, u0⟩ := bounds_u64 w0
    obtain ⟨m0, rfl⟩ := Int.eq_ofNat_of_zero_le l0
    obtain ⟨l1, u1⟩ := bounds_u64 w1
    obtain ⟨m1, rfl⟩ := Int.eq_ofNat_of_zero_le l1
    obtain ⟨l2, u2⟩ := bounds_u32 w2
    obtain ⟨m2, rfl⟩ := Int.eq_ofNat_of_zero_le l2
    obtain ⟨l3, u3⟩ := bounds_u32 w3
    obtain ⟨m3, rfl⟩ := Int.eq_ofNat_of_zero_le l3
    exact ⟨m0, m1, m2, m3, rfl, by omega, by omega, by omega, by omega⟩
set_option maxRecDepth 100000 in
theorem open_adr {H : Type} {enc : TypeId × Value → H} {w : World} {base : Nat} {spare : Nat → Bool} {held : Bool} {r : Reach} {b0 : Nat} {v : Value} {d : DataW H} {p : List MemPlace}
    (hv : Value.okWide Tryd.prog w r b0 38 v) (h : DataW.Trod enc Tryd.prog w base spare held 38 v d p) :
    ∃ (id : Int) (ip : ByteArray) (h : Bool) (port : Int), v = adr id ip h port ∧ (-9223372036854775808 ≤ id ∧ id ≤ 9223372036854775807) ∧ (-9223372036854775808 ≤ port ∧ port ≤ 9223372036854775807) ∧ ∃ parts, d = .agg parts ∧ parts[1]? = some (.lit (.string ip.data.toList)) := by
  obtain ⟨cs, rfl, hcs⟩ := okWide_struct Tryd.underlying38 hv
  obtain ⟨fuel, hf⟩ := h
  have h4 : cs.size = 4 := hcs.trans (by kernel_rfl : Tryd.prog.cellsOf 38 = 4)
  obtain ⟨xs, n, _, hx, hl, hlen, hfld⟩ := DataW.trod_struct Tryd.underlying38 hf
  have hd : d = .agg (xs.map (·.1)) := congrArg Prod.fst hx
  obtain ⟨l⟩ := cs
  have hl4 : l.length = 4 := h4
  have hx4 : xs.length = 4 := hlen
  subst hd
  clear hx hl hlen h4 hcs hv
  match l, hl4, xs, hx4, hfld with
  | [c0, c1, c2, c3], _, [y0, y1, y2, y3], _, hfld =>
    have t0 : DataW.trod enc Tryd.prog w base spare held n 3 [c0] = some y0 := by
      have q : DataW.trod enc Tryd.prog w base spare held n 3 (([c0, c1, c2, c3].drop 0).take (Tryd.prog.cellsOf 3)) = some y0 := hfld 0 _ rfl
      rw [show Tryd.prog.cellsOf 3 = 1 by kernel_rfl] at q
      exact q
    have t1 : DataW.trod enc Tryd.prog w base spare held n 9 [c1] = some y1 := by
      have q : DataW.trod enc Tryd.prog w base spare held n 9 (([c0, c1, c2, c3].drop 1).take (Tryd.prog.cellsOf 9)) = some y1 := hfld 1 _ rfl
      rw [show Tryd.prog.cellsOf 9 = 1 by kernel_rfl] at q
      exact q
    have t2 : DataW.trod enc Tryd.prog w base spare held n 4 [c2] = some y2 := by
      have q : DataW.trod enc Tryd.prog w base spare held n 4 (([c0, c1, c2, c3].drop 2).take (Tryd.prog.cellsOf 4)) = some y2 := hfld 2 _ rfl
      rw [show Tryd.prog.cellsOf 4 = 1 by kernel_rfl] at q
      exact q
    have t3 : DataW.trod enc Tryd.prog w base spare held n 3 [c3] = some y3 := by
      have q : DataW.trod enc Tryd.prog w base spare held n 3 (([c0, c1, c2, c3].drop 3).take (Tryd.prog.cellsOf 3)) = some y3 := hfld 3 _ rfl
      rw [show Tryd.prog.cellsOf 3 = 1 by kernel_rfl] at q
      exact q
    obtain ⟨z0, e0, d0, w0⟩ := DataW.trod_int Tryd.underlying3 t0
    obtain rfl : c0 = _ := by simpa using e0
    obtain ⟨z1, e1, d1, w1⟩ := DataW.trod_string Tryd.underlying9 t1
    obtain rfl : c1 = _ := by simpa using e1
    obtain ⟨z2, e2, d2⟩ := DataW.trod_bool Tryd.underlying4 t2
    obtain rfl : c2 = _ := by simpa using e2
    obtain ⟨z3, e3, d3, w3⟩ := DataW.trod_int Tryd.underlying3 t3
    obtain rfl : c3 = _ := by simpa using e3
    have b0 := bounds_i64 w0
    have b3 := bounds_i64 w3
    exact ⟨z0, z1, z2, z3, rfl, b0, b3, _, rfl, by simp [d1]⟩
end Go.Proofs.YtcbakfnpbhgjoaaDoor
