/-
  Arguments of layer 12, opened: an Add, a draft, two bytes. No statement of the document is here.
-/
import Derived.Test.YtcofdiamlmlhfaaAddrWalks
import Derived.Test.YtcofdiamlmlhfaaNumRefs
import Derived.WalkKit
import Derived.ProofKit
import Derived.OpenShut
import Derived.ShutString
import Derived.ChangeOld
import Derived.Below
import Derived.SizedLaws
namespace Go.Proofs.Ytcofdiamlmlhfaa
open Go.ChangeShapes Go.WideShapes Go.ChangeAt Go.RowKit
set_option linter.unusedVariables false

theorem agg_string {H : Type} {P : Program} {ts : List TypeId} {ds : List (DataW H)} (h : (DataW.weightsEach P ts ds).all (· ≤ reachBytes) = true) {j k : Nat} {t tk : TypeId} {fs : Array Field} {parts : List (DataW H)} {bytes : List UInt8}
    (ht : ts[j]? = some t) (hd : ds[j]? = some (.agg parts)) (hu : P.underlying t = some (.struct fs)) (hk : (fs.toList.map (·.type))[k]? = some tk) (hp : parts[k]? = some (.lit (.string bytes))) : bytes.length ≤ reachBytes := by
  have := List.all_eq_true.1 h _ (DataW.weights_mem_each ht hd bytes.length (by
    have hm := DataW.weights_mem_each (P := P) hk hp bytes.length (by simp [DataW.weights])
    simp only [DataW.weights, hu]
    exact hm))
  simpa using this
/-- An array of bytes. -/
theorem bytes_of {H : Type} {enc : TypeId × Value → H} {w : World} {base : Nat} {spare : Nat → Bool} {held : Bool} {fuel : Nat} {t : TypeId} {cs : List Value} {y : DataW H × List MemPlace} (N : Nat) (ht : Try.prog.underlying t = some (.array N 5)) (hct : Try.prog.cellsOf t = N)
    (h : DataW.trod enc Try.prog w base spare held fuel t cs = some y) : ∃ m : List UInt8, m.length = N ∧ cs = m.map fun b => Value.int .u8 (b.toNat : Int) := by
  obtain ⟨xs, m, _, hx, hl, hlen, hi⟩ := DataW.trod_array ht h
  rw [show Try.prog.cellsOf 5 = 1 by kernel_rfl] at hi
  rw [hct] at hl
  have hc : ∀ i (hi' : i < N), ∃ b : UInt8, cs[i]? = some (.int .u8 (b.toNat : Int)) := fun i hi' => by
    have q := hi i hi'
    have hcell : (cs.drop i).take 1 = [cs[i]'(by omega)] := by rw [List.drop_eq_getElem_cons (by omega : i < cs.length)]; rfl
    rw [Nat.mul_one, hcell, List.getElem?_eq_getElem (show i < xs.length by omega)] at q
    obtain ⟨b, hb, _, wf⟩ := DataW.trod_int Try.underlying5 q
    have e : cs[i]'(by omega) = .int .u8 b := by simpa using hb
    have hbd := bounds_u8 wf
    exact ⟨UInt8.ofNat b.toNat, by rw [List.getElem?_eq_getElem (by omega), e]; simp; omega⟩
  refine ⟨(List.range N).map fun i => if h : i < N then (hc i h).choose else 0, by simp, ?_⟩
  apply List.ext_getElem?
  intro i
  by_cases h : i < N
  · rw [(hc i h).choose_spec]
    simp [h]
  · rw [List.getElem?_eq_none (by omega), List.getElem?_eq_none (by simp; omega)]
set_option maxRecDepth 100000 in
theorem open_add {H : Type} {enc : TypeId × Value → H} {w : World} {base : Nat} {spare : Nat → Bool} {held : Bool} {r : Reach} {b0 : Nat} {v : Value} {d : DataW H} {p : List MemPlace}
    (hv : Value.okWide Try.prog w r b0 23 v) (h : DataW.Trod enc Try.prog w base spare held 23 v d p) :
    ∃ x : Ad, v = .agg (adv x) ∧ (x.ip.size ≤ 140737488351232 → x.mac.size ≤ 140737488351232 → x.Ok) ∧ ∃ parts, d = .agg parts ∧ parts[2]? = some (.lit (.string x.ip.data.toList)) ∧ parts[5]? = some (.lit (.string x.mac.data.toList)) := by
  obtain ⟨cs, rfl, hcs⟩ := okWide_struct Try.underlying23 hv
  obtain ⟨fuel, hf⟩ := h
  have hn : cs.size = 6 := hcs.trans (by kernel_rfl : Try.prog.cellsOf 23 = 6)
  obtain ⟨xs, n, _, hx, hl, hlen, hfld⟩ := DataW.trod_struct Try.underlying23 hf
  have hd : d = .agg (xs.map (·.1)) := congrArg Prod.fst hx
  obtain ⟨l⟩ := cs
  have hln : l.length = 6 := hn
  have hxn : xs.length = 6 := hlen
  subst hd
  clear hx hl hlen hn hcs hv
  match l, hln, xs, hxn, hfld with
  | [c0, c1, c2, c3, c4, c5], hln, [y0, y1, y2, y3, y4, y5], _, hfld =>
    have t0 : DataW.trod enc Try.prog w base spare held n 4 [c0] = some y0 := by
      have q : DataW.trod enc Try.prog w base spare held n 4 (([c0, c1, c2, c3, c4, c5].drop 0).take (Try.prog.cellsOf 4)) = some y0 := hfld 0 _ rfl
      rw [show Try.prog.cellsOf 4 = 1 by kernel_rfl] at q
      exact q
    have t1 : DataW.trod enc Try.prog w base spare held n 3 [c1] = some y1 := by
      have q : DataW.trod enc Try.prog w base spare held n 3 (([c0, c1, c2, c3, c4, c5].drop 1).take (Try.prog.cellsOf 3)) = some y1 := hfld 1 _ rfl
      rw [show Try.prog.cellsOf 3 = 1 by kernel_rfl] at q
      exact q
    have t2 : DataW.trod enc Try.prog w base spare held n 9 [c2] = some y2 := by
      have q : DataW.trod enc Try.prog w base spare held n 9 (([c0, c1, c2, c3, c4, c5].drop 2).take (Try.prog.cellsOf 9)) = some y2 := hfld 2 _ rfl
      rw [show Try.prog.cellsOf 9 = 1 by kernel_rfl] at q
      exact q
    have t3 : DataW.trod enc Try.prog w base spare held n 4 [c3] = some y3 := by
      have q : DataW.trod enc Try.prog w base spare held n 4 (([c0, c1, c2, c3, c4, c5].drop 3).take (Try.prog.cellsOf 4)) = some y3 := hfld 3 _ rfl
      rw [show Try.prog.cellsOf 4 = 1 by kernel_rfl] at q
      exact q
    have t4 : DataW.trod enc Try.prog w base spare held n 3 [c4] = some y4 := by
      have q : DataW.trod enc Try.prog w base spare held n 3 (([c0, c1, c2, c3, c4, c5].drop 4).take (Try.prog.cellsOf 3)) = some y4 := hfld 4 _ rfl
      rw [show Try.prog.cellsOf 3 = 1 by kernel_rfl] at q
      exact q
    have t5 : DataW.trod enc Try.prog w base spare held n 9 [c5] = some y5 := by
      have q : DataW.trod enc Try.prog w base spare held n 9 (([c0, c1, c2, c3, c4, c5].drop 5).take (Try.prog.cellsOf 9)) = some y5 := hfld 5 _ rfl
      rw [show Try.prog.cellsOf 9 = 1 by kernel_rfl] at q
      exact q
    obtain ⟨z0, e0, d0⟩ := DataW.trod_bool Try.underlying4 t0
    obtain rfl : c0 = _ := by simpa using e0
    obtain ⟨z1, e1, d1, w1⟩ := DataW.trod_int Try.underlying3 t1
    obtain rfl : c1 = _ := by simpa using e1
    obtain ⟨l1, u1⟩ := bounds_i64 w1
    obtain ⟨z2, e2, d2, w2⟩ := DataW.trod_string Try.underlying9 t2
    obtain rfl : c2 = _ := by simpa using e2
    obtain ⟨z3, e3, d3⟩ := DataW.trod_bool Try.underlying4 t3
    obtain rfl : c3 = _ := by simpa using e3
    obtain ⟨z4, e4, d4, w4⟩ := DataW.trod_int Try.underlying3 t4
    obtain rfl : c4 = _ := by simpa using e4
    obtain ⟨l4, u4⟩ := bounds_i64 w4
    obtain ⟨z5, e5, d5, w5⟩ := DataW.trod_string Try.underlying9 t5
    obtain rfl : c5 = _ := by simpa using e5
    exact ⟨⟨z0, z1, z2, z3, z4, z5⟩, rfl, fun q q' => ⟨⟨l1, u1⟩, show z2.size ≤ _ by have : z2.size ≤ 140737488351232 := q; omega, ⟨l4, u4⟩, show z5.size ≤ _ by have : z5.size ≤ 140737488351232 := q'; omega⟩, _, rfl, by simp [d2], by simp [d5]⟩
/-- A draft. -/
structure Dr where
  echo : Bool
  wide : Bool
  port : Bool
  id : Nat
  n : Nat
  b : List UInt8
namespace Dr
structure Ok (d : Dr) : Prop where
  id : d.id ≤ 255
  n : d.n ≤ 65535
  b : d.b.length = 24
/-- The Add that it names. -/
def ad (d : Dr) : Ad := ⟨d.echo, d.id, txt (d.b.take (if d.wide then 16 else 4)), d.port, if d.port then (d.n : Int) else 0, if d.echo then ⟨#[]⟩ else txt (d.b.drop 16)⟩
theorem ad_may (d : Dr) (h : d.Ok) : d.ad.May := by
  obtain ⟨echo, wide, port, id, n, b⟩ := d
  obtain ⟨hi, hn, hb⟩ := h
  have hi : id ≤ 255 := hi
  have hn : n ≤ 65535 := hn
  have hb : b.length = 24 := hb
  refine ⟨⟨show (0 : Int) ≤ (id : Int) by omega, show (id : Int) ≤ 255 by omega⟩, ?_, ?_, ?_, ?_⟩
  · cases wide
    · exact .inl (show (txt (b.take 4)).size = 4 by rw [txt_size, List.length_take]; omega)
    · exact .inr (show (txt (b.take 16)).size = 16 by rw [txt_size, List.length_take]; omega)
  · cases port
    · exact ⟨show (0 : Int) ≤ 0 by decide, show (0 : Int) ≤ 65535 by decide⟩
    · exact ⟨show (0 : Int) ≤ (n : Int) by omega, show (n : Int) ≤ 65535 by omega⟩
  · cases port
    · exact .inr rfl
    · exact .inl rfl
  · cases echo
    · show (txt (b.drop 16)).size = 8; rw [txt_size, List.length_drop]; omega
    · rfl
theorem ad_ok (d : Dr) (h : d.Ok) : d.ad.Ok := by
  obtain ⟨⟨a, b⟩, c, ⟨e, f⟩, _, g⟩ := d.ad_may h
  have : macOf d.ad.echo ≤ 8 := by cases d.ad.echo <;> decide
  exact ⟨⟨by omega, by omega⟩, by omega, ⟨by omega, by omega⟩, by omega⟩
end Dr
/-- A draft, as cells. -/
def drv (d : Dr) : Array Value := (.bool d.echo :: .bool d.wide :: .bool d.port :: .int .u8 (d.id : Int) :: .int .u16 (d.n : Int) :: d.b.map fun b => Value.int .u8 (b.toNat : Int)).toArray
set_option maxRecDepth 100000 in
theorem open_draft {H : Type} {enc : TypeId × Value → H} {w : World} {base : Nat} {spare : Nat → Bool} {held : Bool} {r : Reach} {b0 : Nat} {v : Value} {d : DataW H} {p : List MemPlace}
    (hv : Value.okWide Try.prog w r b0 35 v) (h : DataW.Trod enc Try.prog w base spare held 35 v d p) :
    ∃ x : Dr, v = .agg (drv x) ∧ x.Ok := by
  obtain ⟨cs, rfl, hcs⟩ := okWide_struct Try.underlying35 hv
  obtain ⟨fuel, hf⟩ := h
  have hn : cs.size = 29 := hcs.trans (by kernel_rfl : Try.prog.cellsOf 35 = 29)
  obtain ⟨xs, n, _, hx, hl, hlen, hfld⟩ := DataW.trod_struct Try.underlying35 hf
  have hd : d = .agg (xs.map (·.1)) := congrArg Prod.fst hx
  obtain ⟨l⟩ := cs
  have hln : l.length = 29 := hn
  have hxn : xs.length = 6 := hlen
  subst hd
  clear hx hl hlen hn hcs hv
  match l, hln, xs, hxn, hfld with
  | c0 :: c1 :: c2 :: c3 :: c4 :: rest, hln, [y0, y1, y2, y3, y4, y5], _, hfld =>
    have t0 : DataW.trod enc Try.prog w base spare held n 4 [c0] = some y0 := by
      have q : DataW.trod enc Try.prog w base spare held n 4 (((c0 :: c1 :: c2 :: c3 :: c4 :: rest).drop 0).take (Try.prog.cellsOf 4)) = some y0 := hfld 0 _ rfl
      rw [show Try.prog.cellsOf 4 = 1 by kernel_rfl] at q
      exact q
    have t1 : DataW.trod enc Try.prog w base spare held n 4 [c1] = some y1 := by
      have q : DataW.trod enc Try.prog w base spare held n 4 (((c0 :: c1 :: c2 :: c3 :: c4 :: rest).drop 1).take (Try.prog.cellsOf 4)) = some y1 := hfld 1 _ rfl
      rw [show Try.prog.cellsOf 4 = 1 by kernel_rfl] at q
      exact q
    have t2 : DataW.trod enc Try.prog w base spare held n 4 [c2] = some y2 := by
      have q : DataW.trod enc Try.prog w base spare held n 4 (((c0 :: c1 :: c2 :: c3 :: c4 :: rest).drop 2).take (Try.prog.cellsOf 4)) = some y2 := hfld 2 _ rfl
      rw [show Try.prog.cellsOf 4 = 1 by kernel_rfl] at q
      exact q
    have t3 : DataW.trod enc Try.prog w base spare held n 5 [c3] = some y3 := by
      have q : DataW.trod enc Try.prog w base spare held n 5 (((c0 :: c1 :: c2 :: c3 :: c4 :: rest).drop 3).take (Try.prog.cellsOf 5)) = some y3 := hfld 3 _ rfl
      rw [show Try.prog.cellsOf 5 = 1 by kernel_rfl] at q
      exact q
    have t4 : DataW.trod enc Try.prog w base spare held n 32 [c4] = some y4 := by
      have q : DataW.trod enc Try.prog w base spare held n 32 (((c0 :: c1 :: c2 :: c3 :: c4 :: rest).drop 4).take (Try.prog.cellsOf 32)) = some y4 := hfld 4 _ rfl
      rw [show Try.prog.cellsOf 32 = 1 by kernel_rfl] at q
      exact q
    have ta : DataW.trod enc Try.prog w base spare held n 33 rest = some y5 := by
      have q : DataW.trod enc Try.prog w base spare held n 33 (((c0 :: c1 :: c2 :: c3 :: c4 :: rest).drop 5).take (Try.prog.cellsOf 33)) = some y5 := hfld 5 _ rfl
      rw [show Try.prog.cellsOf 33 = 24 by kernel_rfl] at q
      rw [show rest = ((c0 :: c1 :: c2 :: c3 :: c4 :: rest).drop 5).take 24 from (List.take_of_length_le (by simp at hln; show rest.length ≤ _; omega)).symm]
      exact q
    obtain ⟨m, hm, rfl⟩ := bytes_of 24 Try.underlying33 (by kernel_rfl) ta
    obtain ⟨z0, e0, d0⟩ := DataW.trod_bool Try.underlying4 t0
    obtain rfl : c0 = _ := by simpa using e0
    obtain ⟨z1, e1, d1⟩ := DataW.trod_bool Try.underlying4 t1
    obtain rfl : c1 = _ := by simpa using e1
    obtain ⟨z2, e2, d2⟩ := DataW.trod_bool Try.underlying4 t2
    obtain rfl : c2 = _ := by simpa using e2
    obtain ⟨z3, e3, d3, w3⟩ := DataW.trod_int Try.underlying5 t3
    obtain rfl : c3 = _ := by simpa using e3
    obtain ⟨l3, u3⟩ := bounds_u8 w3
    obtain ⟨m3, rfl⟩ := Int.eq_ofNat_of_zero_le l3
    obtain ⟨z4, e4, d4, w4⟩ := DataW.trod_int Try.underlying32 t4
    obtain rfl : c4 = _ := by simpa using e4
    obtain ⟨l4, u4⟩ := bounds_u16 w4
    obtain ⟨m4, rfl⟩ := Int.eq_ofNat_of_zero_le l4
    exact ⟨⟨z0, z1, z2, m3, m4, m⟩, rfl, ⟨show m3 ≤ 255 by omega, show m4 ≤ 65535 by omega, hm⟩⟩
/-- Two bytes. -/
theorem open_two {H : Type} {enc : TypeId × Value → H} {w : World} {base : Nat} {spare : Nat → Bool} {held : Bool} {r : Reach} {b0 : Nat} {v : Value} {d : DataW H} {p : List MemPlace}
    (hv : Value.okWide Try.prog w r b0 36 v) (h : DataW.Trod enc Try.prog w base spare held 36 v d p) : ∃ a b : Nat, a ≤ 255 ∧ b ≤ 255 ∧ v = .agg #[.int .u8 (a : Int), .int .u8 (b : Int)] := by
  simp only [Value.okWide, Try.underlying36] at hv
  obtain ⟨cs, rfl, hsz', _⟩ := hv
  obtain ⟨fuel, hf⟩ := h
  obtain ⟨m, hm, he⟩ := bytes_of 2 Try.underlying36 (by kernel_rfl) hf
  have he : cs.toList = _ := he
  match m, hm, he with
  | [x, y], _, he =>
    have hx := x.toNat_lt
    have hy := y.toNat_lt
    exact ⟨x.toNat, y.toNat, by omega, by omega, by rw [← Array.toArray_toList (xs := cs), he]; rfl⟩
end Go.Proofs.Ytcofdiamlmlhfaa
