/-
  Arguments of layer 10, opened: an option, a draft, two bytes; the table of sizes out of the condition of a row. No statement of the document is here.
-/
import Derived.Test.YthnokkcpmikajaaDoorJoinWalks
import Derived.Test.YthnokkcpmikajaaDoorNumRefs
import Derived.Test.YthnokkcpmikajaaDoorTie
import Derived.Test.YthnokkcpmikajaaDoorCards
import Derived.SevenTiedAt
import Derived.LaidMore
import Derived.Lib.LaidTab
import Derived.ProofKit
import Derived.OpenShut
import Derived.ShutString
import Derived.ChangeOld
import Derived.Below
import Derived.SizedLaws
import Derived.Stop.Joined
namespace Go.Proofs.YthnokkcpmikajaaDoor
open Go.ChangeShapes Go.WideShapes Go.ChangeAt Go.RowKit
set_option linter.unusedVariables false

theorem own : ownKnob Tryd.prog.godebug = none := by kernel_rfl
theorem laidOut : laidOutB Tryd.prog = true := by kernel_rfl
abbrev laid1 : List (String × DataW Unit) := [("plait/join.sizes", Rows.laid_plait_join_sizes)]
theorem door_met (os : Os) (args : Array Value) : laidMetH Tryd.prog laid1 ((World.doorLaid Tryd.prog 400 os).forCall (fun _ _ => 0) ⟨#[], args, []⟩).memory :=
  laidMetH_of_parts3 (fuel := 8) (laidMet_of_run' 8 (by kernel_rfl) (by kernel_rfl)) (by kernel_rfl) (by kernel_rfl)
/-- Two numbers, one behind the other. -/
theorem size_cells {H : Type} {enc : TypeId × Value → H} {w : World} {base : Nat} {sp : Nat → Bool} {held : Bool} {fuel : Nat} {c0 c1 : Value} {x : DataW H × List MemPlace}
    (h : DataW.trod enc Tryd.prog w base sp held fuel 58 [c0, c1] = some x) : ∃ a b : Int, c0 = .int .i64 a ∧ c1 = .int .i64 b ∧ x.1 = .agg [.lit (.int .i64 a), .lit (.int .i64 b)] := by
  obtain ⟨y0, y1, n, rfl, _, h0, h1⟩ := trod_struct2 Tryd.underlying58 h
  have q0 : DataW.trod enc Tryd.prog w base sp held n 3 (([c0, c1].drop 0).take (Tryd.prog.cellsOf 3)) = some y0 := h0
  have q1 : DataW.trod enc Tryd.prog w base sp held n 3 (([c0, c1].drop 1).take (Tryd.prog.cellsOf 3)) = some y1 := h1
  rw [show Tryd.prog.cellsOf 3 = 1 by kernel_rfl] at q0 q1
  obtain ⟨z0, e0, d0, _⟩ := DataW.trod_int Tryd.underlying3 q0
  obtain ⟨z1, e1, d1, _⟩ := DataW.trod_int Tryd.underlying3 q1
  exact ⟨z0, z1, by simpa using e0, by simpa using e1, by rw [d0, d1]⟩
set_option maxRecDepth 100000 in
theorem table_of {W : World} (h : laidMetH Tryd.prog laid1 W) : Tbl W := by
  rw [MakeChecks.laidMetH_plain _ _ _ (by kernel_rfl)] at h
  obtain ⟨ps, ⟨g', t', cs, fuel, p, q, hg', ht', hvar, hd, _, _⟩, _⟩ := h
  have hg : Tryd.prog.globalNamed "plait/join.sizes" = some 0 := by kernel_rfl
  have hty : (Tryd.prog.globals[0]?).map (·.type) = some 59 := by kernel_rfl
  obtain rfl := Option.some.inj (hg.symm.trans hg')
  obtain rfl := Option.some.inj (hty.symm.trans ht')
  obtain ⟨xs, m, _, hx, hl, hlen, hi⟩ := DataW.trod_array Tryd.underlying59 hd
  rw [show Tryd.prog.cellsOf 58 = 2 by kernel_rfl] at hi
  rw [show Tryd.prog.cellsOf 59 = 6 by kernel_rfl] at hl
  have hx' : Rows.laid_plait_join_sizes = DataW.agg (xs.map (·.1)) := congrArg Prod.fst hx
  obtain ⟨l⟩ := cs
  match l, hl, xs, hlen, hi, hx', hvar with
  | [c0, c1, c2, c3, c4, c5], _, [x0, x1, x2], _, hi, hx', hvar =>
    obtain ⟨a0, b0, rfl, rfl, e0⟩ := size_cells (show _ = some x0 from hi 0 (by decide))
    obtain ⟨a1, b1, rfl, rfl, e1⟩ := size_cells (show _ = some x1 from hi 1 (by decide))
    obtain ⟨a2, b2, rfl, rfl, e2⟩ := size_cells (show _ = some x2 from hi 2 (by decide))
    simp only [List.map_cons, List.map_nil, e0, e1, e2, Rows.laid_plait_join_sizes, DataW.agg.injEq, List.cons.injEq, DataW.lit.injEq, Lit.int.injEq, and_true, true_and] at hx'
    obtain ⟨⟨rfl, rfl⟩, ⟨rfl, rfl⟩, ⟨rfl, rfl⟩⟩ := hx'
    have hc : ∀ i, W.cell? ⟨0, i, none⟩ = _ := fun i => World.var?_cell hg hvar i
    have k0 := hc 0
    exact ⟨Nat.lt_of_le_of_lt (Nat.zero_le _) (World.block_lt_of_cell? W _ k0), k0, hc 1, hc 2, hc 3, hc 4, hc 5⟩
theorem agg_string {H : Type} {P : Program} {ts : List TypeId} {ds : List (DataW H)} (h : (DataW.weightsEach P ts ds).all (· ≤ reachBytes) = true) {j k : Nat} {t tk : TypeId} {fs : Array Field} {parts : List (DataW H)} {bytes : List UInt8}
    (ht : ts[j]? = some t) (hd : ds[j]? = some (.agg parts)) (hu : P.underlying t = some (.struct fs)) (hk : (fs.toList.map (·.type))[k]? = some tk) (hp : parts[k]? = some (.lit (.string bytes))) : bytes.length ≤ reachBytes := by
  have := List.all_eq_true.1 h _ (DataW.weights_mem_each ht hd bytes.length (by
    have hm := DataW.weights_mem_each (P := P) hk hp bytes.length (by simp [DataW.weights])
    simp only [DataW.weights, hu]
    exact hm))
  simpa using this
/-- An array of bytes. -/
theorem bytes_of {H : Type} {enc : TypeId × Value → H} {w : World} {base : Nat} {spare : Nat → Bool} {held : Bool} {fuel : Nat} {t : TypeId} {cs : List Value} {y : DataW H × List MemPlace} (N : Nat) (ht : Tryd.prog.underlying t = some (.array N 5)) (hct : Tryd.prog.cellsOf t = N)
    (h : DataW.trod enc Tryd.prog w base spare held fuel t cs = some y) : ∃ m : List UInt8, m.length = N ∧ cs = m.map fun b => Value.int .u8 (b.toNat : Int) := by
  obtain ⟨xs, m, _, hx, hl, hlen, hi⟩ := DataW.trod_array ht h
  rw [show Tryd.prog.cellsOf 5 = 1 by kernel_rfl] at hi
  rw [hct] at hl
  have hc : ∀ i (hi' : i < N), ∃ b : UInt8, cs[i]? = some (.int .u8 (b.toNat : Int)) := fun i hi' => by
    have q := hi i hi'
    have hcell : (cs.drop i).take 1 = [cs[i]'(by omega)] := by rw [List.drop_eq_getElem_cons (by omega : i < cs.length)]; rfl
    rw [Nat.mul_one, hcell, List.getElem?_eq_getElem (show i < xs.length by omega)] at q
    obtain ⟨b, hb, _, wf⟩ := DataW.trod_int Tryd.underlying5 q
    have e : cs[i]'(by omega) = .int .u8 b := by simpa using hb
    have hbd := bounds_u8 wf
    exact ⟨UInt8.ofNat b.toNat, by rw [List.getElem?_eq_getElem (by omega), e]; simp; omega⟩
  refine ⟨(List.range N).map fun i => if h : i < N then (hc i h).choose else 0, by simp, ?_⟩
  apply List.ext_getElem?
  intro i
  by_cases h : i < N
  · rw [(hc i h).choose_spec]
    simp [h]
  · rw [List.getElem?_eq_none (by omega), List.getElem?_eq_none (by simp; omega)]
set_option maxRecDepth 100000 in
theorem open_join {H : Type} {enc : TypeId × Value → H} {w : World} {base : Nat} {spare : Nat → Bool} {held : Bool} {r : Reach} {b0 : Nat} {v : Value} {d : DataW H} {p : List MemPlace}
    (hv : Value.okWide Tryd.prog w r b0 24 v) (h : DataW.Trod enc Tryd.prog w base spare held 24 v d p) :
    ∃ x : Jn, v = .agg (jnv x) ∧ (x.mac.size ≤ 140737488351232 → x.Ok) ∧ ∃ parts, d = .agg parts ∧ parts[5]? = some (.lit (.string x.mac.data.toList)) := by
  obtain ⟨cs, rfl, hcs⟩ := okWide_struct Tryd.underlying24 hv
  obtain ⟨fuel, hf⟩ := h
  have hn : cs.size = 6 := hcs.trans (by kernel_rfl : Tryd.prog.cellsOf 24 = 6)
  obtain ⟨xs, n, _, hx, hl, hlen, hfld⟩ := DataW.trod_struct Tryd.underlying24 hf
  have hd : d = .agg (xs.map (·.1)) := congrArg Prod.fst hx
  obtain ⟨l⟩ := cs
  have hln : l.length = 6 := hn
  have hxn : xs.length = 6 := hlen
  subst hd
  clear hx hl hlen hn hcs hv
  match l, hln, xs, hxn, hfld with
  | [c0, c1, c2, c3, c4, c5], hln, [y0, y1, y2, y3, y4, y5], _, hfld =>
    have t0 : DataW.trod enc Tryd.prog w base spare held n 3 [c0] = some y0 := by
      have q : DataW.trod enc Tryd.prog w base spare held n 3 (([c0, c1, c2, c3, c4, c5].drop 0).take (Tryd.prog.cellsOf 3)) = some y0 := hfld 0 _ rfl
      rw [show Tryd.prog.cellsOf 3 = 1 by kernel_rfl] at q
      exact q
    have t1 : DataW.trod enc Tryd.prog w base spare held n 4 [c1] = some y1 := by
      have q : DataW.trod enc Tryd.prog w base spare held n 4 (([c0, c1, c2, c3, c4, c5].drop 1).take (Tryd.prog.cellsOf 4)) = some y1 := hfld 1 _ rfl
      rw [show Tryd.prog.cellsOf 4 = 1 by kernel_rfl] at q
      exact q
    have t2 : DataW.trod enc Tryd.prog w base spare held n 3 [c2] = some y2 := by
      have q : DataW.trod enc Tryd.prog w base spare held n 3 (([c0, c1, c2, c3, c4, c5].drop 2).take (Tryd.prog.cellsOf 3)) = some y2 := hfld 2 _ rfl
      rw [show Tryd.prog.cellsOf 3 = 1 by kernel_rfl] at q
      exact q
    have t3 : DataW.trod enc Tryd.prog w base spare held n 22 [c3] = some y3 := by
      have q : DataW.trod enc Tryd.prog w base spare held n 22 (([c0, c1, c2, c3, c4, c5].drop 3).take (Tryd.prog.cellsOf 22)) = some y3 := hfld 3 _ rfl
      rw [show Tryd.prog.cellsOf 22 = 1 by kernel_rfl] at q
      exact q
    have t4 : DataW.trod enc Tryd.prog w base spare held n 22 [c4] = some y4 := by
      have q : DataW.trod enc Tryd.prog w base spare held n 22 (([c0, c1, c2, c3, c4, c5].drop 4).take (Tryd.prog.cellsOf 22)) = some y4 := hfld 4 _ rfl
      rw [show Tryd.prog.cellsOf 22 = 1 by kernel_rfl] at q
      exact q
    have t5 : DataW.trod enc Tryd.prog w base spare held n 9 [c5] = some y5 := by
      have q : DataW.trod enc Tryd.prog w base spare held n 9 (([c0, c1, c2, c3, c4, c5].drop 5).take (Tryd.prog.cellsOf 9)) = some y5 := hfld 5 _ rfl
      rw [show Tryd.prog.cellsOf 9 = 1 by kernel_rfl] at q
      exact q
    obtain ⟨z0, e0, d0, w0⟩ := DataW.trod_int Tryd.underlying3 t0
    obtain rfl : c0 = _ := by simpa using e0
    obtain ⟨l0, u0⟩ := bounds_i64 w0
    obtain ⟨z1, e1, d1⟩ := DataW.trod_bool Tryd.underlying4 t1
    obtain rfl : c1 = _ := by simpa using e1
    obtain ⟨z2, e2, d2, w2⟩ := DataW.trod_int Tryd.underlying3 t2
    obtain rfl : c2 = _ := by simpa using e2
    obtain ⟨l2, u2⟩ := bounds_i64 w2
    obtain ⟨z3, e3, d3, w3⟩ := DataW.trod_int Tryd.underlying22 t3
    obtain rfl : c3 = _ := by simpa using e3
    obtain ⟨l3, u3⟩ := bounds_u32 w3
    obtain ⟨m3, rfl⟩ := Int.eq_ofNat_of_zero_le l3
    obtain ⟨z4, e4, d4, w4⟩ := DataW.trod_int Tryd.underlying22 t4
    obtain rfl : c4 = _ := by simpa using e4
    obtain ⟨l4, u4⟩ := bounds_u32 w4
    obtain ⟨m4, rfl⟩ := Int.eq_ofNat_of_zero_le l4
    obtain ⟨z5, e5, d5, w5⟩ := DataW.trod_string Tryd.underlying9 t5
    obtain rfl : c5 = _ := by simpa using e5
    exact ⟨⟨z0, z1, z2, m3, m4, z5⟩, rfl, fun q => ⟨⟨l0, u0⟩, ⟨l2, u2⟩, show m3 ≤ 4294967295 by omega, show m4 ≤ 4294967295 by omega, show z5.size ≤ _ by have : z5.size ≤ 140737488351232 := q; omega⟩, _, rfl, by simp [d5]⟩
/-- A draft. -/
structure Dr where
  what : Nat
  id : Nat
  backup : Bool
  token : Nat
  nonce : Nat
  m : List UInt8
namespace Dr
structure Ok (d : Dr) : Prop where
  what : d.what ≤ 255
  id : d.id ≤ 255
  token : d.token ≤ 4294967295
  nonce : d.nonce ≤ 4294967295
  m : d.m.length = 20
/-- The option that it names. -/
def jn (d : Dr) : Jn := if d.what % 3 = 0 then ⟨0, d.backup, d.id, d.token, d.nonce, ⟨#[]⟩⟩ else if d.what % 3 = 1 then ⟨1, d.backup, d.id, 0, d.nonce, txt (d.m.take 8)⟩ else ⟨2, false, 0, 0, 0, txt d.m⟩
theorem jn_ok (d : Dr) (h : d.Ok) : d.jn.Ok := by
  obtain ⟨_, hi, ht, hn, hm⟩ := h
  unfold jn
  split
  · exact ⟨by simp, by show _ ≤ (d.id : Int) ∧ (d.id : Int) ≤ _; omega, ht, hn, by show (0 : Nat) ≤ _; omega⟩
  split
  · exact ⟨by simp, by show _ ≤ (d.id : Int) ∧ (d.id : Int) ≤ _; omega, by show (0 : Nat) ≤ _; omega, hn, by show (txt (d.m.take 8)).size ≤ _; rw [txt_size, List.length_take]; omega⟩
  · exact ⟨by simp, by simp, by show (0 : Nat) ≤ _; omega, by show (0 : Nat) ≤ _; omega, by show (txt d.m).size ≤ _; rw [txt_size]; omega⟩
theorem jn_may (d : Dr) (h : d.Ok) : d.jn.May := by
  obtain ⟨_, hi, ht, hn, hm⟩ := h
  unfold jn
  split
  · exact ⟨by simp, by show 0 ≤ (d.id : Int) ∧ (d.id : Int) ≤ 255; omega, rfl, fun q => absurd (show (0 : Int) = 1 from q) (by decide), fun q => absurd (show (0 : Int) = 2 from q) (by decide)⟩
  split
  · exact ⟨by simp, by show 0 ≤ (d.id : Int) ∧ (d.id : Int) ≤ 255; omega, by show (txt (d.m.take 8)).size = 8; rw [txt_size, List.length_take]; omega, fun _ => rfl, fun q => absurd (show (1 : Int) = 2 from q) (by decide)⟩
  · exact ⟨by simp, by simp, by show (txt d.m).size = 20; rw [txt_size]; omega, fun q => absurd (show (2 : Int) = 1 from q) (by decide), fun _ => ⟨rfl, rfl, rfl, rfl⟩⟩
end Dr
/-- A draft, as cells. -/
def drv (d : Dr) : Array Value := (.int .u8 (d.what : Int) :: .int .u8 (d.id : Int) :: .bool d.backup :: .int .u32 (d.token : Int) :: .int .u32 (d.nonce : Int) :: d.m.map fun b => Value.int .u8 (b.toNat : Int)).toArray
set_option maxRecDepth 100000 in
theorem open_draft {H : Type} {enc : TypeId × Value → H} {w : World} {base : Nat} {spare : Nat → Bool} {held : Bool} {r : Reach} {b0 : Nat} {v : Value} {d : DataW H} {p : List MemPlace}
    (hv : Value.okWide Tryd.prog w r b0 33 v) (h : DataW.Trod enc Tryd.prog w base spare held 33 v d p) :
    ∃ x : Dr, v = .agg (drv x) ∧ x.Ok := by
  obtain ⟨cs, rfl, hcs⟩ := okWide_struct Tryd.underlying33 hv
  obtain ⟨fuel, hf⟩ := h
  have hn : cs.size = 25 := hcs.trans (by kernel_rfl : Tryd.prog.cellsOf 33 = 25)
  obtain ⟨xs, n, _, hx, hl, hlen, hfld⟩ := DataW.trod_struct Tryd.underlying33 hf
  have hd : d = .agg (xs.map (·.1)) := congrArg Prod.fst hx
  obtain ⟨l⟩ := cs
  have hln : l.length = 25 := hn
  have hxn : xs.length = 6 := hlen
  subst hd
  clear hx hl hlen hn hcs hv
  match l, hln, xs, hxn, hfld with
  | c0 :: c1 :: c2 :: c3 :: c4 :: rest, hln, [y0, y1, y2, y3, y4, y5], _, hfld =>
    have t0 : DataW.trod enc Tryd.prog w base spare held n 5 [c0] = some y0 := by
      have q : DataW.trod enc Tryd.prog w base spare held n 5 (((c0 :: c1 :: c2 :: c3 :: c4 :: rest).drop 0).take (Tryd.prog.cellsOf 5)) = some y0 := hfld 0 _ rfl
      rw [show Tryd.prog.cellsOf 5 = 1 by kernel_rfl] at q
      exact q
    have t1 : DataW.trod enc Tryd.prog w base spare held n 5 [c1] = some y1 := by
      have q : DataW.trod enc Tryd.prog w base spare held n 5 (((c0 :: c1 :: c2 :: c3 :: c4 :: rest).drop 1).take (Tryd.prog.cellsOf 5)) = some y1 := hfld 1 _ rfl
      rw [show Tryd.prog.cellsOf 5 = 1 by kernel_rfl] at q
      exact q
    have t2 : DataW.trod enc Tryd.prog w base spare held n 4 [c2] = some y2 := by
      have q : DataW.trod enc Tryd.prog w base spare held n 4 (((c0 :: c1 :: c2 :: c3 :: c4 :: rest).drop 2).take (Tryd.prog.cellsOf 4)) = some y2 := hfld 2 _ rfl
      rw [show Tryd.prog.cellsOf 4 = 1 by kernel_rfl] at q
      exact q
    have t3 : DataW.trod enc Tryd.prog w base spare held n 22 [c3] = some y3 := by
      have q : DataW.trod enc Tryd.prog w base spare held n 22 (((c0 :: c1 :: c2 :: c3 :: c4 :: rest).drop 3).take (Tryd.prog.cellsOf 22)) = some y3 := hfld 3 _ rfl
      rw [show Tryd.prog.cellsOf 22 = 1 by kernel_rfl] at q
      exact q
    have t4 : DataW.trod enc Tryd.prog w base spare held n 22 [c4] = some y4 := by
      have q : DataW.trod enc Tryd.prog w base spare held n 22 (((c0 :: c1 :: c2 :: c3 :: c4 :: rest).drop 4).take (Tryd.prog.cellsOf 22)) = some y4 := hfld 4 _ rfl
      rw [show Tryd.prog.cellsOf 22 = 1 by kernel_rfl] at q
      exact q
    have ta : DataW.trod enc Tryd.prog w base spare held n 31 rest = some y5 := by
      have q : DataW.trod enc Tryd.prog w base spare held n 31 (((c0 :: c1 :: c2 :: c3 :: c4 :: rest).drop 5).take (Tryd.prog.cellsOf 31)) = some y5 := hfld 5 _ rfl
      rw [show Tryd.prog.cellsOf 31 = 20 by kernel_rfl] at q
      rw [show rest = ((c0 :: c1 :: c2 :: c3 :: c4 :: rest).drop 5).take 20 from (List.take_of_length_le (by simp at hln; show rest.length ≤ _; omega)).symm]
      exact q
    obtain ⟨m, hm, rfl⟩ := bytes_of 20 Tryd.underlying31 (by kernel_rfl) ta
    obtain ⟨z0, e0, d0, w0⟩ := DataW.trod_int Tryd.underlying5 t0
    obtain rfl : c0 = _ := by simpa using e0
    obtain ⟨l0, u0⟩ := bounds_u8 w0
    obtain ⟨m0, rfl⟩ := Int.eq_ofNat_of_zero_le l0
    obtain ⟨z1, e1, d1, w1⟩ := DataW.trod_int Tryd.underlying5 t1
    obtain rfl : c1 = _ := by simpa using e1
    obtain ⟨l1, u1⟩ := bounds_u8 w1
    obtain ⟨m1, rfl⟩ := Int.eq_ofNat_of_zero_le l1
    obtain ⟨z2, e2, d2⟩ := DataW.trod_bool Tryd.underlying4 t2
    obtain rfl : c2 = _ := by simpa using e2
    obtain ⟨z3, e3, d3, w3⟩ := DataW.trod_int Tryd.underlying22 t3
    obtain rfl : c3 = _ := by simpa using e3
    obtain ⟨l3, u3⟩ := bounds_u32 w3
    obtain ⟨m3, rfl⟩ := Int.eq_ofNat_of_zero_le l3
    obtain ⟨z4, e4, d4, w4⟩ := DataW.trod_int Tryd.underlying22 t4
    obtain rfl : c4 = _ := by simpa using e4
    obtain ⟨l4, u4⟩ := bounds_u32 w4
    obtain ⟨m4, rfl⟩ := Int.eq_ofNat_of_zero_le l4
    exact ⟨⟨m0, m1, z2, m3, m4, m⟩, rfl, ⟨show m0 ≤ 255 by omega, show m1 ≤ 255 by omega, show m3 ≤ 4294967295 by omega, show m4 ≤ 4294967295 by omega, hm⟩⟩
/-- Two bytes. -/
theorem open_two {H : Type} {enc : TypeId × Value → H} {w : World} {base : Nat} {spare : Nat → Bool} {held : Bool} {r : Reach} {b0 : Nat} {v : Value} {d : DataW H} {p : List MemPlace}
    (hv : Value.okWide Tryd.prog w r b0 34 v) (h : DataW.Trod enc Tryd.prog w base spare held 34 v d p) : ∃ a b : Nat, a ≤ 255 ∧ b ≤ 255 ∧ v = .agg #[.int .u8 (a : Int), .int .u8 (b : Int)] := by
  simp only [Value.okWide, Tryd.underlying34] at hv
  obtain ⟨cs, rfl, hsz', _⟩ := hv
  obtain ⟨fuel, hf⟩ := h
  obtain ⟨m, hm, he⟩ := bytes_of 2 Tryd.underlying34 (by kernel_rfl) hf
  have he : cs.toList = _ := he
  match m, hm, he with
  | [x, y], _, he =>
    have hx := x.toNat_lt
    have hy := y.toNat_lt
    exact ⟨x.toNat, y.toNat, by omega, by omega, by rw [← Array.toArray_toList (xs := cs), he]; rfl⟩
end Go.Proofs.YthnokkcpmikajaaDoor
