/-
  The document's own answers of layer 4 (plaitref04): Lay, Walk, Same, each by its walk.
-/
import Derived.Test.YtlmbccgldigihaaAreaLay
import Derived.Test.YtlmbccgldigihaaAreaWalk
import Derived.BigRegion
import Derived.ChangeAlike
namespace Go.Proofs.Ytlmbccgldigihaa
open Go.ChangeShapes Go.WideShapes Go.ChangeAt Go.RowKit
set_option linter.unusedVariables false

theorem row_cells {w W : World} {p : Option Addr} {n cap : Nat} {l : List It} (h : Row w (.slice p n cap) l) (hB : Below w.heap.size w W) (j : Nat) (x : It) (hx : l[j]? = some x) :
    ∃ ad, p = some ad ∧ ad.block < w.heap.size ∧ W.cell? (ad.add (j * 2)) = some (.int .i64 x.1) ∧ W.cell? ⟨(ad.add (j * 2)).block, (ad.add (j * 2)).off + 1, none⟩ = some (.string x.2) := by
  obtain ⟨p', cap', hv, _, _, hc⟩ := RowB.kept h hB.block
  injection hv with e1 e2 e3
  subst e1
  exact hc j x hx

theorem toList_data (s : ByteArray) : s.toList = s.data.toList := by rw [ByteArray.toList_eq]
theorem toList_inj {s t : ByteArray} (h : s.toList = t.toList) : s = t := eq_of_data (by rw [← toList_data, ← toList_data, h])

theorem Same_any (v u : Value) (l m : List It) (b : Bool) (hb : b = decide (l = m)) (w : World) (hr : Row w v l) (hq : Row w u m) (hl : l.length ≤ 1099511627776) (hm : m.length ≤ 1099511627776) :
    Calls Try.prog 15 #[v, u] w fun e w' => e = .returned (.bool b) ∧ Below w.heap.size w w' := by
  obtain ⟨p, cap, hv, _, _, hc⟩ := id hr
  obtain ⟨p', cap', hu, _, _, hc'⟩ := id hq
  subst hv
  subst hu
  have HR := Lib.hid hr
  have HQ := Lib.hid hq
  have HB := Lib.hid hb
  clear hr hq hb hc hc'
  by_cases hn : l.length = m.length
  · have hnb : ((l.length : Int) != (m.length : Int)) = false := by simp; omega
    have HN := Lib.hid hn
    have hn1 : l.length ≤ m.length := by omega
    clear hn
    go_enter Try.func15, Try.ntmps15
    go_wp2
    go_loopw [5] (fun i wr => ∃ j : Nat, j ≤ l.length ∧ i = .int .i64 (j : Int) ∧ l.take j = m.take j ∧ Below w.heap.size w wr) (fun i _ => l.length - (intOf i).toNat)
    case atStart => exact ⟨0, Nat.zero_le _, rfl, rfl, Below.refl _ _⟩
    case round =>
      obtain ⟨j, hj, rfl, ht, hW⟩ := hrel
      by_cases hlt : j < l.length
      · obtain ⟨x, hx⟩ : ∃ x, l[j]? = some x := ⟨_, List.getElem?_eq_getElem hlt⟩
        obtain ⟨y, hy⟩ : ∃ y, m[j]? = some y := ⟨_, List.getElem?_eq_getElem (by omega)⟩
        obtain ⟨ad, hp, hg, c0, c1⟩ := row_cells HR.out hW j x hx
        obtain ⟨ad', hp', hg', d0, d1⟩ := row_cells HQ.out hW j y hy
        subst hp
        subst hp'
        have HW := Lib.hid hW
        have HT := Lib.hid ht
        have HX := Lib.hid hx
        have HY := Lib.hid hy
        obtain ⟨k, s⟩ := x
        obtain ⟨q, t⟩ := y
        have g1 : (0 : Int) ≤ (j : Int) := by omega
        have g2 : (j : Int) < (l.length : Int) := by omega
        have g3 : (j : Int) < (m.length : Int) := by omega
        clear hW ht hx hy
        by_cases he : k = q ∧ s = t
        · obtain ⟨rfl, rfl⟩ := he
          go_wp2
          go_quiet (fail)
          go_wp2
          go_roundw
          case rel => exact ⟨j + 1, by omega, by go_num, by rw [take_snoc_of l j _ HX.out, take_snoc_of m j _ HY.out, HT.out], below_drewN HW.out _⟩
          case measure => simp [intOf]; omega
        · have hlm : l ≠ m := fun e => by
            have e1 := HX.out
            rw [e, HY.out] at e1
            simp only [Option.some.injEq, Prod.mk.injEq] at e1
            exact he ⟨e1.1.symm, e1.2.symm⟩
          have HLM := Lib.hid hlm
          clear hlm
          by_cases hk : k = q
          · subst hk
            have hst : ¬ s = t := fun e => he ⟨rfl, e⟩
            have hst1 : ¬ s.toList = t.toList := fun e => hst (toList_inj e)
            clear he
            go_wp2
            go_quiet (fail)
            go_wp2
            go_ret; exact ⟨ret_bool (by rw [HB.out]; exact (decide_eq_false HLM.out).symm), below_drewN HW.out _⟩
          · have hk1 : (k == q) = false := by simpa using hk
            have hk2 : (k != q) = true := by simpa using hk
            have hk3 : decide (k = q) = false := by simpa using hk
            clear he
            go_wp2
            go_quiet (fail)
            go_wp2
            go_ret; exact ⟨ret_bool (by rw [HB.out]; exact (decide_eq_false HLM.out).symm), below_drewN HW.out _⟩
      · obtain rfl : j = l.length := by omega
        have e : l = m := by
          rw [List.take_length, HN.out, List.take_length] at ht; exact ht
        have HE := Lib.hid e
        have HW := Lib.hid hW
        clear e ht hW
        go_wp2
        go_ret; exact ⟨ret_bool (by rw [HB.out]; exact (decide_eq_true HE.out).symm), HW.out⟩
  · have hnb : ((l.length : Int) != (m.length : Int)) = true := by simp; omega
    have HN := Lib.hid hn
    clear hn
    go_enter Try.func15, Try.ntmps15
    go_wp2
    go_ret; exact ⟨ret_bool (by rw [HB.out]; exact (decide_eq_false (fun e => HN.out (by rw [e]))).symm), Below.refl _ _⟩

set_option maxHeartbeats 2000000 in
set_option maxRecDepth 100000 in
theorem Lay_ref (v : Value) (l : List It) (r : ByteArray × Int) (w : World) (hr : Row w v l) (hs : ∀ y ∈ l, y.2.size ≤ 9223372036854775807) (hl : l.length ≤ 1099511627776) (h : laid l = r) :
    Calls Try.prog 10 #[v] w fun e w' => e = .returned (.tuple #[.string r.1, .int .i64 r.2]) ∧ Below w.heap.size w w' := by
  obtain ⟨p, cap, hv, hlc, hcap, hc⟩ := id hr
  subst hv
  have HR := Lib.hid hr
  have HH := Lib.hid h
  have HS := Lib.hid hs
  clear hr hc h hs
  go_enter Try.func10, Try.ntmps10
  go_wp2
  go_loopw [4, 5] (fun z i wr => ∃ j : Nat, j ≤ l.length ∧ i = .int .i64 (j : Int) ∧ z = .string (txt (enc (l.take j))) ∧ (l.take j).all may = true ∧ Below w.heap.size w wr) (fun _ i _ => l.length - (intOf i).toNat)
  case atStart => exact ⟨0, Nat.zero_le _, rfl, rfl, rfl, Below.refl _ _⟩
  case round =>
    obtain ⟨j, hj, rfl, rfl, hall, hB⟩ := hrel
    have hwb := wide_may _ hall
    have hwl : (l.take j).length ≤ l.length := by rw [List.length_take]; omega
    by_cases hlt : j < l.length
    · obtain ⟨x, hx⟩ : ∃ x, l[j]? = some x := ⟨_, List.getElem?_eq_getElem hlt⟩
      obtain ⟨ad, hp, hg, c0, c1⟩ := row_cells HR.out hB j x hx
      subst hp
      have hxs := info_of l j x hx HS.out
      obtain ⟨X, hX⟩ : ∃ X, X = txt (enc (l.take j)) := ⟨_, rfl⟩
      have hXs : X.size = wide (l.take j) := by rw [hX, txt_size, enc_length]
      have has := all_take_succ l j x hx
      have hes := enc_take_succ l j x hx
      rw [← hX]
      have HX := Lib.hid hx
      have HA := Lib.hid has
      have HB := Lib.hid hB
      have HL := Lib.hid hall
      have HXX := Lib.hid hX
      have HES := Lib.hid hes
      have hXb : X.size ≤ 280375465083904 := by omega
      clear hx has hB hall hX hes hXs hwb hwl
      cases hm : may x with
      | false =>
        have HM := Lib.hid hm
        clear hm
        go_wp2_with (go_at_call 21; refine (May_as x false HM.out _ (by omega)).mono ?_; rintro e w1 ⟨rfl, B1⟩)
        go_ret2
        have e : laid l = (⟨#[]⟩, 2) := by
          have : l.all may = false := by rw [List.all_eq_false]; exact ⟨x, List.mem_of_getElem? HX.out, by simp [HM.out]⟩
          unfold laid; rw [this]; rfl
        rw [HH.out] at e
        refine ⟨by rw [e]; rfl, below_then HB.out B1⟩
      | true =>
        have HM := Lib.hid hm
        obtain ⟨m1, m2, m3⟩ := (may_iff x).1 hm
        have h2 := bcs_two x hm
        clear hm
        obtain ⟨k, s⟩ := x
        simp only at m1 m2 m3 c0 c1 h2 hxs
        have e8 : IntKind.u8.wrap k = k := by rw [IntKind.wrap_u8]; omega
        have e8' : IntKind.u8.wrap ((s.size : Int) + 2) = (s.size : Int) + 2 := by rw [IntKind.wrap_u8]; omega
        have e6 : IntKind.i64.wrap ((s.size : Int) + 2) = (s.size : Int) + 2 := IntWalk.i64_in _ (by omega)
        have g1 : (0 : Int) ≤ (j : Int) := by omega
        have g2 : (j : Int) < (l.length : Int) := by omega
        go_wp2_with fail
        refine (May_as (k, s) true HM.out _ (by show s.size ≤ _; omega)).mono ?_
        rintro e w1 ⟨rfl, B1⟩
        have d0 : w1.cell? (ad.add (j * 2)) = some (.int .i64 k) := (World.cell?_of_block (B1.block _ (by rw [add_block]; exact Nat.lt_of_lt_of_le hg HB.out.size))).trans c0
        have d1 : w1.cell? ⟨(ad.add (j * 2)).block, (ad.add (j * 2)).off + 1, none⟩ = some (.string s) := (World.cell?_of_block (w := wr) (w' := w1) (a := ⟨(ad.add (j * 2)).block, (ad.add (j * 2)).off + 1, none⟩) (B1.block _ (by show (ad.add (j * 2)).block < _; rw [add_block]; exact Nat.lt_of_lt_of_le hg HB.out.size))).trans c1
        have HB2 := Lib.hid (below_then HB.out B1)
        have had : ad.block < w1.heap.size := Nat.lt_of_lt_of_le hg HB2.out.size
        clear B1 c0 c1
        go_wp2
        obtain ⟨z, hz⟩ : ∃ z, z = txt [UInt8.ofNat k.toNat, UInt8.ofNat (s.size + 2)] := ⟨_, rfl⟩
        have hzs : z.size = 2 := by rw [hz]; rfl
        have u1 : ((UInt8.ofNat k.toNat).toNat : Int) = k := by rw [UInt8.toNat_ofNat']; omega
        have u2 : ((UInt8.ofNat (s.size + 2)).toNat : Int) = (s.size : Int) + 2 := by rw [UInt8.toNat_ofNat']; omega
        have hcv : (convert 33 9 (.slice (some ⟨w1.heap.size, 0, none⟩) 2 2)).run Try.prog (w1.alloc (.cells #[.int .u8 k, .int .u8 ((s.size : Int) + 2)] 5)).drew = .ok (.string z) (w1.alloc (.cells #[.int .u8 k, .int .u8 ((s.size : Int) + 2)] 5)).drew := by
          rw [hz]
          refine run_convert_bytes_back _ 33 9 5 ⟨w1.heap.size, 0, none⟩ 2 [UInt8.ofNat k.toNat, UInt8.ofNat (s.size + 2)] Try.underlying33 Try.underlying5 Try.underlying9 fun q hq => ?_
          have hb := Blk.new w1 5 #[.int .u8 k, .int .u8 ((s.size : Int) + 2)]
          rw [add_flat]
          match q, hq with
          | 0, _ => exact (hb.drew.cell 0).trans (by show some (Value.int .u8 k) = some (.int .u8 ((UInt8.ofNat k.toNat).toNat : Int)); rw [u1])
          | 1, _ => exact (hb.drew.cell 1).trans (by show some (Value.int .u8 ((s.size : Int) + 2)) = some (.int .u8 ((UInt8.ofNat (s.size + 2)).toNat : Int)); rw [u2])
        have hzx : X ++ z ++ s = txt (enc (l.take (j + 1))) := by
          rw [HES.out, HXX.out, hz]
          apply eq_of_data
          rw [data_append, data_append]
          simp [enc1]
        have HZX := Lib.hid hzx
        have b1 : X.size + z.size ≤ 9223372036854775807 := by omega
        have b2 : (X ++ z).size = X.size + 2 := by rw [ByteArray.size_append, hzs]
        have HD := Lib.hid (And.intro d0 d1)
        have HCV := Lib.hid hcv
        clear hcv
        clear hzx u1 u2 h2 hz HXX HES
        have hcv := HCV.out
        have a0 : (w1.alloc (.cells #[.int .u8 k, .int .u8 ((s.size : Int) + 2)] 5)).cell? (ad.add (j * 2)) = some (.int .i64 k) := (World.cell?_of_block (Below.heap_alloc _ _ _ (by rw [add_block]; exact had))).trans HD.out.1
        have a1 : (w1.alloc (.cells #[.int .u8 k, .int .u8 ((s.size : Int) + 2)] 5)).cell? ⟨(ad.add (j * 2)).block, (ad.add (j * 2)).off + 1, none⟩ = some (.string s) := (World.cell?_of_block (a := ⟨(ad.add (j * 2)).block, (ad.add (j * 2)).off + 1, none⟩) (Below.heap_alloc _ _ _ (by show (ad.add (j * 2)).block < _; rw [add_block]; exact had))).trans HD.out.2
        have b3 : ¬ 9223372036854775807 < X.size + 2 := by omega
        have b4 : ¬ 9223372036854775807 < X.size + 2 + s.size := by omega
        go_region
        all_goals go_wp2
        all_goals go_roundw
        case rel => exact ⟨j + 1, by omega, by go_num, by rw [HZX.out], by rw [HA.out, HL.out, HM.out]; rfl, (below_more HB2.out _).drew⟩
        case measure => simp [intOf]; omega
    · obtain rfl : j = l.length := by omega
      rw [List.take_length] at hall hwb ⊢
      have HB := Lib.hid hB
      have HL := Lib.hid hall
      obtain ⟨X, hX⟩ : ∃ X, X = txt (enc l) := ⟨_, rfl⟩
      have hXs : X.size = wide l := by rw [hX, txt_size, enc_length]
      rw [← hX]
      have HXX := Lib.hid hX
      have HXS := Lib.hid hXs
      have hXb : X.size ≤ 280375465083904 := by omega
      clear hB hall hX hXs hwb hwl
      by_cases h40 : 40 < X.size
      · go_wp2
        go_ret2
        have e : laid l = (⟨#[]⟩, 6) := by unfold laid; rw [if_pos HL.out, if_neg (by rw [← HXS.out]; omega)]
        rw [HH.out] at e
        exact ⟨by rw [e]; rfl, HB.out⟩
      · have h40' : X.size ≤ 40 := by omega
        go_wp2
        go_loop [4] (fun z => ∃ (q : Nat) (Z : ByteArray), wide l + q ≤ pad (wide l) ∧ z = .string Z ∧ Z = txt (enc l ++ List.replicate q 0)) (fun z => match z with | .string Z => 43 - Z.size | _ => 0)
        case atStart => exact ⟨0, X, (by have := pad_b (wide l); omega), rfl, by rw [HXX.out]; simp⟩
        case round =>
          obtain ⟨q, Z, hq, rfl, hZ⟩ := hrel
          have hZs : Z.size = wide l + q := by rw [hZ, txt_size, List.length_append, List.length_replicate, enc_length]
          have hp := pad_b (wide l)
          have hw40 : wide l ≤ 40 := by rw [← HXS.out]; omega
          have HZ := Lib.hid hZ
          have HZS := Lib.hid hZs
          have hZ43 : Z.size ≤ 43 := by omega
          clear hZ
          by_cases h4 : Z.size % 4 = 0
          · have h4b : ((Z.size : Int) % 4 != 0) = false := by simp; omega
            have hqe : q = pad (wide l) - wide l := by unfold pad at *; omega
            have HQ := Lib.hid hqe
            clear hqe hZs h4
            go_wp2
            go_ret2
            have e := laid_ok l HL.out hw40
            rw [HH.out, ← HQ.out, ← HZ.out] at e
            exact ⟨by rw [e]; rfl, HB.out⟩
          · have h4b : ((Z.size : Int) % 4 != 0) = true := by simp; omega
            have hq1 : wide l + (q + 1) ≤ pad (wide l) := by unfold pad at *; omega
            have hlt43 : Z.size < 43 := by omega
            have HQ := Lib.hid hq1
            have hz1 : (Z ++ ⟨#[0]⟩ : ByteArray) = txt (enc l ++ List.replicate (q + 1) 0) := by
              rw [HZ.out, List.replicate_succ', ← List.append_assoc]; exact txt_append _ [0]
            have hz2 : (Z ++ ⟨#[0]⟩ : ByteArray).size = Z.size + 1 := by rw [ByteArray.size_append]; rfl
            have HZ1 := Lib.hid hz1
            have HZ2 := Lib.hid hz2
            clear hz1 hz2 hq1 hZs h4 hp
            go_wp2
            go_round
            case rel => exact ⟨q + 1, _, HQ.out, rfl, HZ1.out⟩
            case measure => simp only [HZ2.out]; omega
end Go.Proofs.Ytlmbccgldigihaa
