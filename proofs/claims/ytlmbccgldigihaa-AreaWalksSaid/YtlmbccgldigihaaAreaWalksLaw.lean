/-
  AreaWalks returns true for all texts, items, places, and bytes. No conditions.
-/
import Derived.Test.YtlmbccgldigihaaAreaBytes
import Derived.Test.YtlmbccgldigihaaAreaOpen
import Derived.Lib.SmallJoins
import Derived.Deep.RegionHeld3
import Derived.BigRegion
import Derived.WalkKit
import Derived.ProofKit
import Derived.OpenShut
import Derived.ShutString
import Derived.ChangeOld
import Derived.Below
import Derived.SizedLaws
namespace Go.Proofs.Ytlmbccgldigihaa.areaWalks
open Go.ChangeShapes Go.WideShapes Go.ChangeAt Go.RowKit
open Go.ChangeMaps (open_string shut_string)
set_option linter.unusedVariables false


theorem read_short (Y : ByteArray) : (read Y).1.length ≤ 40 := by
  unfold read
  split
  · simp
  · split
    · simp
    · next h1 h2 =>
      obtain ⟨⟨m, c⟩, hg⟩ : ∃ R, go 41 [] Y.data.toList = R := ⟨_, rfl⟩
      rw [hg]
      by_cases hc : c = 0
      · subst hc
        obtain ⟨l, hl, _, hw⟩ := go_back _ _ _ _ hg
        have := length_le_wide l
        rw [List.nil_append] at hl
        rw [data_length] at hw
        simp only [hl]; omega
      · rw [(go_bad _ _ _ _ _ hg hc).1]; simp
theorem pick5 (X0 X1 X2 X3 X4 : ByteArray) (z0 : X0.size ≤ 100) (z1 : X1.size ≤ 100) (z2 : X2.size ≤ 100) (z3 : X3.size ≤ 100) (z4 : X4.size ≤ 100) (j : Nat) (hj : j < 5) :
    ∃ Y : ByteArray, Y.size ≤ 100 ∧ ∀ w, (Instr.index 34 (.agg #[.string X0, .string X1, .string X2, .string X3, .string X4]) (.int .i64 (j : Int))).run Try.prog w = .ok (.string Y) w := by
  match j, hj with
  | 0, _ => exact ⟨X0, z0, fun _ => by kernel_rfl⟩
  | 1, _ => exact ⟨X1, z1, fun _ => by kernel_rfl⟩
  | 2, _ => exact ⟨X2, z2, fun _ => by kernel_rfl⟩
  | 3, _ => exact ⟨X3, z3, fun _ => by kernel_rfl⟩
  | 4, _ => exact ⟨X4, z4, fun _ => by kernel_rfl⟩

set_option maxHeartbeats 4000000 in
set_option maxRecDepth 100000 in
theorem walk (s : ByteArray) (hs : s.size ≤ 140737488351232) (v : Value) (l : List It) (hsm : ∀ y ∈ l, y.2.size ≤ 9223372036854775807) (f0 f1 : Int) (wf0 : (Lit.int .u8 f0).wf = true) (wf1 : (Lit.int .u8 f1).wf = true) (w : World) (hr : Row w v l) :
    Calls Try.prog 4 #[.string s, v, .agg #[.int .u8 f0, .int .u8 f1]] w fun e w' => e = .returned (.bool true) ∧ Below w.heap.size w w' := by
  obtain ⟨a0, a1⟩ := bounds_u8 wf0
  obtain ⟨a2, a3⟩ := bounds_u8 wf1
  obtain ⟨p, cap, hv, hlc, hcap, hcl⟩ := id hr
  subst hv
  obtain ⟨m1, hm1⟩ : ∃ m1, m1 = min s.size 60 := ⟨_, rfl⟩
  obtain ⟨m2, hm2⟩ : ∃ m2, m2 = min l.length 10 := ⟨_, rfl⟩
  have e1 : (if (60 : Int) < (s.size : Int) then (60 : Int) else (s.size : Int)) = (m1 : Int) := by rw [hm1]; split <;> omega
  have e2 : (if (10 : Int) < (l.length : Int) then (10 : Int) else (l.length : Int)) = (m2 : Int) := by rw [hm2]; split <;> omega
  have q1 : (0 : Int) ≤ (m1 : Int) := by omega
  have q2 : (m1 : Int) ≤ (s.size : Int) := by omega
  have q3 : m1 ≤ s.size := by omega
  have q4 : (0 : Int) ≤ (m2 : Int) := by omega
  have q5 : (m2 : Int) ≤ (cap : Int) := by omega
  have q6 : m2 ≤ cap := by omega
  have q7 : m1 ≤ 60 := by omega
  have q8 : m2 ≤ 10 := by omega
  have q9 : m2 ≤ l.length := by omega
  obtain ⟨X, hX⟩ : ∃ X, X = s.extract 0 m1 := ⟨_, rfl⟩
  have hXs : X.size = m1 := by rw [hX, ByteArray.size_extract]; omega
  have hX60 : X.size ≤ 60 := by omega
  have hX' := hX.symm
  obtain ⟨⟨Z, cz⟩, hZ⟩ : ∃ r, laid (l.take m2) = r := ⟨_, rfl⟩
  have hZ40 : Z.size ≤ 40 := by have := laid_small (l.take m2); rw [hZ] at this; exact this
  have HRT := Lib.hid (RowB.take hr m2 q9)
  have HZ := Lib.hid hZ
  have HSM := Lib.hid (show ∀ y ∈ l.take m2, y.2.size ≤ 9223372036854775807 from fun y hy => hsm y (List.mem_of_mem_take hy))
  clear hcl hm1 hm2 hX hXs hZ hsm hr
  go_enter Try.func4, Try.ntmps4
  go_wp2
  go_quiet (fail)
  clear e1 e2 hX' q1 q2 q3 q4 q5 q6
  have HBX := Lib.hid (Blk.new w 32 #[.int .u8 f0, .int .u8 f1])
  go_wp2_with fail
  refine (Lay_ref _ (l.take m2) (Z, cz) _ (Row.drewN (Row.more HRT.out _) _) HSM.out (by rw [List.length_take]; omega) HZ.out).mono ?_
  rintro e w2 ⟨rfl, b2⟩
  have hK : Blk w2 w.heap.size 32 #[.int .u8 f0, .int .u8 f1] := (Blk.drewN HBX.out _).below b2 (by simp)
  have B2 := Lib.hid (below_then (below_drewN (below_more (Below.refl w.heap.size w) _) _) b2)
  clear b2
  obtain ⟨cp, w3, hcv, hbt, B3', hs3⟩ := text_bytes w2 Z
  have B3 := Lib.hid (below_then B2.out B3')
  have hK3 := hK.below B3' hK.lt
  have HBT := Lib.hid hbt
  have HK3 := Lib.hid hK3
  have hnb : w.heap.size < w2.heap.size := hK.lt
  clear hK hbt B3' hK3 hs3
  obtain ⟨d, hd⟩ : ∃ d, d = X.size / 4 := ⟨_, rfl⟩
  obtain ⟨d4, hd4⟩ : ∃ d4, d4 = X.size / 4 * 4 := ⟨_, rfl⟩
  obtain ⟨r, hr⟩ : ∃ r : Nat, r = (f0 % ((X.size : Int) + 1)).toNat := ⟨_, rfl⟩
  have k1 : (X.size : Int).tdiv 4 = (d : Int) := by rw [Int.tdiv_eq_ediv_of_nonneg (by omega)]; omega
  have k2 : IntKind.i64.wrap ((d : Int) * 4) = (d4 : Int) := by rw [IntWalk.i64_in _ (by omega)]; omega
  have k3 : IntKind.i64.wrap f0 = f0 := IntWalk.i64_in _ (by omega)
  have k4 : IntKind.i64.wrap ((X.size : Int) + 1) = (X.size : Int) + 1 := IntWalk.i64_in _ (by omega)
  have k5 : f0.tmod ((X.size : Int) + 1) = (r : Int) := by rw [Int.tmod_eq_emod_of_nonneg a0, hr, Int.toNat_of_nonneg (Int.emod_nonneg _ (by omega))]
  have k6 : r ≤ X.size := by have := Int.emod_lt_of_pos f0 (show (0 : Int) < (X.size : Int) + 1 by omega); omega
  have k7 : (0 : Int) ≤ (r : Int) := by omega
  have k8 : (r : Int) ≤ (X.size : Int) := by omega
  have k9 : (0 : Int) ≤ (d4 : Int) := by omega
  have k10 : (d4 : Int) ≤ (X.size : Int) := by omega
  have k11 : d4 ≤ X.size := by omega
  have k12 : ((X.size : Int) + 1 == 0) = false := by simp; omega
  obtain ⟨X1, hX1⟩ : ∃ X1, X1 = X.extract 0 d4 := ⟨_, rfl⟩
  obtain ⟨X4, hX4⟩ : ∃ X4, X4 = X.extract 0 r := ⟨_, rfl⟩
  have z1 : X1.size ≤ 100 := by rw [hX1, ByteArray.size_extract]; omega
  have z4 : X4.size ≤ 100 := by rw [hX4, ByteArray.size_extract]; omega
  have z0 : X.size ≤ 100 := by omega
  have z2 : Z.size ≤ 100 := by omega
  have HX1 := Lib.hid hX1.symm
  have HDD := Lib.hid (show d ≤ 60 by omega)
  have HX4 := Lib.hid hX4.symm
  clear hd hd4 hr hX1 hX4 hlc
  have HK := Lib.hid (show ((X.size : Int).tdiv 4 = (d : Int) ∧ IntKind.i64.wrap ((d : Int) * 4) = (d4 : Int)) ∧ IntKind.i64.wrap ((X.size : Int) + 1) = (X.size : Int) + 1 ∧ f0.tmod ((X.size : Int) + 1) = (r : Int) from ⟨⟨k1, k2⟩, k4, k5⟩)
  clear k1 k2 k4 k5
  by_cases hz0 : 0 < Z.size
  · obtain ⟨i, hi⟩ : ∃ i : Nat, i = (f0 % (Z.size : Int)).toNat := ⟨_, rfl⟩
    have i1 : f0.tmod (Z.size : Int) = (i : Int) := by rw [Int.tmod_eq_emod_of_nonneg a0, hi, Int.toNat_of_nonneg (Int.emod_nonneg _ (by omega))]
    have i1' : f0 % (Z.size : Int) = (i : Int) := by rw [hi, Int.toNat_of_nonneg (Int.emod_nonneg _ (by omega))]
    have i2 : i < Z.size := by have := Int.emod_lt_of_pos f0 (show (0 : Int) < (Z.size : Int) by omega); rw [i1'] at this; omega
    have i3 : (0 : Int) ≤ (i : Int) := by omega
    have i4 : (i : Int) < (Z.size : Int) := by exact_mod_cast i2
    have i5 : ((Z.size : Int) == 0) = false := by rw [beq_eq_false_iff_ne]; omega
    clear hi
    obtain ⟨bz, t0⟩ : ∃ bz, w3.cell? ⟨w2.heap.size, i, none⟩ = some bz := ⟨_, HBT.out.cell i (by rw [data_length]; exact i2)⟩
    have t1 := HBT.out.frozen i (by rw [data_length]; exact i2)
    have x0 : w3.cell? ⟨w.heap.size, 0, none⟩ = some (.int .u8 f0) := HK3.out.cell 0
    have x1 : w3.cell? ⟨w.heap.size, 1, none⟩ = some (.int .u8 f1) := HK3.out.cell 1
    go_wp2
    go_region
    obtain ⟨W4, hW4⟩ : ∃ W4, W4 = (w3.setCell ⟨w2.heap.size, i, none⟩ (.int .u8 f1)).drew := ⟨_, rfl⟩
    have hbt4 : Bts W4 w2.heap.size (Z.data.toList.set i (UInt8.ofNat f1.toNat)) := by
      have e : ((UInt8.ofNat f1.toNat).toNat : Int) = f1 := by rw [UInt8.toNat_ofNat']; omega
      have := HBT.out.set_ i (UInt8.ofNat f1.toNat) (by rw [data_length]; exact i2)
      rw [e] at this
      rw [hW4]; exact this.drew
    have hK4 : Blk W4 w.heap.size 32 #[.int .u8 f0, .int .u8 f1] := by
      rw [hW4]; exact HK3.out.same (Below.heap_setCell w3 ⟨w2.heap.size, i, none⟩ _ w.heap.size (by simp; omega))
    have BW : Hid (Below w.heap.size w W4) := Lib.hid (by rw [hW4]; exact (B3.out.setCell (p := ⟨w2.heap.size, i, none⟩) (by simp; omega) _).drew)
    obtain ⟨X3, hX3⟩ : ∃ X3, X3 = txt (Z.data.toList.set i (UInt8.ofNat f1.toNat)) := ⟨_, rfl⟩
    have hcv4 := bytes_text W4 w2.heap.size cp Z.size _ hbt4 (by rw [List.length_set, data_length])
    rw [← hX3] at hcv4
    have z3 : X3.size ≤ 100 := by rw [hX3, txt_size, List.length_set, data_length]; omega
    have HBT4 := Lib.hid hbt4
    have HK4 := Lib.hid hK4
    have HX3 := Lib.hid hX3
    rw [← hW4]
    clear t0 t1 x0 x1 hbt4 hK4 hX3 HBT HK3 B3 hW4 i1 i1' i2 i3 i4 i5 hcv
    have HCV := Lib.hid (show ∀ V : World, V.heap = W4.heap → (convert 33 9 (.slice (some ⟨w2.heap.size, 0, none⟩) Z.size cp)).run Try.prog V = .ok (.string X3) V from fun V hV => HX3.out ▸ bytes_text V w2.heap.size cp Z.size _ (HBT4.out.same (by rw [hV]) (by rw [hV]; exact Nat.le_refl _)) (by simp))
    clear hcv4
    obtain ⟨⟨k1, k2⟩, k4, k5⟩ := HK.out
    have hx1' := HX1.out
    have hx4' := HX4.out
    go_wp2
    have k13 : ¬ ((X.size : Int) + 1 = 0) := by omega
    have k14 : IntKind.i64.wrap (d : Int) = (d : Int) := IntWalk.i64_in _ (by have := HDD.out; omega)
    have k15 : IntKind.i64.wrap (r : Int) = (r : Int) := IntWalk.i64_in _ (by omega)
    go_region_held3 (fun w' => w'.cell? ⟨w.heap.size, 0, none⟩ = some (.int .u8 f0) ∧ (convert 33 9 (.slice (some ⟨w2.heap.size, 0, none⟩) Z.size cp)).run Try.prog w' = .ok (.string X3) w')
      (first | exact ⟨HK4.out.cell 0, HCV.out _ rfl⟩ | exact ⟨(HK4.out.drew).cell 0, HCV.out _ rfl⟩) (fail)
    clear k1 k2 k4 k5 hx1' hx4' k13 k14 k15 HK HX1 HX4 HCV HBT4 HK4 HX3 k3 k6 k7 k8 k9 k10 k11 k12
    go_wp2
    go_loopw [66] (fun i wr => ∃ j : Nat, j ≤ 5 ∧ i = .int .i64 (j : Int) ∧ Below w.heap.size w wr) (fun i _ => 5 - (intOf i).toNat)
    case atStart => exact ⟨0, by omega, rfl, BW.out.drew⟩
    case round =>
      obtain ⟨j, hj, rfl, hB⟩ := hrel
      have HB := Lib.hid hB
      clear hB
      by_cases hlt : j < 5
      · obtain ⟨Y, hY, hix⟩ := pick5 X X1 Z X3 X4 z0 z1 z2 z3 z4 j hlt
        obtain ⟨R, hR⟩ : ∃ R, read Y = R := ⟨_, rfl⟩
        have HR := Lib.hid hR
        clear hR
        go_wp2_with fail
        clear hix
        refine (Walk_any Y R _ (by omega) HR.out).mono ?_
        rintro e w7 ⟨v7, rfl, row7, b7⟩
        have B7 := Lib.hid (below_then HB.out b7)
        have R7 := Lib.hid row7
        clear b7 row7
        go_wp2_with fail
        refine (Walk_ref Y R _ (by omega) HR.out).mono ?_
        rintro e w8 ⟨v8, rfl, row8, b8⟩
        have B8 := Lib.hid (below_then B7.out b8)
        have R8 := Lib.hid (R7.out.below b8)
        have S8 := Lib.hid row8
        clear b8 row8 R7
        have hrl : R.1.length ≤ 1099511627776 := by
          have := read_short Y; rw [HR.out] at this; omega
        have hee : (R.2 != R.2) = false := by simp
        go_wp2_with fail
        refine (Same_any v7 v8 R.1 R.1 true (by simp) _ R8.out S8.out hrl hrl).mono ?_
        rintro e w9 ⟨rfl, b9⟩
        have B9 := Lib.hid (below_then B8.out b9)
        clear b9
        go_wp2
        go_roundw
        case rel => exact ⟨j + 1, by omega, by go_num, B9.out⟩
        case measure => simp [intOf]; omega
      · obtain rfl : j = 5 := by omega
        go_wp2_with fail
        refine (works_any _).mono ?_
        rintro e w7 ⟨rfl, b7⟩
        go_wp2
        go_ret; exact ⟨rfl, below_then HB.out b7⟩

  · obtain hz0' : Z.size = 0 := by omega
    have BW := B3
    have hcv4 := bytes_text w3 w2.heap.size cp Z.size _ HBT.out (by rw [data_length])
    obtain ⟨X3, hX3⟩ : ∃ X3, X3 = txt Z.data.toList := ⟨_, rfl⟩
    rw [← hX3] at hcv4
    have z3 : X3.size ≤ 100 := by rw [hX3, txt_size, data_length]; omega
    have HBT4 := HBT
    have HK4 := HK3
    have HX3 := Lib.hid hX3
    clear hX3 HBT HK3 B3
    have hzd : decide ((0 : Int) < (Z.size : Int)) = false := decide_eq_false (by omega)
    have hzd2 : decide (0 < Z.size) = false := decide_eq_false (by omega)
    have hzd3 : Z.size ≤ 0 := by omega
    clear hz0'
    go_wp2
    clear hcv
    obtain ⟨W4, hW4⟩ : ∃ W4, W4 = w3 := ⟨_, rfl⟩
    subst hW4
    have HCV := Lib.hid (show ∀ V : World, V.heap = W4.heap → (convert 33 9 (.slice (some ⟨w2.heap.size, 0, none⟩) Z.size cp)).run Try.prog V = .ok (.string X3) V from fun V hV => HX3.out ▸ bytes_text V w2.heap.size cp Z.size _ (HBT4.out.same (by rw [hV]) (by rw [hV]; exact Nat.le_refl _)) (by simp))
    clear hcv4
    obtain ⟨⟨k1, k2⟩, k4, k5⟩ := HK.out
    have hx1' := HX1.out
    have hx4' := HX4.out
    go_wp2
    have k13 : ¬ ((X.size : Int) + 1 = 0) := by omega
    have k14 : IntKind.i64.wrap (d : Int) = (d : Int) := IntWalk.i64_in _ (by have := HDD.out; omega)
    have k15 : IntKind.i64.wrap (r : Int) = (r : Int) := IntWalk.i64_in _ (by omega)
    go_region_held3 (fun w' => w'.cell? ⟨w.heap.size, 0, none⟩ = some (.int .u8 f0) ∧ (convert 33 9 (.slice (some ⟨w2.heap.size, 0, none⟩) Z.size cp)).run Try.prog w' = .ok (.string X3) w')
      (first | exact ⟨HK4.out.cell 0, HCV.out _ rfl⟩ | exact ⟨(HK4.out.drew).cell 0, HCV.out _ rfl⟩) (fail)
    clear k1 k2 k4 k5 hx1' hx4' k13 k14 k15 HK HX1 HX4 HCV HBT4 HK4 HX3 k3 k6 k7 k8 k9 k10 k11 k12
    go_wp2
    go_loopw [66] (fun i wr => ∃ j : Nat, j ≤ 5 ∧ i = .int .i64 (j : Int) ∧ Below w.heap.size w wr) (fun i _ => 5 - (intOf i).toNat)
    case atStart => exact ⟨0, by omega, rfl, BW.out.drew⟩
    case round =>
      obtain ⟨j, hj, rfl, hB⟩ := hrel
      have HB := Lib.hid hB
      clear hB
      by_cases hlt : j < 5
      · obtain ⟨Y, hY, hix⟩ := pick5 X X1 Z X3 X4 z0 z1 z2 z3 z4 j hlt
        obtain ⟨R, hR⟩ : ∃ R, read Y = R := ⟨_, rfl⟩
        have HR := Lib.hid hR
        clear hR
        go_wp2_with fail
        clear hix
        refine (Walk_any Y R _ (by omega) HR.out).mono ?_
        rintro e w7 ⟨v7, rfl, row7, b7⟩
        have B7 := Lib.hid (below_then HB.out b7)
        have R7 := Lib.hid row7
        clear b7 row7
        go_wp2_with fail
        refine (Walk_ref Y R _ (by omega) HR.out).mono ?_
        rintro e w8 ⟨v8, rfl, row8, b8⟩
        have B8 := Lib.hid (below_then B7.out b8)
        have R8 := Lib.hid (R7.out.below b8)
        have S8 := Lib.hid row8
        clear b8 row8 R7
        have hrl : R.1.length ≤ 1099511627776 := by
          have := read_short Y; rw [HR.out] at this; omega
        have hee : (R.2 != R.2) = false := by simp
        go_wp2_with fail
        refine (Same_any v7 v8 R.1 R.1 true (by simp) _ R8.out S8.out hrl hrl).mono ?_
        rintro e w9 ⟨rfl, b9⟩
        have B9 := Lib.hid (below_then B8.out b9)
        clear b9
        go_wp2
        go_roundw
        case rel => exact ⟨j + 1, by omega, by go_num, B9.out⟩
        case measure => simp [intOf]; omega
      · obtain rfl : j = 5 := by omega
        go_wp2_with fail
        refine (works_any _).mono ?_
        rintro e w7 ⟨rfl, b7⟩
        go_wp2
        go_ret; exact ⟨rfl, below_then HB.out b7⟩


theorem own : ownKnob Try.prog.godebug = none := by kernel_rfl
theorem laidOut : laidOutB Try.prog = true := by kernel_rfl

set_option maxRecDepth 100000 in
theorem lifted (os : Os) (started : os.Started) (H : Type) (enc : TypeId × Value → H) :
    ReturnsInHanded {} Try.checked os 4 .any (Rows.areaWalksSpec.pre6 enc Try.prog Try.f4 Rows.areaWalksRow.domain false) (Rows.areaWalksSpec.post enc Try.prog Try.f4 false true false false) := by
  refine returnsInHanded_of_change_sized (C := Try.checked) own started (by kernel_rfl) Try.func4
    (ChangeSpec.witness6 (enc := enc) (C := Try.checked) false ⟨#[], #[.string ByteArray.empty, .slice none 0 0, .agg #[.int .u8 0, .int .u8 0]], []⟩ 8 (by kernel_rfl) (by kernel_rfl) (by kernel_rfl) (by kernel_rfl)) ?_
  intro W base args ds gs before hval0 hW hcnd hsz0 _
  have hsz : (DataW.weightsEach Try.prog (Try.f4.params.toList ++ Rows.areaWalksSpec.plain.varTypes Try.prog) (ds ++ gs)).all (· ≤ reachBytes) = true := hsz0
  have hval : ∀ (j : Nat) t v, Try.f4.params[j]? = some t → args[j]? = some v → Value.okWide Try.prog W .any base t v := hval0
  have hW' := hW
  obtain ⟨p, q, hA0, hV, rfl, hfz, hnd⟩ := hW
  have hA : DataW.TrodAll enc Try.prog W 0 (fun _ => true) true Try.f4.params.toList args.toList ds p := hA0
  rw [Try.params4] at hA hval hsz
  obtain ⟨v0, vs0, d0, ds0, p0, q0, hargs, rfl, rfl, h0, r0⟩ := trodAll_cons hA
  obtain ⟨v1, vs1, d1, ds1, p1, q1, rfl, rfl, rfl, h1, r1⟩ := trodAll_cons r0
  obtain ⟨v2, vs2, d2, ds2, p2, q2, rfl, rfl, rfl, h2, r2⟩ := trodAll_cons r1
  obtain ⟨rfl, rfl, rfl⟩ := trodAll_nil r2
  obtain rfl : args = #[v0, v1, v2] := by cases args; simp_all
  obtain ⟨rfl, rfl⟩ := trodVars_none hV
  obtain ⟨a0, rfl, rfl, rfl, w0⟩ := open_string Try.underlying9 (hval 0 9 v0 rfl rfl) h0
  have k1 := h1
  have lt1 : ∀ x ∈ p1, x.block < W.heap.size := by obtain ⟨m, hm⟩ := k1; exact DataW.trod_lt m _ _ _ hm
  obtain ⟨l, hr, hsm⟩ := open_items (hval 1 22 v1 rfl rfl) h1
  have k2 := h2
  have lt2 : ∀ x ∈ p2, x.block < W.heap.size := by obtain ⟨m, hm⟩ := k2; exact DataW.trod_lt m _ _ _ hm
  obtain ⟨f0, f1, rfl, wf0, wf1⟩ : ∃ f0 f1 : Int, v2 = .agg #[.int .u8 f0, .int .u8 f1] ∧ (Lit.int .u8 f0).wf = true ∧ (Lit.int .u8 f1).wf = true := by
    have hv := hval 2 32 v2 rfl rfl
    simp only [Value.okWide, Try.underlying32] at hv
    obtain ⟨cs, rfl, hsz2, _⟩ := hv
    obtain ⟨c0, c1, rfl⟩ := Go.Joins.array2 (hsz2.trans (by kernel_rfl : Try.prog.cellsOf 32 = 2))
    obtain ⟨fuel, hf⟩ := h2
    obtain ⟨y0, y1, m, hy0, hy1⟩ := pair_cells Try.underlying32 (by kernel_rfl) hf
    obtain ⟨z0, e0, _, hw0⟩ := DataW.trod_int Try.underlying5 hy0
    obtain ⟨z1, e1, _, hw1⟩ := DataW.trod_int Try.underlying5 hy1
    simp at e0 e1
    subst e0 e1
    exact ⟨z0, z1, rfl, hw0, hw1⟩
  have z0 : a0.size ≤ 140737488351232 := by have := sized_string hsz (j := 0) (t := 9) rfl rfl; simpa [reachBytes] using this
  clear hA0 hval0
  simp only [List.append_nil] at hW'
  refine (walk a0 z0 v1 l hsm f0 f1 wf0 wf1 W hr).mono fun e W' ⟨he, bel⟩ => ?_
  subst he
  exact ⟨_, rfl, _, _, _, [], _, [], hW', trodAll_mk1 (shut_bool Try.underlying4 _), (trodAll_cons_mk (shut_string Try.underlying9 w0) (trodAll_cons_mk (Below.trod laidOut (by kernel_rfl) (of_decide_eq_true (by kernel_rfl)) k1 bel lt1) (trodAll_cons_mk (Below.trod laidOut (by kernel_rfl) (of_decide_eq_true (by kernel_rfl)) k2 bel lt2) trodAll_mk0))), rfl, bel.frame _, fun h => by cases h⟩

theorem over : Rows.areaWalksRow.holds Try.pinned (OpenSpec.ofChange Rows.areaWalksSpec) :=
  OpenClaim.holds_of_wide 4 Try.f4 rfl rfl rfl rfl rfl rfl rfl ⟨rfl, rfl, rfl, rfl, rfl⟩ rfl rfl rfl rfl rfl (by kernel_rfl) Try.func4 (by kernel_rfl)
    (of_decide_eq_true (by kernel_rfl)) (by unfold Func.isWrapper; first | (rw [if_pos (by decide +kernel)]; kernel_rfl) | (rw [if_neg (by decide +kernel)]; exact ⟨rfl, rfl⟩))
    (fun os started H enc _ => lifted os started H enc)

theorem proved : Rows.AreaWalksSaid := over
#print axioms proved
end Go.Proofs.Ytlmbccgldigihaa.areaWalks
