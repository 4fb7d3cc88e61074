/-
  AreaBack returns true for all rows of drafts, and places. No conditions.
-/
import Derived.Test.YtlmbccgldigihaaAreaWorks
import Derived.Test.YtlmbccgldigihaaAreaDrafts
import Derived.WalkKit
import Derived.ProofKit
import Derived.OpenShut
import Derived.ShutString
import Derived.ChangeOld
import Derived.Below
import Derived.SizedLaws
namespace Go.Proofs.Ytlmbccgldigihaa.areaBack
open Go.ChangeShapes Go.WideShapes Go.ChangeAt Go.RowKit
open Go.ChangeMaps (open_string shut_string)
set_option linter.unusedVariables false


theorem between (D : List It) (hall : D.all may = true) (hw : wide D ≤ 40) (k : Nat) (hk : k ≤ D.length) (Z : ByteArray) (hZ : Z = (laid D).1) (hz : Z.size < 40) (n : Nat) (hn : n = wide (D.take k)) :
    read (Z.extract 0 n ++ ⟨#[1]⟩ ++ Z.extract n Z.size ++ ⟨#[0, 0, 0]⟩) = (D, 0) := by
  have hzs := (laid_sized D).1
  rw [sized_ok D hall hw, ← hZ] at hzs
  have hp := pad_b (wide D)
  have hnw := wide_take_le D k
  have hsz : (Z.extract 0 n ++ ⟨#[1]⟩ ++ Z.extract n Z.size ++ ⟨#[0, 0, 0]⟩ : ByteArray).size = Z.size + 4 := by
    rw [ByteArray.size_append, ByteArray.size_append, ByteArray.size_append, ByteArray.size_extract, ByteArray.size_extract]
    simp at hzs
    show min n Z.size - 0 + 1 + (min Z.size Z.size - n) + 3 = _
    omega
  simp at hzs
  rw [read_ok _ (by rw [hsz]; omega) (by rw [hsz]; omega)]
  have hD : enc D = enc (D.take k) ++ enc (D.drop k) := by rw [← enc_append, List.take_append_drop]
  have hZd : Z.data.toList = enc (D.take k) ++ (enc (D.drop k) ++ List.replicate (pad (wide D) - wide D) 0) := by
    rw [hZ, laid_ok D hall hw, data_txt, hD, List.append_assoc]
  have hl1 : (enc (D.take k)).length = n := by rw [enc_length, hn]
  have e1 : (Z.extract 0 n).data.toList = enc (D.take k) := by
    rw [data_extract, hZd, List.drop_zero, ← hl1, List.take_left]
  have e2 : (Z.extract n Z.size).data.toList = enc (D.drop k) ++ List.replicate (pad (wide D) - wide D) 0 := by
    rw [data_extract, List.take_of_length_le (by simp), hZd, ← hl1, List.drop_left]
  have hY : (Z.extract 0 n ++ ⟨#[1]⟩ ++ Z.extract n Z.size ++ ⟨#[0, 0, 0]⟩ : ByteArray).data.toList = enc (D.take k) ++ (1 :: (enc (D.drop k) ++ List.replicate (pad (wide D) - wide D + 3) 0)) := by
    rw [data_append, data_append, data_append, e1, e2, ← List.replicate_append_replicate]
    simp
  rw [hY]
  have ha : (D.take k).all may = true := List.all_eq_true.2 fun x hx => List.all_eq_true.1 hall x (List.mem_of_mem_take hx)
  have hb : (D.drop k).all may = true := List.all_eq_true.2 fun x hx => List.all_eq_true.1 hall x (List.mem_of_mem_drop hx)
  have hlen := length_le_wide D
  have hlk : (D.take k).length = k := by rw [List.length_take]; omega
  have hld : (D.drop k).length = D.length - k := List.length_drop
  rw [go_enc _ _ _ _ ha (by omega), hlk, show 41 - k = (40 - k) + 1 by omega, go_one, go_enc _ _ _ _ hb (by omega), go_zeros]
  simp

set_option maxHeartbeats 4000000 in
set_option maxRecDepth 100000 in
theorem walk (v : Value) (l : List It) (a : Int) (wa : (Lit.int .u8 a).wf = true) (w : World) (hd : DRow w v l) :
    Calls Try.prog 5 #[v, .int .u8 a] w fun e w' => e = .returned (.bool true) ∧ Below w.heap.size w w' := by
  obtain ⟨a0, a1⟩ := bounds_u8 wa
  obtain ⟨D, hD⟩ : ∃ D, D = drafts 0 l := ⟨_, rfl⟩
  have hok := drafts_ok l 0 (by omega) (fun x hx => by
    obtain ⟨i, hi⟩ := List.getElem?_of_mem hx
    obtain ⟨_, _, _, _, hc⟩ := hd
    exact (hc i x hi).2.1.1)
  rw [← hD, Nat.zero_add] at hok
  obtain ⟨hall, hw40⟩ := hok
  have hlen := length_le_wide D
  obtain ⟨Z, hZ⟩ : ∃ Z, Z = (laid D).1 := ⟨_, rfl⟩
  have hlaid : laid D = (Z, 0) := by rw [hZ, laid_ok D hall hw40]
  have hszd : sized D = ((Z.size : Int), 0) := by
    have := (laid_sized D).1
    rw [← hZ] at this
    rw [sized_ok D hall hw40] at this ⊢; exact Prod.ext this.symm rfl
  have hback : read Z = (D, 0) := by rw [hZ]; exact read_laid D hall hw40
  have hpd := pad_b (wide D)
  have hzp : Z.size = pad (wide D) := by
    have := (laid_sized D).1
    rw [← hZ, sized_ok D hall hw40] at this; simp at this; omega
  have hz40 : Z.size ≤ 40 := by rw [hZ]; exact laid_small D
  have hz4 : ((Z.size : Int) % 4 != 0) = false := by simp; omega
  have hzw : wide D ≤ Z.size := by omega
  have hsm : ∀ y ∈ D, y.2.size ≤ 140737488355328 := fun y hy => by have := (may_iff y).1 (List.all_eq_true.1 hall y hy); omega
  obtain ⟨k, hk⟩ : ∃ k : Nat, k = (a % ((D.length : Int) + 1)).toNat := ⟨_, rfl⟩
  have hkm : a % ((D.length : Int) + 1) = (k : Int) := by rw [hk, Int.toNat_of_nonneg (Int.emod_nonneg _ (by omega))]
  have hkl : k ≤ D.length := by have := Int.emod_lt_of_pos a (show (0 : Int) < (D.length : Int) + 1 by omega); omega
  have hka : (D.take k).all may = true := List.all_eq_true.2 fun x hx => List.all_eq_true.1 hall x (List.mem_of_mem_take hx)
  have hkw := wide_take_le D k
  obtain ⟨Za, hZa⟩ : ∃ Za, Za = (laid (D.take k)).1 := ⟨_, rfl⟩
  have hlaida : laid (D.take k) = (Za, 0) := by rw [hZa, laid_ok _ hka (by omega)]
  have hza : wide (D.take k) ≤ Za.size := by
    have := (laid_sized (D.take k)).1
    rw [← hZa, sized_ok _ hka (by omega)] at this
    have := pad_b (wide (D.take k))
    simp at *; omega
  have hza40 : Za.size ≤ 40 := by rw [hZa]; exact laid_small _
  have HD := Lib.hid hd
  have HDD := Lib.hid hD
  have HALL := Lib.hid hall
  have HZ := Lib.hid hZ
  have HL := Lib.hid hlaid
  have HSZ := Lib.hid hszd
  have HBK := Lib.hid hback
  have HSM := Lib.hid hsm
  have HLA := Lib.hid hlaida
  have HKM := Lib.hid hkm
  have HZP := Lib.hid hzp
  have HKL := Lib.hid (show ∀ y ∈ D.take k, y.2.size ≤ 140737488355328 from fun y hy => hsm y (List.mem_of_mem_take hy))
  obtain ⟨p0, cap0, hv0, hl0, hc0⟩ := id hd
  subst hv0
  clear hd hD hall hZ hlaid hszd hback hsm hlaida hk hkm hka hZa hc0 hpd hzp
  go_enter Try.func5, Try.ntmps5
  go_wp2_with fail
  refine (works_any _).mono ?_
  rintro e w1 ⟨rfl, b1⟩
  have B1 := Lib.hid b1
  clear b1
  go_wp2_with fail
  refine (items_dr _ l _ (HD.out.below B1.out)).mono ?_
  rintro e w2 ⟨v2, rfl, row2, b2⟩
  rw [← HDD.out] at row2
  have B2 := Lib.hid (below_then B1.out b2)
  have R2 := Lib.hid row2
  obtain ⟨p, cap, hv, hlc, hcap, hcl⟩ := row2
  subst hv
  clear b2 hcl
  go_wp2_with fail
  refine (Lay_any _ D (Z, 0) _ R2.out HSM.out (by omega) HL.out).mono ?_
  rintro e w3 ⟨rfl, b3⟩
  have B3 := Lib.hid (below_then B2.out b3)
  have R3 := Lib.hid (R2.out.below b3)
  clear b3
  have d40 : decide ((40 : Int) < (Z.size : Int)) = false := by simp; omega
  go_wp2_with fail
  refine (Size_any _ D ((Z.size : Int), 0) _ R3.out HSM.out (by omega) HSZ.out).mono ?_
  rintro e w4 ⟨rfl, b4⟩
  have B4 := Lib.hid (below_then B3.out b4)
  have R4 := Lib.hid (R3.out.below b4)
  clear b4
  go_wp2_with fail
  refine (walked_t Z _ D _ (by omega) R4.out (by omega) HBK.out).mono ?_
  rintro e w5 ⟨rfl, b5⟩
  have B5 := Lib.hid (below_then B4.out b5)
  have R5 := Lib.hid (R4.out.below b5)
  clear b5
  have hkm := HKM.out
  have q0 : (0 : Int) ≤ (k : Int) := by omega
  have q1 : (k : Int) ≤ (cap : Int) := by omega
  have q2 : k ≤ cap := by omega
  go_wp2_with fail
  refine (Lay_any _ (D.take k) (Za, 0) _ (RowB.take R5.out k hkl) HKL.out (by rw [List.length_take]; omega) HLA.out).mono ?_
  rintro e w6 ⟨rfl, b6⟩
  have B6 := Lib.hid (below_then B5.out b6)
  have R6 := Lib.hid (R5.out.below b6)
  clear b6
  rw [HKM.out]
  clear hkm
  go_wp2_with fail
  go_loop [11, 12] (fun n i => ∃ j : Nat, j ≤ k ∧ i = .int .i64 (j : Int) ∧ n = .int .i64 (wide (D.take j) : Int)) (fun _ i => k - (intOf i).toNat)
  case atStart => exact ⟨0, Nat.zero_le _, rfl, rfl⟩
  case round =>
    obtain ⟨j, hj, rfl, rfl⟩ := hrel
    have hwl := wide_take_le D j
    by_cases hlt : j < k
    · obtain ⟨x, hx⟩ : ∃ x, D[j]? = some x := ⟨_, List.getElem?_eq_getElem (by omega)⟩
      obtain ⟨ad, hp, hg, c0, c1⟩ := row_cells R6.out (Below.refl _ _) j x hx
      subst hp
      have hxs := HSM.out x (List.mem_of_getElem? hx)
      have hws := wide_take_succ D j x hx
      obtain ⟨n, hn⟩ : ∃ n, n = wide (D.take j) := ⟨_, rfl⟩
      rw [← hn] at hws hwl ⊢
      have HW := Lib.hid hws
      clear hx hws hn
      go_wp2
      go_round
      case rel => exact ⟨j + 1, by omega, by go_num, by rw [HW.out]; go_num⟩
      case measure => simp [intOf]; omega
    · obtain rfl : j = k := by omega
      obtain ⟨n, hn⟩ : ∃ n, n = wide (D.take j) := ⟨_, rfl⟩
      rw [← hn] at hza hkw hwl ⊢
      have HN := Lib.hid hn
      have d1 : decide (Za.size < n) = false := by simp; omega
      clear hn
      by_cases h40 : 40 ≤ Z.size
      · have d2 : decide ((40 : Int) ≤ (Z.size : Int)) = true := by simp; omega
        go_wp2
        go_ret; exact ⟨rfl, B6.out⟩
      · have d2 : decide ((40 : Int) ≤ (Z.size : Int)) = false := by simp; omega
        have d3 : decide (Z.size < n) = false := by simp; omega
        have hrd := between D HALL.out hw40 j hkl Z HZ.out (by omega) n HN.out
        obtain ⟨Y, hY⟩ : ∃ Y, Y = Z.extract 0 n ++ ⟨#[1]⟩ ++ Z.extract n Z.size ++ ⟨#[0, 0, 0]⟩ := ⟨_, rfl⟩
        rw [← hY] at hrd
        have s1 : (Z.extract 0 n).size = n := by rw [ByteArray.size_extract]; omega
        have s2 : (Z.extract 0 n ++ ⟨#[1]⟩ : ByteArray).size = n + 1 := by rw [ByteArray.size_append, s1]; rfl
        have s3 : (Z.extract n Z.size).size = Z.size - n := by rw [ByteArray.size_extract]; omega
        have s4 : (Z.extract 0 n ++ ⟨#[1]⟩ ++ Z.extract n Z.size : ByteArray).size = n + 1 + (Z.size - n) := by rw [ByteArray.size_append, s2, s3]
        have hYs : Y.size = n + 1 + (Z.size - n) + 3 := by rw [hY, ByteArray.size_append, s4]; rfl
        have HRD := Lib.hid hrd
        have HYS := Lib.hid hYs
        have q3 : (0 : Int) ≤ (n : Int) := by omega
        have q4 : (n : Int) ≤ (Z.size : Int) := by omega
        have q5 : n ≤ Z.size := by omega
        have hY' := hY.symm
        clear hrd hY hYs HN
        go_wp2
        go_quiet (fail)
        clear s1 s2 s3 s4
        go_wp2_with fail
        refine (walked_t Y _ D _ (by have := HYS.out; omega) (Row.drewN R6.out _) (by omega) HRD.out).mono ?_
        rintro e w7 ⟨rfl, b7⟩
        go_wp2
        go_ret; exact ⟨rfl, below_then (below_drewN B6.out _) b7⟩

theorem own : ownKnob Try.prog.godebug = none := by kernel_rfl
theorem laidOut : laidOutB Try.prog = true := by kernel_rfl

set_option maxRecDepth 100000 in
theorem lifted (os : Os) (started : os.Started) (H : Type) (enc : TypeId × Value → H) :
    ReturnsInHanded {} Try.checked os 5 .any (Rows.areaBackSpec.pre6 enc Try.prog Try.f5 Rows.areaBackRow.domain false) (Rows.areaBackSpec.post enc Try.prog Try.f5 false true false false) := by
  refine returnsInHanded_of_change (C := Try.checked) own started (by kernel_rfl) Try.func5
    (ChangeSpec.witness6 (enc := enc) (C := Try.checked) false ⟨#[], #[.slice none 0 0, .int .u8 0], []⟩ 8 (by kernel_rfl) (by kernel_rfl) (by kernel_rfl) (by kernel_rfl)) ?_
  intro W base args ds gs before hval0 hW hcnd _
  have hval : ∀ (j : Nat) t v, Try.f5.params[j]? = some t → args[j]? = some v → Value.okWide Try.prog W .any base t v := hval0
  have hW' := hW
  obtain ⟨p, q, hA0, hV, rfl, hfz, hnd⟩ := hW
  have hA : DataW.TrodAll enc Try.prog W 0 (fun _ => true) true Try.f5.params.toList args.toList ds p := hA0
  rw [Try.params5] at hA hval
  obtain ⟨v0, vs0, d0, ds0, p0, q0, hargs, rfl, rfl, h0, r0⟩ := trodAll_cons hA
  obtain ⟨v1, vs1, d1, ds1, p1, q1, rfl, rfl, rfl, h1, r1⟩ := trodAll_cons r0
  obtain ⟨rfl, rfl, rfl⟩ := trodAll_nil r1
  obtain rfl : args = #[v0, v1] := by cases args; simp_all
  obtain ⟨rfl, rfl⟩ := trodVars_none hV
  have k0 := h0
  have lt0 : ∀ x ∈ p0, x.block < W.heap.size := by obtain ⟨m, hm⟩ := k0; exact DataW.trod_lt m _ _ _ hm
  obtain ⟨l, hd⟩ := open_drafts (hval 0 39 v0 rfl rfl) h0
  obtain ⟨a1, rfl, rfl, rfl, w1⟩ := open_int Try.underlying5 (hval 1 5 v1 rfl rfl) h1
  clear hA0 hval0
  simp only [List.append_nil] at hW'
  refine (walk v0 l a1 w1 W hd).mono fun e W' ⟨he, bel⟩ => ?_
  subst he
  exact ⟨_, rfl, _, _, _, [], _, [], hW', trodAll_mk1 (shut_bool Try.underlying4 _), (trodAll_cons_mk (Below.trod laidOut (by kernel_rfl) (of_decide_eq_true (by kernel_rfl)) k0 bel lt0) (trodAll_cons_mk (shut_int Try.underlying5 w1) trodAll_mk0)), rfl, bel.frame _, fun h => by cases h⟩

theorem over : Rows.areaBackRow.holds Try.pinned (OpenSpec.ofChange Rows.areaBackSpec) :=
  OpenClaim.holds_of_wide 5 Try.f5 rfl rfl rfl rfl rfl rfl rfl ⟨rfl, rfl, rfl, rfl, rfl⟩ rfl rfl rfl rfl rfl (by kernel_rfl) Try.func5 (by kernel_rfl)
    (of_decide_eq_true (by kernel_rfl)) (by unfold Func.isWrapper; first | (rw [if_pos (by decide +kernel)]; kernel_rfl) | (rw [if_neg (by decide +kernel)]; exact ⟨rfl, rfl⟩))
    (fun os started H enc _ => lifted os started H enc)

theorem proved : Rows.AreaBackSaid := over
#print axioms proved
end Go.Proofs.Ytlmbccgldigihaa.areaBack
