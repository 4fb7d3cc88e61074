/-
  What begun returns, by its walk and those of gather over slices of bytes and its closure: a hash to which the key's block was written.
-/
import Derived.Test.YtcbakfnpbhgjoaaDoorHmacSmall
import Derived.Test.YtcbakfnpbhgjoaaDoorByteRow
import Derived.Test.YtcbakfnpbhgjoaaDoorRepeat
import Derived.Laws.BitsAllLaws
namespace Go.Proofs.YtcbakfnpbhgjoaaDoor
open Go.ChangeShapes Go.WideShapes Go.ChangeAt Go.RowKit
set_option linter.unusedVariables false

theorem begun1_any (B : Nat) (v : Value) (l : List UInt8) (b : UInt8) (w : World) (h : OwnB B w v l) (hB : B ≤ w.heap.size) (hn : l.length ≤ 1000) :
    Calls Tryd.prog 89 #[v, .int .u8 (b.toNat : Int)] w fun e w' => ∃ v', e = .returned v' ∧ OwnB B w' v' (l ++ [b]) ∧ Below B w w' := by
  have HO := Lib.hid h
  clear h
  go_enter Tryd.func89, Tryd.ntmps89
  go_wp2_with (at_builtin; refine app_bytes rfl (.tmp 5) (.tmp 7) rfl B v l [b] _ rfl rfl HO.out hB (by simp; omega) 1 rfl rfl ?_)
  intro v' w' ho hb
  have HO' := Lib.hid ho
  have HB' := Lib.hid hb
  clear ho hb
  go_wp2_with fail
  go_ret; exact ⟨v', rfl, HO'.out, HB'.out⟩

set_option maxRecDepth 100000 in
theorem gatherL_any (a b : ByteArray) (by_ : UInt8) (ha : a.size ≤ 64) (hb : b.data.toList = List.replicate 64 by_) (w : World) :
    Calls Tryd.prog 87 #[.string a, .string b, .slice none 0 0, .func (.func 89) #[] #[]] w fun e w' => ∃ v, e = .returned v ∧ OwnB w.heap.size w' v (mixd a.data.toList by_) ∧ Below w.heap.size w w' := by
  have hb64 : b.size = 64 := by rw [← len_data, hb, List.length_replicate]
  have hmx : (if (a.size : Int) < (b.size : Int) then (b.size : Int) else (a.size : Int)) = 64 := by split <;> omega
  have hmy : (if a.size < b.size then (b.size : Int) else (a.size : Int)) = 64 := by split <;> omega
  have HB := Lib.hid hb
  clear hb hb64
  go_enter Tryd.func87, Tryd.ntmps87
  go_wp2_with fail
  go_loopw [2, 15] (fun v i wr => ∃ k : Nat, k ≤ 64 ∧ i = .int .i64 (k : Int) ∧ OwnB w.heap.size wr v ((mixd a.data.toList by_).take k) ∧ Below w.heap.size w wr) (fun _ i _ => 64 - (intOf i).toNat)
  case atStart => exact ⟨0, by decide, rfl, OwnB.nil _ _, Below.refl _ _⟩
  case round =>
    obtain ⟨k, hk, rfl, ho, hbl⟩ := hrel
    have HO := Lib.hid ho
    have HBL := Lib.hid hbl
    clear ho hbl
    by_cases hlt : k < 64
    · obtain ⟨x, hx⟩ : ∃ x, x = a.data.toList.getD k 0 := ⟨_, rfl⟩
      have hy : b.data.toList.getD k 0 = by_ := by rw [HB.out, List.getD_eq_getElem?_getD, List.getElem?_replicate, if_pos hlt]; rfl
      have hxy := u8_xor_nat x.toNat by_.toNat x.toNat_lt by_.toNat_lt
      rw [← UInt8.toNat_xor] at hxy
      have HT := Lib.hid (show (mixd a.data.toList by_).take (k + 1) = (mixd a.data.toList by_).take k ++ [x ^^^ by_] by rw [mixd_take _ _ _ hlt, hx])
      have HX := Lib.hid hx
      have HY := Lib.hid hy
      clear hx hy
      go_wp2_with fail
      refine (byteAt_any a k (by omega) wr).mono ?_
      rintro e w1 ⟨rfl, rfl⟩
      rw [← HX.out]
      go_wp2_with fail
      refine (byteAt_any b k (by omega) wr).mono ?_
      rintro e w1 ⟨rfl, rfl⟩
      rw [HY.out]
      go_wp2_with fail
      have hbs := HBL.out.size
      refine (begun1_any w.heap.size u2 _ (x ^^^ by_) wr HO.out hbs (by rw [List.length_take, mixd_length]; omega)).mono ?_
      rintro e w1 ⟨v1, rfl, ho1, hb1⟩
      have HO1 := Lib.hid (show OwnB w.heap.size w1 v1 ((mixd a.data.toList by_).take (k + 1)) by rw [HT.out]; exact ho1)
      have HB1 := Lib.hid (HBL.out.trans hb1)
      clear ho1 hb1
      go_wp2_with fail
      go_roundw
      case rel => exact ⟨k + 1, by omega, by go_num, HO1.out, HB1.out⟩
      case measure => simp [intOf]; omega
    · obtain rfl : k = 64 := by omega
      clear hlt
      have HO1 := Lib.hid (show OwnB w.heap.size wr u2 (mixd a.data.toList by_) by have := HO.out; rwa [List.take_of_length_le (by rw [mixd_length]; decide)] at this)
      go_wp2_with fail
      go_ret; exact ⟨_, rfl, HO1.out, HBL.out⟩

theorem repeat_any (c : UInt8) (n : Nat) (hn : n ≤ 1000) (w : World) :
    Calls Tryd.prog 88 #[.string ⟨#[c]⟩, .int .i64 (n : Int)] w fun e w' => e = .returned (.string (txt (List.replicate n c))) ∧ Below w.heap.size w w' := by
  have h := Tryd.strings_Repeat ⟨#[c]⟩ n w (by omega) (by show 1 * n ≤ _; omega)
  rwa [show Lib.repeatL (ByteArray.mk #[c]).data.toList n = List.replicate n c from (Lib.repeatL_replicate c 1 n).trans (by rw [Nat.mul_one])] at h

set_option maxRecDepth 100000 in
theorem begun_any (key : ByteArray) (by_ : UInt8) (hk : key.size ≤ 64) (w : World) (ht : Tbl w) :
    Calls Tryd.prog 73 #[.string key, .string ⟨#[by_]⟩] w fun e w' => ∃ g, e = .returned (.pointer (some ⟨g, 0, none⟩)) ∧ w.heap.size ≤ g ∧ Hsh w' g (mixd key.data.toList by_) ∧ Below w.heap.size w w' := by
  have HT := Lib.hid ht
  have h1 := ht.lt
  clear ht
  go_enter Tryd.func73, Tryd.ntmps73
  go_wp2_with fail
  refine (repeat_any by_ 64 (by decide) w).mono ?_
  rintro e w1 ⟨rfl, b1⟩
  have HT1 := Lib.hid (HT.out.below b1)
  have HB1 := Lib.hid b1
  obtain ⟨R, hR⟩ : ∃ R, R = txt (List.replicate 64 by_) := ⟨_, rfl⟩
  have hRd : R.data.toList = List.replicate 64 by_ := by rw [hR]
  have HR := Lib.hid hRd
  rw [← hR]
  clear b1 HT hR hRd
  go_wp2_with fail
  refine (gatherL_any key R by_ hk HR.out w1).mono ?_
  rintro e w2 ⟨v, rfl, ho2, b2⟩
  have HO2 := Lib.hid ho2
  have HT2 := Lib.hid (HT1.out.below b2)
  have HB2 := Lib.hid (HB1.out.trans (b2.mono HB1.out.size))
  clear ho2 b2 HT1 HB1
  go_wp2_with fail
  refine (New_any w2 HT2.out).mono ?_
  rintro e w3 ⟨rfl, hh, b3⟩
  have HO3 := HO2.out.below b3 (Nat.le_refl _)
  obtain ⟨M, hM⟩ : ∃ M, M = txt (mixd key.data.toList by_) := ⟨_, rfl⟩
  have hMd : M.data.toList = mixd key.data.toList by_ := by rw [hM]
  have hcv := own_text w3 _ v _ HO3 w3 rfl
  rw [← hM] at hcv
  have hms : M.size = 64 := by rw [← len_data, hMd, mixd_length]
  have hgl := HB2.out.size
  obtain ⟨g, hg⟩ : ∃ g, g = w2.heap.size := ⟨_, rfl⟩
  rw [← hg] at hh ⊢
  have HH3 := Lib.hid hh
  have HT3 := Lib.hid (HT2.out.below b3)
  have HB3 := Lib.hid (HB2.out.trans (b3.mono HB2.out.size))
  have HM := Lib.hid hMd
  have HG := Lib.hid (show w.heap.size ≤ g by omega)
  have hg1 : 1 < g := by omega
  clear hh b3 HO2 HO3 HT2 HB2 hM hMd hg hgl
  go_wp2_with fail
  refine (Write_any g [] M w3 hg1 (by rw [hms]; decide) HT3.out HH3.out).mono ?_
  rintro e w4 ⟨rfl, hh, b4⟩
  have HH4 := Lib.hid (show Hsh w4 g (mixd key.data.toList by_) by rw [← HM.out]; exact hh)
  have HB4 := Lib.hid (HB3.out.trans (below_of_only b4 HG.out HB3.out.size))
  clear hh b4
  go_wp2_with fail
  go_ret; exact ⟨g, rfl, HG.out, HH4.out, HB4.out⟩
end Go.Proofs.YtcbakfnpbhgjoaaDoor
