/-
  A front is written once; copies of it, and copies of copies, go on their own ways, whichever is written to first: each tells just what was written to it (statement HashForks, promises P6.2, P6.3), of all fronts and ends, without condition but the tables' own initial values, which the card ties to the program's text.
-/
import Derived.Test.YtblcadikfjdfoaaDoorShaOpen
import Derived.Test.YtblcadikfjdfoaaDoorShaEq
import Derived.Deep.QuietTactic
import Derived.BigQuiet
namespace Go.Proofs.YtblcadikfjdfoaaDoor.hashForks
open Go.ChangeShapes Go.WideShapes Go.ChangeAt Go.RowKit
set_option linter.unusedVariables false

/-- A front of a text, 150 bytes at most. -/
theorem front (s : ByteArray) : ∃ (m : Nat) (z : ByteArray), z = s.extract 0 m ∧ z.size = m ∧ (if (150 : Int) < (s.size : Int) then (150 : Int) else (s.size : Int)) = (m : Int) ∧ (m : Int) ≤ s.size ∧ m ≤ 150 := by
  refine ⟨min s.size 150, _, rfl, ?_, ?_, ?_, ?_⟩
  · rw [ByteArray.size_extract]; omega
  · split <;> omega
  · omega
  · omega

/-- Four hashes, and the tables. -/
structure Four (w W : World) (h x y z : Nat) (H X Y Z : List UInt8) : Prop where
  h : Hsh W h H
  x : Hsh W x X
  y : Hsh W y Y
  z : Hsh W z Z
  t : Tbl W
  b : Below w.heap.size w W
theorem Four.below {w W W' : World} {h x y z : Nat} {H X Y Z : List UInt8} (f : Four w W h x y z H X Y Z) (b : Below W.heap.size W W') : Four w W' h x y z H X Y Z :=
  ⟨f.h.below b f.h.lt, f.x.below b f.x.lt, f.y.below b f.y.lt, f.z.below b f.z.lt, f.t.below b, f.b.trans (b.mono f.b.size)⟩

set_option maxHeartbeats 4000000 in
set_option maxRecDepth 100000 in
theorem walk (a0 : ByteArray) (z0 : a0.size ≤ 140737488351232) (s0 s1 : ByteArray) (tn : Bool) (w : World) (ht : Tbl w) :
    Calls Tryd.prog 6 #[.string a0, .agg #[.string s0, .string s1], .bool tn] w fun e w' => e = .returned (.bool true) ∧ Below w.heap.size w w' := by
  obtain ⟨m0, F, hF, nF, mF, lF, uF⟩ := front a0
  obtain ⟨m1, A, hA, nA, mA, lA, uA⟩ := front s0
  obtain ⟨m2, B, hB, nB, mB, lB, uB⟩ := front s1
  have h1 := ht.lt
  have HT := Lib.hid ht
  have EF := Lib.hid hF.symm
  have EA := Lib.hid hA.symm
  have EB := Lib.hid hB.symm
  have NF := Lib.hid nF
  have NA := Lib.hid nA
  have NB := Lib.hid nB
  have MF := Lib.hid mF
  have MA := Lib.hid mA
  have MB := Lib.hid mB
  clear ht hF hA hB nF nA nB mF mA mB
  go_enter Tryd.func6, Tryd.ntmps6
  go_wp2_with fail
  have HT0 := Lib.hid (HT.out.alloc (.cells #[.string s0, .string s1] 38))
  have HP0 := Lib.hid (Blk.new w 38 #[.string s0, .string s1])
  have HB0 := Lib.hid ((Below.refl w.heap.size w).alloc (Nat.le_refl _) (.cells #[.string s0, .string s1] 38))
  have hz0 : (w.alloc (.cells #[.string s0, .string s1] 38)).heap.size = w.heap.size + 1 := World.size_alloc _ _
  clear HT
  refine (New_any _ HT0.out).mono ?_
  rintro e W1 ⟨rfl, hh, b1⟩
  rw [hz0] at hh b1 ⊢
  have HH1 := Lib.hid hh
  have HT1 := Lib.hid (HT0.out.under b1 (by omega))
  have HP1 := Lib.hid (HP0.out.below b1 (by omega))
  have HB1 := Lib.hid (HB0.out.trans (b1.mono (by omega)))
  clear hz0 hh b1 HT0 HP0 HB0
  go_wp2_with fail
  refine (works_t W1 HT1.out).mono ?_
  rintro e W2 ⟨rfl, b2⟩
  have HH2 := Lib.hid (HH1.out.below b2 HH1.out.lt)
  have HT2 := Lib.hid (HT1.out.below b2)
  have HP2 := Lib.hid (HP1.out.below b2 HP1.out.lt)
  have HB2 := Lib.hid (HB1.out.trans (b2.mono HB1.out.size))
  clear b2 HH1 HT1 HP1 HB1
  have mF := MF.out
  have eF := EF.out
  go_wp2_with fail
  clear mF eF
  have c0 : W2.cell? ⟨w.heap.size, 0, none⟩ = some (.string s0) := HP2.out.cell 0
  have c1 : W2.cell? ⟨w.heap.size, 1, none⟩ = some (.string s1) := HP2.out.cell 1
  have mA := MA.out
  have eA := EA.out
  have mB := MB.out
  have eB := EB.out
  go_quiet (fail)
  obtain ⟨W3, hW3⟩ : ∃ W3, W3 = W2.drewN nq := ⟨_, rfl⟩
  rw [← hW3]
  have HH3 := Lib.hid (show Hsh W3 (w.heap.size + 1) [] by rw [hW3]; exact HH2.out.same rfl)
  have HT3 := Lib.hid (show Tbl W3 by rw [hW3]; exact HT2.out.drewN _)
  have HB3 := Lib.hid (show Below w.heap.size w W3 by rw [hW3]; exact below_drewN HB2.out _)
  clear hW3 c0 c1 mA eA mB eB HH2 HT2 HP2 HB2
  go_wp2_with fail
  refine (Write_any (w.heap.size + 1) [] F W3 (by omega) (by have := NF.out; simp; omega) HT3.out HH3.out).mono ?_
  rintro e W4 ⟨rfl, h4, g4⟩
  rw [List.nil_append] at h4
  obtain ⟨gh, hgh⟩ : ∃ gh, gh = w.heap.size + 1 := ⟨_, rfl⟩
  rw [← hgh] at h4 g4 ⊢
  have lw : w.heap.size < gh := by omega
  have l1 : 1 < gh := by omega
  have HT4 := Lib.hid (HT3.out.grown g4 (by omega))
  have HB4 := Lib.hid (HB3.out.trans (below_of_only g4 (by omega) (by have := HB3.out.size; omega)))
  have HH4 := Lib.hid h4
  clear h4 g4 HT3 HB3 HH3 hgh
  go_wp2_with fail
  refine (Copy_any gh F.data.toList W4 HH4.out).mono ?_
  rintro e W5 ⟨rfl, x5, b5⟩
  obtain ⟨gx, hgx⟩ : ∃ gx, gx = W4.heap.size := ⟨_, rfl⟩
  rw [← hgx] at x5 ⊢
  have lhx : gh < gx := by rw [hgx]; exact HH4.out.lt
  have HH5 := Lib.hid (HH4.out.below b5 HH4.out.lt)
  have HT5 := Lib.hid (HT4.out.below b5)
  have HB5 := Lib.hid (HB4.out.trans (b5.mono HB4.out.size))
  have HX5 := Lib.hid x5
  have lxs : gx < W5.heap.size := x5.lt
  clear b5 x5 hgx HH4 HT4 HB4
  go_wp2_with fail
  refine (Copy_any gx F.data.toList W5 HX5.out).mono ?_
  rintro e W6 ⟨rfl, y6, b6⟩
  obtain ⟨gy, hgy⟩ : ∃ gy, gy = W5.heap.size := ⟨_, rfl⟩
  rw [← hgy] at y6 ⊢
  have lxy : gx < gy := by rw [hgy]; exact lxs
  have HH6 := Lib.hid (HH5.out.below b6 HH5.out.lt)
  have HX6 := Lib.hid (HX5.out.below b6 HX5.out.lt)
  have HT6 := Lib.hid (HT5.out.below b6)
  have HB6 := Lib.hid (HB5.out.trans (b6.mono HB5.out.size))
  have HY6 := Lib.hid y6
  clear b6 y6 hgy lxs HH5 HX5 HT5 HB5
  have lFs : F.data.toList.length ≤ 150 := by rw [len_data, NF.out]; exact uF
  have lAs : A.data.toList.length ≤ 150 := by rw [len_data, NA.out]; exact uA
  have lBs : B.data.toList.length ≤ 150 := by rw [len_data, NB.out]; exact uB
  have sA : A.size ≤ 150 := by rw [NA.out]; exact uA
  have sB : B.size ≤ 150 := by rw [NB.out]; exact uB
  have sF0 : F.size ≤ 150 := by rw [NF.out]; exact uF
  have k1 : F.size + A.size ≤ 9223372036854775807 := by omega
  have k2 : F.size + B.size ≤ 9223372036854775807 := by omega
  have k3 : F.size + A.size + B.size ≤ 9223372036854775807 := by omega
  obtain ⟨lF', hlF⟩ : ∃ l, l = F.data.toList := ⟨_, rfl⟩
  obtain ⟨lA', hlA⟩ : ∃ l, l = A.data.toList := ⟨_, rfl⟩
  obtain ⟨lB', hlB⟩ : ∃ l, l = B.data.toList := ⟨_, rfl⟩
  rw [← hlF] at HH6 HX6 HY6 lFs
  rw [← hlA] at lAs
  rw [← hlB] at lBs
  have HLF := Lib.hid hlF
  have HLA := Lib.hid hlA
  have HLB := Lib.hid hlB
  clear hlF hlA hlB
  obtain ⟨D1, hD1⟩ : ∃ D, D = byv (digest lF') := ⟨_, rfl⟩
  obtain ⟨D2, hD2⟩ : ∃ D, D = byv (digest (lF' ++ lA')) := ⟨_, rfl⟩
  obtain ⟨D3, hD3⟩ : ∃ D, D = byv (digest (lF' ++ lB')) := ⟨_, rfl⟩
  obtain ⟨D4, hD4⟩ : ∃ D, D = byv (digest (lF' ++ lA' ++ lB')) := ⟨_, rfl⟩
  have q1 : ∀ W, (Op.equalIn 10000 24 (.agg D1) (.agg D1)).run Tryd.prog W = .ok true W := fun W => by rw [hD1, digest_eq _ _ (digest_length _) (digest_length _)]; simp
  have q2 : ∀ W, (Op.equalIn 10000 24 (.agg D2) (.agg D2)).run Tryd.prog W = .ok true W := fun W => by rw [hD2, digest_eq _ _ (digest_length _) (digest_length _)]; simp
  have q3 : ∀ W, (Op.equalIn 10000 24 (.agg D3) (.agg D3)).run Tryd.prog W = .ok true W := fun W => by rw [hD3, digest_eq _ _ (digest_length _) (digest_length _)]; simp
  have q4 : ∀ W, (Op.equalIn 10000 24 (.agg D4) (.agg D4)).run Tryd.prog W = .ok true W := fun W => by rw [hD4, digest_eq _ _ (digest_length _) (digest_length _)]; simp
  have HD1 := Lib.hid hD1
  have HD2 := Lib.hid hD2
  have HD3 := Lib.hid hD3
  have HD4 := Lib.hid hD4
  clear hD1 hD2 hD3 hD4
  cases tn
  · go_wp2_with fail
    refine (Write_any gx lF' A W6 (by omega) (by omega) HT6.out HX6.out).mono ?_
    rintro e W7 ⟨rfl, hn, gn⟩
    rw [← HLA.out] at hn
    have HT7 := Lib.hid (HT6.out.grown gn (by omega))
    have HB7 := Lib.hid (HB6.out.trans (below_of_only gn (by omega) (by have := HB6.out.size; omega)))
    have HX7 := Lib.hid hn
    have HH7 := Lib.hid (HH6.out.grown gn (by simp; omega))
    have HY7 := Lib.hid (HY6.out.grown gn (by simp; omega))
    clear hn gn HT6 HB6 HX6 HH6 HY6
    go_wp2_with fail
    refine (Write_any gy lF' B W7 (by omega) (by omega) HT7.out HY7.out).mono ?_
    rintro e W8 ⟨rfl, hn, gn⟩
    rw [← HLB.out] at hn
    have HT8 := Lib.hid (HT7.out.grown gn (by omega))
    have HB8 := Lib.hid (HB7.out.trans (below_of_only gn (by omega) (by have := HB7.out.size; omega)))
    have HY8 := Lib.hid hn
    have HH8 := Lib.hid (HH7.out.grown gn (by simp; omega))
    have HX8 := Lib.hid (HX7.out.grown gn (by simp; omega))
    clear hn gn HT7 HB7 HY7 HH7 HX7
    go_wp2_with fail
    refine (Copy_any gx (lF' ++ lA') W8 HX8.out).mono ?_
    rintro e W9 ⟨rfl, z9, b9⟩
    obtain ⟨gz, hgz⟩ : ∃ gz, gz = W8.heap.size := ⟨_, rfl⟩
    rw [← hgz] at z9 ⊢
    have lyz : gy < gz := by rw [hgz]; exact HY8.out.lt
    have HH9 := Lib.hid (HH8.out.below b9 HH8.out.lt)
    have HX9 := Lib.hid (HX8.out.below b9 HX8.out.lt)
    have HY9 := Lib.hid (HY8.out.below b9 HY8.out.lt)
    have HT9 := Lib.hid (HT8.out.below b9)
    have HB9 := Lib.hid (HB8.out.trans (b9.mono HB8.out.size))
    have HZ9 := Lib.hid z9
    clear b9 z9 hgz HH8 HX8 HY8 HT8 HB8
    go_wp2_with fail
    refine (Write_any gz (lF' ++ lA') B W9 (by omega) (by rw [List.length_append]; omega) HT9.out HZ9.out).mono ?_
    rintro e W10 ⟨rfl, hn, gn⟩
    rw [← HLB.out] at hn
    have HT10 := Lib.hid (HT9.out.grown gn (by omega))
    have HB10 := Lib.hid (HB9.out.trans (below_of_only gn (by omega) (by have := HB9.out.size; omega)))
    have HZ10 := Lib.hid hn
    have HH10 := Lib.hid (HH9.out.grown gn (by simp; omega))
    have HX10 := Lib.hid (HX9.out.grown gn (by simp; omega))
    have HY10 := Lib.hid (HY9.out.grown gn (by simp; omega))
    clear hn gn HT9 HB9 HZ9 HH9 HX9 HY9
    have HF10 := Lib.hid (Four.mk HH10.out HX10.out HY10.out HZ10.out HT10.out HB10.out)
    clear HH10 HX10 HY10 HZ10 HT10 HB10
    go_wp2_with fail
    refine ((DigestL gh (lF') D1 W10 HD1.out HF10.out.t (by first | omega | (simp only [List.length_append]; omega)) HF10.out.h)).mono ?_
    rintro e W11 ⟨rfl, bn⟩
    have HF11 := Lib.hid (HF10.out.below bn)
    clear bn HF10
    go_wp2_with fail
    refine ((SumL F (lF') D1 W11 (HLF.out.symm) HD1.out HF11.out.t (by first | omega | (simp only [List.length_append]; omega)))).mono ?_
    rintro e W12 ⟨rfl, bn⟩
    have HF12 := Lib.hid (HF11.out.below bn)
    clear bn HF11
    go_wp2_with fail
    refine ((DigestL gx (lF' ++ lA') D2 W12 HD2.out HF12.out.t (by first | omega | (simp only [List.length_append]; omega)) HF12.out.x)).mono ?_
    rintro e W13 ⟨rfl, bn⟩
    have HF13 := Lib.hid (HF12.out.below bn)
    clear bn HF12
    go_wp2_with fail
    refine ((SumL (F ++ A) (lF' ++ lA') D2 W13 (by rw [HLF.out, HLA.out]; simp [ByteArray.data_append]) HD2.out HF13.out.t (by first | omega | (simp only [List.length_append]; omega)))).mono ?_
    rintro e W14 ⟨rfl, bn⟩
    have HF14 := Lib.hid (HF13.out.below bn)
    clear bn HF13
    go_wp2_with fail
    refine ((DigestL gy (lF' ++ lB') D3 W14 HD3.out HF14.out.t (by first | omega | (simp only [List.length_append]; omega)) HF14.out.y)).mono ?_
    rintro e W15 ⟨rfl, bn⟩
    have HF15 := Lib.hid (HF14.out.below bn)
    clear bn HF14
    go_wp2_with fail
    refine ((SumL (F ++ B) (lF' ++ lB') D3 W15 (by rw [HLF.out, HLB.out]; simp [ByteArray.data_append]) HD3.out HF15.out.t (by first | omega | (simp only [List.length_append]; omega)))).mono ?_
    rintro e W16 ⟨rfl, bn⟩
    have HF16 := Lib.hid (HF15.out.below bn)
    clear bn HF15
    go_wp2_with fail
    refine ((DigestL gz (lF' ++ lA' ++ lB') D4 W16 HD4.out HF16.out.t (by first | omega | (simp only [List.length_append]; omega)) HF16.out.z)).mono ?_
    rintro e W17 ⟨rfl, bn⟩
    have HF17 := Lib.hid (HF16.out.below bn)
    clear bn HF16
    go_wp2_with fail
    refine ((SumL (F ++ A ++ B) (lF' ++ lA' ++ lB') D4 W17 (by rw [HLF.out, HLA.out, HLB.out]; simp [ByteArray.data_append]) HD4.out HF17.out.t (by first | omega | (simp only [List.length_append]; omega)))).mono ?_
    rintro e W18 ⟨rfl, bn⟩
    have HF18 := Lib.hid (HF17.out.below bn)
    clear bn HF17
    go_wp2_with fail
    refine (Len_any gh lF' W18 HF18.out.h).mono ?_
    rintro e W' ⟨rfl, rfl⟩
    have eF : (lF'.length : Int) = (F.size : Int) := by rw [HLF.out, len_data]
    rw [eF]
    have sF : F.size ≤ 150 := by rw [NF.out]; exact uF
    go_wp2_with fail
    refine (Len_any gz (lF' ++ lA' ++ lB') W18 HF18.out.z).mono ?_
    rintro e W' ⟨rfl, rfl⟩
    have eZ : ((lF' ++ lA' ++ lB').length : Int) = (F.size : Int) + A.size + B.size := by rw [List.length_append, List.length_append, HLF.out, HLA.out, HLB.out, len_data, len_data, len_data]; omega
    rw [eZ]
    go_wp2_with fail
    go_ret
    exact ⟨rfl, HF18.out.b⟩
  · go_wp2_with fail
    refine (Write_any gy lF' B W6 (by omega) (by omega) HT6.out HY6.out).mono ?_
    rintro e W7 ⟨rfl, hn, gn⟩
    rw [← HLB.out] at hn
    have HT7 := Lib.hid (HT6.out.grown gn (by omega))
    have HB7 := Lib.hid (HB6.out.trans (below_of_only gn (by omega) (by have := HB6.out.size; omega)))
    have HY7 := Lib.hid hn
    have HH7 := Lib.hid (HH6.out.grown gn (by simp; omega))
    have HX7 := Lib.hid (HX6.out.grown gn (by simp; omega))
    clear hn gn HT6 HB6 HY6 HH6 HX6
    go_wp2_with fail
    refine (Write_any gx lF' A W7 (by omega) (by omega) HT7.out HX7.out).mono ?_
    rintro e W8 ⟨rfl, hn, gn⟩
    rw [← HLA.out] at hn
    have HT8 := Lib.hid (HT7.out.grown gn (by omega))
    have HB8 := Lib.hid (HB7.out.trans (below_of_only gn (by omega) (by have := HB7.out.size; omega)))
    have HX8 := Lib.hid hn
    have HH8 := Lib.hid (HH7.out.grown gn (by simp; omega))
    have HY8 := Lib.hid (HY7.out.grown gn (by simp; omega))
    clear hn gn HT7 HB7 HX7 HH7 HY7
    go_wp2_with fail
    refine (Copy_any gx (lF' ++ lA') W8 HX8.out).mono ?_
    rintro e W9 ⟨rfl, z9, b9⟩
    obtain ⟨gz, hgz⟩ : ∃ gz, gz = W8.heap.size := ⟨_, rfl⟩
    rw [← hgz] at z9 ⊢
    have lyz : gy < gz := by rw [hgz]; exact HY8.out.lt
    have HH9 := Lib.hid (HH8.out.below b9 HH8.out.lt)
    have HX9 := Lib.hid (HX8.out.below b9 HX8.out.lt)
    have HY9 := Lib.hid (HY8.out.below b9 HY8.out.lt)
    have HT9 := Lib.hid (HT8.out.below b9)
    have HB9 := Lib.hid (HB8.out.trans (b9.mono HB8.out.size))
    have HZ9 := Lib.hid z9
    clear b9 z9 hgz HH8 HX8 HY8 HT8 HB8
    go_wp2_with fail
    refine (Write_any gz (lF' ++ lA') B W9 (by omega) (by rw [List.length_append]; omega) HT9.out HZ9.out).mono ?_
    rintro e W10 ⟨rfl, hn, gn⟩
    rw [← HLB.out] at hn
    have HT10 := Lib.hid (HT9.out.grown gn (by omega))
    have HB10 := Lib.hid (HB9.out.trans (below_of_only gn (by omega) (by have := HB9.out.size; omega)))
    have HZ10 := Lib.hid hn
    have HH10 := Lib.hid (HH9.out.grown gn (by simp; omega))
    have HX10 := Lib.hid (HX9.out.grown gn (by simp; omega))
    have HY10 := Lib.hid (HY9.out.grown gn (by simp; omega))
    clear hn gn HT9 HB9 HZ9 HH9 HX9 HY9
    have HF10 := Lib.hid (Four.mk HH10.out HX10.out HY10.out HZ10.out HT10.out HB10.out)
    clear HH10 HX10 HY10 HZ10 HT10 HB10
    go_wp2_with fail
    refine ((DigestL gh (lF') D1 W10 HD1.out HF10.out.t (by first | omega | (simp only [List.length_append]; omega)) HF10.out.h)).mono ?_
    rintro e W11 ⟨rfl, bn⟩
    have HF11 := Lib.hid (HF10.out.below bn)
    clear bn HF10
    go_wp2_with fail
    refine ((SumL F (lF') D1 W11 (HLF.out.symm) HD1.out HF11.out.t (by first | omega | (simp only [List.length_append]; omega)))).mono ?_
    rintro e W12 ⟨rfl, bn⟩
    have HF12 := Lib.hid (HF11.out.below bn)
    clear bn HF11
    go_wp2_with fail
    refine ((DigestL gx (lF' ++ lA') D2 W12 HD2.out HF12.out.t (by first | omega | (simp only [List.length_append]; omega)) HF12.out.x)).mono ?_
    rintro e W13 ⟨rfl, bn⟩
    have HF13 := Lib.hid (HF12.out.below bn)
    clear bn HF12
    go_wp2_with fail
    refine ((SumL (F ++ A) (lF' ++ lA') D2 W13 (by rw [HLF.out, HLA.out]; simp [ByteArray.data_append]) HD2.out HF13.out.t (by first | omega | (simp only [List.length_append]; omega)))).mono ?_
    rintro e W14 ⟨rfl, bn⟩
    have HF14 := Lib.hid (HF13.out.below bn)
    clear bn HF13
    go_wp2_with fail
    refine ((DigestL gy (lF' ++ lB') D3 W14 HD3.out HF14.out.t (by first | omega | (simp only [List.length_append]; omega)) HF14.out.y)).mono ?_
    rintro e W15 ⟨rfl, bn⟩
    have HF15 := Lib.hid (HF14.out.below bn)
    clear bn HF14
    go_wp2_with fail
    refine ((SumL (F ++ B) (lF' ++ lB') D3 W15 (by rw [HLF.out, HLB.out]; simp [ByteArray.data_append]) HD3.out HF15.out.t (by first | omega | (simp only [List.length_append]; omega)))).mono ?_
    rintro e W16 ⟨rfl, bn⟩
    have HF16 := Lib.hid (HF15.out.below bn)
    clear bn HF15
    go_wp2_with fail
    refine ((DigestL gz (lF' ++ lA' ++ lB') D4 W16 HD4.out HF16.out.t (by first | omega | (simp only [List.length_append]; omega)) HF16.out.z)).mono ?_
    rintro e W17 ⟨rfl, bn⟩
    have HF17 := Lib.hid (HF16.out.below bn)
    clear bn HF16
    go_wp2_with fail
    refine ((SumL (F ++ A ++ B) (lF' ++ lA' ++ lB') D4 W17 (by rw [HLF.out, HLA.out, HLB.out]; simp [ByteArray.data_append]) HD4.out HF17.out.t (by first | omega | (simp only [List.length_append]; omega)))).mono ?_
    rintro e W18 ⟨rfl, bn⟩
    have HF18 := Lib.hid (HF17.out.below bn)
    clear bn HF17
    go_wp2_with fail
    refine (Len_any gh lF' W18 HF18.out.h).mono ?_
    rintro e W' ⟨rfl, rfl⟩
    have eF : (lF'.length : Int) = (F.size : Int) := by rw [HLF.out, len_data]
    rw [eF]
    have sF : F.size ≤ 150 := by rw [NF.out]; exact uF
    go_wp2_with fail
    refine (Len_any gz (lF' ++ lA' ++ lB') W18 HF18.out.z).mono ?_
    rintro e W' ⟨rfl, rfl⟩
    have eZ : ((lF' ++ lA' ++ lB').length : Int) = (F.size : Int) + A.size + B.size := by rw [List.length_append, List.length_append, HLF.out, HLA.out, HLB.out, len_data, len_data, len_data]; omega
    rw [eZ]
    go_wp2_with fail
    go_ret
    exact ⟨rfl, HF18.out.b⟩

set_option maxRecDepth 100000 in
theorem lifted (os : Os) (started : os.Started) (H : Type) (enc : TypeId × Value → H) :
    ReturnsInHanded {} Tryd.checked os 6 .any (fun w args => (Rows.hashForksSpec.pre enc Tryd.prog Tryd.f6 [] false w args ∧ laidMetH Tryd.prog laid1 w) ∧ sizedMet enc Tryd.prog Tryd.f6 (OpenSpec.ofChange Rows.hashForksSpec) false w args)
      (Rows.hashForksSpec.post enc Tryd.prog Tryd.f6 false true false false) := by
  refine returnsInHanded_of_change_and (C := Tryd.checked) (X := fun w _ => laidMetH Tryd.prog laid1 w) (fun _ _ _ hh h => h.of_heap hh) own started (by kernel_rfl) Tryd.func6
    (ChangeSpec.witness_shaped (enc := enc) (C := Tryd.checked) (os := os) (X := fun w _ => laidMetH Tryd.prog laid1 w) false (World.doorLaid Tryd.prog 400 os) #[.string ByteArray.empty, .agg #[.string ByteArray.empty, .string ByteArray.empty], .bool false] 8 rfl (World.shaped_of_RefB (by kernel_rfl) (by kernel_rfl)) (by kernel_rfl) (by kernel_rfl) (by kernel_rfl) (door_met os _)) ?_
  intro W base args ds gs before hval0 hW hcnd hsz0 hL _
  have hsz : (DataW.weightsEach Tryd.prog (Tryd.f6.params.toList ++ Rows.hashForksSpec.plain.varTypes Tryd.prog) (ds ++ gs)).all (· ≤ reachBytes) = true := hsz0
  have ht := table_of hL
  have hval : ∀ (j : Nat) t v, Tryd.f6.params[j]? = some t → args[j]? = some v → Value.okWide Tryd.prog W .any base t v := hval0
  have hW' := hW
  obtain ⟨p, q, hA0, hV, rfl, hfz, hnd⟩ := hW
  have hA : DataW.TrodAll enc Tryd.prog W 0 (fun _ => true) true Tryd.f6.params.toList args.toList ds p := hA0
  rw [Tryd.params6] at hA hval hsz
  obtain ⟨v0, vs0, d0, ds0, p0, q0, hargs, rfl, rfl, h0, r0⟩ := trodAll_cons hA
  obtain ⟨v1, vs1, d1, ds1, p1, q1, rfl, rfl, rfl, h1, r1⟩ := trodAll_cons r0
  obtain ⟨v2, vs2, d2, ds2, p2, q2, rfl, rfl, rfl, h2, r2⟩ := trodAll_cons r1
  obtain ⟨rfl, rfl, rfl⟩ := trodAll_nil r2
  obtain rfl : args = #[v0, v1, v2] := by cases args; simp_all
  obtain ⟨rfl, rfl⟩ := trodVars_none hV
  obtain ⟨a0, rfl, rfl, rfl, w0⟩ := Go.ChangeMaps.open_string Tryd.underlying9 (hval 0 9 v0 rfl rfl) h0
  have k1 := h1
  have lt1 : ∀ x ∈ p1, x.block < W.heap.size := by obtain ⟨m, hm⟩ := k1; exact DataW.trod_lt m _ _ _ hm
  obtain ⟨s0, s1, rfl⟩ := open_pair (hval 1 38 v1 rfl rfl) h1
  obtain ⟨a2, rfl, rfl, rfl⟩ := open_bool Tryd.underlying4 (hval 2 4 v2 rfl rfl) h2
  have z0 : a0.size ≤ 140737488351232 := by have := sized_string hsz (j := 0) (t := 9) rfl rfl; simpa [reachBytes] using this
  clear hA0 hval0
  simp only [List.append_nil] at hW'
  refine (walk a0 z0 s0 s1 a2 W ht).mono fun e W' ⟨he, bel⟩ => ?_
  subst he
  exact ⟨_, rfl, _, _, _, [], _, [], hW', trodAll_mk1 (shut_bool Tryd.underlying4 _), (trodAll_cons_mk (Go.ChangeMaps.shut_string Tryd.underlying9 w0) (trodAll_cons_mk (Below.trod laidOut (by kernel_rfl) (of_decide_eq_true (by kernel_rfl)) k1 bel lt1) (trodAll_cons_mk (shut_bool Tryd.underlying4 _) trodAll_mk0))), rfl, bel.frame _, fun h => by cases h⟩

theorem over : Rows.HashForksSaid :=
  OpenClaim.holds_of_wide 6 Tryd.f6 rfl rfl rfl rfl rfl rfl rfl ⟨rfl, rfl, rfl, rfl, rfl⟩ rfl rfl rfl rfl rfl (by kernel_rfl) Tryd.func6 (by kernel_rfl)
    (of_decide_eq_true (by kernel_rfl)) (by unfold Func.isWrapper; first | (rw [if_pos (by decide +kernel)]; kernel_rfl) | (rw [if_neg (by decide +kernel)]; exact ⟨rfl, rfl⟩))
    (fun os started H enc _ => lifted os started H enc)

theorem proved : Rows.HashForksCardSaid :=
  Claim7.holds_tied_plain_at .later [] [.data, .data] true _ false
    over (fun _ h => by cases h) (by kernel_rfl) (fun _ h => by cases h) hashForks_row_tie rfl ⟨rfl, rfl⟩ (by kernel_rfl) rfl
    (fun f fn hf hfn => by
      obtain rfl : f = 6 := Option.some.inj ((show Tryd.prog.funcNamed "plait/plaitlaw06.HashForks" = some 6 by kernel_rfl).symm.trans hf) |>.symm
      obtain rfl : fn = Tryd.f6 := (Option.some.inj (Tryd.func6.symm.trans hfn)).symm
      exact ⟨by kernel_rfl, fun j t ht => by
        rw [Tryd.params6] at ht
        have hm : t ∈ ([9, 38, 4] : List TypeId) := by simpa using Array.mem_of_getElem? ht
        have hall : (([9, 38, 4] : List TypeId).all fun u => !Tryd.prog.wantsStandIn u) = true := by kernel_rfl
        exact (show Tryd.prog.wantsStandIn t = false by simpa using List.all_eq_true.1 hall t hm)⟩)
    (by kernel_rfl)
#print axioms proved
end Go.Proofs.YtblcadikfjdfoaaDoor.hashForks
