/-
  A token and a first number are the two ends of the digest of the key's bytes; a code of numbers is that under both keys' bytes of both numbers' bytes; its cuts are its front (statement KeyParts, promises P8.1, P8.2), of all pairs, without condition but the tables' own initial values, which the card ties to the program's text.
-/
import Derived.Test.YtcbakfnpbhgjoaaDoorKeyAlloc
namespace Go.Proofs.YtcbakfnpbhgjoaaDoor.keyParts
open Go.ChangeShapes Go.WideShapes Go.ChangeAt Go.RowKit
set_option linter.unusedVariables false

theorem put_none (a : Act) (v : Value) : a.put none v = a := rfl

set_option maxHeartbeats 2000000 in
set_option maxRecDepth 100000 in
theorem walk (f s : Nat) (hf : f ≤ 18446744073709551615) (hs : s ≤ 18446744073709551615) (a b : Nat) (ha : a ≤ 4294967295) (hb : b ≤ 4294967295) (w : World) (ht : Tbl w) :
    Calls Tryd.prog 6 #[.agg #[.int .u64 (f : Int), .int .u64 (s : Int), .int .u32 (a : Int), .int .u32 (b : Int)]] w fun e w' => e = .returned (.bool true) ∧ Below w.heap.size w w' := by
  obtain ⟨z32, hz32⟩ : ∃ z32, z32 = byv (List.replicate 32 0) := ⟨_, rfl⟩
  have hdz := digest_zero
  rw [← hz32] at hdz
  have HZK := Lib.hid (show DOk z32 by rw [hz32]; exact dok_zero)
  obtain ⟨D, hD⟩ : ∃ D, D = byv (kdig f) := ⟨_, rfl⟩
  have HD := Lib.hid hD
  have HDK := Lib.hid (show DOk D by rw [hD]; exact dok _ (kdig_length _))
  obtain ⟨M, hM⟩ : ∃ M, M = byv (macn f s a b) := ⟨_, rfl⟩
  have HM := Lib.hid hM
  have HMK := Lib.hid (show DOk M by rw [hM]; exact dok _ (macn_length _ _ _ _))
  obtain ⟨F, hF⟩ : ∃ T, T = txt (be 8 f) := ⟨_, rfl⟩
  obtain ⟨S, hS⟩ : ∃ T, T = txt (be 8 s) := ⟨_, rfl⟩
  have hFs : F.size = 8 := by rw [hF]; exact be_len 8 f
  have hSs : S.size = 8 := by rw [hS]; exact be_len 8 s
  obtain ⟨K, hK⟩ : ∃ K, K = F ++ S := ⟨_, rfl⟩
  have hKs : K.size = 16 := by rw [hK, ByteArray.size_append]; omega
  obtain ⟨A, hA⟩ : ∃ T, T = txt (be 4 a) := ⟨_, rfl⟩
  have hAs : A.size = 4 := by rw [hA]; exact be_len 4 a
  obtain ⟨X, hX⟩ : ∃ X, X = A ++ txt (be 4 b) := ⟨_, rfl⟩
  have hXs : X.size = 8 := by rw [hX, ByteArray.size_append, hAs, be_len]
  have HMC := Lib.hid (show M = byv (code K.data.toList X.data.toList) by rw [hM, hK, hF, hS, hX, hA, macn, mac]; simp)
  have HPA := Lib.hid (show (⟨#[]⟩ : ByteArray) ++ ⟨(be 4 a).toArray⟩ = A by rw [none_and, hA])
  have HPX := Lib.hid (show A ++ ⟨(be 4 b).toArray⟩ = X from hX.symm)
  obtain ⟨P4, hP4⟩ : ∃ T, T = txt ((kdig f).take 4) := ⟨_, rfl⟩
  obtain ⟨P8, hP8⟩ : ∃ T, T = txt ((kdig f).drop 24) := ⟨_, rfl⟩
  have HP4 := Lib.hid (show (⟨#[]⟩ : ByteArray) ++ ⟨(be 4 (tok f)).toArray⟩ = P4 by rw [none_and, hP4, tok_bytes])
  have HP8 := Lib.hid (show (⟨#[]⟩ : ByteArray) ++ ⟨(be 8 (idsn f)).toArray⟩ = P8 by rw [none_and, hP8, idsn_bytes])
  obtain ⟨T, hT⟩ : ∃ T, T = txt ((macn f s a b).take 8) := ⟨_, rfl⟩
  have HT8 := Lib.hid hT
  have hTs : T.size = 8 := by rw [hT]; simp [ByteArray.size, macn_length]
  obtain ⟨U, hU⟩ : ∃ U, U = txt ((macn f s a b).take 20) := ⟨_, rfl⟩
  have HT20 := Lib.hid hU
  have hUs : U.size = 20 := by rw [hU]; simp [ByteArray.size, macn_length]
  have hUT : U.extract 0 8 = T := by
    apply ByteArray.ext
    rw [hT, hU]
    apply Array.toList_inj.1
    simp [ByteArray.data_extract, List.take_take]
  have HUT := Lib.hid hUT
  have HTL := Lib.hid (show ∀ W, Calls Tryd.prog 27 #[.agg M, .int .i64 20] W fun e w' => e = .returned (.string U) ∧ Below W.heap.size W w' from fun W => by
    have h := Left_any (macn f s a b) (macn_length _ _ _ _) 20 (by decide) (by decide) W
    rw [← hM, show cl 20 = 20 from rfl, ← hU] at h
    exact h)
  have HF := Lib.hid hF
  have HS := Lib.hid hS
  have HKE := Lib.hid hK
  have HP4T := Lib.hid hP4
  have HP8T := Lib.hid hP8
  obtain ⟨w0, hw0⟩ : ∃ w0, w0 = w.alloc (.cells #[.int .u64 (f : Int), .int .u64 (s : Int), .int .u32 (a : Int), .int .u32 (b : Int)] 30) := ⟨_, rfl⟩
  have b0 : Below w.heap.size w w0 := by rw [hw0]; exact (Below.refl _ _).alloc (Nat.le_refl _) _
  have n0 : Blk w0 w.heap.size 30 #[.int .u64 (f : Int), .int .u64 (s : Int), .int .u32 (a : Int), .int .u32 (b : Int)] := by rw [hw0]; exact Blk.new _ _ _
  have HP0 := Lib.hid n0
  have HB0 := Lib.hid b0
  have HT := Lib.hid ht
  have ew0 := hw0.symm
  clear hz32 ht hD hM hT hU hUT n0 b0 hw0 hF hS hK hA hX hP4 hP8
  go_enter Tryd.func6, Tryd.ntmps6
  go_wp2_with fail
  refine (works_t w0 (HT.out.below HB0.out)).mono ?_
  rintro e W1 ⟨rfl, b1⟩
  have n1 := HP0.out.below b1 HP0.out.lt
  have HP1 := Lib.hid n1
  have HB1 := Lib.hid (HB0.out.trans (b1.mono HB0.out.size))
  have c0 := n1.cell 0
  clear b1 HB0 HP0 ew0 n1
  go_wp2_with fail
  refine (Bytes_any f hf F HF.out W1).mono ?_
  rintro e W2 ⟨rfl, b2⟩
  have HP2 := Lib.hid (HP1.out.below b2 HP1.out.lt)
  have HB2 := Lib.hid (HB1.out.trans (b2.mono HB1.out.size))
  clear b2 HB1 HP1 c0
  go_wp2_with fail
  refine (SumL F _ D W2 rfl (by rw [HD.out, HF.out, kdig]) (HT.out.below HB2.out) (by rw [len_data]; omega)).mono ?_
  rintro e W3 ⟨rfl, b3⟩
  have n3 := Blk.new W3 32 z32
  obtain ⟨W4, hW4⟩ : ∃ W4, W4 = (W3.alloc (.cells z32 32)).setRow W3.heap.size D := ⟨_, rfl⟩
  have hbk : Blk W4 W3.heap.size 32 D := by rw [hW4]; exact setRow_heap _ _ _ _ _ _ n3
  have b4 : Below W3.heap.size W3 W4 := by rw [hW4]; exact below_setRow ((Below.refl _ W3).alloc (Nat.le_refl _) _) (Nat.le_refl _) _
  have bb := b3.trans (b4.mono b3.size)
  have n4 := HP2.out.below bb HP2.out.lt
  have c0 := n4.cell 0
  have HP4B := Lib.hid n4
  have HB4 := Lib.hid (HB2.out.trans (bb.mono HB2.out.size))
  have HN3 := Lib.hid n3
  have HDO := Lib.hid (show z32.size = D.size by rw [HZK.out.size, HDK.out.size])
  have HW4 := Lib.hid hW4
  obtain ⟨g, hg⟩ : ∃ g, g = W3.heap.size := ⟨_, rfl⟩
  rw [← hg] at hbk
  have HG := Lib.hid hg
  have HKD4 := Lib.hid hbk
  clear n3 n4 hW4 hbk b3 b4 bb hg HB2 HP2
  go_upto_region 4 with (refine wpList_store_row rfl 32 (.tmp 3) (.tmp 16) rfl W3.heap.size D rfl rfl 32 z32 HN3.out HDK.out.info HDO.out HDK.out.one ?_)
  rw [← HW4.out, ← HG.out]
  clear HW4 HG HN3
  go_wp2_with fail
  refine (Token_any f hf W4 (HT.out.below HB4.out)).mono ?_
  rintro e W5 ⟨rfl, b5⟩
  have n5 := HP4B.out.below b5 HP4B.out.lt
  have HP5 := Lib.hid n5
  have HKD5 := Lib.hid (HKD4.out.below b5 HKD4.out.lt)
  have HB5 := Lib.hid (HB4.out.trans (b5.mono HB4.out.size))
  clear b5 n5 HP4B HKD4 HB4 c0
  go_wp2_with fail
  refine (answer (Put32_any ⟨#[]⟩ (tok f) W5 (by decide) (tok_le f)) (congrArg Value.string HP4.out)).mono ?_
  rintro e W6 ⟨rfl, b6⟩
  have n6 := HP5.out.below b6 HP5.out.lt
  have HP6 := Lib.hid n6
  have HKD6 := Lib.hid (HKD5.out.below b6 HKD5.out.lt)
  have HB6 := Lib.hid (HB5.out.trans (b6.mono HB5.out.size))
  have c0 := n6.cell 0
  clear b6 n6 HP5 HKD5 HB5
  go_wp2_with fail
  refine (Idsn_any f hf W6 (HT.out.below HB6.out)).mono ?_
  rintro e W7 ⟨rfl, b7⟩
  have HP7 := Lib.hid (HP6.out.below b7 HP6.out.lt)
  have HKD7 := Lib.hid (HKD6.out.below b7 HKD6.out.lt)
  have HB7 := Lib.hid (HB6.out.trans (b7.mono HB6.out.size))
  clear b7 HP6 HKD6 HB6 c0
  go_wp2_with fail
  refine (answer (Put64_any ⟨#[]⟩ (idsn f) W7 (by decide) (idsn_le f)) (congrArg Value.string HP8.out)).mono ?_
  rintro e V ⟨rfl, b8⟩
  have HPV := Lib.hid (HP7.out.below b8 HP7.out.lt)
  have HKDV := Lib.hid (HKD7.out.below b8 HKD7.out.lt)
  have HBV := Lib.hid (HB7.out.trans (b8.mono HB7.out.size))
  clear b8 HP7 HKD7 HB7
  go_upto_region 6 with fail
  go_cut [6] (fun x wx => x = .string X ∧ Below V.heap.size V wx)
  case first =>
    have B0 : Below V.heap.size V V.drew := (Below.refl _ V).drew
    refine held_start (fun W => Below V.heap.size V W) (by kernel_rfl) (n := 7) rfl ?_
    obtain ⟨W0, hW0⟩ : ∃ W0, W0 = V.drew := ⟨_, rfl⟩
    rw [← hW0] at B0 ⊢
    clear hW0
    refine held_free 0 (.pointer (some ⟨w.heap.size, 2, none⟩)) rfl (by kernel_rfl) (by kernel_rfl) (by kernel_rfl) (by kernel_rfl) B0 (fun _ _ => ex_field (v := .pointer (some ⟨w.heap.size, 0, none⟩)) 30 (.tmp 1) 2 (by kernel_rfl) (by kernel_rfl) (by kernel_rfl)) ?_
    refine held_free 1 (.int .u32 (a : Int)) rfl (by kernel_rfl) (by kernel_rfl) (by kernel_rfl) (by kernel_rfl) B0 (fun W b => ex_load 24 (.tmp 25) (by kernel_rfl) ⟨w.heap.size, 2, none⟩ (by kernel_rfl) (by kernel_rfl) ((HPV.out.below b HPV.out.lt).cell 2)) ?_
    refine held_free 3 (.pointer (some ⟨w.heap.size, 3, none⟩)) rfl (by kernel_rfl) (by kernel_rfl) (by kernel_rfl) (by kernel_rfl) B0 (fun _ _ => ex_field (v := .pointer (some ⟨w.heap.size, 0, none⟩)) 30 (.tmp 1) 3 (by kernel_rfl) (by kernel_rfl) (by kernel_rfl)) ?_
    refine held_free 4 (.int .u32 (b : Int)) rfl (by kernel_rfl) (by kernel_rfl) (by kernel_rfl) (by kernel_rfl) B0 (fun W b => ex_load 24 (.tmp 28) (by kernel_rfl) ⟨w.heap.size, 3, none⟩ (by kernel_rfl) (by kernel_rfl) ((HPV.out.below b HPV.out.lt).cell 3)) ?_
    refine held_call 2 rfl (by kernel_rfl) (by kernel_rfl) (by kernel_rfl) (answer (Put32_any ⟨#[]⟩ a _ (by decide) ha) (congrArg Value.string HPA.out)) (fun w' h => bel_in B0 h) ?_
    intro W1 hW1
    have B1 := bel_in B0 hW1
    clear hW1 B0
    refine held_call 5 rfl (by kernel_rfl) (by kernel_rfl) (by kernel_rfl) (answer (Put32_any A b _ (by omega) hb) (congrArg Value.string HPX.out)) (fun w' h => bel_in B1 h) ?_
    intro W2 hW2
    have B2 := bel_in B1 hW2
    clear hW2 B1
    refine held_free 6 (.string X) rfl (by kernel_rfl) (by kernel_rfl) (by kernel_rfl) (by kernel_rfl) B2 (fun _ _ => by kernel_rfl) ?_
    refine held_end_at ⟨#[Value.agg #[Value.int IntKind.u64 ↑f, Value.int IntKind.u64 ↑s, Value.int IntKind.u32 ↑a, Value.int IntKind.u32 ↑b], .pointer (some ⟨w.heap.size, 0, none⟩), Value.bool false, Value.pointer (some { block := g, off := 0 }), Value.string P4, Value.string P8, .string X, undef, undef, undef, undef, Value.bool true, Value.bool false, Value.pointer (some { block := w.heap.size, off := 0 }), Value.int IntKind.u64 ↑f, Value.string F, Value.agg D, Value.pointer (some { block := w.heap.size, off := 0 }), Value.int IntKind.u64 ↑f, Value.int IntKind.u32 ↑(tok f), Value.string P4, Value.pointer (some { block := w.heap.size, off := 0 }), Value.int IntKind.u64 ↑f, Value.int IntKind.u64 ↑(idsn f), Value.string P8, .pointer (some ⟨w.heap.size, 2, none⟩), .int .u32 (a : Int), .string A, .pointer (some ⟨w.heap.size, 3, none⟩), .int .u32 (b : Int), .string X, undef, undef, undef, undef, undef, undef, undef, undef, undef, undef, undef, undef, undef, undef, undef, undef, undef, undef, undef, undef, undef, undef, undef, undef, undef, undef, undef, undef, undef, undef, undef, undef, undef, undef, undef, undef, undef, undef, undef, undef, undef, undef, undef, undef, undef, undef, undef, undef, undef, undef, undef, undef, undef, undef, undef, undef, undef, undef, undef, undef, undef, undef, undef, undef, undef, undef, undef, undef, undef, undef, undef, undef, undef, undef, undef, undef, undef, undef, undef, undef], []⟩ (by kernel_rfl) (by kernel_rfl) ?_
    go_wp2_with fail
    go_meet
    exact ⟨rfl, B2⟩
  case rest =>
    obtain ⟨rfl, hb6⟩ := hcut
    obtain ⟨V2, hV2⟩ : ∃ V2, V2 = wc := ⟨_, rfl⟩
    rw [← hV2] at hb6 ⊢
    have HPW := Lib.hid (HPV.out.below hb6 HPV.out.lt)
    have HKDW := Lib.hid (HKDV.out.below hb6 HKDV.out.lt)
    have HBW := Lib.hid (HBV.out.trans (hb6.mono HBV.out.size))
    have HTW := Lib.hid (HT.out.below HBW.out)
    clear hb6 hV2 HPV HKDV HBV
    have HMO := Lib.hid (show z32.size = M.size by rw [HZK.out.size, HMK.out.size])
    go_upto_region 7 with fail
    go_cut [7] (fun x wx => ∃ gm, x = .pointer (some ⟨gm, 0, none⟩) ∧ V2.heap.size ≤ gm ∧ Blk wx gm 32 M ∧ Below V2.heap.size V2 wx)
    case first =>
      have B0 : Below V2.heap.size V2 V2.drew := (Below.refl _ V2).drew
      refine walk_start 10 (fun W => Below V2.heap.size V2 W) (by kernel_rfl) (n := 11) rfl ?_
      obtain ⟨W0, hW0⟩ : ∃ W0, W0 = V2.drew := ⟨_, rfl⟩
      rw [← hW0] at B0 ⊢
      clear hW0
      refine walk_free 0 (.pointer (some ⟨w.heap.size, 0, none⟩)) rfl (by kernel_rfl) (by kernel_rfl) (by kernel_rfl) (by kernel_rfl) (by kernel_rfl) (by kernel_rfl) B0 (fun _ _ => ex_field (v := .pointer (some ⟨w.heap.size, 0, none⟩)) 30 (.tmp 1) 0 (by kernel_rfl) (by kernel_rfl) (by kernel_rfl)) ?_
      refine walk_free 1 (.int .u64 (f : Int)) rfl (by kernel_rfl) (by kernel_rfl) (by kernel_rfl) (by kernel_rfl) (by kernel_rfl) (by kernel_rfl) B0 (fun W b => ex_load 22 (.tmp 31) (by kernel_rfl) ⟨w.heap.size, 0, none⟩ (by kernel_rfl) (by kernel_rfl) ((HPW.out.below b HPW.out.lt).cell 0)) ?_
      refine walk_free 3 (.pointer (some ⟨w.heap.size, 1, none⟩)) rfl (by kernel_rfl) (by kernel_rfl) (by kernel_rfl) (by kernel_rfl) (by kernel_rfl) (by kernel_rfl) B0 (fun _ _ => ex_field (v := .pointer (some ⟨w.heap.size, 0, none⟩)) 30 (.tmp 1) 1 (by kernel_rfl) (by kernel_rfl) (by kernel_rfl)) ?_
      refine walk_free 4 (.int .u64 (s : Int)) rfl (by kernel_rfl) (by kernel_rfl) (by kernel_rfl) (by kernel_rfl) (by kernel_rfl) (by kernel_rfl) B0 (fun W b => ex_load 22 (.tmp 34) (by kernel_rfl) ⟨w.heap.size, 1, none⟩ (by kernel_rfl) (by kernel_rfl) ((HPW.out.below b HPW.out.lt).cell 1)) ?_
      refine walk_free 7 (.string X) rfl (by kernel_rfl) (by kernel_rfl) (by kernel_rfl) (by kernel_rfl) (by kernel_rfl) (by kernel_rfl) B0 (fun _ _ => by kernel_rfl) ?_
      refine walk_two 2 9 (by kernel_rfl) ?_ ?_
      · refine do_call 2 rfl (by kernel_rfl) (by kernel_rfl) (Bytes_any f hf F HF.out _) (fun w' h => bel_in B0 h) ?_
        intro W1 hW1
        have B1 := bel_in B0 hW1
        clear hW1 B0
        refine walk_two 5 9 (by kernel_rfl) ?_ ?_
        · refine do_call 5 rfl (by kernel_rfl) (by kernel_rfl) (Bytes_any s hs S HS.out _) (fun w' h => bel_in B1 h) ?_
          intro W2 hW2
          have B2 := bel_in B1 hW2
          clear hW2 B1
          refine walk_free 6 (.string K) rfl (by kernel_rfl) (by kernel_rfl) (by kernel_rfl) (by kernel_rfl) (by kernel_rfl) (by kernel_rfl) B2 (fun _ _ => ex_strcat 9 9 (.tmp 33) (.tmp 36) (by kernel_rfl) (F) (S) K (by kernel_rfl) (by kernel_rfl) (by omega) (by omega) HKE.out) ?_
          refine walk_two 8 9 (by kernel_rfl) ?_ ?_
          · refine do_call 8 rfl (by kernel_rfl) (by kernel_rfl) (Of_any K X M HMC.out _ (HTW.out.below B2) (by omega) (by omega)) (fun w' h => bel_in B2 h) ?_
            intro W3 hW3
            have B3 := bel_in B2 hW3
            clear hW3 B2
            obtain ⟨W4, hW4⟩ : ∃ w', w' = W3.alloc (.cells z32 32) := ⟨_, rfl⟩
            have N4_4 : Blk W4 W3.heap.size 32 z32 := by rw [hW4]; exact Blk.new _ _ _
            have B4 : Below V2.heap.size V2 W4 := by rw [hW4]; exact B3.alloc B3.size _
            have L4 : V2.heap.size ≤ W3.heap.size := B3.size
            refine walk_one 9 (by kernel_rfl) (do_lone (v := .pointer (some ⟨W3.heap.size, 0, none⟩)) (w' := W4) 9 rfl (by kernel_rfl) (by rw [hW4]; exact ex_alloc 32 z32 (by kernel_rfl) hdz) B4 ?_)
            clear hW4
            refine walk_one 10 (by kernel_rfl) (do_last 10 rfl (by kernel_rfl) (ex_store_row 32 (.tmp 7) (.tmp 39) (by kernel_rfl) (W3.heap.size) M (by kernel_rfl) (by kernel_rfl) 32 z32 N4_4 HMK.out.info HMO.out HMK.out.one) (by kernel_rfl) ?_)
            refine walk_end_at ⟨#[Value.agg #[Value.int IntKind.u64 ↑f, Value.int IntKind.u64 ↑s, Value.int IntKind.u32 ↑a, Value.int IntKind.u32 ↑b], .pointer (some ⟨w.heap.size, 0, none⟩), Value.bool false, Value.pointer (some { block := g, off := 0 }), Value.string P4, Value.string P8, .string X, .pointer (some ⟨W3.heap.size, 0, none⟩), undef, undef, undef, u11, u12, u13, u14, u15, u16, u17, u18, u19, u20, u21, u22, u23, u24, u25, u26, u27, u28, u29, u30, .pointer (some ⟨w.heap.size, 0, none⟩), .int .u64 (f : Int), .string F, .pointer (some ⟨w.heap.size, 1, none⟩), .int .u64 (s : Int), .string S, .string K, .string X, .agg M, u40, u41, u42, u43, u44, u45, u46, u47, u48, u49, u50, u51, u52, u53, u54, u55, u56, u57, u58, u59, u60, u61, u62, u63, u64, u65, u66, u67, u68, u69, u70, u71, u72, u73, u74, u75, u76, u77, u78, u79, u80, u81, u82, u83, u84, u85, u86, u87, u88, u89, u90, u91, u92, u93, u94, u95, u96, u97, u98, u99, u100, u101, u102, u103, u104, u105, u106, u107, u108, u109, u110], []⟩ (by kernel_rfl) (by kernel_rfl) ?_
            have HE := Lib.hid (show V2.heap.size ≤ W3.heap.size ∧ Blk (W4.setRow W3.heap.size M) W3.heap.size 32 M ∧ Below V2.heap.size V2 (W4.setRow W3.heap.size M) from ⟨L4, setRow_heap _ _ _ _ _ _ N4_4, below_setRow B4 L4 M⟩)
            clear N4_4
            go_wp2_with fail
            go_meet
            exact ⟨_, rfl, HE.out⟩
          · obtain ⟨W3, hW3⟩ : ∃ w', w' = W2.alloc (.cells z32 32) := ⟨_, rfl⟩
            have N3_3 : Blk W3 W2.heap.size 32 z32 := by rw [hW3]; exact Blk.new _ _ _
            have B3 : Below V2.heap.size V2 W3 := by rw [hW3]; exact B2.alloc B2.size _
            have L3 : V2.heap.size ≤ W2.heap.size := B2.size
            refine do_lone (v := .pointer (some ⟨W2.heap.size, 0, none⟩)) (w' := W3) 9 rfl (by kernel_rfl) (by rw [hW3]; exact ex_alloc 32 z32 (by kernel_rfl) hdz) B3 ?_
            clear hW3
            refine walk_one 8 (by kernel_rfl) (do_call 8 rfl (by kernel_rfl) (by kernel_rfl) (Of_any K X M HMC.out _ (HTW.out.below B3) (by omega) (by omega)) (fun w' h => bel_in B3 h) ?_)
            intro W4 hW4
            have B4 := bel_in B3 hW4
            have N3_4 := N3_3.below hW4 N3_3.lt
            clear hW4 B3 N3_3
            refine walk_one 10 (by kernel_rfl) (do_last 10 rfl (by kernel_rfl) (ex_store_row 32 (.tmp 7) (.tmp 39) (by kernel_rfl) (W2.heap.size) M (by kernel_rfl) (by kernel_rfl) 32 z32 N3_4 HMK.out.info HMO.out HMK.out.one) (by kernel_rfl) ?_)
            refine walk_end_at ⟨#[Value.agg #[Value.int IntKind.u64 ↑f, Value.int IntKind.u64 ↑s, Value.int IntKind.u32 ↑a, Value.int IntKind.u32 ↑b], .pointer (some ⟨w.heap.size, 0, none⟩), Value.bool false, Value.pointer (some { block := g, off := 0 }), Value.string P4, Value.string P8, .string X, .pointer (some ⟨W2.heap.size, 0, none⟩), undef, undef, undef, u11, u12, u13, u14, u15, u16, u17, u18, u19, u20, u21, u22, u23, u24, u25, u26, u27, u28, u29, u30, .pointer (some ⟨w.heap.size, 0, none⟩), .int .u64 (f : Int), .string F, .pointer (some ⟨w.heap.size, 1, none⟩), .int .u64 (s : Int), .string S, .string K, .string X, .agg M, u40, u41, u42, u43, u44, u45, u46, u47, u48, u49, u50, u51, u52, u53, u54, u55, u56, u57, u58, u59, u60, u61, u62, u63, u64, u65, u66, u67, u68, u69, u70, u71, u72, u73, u74, u75, u76, u77, u78, u79, u80, u81, u82, u83, u84, u85, u86, u87, u88, u89, u90, u91, u92, u93, u94, u95, u96, u97, u98, u99, u100, u101, u102, u103, u104, u105, u106, u107, u108, u109, u110], []⟩ (by kernel_rfl) (by kernel_rfl) ?_
            have HE := Lib.hid (show V2.heap.size ≤ W2.heap.size ∧ Blk (W4.setRow W2.heap.size M) W2.heap.size 32 M ∧ Below V2.heap.size V2 (W4.setRow W2.heap.size M) from ⟨L3, setRow_heap _ _ _ _ _ _ N3_4, below_setRow B4 L3 M⟩)
            clear N3_4
            go_wp2_with fail
            go_meet
            exact ⟨_, rfl, HE.out⟩
        · obtain ⟨W2, hW2⟩ : ∃ w', w' = W1.alloc (.cells z32 32) := ⟨_, rfl⟩
          have N2_2 : Blk W2 W1.heap.size 32 z32 := by rw [hW2]; exact Blk.new _ _ _
          have B2 : Below V2.heap.size V2 W2 := by rw [hW2]; exact B1.alloc B1.size _
          have L2 : V2.heap.size ≤ W1.heap.size := B1.size
          refine do_lone (v := .pointer (some ⟨W1.heap.size, 0, none⟩)) (w' := W2) 9 rfl (by kernel_rfl) (by rw [hW2]; exact ex_alloc 32 z32 (by kernel_rfl) hdz) B2 ?_
          clear hW2
          refine walk_one 5 (by kernel_rfl) (do_call 5 rfl (by kernel_rfl) (by kernel_rfl) (Bytes_any s hs S HS.out _) (fun w' h => bel_in B2 h) ?_)
          intro W3 hW3
          have B3 := bel_in B2 hW3
          have N2_3 := N2_2.below hW3 N2_2.lt
          clear hW3 B2 N2_2
          refine walk_free 6 (.string K) rfl (by kernel_rfl) (by kernel_rfl) (by kernel_rfl) (by kernel_rfl) (by kernel_rfl) (by kernel_rfl) B3 (fun _ _ => ex_strcat 9 9 (.tmp 33) (.tmp 36) (by kernel_rfl) (F) (S) K (by kernel_rfl) (by kernel_rfl) (by omega) (by omega) HKE.out) ?_
          refine walk_one 8 (by kernel_rfl) (do_call 8 rfl (by kernel_rfl) (by kernel_rfl) (Of_any K X M HMC.out _ (HTW.out.below B3) (by omega) (by omega)) (fun w' h => bel_in B3 h) ?_)
          intro W4 hW4
          have B4 := bel_in B3 hW4
          have N2_4 := N2_3.below hW4 N2_3.lt
          clear hW4 B3 N2_3
          refine walk_one 10 (by kernel_rfl) (do_last 10 rfl (by kernel_rfl) (ex_store_row 32 (.tmp 7) (.tmp 39) (by kernel_rfl) (W1.heap.size) M (by kernel_rfl) (by kernel_rfl) 32 z32 N2_4 HMK.out.info HMO.out HMK.out.one) (by kernel_rfl) ?_)
          refine walk_end_at ⟨#[Value.agg #[Value.int IntKind.u64 ↑f, Value.int IntKind.u64 ↑s, Value.int IntKind.u32 ↑a, Value.int IntKind.u32 ↑b], .pointer (some ⟨w.heap.size, 0, none⟩), Value.bool false, Value.pointer (some { block := g, off := 0 }), Value.string P4, Value.string P8, .string X, .pointer (some ⟨W1.heap.size, 0, none⟩), undef, undef, undef, u11, u12, u13, u14, u15, u16, u17, u18, u19, u20, u21, u22, u23, u24, u25, u26, u27, u28, u29, u30, .pointer (some ⟨w.heap.size, 0, none⟩), .int .u64 (f : Int), .string F, .pointer (some ⟨w.heap.size, 1, none⟩), .int .u64 (s : Int), .string S, .string K, .string X, .agg M, u40, u41, u42, u43, u44, u45, u46, u47, u48, u49, u50, u51, u52, u53, u54, u55, u56, u57, u58, u59, u60, u61, u62, u63, u64, u65, u66, u67, u68, u69, u70, u71, u72, u73, u74, u75, u76, u77, u78, u79, u80, u81, u82, u83, u84, u85, u86, u87, u88, u89, u90, u91, u92, u93, u94, u95, u96, u97, u98, u99, u100, u101, u102, u103, u104, u105, u106, u107, u108, u109, u110], []⟩ (by kernel_rfl) (by kernel_rfl) ?_
          have HE := Lib.hid (show V2.heap.size ≤ W1.heap.size ∧ Blk (W4.setRow W1.heap.size M) W1.heap.size 32 M ∧ Below V2.heap.size V2 (W4.setRow W1.heap.size M) from ⟨L2, setRow_heap _ _ _ _ _ _ N2_4, below_setRow B4 L2 M⟩)
          clear N2_4
          go_wp2_with fail
          go_meet
          exact ⟨_, rfl, HE.out⟩
      · obtain ⟨W1, hW1⟩ : ∃ w', w' = W0.alloc (.cells z32 32) := ⟨_, rfl⟩
        have N1_1 : Blk W1 W0.heap.size 32 z32 := by rw [hW1]; exact Blk.new _ _ _
        have B1 : Below V2.heap.size V2 W1 := by rw [hW1]; exact B0.alloc B0.size _
        have L1 : V2.heap.size ≤ W0.heap.size := B0.size
        refine do_lone (v := .pointer (some ⟨W0.heap.size, 0, none⟩)) (w' := W1) 9 rfl (by kernel_rfl) (by rw [hW1]; exact ex_alloc 32 z32 (by kernel_rfl) hdz) B1 ?_
        clear hW1
        refine walk_one 2 (by kernel_rfl) (do_call 2 rfl (by kernel_rfl) (by kernel_rfl) (Bytes_any f hf F HF.out _) (fun w' h => bel_in B1 h) ?_)
        intro W2 hW2
        have B2 := bel_in B1 hW2
        have N1_2 := N1_1.below hW2 N1_1.lt
        clear hW2 B1 N1_1
        refine walk_one 5 (by kernel_rfl) (do_call 5 rfl (by kernel_rfl) (by kernel_rfl) (Bytes_any s hs S HS.out _) (fun w' h => bel_in B2 h) ?_)
        intro W3 hW3
        have B3 := bel_in B2 hW3
        have N1_3 := N1_2.below hW3 N1_2.lt
        clear hW3 B2 N1_2
        refine walk_free 6 (.string K) rfl (by kernel_rfl) (by kernel_rfl) (by kernel_rfl) (by kernel_rfl) (by kernel_rfl) (by kernel_rfl) B3 (fun _ _ => ex_strcat 9 9 (.tmp 33) (.tmp 36) (by kernel_rfl) (F) (S) K (by kernel_rfl) (by kernel_rfl) (by omega) (by omega) HKE.out) ?_
        refine walk_one 8 (by kernel_rfl) (do_call 8 rfl (by kernel_rfl) (by kernel_rfl) (Of_any K X M HMC.out _ (HTW.out.below B3) (by omega) (by omega)) (fun w' h => bel_in B3 h) ?_)
        intro W4 hW4
        have B4 := bel_in B3 hW4
        have N1_4 := N1_3.below hW4 N1_3.lt
        clear hW4 B3 N1_3
        refine walk_one 10 (by kernel_rfl) (do_last 10 rfl (by kernel_rfl) (ex_store_row 32 (.tmp 7) (.tmp 39) (by kernel_rfl) (W0.heap.size) M (by kernel_rfl) (by kernel_rfl) 32 z32 N1_4 HMK.out.info HMO.out HMK.out.one) (by kernel_rfl) ?_)
        refine walk_end_at ⟨#[Value.agg #[Value.int IntKind.u64 ↑f, Value.int IntKind.u64 ↑s, Value.int IntKind.u32 ↑a, Value.int IntKind.u32 ↑b], .pointer (some ⟨w.heap.size, 0, none⟩), Value.bool false, Value.pointer (some { block := g, off := 0 }), Value.string P4, Value.string P8, .string X, .pointer (some ⟨W0.heap.size, 0, none⟩), undef, undef, undef, u11, u12, u13, u14, u15, u16, u17, u18, u19, u20, u21, u22, u23, u24, u25, u26, u27, u28, u29, u30, .pointer (some ⟨w.heap.size, 0, none⟩), .int .u64 (f : Int), .string F, .pointer (some ⟨w.heap.size, 1, none⟩), .int .u64 (s : Int), .string S, .string K, .string X, .agg M, u40, u41, u42, u43, u44, u45, u46, u47, u48, u49, u50, u51, u52, u53, u54, u55, u56, u57, u58, u59, u60, u61, u62, u63, u64, u65, u66, u67, u68, u69, u70, u71, u72, u73, u74, u75, u76, u77, u78, u79, u80, u81, u82, u83, u84, u85, u86, u87, u88, u89, u90, u91, u92, u93, u94, u95, u96, u97, u98, u99, u100, u101, u102, u103, u104, u105, u106, u107, u108, u109, u110], []⟩ (by kernel_rfl) (by kernel_rfl) ?_
        have HE := Lib.hid (show V2.heap.size ≤ W0.heap.size ∧ Blk (W4.setRow W0.heap.size M) W0.heap.size 32 M ∧ Below V2.heap.size V2 (W4.setRow W0.heap.size M) from ⟨L1, setRow_heap _ _ _ _ _ _ N1_4, below_setRow B4 L1 M⟩)
        clear N1_4
        go_wp2_with fail
        go_meet
        exact ⟨_, rfl, HE.out⟩
    case rest =>
      obtain ⟨gm, rfl, hgm, hkm, hb7⟩ := hcut
      obtain ⟨V3, hV3⟩ : ∃ V3, V3 = wc := ⟨_, rfl⟩
      rw [← hV3] at hb7 hkm ⊢
      have n3 := HPW.out.below hb7 HPW.out.lt
      have HPX' := Lib.hid n3
      have HKDX := Lib.hid (HKDW.out.below hb7 HKDW.out.lt)
      have HKMX := Lib.hid hkm
      have HBX := Lib.hid (HBW.out.trans (hb7.mono HBW.out.size))
      have HTX := Lib.hid (HT.out.below HBX.out)
      have c0 := n3.cell 0
      have c1 := n3.cell 1
      have c2 := n3.cell 2
      have c3 := n3.cell 3
      clear hb7 hV3 hkm hgm n3 HPW HKDW HBW HTW
      go_wp2_with fail
      refine (Mac_any f s hf hs a b ha hb M HM.out V3 HTX.out).mono ?_
      rintro e Y1 ⟨rfl, b1⟩
      have n1 := Blk.new Y1 32 z32
      obtain ⟨V4, hV4⟩ : ∃ V4, V4 = (Y1.alloc (.cells z32 32)).setRow Y1.heap.size M := ⟨_, rfl⟩
      have hbk : Blk V4 Y1.heap.size 32 M := by rw [hV4]; exact setRow_heap _ _ _ _ _ _ n1
      have b2 : Below Y1.heap.size Y1 V4 := by rw [hV4]; exact below_setRow ((Below.refl _ Y1).alloc (Nat.le_refl _) _) (Nat.le_refl _) _
      have bb := b1.trans (b2.mono b1.size)
      have HPZ := Lib.hid (HPX'.out.below bb HPX'.out.lt)
      have HKDZ := Lib.hid (HKDX.out.below bb HKDX.out.lt)
      have HKMZ := Lib.hid (HKMX.out.below bb HKMX.out.lt)
      have HBZ := Lib.hid (HBX.out.trans (bb.mono HBX.out.size))
      have HTZ := Lib.hid (HT.out.below HBZ.out)
      have HN1 := Lib.hid n1
      have HVE := Lib.hid hV4
      obtain ⟨gq, hgq⟩ : ∃ gq, gq = Y1.heap.size := ⟨_, rfl⟩
      rw [← hgq] at hbk
      have HG := Lib.hid hgq
      have HKQZ := Lib.hid hbk
      clear n1 hV4 hbk b1 b2 bb hgq c0 c1 c2 c3 HPX' HKDX HKMX HBX HTX
      go_upto_region 9 with (refine wpList_store_row rfl 32 (.tmp 8) (.tmp 48) rfl Y1.heap.size M rfl rfl 32 z32 HN1.out HMK.out.info HMO.out HMK.out.one ?_)
      rw [← HVE.out, ← HG.out]
      clear HVE HG HN1
      rw [put_none]
      go_cut [9, 10] (fun x y wx => x = .string U ∧ y = .string T ∧ Below V4.heap.size V4 wx)
      case first =>
        have B0 : Below V4.heap.size V4 V4.drew := (Below.refl _ V4).drew
        refine held_start (fun W => Below V4.heap.size V4 W) (by kernel_rfl) (n := 20) rfl ?_
        obtain ⟨W0, hW0⟩ : ∃ W0, W0 = V4.drew := ⟨_, rfl⟩
        rw [← hW0] at B0 ⊢
        clear hW0
        refine held_free 0 (.pointer (some ⟨w.heap.size, 0, none⟩)) rfl (by kernel_rfl) (by kernel_rfl) (by kernel_rfl) (by kernel_rfl) B0 (fun _ _ => ex_field (v := .pointer (some ⟨w.heap.size, 0, none⟩)) 30 (.tmp 1) 0 (by kernel_rfl) (by kernel_rfl) (by kernel_rfl)) ?_
        refine held_free 1 (.int .u64 (f : Int)) rfl (by kernel_rfl) (by kernel_rfl) (by kernel_rfl) (by kernel_rfl) B0 (fun W b => ex_load 22 (.tmp 49) (by kernel_rfl) ⟨w.heap.size, 0, none⟩ (by kernel_rfl) (by kernel_rfl) ((HPZ.out.below b HPZ.out.lt).cell 0)) ?_
        refine held_free 2 (.pointer (some ⟨w.heap.size, 1, none⟩)) rfl (by kernel_rfl) (by kernel_rfl) (by kernel_rfl) (by kernel_rfl) B0 (fun _ _ => ex_field (v := .pointer (some ⟨w.heap.size, 0, none⟩)) 30 (.tmp 1) 1 (by kernel_rfl) (by kernel_rfl) (by kernel_rfl)) ?_
        refine held_free 3 (.int .u64 (s : Int)) rfl (by kernel_rfl) (by kernel_rfl) (by kernel_rfl) (by kernel_rfl) B0 (fun W b => ex_load 22 (.tmp 51) (by kernel_rfl) ⟨w.heap.size, 1, none⟩ (by kernel_rfl) (by kernel_rfl) ((HPZ.out.below b HPZ.out.lt).cell 1)) ?_
        refine held_free 4 (.pointer (some ⟨w.heap.size, 2, none⟩)) rfl (by kernel_rfl) (by kernel_rfl) (by kernel_rfl) (by kernel_rfl) B0 (fun _ _ => ex_field (v := .pointer (some ⟨w.heap.size, 0, none⟩)) 30 (.tmp 1) 2 (by kernel_rfl) (by kernel_rfl) (by kernel_rfl)) ?_
        refine held_free 5 (.int .u32 (a : Int)) rfl (by kernel_rfl) (by kernel_rfl) (by kernel_rfl) (by kernel_rfl) B0 (fun W b => ex_load 24 (.tmp 53) (by kernel_rfl) ⟨w.heap.size, 2, none⟩ (by kernel_rfl) (by kernel_rfl) ((HPZ.out.below b HPZ.out.lt).cell 2)) ?_
        refine held_free 6 (.pointer (some ⟨w.heap.size, 3, none⟩)) rfl (by kernel_rfl) (by kernel_rfl) (by kernel_rfl) (by kernel_rfl) B0 (fun _ _ => ex_field (v := .pointer (some ⟨w.heap.size, 0, none⟩)) 30 (.tmp 1) 3 (by kernel_rfl) (by kernel_rfl) (by kernel_rfl)) ?_
        refine held_free 7 (.int .u32 (b : Int)) rfl (by kernel_rfl) (by kernel_rfl) (by kernel_rfl) (by kernel_rfl) B0 (fun W b => ex_load 24 (.tmp 55) (by kernel_rfl) ⟨w.heap.size, 3, none⟩ (by kernel_rfl) (by kernel_rfl) ((HPZ.out.below b HPZ.out.lt).cell 3)) ?_
        refine held_free 9 (.pointer (some ⟨w.heap.size, 0, none⟩)) rfl (by kernel_rfl) (by kernel_rfl) (by kernel_rfl) (by kernel_rfl) B0 (fun _ _ => ex_field (v := .pointer (some ⟨w.heap.size, 0, none⟩)) 30 (.tmp 1) 0 (by kernel_rfl) (by kernel_rfl) (by kernel_rfl)) ?_
        refine held_free 10 (.int .u64 (f : Int)) rfl (by kernel_rfl) (by kernel_rfl) (by kernel_rfl) (by kernel_rfl) B0 (fun W b => ex_load 22 (.tmp 58) (by kernel_rfl) ⟨w.heap.size, 0, none⟩ (by kernel_rfl) (by kernel_rfl) ((HPZ.out.below b HPZ.out.lt).cell 0)) ?_
        refine held_free 11 (.pointer (some ⟨w.heap.size, 1, none⟩)) rfl (by kernel_rfl) (by kernel_rfl) (by kernel_rfl) (by kernel_rfl) B0 (fun _ _ => ex_field (v := .pointer (some ⟨w.heap.size, 0, none⟩)) 30 (.tmp 1) 1 (by kernel_rfl) (by kernel_rfl) (by kernel_rfl)) ?_
        refine held_free 12 (.int .u64 (s : Int)) rfl (by kernel_rfl) (by kernel_rfl) (by kernel_rfl) (by kernel_rfl) B0 (fun W b => ex_load 22 (.tmp 60) (by kernel_rfl) ⟨w.heap.size, 1, none⟩ (by kernel_rfl) (by kernel_rfl) ((HPZ.out.below b HPZ.out.lt).cell 1)) ?_
        refine held_free 13 (.pointer (some ⟨w.heap.size, 2, none⟩)) rfl (by kernel_rfl) (by kernel_rfl) (by kernel_rfl) (by kernel_rfl) B0 (fun _ _ => ex_field (v := .pointer (some ⟨w.heap.size, 0, none⟩)) 30 (.tmp 1) 2 (by kernel_rfl) (by kernel_rfl) (by kernel_rfl)) ?_
        refine held_free 14 (.int .u32 (a : Int)) rfl (by kernel_rfl) (by kernel_rfl) (by kernel_rfl) (by kernel_rfl) B0 (fun W b => ex_load 24 (.tmp 62) (by kernel_rfl) ⟨w.heap.size, 2, none⟩ (by kernel_rfl) (by kernel_rfl) ((HPZ.out.below b HPZ.out.lt).cell 2)) ?_
        refine held_free 15 (.pointer (some ⟨w.heap.size, 3, none⟩)) rfl (by kernel_rfl) (by kernel_rfl) (by kernel_rfl) (by kernel_rfl) B0 (fun _ _ => ex_field (v := .pointer (some ⟨w.heap.size, 0, none⟩)) 30 (.tmp 1) 3 (by kernel_rfl) (by kernel_rfl) (by kernel_rfl)) ?_
        refine held_free 16 (.int .u32 (b : Int)) rfl (by kernel_rfl) (by kernel_rfl) (by kernel_rfl) (by kernel_rfl) B0 (fun W b => ex_load 24 (.tmp 64) (by kernel_rfl) ⟨w.heap.size, 3, none⟩ (by kernel_rfl) (by kernel_rfl) ((HPZ.out.below b HPZ.out.lt).cell 3)) ?_
        refine held_call 8 rfl (by kernel_rfl) (by kernel_rfl) (by kernel_rfl) (Long_any f s hf hs a b ha hb U HT20.out _ (HTZ.out.below B0)) (fun w' h => bel_in B0 h) ?_
        intro W1 hW1
        have B1 := bel_in B0 hW1
        clear hW1 B0
        refine held_call 17 rfl (by kernel_rfl) (by kernel_rfl) (by kernel_rfl) (Short_any f s hf hs a b ha hb T HT8.out _ (HTZ.out.below B1)) (fun w' h => bel_in B1 h) ?_
        intro W2 hW2
        have B2 := bel_in B1 hW2
        clear hW2 B1
        refine held_free 18 (.string U) rfl (by kernel_rfl) (by kernel_rfl) (by kernel_rfl) (by kernel_rfl) B2 (fun _ _ => by kernel_rfl) ?_
        refine held_free 19 (.string T) rfl (by kernel_rfl) (by kernel_rfl) (by kernel_rfl) (by kernel_rfl) B2 (fun _ _ => by kernel_rfl) ?_
        refine held_end_at ⟨#[Value.agg #[Value.int IntKind.u64 ↑f, Value.int IntKind.u64 ↑s, Value.int IntKind.u32 ↑a, Value.int IntKind.u32 ↑b], .pointer (some ⟨w.heap.size, 0, none⟩), Value.bool false, Value.pointer (some { block := g, off := 0 }), Value.string P4, Value.string P8, Value.string X, Value.pointer (some { block := gm, off := 0 }), Value.pointer (some { block := gq, off := 0 }), .string U, .string T, u11, u12, u13, u14, u15, u16, u17, u18, u19, u20, u21, u22, u23, u24, u25, u26, u27, u28, u29, u30, u31, u32, u33, u34, u35, u36, u37, u38, u39, Value.pointer (some { block := w.heap.size, off := 0 }), Value.int IntKind.u64 ↑f, Value.pointer (some { block := w.heap.size, off := 1 }), Value.int IntKind.u64 ↑s, Value.pointer (some { block := w.heap.size, off := 2 }), Value.int IntKind.u32 ↑a, Value.pointer (some { block := w.heap.size, off := 3 }), Value.int IntKind.u32 ↑b, Value.agg M, .pointer (some ⟨w.heap.size, 0, none⟩), .int .u64 (f : Int), .pointer (some ⟨w.heap.size, 1, none⟩), .int .u64 (s : Int), .pointer (some ⟨w.heap.size, 2, none⟩), .int .u32 (a : Int), .pointer (some ⟨w.heap.size, 3, none⟩), .int .u32 (b : Int), .string U, .pointer (some ⟨w.heap.size, 0, none⟩), .int .u64 (f : Int), .pointer (some ⟨w.heap.size, 1, none⟩), .int .u64 (s : Int), .pointer (some ⟨w.heap.size, 2, none⟩), .int .u32 (a : Int), .pointer (some ⟨w.heap.size, 3, none⟩), .int .u32 (b : Int), .string T, u67, u68, u69, u70, u71, u72, u73, u74, u75, u76, u77, u78, u79, u80, u81, u82, u83, u84, u85, u86, u87, u88, u89, u90, u91, u92, u93, u94, u95, u96, u97, u98, u99, u100, u101, u102, u103, u104, u105, u106, u107, u108, u109, u110], []⟩ (by kernel_rfl) (by kernel_rfl) ?_
        go_wp2_with fail
        go_meet
        exact ⟨rfl, rfl, B2⟩
      case rest =>
        obtain ⟨rfl, rfl, hb9⟩ := hcut
        obtain ⟨V5, hV5⟩ : ∃ V5, V5 = wc := ⟨_, rfl⟩
        rw [← hV5] at hb9 ⊢
        have n5 := HPZ.out.below hb9 HPZ.out.lt
        have c0 := n5.cell 0
        have HKDY := Lib.hid (HKDZ.out.below hb9 HKDZ.out.lt)
        have HKMY := Lib.hid (HKMZ.out.below hb9 HKMZ.out.lt)
        have HKQY := Lib.hid (HKQZ.out.below hb9 HKQZ.out.lt)
        have HBY := Lib.hid (HBZ.out.trans (hb9.mono HBZ.out.size))
        clear hb9 hV5 n5 HPZ HKDZ HKMZ HKQZ HBZ HTZ
        go_wp2_with fail
        refine (Bytes_any f hf F HF.out V5).mono ?_
        rintro e V6 ⟨rfl, b6⟩
        have HKD6 := Lib.hid (HKDY.out.below b6 HKDY.out.lt)
        have HKM6 := Lib.hid (HKMY.out.below b6 HKMY.out.lt)
        have HKQ6 := Lib.hid (HKQY.out.below b6 HKQY.out.lt)
        have HB6 := Lib.hid (HBY.out.trans (b6.mono HBY.out.size))
        have hsl4 : ∀ W, (Instr.sliceAt 32 (.pointer (some ⟨g, 0, none⟩)) none (some (.int .i64 4)) none).run Tryd.prog W = .ok (.slice (some ⟨g, 0, none⟩) 4 32) W := fun W => slice_front W g 4 (by decide)
        have hsl8 : ∀ W, (Instr.sliceAt 32 (.pointer (some ⟨g, 0, none⟩)) (some (.int .i64 24)) none none).run Tryd.prog W = .ok (.slice (some ⟨g, 24, none⟩) 8 8) W := fun W => slice_back W g 24 (by decide)
        have hcv4 : (convert 35 9 (.slice (some ⟨g, 0, none⟩) 4 32)).run Tryd.prog V6 = .ok (.string P4) V6 := by
          have h := conv_front V6 g 32 (kdig f) 4 32 (by rw [← HD.out]; exact HKD6.out) (by rw [kdig_length]; decide)
          rw [HP4T.out]; exact h
        have hcv8 : (convert 35 9 (.slice (some ⟨g, 24, none⟩) 8 8)).run Tryd.prog V6 = .ok (.string P8) V6 := by
          have h := conv_back V6 g 32 (kdig f) 24 8 (by rw [← HD.out]; exact HKD6.out) (kdig_length _) (by decide)
          rw [HP8T.out]; exact h
        have q0 : ∀ W, (Op.equalIn 10000 32 (.agg M) (.agg M)).run Tryd.prog W = .ok true W := fun W => by rw [HM.out, digest_eq _ _ (macn_length _ _ _ _) (macn_length _ _ _ _)]; simp
        have eUT := HUT.out
        clear b6 c0 HKDY HKMY HKQY HBY
        go_wp2_with (first | refine wpList_load_row_w (by rfl) 32 (.tmp 8) rfl gq rfl 32 M (0, 0) _ HKQ6.out digest_under rfl HMK.out.info ?_ | refine wpList_load_row_w (by rfl) 32 (.tmp 7) rfl gm rfl 32 M (0, 0) _ HKM6.out digest_under rfl HMK.out.info ?_)
        refine (HTL.out V6).mono ?_
        rintro e V7 ⟨rfl, b7⟩
        have HB7 := Lib.hid (HB6.out.trans (b7.mono HB6.out.size))
        clear b7 HB6 HKD6 HKM6 HKQ6 hsl4 hsl8 hcv4 hcv8 q0
        go_wp2_with fail
        go_ret
        exact ⟨rfl, HB7.out⟩

set_option maxRecDepth 100000 in
theorem lifted (os : Os) (started : os.Started) (H : Type) (enc : TypeId × Value → H) :
    ReturnsInHanded {} Tryd.checked os 6 .any (fun w args => (Rows.keyPartsSpec.pre enc Tryd.prog Tryd.f6 [] false w args ∧ laidMetH Tryd.prog laid1 w) ∧ sizedMet enc Tryd.prog Tryd.f6 (OpenSpec.ofChange Rows.keyPartsSpec) false w args)
      (Rows.keyPartsSpec.post enc Tryd.prog Tryd.f6 false true false false) := by
  refine returnsInHanded_of_change_and (C := Tryd.checked) (X := fun w _ => laidMetH Tryd.prog laid1 w) (fun _ _ _ hh h => h.of_heap hh) own started (by kernel_rfl) Tryd.func6
    (ChangeSpec.witness_shaped (enc := enc) (C := Tryd.checked) (os := os) (X := fun w _ => laidMetH Tryd.prog laid1 w) false (World.doorLaid Tryd.prog 400 os) #[.agg #[.int .u64 0, .int .u64 0, .int .u32 0, .int .u32 0]] 8 rfl (World.shaped_of_RefB (by kernel_rfl) (by kernel_rfl)) (by kernel_rfl) (by kernel_rfl) (by kernel_rfl) (door_met os _)) ?_
  intro W base args ds gs before hval0 hW hcnd hsz0 hL _
  have hsz : (DataW.weightsEach Tryd.prog (Tryd.f6.params.toList ++ Rows.keyPartsSpec.plain.varTypes Tryd.prog) (ds ++ gs)).all (· ≤ reachBytes) = true := hsz0
  have ht := table_of hL
  have hval : ∀ (j : Nat) t v, Tryd.f6.params[j]? = some t → args[j]? = some v → Value.okWide Tryd.prog W .any base t v := hval0
  have hW' := hW
  obtain ⟨p, q, hA0, hV, rfl, hfz, hnd⟩ := hW
  have hA : DataW.TrodAll enc Tryd.prog W 0 (fun _ => true) true Tryd.f6.params.toList args.toList ds p := hA0
  rw [Tryd.params6] at hA hval hsz
  obtain ⟨v0, vs0, d0, ds0, p0, q0, hargs, rfl, rfl, h0, r0⟩ := trodAll_cons hA
  obtain ⟨rfl, rfl, rfl⟩ := trodAll_nil r0
  obtain rfl : args = #[v0] := by cases args; simp_all
  obtain ⟨rfl, rfl⟩ := trodVars_none hV
  have k0 := h0
  have lt0 : ∀ x ∈ p0, x.block < W.heap.size := by obtain ⟨m, hm⟩ := k0; exact DataW.trod_lt m _ _ _ hm
  obtain ⟨f, s, a, b, rfl, hf, hs, ha, hb⟩ := open_keys (hval 0 30 v0 rfl rfl) h0
  clear hA0 hval0
  simp only [List.append_nil] at hW'
  refine (walk f s hf hs a b ha hb W ht).mono fun e W' ⟨he, bel⟩ => ?_
  subst he
  exact ⟨_, rfl, _, _, _, [], _, [], hW', trodAll_mk1 (shut_bool Tryd.underlying4 _), (trodAll_cons_mk (Below.trod laidOut (by kernel_rfl) (of_decide_eq_true (by kernel_rfl)) k0 bel lt0) trodAll_mk0), rfl, bel.frame _, fun h => by cases h⟩

theorem over : Rows.KeyPartsSaid :=
  OpenClaim.holds_of_wide 6 Tryd.f6 rfl rfl rfl rfl rfl rfl rfl ⟨rfl, rfl, rfl, rfl, rfl⟩ rfl rfl rfl rfl rfl (by kernel_rfl) Tryd.func6 (by kernel_rfl)
    (of_decide_eq_true (by kernel_rfl)) (by unfold Func.isWrapper; first | (rw [if_pos (by decide +kernel)]; kernel_rfl) | (rw [if_neg (by decide +kernel)]; exact ⟨rfl, rfl⟩))
    (fun os started H enc _ => lifted os started H enc)

theorem proved : Rows.KeyPartsCardSaid :=
  Claim7.holds_tied_plain_at .later [] [.data, .data] true _ false
    over (fun _ h => by cases h) (by kernel_rfl) (fun _ h => by cases h) keyParts_row_tie rfl ⟨rfl, rfl⟩ (by kernel_rfl) rfl
    (fun f fn hf hfn => by
      obtain rfl : f = 6 := Option.some.inj ((show Tryd.prog.funcNamed "plait/plaitlaw08.KeyParts" = some 6 by kernel_rfl).symm.trans hf) |>.symm
      obtain rfl : fn = Tryd.f6 := (Option.some.inj (Tryd.func6.symm.trans hfn)).symm
      exact ⟨by kernel_rfl, fun j t ht => by
        rw [Tryd.params6] at ht
        have hm : t ∈ ([30] : List TypeId) := by simpa using Array.mem_of_getElem? ht
        have hall : (([30] : List TypeId).all fun u => !Tryd.prog.wantsStandIn u) = true := by kernel_rfl
        exact (show Tryd.prog.wantsStandIn t = false by simpa using List.all_eq_true.1 hall t hm)⟩)
    (by kernel_rfl)
#print axioms proved
end Go.Proofs.YtcbakfnpbhgjoaaDoor.keyParts
