/-
  A body that is cut, or has more behind it, is no body of this option, unless it is as long as another form's; of another subtype it never is one (statement JoinCut, promise P10.2), of all drafts, cuts, texts behind and subtypes, without condition but the table's own initial values, which the card ties to the program's text.
-/
import Derived.Test.YthnokkcpmikajaaDoorJoinBytes
import Derived.Great.BuildSlice
namespace Go.Proofs.YthnokkcpmikajaaDoor.joinCut
open Go.ChangeShapes Go.WideShapes Go.ChangeAt Go.RowKit
set_option linter.unusedVariables false

/-! ### Plain facts -/
/-- Does a text have as many bytes as a form? -/
def fitB (t : ByteArray) : Bool := decide (t.size = 10 ∨ t.size = 14 ∨ t.size = 22)
theorem got_fit (t : ByteArray) : (gotOf t).isSome = fitB t := by
  unfold gotOf got fitB
  by_cases h0 : t.size = 10
  · rw [if_pos h0]; simp [h0]
  by_cases h1 : t.size = 14
  · rw [if_neg h0, if_pos h1]; simp [h1]
  by_cases h2 : t.size = 22
  · rw [if_neg h0, if_neg h1, if_pos h2]; simp [h2]
  · rw [if_neg h0, if_neg h1, if_neg h2]; simp [h0, h1, h2]
/-- What a text answers that is none, or begins as this option does. -/
theorem dec_begun (t : ByteArray) (h : t.size = 0 ∨ byteAt t 0 / 16 = 1) : ∃ x, decJ t = (x, if t.size = 0 then 4 else if fitB t then 0 else 5) := by
  by_cases h0 : t.size = 0
  · exact ⟨Jn.zero, by rw [decJ_short t h0, if_pos h0]⟩
  · have hk := h.resolve_left h0
    rw [if_neg h0, ← got_fit t]
    cases e : gotOf t with
    | none => exact ⟨Jn.zero, decJ_form t h0 hk e⟩
    | some x => exact ⟨x, decJ_some t x h0 hk e⟩
theorem dec_fit (t : ByteArray) (h : fitB t = true) : ∃ x, decJ t = (x, if byteAt t 0 / 16 = 1 then 0 else 7) := by
  have h0 : t.size ≠ 0 := by intro e; simp [fitB, e] at h
  by_cases hk : byteAt t 0 / 16 = 1
  · rw [if_pos hk]
    have := got_fit t
    rw [h, Option.isSome_iff_exists] at this
    obtain ⟨x, hx⟩ := this
    exact ⟨x, decJ_some t x h0 hk hx⟩
  · rw [if_neg hk]; exact ⟨Jn.zero, decJ_kind t h0 hk⟩
theorem u8_of (n : Nat) (h : n < 256) : ∃ v : UInt8, v.toNat = n := ⟨UInt8.ofNat n, by rw [UInt8.toNat_ofNat']; exact Nat.mod_eq_of_lt h⟩
theorem kinds : ∀ (c : Fin 256) (k : Fin 16), bits .or .u8 (bits .and .u8 ((c.val : Nat) : Int) 15) (((k.val * 16 : Nat)) : Int) = ((16 * k.val + c.val % 16 : Nat) : Int) := by decide +kernel
theorem byte_built (c : Int) (w : World) :
    (Instr.buildSlice 36 1 #[(0, .int .u8 c)]).run Tryd.prog w = .ok (.slice (some ⟨w.heap.size, 0, none⟩) 1 1) (w.alloc (.cells #[.int .u8 c] 5)) := by
  have sz : (Tryd.prog.info? 5).map (·.size) = some 1 := by kernel_rfl
  have ze : (Tryd.prog.info? 5).map (·.zero.isSome) = some true := by kernel_rfl
  obtain ⟨ie, hi⟩ : ∃ ie, Tryd.prog.info? 5 = some ie := (Option.map_eq_some_iff.1 sz).imp fun _ h => h.1
  rw [hi] at sz ze
  have s1 : ie.size = 1 := Option.some.inj sz
  obtain ⟨z, hz⟩ := Option.isSome_iff_exists.1 (Option.some.inj ze)
  have flat := Great.fill_flat [Value.int .u8 c] ((Array.range (1 * 1)).map (z.cells[· % z.cells.size]!)) (fun v hv => by rw [List.mem_singleton.1 hv]; rfl) (by simp)
  exact run_buildSlice w _ _ 1 #[(0, .int .u8 c)] _ ie z (by kernel_rfl) hi hz (by rw [s1]; omega) (by rw [s1]; omega) (by rw [s1]; exact flat)
theorem ex_build1 {ρ : Operand → Value} {o : Oper} {w : World} (x : Operand) (ho : o.op = .buildSlice 36 1 #[(0, x)]) (c : Int) (hx : ρ x = .int .u8 c) :
    (execOp ρ o).run Tryd.prog w = .ok (.value (.slice (some ⟨w.heap.size, 0, none⟩) 1 1)) (w.alloc (.cells #[.int .u8 c] 5)) := by
  have h := byte_built c w
  unfold execOp
  rw [ho]
  simp [hx, h]
theorem byte_text (w : World) (v : UInt8) : (convert 36 9 (.slice (some ⟨w.heap.size, 0, none⟩) 1 1)).run Tryd.prog (w.alloc (.cells #[.int .u8 (v.toNat : Int)] 5)) = .ok (.string (txt [v])) (w.alloc (.cells #[.int .u8 (v.toNat : Int)] 5)) :=
  bytes_text _ w.heap.size 1 1 [v] ⟨by simp, fun j hj => by
    obtain rfl : j = 0 := by simp at hj; omega
    exact ⟨(Blk.new w 5 #[.int .u8 (v.toNat : Int)]).cell 0, (Blk.new w 5 #[.int .u8 (v.toNat : Int)]).frozen 0⟩⟩ rfl
theorem ex_u8and {ρ : Operand → Value} {o : Oper} {w : World} (t u : TypeId) (x y : Operand) (ho : o.op = .binOp .and t x y u) (a b c : Int) (hx : ρ x = .int .u8 a) (hy : ρ y = .int .u8 b) (ht : Tryd.prog.underlying t = some (.int .u8)) (h : bits .and .u8 a b = c) :
    (execOp ρ o).run Tryd.prog w = .ok (.value (.int .u8 c)) w := by
  subst h
  unfold execOp
  rw [ho]
  simp [hx, hy, go_sem]
theorem ex_u8or {ρ : Operand → Value} {o : Oper} {w : World} (t u : TypeId) (x y : Operand) (ho : o.op = .binOp .or t x y u) (a b c : Int) (hx : ρ x = .int .u8 a) (hy : ρ y = .int .u8 b) (ht : Tryd.prog.underlying t = some (.int .u8)) (h : bits .or .u8 a b = c) :
    (execOp ρ o).run Tryd.prog w = .ok (.value (.int .u8 c)) w := by
  subst h
  unfold execOp
  rw [ho]
  simp [hx, hy, go_sem]
theorem ex_shl4 {ρ : Operand → Value} {o : Oper} {w : World} (t u : TypeId) (x y : Operand) (ho : o.op = .binOp .shl t x y u) (k : Nat) (hk : k < 16) (hx : ρ x = .int .u8 (k : Int)) (hy : ρ y = .int .u64 4) (ht : Tryd.prog.underlying t = some (.int .u8)) :
    (execOp ρ o).run Tryd.prog w = .ok (.value (.int .u8 ((k * 16 : Nat) : Int))) w := by
  unfold execOp
  rw [ho]
  simp [hx, hy, go_sem]
  rw [IntKind.wrap_u8]
  omega
theorem ex_str_byte (s : ByteArray) (k : Nat) (hk : k < s.size) {ρ : Operand → Value} {o : Oper} (x : Operand) (ho : o.op = .index 9 x (.const (.int .i64 (k : Int)))) (hx : ρ x = .string s) (hy : ρ (.const (.int .i64 (k : Int))) = .int .i64 (k : Int)) (G : Nat) (hG : G = s[k].toNat) (w : World) : (execOp ρ o).run Tryd.prog w = .ok (.value (.int .u8 (G : Int))) w := by
  subst hG
  have l1 : (k : Int) < (s.size : Int) := by omega
  unfold execOp
  rw [ho]
  simp [hx, hy, go_sem, l1]
theorem str_back (s : ByteArray) (hk : 1 ≤ s.size) (w : World) : (Instr.sliceAt 9 (.string s) (some (.int .i64 1)) none none).run Tryd.prog w = .ok (.string (s.extract 1 s.size)) w := by
  have l2 : (1 : Int) ≤ (s.size : Int) := by omega
  simp [go_sem, l2]
theorem body_begun (x : Jn) : byteAt (txt x.body) 0 / 16 = 1 := by
  show (UInt8.ofNat (Jn.first x.backup)).toNat / 16 = 1
  rw [ofNat_first]; cases x.backup <;> rfl
theorem byte_front (s : ByteArray) (k : Nat) (h : 0 < k) (hk : k ≤ s.size) : byteAt (s.extract 0 k) 0 = byteAt s 0 := by
  unfold byteAt
  have e : (s.extract 0 k).data.toList = s.data.toList.take k := by
    rw [ByteArray.data_extract, Array.toList_extract, List.extract_eq_take_drop]; simp
  rw [e, List.getD_eq_getElem?_getD, List.getD_eq_getElem?_getD, List.getElem?_take_of_lt h]
theorem byte_more (s t : ByteArray) (h : 0 < s.size) : byteAt (s ++ t) 0 = byteAt s 0 := by
  unfold byteAt
  have hl : s.data.toList.length = s.size := len_data s
  rw [ByteArray.data_append, Array.toList_append, List.getD_eq_getElem?_getD, List.getD_eq_getElem?_getD, List.getElem?_append_left (by omega)]
set_option maxHeartbeats 4000000 in
set_option maxRecDepth 100000 in
theorem walk_n (d : Dr) (hd : d.Ok) (at_ : Nat) (hat : at_ ≤ 255) (more : ByteArray) (hms : more.size ≤ 140737488351232) (sub : Nat) (hsub : sub ≤ 255) (w : World) (ht : Tbl w) :
    Calls Tryd.prog 7 #[.agg (drv d), .int .u8 (at_ : Int), .string more, .int .u8 (sub : Int)] w fun e w' => e = .returned (.bool true) ∧ Below w.heap.size w w' := by
  obtain ⟨m0, F, hF, nF, mF, lF, uF⟩ := front_100 more
  have hF100 : F.size ≤ 100 := by omega
  obtain ⟨x, hx⟩ : ∃ x, x = d.jn := ⟨_, rfl⟩
  have HXO := Lib.hid (show x.Ok by rw [hx]; exact d.jn_ok hd)
  have HXM := Lib.hid (show x.May by rw [hx]; exact d.jn_may hd)
  have HCX := Lib.hid (show ∀ W, Calls Tryd.prog 13 #[.agg (drv d)] W fun e w' => e = .returned (.agg (jnv x)) ∧ Below W.heap.size W w' from fun W => by rw [hx]; exact Draft_any d hd W)
  obtain ⟨T, hT⟩ : ∃ T, T = txt x.body := ⟨_, rfl⟩
  have HET := Lib.hid (show encV x = .tuple #[.string T, .int .i64 0] by rw [encV_t x HXM.out, hT])
  have hTz : T.size = Jn.bodySize x.form := by rw [hT, txt_size, x.body_size HXM.out]
  have hT10 : T.size = 10 ∨ T.size = 14 ∨ T.size = 22 := by rw [hTz]; rcases Jn.size_cases _ (x.forms HXM.out) with ⟨_, h⟩ | ⟨_, h⟩ | ⟨_, h⟩ <;> omega
  have HTK := Lib.hid (show byteAt T 0 / 16 = 1 by rw [hT]; exact body_begun x)
  clear hTz
  obtain ⟨b0, hb0⟩ : ∃ b0, b0 = w.heap.size := ⟨_, rfl⟩
  obtain ⟨w0, hw0⟩ : ∃ V, V = w.alloc (.cells (drv d) 33) := ⟨_, rfl⟩
  have HD0 := Lib.hid (show Blk w0 b0 33 (drv d) by rw [hw0, hb0]; exact Blk.new _ _ _)
  have hb : Below w.heap.size w w0 := by rw [hw0]; exact (Below.refl _ w).alloc (Nat.le_refl _) _
  have HB0 := Lib.hid hb
  have HT0 := Lib.hid (ht.below hb)
  have HDI := Lib.hid (drv_info d hd.m)
  have HW0 := Lib.hid hw0
  have HE0 := Lib.hid hb0
  have H10 := Lib.hid hT10
  have HF100 := Lib.hid hF100
  have HFE := Lib.hid hF
  have HMF := Lib.hid mF
  have HLF := Lib.hid lF
  have hAT := Lib.hid hat
  have hSB := Lib.hid hsub
  clear hF nF uF hx hb hw0 hb0 ht hT hd hF100 mF lF hat hsub hms
  go_enter Tryd.func7, Tryd.ntmps7
  go_upto_region 1 with fail
  rw [← HW0.out, ← HE0.out]
  clear HW0
  go_wp2_with fail
  refine (works_t w0 HT0.out).mono ?_
  rintro e W1 ⟨rfl, b⟩
  have HD1 := Lib.hid (HD0.out.below b HD0.out.lt)
  have HB1 := Lib.hid (HB0.out.trans (b.mono HB0.out.size))
  have HT1 := Lib.hid (HT0.out.below b)
  clear b HD0 HB0 HT0
  go_wp2_with (refine wpList_load_row_w (by rfl) 33 _ rfl b0 rfl 33 (drv d) (0, 0) _ ?_ Tryd.underlying33 rfl HDI.out ?_; exact HD1.out)
  refine (HCX.out W1).mono ?_
  rintro e W2 ⟨rfl, b⟩
  have HB2 := Lib.hid (HB1.out.trans (b.mono (by have := HB1.out.size; omega)))
  have HT2 := Lib.hid (HT1.out.below b)
  clear b HD1 HB1 HT1
  go_wp2_with fail
  refine (Encode_any x HXO.out W2 HT2.out).mono ?_
  rintro e W3 ⟨rfl, b⟩
  rw [HET.out]
  have HB3 := Lib.hid (HB2.out.trans (b.mono HB2.out.size))
  have HT3 := Lib.hid (HT2.out.below b)
  clear b HB2 HT2
  have l2 : ¬ ((T.size : Int) < 2) := by have := H10.out; omega
  have mF := HMF.out
  have lF := HLF.out
  have eF := HFE.out.symm
  have hcat := fun W => run_string_add (P := Tryd.prog) W T F (by have := H10.out; omega) (by have := HF100.out; omega)
  obtain ⟨E, hE⟩ : ∃ E, E = T ++ F := ⟨_, rfl⟩
  have eE := hE.symm
  have HE := Lib.hid hE
  clear hE
  go_upto_region 7 with fail
  clear mF lF eF hcat l2
  obtain ⟨r, hr⟩ : ∃ r, at_ % T.size = r := ⟨_, rfl⟩
  have hrl : r < T.size := by rw [← hr]; exact Nat.mod_lt _ (by have := H10.out; omega)
  have ea : wrap64 (at_ : Int) = (at_ : Int) := wrap_id at_ hAT.out
  have et : ((at_ : Int).tmod (T.size : Int)) = (r : Int) := by rw [Int.tmod_eq_emod_of_nonneg (by omega), ← hr]; rfl
  have em : ((at_ : Int) % (T.size : Int)) = (r : Int) := by rw [← hr]; rfl
  have t0 : ¬ (T.size = 0) := by have := H10.out; omega
  have t0' : ¬ ((T.size : Int) = 0) := by omega
  have lr : (r : Int) ≤ (T.size : Int) := by omega
  have HRL := Lib.hid hrl
  obtain ⟨C, hC⟩ : ∃ C, C = T.extract 0 r := ⟨_, rfl⟩
  have eC := hC.symm
  have HCE := Lib.hid hC
  obtain ⟨AR, hAR⟩ : ∃ A : Array Value, A = #[.string C, .string E] := ⟨_, rfl⟩
  have HIDX := Lib.hid (show ∀ j < 2, ∃ t : ByteArray, t.size ≤ 200 ∧ (t.size = 0 ∨ byteAt t 0 / 16 = 1) ∧ ∀ W, (Instr.index 45 (.agg AR) (.int .i64 ((j : Nat) : Int))).run Tryd.prog W = .ok (.string t) W by
    intro j hj
    have z1 := H10.out
    have z2 := HF100.out
    have hj5 : j = 0 ∨ j = 1 := by omega
    subst hAR
    rcases hj5 with rfl | rfl
    · have zc : C.size = r := by rw [hC, ByteArray.size_extract]; omega
      refine ⟨C, by omega, ?_, fun _ => by kernel_rfl⟩
      by_cases h : r = 0
      · exact .inl (by omega)
      · exact .inr (by rw [hC, byte_front T r (by omega) (by omega)]; exact HTK.out)
    · refine ⟨E, by rw [HE.out, ByteArray.size_append]; omega, .inr ?_, fun _ => by kernel_rfl⟩
      rw [HE.out, byte_more T F (by omega)]; exact HTK.out)
  have eAR := hAR.symm
  clear hr hrl hC hAR
  go_wp2_with fail
  clear ea et em lr eC eAR t0 t0'
  go_loopw [52] (fun i wr => ∃ j : Nat, j ≤ 2 ∧ i = .int .i64 (j : Int) ∧ Tbl wr ∧ Below w.heap.size w wr) (fun i _ => (2 - intOf i).toNat)
  case atStart => exact ⟨0, by omega, rfl, HT3.out, HB3.out⟩
  case round =>
    obtain ⟨j, hj, rfl, hT, hB⟩ := hrel
    have HT4 := Lib.hid hT
    have HB4 := Lib.hid hB
    clear hT hB HT3 HB3
    by_cases hlt : j < 2
    · obtain ⟨t, htz, htb, hidx⟩ := HIDX.out j hlt
      have hi := hidx wr
      have j5 : (j : Int) < 2 := by omega
      have HTZ := Lib.hid htz
      have HLT := Lib.hid hlt
      obtain ⟨z, hz⟩ := dec_begun t htb
      have c5 : (t.size = 10) ∨ (t.size = 14) ∨ (t.size = 22) ∨ (t.size = 0) ∨ (t.size ≠ 10 ∧ t.size ≠ 14 ∧ t.size ≠ 22 ∧ t.size ≠ 0) := by omega
      clear hidx hlt hj htz htb
      rcases c5 with hs | hs | hs | hs | hs
      · rw [if_neg (by omega), show fitB t = true by simp [fitB, hs], if_pos rfl] at hz
        have HZ := Lib.hid (show decV t = .tuple #[.agg (jnv z), .int .i64 0] from decV_eq _ _ _ hz)
        have e10 : ((t.size : Int) == 10) = true := by rw [beq_iff_eq]; omega
        have e14 : ((t.size : Int) == 14) = false := by rw [beq_eq_false_iff_ne]; omega
        have e22 : ((t.size : Int) == 22) = false := by rw [beq_eq_false_iff_ne]; omega
        have e0 : ¬ t.toList = [] := fun q => by have : t.data.toList.length = 0 := by rw [← ByteArray.toList_eq, q]; rfl
                                                 rw [len_data] at this; omega
        have e0' : t.toList.isEmpty = false := by simpa using e0
        clear hz hs
        go_wp2_with fail
        refine (Decode_any t (by have := HTZ.out; omega) wr HT4.out).mono ?_
        rintro e W5 ⟨rfl, b⟩
        rw [HZ.out]
        have HT5 := Lib.hid (HT4.out.below b)
        have HB5 := Lib.hid (HB4.out.trans (b.mono HB4.out.size))
        have HT6 := Lib.hid (HT5.out.alloc (.cells (jnv z) 24))
        have HB6 := Lib.hid (HB5.out.alloc HB5.out.size (.cells (jnv z) 24))
        clear b HT4 HB4 hi
        go_wp2_with fail
        go_roundw
        case rel => exact ⟨j + 1, by have := HLT.out; omega, by go_num, HT6.out, HB6.out⟩
        case measure => simp [intOf]; omega
      · rw [if_neg (by omega), show fitB t = true by simp [fitB, hs], if_pos rfl] at hz
        have HZ := Lib.hid (show decV t = .tuple #[.agg (jnv z), .int .i64 0] from decV_eq _ _ _ hz)
        have e10 : ((t.size : Int) == 10) = false := by rw [beq_eq_false_iff_ne]; omega
        have e14 : ((t.size : Int) == 14) = true := by rw [beq_iff_eq]; omega
        have e22 : ((t.size : Int) == 22) = false := by rw [beq_eq_false_iff_ne]; omega
        have e0 : ¬ t.toList = [] := fun q => by have : t.data.toList.length = 0 := by rw [← ByteArray.toList_eq, q]; rfl
                                                 rw [len_data] at this; omega
        have e0' : t.toList.isEmpty = false := by simpa using e0
        clear hz hs
        go_wp2_with fail
        refine (Decode_any t (by have := HTZ.out; omega) wr HT4.out).mono ?_
        rintro e W5 ⟨rfl, b⟩
        rw [HZ.out]
        have HT5 := Lib.hid (HT4.out.below b)
        have HB5 := Lib.hid (HB4.out.trans (b.mono HB4.out.size))
        have HT6 := Lib.hid (HT5.out.alloc (.cells (jnv z) 24))
        have HB6 := Lib.hid (HB5.out.alloc HB5.out.size (.cells (jnv z) 24))
        clear b HT4 HB4 hi
        go_wp2_with fail
        go_roundw
        case rel => exact ⟨j + 1, by have := HLT.out; omega, by go_num, HT6.out, HB6.out⟩
        case measure => simp [intOf]; omega
      · rw [if_neg (by omega), show fitB t = true by simp [fitB, hs], if_pos rfl] at hz
        have HZ := Lib.hid (show decV t = .tuple #[.agg (jnv z), .int .i64 0] from decV_eq _ _ _ hz)
        have e10 : ((t.size : Int) == 10) = false := by rw [beq_eq_false_iff_ne]; omega
        have e14 : ((t.size : Int) == 14) = false := by rw [beq_eq_false_iff_ne]; omega
        have e22 : ((t.size : Int) == 22) = true := by rw [beq_iff_eq]; omega
        have e0 : ¬ t.toList = [] := fun q => by have : t.data.toList.length = 0 := by rw [← ByteArray.toList_eq, q]; rfl
                                                 rw [len_data] at this; omega
        have e0' : t.toList.isEmpty = false := by simpa using e0
        clear hz hs
        go_wp2_with fail
        refine (Decode_any t (by have := HTZ.out; omega) wr HT4.out).mono ?_
        rintro e W5 ⟨rfl, b⟩
        rw [HZ.out]
        have HT5 := Lib.hid (HT4.out.below b)
        have HB5 := Lib.hid (HB4.out.trans (b.mono HB4.out.size))
        have HT6 := Lib.hid (HT5.out.alloc (.cells (jnv z) 24))
        have HB6 := Lib.hid (HB5.out.alloc HB5.out.size (.cells (jnv z) 24))
        clear b HT4 HB4 hi
        go_wp2_with fail
        go_roundw
        case rel => exact ⟨j + 1, by have := HLT.out; omega, by go_num, HT6.out, HB6.out⟩
        case measure => simp [intOf]; omega
      · rw [if_pos hs] at hz
        have HZ := Lib.hid (show decV t = .tuple #[.agg (jnv z), .int .i64 4] from decV_eq _ _ _ hz)
        have e10 : ((t.size : Int) == 10) = false := by rw [beq_eq_false_iff_ne]; omega
        have e14 : ((t.size : Int) == 14) = false := by rw [beq_eq_false_iff_ne]; omega
        have e22 : ((t.size : Int) == 22) = false := by rw [beq_eq_false_iff_ne]; omega
        have e0 : t.toList = [] := by rw [ByteArray.toList_eq]; exact List.eq_nil_of_length_eq_zero (by rw [len_data]; exact hs)
        have e0' : t.toList.isEmpty = true := by rw [e0]; rfl
        clear hz hs
        go_wp2_with fail
        refine (Decode_any t (by have := HTZ.out; omega) wr HT4.out).mono ?_
        rintro e W5 ⟨rfl, b⟩
        rw [HZ.out]
        have HT5 := Lib.hid (HT4.out.below b)
        have HB5 := Lib.hid (HB4.out.trans (b.mono HB4.out.size))
        have HT6 := Lib.hid (HT5.out.alloc (.cells (jnv z) 24))
        have HB6 := Lib.hid (HB5.out.alloc HB5.out.size (.cells (jnv z) 24))
        clear b HT4 HB4 hi
        go_wp2_with fail
        go_roundw
        case rel => exact ⟨j + 1, by have := HLT.out; omega, by go_num, HT6.out, HB6.out⟩
        case measure => simp [intOf]; omega
      · rw [if_neg hs.2.2.2, show fitB t = false by simp [fitB, hs.1, hs.2.1, hs.2.2.1], if_neg (by decide)] at hz
        have HZ := Lib.hid (show decV t = .tuple #[.agg (jnv z), .int .i64 5] from decV_eq _ _ _ hz)
        have e10 : ((t.size : Int) == 10) = false := by rw [beq_eq_false_iff_ne]; omega
        have e14 : ((t.size : Int) == 14) = false := by rw [beq_eq_false_iff_ne]; omega
        have e22 : ((t.size : Int) == 22) = false := by rw [beq_eq_false_iff_ne]; omega
        have e0 : ¬ t.toList = [] := fun q => by have : t.data.toList.length = 0 := by rw [← ByteArray.toList_eq, q]; rfl
                                                 rw [len_data] at this; omega
        have e0' : t.toList.isEmpty = false := by simpa using e0
        clear hz hs
        go_wp2_with fail
        refine (Decode_any t (by have := HTZ.out; omega) wr HT4.out).mono ?_
        rintro e W5 ⟨rfl, b⟩
        rw [HZ.out]
        have HT5 := Lib.hid (HT4.out.below b)
        have HB5 := Lib.hid (HB4.out.trans (b.mono HB4.out.size))
        have HT6 := Lib.hid (HT5.out.alloc (.cells (jnv z) 24))
        have HB6 := Lib.hid (HB5.out.alloc HB5.out.size (.cells (jnv z) 24))
        clear b HT4 HB4 hi
        go_wp2_with fail
        go_roundw
        case rel => exact ⟨j + 1, by have := HLT.out; omega, by go_num, HT6.out, HB6.out⟩
        case measure => simp [intOf]; omega
    · obtain rfl : j = 2 := by omega
      clear hlt hj
      obtain ⟨k, hk⟩ : ∃ k, sub % 16 = k := ⟨_, rfl⟩
      have hk16 : k < 16 := by omega
      have ek : (sub : Int) % 16 = (k : Int) := by omega
      have ek' : (k : Int) % 256 = (k : Int) := by omega
      clear hk
      go_upto_region 16 with fail
      rw [ek]
      clear ek ek'
      have h0T : 0 < T.size := by have := H10.out; omega
      have hg := byteAt_get T 0 h0T
      obtain ⟨c0, hc0⟩ : ∃ c0, c0 = T[0].toNat := ⟨_, rfl⟩
      have hc8 : c0 < 256 := by rw [hc0]; exact T[0].toNat_lt
      obtain ⟨v, hv⟩ := u8_of (16 * k + c0 % 16) (by omega)
      obtain ⟨a15, ha15⟩ : ∃ a, bits .and .u8 (c0 : Int) 15 = a := ⟨_, rfl⟩
      have hor : bits .or .u8 a15 ((k * 16 : Nat) : Int) = (v.toNat : Int) := by rw [← ha15, hv]; exact kinds ⟨c0, hc8⟩ ⟨k, hk16⟩
      obtain ⟨R1, hR1⟩ : ∃ R, R = T.extract 1 T.size := ⟨_, rfl⟩
      have hR1s : R1.size + 1 = T.size := by rw [hR1, ByteArray.size_extract]; omega
      obtain ⟨U, hU⟩ : ∃ U, U = txt [v] ++ R1 := ⟨_, rfl⟩
      have hUs : U.size = T.size := by rw [hU, ByteArray.size_append, txt_size]; simp; omega
      have hUf : fitB U = true := by have := H10.out; simp [fitB, hUs]; omega
      have hUb : byteAt U 0 = v.toNat := by rw [hU, byte_more _ _ (by rw [txt_size]; simp)]; rfl
      obtain ⟨z, hz⟩ := dec_fit U hUf
      rw [hUb, hv, show (16 * k + c0 % 16) / 16 = k by omega] at hz
      have HDU := Lib.hid (show decV U = .tuple #[.agg (jnv z), .int .i64 (if k = 1 then 0 else 7)] from decV_eq _ _ _ hz)
      have HUS := Lib.hid (show U.size ≤ 22 by have := H10.out; omega)
      clear hg hv hUs hUf hUb hz
      have B0 : Below wr.heap.size wr wr.drew := (Below.refl _ _).drew
      refine held_start (fun W => Below wr.heap.size wr W) (by kernel_rfl) (n := 12) rfl ?_
      obtain ⟨W0, hW0⟩ : ∃ W0, W0 = wr.drew := ⟨_, rfl⟩
      rw [← hW0] at B0 ⊢
      clear hW0
      refine held_free 0 (.string T) rfl (by kernel_rfl) (by kernel_rfl) (by kernel_rfl) (by kernel_rfl) B0 (fun _ _ => by kernel_rfl) ?_
      refine held_free 1 (.int .u8 (c0 : Int)) rfl (by kernel_rfl) (by kernel_rfl) (by kernel_rfl) (by kernel_rfl) B0 (fun W _ => ex_str_byte T 0 h0T (.tmp 97) (by kernel_rfl) (by kernel_rfl) (by kernel_rfl) c0 hc0 W) ?_
      refine held_free 2 (.int .u8 a15) rfl (by kernel_rfl) (by kernel_rfl) (by kernel_rfl) (by kernel_rfl) B0 (fun _ _ => ex_u8and 5 5 (.tmp 98) (.const (.int .u8 15)) (by kernel_rfl) (c0 : Int) 15 a15 (by kernel_rfl) (by kernel_rfl) (by kernel_rfl) ha15) ?_
      refine held_free 3 (.int .u8 (k : Int)) rfl (by kernel_rfl) (by kernel_rfl) (by kernel_rfl) (by kernel_rfl) B0 (fun _ _ => by kernel_rfl) ?_
      refine held_free 4 (.int .u8 ((k * 16 : Nat) : Int)) rfl (by kernel_rfl) (by kernel_rfl) (by kernel_rfl) (by kernel_rfl) B0 (fun _ _ => ex_shl4 5 46 (.tmp 100) (.const (.int .u64 4)) (by kernel_rfl) k hk16 (by kernel_rfl) (by kernel_rfl) (by kernel_rfl)) ?_
      refine held_free 5 (.int .u8 (v.toNat : Int)) rfl (by kernel_rfl) (by kernel_rfl) (by kernel_rfl) (by kernel_rfl) B0 (fun _ _ => ex_u8or 5 5 (.tmp 99) (.tmp 101) (by kernel_rfl) a15 ((k * 16 : Nat) : Int) (v.toNat : Int) (by kernel_rfl) (by kernel_rfl) (by kernel_rfl) hor) ?_
      refine held_free 8 (.string T) rfl (by kernel_rfl) (by kernel_rfl) (by kernel_rfl) (by kernel_rfl) B0 (fun _ _ => by kernel_rfl) ?_
      refine held_free 9 (.string R1) rfl (by kernel_rfl) (by kernel_rfl) (by kernel_rfl) (by kernel_rfl) B0 (fun W _ => ex_slice_back (v := .string T) (lv := .int .i64 1) 9 (.tmp 105) (.const (.int .i64 1)) (by kernel_rfl) (by kernel_rfl) (by kernel_rfl) (by rw [hR1]; exact str_back T h0T W)) ?_
      obtain ⟨W1, hW1⟩ : ∃ W1, W1 = W0.alloc (.cells #[.int .u8 (v.toNat : Int)] 5) := ⟨_, rfl⟩
      have B1 : Below wr.heap.size wr W1 := by rw [hW1]; exact B0.alloc B0.size _
      refine held_lone (v := .slice (some ⟨W0.heap.size, 0, none⟩) 1 1) (w' := W1) 6 rfl (by kernel_rfl) (by kernel_rfl) (by rw [hW1]; exact ex_build1 (.tmp 102) (by kernel_rfl) (v.toNat : Int) (by kernel_rfl)) B1 ?_
      refine held_lone (v := .string (txt [v])) (w' := W1) 7 rfl (by kernel_rfl) (by kernel_rfl) (ex_convert_to (v := .slice (some ⟨W0.heap.size, 0, none⟩) 1 1) 36 9 (.tmp 103) (by kernel_rfl) (by kernel_rfl) (by rw [hW1]; exact byte_text W0 v)) B1 ?_
      refine held_free 10 (.string U) rfl (by kernel_rfl) (by kernel_rfl) (by kernel_rfl) (by kernel_rfl) B1 (fun _ _ => ex_strcat 9 9 (.tmp 104) (.tmp 106) (by kernel_rfl) (txt [v]) R1 U (by kernel_rfl) (by kernel_rfl) (by rw [txt_size]; simp) (by have := H10.out; omega) hU) ?_
      refine held_free 11 (.string U) rfl (by kernel_rfl) (by kernel_rfl) (by kernel_rfl) (by kernel_rfl) B1 (fun _ _ => by kernel_rfl) ?_
      refine held_end (by kernel_rfl) ?_
      have HTB := Lib.hid (HT4.out.below B1)
      have HBB := Lib.hid (HB4.out.trans (B1.mono HB4.out.size))
      clear B0 B1 hW1 HT4 HB4 hc0 hc8 ha15 hor hR1 hR1s hU
      go_upto_region 17 with fail
      by_cases h1 : k = 1
      · subst h1
        have HQ := Lib.hid (show decV U = .tuple #[.agg (jnv z), .int .i64 0] by rw [HDU.out, if_pos rfl])
        go_wp2_with fail
        refine (Decode_any U (by have := HUS.out; omega) W1 HTB.out).mono ?_
        rintro e W5 ⟨rfl, b⟩
        rw [HQ.out]
        have HB6 := Lib.hid ((HBB.out.trans (b.mono HBB.out.size)).alloc (Nat.le_trans HBB.out.size b.size) (.cells (jnv z) 24))
        clear b
        go_wp2_with fail
        go_ret
        exact ⟨rfl, HB6.out⟩
      · have HQ := Lib.hid (show decV U = .tuple #[.agg (jnv z), .int .i64 7] by rw [HDU.out, if_neg h1])
        have ek : ((k : Int) == 1) = false := by rw [beq_eq_false_iff_ne]; omega
        clear h1
        go_wp2_with fail
        refine (Decode_any U (by have := HUS.out; omega) W1 HTB.out).mono ?_
        rintro e W5 ⟨rfl, b⟩
        rw [HQ.out]
        have HB6 := Lib.hid ((HBB.out.trans (b.mono HBB.out.size)).alloc (Nat.le_trans HBB.out.size b.size) (.cells (jnv z) 24))
        clear b
        go_wp2_with fail
        go_ret
        exact ⟨rfl, HB6.out⟩
theorem walk (d : Dr) (hd : d.Ok) (at_ : Int) (hat : 0 ≤ at_ ∧ at_ ≤ 255) (more : ByteArray) (hms : more.size ≤ 140737488351232) (sub : Int) (hsub : 0 ≤ sub ∧ sub ≤ 255) (w : World) (ht : Tbl w) :
    Calls Tryd.prog 7 #[.agg (drv d), .int .u8 at_, .string more, .int .u8 sub] w fun e w' => e = .returned (.bool true) ∧ Below w.heap.size w w' := by
  obtain ⟨n, rfl⟩ := Int.eq_ofNat_of_zero_le hat.1
  obtain ⟨m, rfl⟩ := Int.eq_ofNat_of_zero_le hsub.1
  exact walk_n d hd n (by omega) more hms m (by omega) w ht

set_option maxRecDepth 100000 in
theorem lifted (os : Os) (started : os.Started) (H : Type) (enc : TypeId × Value → H) :
    ReturnsInHanded {} Tryd.checked os 7 .any (fun w args => (Rows.joinCutSpec.pre enc Tryd.prog Tryd.f7 [] false w args ∧ laidMetH Tryd.prog laid1 w) ∧ sizedMet enc Tryd.prog Tryd.f7 (OpenSpec.ofChange Rows.joinCutSpec) false w args)
      (Rows.joinCutSpec.post enc Tryd.prog Tryd.f7 false true false false) := by
  refine returnsInHanded_of_change_and (C := Tryd.checked) (X := fun w _ => laidMetH Tryd.prog laid1 w) (fun _ _ _ hh h => h.of_heap hh) own started (by kernel_rfl) Tryd.func7
    (ChangeSpec.witness_shaped (enc := enc) (C := Tryd.checked) (os := os) (X := fun w _ => laidMetH Tryd.prog laid1 w) false (World.doorLaid Tryd.prog 400 os) #[.agg #[.int .u8 0, .int .u8 0, .bool false, .int .u32 0, .int .u32 0, .int .u8 0, .int .u8 0, .int .u8 0, .int .u8 0, .int .u8 0, .int .u8 0, .int .u8 0, .int .u8 0, .int .u8 0, .int .u8 0, .int .u8 0, .int .u8 0, .int .u8 0, .int .u8 0, .int .u8 0, .int .u8 0, .int .u8 0, .int .u8 0, .int .u8 0, .int .u8 0], .int .u8 0, .string ByteArray.empty, .int .u8 0] 8 rfl (World.shaped_of_RefB (by kernel_rfl) (by kernel_rfl)) (by kernel_rfl) (by kernel_rfl) (by kernel_rfl) (door_met os _)) ?_
  intro W base args ds gs before hval0 hW hcnd hsz0 hL _
  have hsz : (DataW.weightsEach Tryd.prog (Tryd.f7.params.toList ++ Rows.joinCutSpec.plain.varTypes Tryd.prog) (ds ++ gs)).all (· ≤ reachBytes) = true := hsz0
  have ht := table_of hL
  have hval : ∀ (j : Nat) t v, Tryd.f7.params[j]? = some t → args[j]? = some v → Value.okWide Tryd.prog W .any base t v := hval0
  have hW' := hW
  obtain ⟨p, q, hA0, hV, rfl, hfz, hnd⟩ := hW
  have hA : DataW.TrodAll enc Tryd.prog W 0 (fun _ => true) true Tryd.f7.params.toList args.toList ds p := hA0
  rw [Tryd.params7] at hA hval hsz
  obtain ⟨v0, vs0, d0, ds0, p0, q0, hargs, rfl, rfl, h0, r0⟩ := trodAll_cons hA
  obtain ⟨v1, vs1, d1, ds1, p1, q1, rfl, rfl, rfl, h1, r1⟩ := trodAll_cons r0
  obtain ⟨v2, vs2, d2, ds2, p2, q2, rfl, rfl, rfl, h2, r2⟩ := trodAll_cons r1
  obtain ⟨v3, vs3, d3, ds3, p3, q3, rfl, rfl, rfl, h3, r3⟩ := trodAll_cons r2
  obtain ⟨rfl, rfl, rfl⟩ := trodAll_nil r3
  obtain rfl : args = #[v0, v1, v2, v3] := by cases args; simp_all
  obtain ⟨rfl, rfl⟩ := trodVars_none hV
  have k0 := h0
  have lt0 : ∀ x ∈ p0, x.block < W.heap.size := by obtain ⟨m, hm⟩ := k0; exact DataW.trod_lt m _ _ _ hm
  obtain ⟨d, rfl, hd⟩ := open_draft (hval 0 33 v0 rfl rfl) h0
  obtain ⟨a1, rfl, rfl, rfl, w1⟩ := open_int Tryd.underlying5 (hval 1 5 v1 rfl rfl) h1
  obtain ⟨a2, rfl, rfl, rfl, w2⟩ := Go.ChangeMaps.open_string Tryd.underlying9 (hval 2 9 v2 rfl rfl) h2
  obtain ⟨a3, rfl, rfl, rfl, w3⟩ := open_int Tryd.underlying5 (hval 3 5 v3 rfl rfl) h3
  have z2 : a2.size ≤ 140737488351232 := by have := sized_string hsz (j := 2) (t := 9) rfl rfl; simpa [reachBytes] using this
  clear hA0 hval0
  simp only [List.append_nil] at hW'
  refine (walk d hd a1 (bounds_u8 w1) a2 z2 a3 (bounds_u8 w3) W ht).mono fun e W' ⟨he, bel⟩ => ?_
  subst he
  exact ⟨_, rfl, _, _, _, [], _, [], hW', trodAll_mk1 (shut_bool Tryd.underlying4 _), (trodAll_cons_mk (Below.trod laidOut (by kernel_rfl) (of_decide_eq_true (by kernel_rfl)) k0 bel lt0) (trodAll_cons_mk (shut_int Tryd.underlying5 w1) (trodAll_cons_mk (Go.ChangeMaps.shut_string Tryd.underlying9 w2) (trodAll_cons_mk (shut_int Tryd.underlying5 w3) trodAll_mk0)))), rfl, bel.frame _, fun h => by cases h⟩

theorem over : Rows.JoinCutSaid :=
  OpenClaim.holds_of_wide 7 Tryd.f7 rfl rfl rfl rfl rfl rfl rfl ⟨rfl, rfl, rfl, rfl, rfl⟩ rfl rfl rfl rfl rfl (by kernel_rfl) Tryd.func7 (by kernel_rfl)
    (of_decide_eq_true (by kernel_rfl)) (by unfold Func.isWrapper; first | (rw [if_pos (by decide +kernel)]; kernel_rfl) | (rw [if_neg (by decide +kernel)]; exact ⟨rfl, rfl⟩))
    (fun os started H enc _ => lifted os started H enc)

theorem proved : Rows.JoinCutCardSaid :=
  Claim7.holds_tied_plain_at .later [] [.data] true _ false
    over (fun _ h => by cases h) (by kernel_rfl) (fun _ h => by cases h) joinCut_row_tie rfl ⟨rfl, rfl⟩ (by kernel_rfl) rfl
    (fun f fn hf hfn => by
      obtain rfl : f = 7 := Option.some.inj ((show Tryd.prog.funcNamed "plait/plaitlaw10.JoinCut" = some 7 by kernel_rfl).symm.trans hf) |>.symm
      obtain rfl : fn = Tryd.f7 := (Option.some.inj (Tryd.func7.symm.trans hfn)).symm
      exact ⟨by kernel_rfl, fun j t ht => by
        rw [Tryd.params7] at ht
        have hm : t ∈ ([33, 5, 9, 5] : List TypeId) := by simpa using Array.mem_of_getElem? ht
        have hall : (([33, 5, 9, 5] : List TypeId).all fun u => !Tryd.prog.wantsStandIn u) = true := by kernel_rfl
        exact (show Tryd.prog.wantsStandIn t = false by simpa using List.all_eq_true.1 hall t hm)⟩)
    (by kernel_rfl)
#print axioms proved
end Go.Proofs.YthnokkcpmikajaaDoor.joinCut
