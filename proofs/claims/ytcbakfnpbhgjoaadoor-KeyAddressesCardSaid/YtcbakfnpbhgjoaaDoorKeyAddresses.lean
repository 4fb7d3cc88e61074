/-
  Codes of addresses are as the document says: of any ones (statement KeyAddresses, promise P8.3), of all pairs of keys, and addresses, without condition but the tables' own initial values, which the card ties to the program's text.
-/
import Derived.Test.YtcbakfnpbhgjoaaDoorKeyMore
import Derived.Test.YtcbakfnpbhgjoaaDoorKeyRefs
namespace Go.Proofs.YtcbakfnpbhgjoaaDoor.keyAddresses
open Go.ChangeShapes Go.WideShapes Go.ChangeAt Go.RowKit
set_option linter.unusedVariables false

/-- A front of a text, 100 bytes at most. -/
theorem front (s : ByteArray) : ∃ (m : Nat) (z : ByteArray), z = s.extract 0 m ∧ z.size = m ∧ (if (100 : Int) < (s.size : Int) then (100 : Int) else (s.size : Int)) = (m : Int) ∧ (m : Int) ≤ s.size ∧ m ≤ 100 := by
  refine ⟨min s.size 100, _, rfl, ?_, ?_, ?_, ?_⟩
  · rw [ByteArray.size_extract]; omega
  · split <;> omega
  · omega
  · omega

set_option maxHeartbeats 1000000 in
set_option maxRecDepth 100000 in
theorem walk (f s : Nat) (hf : f ≤ 18446744073709551615) (hs : s ≤ 18446744073709551615) (a b : Nat) (id : Int) (ip : ByteArray) (zip : ip.size ≤ 140737488351232) (h : Bool) (port : Int) (w : World) (ht : Tbl w) :
    Calls Tryd.prog 5 #[.agg #[.int .u64 (f : Int), .int .u64 (s : Int), .int .u32 (a : Int), .int .u32 (b : Int)], adr id ip h port] w fun e w' => e = .returned (.bool true) ∧ Below w.heap.size w w' := by
  obtain ⟨m0, F, hF, nF, mF, lF, uF⟩ := front ip
  obtain ⟨i, hi⟩ : ∃ i : Nat, id % 256 = (i : Int) := ⟨(id % 256).toNat, by omega⟩
  obtain ⟨p, hp⟩ : ∃ p : Nat, (if h then port % 65536 else 0) = (p : Int) := ⟨(if h then port % 65536 else 0).toNat, by cases h <;> simp <;> omega⟩
  obtain ⟨T, hT⟩ : ∃ T, T = txt (told f s i F.data.toList p) := ⟨_, rfl⟩
  have HTT := Lib.hid hT
  have HI := Lib.hid hi
  have HP := Lib.hid hp
  obtain ⟨w0, hw0⟩ : ∃ w0, w0 = w.alloc (.cells #[.int .u64 (f : Int), .int .u64 (s : Int), .int .u32 (a : Int), .int .u32 (b : Int)] 30) := ⟨_, rfl⟩
  have s0 : w0.heap.size = w.heap.size + 1 := by rw [hw0]; exact World.size_alloc _ _
  have n0 : Blk w0 w.heap.size 30 #[.int .u64 (f : Int), .int .u64 (s : Int), .int .u32 (a : Int), .int .u32 (b : Int)] := by rw [hw0]; exact Blk.new _ _ _
  have b0 : Below w.heap.size w w0 := by rw [hw0]; exact (Below.refl _ _).alloc (Nat.le_refl _) _
  obtain ⟨V, hV⟩ : ∃ V, V = w0.alloc (.cells #[.int .i64 id, .string F, .bool h, .int .i64 port] 38) := ⟨_, rfl⟩
  have n1 : Blk V w0.heap.size 38 #[.int .i64 id, .string F, .bool h, .int .i64 port] := by rw [hV]; exact Blk.new _ _ _
  have b1 : Below w0.heap.size w0 V := by rw [hV]; exact (Below.refl _ _).alloc (Nat.le_refl _) _
  have HBV := Lib.hid (b0.trans (b1.mono b0.size))
  have HTV := Lib.hid (ht.below HBV.out)
  have HPV := Lib.hid (n0.below b1 n0.lt)
  have HVE := Lib.hid hV
  obtain ⟨gx, hgx⟩ : ∃ gx, gx = w0.heap.size := ⟨_, rfl⟩
  have HXV := Lib.hid (show Blk V gx 38 #[.int .i64 id, .string F, .bool h, .int .i64 port] by rw [hgx]; exact n1)
  have HG := Lib.hid hgx
  have ew0 := hw0.symm
  have eF := hF.symm
  have n100 : min (ip.size : Int) 100 = (m0 : Int) := by split at mF <;> omega
  have m100 : min (100 : Int) (ip.size : Int) = (m0 : Int) := by split at mF <;> omega
  clear ht hi hp hT hw0 n0 b0 hV n1 b1 hgx hF
  go_enter Tryd.func5, Tryd.ntmps5
  go_wp2_with fail
  rw [← HVE.out, show w.heap.size + 1 = gx by rw [HG.out, s0]]
  clear HVE HG s0 ew0 eF n100 m100 mF lF
  have B0 : Below V.heap.size V V.drew := (Below.refl _ V).drew
  refine held_start (fun W => Below V.heap.size V W) (by kernel_rfl) (n := 17) rfl ?_
  obtain ⟨W0, hW0⟩ : ∃ W0, W0 = V.drew := ⟨_, rfl⟩
  rw [← hW0] at B0 ⊢
  clear hW0
  refine held_free 0 (.pointer (some ⟨w.heap.size, 0, none⟩)) rfl (by kernel_rfl) (by kernel_rfl) (by kernel_rfl) (by kernel_rfl) B0 (fun _ _ => ex_field (v := .pointer (some ⟨w.heap.size, 0, none⟩)) 30 (.tmp 2) 0 (by kernel_rfl) (by kernel_rfl) (by kernel_rfl)) ?_
  refine held_free 1 (.int .u64 (f : Int)) rfl (by kernel_rfl) (by kernel_rfl) (by kernel_rfl) (by kernel_rfl) B0 (fun W b => ex_load 22 (.tmp 13) (by kernel_rfl) ⟨w.heap.size, 0, none⟩ (by kernel_rfl) (by kernel_rfl) ((HPV.out.below b HPV.out.lt).cell 0)) ?_
  refine held_free 2 (.pointer (some ⟨w.heap.size, 1, none⟩)) rfl (by kernel_rfl) (by kernel_rfl) (by kernel_rfl) (by kernel_rfl) B0 (fun _ _ => ex_field (v := .pointer (some ⟨w.heap.size, 0, none⟩)) 30 (.tmp 2) 1 (by kernel_rfl) (by kernel_rfl) (by kernel_rfl)) ?_
  refine held_free 3 (.int .u64 (s : Int)) rfl (by kernel_rfl) (by kernel_rfl) (by kernel_rfl) (by kernel_rfl) B0 (fun W b => ex_load 22 (.tmp 15) (by kernel_rfl) ⟨w.heap.size, 1, none⟩ (by kernel_rfl) (by kernel_rfl) ((HPV.out.below b HPV.out.lt).cell 1)) ?_
  refine held_free 4 (.agg #[.int .i64 id, .string F, .bool h, .int .i64 port]) rfl (by kernel_rfl) (by kernel_rfl) (by kernel_rfl) (by kernel_rfl) B0 (fun W b => exec_row_ 38 (.tmp 3) (by kernel_rfl) (gx) (by kernel_rfl) 38 _ (0, 0) _ (HXV.out.below b HXV.out.lt) Tryd.underlying38 rfl (by kernel_rfl)) ?_
  refine held_free 6 (.pointer (some ⟨w.heap.size, 0, none⟩)) rfl (by kernel_rfl) (by kernel_rfl) (by kernel_rfl) (by kernel_rfl) B0 (fun _ _ => ex_field (v := .pointer (some ⟨w.heap.size, 0, none⟩)) 30 (.tmp 2) 0 (by kernel_rfl) (by kernel_rfl) (by kernel_rfl)) ?_
  refine held_free 7 (.int .u64 (f : Int)) rfl (by kernel_rfl) (by kernel_rfl) (by kernel_rfl) (by kernel_rfl) B0 (fun W b => ex_load 22 (.tmp 19) (by kernel_rfl) ⟨w.heap.size, 0, none⟩ (by kernel_rfl) (by kernel_rfl) ((HPV.out.below b HPV.out.lt).cell 0)) ?_
  refine held_free 8 (.pointer (some ⟨w.heap.size, 1, none⟩)) rfl (by kernel_rfl) (by kernel_rfl) (by kernel_rfl) (by kernel_rfl) B0 (fun _ _ => ex_field (v := .pointer (some ⟨w.heap.size, 0, none⟩)) 30 (.tmp 2) 1 (by kernel_rfl) (by kernel_rfl) (by kernel_rfl)) ?_
  refine held_free 9 (.int .u64 (s : Int)) rfl (by kernel_rfl) (by kernel_rfl) (by kernel_rfl) (by kernel_rfl) B0 (fun W b => ex_load 22 (.tmp 21) (by kernel_rfl) ⟨w.heap.size, 1, none⟩ (by kernel_rfl) (by kernel_rfl) ((HPV.out.below b HPV.out.lt).cell 1)) ?_
  refine held_free 10 (.agg #[.int .i64 id, .string F, .bool h, .int .i64 port]) rfl (by kernel_rfl) (by kernel_rfl) (by kernel_rfl) (by kernel_rfl) B0 (fun W b => exec_row_ 38 (.tmp 3) (by kernel_rfl) (gx) (by kernel_rfl) 38 _ (0, 0) _ (HXV.out.below b HXV.out.lt) Tryd.underlying38 rfl (by kernel_rfl)) ?_
  refine held_call 5 rfl (by kernel_rfl) (by kernel_rfl) (by kernel_rfl) (Address_any f s hf hs id F (by omega) h port i p HI.out HP.out T HTT.out _ (HTV.out.below B0)) (fun w' h => bel_in B0 h) ?_
  intro W1 hW1
  have B1 := bel_in B0 hW1
  clear hW1 B0
  refine held_call 11 rfl (by kernel_rfl) (by kernel_rfl) (by kernel_rfl) (AddressR_any f s hf hs id F (by omega) h port i p HI.out HP.out T HTT.out _) (fun w' h => bel_in B1 h) ?_
  intro W2 hW2
  have B2 := bel_in B1 hW2
  clear hW2 B1
  refine held_free 12 (.bool true) rfl (by kernel_rfl) (by kernel_rfl) (by kernel_rfl) (by kernel_rfl) B2 (fun _ _ => ex_streq 9 9 (.tmp 18) (.tmp 24) (by kernel_rfl) (T) (T) (by kernel_rfl) (by kernel_rfl) (by kernel_rfl) rfl) ?_
  refine held_free 13 (.bool true) rfl (by kernel_rfl) (by kernel_rfl) (by kernel_rfl) (by kernel_rfl) B2 (fun _ _ => by kernel_rfl) ?_
  refine held_call 14 rfl (by kernel_rfl) (by kernel_rfl) (by kernel_rfl) (works_t _ (HTV.out.below B2)) (fun w' h => bel_in B2 h) ?_
  intro W3 hW3
  have B3 := bel_in B2 hW3
  clear hW3 B2
  refine held_free 15 (.bool true) rfl (by kernel_rfl) (by kernel_rfl) (by kernel_rfl) (by kernel_rfl) B3 (fun _ _ => by kernel_rfl) ?_
  refine held_free 16 (.bool true) rfl (by kernel_rfl) (by kernel_rfl) (by kernel_rfl) (by kernel_rfl) B3 (fun _ _ => by kernel_rfl) ?_
  refine held_end (by kernel_rfl) ?_
  go_wp2_with fail
  exact ret_slot 4 (.bool true) (by kernel_rfl) (by kernel_rfl) (by kernel_rfl) ⟨rfl, HBV.out.trans (B3.mono HBV.out.size)⟩

set_option maxRecDepth 100000 in
theorem lifted (os : Os) (started : os.Started) (H : Type) (enc : TypeId × Value → H) :
    ReturnsInHanded {} Tryd.checked os 5 .any (fun w args => (Rows.keyAddressesSpec.pre enc Tryd.prog Tryd.f5 [] false w args ∧ laidMetH Tryd.prog laid1 w) ∧ sizedMet enc Tryd.prog Tryd.f5 (OpenSpec.ofChange Rows.keyAddressesSpec) false w args)
      (Rows.keyAddressesSpec.post enc Tryd.prog Tryd.f5 false true false false) := by
  refine returnsInHanded_of_change_and (C := Tryd.checked) (X := fun w _ => laidMetH Tryd.prog laid1 w) (fun _ _ _ hh h => h.of_heap hh) own started (by kernel_rfl) Tryd.func5
    (ChangeSpec.witness_shaped (enc := enc) (C := Tryd.checked) (os := os) (X := fun w _ => laidMetH Tryd.prog laid1 w) false (World.doorLaid Tryd.prog 400 os) #[.agg #[.int .u64 0, .int .u64 0, .int .u32 0, .int .u32 0], .agg #[.int .i64 0, .string ByteArray.empty, .bool false, .int .i64 0]] 8 rfl (World.shaped_of_RefB (by kernel_rfl) (by kernel_rfl)) (by kernel_rfl) (by kernel_rfl) (by kernel_rfl) (door_met os _)) ?_
  intro W base args ds gs before hval0 hW hcnd hsz0 hL _
  have hsz : (DataW.weightsEach Tryd.prog (Tryd.f5.params.toList ++ Rows.keyAddressesSpec.plain.varTypes Tryd.prog) (ds ++ gs)).all (· ≤ reachBytes) = true := hsz0
  have ht := table_of hL
  have hval : ∀ (j : Nat) t v, Tryd.f5.params[j]? = some t → args[j]? = some v → Value.okWide Tryd.prog W .any base t v := hval0
  have hW' := hW
  obtain ⟨p, q, hA0, hV, rfl, hfz, hnd⟩ := hW
  have hA : DataW.TrodAll enc Tryd.prog W 0 (fun _ => true) true Tryd.f5.params.toList args.toList ds p := hA0
  rw [Tryd.params5] at hA hval hsz
  obtain ⟨v0, vs0, d0, ds0, p0, q0, hargs, rfl, rfl, h0, r0⟩ := trodAll_cons hA
  obtain ⟨v1, vs1, d1, ds1, p1, q1, rfl, rfl, rfl, h1, r1⟩ := trodAll_cons r0
  obtain ⟨rfl, rfl, rfl⟩ := trodAll_nil r1
  obtain rfl : args = #[v0, v1] := by cases args; simp_all
  obtain ⟨rfl, rfl⟩ := trodVars_none hV
  have k0 := h0
  have lt0 : ∀ x ∈ p0, x.block < W.heap.size := by obtain ⟨m, hm⟩ := k0; exact DataW.trod_lt m _ _ _ hm
  obtain ⟨f, s, a, b, rfl, hf, hs, ha, hb⟩ := open_keys (hval 0 30 v0 rfl rfl) h0
  have k1 := h1
  have lt1 : ∀ x ∈ p1, x.block < W.heap.size := by obtain ⟨m, hm⟩ := k1; exact DataW.trod_lt m _ _ _ hm
  obtain ⟨id, ip, hp, port, rfl, hid, hport, parts, hparts, hpart1⟩ := open_adr (hval 1 38 v1 rfl rfl) h1
  have zip : ip.size ≤ 140737488351232 := by have := agg_string hsz (j := 1) (k := 1) (t := 38) (tk := 9) rfl (by rw [hparts]; rfl) Tryd.underlying38 (by kernel_rfl) hpart1; simpa [reachBytes] using this
  clear hA0 hval0
  simp only [List.append_nil] at hW'
  refine (walk f s hf hs a b id ip zip hp port W ht).mono fun e W' ⟨he, bel⟩ => ?_
  subst he
  exact ⟨_, rfl, _, _, _, [], _, [], hW', trodAll_mk1 (shut_bool Tryd.underlying4 _), (trodAll_cons_mk (Below.trod laidOut (by kernel_rfl) (of_decide_eq_true (by kernel_rfl)) k0 bel lt0) (trodAll_cons_mk (Below.trod laidOut (by kernel_rfl) (of_decide_eq_true (by kernel_rfl)) k1 bel lt1) trodAll_mk0)), rfl, bel.frame _, fun h => by cases h⟩

theorem over : Rows.KeyAddressesSaid :=
  OpenClaim.holds_of_wide 5 Tryd.f5 rfl rfl rfl rfl rfl rfl rfl ⟨rfl, rfl, rfl, rfl, rfl⟩ rfl rfl rfl rfl rfl (by kernel_rfl) Tryd.func5 (by kernel_rfl)
    (of_decide_eq_true (by kernel_rfl)) (by unfold Func.isWrapper; first | (rw [if_pos (by decide +kernel)]; kernel_rfl) | (rw [if_neg (by decide +kernel)]; exact ⟨rfl, rfl⟩))
    (fun os started H enc _ => lifted os started H enc)

theorem proved : Rows.KeyAddressesCardSaid :=
  Claim7.holds_tied_plain_at .later [] [.data, .data] true _ false
    over (fun _ h => by cases h) (by kernel_rfl) (fun _ h => by cases h) keyAddresses_row_tie rfl ⟨rfl, rfl⟩ (by kernel_rfl) rfl
    (fun f fn hf hfn => by
      obtain rfl : f = 5 := Option.some.inj ((show Tryd.prog.funcNamed "plait/plaitlaw08.KeyAddresses" = some 5 by kernel_rfl).symm.trans hf) |>.symm
      obtain rfl : fn = Tryd.f5 := (Option.some.inj (Tryd.func5.symm.trans hfn)).symm
      exact ⟨by kernel_rfl, fun j t ht => by
        rw [Tryd.params5] at ht
        have hm : t ∈ ([30, 38] : List TypeId) := by simpa using Array.mem_of_getElem? ht
        have hall : (([30, 38] : List TypeId).all fun u => !Tryd.prog.wantsStandIn u) = true := by kernel_rfl
        exact (show Tryd.prog.wantsStandIn t = false by simpa using List.all_eq_true.1 hall t hm)⟩)
    (by kernel_rfl)
#print axioms proved
end Go.Proofs.YtcbakfnpbhgjoaaDoor.keyAddresses
