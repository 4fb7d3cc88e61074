/-
  The first and the last bytes of a digest, and whether texts are the same, are as the document says (statement HmacEnds, promise P7.2), of all digests, numbers and texts, without condition but the tables' own initial values, which the card ties to the program's text.
-/
import Derived.Test.YtaeedicihildoaaDoorDigOpen
import Derived.Test.YtaeedicihildoaaDoorHmacWorks
import Derived.Test.YtaeedicihildoaaDoorHmacRefs
import Derived.Test.YtaeedicihildoaaDoorTextOps
namespace Go.Proofs.YtaeedicihildoaaDoor.hmacEnds
open Go.ChangeShapes Go.WideShapes Go.ChangeAt Go.RowKit
set_option linter.unusedVariables false

/-- The array of the numbers that are asked. -/
theorem idx3 (k0 k1 k2 : Int) (j : Nat) (hj : j < 3) : ∃ x : Int, (x = k0 ∨ x = k1 ∨ x = k2) ∧ ∀ W : World, (Instr.index 27 (.agg #[.int .i64 k0, .int .i64 k1, .int .i64 k2]) (.int .i64 (j : Int))).run Tryd.prog W = .ok (.int .i64 x) W := by
  match j, hj with
  | 0, _ => exact ⟨k0, .inl rfl, fun W => by kernel_rfl⟩
  | 1, _ => exact ⟨k1, .inr (.inl rfl), fun W => by kernel_rfl⟩
  | 2, _ => exact ⟨k2, .inr (.inr rfl), fun W => by kernel_rfl⟩

set_option maxHeartbeats 4000000 in
set_option maxRecDepth 100000 in
theorem walk (d : List UInt8) (hd : d.length = 32) (n : Int) (r1 : -9223372036854775808 ≤ n ∧ n ≤ 9223372036854775807) (a : ByteArray) (za : a.size ≤ 140737488351232) (b : ByteArray) (zb : b.size ≤ 140737488351232) (w : World) (ht : Tbl w) :
    Calls Tryd.prog 4 #[.agg (byv d), .int .i64 n, .string a, .string b] w fun e w' => e = .returned (.bool true) ∧ Below w.heap.size w w' := by
  obtain ⟨D, hD⟩ : ∃ D, D = byv d := ⟨_, rfl⟩
  have HDK := Lib.hid (show DOk D by rw [hD]; exact dok _ hd)
  have HD := Lib.hid hD
  rw [← hD]
  have hb0 := (Below.refl w.heap.size w).alloc (Nat.le_refl _) (.cells D 23)
  obtain ⟨m, hm⟩ : ∃ m, m = n.tmod 40 := ⟨_, rfl⟩
  have hm40 : -40 < m ∧ m < 40 := by rw [hm]; exact ⟨by have := Int.tmod_lt_of_pos (-n) (show (0 : Int) < 40 by decide); rw [Int.neg_tmod] at this; omega, Int.tmod_lt_of_pos n (by decide)⟩
  have hmt := hm.symm
  obtain ⟨s, hs⟩ : ∃ s, s = 32 - m := ⟨_, rfl⟩
  have ws : IntKind.i64.wrap ((32 : Int) - m) = s := by rw [IntKind.wrap_i64]; omega
  have ws2 : (32 : Int) - m = s := hs.symm
  have ws3 : wrap64 s = s := by unfold wrap64; omega
  have HX := Lib.hid (idx3 n m s)
  obtain ⟨W0, hW0⟩ : ∃ W0, W0 = w.alloc (.cells D 23) := ⟨_, rfl⟩
  obtain ⟨g, hg⟩ : ∃ g, g = w.heap.size := ⟨_, rfl⟩
  have HBK0 := Lib.hid (show Blk W0 g 23 D by rw [hW0, hg]; exact Blk.new w _ _)
  have HT0 := Lib.hid (show Tbl W0 by rw [hW0]; exact ht.alloc _)
  have HB0 := Lib.hid (show Below w.heap.size w W0 by rw [hW0]; exact hb0)
  have HW0 := Lib.hid hW0
  have HG := Lib.hid hg
  have hgl : g < W0.heap.size := HBK0.out.lt
  have HGL := Lib.hid hgl
  have HR := Lib.hid (show ∀ x : Int, (x = n ∨ x = m ∨ x = s) → -9223372036854775808 ≤ x ∧ x ≤ 9223372036854775807 by intro x hx; rcases hx with h | h | h <;> omega)
  clear hD hb0 hW0 ht hm hg hs hm40 hgl
  go_enter Tryd.func4, Tryd.ntmps4
  go_wp2_with fail
  rw [← HW0.out, ← HG.out]
  clear HW0 ws ws2 ws3 hmt
  go_loopw [18] (fun i wr => ∃ j : Nat, j ≤ 3 ∧ i = .int .i64 (j : Int) ∧ Below W0.heap.size W0 wr) (fun i _ => 3 - (intOf i).toNat)
  case atStart => exact ⟨0, by decide, rfl, Below.refl _ _⟩
  case round =>
    obtain ⟨j, hj, rfl, hbl⟩ := hrel
    have HBK := Lib.hid (HBK0.out.below hbl HGL.out)
    have HBL := Lib.hid hbl
    clear hbl
    by_cases hlt : j < 3
    · obtain ⟨x, hx, ix⟩ := HX.out j hlt
      obtain ⟨x0, x1⟩ := HR.out x hx
      have CL0 := fun W => Left_any d hd x x0 x1 W
      have CR0 := fun W => Right_any d hd x x0 x1 W
      have RL0 := fun W => LeftR d hd x x0 x1 W
      have RR0 := fun W => RightR d hd x x0 x1 W
      obtain ⟨T1, hT1⟩ : ∃ A, A = txt (d.take (cl x)) := ⟨_, rfl⟩
      obtain ⟨T2, hT2⟩ : ∃ A, A = txt (d.drop (32 - cl x)) := ⟨_, rfl⟩
      have CL : ∀ W, Calls Tryd.prog 11 #[.agg D, .int .i64 x] W fun e w' => e = .returned (.string T1) ∧ Below W.heap.size W w' := fun W => by
        have := CL0 W; rwa [← HD.out, ← hT1] at this
      have CR : ∀ W, Calls Tryd.prog 13 #[.agg D, .int .i64 x] W fun e w' => e = .returned (.string T2) ∧ Below W.heap.size W w' := fun W => by
        have := CR0 W; rwa [← HD.out, ← hT2] at this
      have RL : ∀ W, Calls Tryd.prog 12 #[.agg D, .int .i64 x] W fun e w' => e = .returned (.string T1) ∧ Below W.heap.size W w' := fun W => by
        have := RL0 W; rwa [← HD.out, ← hT1] at this
      have RR : ∀ W, Calls Tryd.prog 14 #[.agg D, .int .i64 x] W fun e w' => e = .returned (.string T2) ∧ Below W.heap.size W w' := fun W => by
        have := RR0 W; rwa [← HD.out, ← hT2] at this
      clear CL0 CR0 RL0 RR0 hT1 hT2 hx
      go_wp2_with fail
      have BW : Below wr.heap.size wr wr.drew := (Below.refl _ wr).drew
      refine held_start (fun W => Below wr.heap.size wr W) (by kernel_rfl) (n := 16) rfl ?_
      obtain ⟨W9, hW9⟩ : ∃ W9, W9 = wr.drew := ⟨_, rfl⟩
      rw [← hW9] at BW ⊢
      clear hW9
      refine held_free 0 (.agg D) rfl (by kernel_rfl) (by kernel_rfl) (by kernel_rfl) (by kernel_rfl) BW (fun W b => exec_row_ 23 (.tmp 4) (by kernel_rfl) g (by kernel_rfl) 23 D (0, 0) _ (HBK.out.below b HBK.out.lt) digest_under rfl HDK.out.info) ?_
      refine held_free 1 (.int .i64 x) rfl (by kernel_rfl) (by kernel_rfl) (by kernel_rfl) (by kernel_rfl) BW (fun _ _ => by kernel_rfl) ?_
      refine held_free 3 (.agg D) rfl (by kernel_rfl) (by kernel_rfl) (by kernel_rfl) (by kernel_rfl) BW (fun W b => exec_row_ 23 (.tmp 4) (by kernel_rfl) g (by kernel_rfl) 23 D (0, 0) _ (HBK.out.below b HBK.out.lt) digest_under rfl HDK.out.info) ?_
      refine held_free 4 (.int .i64 x) rfl (by kernel_rfl) (by kernel_rfl) (by kernel_rfl) (by kernel_rfl) BW (fun _ _ => by kernel_rfl) ?_
      refine held_call 2 rfl (by kernel_rfl) (by kernel_rfl) (by kernel_rfl) (CL _) (fun w' h => bel_in BW h) ?_
      intro q2 hq2
      have B2 := bel_in BW hq2
      refine held_call 5 rfl (by kernel_rfl) (by kernel_rfl) (by kernel_rfl) (RL _) (fun w' h => bel_in B2 h) ?_
      intro q5 hq5
      have B5 := bel_in B2 hq5
      refine held_free 6 (.bool false) rfl (by kernel_rfl) (by kernel_rfl) (by kernel_rfl) (by kernel_rfl) B5 (fun W _ => ex_strneq 9 9 (.tmp 23) (.tmp 26) (by kernel_rfl) T1 T1 (by kernel_rfl) (by kernel_rfl) Tryd.underlying9 rfl) ?_
      refine held_free 7 (.bool false) rfl (by kernel_rfl) (by kernel_rfl) (by kernel_rfl) (by kernel_rfl) B5 (fun _ _ => by kernel_rfl) ?_
      refine held_free 8 (.agg D) rfl (by kernel_rfl) (by kernel_rfl) (by kernel_rfl) (by kernel_rfl) B5 (fun W b => exec_row_ 23 (.tmp 4) (by kernel_rfl) g (by kernel_rfl) 23 D (0, 0) _ (HBK.out.below b HBK.out.lt) digest_under rfl HDK.out.info) ?_
      refine held_free 9 (.int .i64 x) rfl (by kernel_rfl) (by kernel_rfl) (by kernel_rfl) (by kernel_rfl) B5 (fun _ _ => by kernel_rfl) ?_
      refine held_free 11 (.agg D) rfl (by kernel_rfl) (by kernel_rfl) (by kernel_rfl) (by kernel_rfl) B5 (fun W b => exec_row_ 23 (.tmp 4) (by kernel_rfl) g (by kernel_rfl) 23 D (0, 0) _ (HBK.out.below b HBK.out.lt) digest_under rfl HDK.out.info) ?_
      refine held_free 12 (.int .i64 x) rfl (by kernel_rfl) (by kernel_rfl) (by kernel_rfl) (by kernel_rfl) B5 (fun _ _ => by kernel_rfl) ?_
      refine held_call 10 rfl (by kernel_rfl) (by kernel_rfl) (by kernel_rfl) (CR _) (fun w' h => bel_in B5 h) ?_
      intro q10 hq10
      have B10 := bel_in B5 hq10
      refine held_call 13 rfl (by kernel_rfl) (by kernel_rfl) (by kernel_rfl) (RR _) (fun w' h => bel_in B10 h) ?_
      intro q13 hq13
      have B13 := bel_in B10 hq13
      refine held_free 14 (.bool false) rfl (by kernel_rfl) (by kernel_rfl) (by kernel_rfl) (by kernel_rfl) B13 (fun W _ => ex_strneq 9 9 (.tmp 31) (.tmp 34) (by kernel_rfl) T2 T2 (by kernel_rfl) (by kernel_rfl) Tryd.underlying9 rfl) ?_
      refine held_free 15 (.bool false) rfl (by kernel_rfl) (by kernel_rfl) (by kernel_rfl) (by kernel_rfl) B13 (fun _ _ => by kernel_rfl) ?_
      refine held_end_at ⟨#[.agg D, .int .i64 n, .string a, .string b, .pointer (some ⟨g, 0, none⟩), undef, undef, undef, u8, undef, .int .i64 x, .int .i64 n, .int .i64 n, .int .i64 m, .int .i64 n, .int .i64 m, .int .i64 (wrap64 s), .agg #[.int .i64 n, .int .i64 m, .int .i64 s], .int .i64 (j : Int), .bool (decide ((j : Int) < 3)), .int .i64 x, .agg D, .int .i64 x, .string T1, .agg D, .int .i64 x, .string T1, .bool false, .bool false, .agg D, .int .i64 x, .string T2, .agg D, .int .i64 x, .string T2, .bool false, .bool false, u37, undef, undef, undef, undef, undef, undef, undef, undef, undef, undef, undef, undef, undef, undef, undef, undef, undef, undef, undef, undef, undef, undef], []⟩ (by kernel_rfl) (by kernel_rfl) ?_
      have HE := Lib.hid (HBL.out.trans (B13.mono HBL.out.size))
      clear BW CL CR RL RR
      go_wp2_with fail
      exact ⟨⟨j + 1, by omega, by rw [Int.natCast_add]; rfl, HE.out⟩, by simp [intOf]; omega⟩
    · obtain rfl : j = 3 := by omega
      have HT := Lib.hid (HT0.out.below HBL.out)
      have HB := Lib.hid (HB0.out.trans (HBL.out.mono HB0.out.size))
      clear hlt HBL HBK HT0 HB0 HBK0
      have sc : a.size + (ByteArray.mk #[0]).size ≤ 9223372036854775807 := by show a.size + 1 ≤ _; omega
      have hcz : (a ++ ByteArray.mk #[0]).size = a.size + 1 := by rw [ByteArray.size_append]; rfl
      have hcn : (false = true) ↔ a = a ++ ByteArray.mk #[0] := by
        refine ⟨fun h => (by cases h), fun h => ?_⟩
        have := congrArg ByteArray.size h
        rw [hcz] at this; omega
      have hcat := fun W => run_string_add_sum (P := Tryd.prog) W a (ByteArray.mk #[0]) (by show a.size + 1 ≤ _; omega)
      have HCAT := Lib.hid hcat
      by_cases hab : a = b
      · subst hab
        go_wp2_with fail
        refine (Same_any a a true (by simp) (by omega) (by omega) wr).mono ?_
        rintro e W' ⟨rfl, rfl⟩
        go_wp2_with fail
        refine (Same_any a a true (by simp) (by omega) (by omega) wr).mono ?_
        rintro e W' ⟨rfl, rfl⟩
        go_wp2_with fail
        refine (Same_any a (a ++ ByteArray.mk #[0]) false hcn (by omega) (by omega) wr).mono ?_
        rintro e W' ⟨rfl, rfl⟩
        go_wp2_with fail
        refine (works_t wr HT.out).mono ?_
        rintro e W' ⟨rfl, b9⟩
        have HF := Lib.hid (HB.out.trans (b9.mono HB.out.size))
        clear b9
        go_wp2_with fail
        go_ret
        exact ⟨rfl, HF.out⟩
      · have hne : ¬ a.toList = b.toList := by
          rw [ByteArray.toList_eq, ByteArray.toList_eq]; exact fun h => hab (txt_ext h)
        go_wp2_with fail
        refine (Same_any a b false ⟨fun h => (by cases h), fun h => absurd h hab⟩ (by omega) (by omega) wr).mono ?_
        rintro e W' ⟨rfl, rfl⟩
        go_wp2_with fail
        refine (Same_any a a true (by simp) (by omega) (by omega) wr).mono ?_
        rintro e W' ⟨rfl, rfl⟩
        go_wp2_with fail
        refine (Same_any a (a ++ ByteArray.mk #[0]) false hcn (by omega) (by omega) wr).mono ?_
        rintro e W' ⟨rfl, rfl⟩
        go_wp2_with fail
        refine (works_t wr HT.out).mono ?_
        rintro e W' ⟨rfl, b9⟩
        have HF := Lib.hid (HB.out.trans (b9.mono HB.out.size))
        clear b9
        go_wp2_with fail
        go_ret
        exact ⟨ret_bool (by simp [hne]), HF.out⟩

set_option maxRecDepth 100000 in
theorem lifted (os : Os) (started : os.Started) (H : Type) (enc : TypeId × Value → H) :
    ReturnsInHanded {} Tryd.checked os 4 .any (fun w args => (Rows.hmacEndsSpec.pre enc Tryd.prog Tryd.f4 [] false w args ∧ laidMetH Tryd.prog laid1 w) ∧ sizedMet enc Tryd.prog Tryd.f4 (OpenSpec.ofChange Rows.hmacEndsSpec) false w args)
      (Rows.hmacEndsSpec.post enc Tryd.prog Tryd.f4 false true false false) := by
  refine returnsInHanded_of_change_and (C := Tryd.checked) (X := fun w _ => laidMetH Tryd.prog laid1 w) (fun _ _ _ hh h => h.of_heap hh) own started (by kernel_rfl) Tryd.func4
    (ChangeSpec.witness_shaped (enc := enc) (C := Tryd.checked) (os := os) (X := fun w _ => laidMetH Tryd.prog laid1 w) false (World.doorLaid Tryd.prog 400 os) #[.agg (byv (List.replicate 32 0)), .int .i64 0, .string ByteArray.empty, .string ByteArray.empty] 8 rfl (World.shaped_of_RefB (by kernel_rfl) (by kernel_rfl)) (by kernel_rfl) (by kernel_rfl) (by kernel_rfl) (door_met os _)) ?_
  intro W base args ds gs before hval0 hW hcnd hsz0 hL _
  have hsz : (DataW.weightsEach Tryd.prog (Tryd.f4.params.toList ++ Rows.hmacEndsSpec.plain.varTypes Tryd.prog) (ds ++ gs)).all (· ≤ reachBytes) = true := hsz0
  have ht := table_of hL
  have hval : ∀ (j : Nat) t v, Tryd.f4.params[j]? = some t → args[j]? = some v → Value.okWide Tryd.prog W .any base t v := hval0
  have hW' := hW
  obtain ⟨p, q, hA0, hV, rfl, hfz, hnd⟩ := hW
  have hA : DataW.TrodAll enc Tryd.prog W 0 (fun _ => true) true Tryd.f4.params.toList args.toList ds p := hA0
  rw [Tryd.params4] at hA hval hsz
  obtain ⟨v0, vs0, d0, ds0, p0, q0, hargs, rfl, rfl, h0, r0⟩ := trodAll_cons hA
  obtain ⟨v1, vs1, d1, ds1, p1, q1, rfl, rfl, rfl, h1, r1⟩ := trodAll_cons r0
  obtain ⟨v2, vs2, d2, ds2, p2, q2, rfl, rfl, rfl, h2, r2⟩ := trodAll_cons r1
  obtain ⟨v3, vs3, d3, ds3, p3, q3, rfl, rfl, rfl, h3, r3⟩ := trodAll_cons r2
  obtain ⟨rfl, rfl, rfl⟩ := trodAll_nil r3
  obtain rfl : args = #[v0, v1, v2, v3] := by cases args; simp_all
  obtain ⟨rfl, rfl⟩ := trodVars_none hV
  have k0 := h0
  have lt0 : ∀ x ∈ p0, x.block < W.heap.size := by obtain ⟨m, hm⟩ := k0; exact DataW.trod_lt m _ _ _ hm
  obtain ⟨l0, hl0, rfl⟩ := open_dig (hval 0 23 v0 rfl rfl) h0
  obtain ⟨a1, rfl, rfl, rfl, w1⟩ := open_int Tryd.underlying3 (hval 1 3 v1 rfl rfl) h1
  obtain ⟨a2, rfl, rfl, rfl, w2⟩ := Go.ChangeMaps.open_string Tryd.underlying9 (hval 2 9 v2 rfl rfl) h2
  obtain ⟨a3, rfl, rfl, rfl, w3⟩ := Go.ChangeMaps.open_string Tryd.underlying9 (hval 3 9 v3 rfl rfl) h3
  have z2 : a2.size ≤ 140737488351232 := by have := sized_string hsz (j := 2) (t := 9) rfl rfl; simpa [reachBytes] using this
  have z3 : a3.size ≤ 140737488351232 := by have := sized_string hsz (j := 3) (t := 9) rfl rfl; simpa [reachBytes] using this
  clear hA0 hval0
  simp only [List.append_nil] at hW'
  refine (walk l0 hl0 a1 (bounds_i64 w1) a2 z2 a3 z3 W ht).mono fun e W' ⟨he, bel⟩ => ?_
  subst he
  exact ⟨_, rfl, _, _, _, [], _, [], hW', trodAll_mk1 (shut_bool Tryd.underlying4 _), (trodAll_cons_mk (Below.trod laidOut (by kernel_rfl) (of_decide_eq_true (by kernel_rfl)) k0 bel lt0) (trodAll_cons_mk (shut_int Tryd.underlying3 w1) (trodAll_cons_mk (Go.ChangeMaps.shut_string Tryd.underlying9 w2) (trodAll_cons_mk (Go.ChangeMaps.shut_string Tryd.underlying9 w3) trodAll_mk0)))), rfl, bel.frame _, fun h => by cases h⟩

theorem over : Rows.HmacEndsSaid :=
  OpenClaim.holds_of_wide 4 Tryd.f4 rfl rfl rfl rfl rfl rfl rfl ⟨rfl, rfl, rfl, rfl, rfl⟩ rfl rfl rfl rfl rfl (by kernel_rfl) Tryd.func4 (by kernel_rfl)
    (of_decide_eq_true (by kernel_rfl)) (by unfold Func.isWrapper; first | (rw [if_pos (by decide +kernel)]; kernel_rfl) | (rw [if_neg (by decide +kernel)]; exact ⟨rfl, rfl⟩))
    (fun os started H enc _ => lifted os started H enc)

theorem proved : Rows.HmacEndsCardSaid :=
  Claim7.holds_tied_plain_at .later [] [.data, .data] true _ false
    over (fun _ h => by cases h) (by kernel_rfl) (fun _ h => by cases h) hmacEnds_row_tie rfl ⟨rfl, rfl⟩ (by kernel_rfl) rfl
    (fun f fn hf hfn => by
      obtain rfl : f = 4 := Option.some.inj ((show Tryd.prog.funcNamed "plait/plaitlaw07.HmacEnds" = some 4 by kernel_rfl).symm.trans hf) |>.symm
      obtain rfl : fn = Tryd.f4 := (Option.some.inj (Tryd.func4.symm.trans hfn)).symm
      exact ⟨by kernel_rfl, fun j t ht => by
        rw [Tryd.params4] at ht
        have hm : t ∈ ([23, 3, 9, 9] : List TypeId) := by simpa using Array.mem_of_getElem? ht
        have hall : (([23, 3, 9, 9] : List TypeId).all fun u => !Tryd.prog.wantsStandIn u) = true := by kernel_rfl
        exact (show Tryd.prog.wantsStandIn t = false by simpa using List.all_eq_true.1 hall t hm)⟩)
    (by kernel_rfl)
#print axioms proved
end Go.Proofs.YtaeedicihildoaaDoor.hmacEnds
