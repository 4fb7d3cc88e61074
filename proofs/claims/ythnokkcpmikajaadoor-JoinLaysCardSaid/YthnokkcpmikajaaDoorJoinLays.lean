/-
  The body of any option, of which options there is none, and how long a form's is, are as the document says (statement JoinLays, promise P10.1), of all options and forms, without condition but the table's own initial values, which the card ties to the program's text.
-/
import Derived.Test.YthnokkcpmikajaaDoorJoinMore
import Derived.Test.YthnokkcpmikajaaDoorJoinRefs
namespace Go.Proofs.YthnokkcpmikajaaDoor.joinLays
open Go.ChangeShapes Go.WideShapes Go.ChangeAt Go.RowKit
set_option linter.unusedVariables false

set_option maxHeartbeats 4000000 in
set_option maxRecDepth 100000 in
theorem walk (x : Jn) (hx : x.Ok) (form : Int) (hform : -9223372036854775808 ≤ form ∧ form ≤ 9223372036854775807) (w : World) (ht : Tbl w) :
    Calls Tryd.prog 3 #[.agg (jnv x), .int .i64 form] w fun e w' => e = .returned (.bool true) ∧ Below w.heap.size w w' := by
  obtain ⟨m0, F, hF, nF, mF, lF, uF⟩ := front_40 x.mac
  obtain ⟨y, hy⟩ : ∃ y : Jn, y = { x with mac := F } := ⟨_, rfl⟩
  have HYO := Lib.hid (show y.Ok by rw [hy]; exact ⟨hx.form, hx.id, hx.token, hx.nonce, by show F.size ≤ _; omega⟩)
  obtain ⟨b0, hb0⟩ : ∃ b0, b0 = w.heap.size := ⟨_, rfl⟩
  obtain ⟨w0, hw0⟩ : ∃ V, V = w.alloc (.cells (jnv x) 24) := ⟨_, rfl⟩
  have hx0 : Blk w0 b0 24 (jnv x) := by rw [hw0, hb0]; exact Blk.new _ _ _
  have hb : Below w.heap.size w w0 := by rw [hw0]; exact (Below.refl _ w).alloc (Nat.le_refl _) _
  obtain ⟨w1, hw1⟩ : ∃ V, V = w0.setCell ⟨b0, 5, none⟩ (.string F) := ⟨_, rfl⟩
  have HY1 := Lib.hid (show Blk w1 b0 24 (jnv y) by rw [hw1, hy]; exact hx0.set_ 5 _)
  have hb1 : Below w.heap.size w w1 := by rw [hw1]; exact hb.setCell (p := ⟨b0, 5, none⟩) (show w.heap.size ≤ b0 by omega) _
  have HB1 := Lib.hid hb1
  have HT1 := Lib.hid (ht.below hb1)
  have c5 := hx0.cell 5
  have z5 := hx0.frozen 5
  simp only [List.getElem?_toArray, List.getElem?_cons_zero, List.getElem?_cons_succ] at c5
  have HW0 := Lib.hid hw0
  have HE0 := Lib.hid hb0
  have HW1 := Lib.hid hw1
  have eF := hF.symm
  clear hF nF uF hx hy hx0 hb hw0 hb0 hw1 hb1 ht
  go_enter Tryd.func3, Tryd.ntmps3
  go_upto_region 1 with fail
  rw [← HW0.out, ← HE0.out]
  go_wp2_with fail
  rw [← HW1.out]
  clear c5 z5 mF lF eF HW0 HW1
  go_loopw [5] (fun i wr => ∃ j : Nat, j ≤ 5 ∧ i = .int .i64 ((j : Int) - 1) ∧ Below w.heap.size w wr ∧ Blk wr b0 24 (jnv y) ∧ Tbl wr) (fun i _ => (4 - intOf i).toNat)
  case atStart => exact ⟨0, by omega, rfl, HB1.out, HY1.out, HT1.out⟩
  case round =>
    obtain ⟨j, hj, rfl, hb, hc, ht⟩ := hrel
    have HB := Lib.hid hb
    have HC := Lib.hid hc
    have HT := Lib.hid ht
    have HJ5 := Lib.hid hj
    clear hb hc ht hj HB1 HY1 HT1
    by_cases hlt : j < 5
    · have l4 : (j : Int) - 1 < 4 := by omega
      obtain ⟨g, hg⟩ : ∃ g, g = wr.heap.size := ⟨_, rfl⟩
      obtain ⟨W2, hW2⟩ : ∃ W2, W2 = wr.alloc (.cells (jnv y) 24) := ⟨_, rfl⟩
      have hg2 : Blk W2 g 24 (jnv y) := by rw [hW2, hg]; exact Blk.new _ _ _
      have hc2 : Blk W2 b0 24 (jnv y) := by rw [hW2]; exact HC.out.alloc _
      have hb2 : Below w.heap.size w W2 := by rw [hW2]; exact HB.out.alloc HB.out.size _
      have ht2 : Tbl W2 := by rw [hW2]; exact HT.out.alloc _
      have hne : b0 < g := by rw [hg]; exact HC.out.lt
      have HGW := Lib.hid (show w.heap.size ≤ g by rw [hg]; exact HB.out.size)
      have HW2 := Lib.hid hW2
      have HG := Lib.hid hg
      have HLT := Lib.hid hlt
      by_cases h0 : j = 0
      · subst h0
        have HG2 := Lib.hid hg2
        have HC2 := Lib.hid hc2
        have HB2 := Lib.hid hb2
        have HT2 := Lib.hid ht2
        clear hg2 hc2 hb2 ht2 hne hW2 hg hlt HB HT
        go_upto_region 5 with fail
        go_upto_region 6 with (refine wpList_load_row_w (by rfl) 24 _ rfl b0 rfl 24 (jnv y) (0, 0) _ ?_ Tryd.underlying24 rfl jn_size ?_; exact HC.out)
        rw [← HW2.out, ← HG.out]
        obtain ⟨A, E, HAE⟩ : ∃ A E, Hid (encV y = .tuple #[.string A, .int .i64 E]) := ⟨_, _, Lib.hid rfl⟩
        go_wp2_with (refine wpList_load_row_w (by rfl) 24 _ rfl g rfl 24 (jnv y) (0, 0) _ ?_ Tryd.underlying24 rfl jn_size ?_; exact HG2.out)
        refine (Encode_any y HYO.out W2 HT2.out).mono ?_
        rintro e W4 ⟨rfl, b⟩
        rw [HAE.out]
        have HG4 := Lib.hid (HG2.out.below b HG2.out.lt)
        have HC4 := Lib.hid (HC2.out.below b HC2.out.lt)
        have HB4 := Lib.hid (HB2.out.trans (b.mono HB2.out.size))
        have HT4 := Lib.hid (HT2.out.below b)
        clear b HG2 HC2 HB2 HT2
        go_wp2_with (refine wpList_load_row_w (by rfl) 24 _ rfl g rfl 24 (jnv y) (0, 0) _ ?_ Tryd.underlying24 rfl jn_size ?_; exact HG4.out)
        refine (EncodeR_any y HYO.out W4).mono ?_
        rintro e W5 ⟨rfl, b⟩
        rw [HAE.out]
        have HC5 := Lib.hid (HC4.out.below b HC4.out.lt)
        have HB5 := Lib.hid (HB4.out.trans (b.mono HB4.out.size))
        have HT5 := Lib.hid (HT4.out.below b)
        clear b HG4 HC4 HB4 HT4
        go_wp2_with fail
        go_roundw
        case rel => exact ⟨1, by have := HLT.out; omega, by go_num, HB5.out, HC5.out, HT5.out⟩
        case measure => simp [intOf]; try omega
      · obtain ⟨k, hk⟩ : ∃ k : Nat, j = k + 1 := ⟨j - 1, by omega⟩
        subst hk
        have ek : ((k + 1 : Nat) : Int) - 1 = (k : Int) := by omega
        rw [ek] at l4 ⊢
        have k0 : (0 : Int) ≤ (k : Int) := by omega
        obtain ⟨z, hz⟩ : ∃ z : Jn, z = { y with form := (k : Int) } := ⟨_, rfl⟩
        have HZO := Lib.hid (show z.Ok by rw [hz]; exact ⟨by show _ ≤ (k : Int) ∧ (k : Int) ≤ _; omega, HYO.out.id, HYO.out.token, HYO.out.nonce, HYO.out.mac⟩)
        obtain ⟨W3, hW3⟩ : ∃ W3, W3 = W2.setCell ⟨g, 0, none⟩ (.int .i64 (k : Int)) := ⟨_, rfl⟩
        have HG2 := Lib.hid (show Blk W3 g 24 (jnv z) by rw [hW3, hz]; exact hg2.set_ 0 _)
        have HC2 := Lib.hid (show Blk W3 b0 24 (jnv y) by rw [hW3]; exact hc2.same (Below.heap_setCell W2 ⟨g, 0, none⟩ _ b0 (by show b0 ≠ g; omega)))
        have hb3 : Below w.heap.size w W3 := by rw [hW3]; exact hb2.setCell (p := ⟨g, 0, none⟩) HGW.out _
        have HB2 := Lib.hid hb3
        have HT2 := Lib.hid (show Tbl W3 by rw [hW3]; exact ht2.under (B := b0 + 1) ((Below.refl _ W2).setCell (p := ⟨g, 0, none⟩) (by show b0 + 1 ≤ g; omega) _) (by omega))
        have cg := hg2.cell 0
        have fg := hg2.frozen 0
        simp only [List.getElem?_toArray, List.getElem?_cons_zero] at cg
        have HW3 := Lib.hid hW3
        clear hg2 hc2 hb2 hb3 ht2 hne hW2 hg hlt hz hW3 h0 ek HB HT
        go_upto_region 5 with fail
        go_upto_region 6 with (refine wpList_load_row_w (by rfl) 24 _ rfl b0 rfl 24 (jnv y) (0, 0) _ ?_ Tryd.underlying24 rfl jn_size ?_; exact HC.out)
        rw [← HW2.out, ← HG.out]
        go_upto_region 8 with fail
        rw [← HW3.out]
        clear cg fg
        obtain ⟨A, E, HAE⟩ : ∃ A E, Hid (encV z = .tuple #[.string A, .int .i64 E]) := ⟨_, _, Lib.hid rfl⟩
        go_wp2_with (refine wpList_load_row_w (by rfl) 24 _ rfl g rfl 24 (jnv z) (0, 0) _ ?_ Tryd.underlying24 rfl jn_size ?_; exact HG2.out)
        refine (Encode_any z HZO.out W3 HT2.out).mono ?_
        rintro e W4 ⟨rfl, b⟩
        rw [HAE.out]
        have HG4 := Lib.hid (HG2.out.below b HG2.out.lt)
        have HC4 := Lib.hid (HC2.out.below b HC2.out.lt)
        have HB4 := Lib.hid (HB2.out.trans (b.mono HB2.out.size))
        have HT4 := Lib.hid (HT2.out.below b)
        clear b HG2 HC2 HB2 HT2
        go_wp2_with (refine wpList_load_row_w (by rfl) 24 _ rfl g rfl 24 (jnv z) (0, 0) _ ?_ Tryd.underlying24 rfl jn_size ?_; exact HG4.out)
        refine (EncodeR_any z HZO.out W4).mono ?_
        rintro e W5 ⟨rfl, b⟩
        rw [HAE.out]
        have HC5 := Lib.hid (HC4.out.below b HC4.out.lt)
        have HB5 := Lib.hid (HB4.out.trans (b.mono HB4.out.size))
        have HT5 := Lib.hid (HT4.out.below b)
        clear b HG4 HC4 HB4 HT4
        go_wp2_with fail
        go_roundw
        case rel => exact ⟨k + 2, by have := HLT.out; omega, by go_num, HB5.out, HC5.out, HT5.out⟩
        case measure => simp [intOf]; try omega
    · obtain rfl : j = 5 := by have := HJ5.out; omega
      have HFO := Lib.hid hform
      clear hlt hform
      by_cases f0 : form = 0
      · subst f0
        go_wp2_with fail
        refine (answer (Bytes_any 0 wr HT.out) (show Value.int .i64 (Jn.bodySize 0 : Int) = .int .i64 10 from rfl)).mono ?_
        rintro e W1 ⟨rfl, b⟩
        have HB1 := Lib.hid (HB.out.trans (b.mono HB.out.size))
        have HT1 := Lib.hid (HT.out.below b)
        clear b
        go_wp2_with fail
        refine (works_t W1 HT1.out).mono ?_
        rintro e W2 ⟨rfl, b⟩
        have HB2 := Lib.hid (HB1.out.trans (b.mono HB1.out.size))
        clear b
        go_wp2_with fail
        go_ret
        exact ⟨rfl, HB2.out⟩
      · have e0 : (form == 0) = false := by rw [beq_eq_false_iff_ne]; exact f0
        by_cases f1 : form = 1
        · subst f1
          go_wp2_with fail
          refine (answer (Bytes_any 1 wr HT.out) (show Value.int .i64 (Jn.bodySize 1 : Int) = .int .i64 14 from rfl)).mono ?_
          rintro e W1 ⟨rfl, b⟩
          have HB1 := Lib.hid (HB.out.trans (b.mono HB.out.size))
          have HT1 := Lib.hid (HT.out.below b)
          clear b
          go_wp2_with fail
          refine (works_t W1 HT1.out).mono ?_
          rintro e W2 ⟨rfl, b⟩
          have HB2 := Lib.hid (HB1.out.trans (b.mono HB1.out.size))
          clear b
          go_wp2_with fail
          go_ret
          exact ⟨rfl, HB2.out⟩
        · have e1 : (form == 1) = false := by rw [beq_eq_false_iff_ne]; exact f1
          by_cases f2 : form = 2
          · subst f2
            go_wp2_with fail
            refine (answer (Bytes_any 2 wr HT.out) (show Value.int .i64 (Jn.bodySize 2 : Int) = .int .i64 22 from rfl)).mono ?_
            rintro e W1 ⟨rfl, b⟩
            have HB1 := Lib.hid (HB.out.trans (b.mono HB.out.size))
            have HT1 := Lib.hid (HT.out.below b)
            clear b
            go_wp2_with fail
            refine (works_t W1 HT1.out).mono ?_
            rintro e W2 ⟨rfl, b⟩
            have HB2 := Lib.hid (HB1.out.trans (b.mono HB1.out.size))
            clear b
            go_wp2_with fail
            go_ret
            exact ⟨rfl, HB2.out⟩
          · have e2 : (form == 2) = false := by rw [beq_eq_false_iff_ne]; exact f2
            have HZ := Lib.hid (show Jn.bodySize form = 0 by unfold Jn.bodySize; rw [if_neg f0, if_neg f1, if_neg f2])
            clear f0 f1 f2
            go_wp2_with fail
            refine (answer (Bytes_any form wr HT.out) (show Value.int .i64 (Jn.bodySize form : Int) = .int .i64 0 by rw [HZ.out]; rfl)).mono ?_
            rintro e W1 ⟨rfl, b⟩
            have HB1 := Lib.hid (HB.out.trans (b.mono HB.out.size))
            have HT1 := Lib.hid (HT.out.below b)
            clear b
            go_wp2_with fail
            refine (works_t W1 HT1.out).mono ?_
            rintro e W2 ⟨rfl, b⟩
            have HB2 := Lib.hid (HB1.out.trans (b.mono HB1.out.size))
            clear b
            go_wp2_with fail
            go_ret
            exact ⟨rfl, HB2.out⟩

set_option maxRecDepth 100000 in
theorem lifted (os : Os) (started : os.Started) (H : Type) (enc : TypeId × Value → H) :
    ReturnsInHanded {} Tryd.checked os 3 .any (fun w args => (Rows.joinLaysSpec.pre enc Tryd.prog Tryd.f3 [] false w args ∧ laidMetH Tryd.prog laid1 w) ∧ sizedMet enc Tryd.prog Tryd.f3 (OpenSpec.ofChange Rows.joinLaysSpec) false w args)
      (Rows.joinLaysSpec.post enc Tryd.prog Tryd.f3 false true false false) := by
  refine returnsInHanded_of_change_and (C := Tryd.checked) (X := fun w _ => laidMetH Tryd.prog laid1 w) (fun _ _ _ hh h => h.of_heap hh) own started (by kernel_rfl) Tryd.func3
    (ChangeSpec.witness_shaped (enc := enc) (C := Tryd.checked) (os := os) (X := fun w _ => laidMetH Tryd.prog laid1 w) false (World.doorLaid Tryd.prog 400 os) #[.agg #[.int .i64 0, .bool false, .int .i64 0, .int .u32 0, .int .u32 0, .string ByteArray.empty], .int .i64 0] 8 rfl (World.shaped_of_RefB (by kernel_rfl) (by kernel_rfl)) (by kernel_rfl) (by kernel_rfl) (by kernel_rfl) (door_met os _)) ?_
  intro W base args ds gs before hval0 hW hcnd hsz0 hL _
  have hsz : (DataW.weightsEach Tryd.prog (Tryd.f3.params.toList ++ Rows.joinLaysSpec.plain.varTypes Tryd.prog) (ds ++ gs)).all (· ≤ reachBytes) = true := hsz0
  have ht := table_of hL
  have hval : ∀ (j : Nat) t v, Tryd.f3.params[j]? = some t → args[j]? = some v → Value.okWide Tryd.prog W .any base t v := hval0
  have hW' := hW
  obtain ⟨p, q, hA0, hV, rfl, hfz, hnd⟩ := hW
  have hA : DataW.TrodAll enc Tryd.prog W 0 (fun _ => true) true Tryd.f3.params.toList args.toList ds p := hA0
  rw [Tryd.params3] at hA hval hsz
  obtain ⟨v0, vs0, d0, ds0, p0, q0, hargs, rfl, rfl, h0, r0⟩ := trodAll_cons hA
  obtain ⟨v1, vs1, d1, ds1, p1, q1, rfl, rfl, rfl, h1, r1⟩ := trodAll_cons r0
  obtain ⟨rfl, rfl, rfl⟩ := trodAll_nil r1
  obtain rfl : args = #[v0, v1] := by cases args; simp_all
  obtain ⟨rfl, rfl⟩ := trodVars_none hV
  have k0 := h0
  have lt0 : ∀ x ∈ p0, x.block < W.heap.size := by obtain ⟨m, hm⟩ := k0; exact DataW.trod_lt m _ _ _ hm
  obtain ⟨x, rfl, hxo, parts, hparts, hpart⟩ := open_join (hval 0 24 v0 rfl rfl) h0
  have hx : x.Ok := hxo (by have := agg_string hsz (j := 0) (k := 5) (t := 24) (tk := 9) rfl (by rw [hparts]; rfl) Tryd.underlying24 (by kernel_rfl) hpart; simpa [reachBytes] using this)
  obtain ⟨a1, rfl, rfl, rfl, w1⟩ := open_int Tryd.underlying3 (hval 1 3 v1 rfl rfl) h1
  clear hA0 hval0
  simp only [List.append_nil] at hW'
  refine (walk x hx a1 (bounds_i64 w1) W ht).mono fun e W' ⟨he, bel⟩ => ?_
  subst he
  exact ⟨_, rfl, _, _, _, [], _, [], hW', trodAll_mk1 (shut_bool Tryd.underlying4 _), (trodAll_cons_mk (Below.trod laidOut (by kernel_rfl) (of_decide_eq_true (by kernel_rfl)) k0 bel lt0) (trodAll_cons_mk (shut_int Tryd.underlying3 w1) trodAll_mk0)), rfl, bel.frame _, fun h => by cases h⟩

theorem over : Rows.JoinLaysSaid :=
  OpenClaim.holds_of_wide 3 Tryd.f3 rfl rfl rfl rfl rfl rfl rfl ⟨rfl, rfl, rfl, rfl, rfl⟩ rfl rfl rfl rfl rfl (by kernel_rfl) Tryd.func3 (by kernel_rfl)
    (of_decide_eq_true (by kernel_rfl)) (by unfold Func.isWrapper; first | (rw [if_pos (by decide +kernel)]; kernel_rfl) | (rw [if_neg (by decide +kernel)]; exact ⟨rfl, rfl⟩))
    (fun os started H enc _ => lifted os started H enc)

theorem proved : Rows.JoinLaysCardSaid :=
  Claim7.holds_tied_plain_at .later [] [.data] true _ false
    over (fun _ h => by cases h) (by kernel_rfl) (fun _ h => by cases h) joinLays_row_tie rfl ⟨rfl, rfl⟩ (by kernel_rfl) rfl
    (fun f fn hf hfn => by
      obtain rfl : f = 3 := Option.some.inj ((show Tryd.prog.funcNamed "plait/plaitlaw10.JoinLays" = some 3 by kernel_rfl).symm.trans hf) |>.symm
      obtain rfl : fn = Tryd.f3 := (Option.some.inj (Tryd.func3.symm.trans hfn)).symm
      exact ⟨by kernel_rfl, fun j t ht => by
        rw [Tryd.params3] at ht
        have hm : t ∈ ([24, 3] : List TypeId) := by simpa using Array.mem_of_getElem? ht
        have hall : (([24, 3] : List TypeId).all fun u => !Tryd.prog.wantsStandIn u) = true := by kernel_rfl
        exact (show Tryd.prog.wantsStandIn t = false by simpa using List.all_eq_true.1 hall t hm)⟩)
    (by kernel_rfl)
#print axioms proved
end Go.Proofs.YthnokkcpmikajaaDoor.joinLays
