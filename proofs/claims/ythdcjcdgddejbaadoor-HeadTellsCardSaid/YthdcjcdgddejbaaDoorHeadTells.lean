/-
  What any bytes are, as a segment, and why they are none, is as the document says: of all segments, shapes, bends and bytes (statement HeadTells, promise P5.2), the table of flags being what the program's text lays.
-/
import Derived.Test.YthdcjcdgddejbaaDoorHeadBent
import Derived.Test.YthdcjcdgddejbaaDoorHeadRefQ
import Derived.Deep.RegionHeld3
namespace Go.Proofs.YthdcjcdgddejbaaDoor.headTells
open Go.ChangeShapes Go.WideShapes Go.ChangeAt Go.RowKit
set_option linter.unusedVariables false


theorem lay_small (x : Sg) : ∃ (T : ByteArray) (c : Int), x.lay = .tuple #[.string T, .int .i64 c] ∧ T.size ≤ 1099511627776 := by
  cases h : x.fits
  · exact ⟨_, _, x.lay_f h, by decide⟩
  · refine ⟨_, _, x.lay_t h, ?_⟩
    obtain ⟨k1, k2, k3⟩ := x.fits_t h
    rw [txt_size, x.bytes_length]
    omega

set_option maxHeartbeats 4000000 in
set_option maxRecDepth 100000 in
theorem walk (x : Sg) (hx : x.Ok) (zdx : x.data.size ≤ 140737488351232) (a d c : Int) (ha : 0 ≤ a ∧ a ≤ 255) (hd : 0 ≤ d ∧ d ≤ 65535) (hc : 0 ≤ c ∧ c ≤ 255) (m l : Bd) (hm : m.Ok) (hl : l.Ok) (s : ByteArray) (hs : s.size ≤ 140737488351232) (w : World) (ht : Tbl w) :
    Calls Tryd.prog 4 #[.agg (segv x), .agg #[.int .u8 a, .int .u16 d, .int .u8 c], .agg (bdv m l), .string s] w fun e w' => e = .returned (.bool true) ∧ Below w.heap.size w w' := by
  have HX := Lib.hid hx
  have HA := Lib.hid ha
  have HD := Lib.hid hd
  have HC := Lib.hid hc
  have HM := Lib.hid hm
  have HL := Lib.hid hl
  have HS := Lib.hid hs
  obtain ⟨W0, hW0⟩ : ∃ W0, W0 = ((w.alloc (.cells (segv x) 25)).alloc (.cells #[.int .u8 a, .int .u16 d, .int .u8 c] 27)).alloc (.cells (bdv m l) 38) := ⟨_, rfl⟩
  have X0 := Lib.hid (show Blk W0 w.heap.size 25 (segv x) by rw [hW0]; exact ((Blk.new w _ _).alloc _).alloc _)
  have S0 := Lib.hid (show Blk W0 (w.heap.size + 1) 27 #[.int .u8 a, .int .u16 d, .int .u8 c] by
    rw [hW0]; have := Blk.new (w.alloc (.cells (segv x) 25)) 27 #[.int .u8 a, .int .u16 d, .int .u8 c]; rw [World.size_alloc] at this; exact this.alloc _)
  have M0 := Lib.hid (show Blk W0 (w.heap.size + 1 + 1) 38 (bdv m l) by
    rw [hW0]; have := Blk.new ((w.alloc (.cells (segv x) 25)).alloc (.cells #[.int .u8 a, .int .u16 d, .int .u8 c] 27)) 38 (bdv m l); rw [World.size_alloc, World.size_alloc] at this; exact this)
  have B0 := Lib.hid (show Below w.heap.size w W0 by rw [hW0]; exact (((Below.refl _ w).alloc (Nat.le_refl _) _).alloc (by simp) _).alloc (by simp; omega) _)
  have T0 := Lib.hid (show Tbl W0 by rw [hW0]; exact ((ht.alloc _).alloc _).alloc _)
  clear hx ha hd hc zdx hm hl hs ht
  subst hW0
  go_enter Tryd.func4, Tryd.ntmps4
  go_wp2_with (first
    | refine wpList_load_row rfl 27 _ rfl (w.heap.size + 1) rfl 27 #[.int .u8 a, .int .u16 d, .int .u8 c] (0, 0) _ S0.out Tryd.underlying27 rfl shape_size ?_
    | refine wpList_load_row rfl 25 _ rfl w.heap.size rfl 25 (segv x) (0, 0) _ X0.out Tryd.underlying25 rfl seg_size ?_)
  refine (Filled_any a d c x _ HA.out.1 HA.out.2 HD.out.1 HD.out.2 HC.out.1 HC.out.2).mono ?_
  rintro e W1 ⟨A, D, zA, zD, rfl, b1⟩
  obtain ⟨y, hy⟩ : ∃ y : Sg, y = { x with area := A, data := D } := ⟨_, rfl⟩
  rw [← hy]
  have hok : y.Ok := by rw [hy]; exact ⟨HX.out.src, HX.out.dst, HX.out.seq, HX.out.ack, HX.out.win, by show A.size ≤ _; omega, by show D.size ≤ _; omega⟩
  have HOK := Lib.hid hok
  have M1 := Lib.hid (M0.out.below b1 M0.out.lt)
  have T1 := Lib.hid (T0.out.below b1)
  have B1 := Lib.hid (below_then B0.out b1)
  clear hok hy b1 zA zD X0 S0 M0 T0 B0 HX HA HD HC
  go_wp2_with fail
  refine (LayR_any y _ HOK.out).mono ?_
  rintro e W2 ⟨rfl, b2⟩
  obtain ⟨T, cd, hlay, hT⟩ := lay_small y
  rw [hlay]
  have HTS := Lib.hid hT
  have M2 := Lib.hid (M1.out.below b2 M1.out.lt)
  have T2 := Lib.hid (T1.out.below b2)
  have B2 := Lib.hid (below_then B1.out b2)
  clear b2 hlay hT M1 T1 B1 HOK
  go_wp2
  have K1 := Lib.hid trivial
  have K2 := Lib.hid trivial
  have K3 := Lib.hid trivial
  obtain ⟨g, hg⟩ : ∃ g, g = w.heap.size + 1 + 1 := ⟨_, rfl⟩
  rw [← hg] at M2 ⊢
  clear hg
  go_region_held3 (fun V => V.cell? ⟨g, 0, none⟩ = some (.bool m.ct) ∧ V.cell? ⟨g, 1, none⟩ = some (.bool m.sm) ∧ V.cell? ⟨g, 2, none⟩ = some (.int .u16 m.pl) ∧ V.cell? ⟨g, 3, none⟩ = some (.int .u8 m.by_) ∧ V.cell? ⟨g, 4, none⟩ = some (.bool l.ct) ∧ V.cell? ⟨g, 5, none⟩ = some (.bool l.sm) ∧ V.cell? ⟨g, 6, none⟩ = some (.int .u16 l.pl) ∧ V.cell? ⟨g, 7, none⟩ = some (.int .u8 l.by_))
    (first | exact ⟨M2.out.cell 0, M2.out.cell 1, M2.out.cell 2, M2.out.cell 3, M2.out.cell 4, M2.out.cell 5, M2.out.cell 6, M2.out.cell 7⟩ | exact ⟨M3.out.cell 0, M3.out.cell 1, M3.out.cell 2, M3.out.cell 3, M3.out.cell 4, M3.out.cell 5, M3.out.cell 6, M3.out.cell 7⟩ | exact ⟨M4.out.cell 0, M4.out.cell 1, M4.out.cell 2, M4.out.cell 3, M4.out.cell 4, M4.out.cell 5, M4.out.cell 6, M4.out.cell 7⟩ | exact ⟨M5.out.cell 0, M5.out.cell 1, M5.out.cell 2, M5.out.cell 3, M5.out.cell 4, M5.out.cell 5, M5.out.cell 6, M5.out.cell 7⟩)
    (first
      | (clear K1; go_at_call 13; refine (bent_any m.ct m.sm m.pl m.by_ HM.out.pl HM.out.by_ T HTS.out _).mono ?_; rintro e W3 ⟨⟨t1, z1, rfl⟩, b3⟩; have M3 := Lib.hid (Blk.below M2.out.drew b3 M2.out.drew.lt); have T3 := Lib.hid ((T2.out.drewN 1).below b3); have B3 := Lib.hid (below_then B2.out.drew b3); have Z1 := Lib.hid z1; clear b3 z1)
      | (clear K2; go_at_call 13; refine (bent_any m.ct m.sm m.pl m.by_ HM.out.pl HM.out.by_ T HTS.out _).mono ?_; rintro e W4 ⟨⟨t2, z2, rfl⟩, b4⟩; have M4 := Lib.hid (Blk.below M3.out b4 M3.out.lt); have T4 := Lib.hid (T3.out.below b4); have B4 := Lib.hid (below_then B3.out b4); have Z2 := Lib.hid z2; clear b4 z2)
      | (clear K3; go_at_call 13; refine (bent_any l.ct l.sm l.pl l.by_ HL.out.pl HL.out.by_ t2 (Nat.le_trans Z2.out HTS.out) _).mono ?_; rintro e W5 ⟨⟨t3, z3, rfl⟩, b5⟩; have M5 := Lib.hid (Blk.below M4.out b5 M4.out.lt); have T5 := Lib.hid (T4.out.below b5); have B5 := Lib.hid (below_then B4.out b5); have Z3 := Lib.hid z3; clear b5 z3))
  have hT5 := T5.out
  have hB5 := B5.out
  have szs : ∀ u : ByteArray, u = T ∨ u = t1 ∨ u = t3 ∨ u = s → u.size ≤ 4611686018427387904 := by
    have q1 := HTS.out
    have q2 := Z1.out
    have q3 := Z2.out
    have q4 := Z3.out
    have q5 := HS.out
    rintro u (rfl | rfl | rfl | rfl) <;> omega
  have idx : ∀ j : Nat, j < 4 → ∃ u : ByteArray, (u = T ∨ u = t1 ∨ u = t3 ∨ u = s) ∧ ∀ W, (Instr.index 40 (.agg #[.string T, .string t1, .string t3, .string s]) (.int .i64 (j : Int))).run Tryd.prog W = .ok (.string u) W := by
    intro j hj
    obtain rfl | rfl | rfl | rfl : j = 0 ∨ j = 1 ∨ j = 2 ∨ j = 3 := by omega
    · exact ⟨T, .inl rfl, fun _ => by kernel_rfl⟩
    · exact ⟨t1, .inr (.inl rfl), fun _ => by kernel_rfl⟩
    · exact ⟨t3, .inr (.inr (.inl rfl)), fun _ => by kernel_rfl⟩
    · exact ⟨s, .inr (.inr (.inr rfl)), fun _ => by kernel_rfl⟩
  obtain ⟨PA, hPA⟩ : ∃ PA : Value, PA = .agg #[.string T, .string t1, .string t3, .string s] := ⟨_, rfl⟩
  rw [← hPA] at idx ⊢
  have HSZ := Lib.hid szs
  have HIX := Lib.hid idx
  clear hPA szs idx M2 T2 B2 M3 T3 B3 M4 T4 B4 M5 T5 B5 Z1 Z2 Z3 HTS HS HM HL
  go_wp2
  go_loopw [38] (fun i wr => ∃ j : Nat, j ≤ 4 ∧ i = .int .i64 (j : Int) ∧ Below w.heap.size w wr ∧ Tbl wr) (fun i _ => 4 - (intOf i).toNat)
  case atStart => exact ⟨0, by decide, rfl, hB5, hT5⟩
  case round =>
    obtain ⟨j, hj, rfl, hBr', hTr'⟩ := hrel
    have hBr := Lib.hid hBr'
    have hTr := Lib.hid hTr'
    clear hBr' hTr' hB5 hT5
    by_cases hj4 : j < 4
    · obtain ⟨u, hu, hix⟩ := HIX.out j hj4
      have hsz := Lib.hid (HSZ.out u hu)
      have d4 : (j : Int) < 4 := by omega
      clear hu
      go_wp2_with fail
      refine (Parse_any u _ hsz.out hTr.out).mono ?_
      rintro e V1 ⟨rfl, b1⟩
      have B1 := Lib.hid (below_then hBr.out b1)
      have T1 := Lib.hid (hTr.out.below b1)
      obtain ⟨z, hz⟩ : ∃ z : Sg, z = parsed u.data.toList := ⟨_, rfl⟩
      obtain ⟨cz, hcz⟩ : ∃ cz : Int, cz = code u.data.toList := ⟨_, rfl⟩
      have hpv : parseV u.data.toList = .tuple #[.agg (segv z), .int .i64 cz] := by rw [hz, hcz]; rfl
      rw [hpv]
      have HPV := Lib.hid hpv
      clear b1 hz hcz hpv
      go_wp2_with (refine wpList_store_row rfl 25 _ _ rfl V1.heap.size (segv z) rfl rfl 25 _ (heap_alloc_new V1 _) seg_size rfl (segv_one _) ?_)
      rw [World.setRow_alloc_new]
      obtain ⟨g1, hg1⟩ : ∃ g1, g1 = V1.heap.size := ⟨_, rfl⟩
      obtain ⟨V2, hV2⟩ : ∃ V2, V2 = V1.alloc (.cells (segv z) 25) := ⟨_, rfl⟩
      have X2 := Lib.hid (show Blk V2 g1 25 (segv z) by rw [hV2, hg1]; exact Blk.new _ _ _)
      have T2 := Lib.hid (show Tbl V2 by rw [hV2]; exact T1.out.alloc _)
      have B2 := Lib.hid (show Below w.heap.size w V2 by rw [hV2]; exact B1.out.alloc B1.out.size _)
      rw [← hg1, ← hV2]
      clear hg1 hV2 T1 B1
      refine (ParseR_any u _ hsz.out).mono ?_
      rintro e V3 ⟨rfl, b3⟩
      rw [HPV.out]
      have X3 := Lib.hid (X2.out.below b3 X2.out.lt)
      have T3 := Lib.hid (T2.out.below b3)
      have B3 := Lib.hid (below_then B2.out b3)
      clear b3 X2 T2 B2
      obtain ⟨g3, hg3⟩ : ∃ g3, g3 = V3.heap.size := ⟨_, rfl⟩
      obtain ⟨V4, hV4⟩ : ∃ V4, V4 = (V3.alloc (.cells #[.int .i64 0, .int .u16 0, .int .u16 0, .int .u32 0, .int .u32 0, .bool false, .bool false, .bool false, .bool false, .int .u16 0, .string ⟨#[]⟩, .string ⟨#[]⟩] 25)).setRow V3.heap.size (segv z) := ⟨_, rfl⟩
      have hb4 : Below V3.heap.size V3 V4 := by rw [hV4]; exact below_setRow ((Below.refl _ V3).alloc (Nat.le_refl _) _) (Nat.le_refl _) _
      have X4 := Lib.hid (X3.out.below hb4 X3.out.lt)
      have Y4 := Lib.hid (show Blk V4 V3.heap.size 25 (segv z) by rw [hV4]; exact setRow_heap _ V3.heap.size _ (segv z) _ _ (heap_alloc_new V3 _))
      have T4 := Lib.hid (T3.out.below hb4)
      have B4 := Lib.hid (below_then B3.out hb4)
      clear hb4 X3 T3 B3 hg3
      rw [hV4] at X4 Y4 T4 B4
      clear hV4
      go_wp2_with (first
        | refine wpList_store_row rfl 25 _ _ rfl V3.heap.size (segv z) rfl rfl 25 _ (heap_alloc_new V3 _) seg_size rfl (segv_one _) ?_
        | refine wpList_load_row rfl 25 _ rfl g1 rfl 25 (segv z) (0, 0) _ X4.out Tryd.underlying25 rfl seg_size ?_
        | refine wpList_load_row rfl 25 _ rfl V3.heap.size rfl 25 (segv z) (0, 0) _ Y4.out Tryd.underlying25 rfl seg_size ?_)
      exact ⟨⟨j + 1, by omega, rfl, B4.out, T4.out⟩, by simp [intOf]; omega⟩
    · obtain rfl : j = 4 := by omega
      go_wp2_with fail
      refine (works_any _ hTr.out).mono ?_
      rintro e V1 ⟨rfl, b1⟩
      have B1 := Lib.hid (below_then hBr.out b1)
      clear b1
      go_wp2
      go_ret; exact ⟨rfl, B1.out⟩

set_option maxRecDepth 100000 in
theorem lifted (os : Os) (started : os.Started) (H : Type) (enc : TypeId × Value → H) :
    ReturnsInHanded {} Tryd.checked os 4 .any (fun w args => (Rows.headTellsSpec.pre enc Tryd.prog Tryd.f4 [] false w args ∧ laidMetH Tryd.prog laid1 w) ∧ sizedMet enc Tryd.prog Tryd.f4 (OpenSpec.ofChange Rows.headTellsSpec) false w args)
      (Rows.headTellsSpec.post enc Tryd.prog Tryd.f4 false true false false) := by
  refine returnsInHanded_of_change_and (C := Tryd.checked) (X := fun w _ => laidMetH Tryd.prog laid1 w) (fun _ _ _ hh h => h.of_heap hh) own started (by kernel_rfl) Tryd.func4
    (ChangeSpec.witness_shaped (enc := enc) (C := Tryd.checked) (os := os) (X := fun w _ => laidMetH Tryd.prog laid1 w) false (World.doorLaid Tryd.prog 400 os) #[.agg #[.int .i64 0, .int .u16 0, .int .u16 0, .int .u32 0, .int .u32 0, .bool false, .bool false, .bool false, .bool false, .int .u16 0, .string ByteArray.empty, .string ByteArray.empty], .agg #[.int .u8 0, .int .u16 0, .int .u8 0], .agg #[.bool false, .bool false, .int .u16 0, .int .u8 0, .bool false, .bool false, .int .u16 0, .int .u8 0], .string ByteArray.empty] 8 rfl (World.shaped_of_RefB (by kernel_rfl) (by kernel_rfl)) (by kernel_rfl) (by kernel_rfl) (by kernel_rfl) (door_met os _)) ?_
  intro W base args ds gs before hval0 hW hcnd hsz0 hL _
  have hsz : (DataW.weightsEach Tryd.prog (Tryd.f4.params.toList ++ Rows.headTellsSpec.plain.varTypes Tryd.prog) (ds ++ gs)).all (· ≤ reachBytes) = true := hsz0
  have ht := table_of hL
  have hval : ∀ (j : Nat) t v, Tryd.f4.params[j]? = some t → args[j]? = some v → Value.okWide Tryd.prog W .any base t v := hval0
  have hW' := hW
  obtain ⟨p, q, hA0, hV, rfl, hfz, hnd⟩ := hW
  have hA : DataW.TrodAll enc Tryd.prog W 0 (fun _ => true) true Tryd.f4.params.toList args.toList ds p := hA0
  rw [Tryd.params4] at hA hval hsz
  obtain ⟨v0, vs0, d0, ds0, p0, q0, hargs, rfl, rfl, h0, r0⟩ := trodAll_cons hA
  obtain ⟨v1, vs1, d1, ds1, p1, q1, rfl, rfl, rfl, h1, r1⟩ := trodAll_cons r0
  obtain ⟨v2, vs2, d2, ds2, p2, q2, rfl, rfl, rfl, h2, r2⟩ := trodAll_cons r1
  obtain ⟨v3, vs3, d3, ds3, p3, q3, rfl, rfl, rfl, h3, r3⟩ := trodAll_cons r2
  obtain ⟨rfl, rfl, rfl⟩ := trodAll_nil r3
  obtain rfl : args = #[v0, v1, v2, v3] := by cases args; simp_all
  obtain ⟨rfl, rfl⟩ := trodVars_none hV
  have k0 := h0
  have lt0 : ∀ x ∈ p0, x.block < W.heap.size := by obtain ⟨m, hm⟩ := k0; exact DataW.trod_lt m _ _ _ hm
  obtain ⟨x0, rfl, s1, s2, s3, s4, s5, parts, hd0, g10, g11⟩ := open_seg (hval 0 25 v0 rfl rfl) h0
  have k1 := h1
  have lt1 : ∀ x ∈ p1, x.block < W.heap.size := by obtain ⟨m, hm⟩ := k1; exact DataW.trod_lt m _ _ _ hm
  obtain ⟨a1, b1, c1, rfl, ra1, rb1, rc1⟩ := open_shape (hval 1 27 v1 rfl rfl) h1
  have k2 := h2
  have lt2 : ∀ x ∈ p2, x.block < W.heap.size := by obtain ⟨m, hm⟩ := k2; exact DataW.trod_lt m _ _ _ hm
  obtain ⟨m2, l2, rfl, rm2, rl2⟩ := open_bends (hval 2 38 v2 rfl rfl) h2
  obtain ⟨a3, rfl, rfl, rfl, w3⟩ := Go.ChangeMaps.open_string Tryd.underlying9 (hval 3 9 v3 rfl rfl) h3
  have za : x0.area.size ≤ 140737488351232 := by have := agg_string hsz (j := 0) (k := 10) (t := 25) (tk := 9) rfl (by rw [hd0]; rfl) Tryd.underlying25 rfl g10; simpa [reachBytes] using this
  have zd : x0.data.size ≤ 140737488351232 := by have := agg_string hsz (j := 0) (k := 11) (t := 25) (tk := 9) rfl (by rw [hd0]; rfl) Tryd.underlying25 rfl g11; simpa [reachBytes] using this
  have hok : x0.Ok := ⟨s1, s2, s3, s4, s5, by omega, by omega⟩
  have z3 : a3.size ≤ 140737488351232 := by have := sized_string hsz (j := 3) (t := 9) rfl rfl; simpa [reachBytes] using this
  clear hA0 hval0
  simp only [List.append_nil] at hW'
  refine (walk x0 hok zd a1 b1 c1 ra1 rb1 rc1 m2 l2 rm2 rl2 a3 z3 W ht).mono fun e W' ⟨he, bel⟩ => ?_
  subst he
  exact ⟨_, rfl, _, _, _, [], _, [], hW', trodAll_mk1 (shut_bool Tryd.underlying4 _), (trodAll_cons_mk (Below.trod laidOut (by kernel_rfl) (of_decide_eq_true (by kernel_rfl)) k0 bel lt0) (trodAll_cons_mk (Below.trod laidOut (by kernel_rfl) (of_decide_eq_true (by kernel_rfl)) k1 bel lt1) (trodAll_cons_mk (Below.trod laidOut (by kernel_rfl) (of_decide_eq_true (by kernel_rfl)) k2 bel lt2) (trodAll_cons_mk (Go.ChangeMaps.shut_string Tryd.underlying9 w3) trodAll_mk0)))), rfl, bel.frame _, fun h => by cases h⟩

theorem over : Rows.HeadTellsSaid :=
  OpenClaim.holds_of_wide 4 Tryd.f4 rfl rfl rfl rfl rfl rfl rfl ⟨rfl, rfl, rfl, rfl, rfl⟩ rfl rfl rfl rfl rfl (by kernel_rfl) Tryd.func4 (by kernel_rfl)
    (of_decide_eq_true (by kernel_rfl)) (by unfold Func.isWrapper; first | (rw [if_pos (by decide +kernel)]; kernel_rfl) | (rw [if_neg (by decide +kernel)]; exact ⟨rfl, rfl⟩))
    (fun os started H enc _ => lifted os started H enc)

theorem proved : Rows.HeadTellsCardSaid :=
  Claim7.holds_tied_plain_at .later [] [.data] true _ false
    over (fun _ h => by cases h) (by kernel_rfl) (fun _ h => by cases h) headTells_row_tie rfl ⟨rfl, rfl⟩ (by kernel_rfl) rfl
    (fun f fn hf hfn => by
      obtain rfl : f = 4 := Option.some.inj ((show Tryd.prog.funcNamed "plait/plaitlaw05.HeadTells" = some 4 by kernel_rfl).symm.trans hf) |>.symm
      obtain rfl : fn = Tryd.f4 := (Option.some.inj (Tryd.func4.symm.trans hfn)).symm
      exact ⟨by kernel_rfl, fun j t ht => by
        rw [Tryd.params4] at ht
        have hm : t ∈ ([25, 27, 38, 9] : List TypeId) := by simpa using Array.mem_of_getElem? ht
        have hall : (([25, 27, 38, 9] : List TypeId).all fun u => !Tryd.prog.wantsStandIn u) = true := by kernel_rfl
        exact (show Tryd.prog.wantsStandIn t = false by simpa using List.all_eq_true.1 hall t hm)⟩)
    (by kernel_rfl)
#print axioms proved
end Go.Proofs.YthdcjcdgddejbaaDoor.headTells
