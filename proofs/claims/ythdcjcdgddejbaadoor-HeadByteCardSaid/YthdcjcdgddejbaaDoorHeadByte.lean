/-
  A segment's bytes of which one is another one are never parsed: of all segments, shapes, places, and differences (statement HeadByte, promises P5.2, P5.3, P3.3), the table of flags being what the program's text lays.
-/
import Derived.Test.YthdcjcdgddejbaaDoorHeadOpen
namespace Go.Proofs.YthdcjcdgddejbaaDoor.headByte
open Go.ChangeShapes Go.WideShapes Go.ChangeAt Go.RowKit
set_option linter.unusedVariables false


/-- A byte, with others of its bits: another byte. -/
theorem xor_byte (a : UInt8) (c : Int) (h0 : 1 ≤ c) (h1 : c ≤ 255) : ∃ v : UInt8, bits .xor .u8 (a.toNat : Int) c = (v.toNat : Int) ∧ v ≠ a := by
  obtain ⟨n, rfl⟩ := Int.eq_ofNat_of_zero_le (show 0 ≤ c by omega)
  have ha := a.toNat_lt
  have hx : a.toNat ^^^ n < 256 := Nat.xor_lt_two_pow (n := 8) (by omega) (by omega)
  have e : (UInt8.ofNat (a.toNat ^^^ n)).toNat = a.toNat ^^^ n := by rw [UInt8.toNat_ofNat']; exact Nat.mod_eq_of_lt hx
  refine ⟨UInt8.ofNat (a.toNat ^^^ n), by rw [u8_xor_nat _ _ (by omega) (by omega), e], fun h => ?_⟩
  have h2 : a.toNat ^^^ n = a.toNat := by rw [← e, h]
  have h3 : n = 0 := by
    have h4 : a.toNat ^^^ (a.toNat ^^^ n) = a.toNat ^^^ a.toNat := by rw [h2]
    rw [← Nat.xor_assoc, Nat.xor_self, Nat.zero_xor] at h4
    exact h4
  omega

set_option maxHeartbeats 4000000 in
set_option maxRecDepth 100000 in
theorem walk (x : Sg) (hx : x.Ok) (zd : x.data.size ≤ 140737488351232) (a d c : Int) (ha : 0 ≤ a ∧ a ≤ 255) (hd : 0 ≤ d ∧ d ≤ 65535) (hc : 0 ≤ c ∧ c ≤ 255) (i : Int) (hi : 0 ≤ i ∧ i ≤ 65535) (b : Int) (hb : 0 ≤ b ∧ b ≤ 255) (w : World) (ht : Tbl w) :
    Calls Tryd.prog 6 #[.agg (segv x), .agg #[.int .u8 a, .int .u16 d, .int .u8 c], .int .u16 i, .int .u8 b] w fun e w' => e = .returned (.bool true) ∧ Below w.heap.size w w' := by
  have HX := Lib.hid hx
  have HA := Lib.hid ha
  have HD := Lib.hid hd
  have HC := Lib.hid hc
  obtain ⟨i0, i1⟩ := hi
  obtain ⟨b0, b1⟩ := hb
  have S1' := Blk.new w 25 (segv x)
  have S2' := Blk.new (w.alloc (.cells (segv x) 25)) 27 #[.int .u8 a, .int .u16 d, .int .u8 c]
  rw [World.size_alloc] at S2'
  have HS1 := Lib.hid (S1'.alloc (.cells #[.int .u8 a, .int .u16 d, .int .u8 c] 27))
  have HS2 := Lib.hid S2'
  have HT := Lib.hid ((ht.alloc (.cells (segv x) 25)).alloc (.cells #[.int .u8 a, .int .u16 d, .int .u8 c] 27))
  have HB := Lib.hid (((Below.refl _ w).alloc (Nat.le_refl _) (.cells (segv x) 25)).alloc (by simp) (.cells #[.int .u8 a, .int .u16 d, .int .u8 c] 27))
  clear hx ha hd hc ht S1' S2' zd
  go_enter Tryd.func6, Tryd.ntmps6
  go_wp2_with fail
  refine (works_any _ HT.out).mono ?_
  rintro e W1 ⟨rfl, b1w⟩
  have HS1a := Lib.hid (HS1.out.below b1w HS1.out.lt)
  have HS2a := Lib.hid (HS2.out.below b1w HS2.out.lt)
  have HT1 := Lib.hid (HT.out.below b1w)
  have HB1 := Lib.hid (below_then HB.out b1w)
  clear b1w HS1 HS2 HT HB
  go_wp2_with (first
    | refine wpList_load_row rfl 27 _ rfl (w.heap.size + 1) rfl 27 #[.int .u8 a, .int .u16 d, .int .u8 c] (0, 0) _ HS2a.out Tryd.underlying27 rfl shape_size ?_
    | refine wpList_load_row rfl 25 _ rfl w.heap.size rfl 25 (segv x) (0, 0) _ HS1a.out Tryd.underlying25 rfl seg_size ?_)
  refine (Filled_any a d c x _ HA.out.1 HA.out.2 HD.out.1 HD.out.2 HC.out.1 HC.out.2).mono ?_
  rintro e W2 ⟨A, D, zA, zD, rfl, b2⟩
  obtain ⟨y, hy⟩ : ∃ y : Sg, y = { x with area := A, data := D } := ⟨_, rfl⟩
  rw [← hy]
  have hok : y.Ok := by rw [hy]; exact ⟨HX.out.src, HX.out.dst, HX.out.seq, HX.out.ack, HX.out.win, by show A.size ≤ _; omega, by show D.size ≤ _; omega⟩
  have HOK := Lib.hid hok
  have HT2 := Lib.hid (HT1.out.below b2)
  have HB2 := Lib.hid (below_then HB1.out b2)
  clear hok hy b2 zA zD HT1 HB1 HS1a HS2a
  go_wp2_with fail
  refine (Lay_any y _ HOK.out HT2.out).mono ?_
  rintro e W3 ⟨rfl, b3⟩
  have HT3 := Lib.hid (HT2.out.below b3)
  have HB3 := Lib.hid (below_then HB2.out b3)
  clear b3 HT2 HB2
  cases hf : y.fits
  · rw [y.lay_f hf]
    clear hf
    go_wp2
    go_ret; exact ⟨rfl, HB3.out⟩
  · rw [y.lay_t hf]
    obtain ⟨k1, k2, k3⟩ := y.fits_t hf
    obtain ⟨t, htt⟩ : ∃ t, t = txt y.bytes := ⟨_, rfl⟩
    obtain ⟨l, hl⟩ : ∃ l, l = y.bytes := ⟨_, rfl⟩
    have hll : l.length = t.size := by rw [htt, hl, txt_size]
    have ht1 : 20 ≤ t.size := by rw [← hll, hl, y.bytes_length]; omega
    have ht2 : t.size ≤ 1084 := by rw [← hll, hl, y.bytes_length]; omega
    have htl : t.data.toList = l := by rw [htt, hl]
    obtain ⟨cap, w2, hconv, hbts, hbel, hsz⟩ := text_bytes W3 t
    rw [htl] at hbts
    have HBTS := Lib.hid hbts
    have HBEL := Lib.hid hbel
    have d1 : decide ((t.size : Int) < 20) = false := by simp; omega
    have hz2 : ¬ (t.size : Int) = 0 := by omega
    obtain ⟨k, hk⟩ : ∃ k : Nat, i % (t.size : Int) = (k : Int) := ⟨_, (Int.toNat_of_nonneg (Int.emod_nonneg _ hz2)).symm⟩
    have hkt : i.tmod (t.size : Int) = (k : Int) := by rw [Int.tmod_eq_emod_of_nonneg i0]; exact hk
    have hkx : k < t.size := by have := Int.emod_lt_of_pos i (show (0 : Int) < t.size by omega); omega
    have hkl : k < l.length := by omega
    obtain ⟨z, hz⟩ : ∃ z, z = l[k] := ⟨_, rfl⟩
    have c0 := HBTS.out.cell k hkl
    have f0 := HBTS.out.frozen k hkl
    rw [← hz] at c0
    obtain ⟨v, hv, hvy⟩ := xor_byte z (1 + b % 255) (by omega) (by omega)
    have hb2 := HBTS.out.set_ k v hkl
    have HB2' := Lib.hid hb2
    obtain ⟨t2, ht2e⟩ : ∃ t2, txt (l.set k v) = t2 := ⟨_, rfl⟩
    have hcv : ∀ V, Bts V W3.heap.size (l.set k v) → (convert 45 9 (.slice (some ⟨W3.heap.size, 0, none⟩) t.size cap)).run Tryd.prog V = .ok (.string t2) V := fun V h => by rw [← ht2e]; exact bytes_text V W3.heap.size cap _ _ h (by rw [List.length_set, hll])
    have hcode : code t2.data.toList ≠ 0 := by
      rw [← ht2e]
      show code (l.set k v) ≠ 0
      subst hl
      exact one_otherwise y k v hkl (by rw [← hz]; exact hvy)
    have hs2 : t2.size ≤ 4611686018427387904 := by rw [← ht2e, txt_size, List.length_set, hll]; omega
    have HT4 := Lib.hid (HT3.out.below hbel)
    have HB4 := Lib.hid (below_then HB3.out hbel)
    have hsl := hbel.size
    have hlt := HBTS.out.1
    have cv := hcv _ hb2
    have T5 := HT3.out.below hbel |>.under ((Below.refl W3.heap.size w2).setCell (p := ⟨W3.heap.size, k, none⟩) (Nat.le_refl _) (.int .u8 (v.toNat : Int))) HT3.out.lt
    have B5 := HB4.out.setCell (p := ⟨W3.heap.size, k, none⟩) HB3.out.size (.int .u8 (v.toNat : Int))
    obtain ⟨cc, hcc⟩ : ∃ cc, cc = code t2.data.toList := ⟨_, rfl⟩
    have hpv := parseV_f t2.data.toList cc hcc.symm (by rw [hcc]; exact hcode)
    have cne : (cc != 0) = true := by rw [hcc]; simpa using hcode
    rw [← htt]
    have HT5 := Lib.hid T5
    have HB5 := Lib.hid B5
    have HS2 := Lib.hid hs2
    have HPV := Lib.hid hpv
    clear hf htt hl hll ht1 ht2 htl hbts hbel hsz hz hkl hvy hb2 ht2e hcv hcode hs2 k1 k2 k3 hk T5 B5 hcc hpv
    go_wp2_with fail
    refine (Parse_any t2 _ HS2.out HT5.out).mono ?_
    rintro e W6 ⟨rfl, b6⟩
    rw [HPV.out]
    have HB6 := Lib.hid (below_then HB5.out b6)
    clear b6
    go_wp2_with (first
      | refine wpList_store_row rfl 25 _ _ rfl W6.heap.size (segv Sg.zero) rfl rfl 25 _ (heap_alloc_new W6 _) seg_size rfl (segv_one _) ?_
      | refine wpList_load_row_w (by rfl) 25 _ rfl W6.heap.size rfl 25 #[.int .i64 0, .int .u16 0, .int .u16 0, .int .u32 0, .int .u32 0, .bool false, .bool false, .bool false, .bool false, .int .u16 0, .string ⟨#[]⟩, .string ⟨#[]⟩] (0, 0) _ (setRow_heap _ W6.heap.size _ (segv Sg.zero) _ _ (heap_alloc_new W6 _)) Tryd.underlying25 rfl seg_size ?_)
    go_ret; exact ⟨rfl, below_setRow (HB6.out.alloc HB6.out.size _) HB6.out.size _⟩

set_option maxRecDepth 100000 in
theorem lifted (os : Os) (started : os.Started) (H : Type) (enc : TypeId × Value → H) :
    ReturnsInHanded {} Tryd.checked os 6 .any (fun w args => (Rows.headByteSpec.pre enc Tryd.prog Tryd.f6 [] false w args ∧ laidMetH Tryd.prog laid1 w) ∧ sizedMet enc Tryd.prog Tryd.f6 (OpenSpec.ofChange Rows.headByteSpec) false w args)
      (Rows.headByteSpec.post enc Tryd.prog Tryd.f6 false true false false) := by
  refine returnsInHanded_of_change_and (C := Tryd.checked) (X := fun w _ => laidMetH Tryd.prog laid1 w) (fun _ _ _ hh h => h.of_heap hh) own started (by kernel_rfl) Tryd.func6
    (ChangeSpec.witness_shaped (enc := enc) (C := Tryd.checked) (os := os) (X := fun w _ => laidMetH Tryd.prog laid1 w) false (World.doorLaid Tryd.prog 400 os) #[.agg #[.int .i64 0, .int .u16 0, .int .u16 0, .int .u32 0, .int .u32 0, .bool false, .bool false, .bool false, .bool false, .int .u16 0, .string ByteArray.empty, .string ByteArray.empty], .agg #[.int .u8 0, .int .u16 0, .int .u8 0], .int .u16 0, .int .u8 0] 8 rfl (World.shaped_of_RefB (by kernel_rfl) (by kernel_rfl)) (by kernel_rfl) (by kernel_rfl) (by kernel_rfl) (door_met os _)) ?_
  intro W base args ds gs before hval0 hW hcnd hsz0 hL _
  have hsz : (DataW.weightsEach Tryd.prog (Tryd.f6.params.toList ++ Rows.headByteSpec.plain.varTypes Tryd.prog) (ds ++ gs)).all (· ≤ reachBytes) = true := hsz0
  have ht := table_of hL
  have hval : ∀ (j : Nat) t v, Tryd.f6.params[j]? = some t → args[j]? = some v → Value.okWide Tryd.prog W .any base t v := hval0
  have hW' := hW
  obtain ⟨p, q, hA0, hV, rfl, hfz, hnd⟩ := hW
  have hA : DataW.TrodAll enc Tryd.prog W 0 (fun _ => true) true Tryd.f6.params.toList args.toList ds p := hA0
  rw [Tryd.params6] at hA hval hsz
  obtain ⟨v0, vs0, d0, ds0, p0, q0, hargs, rfl, rfl, h0, r0⟩ := trodAll_cons hA
  obtain ⟨v1, vs1, d1, ds1, p1, q1, rfl, rfl, rfl, h1, r1⟩ := trodAll_cons r0
  obtain ⟨v2, vs2, d2, ds2, p2, q2, rfl, rfl, rfl, h2, r2⟩ := trodAll_cons r1
  obtain ⟨v3, vs3, d3, ds3, p3, q3, rfl, rfl, rfl, h3, r3⟩ := trodAll_cons r2
  obtain ⟨rfl, rfl, rfl⟩ := trodAll_nil r3
  obtain rfl : args = #[v0, v1, v2, v3] := by cases args; simp_all
  obtain ⟨rfl, rfl⟩ := trodVars_none hV
  have k0 := h0
  have lt0 : ∀ x ∈ p0, x.block < W.heap.size := by obtain ⟨m, hm⟩ := k0; exact DataW.trod_lt m _ _ _ hm
  obtain ⟨x0, rfl, s1, s2, s3, s4, s5, parts, hd0, g10, g11⟩ := open_seg (hval 0 25 v0 rfl rfl) h0
  have k1 := h1
  have lt1 : ∀ x ∈ p1, x.block < W.heap.size := by obtain ⟨m, hm⟩ := k1; exact DataW.trod_lt m _ _ _ hm
  obtain ⟨a1, b1, c1, rfl, ra1, rb1, rc1⟩ := open_shape (hval 1 27 v1 rfl rfl) h1
  obtain ⟨a2, rfl, rfl, rfl, w2⟩ := open_int Tryd.underlying22 (hval 2 22 v2 rfl rfl) h2
  obtain ⟨a3, rfl, rfl, rfl, w3⟩ := open_int Tryd.underlying5 (hval 3 5 v3 rfl rfl) h3
  have za : x0.area.size ≤ 140737488351232 := by have := agg_string hsz (j := 0) (k := 10) (t := 25) (tk := 9) rfl (by rw [hd0]; rfl) Tryd.underlying25 rfl g10; simpa [reachBytes] using this
  have zd : x0.data.size ≤ 140737488351232 := by have := agg_string hsz (j := 0) (k := 11) (t := 25) (tk := 9) rfl (by rw [hd0]; rfl) Tryd.underlying25 rfl g11; simpa [reachBytes] using this
  have hok : x0.Ok := ⟨s1, s2, s3, s4, s5, by omega, by omega⟩
  clear hA0 hval0
  simp only [List.append_nil] at hW'
  refine (walk x0 hok zd a1 b1 c1 ra1 rb1 rc1 a2 (bounds_u16 w2) a3 (bounds_u8 w3) W ht).mono fun e W' ⟨he, bel⟩ => ?_
  subst he
  exact ⟨_, rfl, _, _, _, [], _, [], hW', trodAll_mk1 (shut_bool Tryd.underlying4 _), (trodAll_cons_mk (Below.trod laidOut (by kernel_rfl) (of_decide_eq_true (by kernel_rfl)) k0 bel lt0) (trodAll_cons_mk (Below.trod laidOut (by kernel_rfl) (of_decide_eq_true (by kernel_rfl)) k1 bel lt1) (trodAll_cons_mk (shut_int Tryd.underlying22 w2) (trodAll_cons_mk (shut_int Tryd.underlying5 w3) trodAll_mk0)))), rfl, bel.frame _, fun h => by cases h⟩

theorem over : Rows.HeadByteSaid :=
  OpenClaim.holds_of_wide 6 Tryd.f6 rfl rfl rfl rfl rfl rfl rfl ⟨rfl, rfl, rfl, rfl, rfl⟩ rfl rfl rfl rfl rfl (by kernel_rfl) Tryd.func6 (by kernel_rfl)
    (of_decide_eq_true (by kernel_rfl)) (by unfold Func.isWrapper; first | (rw [if_pos (by decide +kernel)]; kernel_rfl) | (rw [if_neg (by decide +kernel)]; exact ⟨rfl, rfl⟩))
    (fun os started H enc _ => lifted os started H enc)

theorem proved : Rows.HeadByteCardSaid :=
  Claim7.holds_tied_plain_at .later [] [.data] true _ false
    over (fun _ h => by cases h) (by kernel_rfl) (fun _ h => by cases h) headByte_row_tie rfl ⟨rfl, rfl⟩ (by kernel_rfl) rfl
    (fun f fn hf hfn => by
      obtain rfl : f = 6 := Option.some.inj ((show Tryd.prog.funcNamed "plait/plaitlaw05.HeadByte" = some 6 by kernel_rfl).symm.trans hf) |>.symm
      obtain rfl : fn = Tryd.f6 := (Option.some.inj (Tryd.func6.symm.trans hfn)).symm
      exact ⟨by kernel_rfl, fun j t ht => by
        rw [Tryd.params6] at ht
        have hm : t ∈ ([25, 27, 22, 5] : List TypeId) := by simpa using Array.mem_of_getElem? ht
        have hall : (([25, 27, 22, 5] : List TypeId).all fun u => !Tryd.prog.wantsStandIn u) = true := by kernel_rfl
        exact (show Tryd.prog.wantsStandIn t = false by simpa using List.all_eq_true.1 hall t hm)⟩)
    (by kernel_rfl)
#print axioms proved
end Go.Proofs.YthdcjcdgddejbaaDoor.headByte
