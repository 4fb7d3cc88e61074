/-
  DssBack returns true for all signals and texts. No conditions.
-/
import Derived.Test.YtdhkjhkgjfcolaaDssWorks
import Derived.Test.YtdhkjhkgjfcolaaDssFit
import Derived.Test.YtdhkjhkgjfcolaaDssOpen
import Derived.Test.YtdhkjhkgjfcolaaWalkOps
import Derived.Deep.QuietTactic
import Derived.BigQuiet
import Derived.WalkKit
import Derived.ProofKit
import Derived.OpenShut
import Derived.ShutString
import Derived.ChangeOld
import Derived.Below
import Derived.SizedLaws
namespace Go.Proofs.Ytdhkjhkgjfcolaa.dssBack
open Go.ChangeShapes Go.WideShapes Go.ChangeAt Go.RowKit
open Go.ChangeMaps (open_string shut_string)
set_option linter.unusedVariables false

theorem and_not : ∀ (F : _root_.Fin 32) (c : _root_.Fin 256), F.val &&& c.val = F.val → bits .andNot .u8 (F.val : Int) (c.val : Int) = 0 := by decide +kernel
theorem drop_text (s : ByteArray) (h : 2 ≤ s.size) : s.extract 2 s.size = txt (s.data.toList.drop 2) := by
  apply ByteArray.ext
  apply Array.toList_inj.1
  rw [ByteArray.data_extract, Array.toList_extract, List.extract_eq_take_drop]
  show (s.data.toList.drop 2).take (s.size - 2) = s.data.toList.drop 2
  rw [List.take_of_length_le (by rw [List.length_drop, len_data]; omega)]
set_option maxHeartbeats 4000000 in
set_option maxRecDepth 100000 in
theorem walk (x : Ds) (hx : x.Ok) (raw : ByteArray) (hr : raw.size ≤ 140737488351232) (w : World) :
    Calls Try.prog 5 #[.agg (dsv x), .string raw] w fun e w' => e = .returned (.bool true) ∧ Below w.heap.size w w' := by
  have HX := Lib.hid hx
  have HR := Lib.hid hr
  have HC := Lib.hid (Blk.new w 26 (dsv x))
  have HB := Lib.hid ((Below.refl _ w).alloc (Nat.le_refl _) (.cells (dsv x) 26))
  have HL := Lib.hid (show w.heap.size < (w.alloc (.cells (dsv x) 26)).heap.size by simp)
  clear hx hr
  go_enter Try.func5, Try.ntmps5
  go_wp2_with fail
  refine (works_t _).mono ?_
  rintro e W1 ⟨rfl, b⟩
  have HC1 := Lib.hid (HC.out.below b HL.out)
  have HB1 := Lib.hid (HB.out.trans (b.mono HB.out.size))
  clear b HC HB HL
  go_upto_region 3 with fail
  obtain ⟨y, hy⟩ : ∃ y, y = fitd x := ⟨_, rfl⟩
  have HYO := Lib.hid (show y.Ok by rw [hy]; exact fit_ok x HX.out)
  have HYM := Lib.hid (show y.May by rw [hy]; exact fit_may x)
  have HY := Lib.hid hy
  clear hy
  obtain ⟨A, hA⟩ : ∃ A : Array Value, A = #[.bool x.fin, .bool x.ha, .bool x.la, .int .u64 (x.ack : Int), .bool x.hm, .bool x.ld, .int .u64 (x.dsn : Int), .int .u32 (x.ssn : Int), .int .i64 x.len, .bool x.hs, .int .u16 (x.sum : Int), .bool y.fin, .bool y.ha, .bool y.la, .int .u64 (y.ack : Int), .bool y.hm, .bool y.ld, .int .u64 (y.dsn : Int), .int .u32 (y.ssn : Int), .int .i64 y.len, .bool y.hs, .int .u16 (y.sum : Int)] := ⟨_, rfl⟩
  have HA := Lib.hid hA
  clear hA
  have B0 : Below W1.heap.size W1 W1.drew := (Below.refl _ W1).drew
  refine held_start (fun W => Below W1.heap.size W1 W) (by kernel_rfl) (n := 5) rfl ?_
  obtain ⟨W0, hW0⟩ : ∃ W0, W0 = W1.drew := ⟨_, rfl⟩
  rw [← hW0] at B0 ⊢
  clear hW0
  refine held_free 0 (.agg (dsv x)) rfl (by kernel_rfl) (by kernel_rfl) (by kernel_rfl) (by kernel_rfl) B0 (fun W b => exec_row_ 26 (.tmp 2) (by kernel_rfl) w.heap.size (by kernel_rfl) 26 _ (0, 0) _ (HC1.out.below b HC1.out.lt) Try.underlying26 rfl (by kernel_rfl)) ?_
  refine held_free 1 (.agg (dsv x)) rfl (by kernel_rfl) (by kernel_rfl) (by kernel_rfl) (by kernel_rfl) B0 (fun W b => exec_row_ 26 (.tmp 2) (by kernel_rfl) w.heap.size (by kernel_rfl) 26 _ (0, 0) _ (HC1.out.below b HC1.out.lt) Try.underlying26 rfl (by kernel_rfl)) ?_
  refine held_free 4 (.int .i64 0) rfl (by kernel_rfl) (by kernel_rfl) (by kernel_rfl) (by kernel_rfl) B0 (fun _ _ => by kernel_rfl) ?_
  refine held_call 2 rfl (by kernel_rfl) (by kernel_rfl) (by kernel_rfl) (fit_any x HX.out _) (fun w' h => B0.trans (h.mono B0.size)) ?_
  intro W2 h2
  have B2 := B0.trans (h2.mono B0.size)
  clear h2 B0
  rw [← HY.out]
  refine held_free 3 (.agg A) rfl (by kernel_rfl) (by kernel_rfl) (by kernel_rfl) (by kernel_rfl) B2 (fun _ _ => by rw [HA.out]; kernel_rfl) ?_
  refine held_end_at ⟨#[.agg (dsv x), .string raw, .pointer (some ⟨w.heap.size, 0, none⟩), undef, .bool false, undef, undef, undef, undef, undef, undef, undef, undef, undef, undef, undef, undef, undef, undef, .bool true, .bool false, .agg (dsv x), .agg (dsv x), .agg (dsv y), .agg A, .int .i64 0, undef, undef, undef, undef, undef, undef, undef, undef, undef, undef, undef, undef, undef, undef, undef, undef, undef, undef, undef, undef, undef, undef, undef, undef, undef, undef, undef, undef, undef, undef, undef, undef, undef, undef, undef, undef, undef, undef, undef, undef, undef, undef, undef, undef, undef, undef, undef, undef, undef, undef, undef, undef, undef, undef, undef, undef, undef, undef, undef, undef, undef, undef, undef, undef, undef, undef, undef, undef, undef, undef, undef, undef, undef, undef, undef, undef, undef, undef, undef, undef, undef, undef, undef, undef, undef, undef, undef, undef, undef, undef, undef, undef, undef, undef], []⟩ (by kernel_rfl) (by kernel_rfl) ?_
  have HC2 := Lib.hid (HC1.out.below B2 HC1.out.lt)
  have HB2 := Lib.hid (HB1.out.trans (B2.mono HB1.out.size))
  clear B2 HC1 HB1
  go_wp2_with fail
  go_loopw [25] (fun i wr => ∃ j : Nat, j ≤ 2 ∧ i = .int .i64 (j : Int) ∧ Blk wr w.heap.size 26 (dsv x) ∧ Below w.heap.size w wr) (fun i _ => (2 - intOf i).toNat)
  case atStart => exact ⟨0, by omega, rfl, HC2.out, HB2.out⟩
  case round =>
    obtain ⟨j, hj, rfl, hC, hB⟩ := hrel
    have HC3 := Lib.hid hC
    have HB3 := Lib.hid hB
    clear hC hB HC2 HB2
    have cs : j = 0 ∨ j = 1 ∨ j = 2 := by omega
    clear hj
    rcases cs with rfl | rfl | rfl
    · have hi : (Instr.index 39 (.agg A) (.int .i64 0)).run Try.prog wr = .ok (.agg (dsv x)) wr := by rw [HA.out]; kernel_rfl
      by_cases hm : x.May
      · have HXM := Lib.hid hm
        clear hm
        have HZ3 := Lib.hid (Blk.new wr 26 (dsv x))
        have HX3 := Lib.hid (show Blk (wr.alloc (.cells (dsv x) 26)) w.heap.size 26 (dsv x) from HC3.out.alloc _)
        have HLT := Lib.hid (show wr.heap.size < (wr.alloc (.cells (dsv x) 26)).heap.size by simp)
        have HBA := Lib.hid (show Below w.heap.size w (wr.alloc (.cells (dsv x) 26)) from HB3.out.alloc HB3.out.size _)
        go_wp2_with (refine wpList_load_row rfl 26 _ rfl wr.heap.size rfl 26 (dsv x) (0, 0) _ ?_ Try.underlying26 rfl ds_size ?_; exact HZ3.out)
        refine (Encode_any x HX.out _).mono ?_
        rintro e W3 ⟨rfl, b⟩
        have HZ4 := Lib.hid (HZ3.out.below b HLT.out)
        have HX4 := Lib.hid (HX3.out.below b HX3.out.lt)
        have HB4 := Lib.hid (HBA.out.trans (b.mono HBA.out.size))
        clear b HZ3 HX3 HBA HLT
        rw [encV_t x HXM.out]
        obtain ⟨S, hS⟩ : ∃ S, S = txt x.body := ⟨_, rfl⟩
        rw [← hS]
        have hSs : S.size ≤ 28 := by
          have q1 := x.size_le
          have q2 := w2_le x.hs
          rw [hS, txt_size, x.body_size]
          omega
        have HD := Lib.hid (show decV S = .tuple #[.agg (dsv x), .int .i64 0] by rw [decV, hS, dec_body x HX.out HXM.out])
        clear hS
        go_wp2_with fail
        refine (Decode_any S W3 (by omega)).mono ?_
        rintro e W4 ⟨rfl, b⟩
        rw [HD.out]
        have HZ5 := Lib.hid (show Blk (W4.alloc (.cells (dsv x) 26)) wr.heap.size 26 (dsv x) from (HZ4.out.below b HZ4.out.lt).alloc _)
        have HN5 := Lib.hid (Blk.new W4 26 (dsv x))
        have hx5 := HX4.out.below b HX4.out.lt
        have hb5 := HB4.out.trans (b.mono HB4.out.size)
        have HX5 := Lib.hid (show Blk (W4.alloc (.cells (dsv x) 26)) w.heap.size 26 (dsv x) from hx5.alloc _)
        have HB5 := Lib.hid (show Below w.heap.size w (W4.alloc (.cells (dsv x) 26)) from hb5.alloc hb5.size _)
        clear b hx5 hb5 HX4 HB4 HZ4
        go_wp2_with (first
          | (refine wpList_load_row_w (by rfl) 26 _ rfl W4.heap.size rfl 26 (dsv x) (0, 0) _ ?_ Try.underlying26 rfl ds_size ?_; exact HN5.out)
          | (refine wpList_load_row_w (by rfl) 26 _ rfl wr.heap.size rfl 26 (dsv x) (0, 0) _ ?_ Try.underlying26 rfl ds_size ?_; exact HZ5.out))
        go_roundw
        case rel => exact ⟨1, by omega, by go_num, HX5.out, HB5.out⟩
        case measure => simp [intOf]
      · have HXM := Lib.hid hm
        clear hm
        have HZ3 := Lib.hid (Blk.new wr 26 (dsv x))
        have HX3 := Lib.hid (show Blk (wr.alloc (.cells (dsv x) 26)) w.heap.size 26 (dsv x) from HC3.out.alloc _)
        have HLT := Lib.hid (show wr.heap.size < (wr.alloc (.cells (dsv x) 26)).heap.size by simp)
        have HBA := Lib.hid (show Below w.heap.size w (wr.alloc (.cells (dsv x) 26)) from HB3.out.alloc HB3.out.size _)
        go_wp2_with (refine wpList_load_row rfl 26 _ rfl wr.heap.size rfl 26 (dsv x) (0, 0) _ ?_ Try.underlying26 rfl ds_size ?_; exact HZ3.out)
        refine (Encode_any x HX.out _).mono ?_
        rintro e W3 ⟨rfl, b⟩
        have HZ4 := Lib.hid (HZ3.out.below b HLT.out)
        have HX4 := Lib.hid (HX3.out.below b HX3.out.lt)
        have HB4 := Lib.hid (HBA.out.trans (b.mono HBA.out.size))
        clear b HZ3 HX3 HBA HLT
        rw [encV_f x HXM.out]
        go_wp2_with fail
        go_roundw
        case rel => exact ⟨1, by omega, by go_num, HX4.out, HB4.out⟩
        case measure => simp [intOf]
    · have hi : (Instr.index 39 (.agg A) (.int .i64 1)).run Try.prog wr = .ok (.agg (dsv y)) wr := by rw [HA.out]; kernel_rfl
      have HZ3 := Lib.hid (Blk.new wr 26 (dsv y))
      have HX3 := Lib.hid (show Blk (wr.alloc (.cells (dsv y) 26)) w.heap.size 26 (dsv x) from HC3.out.alloc _)
      have HLT := Lib.hid (show wr.heap.size < (wr.alloc (.cells (dsv y) 26)).heap.size by simp)
      have HBA := Lib.hid (show Below w.heap.size w (wr.alloc (.cells (dsv y) 26)) from HB3.out.alloc HB3.out.size _)
      go_wp2_with (refine wpList_load_row rfl 26 _ rfl wr.heap.size rfl 26 (dsv y) (0, 0) _ ?_ Try.underlying26 rfl ds_size ?_; exact HZ3.out)
      refine (Encode_any y HYO.out _).mono ?_
      rintro e W3 ⟨rfl, b⟩
      have HZ4 := Lib.hid (HZ3.out.below b HLT.out)
      have HX4 := Lib.hid (HX3.out.below b HX3.out.lt)
      have HB4 := Lib.hid (HBA.out.trans (b.mono HBA.out.size))
      clear b HZ3 HX3 HBA HLT
      rw [encV_t y HYM.out]
      obtain ⟨S, hS⟩ : ∃ S, S = txt y.body := ⟨_, rfl⟩
      rw [← hS]
      have hSs : S.size ≤ 28 := by
        have q1 := y.size_le
        have q2 := w2_le y.hs
        rw [hS, txt_size, y.body_size]
        omega
      have HD := Lib.hid (show decV S = .tuple #[.agg (dsv y), .int .i64 0] by rw [decV, hS, dec_body y HYO.out HYM.out])
      clear hS
      go_wp2_with fail
      refine (Decode_any S W3 (by omega)).mono ?_
      rintro e W4 ⟨rfl, b⟩
      rw [HD.out]
      have HZ5 := Lib.hid (show Blk (W4.alloc (.cells (dsv y) 26)) wr.heap.size 26 (dsv y) from (HZ4.out.below b HZ4.out.lt).alloc _)
      have HN5 := Lib.hid (Blk.new W4 26 (dsv y))
      have hx5 := HX4.out.below b HX4.out.lt
      have hb5 := HB4.out.trans (b.mono HB4.out.size)
      have HX5 := Lib.hid (show Blk (W4.alloc (.cells (dsv y) 26)) w.heap.size 26 (dsv x) from hx5.alloc _)
      have HB5 := Lib.hid (show Below w.heap.size w (W4.alloc (.cells (dsv y) 26)) from hb5.alloc hb5.size _)
      clear b hx5 hb5 HX4 HB4 HZ4
      go_wp2_with (first
        | (refine wpList_load_row_w (by rfl) 26 _ rfl W4.heap.size rfl 26 (dsv y) (0, 0) _ ?_ Try.underlying26 rfl ds_size ?_; exact HN5.out)
        | (refine wpList_load_row_w (by rfl) 26 _ rfl wr.heap.size rfl 26 (dsv y) (0, 0) _ ?_ Try.underlying26 rfl ds_size ?_; exact HZ5.out))
      go_roundw
      case rel => exact ⟨2, by omega, by go_num, HX5.out, HB5.out⟩
      case measure => simp [intOf]
    · go_wp2_with (refine wpList_load_row rfl 26 _ rfl w.heap.size rfl 26 (dsv x) (0, 0) _ ?_ Try.underlying26 rfl ds_size ?_; exact HC3.out)
      refine (fit_any x HX.out wr).mono ?_
      rintro e W3 ⟨rfl, b⟩
      rw [← HY.out]
      have HC4 := Lib.hid (HC3.out.below b HC3.out.lt)
      have HB4 := Lib.hid (HB3.out.trans (b.mono HB3.out.size))
      clear b HC3 HB3
      go_wp2_with fail
      refine (Encode_any y HYO.out W3).mono ?_
      rintro e W4 ⟨rfl, b⟩
      rw [encV_t y HYM.out]
      have HB5 := Lib.hid (HB4.out.trans (b.mono HB4.out.size))
      clear b HC4 HB4
      obtain ⟨Y, hY⟩ : ∃ Y, Y = txt y.body := ⟨_, rfl⟩
      rw [← hY]
      clear hY
      have hraw := HR.out
      have hcat2 : ¬ (9223372036854775807 < 1 + raw.size) := by omega
      go_wp2_with fail
      clear hraw hcat2
      obtain ⟨Q, hQ⟩ : ∃ Q, Q = (⟨#[47]⟩ : ByteArray) ++ raw := ⟨_, rfl⟩
      have hQs : Q.size ≤ 140737488351233 := by rw [hQ, ByteArray.size_append]; have := HR.out; show 1 + raw.size ≤ _; omega
      rw [← hQ]
      obtain ⟨A2, hA2⟩ : ∃ A : Array Value, A = #[.string raw, .string Q] := ⟨_, rfl⟩
      rw [← hA2]
      have HIX := Lib.hid (show ∀ (j : Nat), j < 2 → ∀ W : World, ∃ t : ByteArray, (Instr.index 40 (.agg A2) (.int .i64 (j : Int))).run Try.prog W = .ok (.string t) W ∧ t.size ≤ 140737488351233 from fun j hj W => by
        rw [hA2]
        have := HR.out
        have : j = 0 ∨ j = 1 := by omega
        rcases this with rfl | rfl
        · exact ⟨raw, by kernel_rfl, by omega⟩
        · exact ⟨Q, by kernel_rfl, hQs⟩)
      clear hA2 hQ hQs
      go_loopw [67] (fun i wr => ∃ j : Nat, j ≤ 2 ∧ i = .int .i64 (j : Int) ∧ Below w.heap.size w wr) (fun i _ => (2 - intOf i).toNat)
      case atStart => exact ⟨0, by omega, rfl, HB5.out⟩
      case round =>
        obtain ⟨j, hj, rfl, hB⟩ := hrel
        have HB6 := Lib.hid hB
        clear hB HB5
        by_cases hlt : j < 2
        · obtain ⟨t, hi, hts⟩ := HIX.out j hlt wr
          have i5 : (j : Int) < 2 := by omega
          have HLT := Lib.hid hlt
          have HTS := Lib.hid hts
          clear hlt hj hts
          go_wp2_with fail
          refine (Decode_any t wr (by have := HTS.out; omega)).mono ?_
          rintro e W5 ⟨rfl, b⟩
          have HB7 := Lib.hid (HB6.out.trans (b.mono HB6.out.size))
          clear b HB6
          obtain ⟨z, hz⟩ : ∃ z, z = (dec t).1 := ⟨_, rfl⟩
          obtain ⟨c, hc⟩ : ∃ c, c = (dec t).2 := ⟨_, rfl⟩
          rw [decV, ← hz, ← hc]
          by_cases h0 : c = 0
          · have hd : (dec t).2 = 0 := by rw [← hc]; exact h0
            obtain ⟨bs, h2, hk, hh, h4, hsz, he⟩ : ∃ bs, 2 ≤ t.size ∧ byteAt t 0 / 16 = 2 ∧ ¬ (fl (byteAt t 1) 1 = false ∧ fl (byteAt t 1) 4 = false) ∧ (bs = true → fl (byteAt t 1) 4 = true) ∧ t.size = sizc (byteAt t 1) + w2 bs ∧ dec t = (gotc (byteAt t 1) t bs, 0) := by
              rcases dec_cases t with ⟨_, q⟩ | q
              · exact absurd hd q
              · exact q
            rw [he] at hz
            have HZO := Lib.hid (show z.Ok by rw [hz]; exact gotc_ok _ _ _)
            have HZM := Lib.hid (show z.May by rw [hz]; exact gotc_may _ _ _ hh h4)
            obtain ⟨S, hS⟩ : ∃ S, S = txt z.body := ⟨_, rfl⟩
            have hSb : S = txt (32 :: UInt8.ofNat z.bits :: t.data.toList.drop 2) := by rw [hS, hz, body_got _ _ _ hsz]
            have hS2 : S.size = t.size := by rw [hSb, two_size, List.length_drop, len_data]; omega
            have hbz : z.bits &&& byteAt t 1 = z.bits := by rw [hz]; exact gotc_bits _ _ _ (byteAt_lt t 1)
            have HSB := Lib.hid hSb
            have HSZ := Lib.hid hS2
            have HS := Lib.hid hS
            have HH2 := Lib.hid h2
            have HBZ := Lib.hid hbz
            subst h0
            clear hc hz hd hh h4 hsz he hk hS hSb hS2 hbz
            have HN6 := Lib.hid (Blk.new W5 26 (dsv z))
            have HB8 := Lib.hid (show Below w.heap.size w (W5.alloc (.cells (dsv z) 26)) from HB7.out.alloc HB7.out.size _)
            go_wp2_with (refine wpList_load_row rfl 26 _ rfl W5.heap.size rfl 26 (dsv z) (0, 0) _ ?_ Try.underlying26 rfl ds_size ?_; exact HN6.out)
            refine (Encode_any z HZO.out _).mono ?_
            rintro e W7 ⟨rfl, b⟩
            rw [encV_t z HZM.out, ← HS.out]
            have HB9 := Lib.hid (HB8.out.trans (b.mono HB8.out.size))
            clear b HB8 HB7 HN6
            have hr2 : 2 ≤ t.size := HH2.out
            have hs2 : 2 ≤ S.size := by rw [HSZ.out]; exact hr2
            have p0 : 0 < S.size := by omega
            have p1 : 1 < S.size := by omega
            have r1 : 1 < t.size := by omega
            have ez : ((S.size : Int) != (t.size : Int)) = false := by rw [HSZ.out]; simp
            have e2 : decide ((S.size : Int) < 2) = false := by simp; omega
            have hl0 : byteAt S 0 = 32 := by rw [HSB.out]; rfl
            have hl1 : byteAt S 1 = z.bits := by rw [HSB.out, two_1, u8_bits z]
            have q0 : ((S[0].toNat : Int) != 32) = false := by rw [← byteAt_get S 0 p0, hl0]; decide
            have q1 : (bits .andNot .u8 (S[1].toNat : Int) (t[1].toNat : Int) != 0) = false := by
              rw [← byteAt_get S 1 p1, ← byteAt_get t 1 r1, hl1, and_not ⟨z.bits, z.bits_lt⟩ ⟨byteAt t 1, byteAt_lt t 1⟩ HBZ.out]; rfl
            have q2 : S.extract 2 S.size = t.extract 2 t.size := by
              rw [drop_text S hs2, drop_text t hr2, HSB.out]
              rfl
            have i1 : (2 : Int) ≤ (S.size : Int) := by omega
            have i3 : (2 : Int) ≤ (t.size : Int) := by omega
            have i0 : (0 : Int) < (S.size : Int) := by omega
            have i4 : (0 : Int) < (t.size : Int) := by omega
            have i6 : (1 : Int) < (S.size : Int) := by omega
            have i7 : (1 : Int) < (t.size : Int) := by omega
            clear hl0 hl1 hr2 hs2 h2
            go_upto_region 25 with fail
            go_quiet (fail)
            go_wp2_with fail
            refine ⟨⟨j + 1, by have := HLT.out; omega, by go_num, below_drewN HB9.out nq⟩, ?_⟩
            have := HLT.out
            simp [intOf]
            omega
          · have hd : (dec t).2 ≠ 0 := by rw [← hc]; exact h0
            have hz0 : z = .zero := by rw [hz]; exact dec_none t hd
            have ec : (c != 0) = true := by rw [bne_iff_ne]; exact h0
            subst hz0
            clear hz hd hc h0
            have HN6 := Lib.hid (Blk.new W5 26 (dsv Ds.zero))
            have HB8 := Lib.hid (show Below w.heap.size w (W5.alloc (.cells (dsv Ds.zero) 26)) from HB7.out.alloc HB7.out.size _)
            go_wp2_with (refine wpList_load_row rfl 26 _ rfl W5.heap.size rfl 26 (dsv Ds.zero) (0, 0) _ ?_ Try.underlying26 rfl ds_size ?_; exact HN6.out)
            go_roundw
            case rel => exact ⟨j + 1, by have := HLT.out; omega, by go_num, HB8.out⟩
            case measure => simp [intOf]; omega
        · obtain rfl : j = 2 := by omega
          clear hlt hj
          go_wp2_with fail
          go_ret; exact ⟨rfl, HB6.out⟩

theorem own : ownKnob Try.prog.godebug = none := by kernel_rfl
theorem laidOut : laidOutB Try.prog = true := by kernel_rfl

set_option maxRecDepth 100000 in
theorem lifted (os : Os) (started : os.Started) (H : Type) (enc : TypeId × Value → H) :
    ReturnsInHanded {} Try.checked os 5 .any (Rows.dssBackSpec.pre6 enc Try.prog Try.f5 Rows.dssBackRow.domain false) (Rows.dssBackSpec.post enc Try.prog Try.f5 false true false false) := by
  refine returnsInHanded_of_change_sized (C := Try.checked) own started (by kernel_rfl) Try.func5
    (ChangeSpec.witness6 (enc := enc) (C := Try.checked) false ⟨#[], #[.agg #[.bool false, .bool false, .bool false, .int .u64 0, .bool false, .bool false, .int .u64 0, .int .u32 0, .int .i64 0, .bool false, .int .u16 0], .string ByteArray.empty], []⟩ 8 (by kernel_rfl) (by kernel_rfl) (by kernel_rfl) (by kernel_rfl)) ?_
  intro W base args ds gs before hval0 hW hcnd hsz0 _
  have hsz : (DataW.weightsEach Try.prog (Try.f5.params.toList ++ Rows.dssBackSpec.plain.varTypes Try.prog) (ds ++ gs)).all (· ≤ reachBytes) = true := hsz0
  have hval : ∀ (j : Nat) t v, Try.f5.params[j]? = some t → args[j]? = some v → Value.okWide Try.prog W .any base t v := hval0
  have hW' := hW
  obtain ⟨p, q, hA0, hV, rfl, hfz, hnd⟩ := hW
  have hA : DataW.TrodAll enc Try.prog W 0 (fun _ => true) true Try.f5.params.toList args.toList ds p := hA0
  rw [Try.params5] at hA hval hsz
  obtain ⟨v0, vs0, d0, ds0, p0, q0, hargs, rfl, rfl, h0, r0⟩ := trodAll_cons hA
  obtain ⟨v1, vs1, d1, ds1, p1, q1, rfl, rfl, rfl, h1, r1⟩ := trodAll_cons r0
  obtain ⟨rfl, rfl, rfl⟩ := trodAll_nil r1
  obtain rfl : args = #[v0, v1] := by cases args; simp_all
  obtain ⟨rfl, rfl⟩ := trodVars_none hV
  have k0 := h0
  have lt0 : ∀ x ∈ p0, x.block < W.heap.size := by obtain ⟨m, hm⟩ := k0; exact DataW.trod_lt m _ _ _ hm
  obtain ⟨a0, rfl, o0⟩ := open_dss (hval 0 26 v0 rfl rfl) h0
  obtain ⟨a1, rfl, rfl, rfl, w1⟩ := open_string Try.underlying9 (hval 1 9 v1 rfl rfl) h1
  have z1 : a1.size ≤ 140737488351232 := by have := sized_string hsz (j := 1) (t := 9) rfl rfl; simpa [reachBytes] using this
  clear hA0 hval0
  simp only [List.append_nil] at hW'
  refine (walk a0 o0 a1 z1 W).mono fun e W' ⟨he, bel⟩ => ?_
  subst he
  exact ⟨_, rfl, _, _, _, [], _, [], hW', trodAll_mk1 (shut_bool Try.underlying4 _), (trodAll_cons_mk (Below.trod laidOut (by kernel_rfl) (of_decide_eq_true (by kernel_rfl)) k0 bel lt0) (trodAll_cons_mk (shut_string Try.underlying9 w1) trodAll_mk0)), rfl, bel.frame _, fun h => by cases h⟩

theorem over : Rows.dssBackRow.holds Try.pinned (OpenSpec.ofChange Rows.dssBackSpec) :=
  OpenClaim.holds_of_wide 5 Try.f5 rfl rfl rfl rfl rfl rfl rfl ⟨rfl, rfl, rfl, rfl, rfl⟩ rfl rfl rfl rfl rfl (by kernel_rfl) Try.func5 (by kernel_rfl)
    (of_decide_eq_true (by kernel_rfl)) (by unfold Func.isWrapper; first | (rw [if_pos (by decide +kernel)]; kernel_rfl) | (rw [if_neg (by decide +kernel)]; exact ⟨rfl, rfl⟩))
    (fun os started H enc _ => lifted os started H enc)

theorem proved : Rows.DssBackSaid := over
#print axioms proved
end Go.Proofs.Ytdhkjhkgjfcolaa.dssBack
