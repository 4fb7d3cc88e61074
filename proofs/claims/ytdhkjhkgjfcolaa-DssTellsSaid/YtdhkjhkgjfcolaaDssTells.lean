/-
  DssTells returns true for all options, places, bytes and texts. No conditions.
-/
import Derived.Test.YtdhkjhkgjfcolaaDssWorks
import Derived.Test.YtdhkjhkgjfcolaaDssFit
import Derived.Test.YtdhkjhkgjfcolaaDssOpen
import Derived.Test.YtdhkjhkgjfcolaaDssRefD
import Derived.Deep.QuietTactic
import Derived.BigQuiet
import Derived.WalkKit
import Derived.ProofKit
import Derived.OpenShut
import Derived.ShutString
import Derived.ChangeOld
import Derived.Below
import Derived.SizedLaws
namespace Go.Proofs.Ytdhkjhkgjfcolaa.dssTells
open Go.ChangeShapes Go.WideShapes Go.ChangeAt Go.RowKit
open Go.ChangeMaps (open_string shut_string)
set_option linter.unusedVariables false

theorem byte_of (n : Int) (h0 : 0 ≤ n) (h : n ≤ 255) : ∃ v : UInt8, n = (v.toNat : Int) := by
  refine ⟨UInt8.ofNat n.toNat, ?_⟩
  rw [UInt8.toNat_ofNat']; omega
theorem size_two (y : Ds) : 2 ≤ y.size + w2 y.hs ∧ y.size + w2 y.hs ≤ 28 := by
  have h := y.size_le
  have := w2_le y.hs
  refine ⟨?_, by omega⟩
  unfold Ds.size siz
  omega
set_option maxHeartbeats 4000000 in
set_option maxRecDepth 100000 in
theorem walk (x : Ds) (hx : x.Ok) (at_ by_ : Int) (ha : 0 ≤ at_ ∧ at_ ≤ 255) (hb : 0 ≤ by_ ∧ by_ ≤ 255) (raw : ByteArray) (hr : raw.size ≤ 140737488351232) (w : World) :
    Calls Try.prog 4 #[.agg (dsv x), .int .u8 at_, .int .u8 by_, .string raw] w fun e w' => e = .returned (.bool true) ∧ Below w.heap.size w w' := by
  have HX := Lib.hid hx
  have HR := Lib.hid hr
  have HAT := Lib.hid ha
  have HBY := Lib.hid hb
  have HC := Lib.hid (Blk.new w 26 (dsv x))
  have HB := Lib.hid ((Below.refl _ w).alloc (Nat.le_refl _) (.cells (dsv x) 26))
  clear hx hr ha hb
  go_enter Try.func4, Try.ntmps4
  go_wp2_with (refine wpList_load_row rfl 26 _ rfl w.heap.size rfl 26 (dsv x) (0, 0) _ ?_ Try.underlying26 rfl ds_size ?_; exact HC.out)
  refine (fit_any x HX.out _).mono ?_
  rintro e W1 ⟨rfl, b⟩
  have HB1 := Lib.hid (HB.out.trans (b.mono HB.out.size))
  clear b HC HB
  obtain ⟨y, hy⟩ : ∃ y, y = fitd x := ⟨_, rfl⟩
  have HYO := Lib.hid (show y.Ok by rw [hy]; exact fit_ok x HX.out)
  have HYM := Lib.hid (show y.May by rw [hy]; exact fit_may x)
  rw [← hy]
  clear hy
  go_wp2_with fail
  refine (EncodeR_any y HYO.out W1).mono ?_
  rintro e W2 ⟨rfl, b⟩
  have HB2 := Lib.hid (HB1.out.trans (b.mono HB1.out.size))
  clear b HB1
  rw [encV_t y HYM.out]
  obtain ⟨l, hl⟩ : ∃ l, l = y.body := ⟨_, rfl⟩
  obtain ⟨S, hS⟩ : ∃ S, S = txt l := ⟨_, rfl⟩
  rw [← hl, ← hS]
  have hz := size_two y
  have hll : l.length = y.size + w2 y.hs := by rw [hl]; exact y.body_size
  have hSs : S.size = l.length := by rw [hS, txt_size]
  have n2 : 2 ≤ S.size := by omega
  have n28 : S.size ≤ 28 := by omega
  have i0 : (0 : Int) < (S.size : Int) := by omega
  have HSL := Lib.hid hSs
  obtain ⟨cp, W3, hcv, hbt, hbl, hsz⟩ := text_bytes W2 S
  obtain ⟨g, hg⟩ : ∃ g, g = W2.heap.size := ⟨_, rfl⟩
  rw [← hg] at hcv hbt hsz
  have hdl : S.data.toList = l := by rw [hS]; rfl
  rw [hdl] at hbt
  have HB3 := Lib.hid (HB2.out.trans (hbl.mono HB2.out.size))
  have HBT := Lib.hid hbt
  have HG := Lib.hid (show w.heap.size ≤ g by rw [hg]; exact HB2.out.size)
  clear hbt hbl hsz hg hdl hl hS hz hll hSs HB2
  obtain ⟨a0, a1⟩ := HAT.out
  obtain ⟨b0, b1⟩ := HBY.out
  obtain ⟨k, hk⟩ : ∃ k : Nat, (k : Int) = at_ % (S.size : Int) := ⟨_, Int.toNat_of_nonneg (Int.emod_nonneg _ (by omega))⟩
  have hks : k < S.size := by have := Int.emod_lt_of_pos at_ i0; omega
  obtain ⟨m, hm⟩ : ∃ m : Nat, (m : Int) = at_ % ((S.size : Int) + 1) := ⟨_, Int.toNat_of_nonneg (Int.emod_nonneg _ (by omega))⟩
  have hms : m ≤ S.size := by have := Int.emod_lt_of_pos at_ (show (0 : Int) < (S.size : Int) + 1 by omega); omega
  have ek : at_.tmod (S.size : Int) = (k : Int) := by rw [Int.tmod_eq_emod_of_nonneg a0]; exact hk.symm
  have em : at_.tmod ((S.size : Int) + 1) = (m : Int) := by rw [Int.tmod_eq_emod_of_nonneg a0]; exact hm.symm
  have ew : wrap64 at_ = at_ := by unfold wrap64; omega
  have kl : k < l.length := by rw [← HSL.out]; exact hks
  obtain ⟨z, hz⟩ : ∃ z, z = l[k] := ⟨_, rfl⟩
  have c0 := HBT.out.cell k kl
  have f0 := HBT.out.frozen k kl
  rw [← hz] at c0
  have hz0 := z.toNat_lt
  obtain ⟨v, hv⟩ : ∃ v : UInt8, ((z.toNat : Int) + by_) % 256 = (v.toNat : Int) := byte_of _ (by omega) (by omega)
  have HEM := Lib.hid em
  have HMS := Lib.hid hms
  clear hk hm hz a0 a1 b0 b1 em hms
  obtain ⟨W4, hW4⟩ : ∃ W4, W4 = W3.setCell ⟨g, k, none⟩ (.int .u8 (v.toNat : Int)) := ⟨_, rfl⟩
  have HB4 := Lib.hid (show Below w.heap.size w W4 by rw [hW4]; exact HB3.out.setCell (p := ⟨g, k, none⟩) HG.out _)
  have hbt4 : Bts W4 g (l.set k v) := by rw [hW4]; exact HBT.out.set_ k v kl
  have HBT4 := Lib.hid hbt4
  have HW4 := Lib.hid hW4
  clear hW4 hbt4
  go_wp2_with fail
  rw [← HW4.out]
  obtain ⟨S2, hS2⟩ : ∃ S2, S2 = txt (l.set k v) := ⟨_, rfl⟩
  have HCV := Lib.hid (show ∀ V : World, V.heap = W4.heap → (convert 34 9 (.slice (some ⟨g, 0, none⟩) S.size cp)).run Try.prog V = .ok (.string S2) V from fun V hV => by
    rw [hS2]
    exact bytes_text V g cp S.size (l.set k v) (HBT4.out.same (by rw [hV]) (by rw [hV]; exact Nat.le_refl _)) (by rw [List.length_set]; exact HSL.out))
  have z2 : S2.size ≤ 28 := by rw [hS2, txt_size, List.length_set, ← HSL.out]; exact n28
  have em := HEM.out
  have hmi : (m : Int) ≤ (S.size : Int) := by have := HMS.out; omega
  have ei : IntKind.i64.wrap at_ = at_ := by have := HAT.out; exact IntWalk.i64_in _ (by omega)
  have el : IntKind.i64.wrap ((S.size : Int) + 1) = (S.size : Int) + 1 := IntWalk.i64_in _ (by omega)
  have hr := HR.out
  have hn0 : ¬ ((S.size : Int) + 1 = 0) := by omega
  have hsum : S.size + raw.size ≤ 140737488351260 := by omega
  have hcat : ¬ (9223372036854775807 < S.size + raw.size) := by omega
  have hcat2 : ¬ (9223372036854775807 < 1 + raw.size) := by omega
  have hs5 : ((⟨#[32]⟩ : ByteArray) ++ raw).size ≤ 140737488351260 := by rw [ByteArray.size_append]; show 1 + raw.size ≤ _; omega
  have hs4 : (S ++ raw).size ≤ 140737488351260 := by rw [ByteArray.size_append]; exact hsum
  clear hS2 c0 f0 hv hz0 ew ek hcv
  go_region_held3 (fun V => (convert 34 9 (.slice (some ⟨g, 0, none⟩) S.size cp)).run Try.prog V = .ok (.string S2) V)
    (first | exact HCV.out _ rfl)
    (first | fail)
  obtain ⟨W5, hW5⟩ : ∃ W5, W5 = W4.drew := ⟨_, rfl⟩
  have HB5 := Lib.hid (show Below w.heap.size w W5 by rw [hW5]; exact HB4.out.drew)
  rw [← hW5]
  obtain ⟨S3, hS3⟩ : ∃ T, T = S.extract 0 m := ⟨_, rfl⟩
  obtain ⟨S4, hS4⟩ : ∃ T, T = S ++ raw := ⟨_, rfl⟩
  obtain ⟨S5, hS5⟩ : ∃ T, T = (⟨#[32]⟩ : ByteArray) ++ raw := ⟨_, rfl⟩
  rw [← hS4] at hs4
  rw [← hS5] at hs5
  have hs3 : S3.size ≤ 28 := by rw [hS3, ByteArray.size_extract]; omega
  try rw [← hS3]
  try rw [← hS4]
  try rw [← hS5]
  obtain ⟨A, hA⟩ : ∃ A : Array Value, A = #[.string S, .string S2, .string S3, .string S4, .string raw, .string S5] := ⟨_, rfl⟩
  try rw [← hA]
  have HIX := Lib.hid (show ∀ (j : Nat), j < 6 → ∀ W : World, ∃ t : ByteArray, (Instr.index 35 (.agg A) (.int .i64 (j : Int))).run Try.prog W = .ok (.string t) W ∧ t.size ≤ 140737488351260 from fun j hj W => by
    rw [hA]
    have : j = 0 ∨ j = 1 ∨ j = 2 ∨ j = 3 ∨ j = 4 ∨ j = 5 := by omega
    rcases this with rfl | rfl | rfl | rfl | rfl | rfl
    · exact ⟨S, by kernel_rfl, by omega⟩
    · exact ⟨S2, by kernel_rfl, by omega⟩
    · exact ⟨S3, by kernel_rfl, by omega⟩
    · exact ⟨S4, by kernel_rfl, by omega⟩
    · exact ⟨raw, by kernel_rfl, by omega⟩
    · exact ⟨S5, by kernel_rfl, by omega⟩)
  rw [show decide (0 < S.size) = true from decide_eq_true (by omega)]
  clear hA hS3 hS4 hs3 hs4 hS5 hs5 hcat2 hcat hsum hn0 em hmi ei el hr hks kl i0 n2 n28 z2 hW5 HB4
  go_wp2_with fail
  go_loopw [58] (fun i wr => ∃ j : Nat, j ≤ 6 ∧ i = .int .i64 (j : Int) ∧ Below w.heap.size w wr) (fun i _ => (6 - intOf i).toNat)
  case atStart => exact ⟨0, by omega, rfl, HB5.out⟩
  case round =>
    obtain ⟨j, hj, rfl, hB⟩ := hrel
    have HB6 := Lib.hid hB
    clear hB HB5
    by_cases hlt : j < 6
    · obtain ⟨t, hi, hts⟩ := HIX.out j hlt wr
      have i5 : (j : Int) < 6 := by omega
      have HLT := Lib.hid hlt
      have HTS := Lib.hid hts
      clear hlt hj hts
      go_wp2_with fail
      refine (Decode_any t wr (by have := HTS.out; omega)).mono ?_
      rintro e W6 ⟨rfl, b⟩
      have HB7 := Lib.hid (HB6.out.trans (b.mono HB6.out.size))
      clear b HB6
      obtain ⟨q, hq⟩ : ∃ q, q = (dec t).1 := ⟨_, rfl⟩
      obtain ⟨c, hc⟩ : ∃ c, c = (dec t).2 := ⟨_, rfl⟩
      have HV := Lib.hid (show decV t = .tuple #[.agg (dsv q), .int .i64 c] by rw [decV, hq, hc])
      clear hq hc
      rw [HV.out]
      go_wp2_with fail
      obtain ⟨W7, hW7⟩ : ∃ W7, W7 = W6.alloc (.cells (dsv q) 26) := ⟨_, rfl⟩
      obtain ⟨h, hh⟩ : ∃ h, h = W6.heap.size := ⟨_, rfl⟩
      have HH7 := Lib.hid (show Blk W7 h 26 (dsv q) by rw [hW7, hh]; exact Blk.new _ _ _)
      have HB8 := Lib.hid (show Below w.heap.size w W7 by rw [hW7]; exact HB7.out.alloc HB7.out.size _)
      change Calls _ _ _ (W6.alloc (.cells (dsv q) 26)) _
      rw [← hW7, ← hh]
      clear hW7 hh HB7
      refine (DecodeR_any t W7 (by have := HTS.out; omega)).mono ?_
      rintro e W8 ⟨rfl, b⟩
      rw [HV.out]
      have HH9 := Lib.hid (show Blk (W8.alloc (.cells (dsv q) 26)) h 26 (dsv q) from (HH7.out.below b HH7.out.lt).alloc _)
      have HN9 := Lib.hid (Blk.new W8 26 (dsv q))
      have hb9 := HB8.out.trans (b.mono HB8.out.size)
      have HB9 := Lib.hid (show Below w.heap.size w (W8.alloc (.cells (dsv q) 26)) from hb9.alloc hb9.size _)
      clear b hb9 HB8 HH7
      go_wp2_with (first
        | (refine wpList_load_row rfl 26 _ rfl h rfl 26 (dsv q) (0, 0) _ ?_ Try.underlying26 rfl ds_size ?_; exact HH9.out)
        | (refine wpList_load_row rfl 26 _ rfl W8.heap.size rfl 26 (dsv q) (0, 0) _ ?_ Try.underlying26 rfl ds_size ?_; exact HN9.out))
      go_roundw
      case rel => exact ⟨j + 1, by have := HLT.out; omega, by go_num, HB9.out⟩
      case measure => simp [intOf]; omega
    · obtain rfl : j = 6 := by omega
      clear hlt hj
      go_wp2_with fail
      refine (works_t wr).mono ?_
      rintro e W6 ⟨rfl, b⟩
      have HB7 := Lib.hid (HB6.out.trans (b.mono HB6.out.size))
      go_wp2_with fail
      go_ret; exact ⟨rfl, HB7.out⟩

theorem own : ownKnob Try.prog.godebug = none := by kernel_rfl
theorem laidOut : laidOutB Try.prog = true := by kernel_rfl

set_option maxRecDepth 100000 in
theorem lifted (os : Os) (started : os.Started) (H : Type) (enc : TypeId × Value → H) :
    ReturnsInHanded {} Try.checked os 4 .any (Rows.dssTellsSpec.pre6 enc Try.prog Try.f4 Rows.dssTellsRow.domain false) (Rows.dssTellsSpec.post enc Try.prog Try.f4 false true false false) := by
  refine returnsInHanded_of_change_sized (C := Try.checked) own started (by kernel_rfl) Try.func4
    (ChangeSpec.witness6 (enc := enc) (C := Try.checked) false ⟨#[], #[.agg #[.bool false, .bool false, .bool false, .int .u64 0, .bool false, .bool false, .int .u64 0, .int .u32 0, .int .i64 0, .bool false, .int .u16 0], .int .u8 0, .int .u8 0, .string ByteArray.empty], []⟩ 8 (by kernel_rfl) (by kernel_rfl) (by kernel_rfl) (by kernel_rfl)) ?_
  intro W base args ds gs before hval0 hW hcnd hsz0 _
  have hsz : (DataW.weightsEach Try.prog (Try.f4.params.toList ++ Rows.dssTellsSpec.plain.varTypes Try.prog) (ds ++ gs)).all (· ≤ reachBytes) = true := hsz0
  have hval : ∀ (j : Nat) t v, Try.f4.params[j]? = some t → args[j]? = some v → Value.okWide Try.prog W .any base t v := hval0
  have hW' := hW
  obtain ⟨p, q, hA0, hV, rfl, hfz, hnd⟩ := hW
  have hA : DataW.TrodAll enc Try.prog W 0 (fun _ => true) true Try.f4.params.toList args.toList ds p := hA0
  rw [Try.params4] at hA hval hsz
  obtain ⟨v0, vs0, d0, ds0, p0, q0, hargs, rfl, rfl, h0, r0⟩ := trodAll_cons hA
  obtain ⟨v1, vs1, d1, ds1, p1, q1, rfl, rfl, rfl, h1, r1⟩ := trodAll_cons r0
  obtain ⟨v2, vs2, d2, ds2, p2, q2, rfl, rfl, rfl, h2, r2⟩ := trodAll_cons r1
  obtain ⟨v3, vs3, d3, ds3, p3, q3, rfl, rfl, rfl, h3, r3⟩ := trodAll_cons r2
  obtain ⟨rfl, rfl, rfl⟩ := trodAll_nil r3
  obtain rfl : args = #[v0, v1, v2, v3] := by cases args; simp_all
  obtain ⟨rfl, rfl⟩ := trodVars_none hV
  have k0 := h0
  have lt0 : ∀ x ∈ p0, x.block < W.heap.size := by obtain ⟨m, hm⟩ := k0; exact DataW.trod_lt m _ _ _ hm
  obtain ⟨a0, rfl, o0⟩ := open_dss (hval 0 26 v0 rfl rfl) h0
  obtain ⟨a1, rfl, rfl, rfl, w1⟩ := open_int Try.underlying5 (hval 1 5 v1 rfl rfl) h1
  obtain ⟨a2, rfl, rfl, rfl, w2⟩ := open_int Try.underlying5 (hval 2 5 v2 rfl rfl) h2
  obtain ⟨a3, rfl, rfl, rfl, w3⟩ := open_string Try.underlying9 (hval 3 9 v3 rfl rfl) h3
  have z3 : a3.size ≤ 140737488351232 := by have := sized_string hsz (j := 3) (t := 9) rfl rfl; simpa [reachBytes] using this
  clear hA0 hval0
  simp only [List.append_nil] at hW'
  refine (walk a0 o0 a1 a2 (bounds_u8 w1) (bounds_u8 w2) a3 z3 W).mono fun e W' ⟨he, bel⟩ => ?_
  subst he
  exact ⟨_, rfl, _, _, _, [], _, [], hW', trodAll_mk1 (shut_bool Try.underlying4 _), (trodAll_cons_mk (Below.trod laidOut (by kernel_rfl) (of_decide_eq_true (by kernel_rfl)) k0 bel lt0) (trodAll_cons_mk (shut_int Try.underlying5 w1) (trodAll_cons_mk (shut_int Try.underlying5 w2) (trodAll_cons_mk (shut_string Try.underlying9 w3) trodAll_mk0)))), rfl, bel.frame _, fun h => by cases h⟩

theorem over : Rows.dssTellsRow.holds Try.pinned (OpenSpec.ofChange Rows.dssTellsSpec) :=
  OpenClaim.holds_of_wide 4 Try.f4 rfl rfl rfl rfl rfl rfl rfl ⟨rfl, rfl, rfl, rfl, rfl⟩ rfl rfl rfl rfl rfl (by kernel_rfl) Try.func4 (by kernel_rfl)
    (of_decide_eq_true (by kernel_rfl)) (by unfold Func.isWrapper; first | (rw [if_pos (by decide +kernel)]; kernel_rfl) | (rw [if_neg (by decide +kernel)]; exact ⟨rfl, rfl⟩))
    (fun os started H enc _ => lifted os started H enc)

theorem proved : Rows.DssTellsSaid := over
#print axioms proved
end Go.Proofs.Ytdhkjhkgjfcolaa.dssTells
