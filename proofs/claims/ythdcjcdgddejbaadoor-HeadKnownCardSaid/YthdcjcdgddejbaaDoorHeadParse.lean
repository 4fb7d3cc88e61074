/-
  What package head's Parse answers, of any bytes.
-/
import Derived.Test.YthdcjcdgddejbaaDoorHeadRead
import Derived.Deep.WholeRow
import Derived.BigRegion
namespace Go.Proofs.YthdcjcdgddejbaaDoor
open Go.ChangeShapes Go.WideShapes Go.ChangeAt Go.RowKit
set_option linter.unusedVariables false

/-- What measure says of the front of bytes, and what is wrong with them. -/
theorem meas_bad (q : List UInt8) (h : 20 ≤ q.length) (hc : (meas (q.take 20) q.length).2 ≠ 0) : code q = (meas (q.take 20) q.length).2 := by
  have t : fld q 18 2 = fld q 18 1 * 256 + fld q 19 1 := fld_two q 18 (by omega)
  unfold meas at hc ⊢
  unfold code
  rw [fld_take q 20 12 1 (by omega), fld_take q 20 13 1 (by omega), fld_take q 20 18 2 (by omega)] at hc ⊢
  rw [if_neg (by omega)]
  by_cases a1 : fld q 12 1 < 80 ∨ fld q 12 1 % 16 ≠ 0
  · rw [if_pos a1, if_pos a1]
  rw [if_neg a1] at hc
  rw [if_neg a1, if_neg a1]
  by_cases a2 : q.length < fld q 12 1 / 16 * 4
  · rw [if_pos a2, if_pos (by omega)]
  rw [if_neg a2] at hc
  rw [if_neg a2, if_neg (by omega)]
  by_cases a3 : fld q 13 1 / 32 ≠ 0 ∨ fld q 13 1 / 8 % 2 ≠ 0 ∨ fld q 18 2 ≠ 0
  · rw [if_pos a3, if_pos (by omega)]
  rw [if_neg a3] at hc
  rw [if_neg a3, if_neg (by omega)]
  by_cases a4 : q.length - fld q 12 1 / 16 * 4 > 1024
  · rw [if_pos a4, if_pos (by omega)]
  rw [if_neg a4] at hc
  exact absurd rfl hc
theorem meas_good (q : List UInt8) (h : 20 ≤ q.length) (hc : (meas (q.take 20) q.length).2 = 0) :
    (meas (q.take 20) q.length).1 = ((fld q 12 1 / 4 : Nat) : Int) ∧ 20 ≤ fld q 12 1 / 4 ∧ fld q 12 1 / 4 ≤ 63 ∧ fld q 12 1 / 4 ≤ q.length ∧ q.length ≤ 1087 ∧ code q = (if fold (tot q) ≠ 65535 then 10 else 0) := by
  have t : fld q 18 2 = fld q 18 1 * 256 + fld q 19 1 := fld_two q 18 (by omega)
  have u := fld1_lt q 12
  unfold meas at hc ⊢
  unfold code
  rw [fld_take q 20 12 1 (by omega), fld_take q 20 13 1 (by omega), fld_take q 20 18 2 (by omega)] at hc ⊢
  by_cases a1 : fld q 12 1 < 80 ∨ fld q 12 1 % 16 ≠ 0
  · rw [if_pos a1] at hc; exact absurd hc (by decide)
  rw [if_neg a1] at hc ⊢
  by_cases a2 : q.length < fld q 12 1 / 16 * 4
  · rw [if_pos a2] at hc; exact absurd hc (by decide)
  rw [if_neg a2] at hc ⊢
  by_cases a3 : fld q 13 1 / 32 ≠ 0 ∨ fld q 13 1 / 8 % 2 ≠ 0 ∨ fld q 18 2 ≠ 0
  · rw [if_pos a3] at hc; exact absurd hc (by decide)
  rw [if_neg a3] at hc ⊢
  by_cases a4 : q.length - fld q 12 1 / 16 * 4 > 1024
  · rw [if_pos a4] at hc; exact absurd hc (by decide)
  rw [if_neg a4]
  refine ⟨by show ((fld q 12 1 / 16 * 4 : Nat) : Int) = _; omega, by omega, by omega, by omega, by omega, ?_⟩
  rw [if_neg (by omega), if_neg a1, if_neg (by omega), if_neg (by omega), if_neg (by omega)]

/-- The front of a text is copied. -/
theorem copy_front (w : World) (g : Nat) (l : List UInt8) (hl : l.length = 20) (h : Fx w g l) (s : ByteArray) (hs : 20 ≤ s.size) (ty : TypeId) :
    (Builtin.copy_ #[45, 9] ty #[.slice (some ⟨g, 0, none⟩) 20 20, .string s]).run Tryd.prog w = .ok (goInt 20) (w.setRow g (byv (s.data.toList.take 20))) := by
  have hq : (s.data.toList.take 20).length = 20 := by rw [List.length_take, len_data]; omega
  have hst := h.storeC hl (s.data.toList.take 20) hq
  have hmin : Nat.min s.size 20 = 20 := Nat.min_eq_right hs
  have hu : Tryd.prog.underlying 45 = some (.slice 5) := Tryd.underlying45
  have he : List.take 20 (List.map (fun b : UInt8 => Value.int IntKind.u8 (b.toNat : Int)) s.data.toList) = (byv (s.data.toList.take 20)).toList := by
    simp [byv, List.map_take]
  have hz : (Tryd.prog.info? 5).map (·.size) = some 1 := by kernel_rfl
  cases hq2 : Tryd.prog.info? 5 with
  | none => simp [hq2] at hz
  | some i =>
    simp [Builtin.copy_, run_underlying hu, Builtin.lenOf, Builtin.firstCells, sizeOf, typeInfo, hq2, hmin]
    rw [he, hst]
    simp [Result.andThen]

theorem results_row_tmp {P : Program} {fn : Func} {p t : Tmp} {ty : TypeId} (h : fn.results = #[.cell p ty, .tmp t]) (tmps : Array Value) (w : World) (g : Nat) (t' : TypeId) (cs : Array Value) (fr : Nat × Nat) (d : TypeDesc)
    (hp : tmps.getD p undef = .pointer (some ⟨g, 0, none⟩)) (hg : w.heap[g]? = some (.cells cs t' fr))
    (hu : P.underlying ty = some d) (hd : (match d with | .struct _ | .array _ _ => true | _ => false) = true) (hi : (P.info? ty).map (·.size) = some cs.size) :
    (results fn tmps).run P w = .ok (.tuple #[.agg cs, tmps.getD t undef]) w := by
  have hp' : tmps[p]?.getD undef = .pointer (some ⟨g, 0, none⟩) := by simpa using hp
  simp [results, h, hp', asAddr, run_loadVar_row w g t' ty cs fr d hg hu hd hi]
theorem segz : (#[.int .i64 0, .int .u16 0, .int .u16 0, .int .u32 0, .int .u32 0, .bool false, .bool false, .bool false, .bool false, .int .u16 0, .string ⟨#[]⟩, .string ⟨#[]⟩] : Array Value) = segv Sg.zero := rfl
/-- What 'Parse' answers. -/
def parseV (q : List UInt8) : Value := .tuple #[.agg (segv (parsed q)), .int .i64 (code q)]
theorem parseV_f (q : List UInt8) (c : Int) (hc : code q = c) (h0 : c ≠ 0) : parseV q = .tuple #[.agg (segv Sg.zero), .int .i64 c] := by
  subst hc
  rw [parseV, parsed_f h0]
theorem parseV_t (q : List UInt8) (hc : code q = 0) : parseV q = .tuple #[.agg (segv (segs q)), .int .i64 0] := by rw [parseV, parsed_t hc, hc]

set_option maxHeartbeats 2000000 in
set_option maxRecDepth 100000 in
theorem Parse_short (s : ByteArray) (w : World) (hs : s.size < 20) :
    Calls Tryd.prog 14 #[.string s] w fun e w' => e = .returned (parseV s.data.toList) ∧ Below w.heap.size w w' := by
  have hc : code s.data.toList = 4 := by unfold code; rw [if_pos (by rw [len_data]; exact hs)]
  rw [parseV_f _ 4 hc (by decide)]
  have d1 : decide ((s.size : Int) < 20) = true := by simp; omega
  clear hc
  go_enter Tryd.func14, Tryd.ntmps14
  go_wp2_with (refine wpList_store_row rfl 25 _ _ rfl w.heap.size (segv Sg.zero) rfl rfl 25 _ (heap_alloc_new w _) seg_size rfl (segv_one _) ?_)
  rw [World.setRow_alloc_new]
  refine bodyPost_ret (results_row_tmp rfl _ _ w.heap.size 25 (segv Sg.zero) (0, 0) _ rfl (heap_alloc_new w _) Tryd.underlying25 rfl seg_size) rfl ⟨rfl, (Below.refl _ w).alloc (Nat.le_refl _) _⟩

theorem segs_hd (s : ByteArray) (n : Nat) (hn : n = fld s.data.toList 12 1 / 4) : segs s.data.toList = { hd (s.data.toList.take 20) with area := s.extract 20 n, data := s.extract n s.size } := by
  subst hn
  have ea : txt ((s.data.toList.drop 20).take (fld s.data.toList 12 1 / 4 - 20)) = s.extract 20 (fld s.data.toList 12 1 / 4) := by
    apply txt_ext
    rw [ByteArray.data_extract, Array.toList_extract, List.extract_eq_take_drop]
  have ed : txt (s.data.toList.drop (fld s.data.toList 12 1 / 4)) = s.extract (fld s.data.toList 12 1 / 4) s.size := by
    apply txt_ext
    rw [ByteArray.data_extract, Array.toList_extract, List.extract_eq_take_drop, List.take_of_length_le (by rw [List.length_drop, len_data]; exact Nat.le_refl _)]
  unfold segs hd
  rw [ea, ed]
  simp only [fld_take s.data.toList 20 0 2 (by omega), fld_take s.data.toList 20 2 2 (by omega), fld_take s.data.toList 20 4 4 (by omega), fld_take s.data.toList 20 8 4 (by omega), fld_take s.data.toList 20 13 1 (by omega), fld_take s.data.toList 20 14 2 (by omega)]

set_option maxHeartbeats 4000000 in
set_option maxRecDepth 100000 in
theorem Parse_bad (s : ByteArray) (w : World) (hs : 20 ≤ s.size) (hb : s.size ≤ 4611686018427387904) (hc : (meas (s.data.toList.take 20) s.data.toList.length).2 ≠ 0) (ht : Tbl w) :
    Calls Tryd.prog 14 #[.string s] w fun e w' => e = .returned (parseV s.data.toList) ∧ Below w.heap.size w w' := by
  have hcode := meas_bad s.data.toList (by rw [len_data]; exact hs) hc
  rw [parseV_f _ _ hcode hc]
  have HSZB := Lib.hid hb
  clear hcode hb
  obtain ⟨q, hq⟩ : ∃ q, q = s.data.toList := ⟨_, rfl⟩
  have hql : q.length = s.size := by rw [hq]; exact len_data s
  obtain ⟨l, hl⟩ : ∃ l, l = q.take 20 := ⟨_, rfl⟩
  have hl0 : l.length = 20 := by rw [hl, List.length_take]; omega
  have d1 : decide ((s.size : Int) < 20) = false := by simp; omega
  rw [← hq] at hc ⊢
  rw [← hl, hql] at hc ⊢
  have HCO := Lib.hid hc
  have HL := Lib.hid hl0
  have HQL := Lib.hid hql
  have HQ := Lib.hid hq
  have HLE := Lib.hid hl
  have HT := Lib.hid ht
  have HSZ := Lib.hid hs
  have hcp := fun W (h : Fx W (w.heap.size + 1) (List.replicate 20 0)) ty => copy_front W (w.heap.size + 1) (List.replicate 20 0) rfl h s hs ty
  rw [← hq, ← hl] at hcp
  have HCP := Lib.hid hcp
  clear hl hl0 hql hq ht hs hcp hc
  go_enter Tryd.func14, Tryd.ntmps14
  go_wp2_with fail
  rw [segz, zeros20]
  refine (part_any (w.heap.size + 1) 0 20 _ (by decide) (by decide)).mono ?_
  rintro e w' ⟨rfl, rfl⟩
  obtain ⟨W1, hW1⟩ : ∃ W1, W1 = (w.alloc (.cells (segv Sg.zero) 25)).alloc (.cells (byv (List.replicate 20 0)) 51) := ⟨_, rfl⟩
  have T1 : Tbl W1 := by rw [hW1]; exact (HT.out.alloc _).alloc _
  have S1 : Blk W1 w.heap.size 25 (segv Sg.zero) := by rw [hW1]; exact (Blk.new w _ _).alloc _
  have F1 : Fx W1 (w.heap.size + 1) (List.replicate 20 0) := by
    rw [hW1]; have := Fx.new (w.alloc (.cells (segv Sg.zero) 25)) (List.replicate 20 0); rwa [World.size_alloc] at this
  have B1 : Below w.heap.size w W1 := by rw [hW1]; exact ((Below.refl _ w).alloc (Nat.le_refl _) _).alloc (by simp) _
  rw [← hW1]
  clear hW1
  have hcp := HCP.out W1 F1 3
  have F2 := F1.row l
  have G2 := only_setRow (World.grownBy.refl W1 (some (w.heap.size + 1))) (byv l)
  have S2 : Blk (W1.setRow (w.heap.size + 1) (byv l)) w.heap.size 25 (segv Sg.zero) := S1.grown G2 (by simp)
  have B2' : Below w.heap.size W1 (W1.setRow (w.heap.size + 1) (byv l)) := below_setRow (Below.refl _ W1) (by omega) _
  have T2 := T1.under B2' HT.out.lt
  have B2 := B1.trans B2'
  obtain ⟨W2, hW2⟩ : ∃ W2, W2 = W1.setRow (w.heap.size + 1) (byv l) := ⟨_, rfl⟩
  rw [← hW2] at F2 S2 T2 B2 hcp
  have HF2 := Lib.hid F2
  have HS2 := Lib.hid S2
  have HT2 := Lib.hid T2
  have HB2 := Lib.hid B2
  have HSI : (Tryd.prog.info? 51).map (·.size) = some (byv l).size := by rw [byv_size, HL.out]; exact fix_size
  have HFS := Lib.hid HSI
  clear F1 S1 T1 B1 F2 S2 T2 B2 B2' G2 hW2 HCP HSI
  go_wp2_with (first
    | refine wpList_load_row rfl 51 _ rfl (w.heap.size + 1) rfl 51 (byv l) (0, 0) _ HF2.out fixed_under rfl HFS.out ?_)
  refine (measure_any l s.size _ HL.out (by have := HSZB.out; omega) HT2.out).mono ?_
  rintro e W3 ⟨rfl, b3⟩
  have HS3 := Lib.hid (HS2.out.below b3 HS2.out.lt)
  have HF3 := Lib.hid (HF2.out.below b3 HF2.out.lt)
  have HT3 := Lib.hid (HT2.out.below b3)
  have HB3 := Lib.hid (below_then HB2.out b3)
  clear b3 d1 hcp HF2 HS2 HT2 HB2
  obtain ⟨c, hcc⟩ : ∃ c, c = (meas l s.size).2 := ⟨_, rfl⟩
  obtain ⟨c0, hcc0⟩ : ∃ c, c = (meas l s.size).1 := ⟨_, rfl⟩
  rw [← hcc, ← hcc0]
  have hcd : (c != 0) = true := by rw [hcc]; simpa using HCO.out
  have HCC := Lib.hid hcc
  have HSK := HS3
  have HBK := HB3
  clear hcc hcc0 HCO
  go_wp2_with (refine wpList_store_row rfl 25 _ _ rfl w.heap.size (segv Sg.zero) rfl rfl 25 _ HSK.out seg_size rfl (segv_one _) ?_)
  have HSE := Lib.hid (setRow_heap _ w.heap.size _ (segv Sg.zero) _ _ HSK.out)
  have HBE := Lib.hid (below_setRow HBK.out (Nat.le_refl _) (segv Sg.zero))
  refine bodyPost_ret (results_row_tmp rfl _ _ w.heap.size 25 (segv Sg.zero) (0, 0) _ rfl HSE.out Tryd.underlying25 rfl seg_size) rfl ⟨by rw [← HCC.out]; rfl, HBE.out⟩

set_option maxHeartbeats 4000000 in
set_option maxRecDepth 100000 in
theorem Parse_sum (s : ByteArray) (w : World) (hs : 20 ≤ s.size) (hb : s.size ≤ 4611686018427387904) (hc : (meas (s.data.toList.take 20) s.data.toList.length).2 = 0) (hr : fold (tot s.data.toList) ≠ 65535) (ht : Tbl w) :
    Calls Tryd.prog 14 #[.string s] w fun e w' => e = .returned (parseV s.data.toList) ∧ Below w.heap.size w w' := by
  obtain ⟨m1, m2, m3, m4, m5, hcode⟩ := meas_good s.data.toList (by rw [len_data]; exact hs) hc
  rw [if_pos hr] at hcode
  rw [parseV_f _ _ hcode (by decide)]
  have HSZB := Lib.hid hb
  have HM5 := Lib.hid m5
  have HRR := Lib.hid hr
  clear hcode hb m1 m2 m3 m4 m5 hr
  obtain ⟨q, hq⟩ : ∃ q, q = s.data.toList := ⟨_, rfl⟩
  have hql : q.length = s.size := by rw [hq]; exact len_data s
  obtain ⟨l, hl⟩ : ∃ l, l = q.take 20 := ⟨_, rfl⟩
  have hl0 : l.length = 20 := by rw [hl, List.length_take]; omega
  have d1 : decide ((s.size : Int) < 20) = false := by simp; omega
  rw [← hq] at hc
  rw [← hl, hql] at hc
  have HCO := Lib.hid hc
  have HL := Lib.hid hl0
  have HQL := Lib.hid hql
  have HQ := Lib.hid hq
  have HLE := Lib.hid hl
  have HT := Lib.hid ht
  have HSZ := Lib.hid hs
  have hcp := fun W (h : Fx W (w.heap.size + 1) (List.replicate 20 0)) ty => copy_front W (w.heap.size + 1) (List.replicate 20 0) rfl h s hs ty
  rw [← hq, ← hl] at hcp
  have HCP := Lib.hid hcp
  clear hl hl0 hql hq ht hs hcp hc
  go_enter Tryd.func14, Tryd.ntmps14
  go_wp2_with fail
  rw [segz, zeros20]
  refine (part_any (w.heap.size + 1) 0 20 _ (by decide) (by decide)).mono ?_
  rintro e w' ⟨rfl, rfl⟩
  obtain ⟨W1, hW1⟩ : ∃ W1, W1 = (w.alloc (.cells (segv Sg.zero) 25)).alloc (.cells (byv (List.replicate 20 0)) 51) := ⟨_, rfl⟩
  have T1 : Tbl W1 := by rw [hW1]; exact (HT.out.alloc _).alloc _
  have S1 : Blk W1 w.heap.size 25 (segv Sg.zero) := by rw [hW1]; exact (Blk.new w _ _).alloc _
  have F1 : Fx W1 (w.heap.size + 1) (List.replicate 20 0) := by
    rw [hW1]; have := Fx.new (w.alloc (.cells (segv Sg.zero) 25)) (List.replicate 20 0); rwa [World.size_alloc] at this
  have B1 : Below w.heap.size w W1 := by rw [hW1]; exact ((Below.refl _ w).alloc (Nat.le_refl _) _).alloc (by simp) _
  rw [← hW1]
  clear hW1
  have hcp := HCP.out W1 F1 3
  have F2 := F1.row l
  have G2 := only_setRow (World.grownBy.refl W1 (some (w.heap.size + 1))) (byv l)
  have S2 : Blk (W1.setRow (w.heap.size + 1) (byv l)) w.heap.size 25 (segv Sg.zero) := S1.grown G2 (by simp)
  have B2' : Below w.heap.size W1 (W1.setRow (w.heap.size + 1) (byv l)) := below_setRow (Below.refl _ W1) (by omega) _
  have T2 := T1.under B2' HT.out.lt
  have B2 := B1.trans B2'
  obtain ⟨W2, hW2⟩ : ∃ W2, W2 = W1.setRow (w.heap.size + 1) (byv l) := ⟨_, rfl⟩
  rw [← hW2] at F2 S2 T2 B2 hcp
  have HF2 := Lib.hid F2
  have HS2 := Lib.hid S2
  have HT2 := Lib.hid T2
  have HB2 := Lib.hid B2
  have HSI : (Tryd.prog.info? 51).map (·.size) = some (byv l).size := by rw [byv_size, HL.out]; exact fix_size
  have HFS := Lib.hid HSI
  clear F1 S1 T1 B1 F2 S2 T2 B2 B2' G2 hW2 HCP HSI
  go_wp2_with (first
    | refine wpList_load_row rfl 51 _ rfl (w.heap.size + 1) rfl 51 (byv l) (0, 0) _ HF2.out fixed_under rfl HFS.out ?_)
  refine (measure_any l s.size _ HL.out (by have := HSZB.out; omega) HT2.out).mono ?_
  rintro e W3 ⟨rfl, b3⟩
  have HS3 := Lib.hid (HS2.out.below b3 HS2.out.lt)
  have HF3 := Lib.hid (HF2.out.below b3 HF2.out.lt)
  have HT3 := Lib.hid (HT2.out.below b3)
  have HB3 := Lib.hid (below_then HB2.out b3)
  clear b3 d1 hcp HF2 HS2 HT2 HB2
  obtain ⟨c0, hcc0⟩ : ∃ c, c = (meas l s.size).1 := ⟨_, rfl⟩
  rw [HCO.out, ← hcc0]
  clear hcc0 HCO
  obtain ⟨r, hrr⟩ : ∃ r, fold (tot (flat [s])) = r := ⟨_, rfl⟩
  have hne : (r == 65535) = false := by
    have h := HRR.out
    rw [← hrr, flat_one]
    simpa using h
  have HRE := Lib.hid hrr
  have HFL := Lib.hid (show (flat [s]).length ≤ 1099511627776 by rw [flat_one]; have := HM5.out; omega)
  clear hrr
  go_wp2_with fail
  refine (Whole_any _ [s] r _ (Row.built W3 [s] rfl) HFL.out (by simp) HRE.out).mono ?_
  rintro e W4 ⟨rfl, b4⟩
  have HSK := Lib.hid ((HS3.out.alloc _).below b4 (HS3.out.alloc _).lt)
  have HBK := Lib.hid (below_then (HB3.out.alloc HB3.out.size _) b4)
  clear b4
  go_wp2_with (refine wpList_store_row rfl 25 _ _ rfl w.heap.size (segv Sg.zero) rfl rfl 25 _ HSK.out seg_size rfl (segv_one _) ?_)
  have HSE := Lib.hid (setRow_heap _ w.heap.size _ (segv Sg.zero) _ _ HSK.out)
  have HBE := Lib.hid (below_setRow HBK.out (Nat.le_refl _) (segv Sg.zero))
  refine bodyPost_ret (results_row_tmp rfl _ _ w.heap.size 25 (segv Sg.zero) (0, 0) _ rfl HSE.out Tryd.underlying25 rfl seg_size) rfl ⟨rfl, HBE.out⟩

set_option maxHeartbeats 4000000 in
set_option maxRecDepth 100000 in
theorem Parse_ok (s : ByteArray) (w : World) (hs : 20 ≤ s.size) (hb : s.size ≤ 4611686018427387904) (hc : (meas (s.data.toList.take 20) s.data.toList.length).2 = 0) (hr : fold (tot s.data.toList) = 65535) (ht : Tbl w) :
    Calls Tryd.prog 14 #[.string s] w fun e w' => e = .returned (parseV s.data.toList) ∧ Below w.heap.size w w' := by
  obtain ⟨m1, m2, m3, m4, m5, hcode⟩ := meas_good s.data.toList (by rw [len_data]; exact hs) hc
  rw [if_neg (by rw [hr]; simp)] at hcode
  rw [parseV_t _ hcode]
  obtain ⟨n, hn⟩ : ∃ n, n = fld s.data.toList 12 1 / 4 := ⟨_, rfl⟩
  rw [← hn] at m1 m2 m3 m4
  rw [len_data] at m4 m5
  have HSG := Lib.hid (segs_hd s n hn)
  have HSZB := Lib.hid hb
  have HM1 := Lib.hid m1
  have HM2 := Lib.hid m2
  have HM4 := Lib.hid m4
  have HM5 := Lib.hid m5
  have HRR := Lib.hid hr
  clear hcode hb m1 m2 m3 m4 m5 hr hn
  obtain ⟨q, hq⟩ : ∃ q, q = s.data.toList := ⟨_, rfl⟩
  have hql : q.length = s.size := by rw [hq]; exact len_data s
  obtain ⟨l, hl⟩ : ∃ l, l = q.take 20 := ⟨_, rfl⟩
  have hl0 : l.length = 20 := by rw [hl, List.length_take]; omega
  have d1 : decide ((s.size : Int) < 20) = false := by simp; omega
  rw [← hq] at hc
  rw [← hl, hql] at hc
  have HCO := Lib.hid hc
  have HL := Lib.hid hl0
  have HQL := Lib.hid hql
  have HQ := Lib.hid hq
  have HLE := Lib.hid hl
  have HT := Lib.hid ht
  have HSZ := Lib.hid hs
  have hcp := fun W (h : Fx W (w.heap.size + 1) (List.replicate 20 0)) ty => copy_front W (w.heap.size + 1) (List.replicate 20 0) rfl h s hs ty
  rw [← hq, ← hl] at hcp
  have HCP := Lib.hid hcp
  clear hl hl0 hql hq ht hs hcp hc
  go_enter Tryd.func14, Tryd.ntmps14
  go_wp2_with fail
  rw [segz, zeros20]
  refine (part_any (w.heap.size + 1) 0 20 _ (by decide) (by decide)).mono ?_
  rintro e w' ⟨rfl, rfl⟩
  obtain ⟨W1, hW1⟩ : ∃ W1, W1 = (w.alloc (.cells (segv Sg.zero) 25)).alloc (.cells (byv (List.replicate 20 0)) 51) := ⟨_, rfl⟩
  have T1 : Tbl W1 := by rw [hW1]; exact (HT.out.alloc _).alloc _
  have S1 : Blk W1 w.heap.size 25 (segv Sg.zero) := by rw [hW1]; exact (Blk.new w _ _).alloc _
  have F1 : Fx W1 (w.heap.size + 1) (List.replicate 20 0) := by
    rw [hW1]; have := Fx.new (w.alloc (.cells (segv Sg.zero) 25)) (List.replicate 20 0); rwa [World.size_alloc] at this
  have B1 : Below w.heap.size w W1 := by rw [hW1]; exact ((Below.refl _ w).alloc (Nat.le_refl _) _).alloc (by simp) _
  rw [← hW1]
  clear hW1
  have hcp := HCP.out W1 F1 3
  have F2 := F1.row l
  have G2 := only_setRow (World.grownBy.refl W1 (some (w.heap.size + 1))) (byv l)
  have S2 : Blk (W1.setRow (w.heap.size + 1) (byv l)) w.heap.size 25 (segv Sg.zero) := S1.grown G2 (by simp)
  have B2' : Below w.heap.size W1 (W1.setRow (w.heap.size + 1) (byv l)) := below_setRow (Below.refl _ W1) (by omega) _
  have T2 := T1.under B2' HT.out.lt
  have B2 := B1.trans B2'
  obtain ⟨W2, hW2⟩ : ∃ W2, W2 = W1.setRow (w.heap.size + 1) (byv l) := ⟨_, rfl⟩
  rw [← hW2] at F2 S2 T2 B2 hcp
  have HF2 := Lib.hid F2
  have HS2 := Lib.hid S2
  have HT2 := Lib.hid T2
  have HB2 := Lib.hid B2
  have HSI : (Tryd.prog.info? 51).map (·.size) = some (byv l).size := by rw [byv_size, HL.out]; exact fix_size
  have HFS := Lib.hid HSI
  clear F1 S1 T1 B1 F2 S2 T2 B2 B2' G2 hW2 HCP HSI
  go_wp2_with (first
    | refine wpList_load_row rfl 51 _ rfl (w.heap.size + 1) rfl 51 (byv l) (0, 0) _ HF2.out fixed_under rfl HFS.out ?_)
  refine (measure_any l s.size _ HL.out (by have := HSZB.out; omega) HT2.out).mono ?_
  rintro e W3 ⟨rfl, b3⟩
  have HS3 := Lib.hid (HS2.out.below b3 HS2.out.lt)
  have HF3 := Lib.hid (HF2.out.below b3 HF2.out.lt)
  have HT3 := Lib.hid (HT2.out.below b3)
  have HB3 := Lib.hid (below_then HB2.out b3)
  clear b3 d1 hcp HF2 HS2 HT2 HB2
  rw [HCO.out, show (meas l s.size).1 = (n : Int) by have := HM1.out; rwa [← HQ.out, ← HLE.out, HQL.out] at this]
  clear HCO
  obtain ⟨r, hrr⟩ : ∃ r, fold (tot (flat [s])) = r := ⟨_, rfl⟩
  have hne : (r == 65535) = true := by
    have h := HRR.out
    rw [← hrr, flat_one, h]; rfl
  have HRE := Lib.hid hrr
  have HFL := Lib.hid (show (flat [s]).length ≤ 1099511627776 by rw [flat_one, len_data]; have := HM5.out; omega)
  clear hrr
  go_wp2_with fail
  refine (Whole_any _ [s] r _ (Row.built W3 [s] rfl) HFL.out (by simp) HRE.out).mono ?_
  rintro e W4 ⟨rfl, b4⟩
  have HS4 := Lib.hid ((HS3.out.alloc _).below b4 (HS3.out.alloc _).lt)
  have HF4 := Lib.hid ((HF3.out.alloc _).below b4 (HF3.out.alloc _).lt)
  have HT4 := Lib.hid ((HT3.out.alloc _).below b4)
  have HB4 := Lib.hid (below_then (HB3.out.alloc HB3.out.size _) b4)
  clear b4 HS3 HF3 HT3 HB3
  go_wp2_with (refine wpList_load_row rfl 51 _ rfl (w.heap.size + 1) rfl 51 (byv l) (0, 0) _ HF4.out fixed_under rfl HFS.out ?_)
  refine (segOf_any l _ HL.out HT4.out).mono ?_
  rintro e W5 ⟨rfl, b5⟩
  have HS5 := Lib.hid (HS4.out.below b5 HS4.out.lt)
  have HB5 := Lib.hid (below_then HB4.out b5)
  clear b5 HS4 HF4 HT4 HB4
  go_wp2_with (refine wpList_store_row rfl 25 _ _ rfl W5.heap.size (segv (hd l)) rfl rfl 25 _ (heap_alloc_new W5 _) seg_size rfl (segv_one _) ?_)
  rw [World.setRow_alloc_new]
  obtain ⟨W6, hW6⟩ : ∃ W6, W6 = W5.alloc (.cells (segv (hd l)) 25) := ⟨_, rfl⟩
  have S6 : Blk W6 w.heap.size 25 (segv Sg.zero) := by rw [hW6]; exact HS5.out.alloc _
  have X6 : Blk W6 W5.heap.size 25 (segv (hd l)) := by rw [hW6]; exact Blk.new W5 _ _
  have B6 : Below w.heap.size w W6 := by rw [hW6]; exact HB5.out.alloc HB5.out.size _
  rw [← hW6]
  obtain ⟨b, hbb⟩ : ∃ b, b = W5.heap.size := ⟨_, rfl⟩
  rw [← hbb] at X6 ⊢
  have LT := Lib.hid (show w.heap.size < b by rw [hbb]; exact HS5.out.lt)
  have c10 : W6.cell? ⟨b, 10, none⟩ = some (.string ⟨#[]⟩) := X6.cell 10
  have c11 : W6.cell? ⟨b, 11, none⟩ = some (.string ⟨#[]⟩) := X6.cell 11
  have f10 : W6.frozen? ⟨b, 10, none⟩ = false := X6.frozen 10
  have f11 : W6.frozen? ⟨b, 11, none⟩ = false := X6.frozen 11
  have n0 : (20 : Int) ≤ (n : Int) := by have := HM2.out; omega
  have n1 : (n : Int) ≤ (s.size : Int) := by have := HM4.out; omega
  have n2 : n ≤ s.size := HM4.out
  have n3 : 20 ≤ n := HM2.out
  have HS6 := Lib.hid S6
  have HX6 := Lib.hid X6
  have HB6 := Lib.hid B6
  clear hW6 S6 X6 B6 HS5 HB5 hbb hne
  go_region
  obtain ⟨y, hy⟩ : ∃ y : Sg, y = { hd l with area := s.extract 20 n, data := s.extract n s.size } := ⟨_, rfl⟩
  obtain ⟨W7, hW7⟩ : ∃ W7, W7 = ((W6.setCell ⟨b, 10, none⟩ (.string (s.extract 20 n))).setCell ⟨b, 11, none⟩ (.string (s.extract n s.size))).drew := ⟨_, rfl⟩
  have G7 : W6.grownBy W7 (some b) := by rw [hW7]; exact only_drew (only_setCell (p := ⟨b, 11, none⟩) (only_setCell (p := ⟨b, 10, none⟩) (World.grownBy.refl W6 (some b)) rfl _) rfl _)
  have X7 : Blk W7 b 25 (segv y) := by
    rw [hW7, hy]
    exact Blk.drew ((HX6.out.set_ 10 (.string (s.extract 20 n))).set_ 11 (.string (s.extract n s.size)))
  have S7 : Blk W7 w.heap.size 25 (segv Sg.zero) := HS6.out.grown G7 (by have := LT.out; simp; omega)
  have B7 : Below w.heap.size w W7 := HB6.out.trans (below_of_only G7 (by have := LT.out; omega) (by have := HS6.out.lt; omega))
  rw [← hW7]
  have HY := Lib.hid (show segs s.data.toList = y by rw [hy, HSG.out, ← HQ.out, ← HLE.out])
  have HX7 := Lib.hid X7
  have HS7 := Lib.hid S7
  have HB7 := Lib.hid B7
  clear hy hW7 G7 X7 S7 B7 c10 c11 f10 f11 n0 n1 n2 n3
  go_wp2_with (first
    | refine wpList_load_row rfl 25 _ rfl b rfl 25 (segv y) (0, 0) _ HX7.out Tryd.underlying25 rfl seg_size ?_
    | refine wpList_store_row rfl 25 _ _ rfl w.heap.size (segv y) rfl rfl 25 _ HS7.out seg_size rfl (segv_one _) ?_)
  have HSE := Lib.hid (setRow_heap _ w.heap.size _ (segv y) _ _ HS7.out)
  have HBE := Lib.hid (below_setRow HB7.out (Nat.le_refl _) (segv y))
  refine bodyPost_ret (results_row_tmp rfl _ _ w.heap.size 25 (segv y) (0, 0) _ rfl HSE.out Tryd.underlying25 rfl seg_size) rfl ⟨by rw [HY.out]; rfl, HBE.out⟩

/-- 'Parse', of any bytes. -/
theorem Parse_any (s : ByteArray) (w : World) (hb : s.size ≤ 4611686018427387904) (ht : Tbl w) :
    Calls Tryd.prog 14 #[.string s] w fun e w' => e = .returned (parseV s.data.toList) ∧ Below w.heap.size w w' := by
  by_cases hs : s.size < 20
  · exact Parse_short s w hs
  by_cases hc : (meas (s.data.toList.take 20) s.data.toList.length).2 = 0
  · by_cases hr : fold (tot s.data.toList) = 65535
    · exact Parse_ok s w (by omega) hb hc hr ht
    · exact Parse_sum s w (by omega) hb hc hr ht
  · exact Parse_bad s w (by omega) hb hc ht
end Go.Proofs.YthdcjcdgddejbaaDoor
