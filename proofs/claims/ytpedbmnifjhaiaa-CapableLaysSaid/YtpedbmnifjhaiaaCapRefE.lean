/-
  The document's own Encode of layer 9 (plaitref09), by its walk.
-/
import Derived.Test.YtpedbmnifjhaiaaCapRefs
namespace Go.Proofs.Ytpedbmnifjhaiaa
open Go.ChangeShapes Go.WideShapes Go.ChangeAt Go.RowKit
set_option linter.unusedVariables false

/-- The first bytes of a text, as a text. -/
theorem text_take (t : ByteArray) (m : Nat) (h : m ≤ t.size) : t.extract 0 m = txt (t.data.toList.take m) := by
  apply ByteArray.ext
  apply Array.toList_inj.1
  rw [ByteArray.data_extract, Array.toList_extract, List.extract_eq_take_drop]
  simp [txt]
theorem all_length (x : Cap) : x.all.length = 22 := by simp [Cap.all, be_length]
theorem size_le (f : Nat) (hf : f < 5) : Cap.size (f : Int) ≤ 22 := by
  have : f = 0 ∨ f = 1 ∨ f = 2 ∨ f = 3 ∨ f = 4 := by omega
  rcases this with rfl | rfl | rfl | rfl | rfl <;> decide

set_option maxHeartbeats 4000000 in
set_option maxRecDepth 100000 in
theorem EncodeR_any (x : Cap) (hx : x.Ok) (w : World) :
    Calls Try.prog 10 #[.agg (capv x)] w fun e w' => e = .returned (encV x) ∧ Below w.heap.size w w' := by
  have HX := Lib.hid hx
  clear hx
  obtain ⟨V, hV⟩ : ∃ V, V = encV x := ⟨_, rfl⟩
  rw [← hV]
  have HC := Lib.hid (Blk.new w 25 (capv x))
  have HB := Lib.hid ((Below.refl _ w).alloc (Nat.le_refl _) (.cells (capv x) 25))
  have HL := Lib.hid (show w.heap.size < (w.alloc (.cells (capv x) 25)).heap.size by simp)
  by_cases hm : x.May
  · rw [encV_t x hm] at hV
    have HVV := Lib.hid hV
    have HM := Lib.hid hm
    clear hV hm
    go_enter Try.func10, Try.ntmps10
    go_wp2_with (refine wpList_load_row rfl 25 _ rfl w.heap.size rfl 25 (capv x) (0, 0) _ ?_ Try.underlying25 rfl cap_size ?_; exact HC.out)
    refine (MayR_any x _).mono ?_
    rintro e W0 ⟨rfl, b⟩
    rw [decide_eq_true HM.out]
    have HBX := Lib.hid (HC.out.below b HL.out)
    have HBB := Lib.hid (HB.out.trans (b.mono HB.out.size))
    clear b HC HB HL
    have c2 := HBX.out.cell 2
    have c3 := HBX.out.cell 3
    simp only [List.getElem?_toArray, List.getElem?_cons_zero, List.getElem?_cons_succ] at c2 c3
    obtain ⟨f, hf⟩ := Int.eq_ofNat_of_zero_le HM.out.1.1
    have hf5 : f < 5 := by have := HM.out.1.2; omega
    obtain ⟨v, hv⟩ := Int.eq_ofNat_of_zero_le HM.out.2.1.1
    have hv15 : v ≤ 15 := by have := HM.out.2.1.2; omega
    obtain ⟨l, hl⟩ := Int.eq_ofNat_of_zero_le HM.out.2.2.1.1
    have hl16 : l ≤ 65535 := by have := HM.out.2.2.1.2; omega
    obtain ⟨t1, h1⟩ : ∃ t, txt (be 1 v) = t := ⟨_, rfl⟩
    obtain ⟨t2, h2⟩ : ∃ t, txt (be 1 x.flags) = t := ⟨_, rfl⟩
    obtain ⟨t3, h3⟩ : ∃ t, txt (be 8 x.own) = t := ⟨_, rfl⟩
    obtain ⟨t4, h4⟩ : ∃ t, txt (be 8 x.peer) = t := ⟨_, rfl⟩
    obtain ⟨t5, h5⟩ : ∃ t, txt (be 2 l) = t := ⟨_, rfl⟩
    obtain ⟨t6, h6⟩ : ∃ t, txt (be 2 x.sum) = t := ⟨_, rfl⟩
    have z1 : t1.size = 1 := by rw [← h1, txt_size, be_length]
    have z2 : t2.size = 1 := by rw [← h2, txt_size, be_length]
    have z3 : t3.size = 8 := by rw [← h3, txt_size, be_length]
    have z4 : t4.size = 8 := by rw [← h4, txt_size, be_length]
    have z5 : t5.size = 2 := by rw [← h5, txt_size, be_length]
    have z6 : t6.size = 2 := by rw [← h6, txt_size, be_length]
    have z12 : (t1 ++ t2).size = 2 := by rw [ByteArray.size_append]; omega
    have z13 : (t1 ++ t2 ++ t3).size = 10 := by rw [ByteArray.size_append]; omega
    have z14 : (t1 ++ t2 ++ t3 ++ t4).size = 18 := by rw [ByteArray.size_append]; omega
    have z15 : (t1 ++ t2 ++ t3 ++ t4 ++ t5).size = 20 := by rw [ByteArray.size_append]; omega
    have HALL := Lib.hid (show t1 ++ t2 ++ t3 ++ t4 ++ t5 ++ t6 = txt x.all by rw [← h1, ← h2, ← h3, ← h4, ← h5, ← h6]; simp only [txt_app, Cap.all, hv, hl]; rfl)
    have y1 : IntKind.u64.wrap x.ver = (v : Int) := by rw [IntKind.wrap_u64, hv]; omega
    have y5 : IntKind.u64.wrap x.len = (l : Int) := by rw [IntKind.wrap_u64, hl]; omega
    have y6 : IntKind.u64.wrap (x.sum : Int) = (x.sum : Int) := by rw [IntKind.wrap_u64]; have := HX.out.sum; omega
    have HT1 := Lib.hid h1
    have HT2 := Lib.hid h2
    have HT3 := Lib.hid h3
    have HT4 := Lib.hid h4
    have HT5 := Lib.hid h5
    have HT6 := Lib.hid h6
    have K1 := Lib.hid trivial
    have K2 := Lib.hid trivial
    have K3 := Lib.hid trivial
    have K4 := Lib.hid trivial
    have K5 := Lib.hid trivial
    have K6 := Lib.hid trivial
    have HFL := Lib.hid (show x.flags = 1 + (if x.sums then 128 else 0) + (if x.alone then 32 else 0) from rfl)
    have HFF := Lib.hid hf
    clear hf hv hl h1 h2 h3 h4 h5 h6
    obtain ⟨sb, hsb⟩ : ∃ b, b = x.sums := ⟨_, rfl⟩
    obtain ⟨ab, hab⟩ : ∃ b, b = x.alone := ⟨_, rfl⟩
    rw [← hsb] at c2 HFL
    rw [← hab] at c3 HFL
    have HSB := Lib.hid hsb
    have HAB := Lib.hid hab
    clear hsb hab
    cases sb <;> cases ab
    all_goals
      go_wp2_with fail
      clear c2 c3
      go_region_held3 (fun V => V.cell? ⟨w.heap.size, 1, none⟩ = some (.int .i64 x.ver) ∧ V.cell? ⟨w.heap.size, 4, none⟩ = some (.int .u64 (x.own : Int)) ∧ V.cell? ⟨w.heap.size, 5, none⟩ = some (.int .u64 (x.peer : Int)) ∧ V.cell? ⟨w.heap.size, 6, none⟩ = some (.int .i64 x.len) ∧ V.cell? ⟨w.heap.size, 7, none⟩ = some (.int .u16 (x.sum : Int)))
        (first | exact ⟨HBX.out.cell 1, HBX.out.cell 4, HBX.out.cell 5, HBX.out.cell 6, HBX.out.cell 7⟩)
        (first
      | (go_at_call 22; clear K1; refine (Laid_n (_) (v) 1 t1 _ ?_ (by omega) (by decide) (by decide) HT1.out).mono ?_; rfl; rintro e w1 ⟨rfl, b⟩; have HBX : Hid (Blk w1 w.heap.size 25 (capv x)) := Lib.hid (by refine Blk.below ?_ b ?_; exact HBX.out; exact HBX.out.lt); have HBB : Hid (Below w.heap.size w w1) := Lib.hid (by first | exact HBB.out.trans (b.mono HBB.out.size) | exact HBB.out.drew.trans (b.mono HBB.out.size)); clear b)
      | (go_at_call 22; clear K2; refine (Laid_n (_) (x.flags) 1 t2 _ ?_ (by have := x.flags_lt; omega) (by decide) (by decide) HT2.out).mono ?_; rw [HFL.out]; rfl; rintro e w1 ⟨rfl, b⟩; have HBX : Hid (Blk w1 w.heap.size 25 (capv x)) := Lib.hid (by refine Blk.below ?_ b ?_; exact HBX.out; exact HBX.out.lt); have HBB : Hid (Below w.heap.size w w1) := Lib.hid (by first | exact HBB.out.trans (b.mono HBB.out.size) | exact HBB.out.drew.trans (b.mono HBB.out.size)); clear b)
      | (go_at_call 22; clear K3; refine (Laid_n (_) (x.own) 8 t3 _ ?_ HX.out.own (by decide) (by decide) HT3.out).mono ?_; rfl; rintro e w1 ⟨rfl, b⟩; have HBX : Hid (Blk w1 w.heap.size 25 (capv x)) := Lib.hid (by refine Blk.below ?_ b ?_; exact HBX.out; exact HBX.out.lt); have HBB : Hid (Below w.heap.size w w1) := Lib.hid (by first | exact HBB.out.trans (b.mono HBB.out.size) | exact HBB.out.drew.trans (b.mono HBB.out.size)); clear b)
      | (go_at_call 22; clear K4; refine (Laid_n (_) (x.peer) 8 t4 _ ?_ HX.out.peer (by decide) (by decide) HT4.out).mono ?_; rfl; rintro e w1 ⟨rfl, b⟩; have HBX : Hid (Blk w1 w.heap.size 25 (capv x)) := Lib.hid (by refine Blk.below ?_ b ?_; exact HBX.out; exact HBX.out.lt); have HBB : Hid (Below w.heap.size w w1) := Lib.hid (by first | exact HBB.out.trans (b.mono HBB.out.size) | exact HBB.out.drew.trans (b.mono HBB.out.size)); clear b)
      | (go_at_call 22; clear K5; refine (Laid_n (_) (l) 2 t5 _ ?_ (by omega) (by decide) (by decide) HT5.out).mono ?_; rfl; rintro e w1 ⟨rfl, b⟩; have HBX : Hid (Blk w1 w.heap.size 25 (capv x)) := Lib.hid (by refine Blk.below ?_ b ?_; exact HBX.out; exact HBX.out.lt); have HBB : Hid (Below w.heap.size w w1) := Lib.hid (by first | exact HBB.out.trans (b.mono HBB.out.size) | exact HBB.out.drew.trans (b.mono HBB.out.size)); clear b)
      | (go_at_call 22; clear K6; refine (Laid_n (_) (x.sum) 2 t6 _ ?_ (by have := HX.out.sum; omega) (by decide) (by decide) HT6.out).mono ?_; rfl; rintro e w1 ⟨rfl, b⟩; have HBX : Hid (Blk w1 w.heap.size 25 (capv x)) := Lib.hid (by refine Blk.below ?_ b ?_; exact HBX.out; exact HBX.out.lt); have HBB : Hid (Below w.heap.size w w1) := Lib.hid (by first | exact HBB.out.trans (b.mono HBB.out.size) | exact HBB.out.drew.trans (b.mono HBB.out.size)); clear b))
      obtain ⟨T, hT⟩ : ∃ T, T = txt x.all := ⟨_, rfl⟩
      rw [HALL.out, ← hT]
      have zT : T.size = 22 := by rw [hT, txt_size, all_length]
      have HTT := Lib.hid hT
      have c0 := HBX.out.cell 0
      simp only [List.getElem?_toArray, List.getElem?_cons_zero] at c0
      clear hT z1 z2 z3 z4 z5 z6 z12 z13 z14 z15 y1 y5 y6
      go_wp2_with fail
      refine (SizeR_at f hf5 _ HFF.out _).mono ?_
      rintro e w2 ⟨rfl, rfl⟩
      clear c0
      obtain ⟨n, hn⟩ : ∃ n, n = Cap.size (f : Int) := ⟨_, rfl⟩
      rw [← hn]
      have hn22 : n ≤ 22 := by rw [hn]; exact size_le f hf5
      have HN := Lib.hid hn
      clear hn
      have HTK := Lib.hid (show T.extract 0 n = txt x.body by rw [text_take T n (by omega), HTT.out, Cap.body, HN.out, HFF.out]; rfl)
      go_wp2_with fail
      go_ret2
      refine ⟨?_, HBB.out⟩
      show Ending.returned (.tuple #[.string (T.extract 0 n), .int .i64 0]) = _
      rw [HVV.out, HTK.out]
  · rw [encV_f x hm] at hV
    subst hV
    have HM := Lib.hid hm
    clear hm
    go_enter Try.func10, Try.ntmps10
    go_wp2_with (refine wpList_load_row rfl 25 _ rfl w.heap.size rfl 25 (capv x) (0, 0) _ ?_ Try.underlying25 rfl cap_size ?_; exact HC.out)
    refine (MayR_any x _).mono ?_
    rintro e W0 ⟨rfl, b⟩
    rw [decide_eq_false HM.out]
    have HB0 := Lib.hid (HB.out.trans (b.mono HB.out.size))
    clear b
    go_wp2_with fail
    go_ret2
    exact ⟨rfl, HB0.out⟩
end Go.Proofs.Ytpedbmnifjhaiaa
