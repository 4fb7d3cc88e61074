/-
  What the methods of package dss that write a body's parts leave, each by its walk: putFront, putAck, putMap, putSum.
-/
import Derived.Test.YtdhkjhkgjfcolaaDssPut
namespace Go.Proofs.Ytdhkjhkgjfcolaa
open Go.ChangeShapes Go.WideShapes Go.ChangeAt Go.RowKit
set_option linter.unusedVariables false

set_option maxRecDepth 100000 in
theorem putFront_any (b : Nat) (c : Value) (x : Ds) (T S1 S : ByteArray) (w : World) (hT : T.size ≤ 1000) (h1 : T ++ txt (be 1 32) = S1) (hS : S1 ++ txt (be 1 x.bits) = S) (h : Bd w b c x T) :
    Calls Try.prog 19 #[ptr b] w (Wrote w b c x S) := by
  have hz1 : S1.size ≤ 1001 := by rw [← h1, ByteArray.size_append, txt_size, be_length]; omega
  have H := Lib.hid h
  have H1 := Lib.hid h1
  have HS := Lib.hid hS
  clear h h1 hS
  go_enter Try.func19, Try.ntmps19
  go_wp2_with fail
  refine (put8_any b 32 c x T S1 w (by omega) (by omega) H1.out H.out).mono ?_
  rintro e W1 ⟨rfl, g1, d1⟩
  have HD1 := Lib.hid d1
  have HG1 := Lib.hid g1
  clear d1 g1 H
  go_wp2_with (refine load_ds rfl _ rfl b rfl c x S1 ?_ ?_; exact HD1.out)
  refine (bitsOf_any x W1).mono ?_
  rintro e W2 ⟨rfl, b2⟩
  have HD2 := Lib.hid (HD1.out.below b2 HD1.out.lt)
  have HG2 := Lib.hid (HG1.out.trans (only_of_below b2 (some b)))
  clear b2 HD1 HG1
  go_wp2_with fail
  refine (put8_any b x.bits c x S1 S W2 (by omega) (by have := x.bits_lt; omega) HS.out HD2.out).mono ?_
  rintro e W3 ⟨rfl, g3, d3⟩
  have HE := Lib.hid (And.intro (HG2.out.trans g3) d3)
  clear g3 d3 HD2 HG2
  go_wp2_with fail
  go_end0; exact ⟨rfl, HE.out⟩
set_option maxHeartbeats 1000000 in
set_option maxRecDepth 100000 in
theorem putAck_any (b : Nat) (c : Value) (x : Ds) (T S : ByteArray) (w : World) (hT : T.size ≤ 1000) (hn : x.ack < 256 ^ wA x.ha x.la) (hS : T ++ txt (be (wA x.ha x.la) x.ack) = S) (h : Bd w b c x T) :
    Calls Try.prog 20 #[ptr b] w (Wrote w b c x S) := by
  obtain ⟨fin, ha, la, ack, hm, ld, dsn, ssn, len, hs, sum⟩ := x
  cases ha
  · have hS : T = S := by rw [← hS]; exact (txt_nil T).symm
    subst hS
    have H := Lib.hid h
    obtain ⟨W1, hW1⟩ : ∃ W1, W1 = w.alloc (.cells #[.bool fin, .bool false, .bool la, .int .u64 (ack : Int), .bool hm, .bool ld, .int .u64 (dsn : Int), .int .u32 (ssn : Int), .int .i64 len, .bool hs, .int .u16 (sum : Int)] 26) := ⟨_, rfl⟩
    obtain ⟨g, hg⟩ : ∃ g, g = w.heap.size := ⟨_, rfl⟩
    have HX := Lib.hid (show Blk W1 g 26 (dsv (⟨fin, false, la, ack, hm, ld, dsn, ssn, len, hs, sum⟩ : Ds)) by rw [hW1, hg]; exact Blk.new _ _ _)
    have HD := Lib.hid (show Bd W1 b c (⟨fin, false, la, ack, hm, ld, dsn, ssn, len, hs, sum⟩ : Ds) T by rw [hW1]; exact h.alloc _)
    have HG := Lib.hid (show w.grownBy W1 (some b) by rw [hW1]; exact only_alloc (.refl _ _) _)
    have hne : b ≠ g := by rw [hg]; exact Nat.ne_of_lt h.lt
    have HNE := Lib.hid (show some g ≠ some b by intro q; injection q with q; exact hne q.symm)
    have HW1 := Lib.hid hW1
    have HGE := Lib.hid hg
    clear hW1 hg h hne
    go_enter Try.func20, Try.ntmps20
    go_wp2_with (refine load_ds rfl _ rfl b rfl c (⟨fin, false, la, ack, hm, ld, dsn, ssn, len, hs, sum⟩ : Ds) T ?_ ?_; exact H.out)
    rw [← HW1.out]
    go_wp2_with fail
    go_end0; exact ⟨rfl, HG.out, HD.out⟩
  · have HN := Lib.hid (show ack < 256 ^ wA true la from hn)
    have HS := Lib.hid (show T ++ txt (be (wA true la) ack) = S from hS)
    clear hn hS
    have H := Lib.hid h
    obtain ⟨W1, hW1⟩ : ∃ W1, W1 = w.alloc (.cells #[.bool fin, .bool true, .bool la, .int .u64 (ack : Int), .bool hm, .bool ld, .int .u64 (dsn : Int), .int .u32 (ssn : Int), .int .i64 len, .bool hs, .int .u16 (sum : Int)] 26) := ⟨_, rfl⟩
    obtain ⟨g, hg⟩ : ∃ g, g = w.heap.size := ⟨_, rfl⟩
    have HX := Lib.hid (show Blk W1 g 26 (dsv (⟨fin, true, la, ack, hm, ld, dsn, ssn, len, hs, sum⟩ : Ds)) by rw [hW1, hg]; exact Blk.new _ _ _)
    have HD := Lib.hid (show Bd W1 b c (⟨fin, true, la, ack, hm, ld, dsn, ssn, len, hs, sum⟩ : Ds) T by rw [hW1]; exact h.alloc _)
    have HG := Lib.hid (show w.grownBy W1 (some b) by rw [hW1]; exact only_alloc (.refl _ _) _)
    have hne : b ≠ g := by rw [hg]; exact Nat.ne_of_lt h.lt
    have HNE := Lib.hid (show some g ≠ some b by intro q; injection q with q; exact hne q.symm)
    have HW1 := Lib.hid hW1
    have HGE := Lib.hid hg
    clear hW1 hg h hne
    go_enter Try.func20, Try.ntmps20
    go_wp2_with (refine load_ds rfl _ rfl b rfl c (⟨fin, true, la, ack, hm, ld, dsn, ssn, len, hs, sum⟩ : Ds) T ?_ ?_; exact H.out)
    rw [← HW1.out]
    refine (writer_any b W1).mono ?_
    rintro e W2 ⟨rfl, q, b2⟩
    have HQ := Lib.hid q
    have HX2 := Lib.hid (HX.out.below b2 HX.out.lt)
    have HD2 := Lib.hid (HD.out.below b2 HD.out.lt)
    have HG2 := Lib.hid (HG.out.trans (only_of_below b2 (some b)))
    clear q b2 HX HD HG
    rw [← HGE.out]
    have c3 := HX2.out.cell 3
    have c2 := HX2.out.cell 2
    simp only [List.getElem?_toArray, List.getElem?_cons_zero, List.getElem?_cons_succ] at c3 c2
    go_wp2_with fail
    refine (wclo_any la ack W1.heap.size b c (⟨fin, true, la, ack, hm, ld, dsn, ssn, len, hs, sum⟩ : Ds) T S W2 (by omega) HN.out HS.out HD2.out HQ.out).mono ?_
    rintro e W3 ⟨rfl, g3, d3⟩
    have HD3 := Lib.hid d3
    have HX3 := Lib.hid (HX2.out.grown g3 HNE.out)
    have HG3 := Lib.hid (HG2.out.trans g3)
    clear g3 d3 HD2 HX2 HG2 c3 c2
    go_wp2_with fail
    go_end0; exact ⟨rfl, HG3.out, HD3.out⟩
set_option maxHeartbeats 1000000 in
set_option maxRecDepth 100000 in
theorem putSum_any (b : Nat) (c : Value) (x : Ds) (T S : ByteArray) (w : World) (hT : T.size ≤ 1000) (hn : x.sum ≤ 65535) (hS : T ++ txt (be (w2 x.hs) x.sum) = S) (h : Bd w b c x T) :
    Calls Try.prog 22 #[ptr b] w (Wrote w b c x S) := by
  obtain ⟨fin, ha, la, ack, hm, ld, dsn, ssn, len, hs, sum⟩ := x
  have H := Lib.hid h
  have c10 := H.out.cell 10
  have c11 := H.out.cell 11
  simp only [List.getElem?_toArray, List.getElem?_cons_zero, List.getElem?_cons_succ] at c10 c11
  cases hs
  · have hS : T = S := by rw [← hS]; exact (txt_nil T).symm
    subst hS
    clear h
    go_enter Try.func22, Try.ntmps22
    go_wp2_with fail
    go_end0; exact ⟨rfl, .refl _ _, H.out⟩
  · have HS := Lib.hid (show T ++ txt (be 2 sum) = S from hS)
    clear hS h
    go_enter Try.func22, Try.ntmps22
    go_wp2_with fail
    refine (put16_any b sum c (⟨fin, ha, la, ack, hm, ld, dsn, ssn, len, true, sum⟩ : Ds) T S w (by omega) hn HS.out H.out).mono ?_
    rintro e W1 ⟨rfl, g1, d1⟩
    have HD1 := Lib.hid d1
    have HG1 := Lib.hid g1
    clear g1 d1 H c10 c11
    go_wp2_with fail
    go_end0; exact ⟨rfl, HG1.out, HD1.out⟩
set_option maxHeartbeats 1000000 in
set_option maxRecDepth 100000 in
theorem putMap_any (b : Nat) (c : Value) (x : Ds) (T S : ByteArray) (w : World) (hT : T.size ≤ 1000) (hn : x.dsn < 256 ^ wA x.hm x.ld) (hs4 : x.ssn ≤ 4294967295) (hl : 0 ≤ x.len ∧ x.len ≤ 65535) (S1 S2 : ByteArray) (h1 : T ++ txt (be (wA x.hm x.ld) x.dsn) = S1) (h2 : S1 ++ txt (be (w4 x.hm) x.ssn) = S2) (hS : S2 ++ txt (be (w2 x.hm) x.len.toNat) = S) (h : Bd w b c x T) :
    Calls Try.prog 21 #[ptr b] w (Wrote w b c x S) := by
  obtain ⟨fin, ha, la, ack, hm, ld, dsn, ssn, len, hs, sum⟩ := x
  cases hm
  · have h1 : T = S1 := by rw [← h1]; exact (txt_nil T).symm
    subst h1
    have h2 : T = S2 := by rw [← h2]; exact (txt_nil T).symm
    subst h2
    have hS : T = S := by rw [← hS]; exact (txt_nil T).symm
    subst hS
    have H := Lib.hid h
    obtain ⟨W1, hW1⟩ : ∃ W1, W1 = w.alloc (.cells #[.bool fin, .bool ha, .bool la, .int .u64 (ack : Int), .bool false, .bool ld, .int .u64 (dsn : Int), .int .u32 (ssn : Int), .int .i64 len, .bool hs, .int .u16 (sum : Int)] 26) := ⟨_, rfl⟩
    obtain ⟨g, hg⟩ : ∃ g, g = w.heap.size := ⟨_, rfl⟩
    have HX := Lib.hid (show Blk W1 g 26 (dsv (⟨fin, ha, la, ack, false, ld, dsn, ssn, len, hs, sum⟩ : Ds)) by rw [hW1, hg]; exact Blk.new _ _ _)
    have HD := Lib.hid (show Bd W1 b c (⟨fin, ha, la, ack, false, ld, dsn, ssn, len, hs, sum⟩ : Ds) T by rw [hW1]; exact h.alloc _)
    have HG := Lib.hid (show w.grownBy W1 (some b) by rw [hW1]; exact only_alloc (.refl _ _) _)
    have hne : b ≠ g := by rw [hg]; exact Nat.ne_of_lt h.lt
    have HNE := Lib.hid (show some g ≠ some b by intro q; injection q with q; exact hne q.symm)
    have HW1 := Lib.hid hW1
    have HGE := Lib.hid hg
    clear hW1 hg h hne
    go_enter Try.func21, Try.ntmps21
    go_wp2_with (refine load_ds rfl _ rfl b rfl c (⟨fin, ha, la, ack, false, ld, dsn, ssn, len, hs, sum⟩ : Ds) T ?_ ?_; exact H.out)
    rw [← HW1.out]
    go_wp2_with fail
    go_end0; exact ⟨rfl, HG.out, HD.out⟩
  · have hz1 : S1.size ≤ 1008 := by rw [← h1, ByteArray.size_append, txt_size, be_length]; have := wA_le true ld; show _ + wA true ld ≤ _; omega
    have hz2 : S2.size ≤ 1012 := by rw [← h2, ByteArray.size_append, txt_size, be_length]; show _ + 4 ≤ _; omega
    obtain ⟨n, hln⟩ : ∃ n : Nat, len = (n : Int) := ⟨len.toNat, by have := hl.1; simp only [] at this; omega⟩
    subst hln
    have hn2 : n ≤ 65535 := by have := hl.2; simp only [] at this; omega
    have hc : (n : Int) % 65536 = (n : Int) := by omega
    have HN := Lib.hid (show dsn < 256 ^ wA true ld from hn)
    have H4 := Lib.hid (show ssn ≤ 4294967295 from hs4)
    have H1 := Lib.hid (show T ++ txt (be (wA true ld) dsn) = S1 from h1)
    have H2 := Lib.hid (show S1 ++ txt (be 4 ssn) = S2 from h2)
    have HS := Lib.hid (show S2 ++ txt (be 2 n) = S from hS)
    clear hn h1 h2 hS hs4 hl
    have H := Lib.hid h
    obtain ⟨W1, hW1⟩ : ∃ W1, W1 = w.alloc (.cells #[.bool fin, .bool ha, .bool la, .int .u64 (ack : Int), .bool true, .bool ld, .int .u64 (dsn : Int), .int .u32 (ssn : Int), .int .i64 (n : Int), .bool hs, .int .u16 (sum : Int)] 26) := ⟨_, rfl⟩
    obtain ⟨g, hg⟩ : ∃ g, g = w.heap.size := ⟨_, rfl⟩
    have HX := Lib.hid (show Blk W1 g 26 (dsv (⟨fin, ha, la, ack, true, ld, dsn, ssn, (n : Int), hs, sum⟩ : Ds)) by rw [hW1, hg]; exact Blk.new _ _ _)
    have HD := Lib.hid (show Bd W1 b c (⟨fin, ha, la, ack, true, ld, dsn, ssn, (n : Int), hs, sum⟩ : Ds) T by rw [hW1]; exact h.alloc _)
    have HG := Lib.hid (show w.grownBy W1 (some b) by rw [hW1]; exact only_alloc (.refl _ _) _)
    have hne : b ≠ g := by rw [hg]; exact Nat.ne_of_lt h.lt
    have HNE := Lib.hid (show some g ≠ some b by intro q; injection q with q; exact hne q.symm)
    have HW1 := Lib.hid hW1
    have HGE := Lib.hid hg
    clear hW1 hg h hne
    go_enter Try.func21, Try.ntmps21
    go_wp2_with (refine load_ds rfl _ rfl b rfl c (⟨fin, ha, la, ack, true, ld, dsn, ssn, (n : Int), hs, sum⟩ : Ds) T ?_ ?_; exact H.out)
    rw [← HW1.out]
    refine (writer_any b W1).mono ?_
    rintro e W2 ⟨rfl, q, b2⟩
    have HQ := Lib.hid q
    have HX2 := Lib.hid (HX.out.below b2 HX.out.lt)
    have HD2 := Lib.hid (HD.out.below b2 HD.out.lt)
    have HG2 := Lib.hid (HG.out.trans (only_of_below b2 (some b)))
    clear q b2 HX HD HG
    rw [← HGE.out]
    have c6 := HX2.out.cell 6
    have c5 := HX2.out.cell 5
    simp only [List.getElem?_toArray, List.getElem?_cons_zero, List.getElem?_cons_succ] at c6 c5
    go_wp2_with fail
    refine (wclo_any ld dsn W1.heap.size b c (⟨fin, ha, la, ack, true, ld, dsn, ssn, (n : Int), hs, sum⟩ : Ds) T S1 W2 (by omega) HN.out H1.out HD2.out HQ.out).mono ?_
    rintro e W3 ⟨rfl, g3, d3⟩
    have HD3 := Lib.hid d3
    have HX3 := Lib.hid (HX2.out.grown g3 HNE.out)
    have HG3 := Lib.hid (HG2.out.trans g3)
    clear g3 d3 HD2 HX2 HG2 c6 c5
    have c7 := HX3.out.cell 7
    simp only [List.getElem?_toArray, List.getElem?_cons_zero, List.getElem?_cons_succ] at c7
    go_wp2_with fail
    refine (put32_any b ssn c (⟨fin, ha, la, ack, true, ld, dsn, ssn, (n : Int), hs, sum⟩ : Ds) S1 S2 W3 (by omega) H4.out H2.out HD3.out).mono ?_
    rintro e W4 ⟨rfl, g4, d4⟩
    have HD4 := Lib.hid d4
    have HX4 := Lib.hid (HX3.out.grown g4 HNE.out)
    have HG4 := Lib.hid (HG3.out.trans g4)
    clear g4 d4 HD3 HX3 HG3 c7
    have c8 := HX4.out.cell 8
    simp only [List.getElem?_toArray, List.getElem?_cons_zero, List.getElem?_cons_succ] at c8
    go_wp2_with fail
    refine (put16_any b n c (⟨fin, ha, la, ack, true, ld, dsn, ssn, (n : Int), hs, sum⟩ : Ds) S2 S W4 (by omega) hn2 HS.out HD4.out).mono ?_
    rintro e W5 ⟨rfl, g5, d5⟩
    have HD5 := Lib.hid d5
    have HG5 := Lib.hid (HG4.out.trans g5)
    clear g5 d5 HD4 HX4 HG4 c8
    go_wp2_with fail
    go_end0; exact ⟨rfl, HG5.out, HD5.out⟩
end Go.Proofs.Ytdhkjhkgjfcolaa
