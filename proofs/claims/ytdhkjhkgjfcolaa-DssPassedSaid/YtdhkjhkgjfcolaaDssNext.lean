/-
  What readAck, readMap, readSum of package dss leave, each by its walk.
-/
import Derived.Test.YtdhkjhkgjfcolaaDssRead
namespace Go.Proofs.Ytdhkjhkgjfcolaa
open Go.ChangeShapes Go.WideShapes Go.ChangeAt Go.RowKit
set_option linter.unusedVariables false

section
variable {w : World} {b : Nat} {c : Value} {T : ByteArray} {fin ha la hm ld hs : Bool} {ack dsn ssn sum : Nat} {len : Int}
theorem Bd.setAck (h : Bd w b c (⟨fin, ha, la, ack, hm, ld, dsn, ssn, len, hs, sum⟩ : Ds) T) (n : Nat) : Bd (w.setCell ⟨b, 4, none⟩ (.int .u64 (n : Int))) b c (⟨fin, ha, la, n, hm, ld, dsn, ssn, len, hs, sum⟩ : Ds) T := Blk.set_ h 4 _
theorem Bd.setDsn (h : Bd w b c (⟨fin, ha, la, ack, hm, ld, dsn, ssn, len, hs, sum⟩ : Ds) T) (n : Nat) : Bd (w.setCell ⟨b, 7, none⟩ (.int .u64 (n : Int))) b c (⟨fin, ha, la, ack, hm, ld, n, ssn, len, hs, sum⟩ : Ds) T := Blk.set_ h 7 _
theorem Bd.setSsn (h : Bd w b c (⟨fin, ha, la, ack, hm, ld, dsn, ssn, len, hs, sum⟩ : Ds) T) (n : Nat) : Bd (w.setCell ⟨b, 8, none⟩ (.int .u32 (n : Int))) b c (⟨fin, ha, la, ack, hm, ld, dsn, n, len, hs, sum⟩ : Ds) T := Blk.set_ h 8 _
theorem Bd.setLen (h : Bd w b c (⟨fin, ha, la, ack, hm, ld, dsn, ssn, len, hs, sum⟩ : Ds) T) (n : Int) : Bd (w.setCell ⟨b, 9, none⟩ (.int .i64 n)) b c (⟨fin, ha, la, ack, hm, ld, dsn, ssn, n, hs, sum⟩ : Ds) T := Blk.set_ h 9 _
theorem Bd.setHas (h : Bd w b c (⟨fin, ha, la, ack, hm, ld, dsn, ssn, len, hs, sum⟩ : Ds) T) (n : Bool) : Bd (w.setCell ⟨b, 10, none⟩ (.bool n)) b c (⟨fin, ha, la, ack, hm, ld, dsn, ssn, len, n, sum⟩ : Ds) T := Blk.set_ h 10 _
theorem Bd.setSum (h : Bd w b c (⟨fin, ha, la, ack, hm, ld, dsn, ssn, len, hs, sum⟩ : Ds) T) (n : Nat) : Bd (w.setCell ⟨b, 11, none⟩ (.int .u16 (n : Int))) b c (⟨fin, ha, la, ack, hm, ld, dsn, ssn, len, hs, n⟩ : Ds) T := Blk.set_ h 11 _
end
theorem only_set {w : World} {b : Nat} (k : Nat) (u : Value) : w.grownBy (w.setCell ⟨b, k, none⟩ u) (some b) := only_setCell (.refl _ _) rfl u
theorem posO_0 (s : ByteArray) (k : Nat) (br : Bool) (h : k ≤ s.size) : posO s k br ((0 : Nat) : Int) = k := by
  cases br
  · rw [posO_t (by unfold fits; simp; omega)]; simp
  · rw [posO_f (by simp [fits])]
theorem brO_0 (s : ByteArray) (k : Nat) (br : Bool) (h : k ≤ s.size) : brO s k br ((0 : Nat) : Int) = br := by
  cases br
  · rw [brO_t (by unfold fits; simp; omega)]
  · rw [brO_f (by simp [fits])]
theorem numO_0 (s : ByteArray) (k : Nat) (br : Bool) : numO s k br 0 = 0 := by unfold numO; split <;> rfl
/-! Three numbers, one behind the other. -/
def pos2 (s : ByteArray) (k : Nat) (br : Bool) (m1 m2 : Nat) : Nat := posO s (posO s k br m1) (brO s k br m1) m2
def br2 (s : ByteArray) (k : Nat) (br : Bool) (m1 m2 : Nat) : Bool := brO s (posO s k br m1) (brO s k br m1) m2
def num2 (s : ByteArray) (k : Nat) (br : Bool) (m1 m2 : Nat) : Nat := numO s (posO s k br m1) (brO s k br m1) m2
def pos3 (s : ByteArray) (k : Nat) (br : Bool) (m1 m2 m3 : Nat) : Nat := posO s (pos2 s k br m1 m2) (br2 s k br m1 m2) m3
def br3 (s : ByteArray) (k : Nat) (br : Bool) (m1 m2 m3 : Nat) : Bool := brO s (pos2 s k br m1 m2) (br2 s k br m1 m2) m3
def num3 (s : ByteArray) (k : Nat) (br : Bool) (m1 m2 m3 : Nat) : Nat := numO s (pos2 s k br m1 m2) (br2 s k br m1 m2) m3
/-- What a part that is read leaves. -/
abbrev Got (w : World) (b c : Nat) (s : ByteArray) (k : Nat) (br : Bool) (x : Ds) (e : Ending) (w' : World) : Prop := e = .returned (.tuple #[]) ∧ Two w w' b c ∧ Rb w' b c s k br x
set_option maxHeartbeats 1000000 in
set_option maxRecDepth 100000 in
theorem readAck_any (b c : Nat) (s : ByteArray) (k : Nat) (br : Bool) (fin ha la hm ld hsum : Bool) (ack dsn ssn sum : Nat) (len : Int) (w : World) (hs : s.size ≤ 9223372036854775807) (h : Rb w b c s k br (⟨fin, ha, la, 0, hm, ld, dsn, ssn, len, hsum, sum⟩ : Ds)) :
    Calls Try.prog 29 #[ptr b] w (Got w b c s (posO s k br (wA ha la : Nat)) (brO s k br (wA ha la : Nat)) (⟨fin, ha, la, (numO s k br (wA ha la)), hm, ld, dsn, ssn, len, hsum, sum⟩ : Ds)) := by
  have HS := Lib.hid hs
  have H := Lib.hid h
  cases ha
  · rw [show wA false la = 0 from rfl, posO_0 s k br h.at_, brO_0 s k br h.at_, numO_0]
    clear hs h
    have c2 := H.out.body.cell 2
    simp only [List.getElem?_toArray, List.getElem?_cons_zero, List.getElem?_cons_succ] at c2
    go_enter Try.func29, Try.ntmps29
    go_wp2_with fail
    go_end0; exact ⟨rfl, .refl _ _ _, H.out⟩
  · obtain ⟨R, hR⟩ : ∃ R, R = Got w b c s (posO s k br (wA true la : Nat)) (brO s k br (wA true la : Nat)) (⟨fin, true, la, (numO s k br (wA true la)), hm, ld, dsn, ssn, len, hsum, sum⟩ : Ds) := ⟨_, rfl⟩
    rw [← hR]
    have HRR := Lib.hid hR
    clear hs h hR
    have c2 := H.out.body.cell 2
    simp only [List.getElem?_toArray, List.getElem?_cons_zero, List.getElem?_cons_succ] at c2
    go_enter Try.func29, Try.ntmps29
    go_upto_region 2 with fail
    have B0 : Below w.heap.size w w.drew := (Below.refl _ w).drew
    refine held_start (fun W => Below w.heap.size w W) (by kernel_rfl) (n := 12) rfl ?_
    obtain ⟨W0, hW0⟩ : ∃ W0, W0 = w.drew := ⟨_, rfl⟩
    rw [← hW0] at B0 ⊢
    clear hW0
    refine held_free 0 (ptr b) rfl (by kernel_rfl) (by kernel_rfl) (by kernel_rfl) (by kernel_rfl) B0 (fun _ _ => by kernel_rfl) ?_
    refine held_free 1 (ptr b) rfl (by kernel_rfl) (by kernel_rfl) (by kernel_rfl) (by kernel_rfl) B0 (fun _ _ => by kernel_rfl) ?_
    refine held_free 2 (ptr b) rfl (by kernel_rfl) (by kernel_rfl) (by kernel_rfl) (by kernel_rfl) B0 (fun _ _ => ex_field (v := ptr b) 53 (.tmp 12) 0 (by kernel_rfl) (by kernel_rfl) (by kernel_rfl)) ?_
    refine held_free 3 (ptr c) rfl (by kernel_rfl) (by kernel_rfl) (by kernel_rfl) (by kernel_rfl) B0 (fun W q => ex_load 51 (.tmp 13) (by kernel_rfl) ⟨b, 0, none⟩ (by kernel_rfl) (by kernel_rfl) ((H.out.below q).body.cell 0)) ?_
    refine held_free 4 (r32 c) rfl (by kernel_rfl) (by kernel_rfl) (by kernel_rfl) (by kernel_rfl) B0 (fun _ _ => by kernel_rfl) ?_
    refine held_free 5 (ptr b) rfl (by kernel_rfl) (by kernel_rfl) (by kernel_rfl) (by kernel_rfl) B0 (fun _ _ => by kernel_rfl) ?_
    refine held_free 6 (ptr b) rfl (by kernel_rfl) (by kernel_rfl) (by kernel_rfl) (by kernel_rfl) B0 (fun _ _ => by kernel_rfl) ?_
    refine held_free 7 (ptr b) rfl (by kernel_rfl) (by kernel_rfl) (by kernel_rfl) (by kernel_rfl) B0 (fun _ _ => ex_field (v := ptr b) 53 (.tmp 17) 0 (by kernel_rfl) (by kernel_rfl) (by kernel_rfl)) ?_
    refine held_free 8 (ptr c) rfl (by kernel_rfl) (by kernel_rfl) (by kernel_rfl) (by kernel_rfl) B0 (fun W q => ex_load 51 (.tmp 18) (by kernel_rfl) ⟨b, 0, none⟩ (by kernel_rfl) (by kernel_rfl) ((H.out.below q).body.cell 0)) ?_
    refine held_free 9 (r64 c) rfl (by kernel_rfl) (by kernel_rfl) (by kernel_rfl) (by kernel_rfl) B0 (fun _ _ => by kernel_rfl) ?_
    refine held_call 10 rfl (by kernel_rfl) (by kernel_rfl) (by kernel_rfl) (reader_any c W0) (fun w' h => B0.trans (h.2.mono B0.size)) ?_
    rintro Wr ⟨hq, hb⟩
    have Br := B0.trans (hb.mono B0.size)
    clear hb B0
    refine held_free 11 (rclo W0.heap.size) rfl (by kernel_rfl) (by kernel_rfl) (by kernel_rfl) (by kernel_rfl) Br (fun _ _ => by kernel_rfl) ?_
    refine held_end (by kernel_rfl) ?_
    have HQ := Lib.hid hq
    have HRr := Lib.hid (H.out.below Br)
    have HTr := Lib.hid (show Two w Wr b c from Two.of_below Br)
    clear hq Br
    have c3 := HRr.out.body.cell 3
    simp only [List.getElem?_toArray, List.getElem?_cons_zero, List.getElem?_cons_succ] at c3
    clear c2
    go_wp2_with fail
    refine (rclo_any la W0.heap.size c s k br Wr HS.out HRr.out.at_ HRr.out.cur HQ.out).mono ?_
    rintro e W1 ⟨rfl, hm1⟩
    obtain ⟨n, hn1⟩ : ∃ n, n = numO s k br (wA true la) := ⟨_, rfl⟩
    rw [← hn1]
    have HRm := Lib.hid (HRr.out.moved hm1)
    have HTm := Lib.hid (HTr.out.trans (Two.right hm1.1))
    have HN1 := Lib.hid hn1
    clear hm1 hn1 c3 HRr HTr HQ H
    obtain ⟨W2, hW2⟩ : ∃ w', w' = W1.setCell ⟨b, 4, none⟩ (.int .u64 (n : Int)) := ⟨_, rfl⟩
    have HR1 := Lib.hid (show Rb W2 b c s _ _ _ by rw [hW2]; exact HRm.out.turned (only_set 4 _) (HRm.out.body.setAck n))
    have HT1 := Lib.hid (show Two w W2 b c by rw [hW2]; exact HTm.out.trans (Two.left (only_set 4 _)))
    have HEW2 := Lib.hid hW2
    clear hW2
    have f4 := HRm.out.body.cell 4
    have z4 := HRm.out.body.blk.frozen 4
    have f0 := HRm.out.body.cell 0
    simp only [List.getElem?_toArray, List.getElem?_cons_zero, List.getElem?_cons_succ] at f0 f4
    go_wp2_with fail
    rw [← HEW2.out]
    clear HEW2 HRm HTm f0 f4 z4
    go_end0
    rw [HRR.out]
    refine ⟨rfl, HT1.out, ?_⟩
    have e1 := HN1.out
    subst e1
    exact HR1.out
set_option maxHeartbeats 1000000 in
set_option maxRecDepth 100000 in
theorem readMap_any (b c : Nat) (s : ByteArray) (k : Nat) (br : Bool) (fin ha la hm ld hsum : Bool) (ack sum : Nat) (w : World) (hs : s.size ≤ 9223372036854775807) (h : Rb w b c s k br (⟨fin, ha, la, ack, hm, ld, 0, 0, 0, hsum, sum⟩ : Ds)) :
    Calls Try.prog 30 #[ptr b] w (Got w b c s (pos3 s k br (wA hm ld) (w4 hm) (w2 hm)) (br3 s k br (wA hm ld) (w4 hm) (w2 hm)) (⟨fin, ha, la, ack, hm, ld, (numO s k br (wA hm ld)), (num2 s k br (wA hm ld) (w4 hm)), ((num3 s k br (wA hm ld) (w4 hm) (w2 hm) : Nat) : Int), hsum, sum⟩ : Ds)) := by
  have HS := Lib.hid hs
  have H := Lib.hid h
  cases hm
  · rw [show wA false ld = 0 from rfl, show w4 false = 0 from rfl, show w2 false = 0 from rfl]
    unfold pos3 br3 num3 num2 pos2 br2
    simp only [posO_0 s k br h.at_, brO_0 s k br h.at_, numO_0]
    clear hs h
    have c5 := H.out.body.cell 5
    simp only [List.getElem?_toArray, List.getElem?_cons_zero, List.getElem?_cons_succ] at c5
    go_enter Try.func30, Try.ntmps30
    go_wp2_with fail
    go_end0; exact ⟨rfl, .refl _ _ _, H.out⟩
  · obtain ⟨R, hR⟩ : ∃ R, R = Got w b c s (pos3 s k br (wA true ld) (w4 true) (w2 true)) (br3 s k br (wA true ld) (w4 true) (w2 true)) (⟨fin, ha, la, ack, true, ld, (numO s k br (wA true ld)), (num2 s k br (wA true ld) (w4 true)), ((num3 s k br (wA true ld) (w4 true) (w2 true) : Nat) : Int), hsum, sum⟩ : Ds) := ⟨_, rfl⟩
    rw [← hR]
    have HRR := Lib.hid hR
    clear hs h hR
    have c5 := H.out.body.cell 5
    simp only [List.getElem?_toArray, List.getElem?_cons_zero, List.getElem?_cons_succ] at c5
    go_enter Try.func30, Try.ntmps30
    go_upto_region 2 with fail
    have B0 : Below w.heap.size w w.drew := (Below.refl _ w).drew
    refine held_start (fun W => Below w.heap.size w W) (by kernel_rfl) (n := 12) rfl ?_
    obtain ⟨W0, hW0⟩ : ∃ W0, W0 = w.drew := ⟨_, rfl⟩
    rw [← hW0] at B0 ⊢
    clear hW0
    refine held_free 0 (ptr b) rfl (by kernel_rfl) (by kernel_rfl) (by kernel_rfl) (by kernel_rfl) B0 (fun _ _ => by kernel_rfl) ?_
    refine held_free 1 (ptr b) rfl (by kernel_rfl) (by kernel_rfl) (by kernel_rfl) (by kernel_rfl) B0 (fun _ _ => by kernel_rfl) ?_
    refine held_free 2 (ptr b) rfl (by kernel_rfl) (by kernel_rfl) (by kernel_rfl) (by kernel_rfl) B0 (fun _ _ => ex_field (v := ptr b) 53 (.tmp 12) 0 (by kernel_rfl) (by kernel_rfl) (by kernel_rfl)) ?_
    refine held_free 3 (ptr c) rfl (by kernel_rfl) (by kernel_rfl) (by kernel_rfl) (by kernel_rfl) B0 (fun W q => ex_load 51 (.tmp 13) (by kernel_rfl) ⟨b, 0, none⟩ (by kernel_rfl) (by kernel_rfl) ((H.out.below q).body.cell 0)) ?_
    refine held_free 4 (r32 c) rfl (by kernel_rfl) (by kernel_rfl) (by kernel_rfl) (by kernel_rfl) B0 (fun _ _ => by kernel_rfl) ?_
    refine held_free 5 (ptr b) rfl (by kernel_rfl) (by kernel_rfl) (by kernel_rfl) (by kernel_rfl) B0 (fun _ _ => by kernel_rfl) ?_
    refine held_free 6 (ptr b) rfl (by kernel_rfl) (by kernel_rfl) (by kernel_rfl) (by kernel_rfl) B0 (fun _ _ => by kernel_rfl) ?_
    refine held_free 7 (ptr b) rfl (by kernel_rfl) (by kernel_rfl) (by kernel_rfl) (by kernel_rfl) B0 (fun _ _ => ex_field (v := ptr b) 53 (.tmp 17) 0 (by kernel_rfl) (by kernel_rfl) (by kernel_rfl)) ?_
    refine held_free 8 (ptr c) rfl (by kernel_rfl) (by kernel_rfl) (by kernel_rfl) (by kernel_rfl) B0 (fun W q => ex_load 51 (.tmp 18) (by kernel_rfl) ⟨b, 0, none⟩ (by kernel_rfl) (by kernel_rfl) ((H.out.below q).body.cell 0)) ?_
    refine held_free 9 (r64 c) rfl (by kernel_rfl) (by kernel_rfl) (by kernel_rfl) (by kernel_rfl) B0 (fun _ _ => by kernel_rfl) ?_
    refine held_call 10 rfl (by kernel_rfl) (by kernel_rfl) (by kernel_rfl) (reader_any c W0) (fun w' h => B0.trans (h.2.mono B0.size)) ?_
    rintro Wr ⟨hq, hb⟩
    have Br := B0.trans (hb.mono B0.size)
    clear hb B0
    refine held_free 11 (rclo W0.heap.size) rfl (by kernel_rfl) (by kernel_rfl) (by kernel_rfl) (by kernel_rfl) Br (fun _ _ => by kernel_rfl) ?_
    refine held_end (by kernel_rfl) ?_
    have HQ := Lib.hid hq
    have HRr := Lib.hid (H.out.below Br)
    have HTr := Lib.hid (show Two w Wr b c from Two.of_below Br)
    clear hq Br
    have c6 := HRr.out.body.cell 6
    simp only [List.getElem?_toArray, List.getElem?_cons_zero, List.getElem?_cons_succ] at c6
    clear c5
    go_wp2_with fail
    refine (rclo_any ld W0.heap.size c s k br Wr HS.out HRr.out.at_ HRr.out.cur HQ.out).mono ?_
    rintro e W1 ⟨rfl, hm1⟩
    obtain ⟨n, hn1⟩ : ∃ n, n = numO s k br (wA true ld) := ⟨_, rfl⟩
    rw [← hn1]
    have HRm := Lib.hid (HRr.out.moved hm1)
    have HTm := Lib.hid (HTr.out.trans (Two.right hm1.1))
    have HN1 := Lib.hid hn1
    clear hm1 hn1 c6 HRr HTr HQ H
    obtain ⟨W2, hW2⟩ : ∃ w', w' = W1.setCell ⟨b, 7, none⟩ (.int .u64 (n : Int)) := ⟨_, rfl⟩
    have HR1 := Lib.hid (show Rb W2 b c s _ _ _ by rw [hW2]; exact HRm.out.turned (only_set 7 _) (HRm.out.body.setDsn n))
    have HT1 := Lib.hid (show Two w W2 b c by rw [hW2]; exact HTm.out.trans (Two.left (only_set 7 _)))
    have HEW2 := Lib.hid hW2
    clear hW2
    have f7 := HRm.out.body.cell 7
    have z7 := HRm.out.body.blk.frozen 7
    have f0 := HRm.out.body.cell 0
    simp only [List.getElem?_toArray, List.getElem?_cons_zero, List.getElem?_cons_succ] at f0 f7
    go_wp2_with fail
    rw [← HEW2.out]
    clear HEW2 HRm HTm f0 f7 z7
    obtain ⟨k1, hk1⟩ : ∃ k1, k1 = posO s k br (wA true ld : Nat) := ⟨_, rfl⟩
    obtain ⟨b1, hb1⟩ : ∃ b1, b1 = brO s k br (wA true ld : Nat) := ⟨_, rfl⟩
    rw [← hk1, ← hb1] at HR1
    have HK1 := Lib.hid hk1
    have HB1 := Lib.hid hb1
    clear hk1 hb1
    refine (U32_any c s k1 b1 W2 HS.out HR1.out.at_ HR1.out.cur).mono ?_
    rintro e W3 ⟨rfl, hm3⟩
    obtain ⟨n2, hn2⟩ : ∃ n2, n2 = numO s k1 b1 4 := ⟨_, rfl⟩
    rw [← hn2]
    have HR3 := Lib.hid (HR1.out.moved hm3)
    have HT3 := Lib.hid (HT1.out.trans (Two.right hm3.1))
    have HN2 := Lib.hid hn2
    clear hm3 hn2
    obtain ⟨W4, hW4⟩ : ∃ w', w' = W3.setCell ⟨b, 8, none⟩ (.int .u32 (n2 : Int)) := ⟨_, rfl⟩
    have HR4 := Lib.hid (show Rb W4 b c s _ _ _ by rw [hW4]; exact HR3.out.turned (only_set 8 _) (HR3.out.body.setSsn n2))
    have HT4 := Lib.hid (show Two w W4 b c by rw [hW4]; exact HT3.out.trans (Two.left (only_set 8 _)))
    have HEW4 := Lib.hid hW4
    clear hW4
    have f8 := HR3.out.body.cell 8
    have z8 := HR3.out.body.blk.frozen 8
    have f0 := HR3.out.body.cell 0
    simp only [List.getElem?_toArray, List.getElem?_cons_zero, List.getElem?_cons_succ] at f0 f8
    go_wp2_with fail
    rw [← HEW4.out]
    clear HEW4 HR3 HT3 f0 f8 z8
    obtain ⟨k2, hk2⟩ : ∃ k2, k2 = posO s k1 b1 ((4 : Nat) : Int) := ⟨_, rfl⟩
    obtain ⟨b2, hb2⟩ : ∃ b2, b2 = brO s k1 b1 ((4 : Nat) : Int) := ⟨_, rfl⟩
    rw [← hk2, ← hb2] at HR4
    have HK2 := Lib.hid hk2
    have HB2 := Lib.hid hb2
    clear hk2 hb2
    refine (U16_any c s k2 b2 W4 HS.out HR4.out.at_ HR4.out.cur).mono ?_
    rintro e W5 ⟨rfl, hm5⟩
    have hn8 := numO_le_2 s k2 b2
    obtain ⟨n3, hn3⟩ : ∃ n3, n3 = numO s k2 b2 2 := ⟨_, rfl⟩
    rw [← hn3] at hn8 ⊢
    have HR5 := Lib.hid (HR4.out.moved hm5)
    have HT5 := Lib.hid (HT4.out.trans (Two.right hm5.1))
    have HN3 := Lib.hid hn3
    clear hm5 hn3
    obtain ⟨W6, hW6⟩ : ∃ w', w' = W5.setCell ⟨b, 9, none⟩ (.int .i64 (n3 : Int)) := ⟨_, rfl⟩
    have HR6 := Lib.hid (show Rb W6 b c s _ _ _ by rw [hW6]; exact HR5.out.turned (only_set 9 _) (HR5.out.body.setLen (n3 : Int)))
    have HT6 := Lib.hid (show Two w W6 b c by rw [hW6]; exact HT5.out.trans (Two.left (only_set 9 _)))
    have HEW6 := Lib.hid hW6
    clear hW6
    have f9 := HR5.out.body.cell 9
    have z9 := HR5.out.body.blk.frozen 9
    have f0 := HR5.out.body.cell 0
    simp only [List.getElem?_toArray, List.getElem?_cons_zero, List.getElem?_cons_succ] at f0 f9
    go_wp2_with fail
    rw [← HEW6.out]
    clear HEW6 HR5 HT5 f0 f9 z9
    go_end0
    rw [HRR.out]
    refine ⟨rfl, HT6.out, ?_⟩
    have e1 := HN1.out
    have e2 := HN2.out
    have e3 := HN3.out
    have e4 := HK1.out
    have e5 := HB1.out
    have e6 := HK2.out
    have e7 := HB2.out
    subst e1 e2 e3 e6 e7 e4 e5
    exact HR6.out
set_option maxHeartbeats 1000000 in
set_option maxRecDepth 100000 in
theorem readSum_no (b c : Nat) (s : ByteArray) (k : Nat) (fin ha la  ld : Bool) (ack dsn ssn : Nat) (len : Int) (w : World) (hs : s.size ≤ 9223372036854775807) (br : Bool) (h : Rb w b c s k br (⟨fin, ha, la, ack, false, ld, dsn, ssn, len, false, 0⟩ : Ds)) :
    Calls Try.prog 31 #[ptr b] w (Got w b c s k br (⟨fin, ha, la, ack, false, ld, dsn, ssn, len, false, 0⟩ : Ds)) := by
  have HS := Lib.hid hs
  have H := Lib.hid h
  clear hs h
  have c5 := H.out.body.cell 5
  simp only [List.getElem?_toArray, List.getElem?_cons_zero, List.getElem?_cons_succ] at c5
  go_enter Try.func31, Try.ntmps31
  go_wp2_with fail
  go_end0; exact ⟨rfl, .refl _ _ _, H.out⟩
set_option maxHeartbeats 1000000 in
set_option maxRecDepth 100000 in
theorem readSum_f (b c : Nat) (s : ByteArray) (k : Nat) (fin ha la  ld : Bool) (ack dsn ssn : Nat) (len : Int) (w : World) (hs : s.size ≤ 9223372036854775807) (br : Bool) (hl : leftO s k br ≠ 2) (h : Rb w b c s k br (⟨fin, ha, la, ack, true, ld, dsn, ssn, len, false, 0⟩ : Ds)) :
    Calls Try.prog 31 #[ptr b] w (Got w b c s k br (⟨fin, ha, la, ack, true, ld, dsn, ssn, len, false, 0⟩ : Ds)) := by
  have HS := Lib.hid hs
  have H := Lib.hid h
  have hl' : (leftO s k br == 2) = false := by rw [beq_eq_false_iff_ne]; exact hl
  clear hs h hl
  have c0 := H.out.body.cell 0
  have c5 := H.out.body.cell 5
  simp only [List.getElem?_toArray, List.getElem?_cons_zero, List.getElem?_cons_succ] at c0 c5
  go_enter Try.func31, Try.ntmps31
  go_wp2_with fail
  refine (LeftC_any c s k br w HS.out H.out.at_ H.out.cur).mono ?_
  rintro e W ⟨rfl, n, rfl⟩
  have HR1 := Lib.hid (H.out.drewN n)
  have HT1 := Lib.hid (show Two w (w.drewN n) b c from Two.left (drawn_only w n (some b)))
  obtain ⟨W1, hW1⟩ : ∃ W1, W1 = w.drewN n := ⟨_, rfl⟩
  rw [← hW1] at HR1 HT1 ⊢
  clear hW1 c0 c5 H
  go_wp2_with fail
  go_end0; exact ⟨rfl, HT1.out, HR1.out⟩
set_option maxHeartbeats 1000000 in
set_option maxRecDepth 100000 in
theorem readSum_t (b c : Nat) (s : ByteArray) (k : Nat) (fin ha la  ld : Bool) (ack dsn ssn : Nat) (len : Int) (w : World) (hs : s.size ≤ 9223372036854775807) (hl : k + 2 = s.size) (h : Rb w b c s k false (⟨fin, ha, la, ack, true, ld, dsn, ssn, len, false, 0⟩ : Ds)) :
    Calls Try.prog 31 #[ptr b] w (Got w b c s (k + 2) false (⟨fin, ha, la, ack, true, ld, dsn, ssn, len, true, (num s k 2)⟩ : Ds)) := by
  have HS := Lib.hid hs
  have H := Lib.hid h
  have hl' : leftO s k false = 2 := by simp [leftO]; omega
  have HL := Lib.hid hl
  clear hs h hl
  have c0 := H.out.body.cell 0
  have c5 := H.out.body.cell 5
  simp only [List.getElem?_toArray, List.getElem?_cons_zero, List.getElem?_cons_succ] at c0 c5
  go_enter Try.func31, Try.ntmps31
  go_wp2_with fail
  refine (LeftC_any c s k false w HS.out H.out.at_ H.out.cur).mono ?_
  rintro e W ⟨rfl, n, rfl⟩
  have HR1 := Lib.hid (H.out.drewN n)
  have HT1 := Lib.hid (show Two w (w.drewN n) b c from Two.left (drawn_only w n (some b)))
  obtain ⟨W1, hW1⟩ : ∃ W1, W1 = w.drewN n := ⟨_, rfl⟩
  rw [← hW1] at HR1 HT1 ⊢
  clear hW1 c0 c5 H
  rw [hl']
  clear hl'
  obtain ⟨W2, hW2⟩ : ∃ w', w' = W1.setCell ⟨b, 10, none⟩ (.bool true) := ⟨_, rfl⟩
  have HR2 := Lib.hid (show Rb W2 b c s _ _ _ by rw [hW2]; exact HR1.out.turned (only_set 10 _) (HR1.out.body.setHas true))
  have HT2 := Lib.hid (show Two w W2 b c by rw [hW2]; exact HT1.out.trans (Two.left (only_set 10 _)))
  have HE2 := Lib.hid hW2
  clear hW2
  have z10 := HR1.out.body.blk.frozen 10
  have f0 := HR1.out.body.cell 0
  have f10 := HR1.out.body.cell 10
  simp only [List.getElem?_toArray, List.getElem?_cons_zero, List.getElem?_cons_succ] at f0 f10
  go_wp2_with fail
  rw [← HE2.out]
  clear HE2 HR1 HT1 f0 f10 z10
  refine (U16_any c s k false W2 HS.out HR2.out.at_ HR2.out.cur).mono ?_
  rintro e W3 ⟨rfl, hm⟩
  have hf : fits s k false ((2 : Nat) : Int) = true := by have := HL.out; unfold fits; simp; omega
  have hr := HR2.out.moved hm
  have HT3 := Lib.hid (HT2.out.trans (Two.right hm.1))
  rw [posO_t hf, brO_t hf, show ((2 : Nat) : Int).toNat = 2 from rfl] at hr
  rw [numO_t hf]
  have HR3 := Lib.hid hr
  obtain ⟨n3, hn3⟩ : ∃ n3, n3 = num s k 2 := ⟨_, rfl⟩
  rw [← hn3]
  have HN3 := Lib.hid hn3
  clear hm hr hf hn3 HR2 HT2
  obtain ⟨W4, hW4⟩ : ∃ w', w' = W3.setCell ⟨b, 11, none⟩ (.int .u16 (n3 : Int)) := ⟨_, rfl⟩
  have HR4 := Lib.hid (show Rb W4 b c s _ _ _ by rw [hW4]; exact HR3.out.turned (only_set 11 _) (HR3.out.body.setSum n3))
  have HT4 := Lib.hid (show Two w W4 b c by rw [hW4]; exact HT3.out.trans (Two.left (only_set 11 _)))
  have HEW4 := Lib.hid hW4
  clear hW4
  have f11 := HR3.out.body.cell 11
  have z11 := HR3.out.body.blk.frozen 11
  simp only [List.getElem?_toArray, List.getElem?_cons_zero, List.getElem?_cons_succ] at f11
  go_wp2_with fail
  rw [← HEW4.out]
  clear HEW4 HR3 HT3 f11 z11
  go_end0; exact ⟨rfl, HT4.out, by have e := HN3.out; subst e; exact HR4.out⟩
end Go.Proofs.Ytdhkjhkgjfcolaa
