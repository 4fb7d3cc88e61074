/-
  What DecodeAdd and DecodeRemove of package addr answer, each by its walk.
-/
import Derived.Test.YtcofdiamlmlhfaaAddrTake
import Derived.Test.YtcofdiamlmlhfaaCurMore
namespace Go.Proofs.Ytcofdiamlmlhfaa
open Go.ChangeShapes Go.WideShapes Go.ChangeAt Go.RowKit
set_option linter.unusedVariables false

/-- What 'DecodeAdd' answers; 'DecodeRemove'. -/
def decV (s : ByteArray) : Value := .tuple #[.agg (adv (decA s).1), .int .i64 (decA s).2]
def decRV (s : ByteArray) : Value := .tuple #[.agg (rmv (decR s).1), .int .i64 (decR s).2]
theorem decV_eq (s : ByteArray) (x : Ad) (e : Int) (h : decA s = (x, e)) : decV s = .tuple #[.agg (adv x), .int .i64 e] := by unfold decV; rw [h]
theorem decRV_eq (s : ByteArray) (x : ByteArray) (e : Int) (h : decR s = (x, e)) : decRV s = .tuple #[.agg (rmv x), .int .i64 e] := by unfold decRV; rw [h]
theorem results_row_tmp {P : Program} {fn : Func} {p t : Tmp} {ty : TypeId} (h : fn.results = #[.cell p ty, .tmp t]) (tmps : Array Value) (w : World) (g : Nat) (t' : TypeId) (cs : Array Value) (fr : Nat × Nat) (d : TypeDesc)
    (hp : tmps.getD p undef = .pointer (some ⟨g, 0, none⟩)) (hg : w.heap[g]? = some (.cells cs t' fr))
    (hu : P.underlying ty = some d) (hd : (match d with | .struct _ | .array _ _ => true | _ => false) = true) (hi : (P.info? ty).map (·.size) = some cs.size) :
    (results fn tmps).run P w = .ok (.tuple #[.agg cs, tmps.getD t undef]) w := by
  have hp' : tmps[p]?.getD undef = .pointer (some ⟨g, 0, none⟩) := by simpa using hp
  simp [results, h, hp', asAddr, run_loadVar_row w g t' ty cs fr d hg hu hd hi]
theorem below_setRow {B : Nat} {w W : World} {g : Nat} (h : Below B w W) (hg : B ≤ g) (cs : Array Value) : Below B w (W.setRow g cs) :=
  h.trans ⟨rfl, rfl, rfl, by simp, fun k hk => setRow_other W g k cs fun e => by omega⟩
theorem dec_end (s : ByteArray) (w W : World) (r : Nat) (x : Ad) (z : Int) {a : Act} (ht : a.tmps.getD 2 undef = .pointer (some ⟨r, 0, none⟩)) (hz : a.tmps.getD 3 undef = .int .i64 z) (hd : a.defers = []) (cs : Array Value) (hc : cs = adv x) (old : Array Value) (hr : Blk W r 23 old) (hb : Below w.heap.size w W) (hwr : w.heap.size ≤ r) (hq : decA s = (x, z)) :
    bodyPost Try.prog Try.f15 (fun e w' => e = .returned (decV s) ∧ Below w.heap.size w w') .ret a (W.setRow r cs) := by
  subst hc
  have h := results_row_tmp (fn := Try.f15) rfl a.tmps (W.setRow r (adv x)) r 23 (adv x) (0, 0) _ ht (setRow_heap _ _ _ _ _ _ hr) Try.underlying23 rfl ad_size
  rw [hz] at h
  exact bodyPost_ret h hd ⟨by rw [decV_eq s x z hq], below_setRow hb hwr _⟩
theorem decR_end (s : ByteArray) (w W : World) (r : Nat) (x : ByteArray) (z : Int) {a : Act} (ht : a.tmps.getD 2 undef = .pointer (some ⟨r, 0, none⟩)) (hz : a.tmps.getD 3 undef = .int .i64 z) (hd : a.defers = []) (cs : Array Value) (hc : cs = rmv x) (old : Array Value) (hr : Blk W r 29 old) (hb : Below w.heap.size w W) (hwr : w.heap.size ≤ r) (hq : decR s = (x, z)) :
    bodyPost Try.prog Try.f17 (fun e w' => e = .returned (decRV s) ∧ Below w.heap.size w w') .ret a (W.setRow r cs) := by
  subst hc
  have h := results_row_tmp (fn := Try.f17) rfl a.tmps (W.setRow r (rmv x)) r 29 (rmv x) (0, 0) _ ht (setRow_heap _ _ _ _ _ _ hr) Try.underlying29 rfl rm_size
  rw [hz] at h
  exact bodyPost_ret h hd ⟨by rw [decRV_eq s x z hq], below_setRow hb hwr _⟩
/-- The table's sizes, and the shape that a text has by them. -/
theorem sizes_shape (n : Nat) (e : Bool) : (∃ k h, shape n e = some (k, h) ∧ sizes n = ((k, portOf h, macOf e), true)) ∨ (shape n e = none ∧ (sizes n).2 = false) ∨ (shape n e = none ∧ (sizes n).2 = true ∧ (sizes n).1.2.2 ≠ macOf e) := by
  by_cases h6 : n = 6
  · subst h6; cases e
    · exact .inr (.inr ⟨rfl, rfl, by decide⟩)
    · exact .inl ⟨4, false, rfl, rfl⟩
  by_cases h8 : n = 8
  · subst h8; cases e
    · exact .inr (.inr ⟨rfl, rfl, by decide⟩)
    · exact .inl ⟨4, true, rfl, rfl⟩
  by_cases h14 : n = 14
  · subst h14; cases e
    · exact .inl ⟨4, false, rfl, rfl⟩
    · exact .inr (.inr ⟨rfl, rfl, by decide⟩)
  by_cases h16 : n = 16
  · subst h16; cases e
    · exact .inl ⟨4, true, rfl, rfl⟩
    · exact .inr (.inr ⟨rfl, rfl, by decide⟩)
  by_cases h18 : n = 18
  · subst h18; cases e
    · exact .inr (.inr ⟨rfl, rfl, by decide⟩)
    · exact .inl ⟨16, false, rfl, rfl⟩
  by_cases h20 : n = 20
  · subst h20; cases e
    · exact .inr (.inr ⟨rfl, rfl, by decide⟩)
    · exact .inl ⟨16, true, rfl, rfl⟩
  by_cases h26 : n = 26
  · subst h26; cases e
    · exact .inl ⟨16, false, rfl, rfl⟩
    · exact .inr (.inr ⟨rfl, rfl, by decide⟩)
  by_cases h28 : n = 28
  · subst h28; cases e
    · exact .inl ⟨16, true, rfl, rfl⟩
    · exact .inr (.inr ⟨rfl, rfl, by decide⟩)
  refine .inr (.inl ⟨?_, ?_⟩)
  · have m0 : macOf e = 0 ∨ macOf e = 8 := by cases e <;> decide
    unfold shape; rw [if_neg (by omega), if_neg (by omega), if_neg (by omega), if_neg (by omega)]
  · unfold sizes; simp only [h6, h8, h14, h16, h18, h20, h26, h28, if_false]
theorem byte_odd : ∀ n : _root_.Fin 256, (bits .and .u8 (n.val : Int) 1 != 0) = odd n.val := by decide +kernel
/-- A look-up, what it answers given. -/
theorem wpl_lookup {P : Program} {w : World} {ops : Array Oper} {rest : List Oper} {o : Oper} {a : Act} {Q : Exit → Act → World → Prop} (hg : o.guard = none) (t : TypeId) (m x : Operand) (hop : o.op = Op.lookup t m x true) {M K v : Value} (hm : a.eval m = M) (hx : a.eval x = K)
    (hrun : (Instr.lookup t M K true).run P w = .ok v w) (h : wpList P ops Q rest (a.put o.dst v) w) : wpList P ops Q (o :: rest) a w := by
  refine wpList_plain hg fun L hL => ?_
  have he : (execOp a.eval o).run P w = .ok (.value v) w := by
    unfold execOp
    rw [hop]
    simp [hm, hx, hrun]
  unfold Oper.wp
  rw [he]
  exact hL _ _ h
/-- Where DecodeAdd stands: the answer's variable r, the sizes in d, what is to come in g, the option so far in X. -/
structure Fl (w W : World) (r d g X : Nat) (k p m : Nat) (T : ByteArray) (cs : Array Value) : Prop where
  z : Blk W r 23 (adv .zero)
  pd : Blk W d 61 #[.int .i64 (k : Int), .int .i64 (p : Int), .int .i64 (m : Int)]
  box : Blk W g 9 #[.string T]
  x : Blk W X 23 cs
  b : Below w.heap.size w W
  le : w.heap.size ≤ r ∧ w.heap.size ≤ g ∧ w.heap.size ≤ X
  ne : r ≠ g ∧ r ≠ X ∧ d ≠ g ∧ d ≠ X ∧ g ≠ X
namespace Fl
variable {w W W' : World} {r d g X k p m : Nat} {T T' : ByteArray} {cs : Array Value}
theorem below (h : Fl w W r d g X k p m T cs) (q : Below W.heap.size W W') : Fl w W' r d g X k p m T cs := ⟨h.z.below q h.z.lt, h.pd.below q h.pd.lt, h.box.below q h.box.lt, h.x.below q h.x.lt, h.b.trans (q.mono h.b.size), h.le, h.ne⟩
theorem take (h : Fl w W r d g X k p m T cs) (q : W.grownBy W' (some g)) (hT : Blk W' g 9 #[.string T']) : Fl w W' r d g X k p m T' cs :=
  ⟨h.z.grown q (by have := h.ne.1; simpa using this), h.pd.grown q (by have := h.ne.2.2.1; simpa using this), hT, h.x.grown q (by have := h.ne.2.2.2.2; simpa using this.symm), h.b.trans (below_of_only q h.le.2.1 h.b.size), h.le, h.ne⟩
theorem set (h : Fl w W r d g X k p m T cs) (i : Nat) (v : Value) : Fl w (W.setCell ⟨X, i, none⟩ v) r d g X k p m T (cs.setIfInBounds i v) :=
  ⟨h.z.same (Below.heap_setCell W ⟨X, i, none⟩ v r h.ne.2.1), h.pd.same (Below.heap_setCell W ⟨X, i, none⟩ v d h.ne.2.2.2.1), h.box.same (Below.heap_setCell W ⟨X, i, none⟩ v g h.ne.2.2.2.2), h.x.set_ i v, h.b.setCell h.le.2.2 _, h.le, h.ne⟩
end Fl
/-- A cursor's number, from the beginning of a text of one's own. -/
theorem u16_part (l : List UInt8) (k : Nat) (h : Bool) (hl : k + portOf h ≤ l.length) : numO (txt ((l.drop k).take (portOf h))) 0 false 2 = num (txt l) k (portOf h) := by
  cases h
  · rw [numO_f (by rfl)]; rfl
  · have hl : k + 2 ≤ l.length := hl
    have hz : (txt ((l.drop k).take 2)).size = 2 := by rw [txt_size, List.length_take, List.length_drop]; omega
    show numO (txt ((l.drop k).take 2)) 0 false 2 = num (txt l) k 2
    rw [numO_t (by unfold fits; rw [hz]; rfl)]
    apply num_congr
    intro j hj
    rw [txt_list, txt_list, List.getD_eq_getElem?_getD, List.getD_eq_getElem?_getD, List.getElem?_take_of_lt (by omega), List.getElem?_drop, Nat.zero_add]
theorem txt_front (l : List UInt8) (n : Nat) : (txt l).extract 0 n = txt (l.take n) := by
  apply ByteArray.ext
  apply Array.toList_inj.1
  rw [ByteArray.data_extract, Array.toList_extract, List.extract_eq_take_drop]
  rfl
theorem txt_back (l : List UInt8) (n : Nat) : (txt l).extract n (txt l).size = txt (l.drop n) := by
  apply ByteArray.ext
  apply Array.toList_inj.1
  rw [ByteArray.data_extract, Array.toList_extract, List.extract_eq_take_drop, txt_size, txt_list]
  rw [List.take_of_length_le (by rw [List.length_drop]; omega)]
  rfl
theorem take_txt (g n : Nat) (l : List UInt8) (A B : ByteArray) (hl : l.length ≤ 100) (hn : n ≤ l.length) (hA : A = txt (l.take n)) (hB : B = txt (l.drop n)) (w : World) (h : Blk w g 9 #[.string (txt l)]) :
    Calls Try.prog 42 #[.int .i64 (n : Int), .pointer (some ⟨g, 0, none⟩)] w fun e w' => e = .returned (.string A) ∧ w.grownBy w' (some g) ∧ Blk w' g 9 #[.string B] :=
  take_any g n (txt l) A B (by rw [txt_size]; omega) (by rw [txt_size]; exact hn) (by rw [hA]; exact txt_front l n) (by rw [hB]; exact txt_back l n) w h
theorem u8_one (v : UInt8) : numO (txt [v]) 0 false 1 = v.toNat := by rw [numO_t (by rfl), num_1]; rfl

set_option maxHeartbeats 1000000 in
set_option maxRecDepth 100000 in
theorem dec_bad (s : ByteArray) (hs : s.size ≤ 9223372036854775807) (z : Int) (hz : z = 4 ∨ z = 7) (hk : chk s 3 = z) (hd : decA s = (.zero, z)) (w : World) :
    Calls Try.prog 15 #[.string s] w fun e w' => e = .returned (decV s) ∧ Below w.heap.size w w' := by
  have HS := Lib.hid hs
  have HK := Lib.hid hk
  have HD := Lib.hid hd
  have e0 : (z != 0) = true := by rw [bne_iff_ne]; omega
  clear hk hd hz
  obtain ⟨r, hr⟩ : ∃ r, r = w.heap.size := ⟨_, rfl⟩
  obtain ⟨w0, hw0⟩ : ∃ w0, w0 = w.alloc (.cells (adv Ad.zero) 23) := ⟨_, rfl⟩
  have HZ := Lib.hid (show Blk w0 r 23 (adv Ad.zero) by rw [hw0, hr]; exact Blk.new _ _ _)
  have HB0 := Lib.hid (show Below w.heap.size w w0 by rw [hw0]; exact (Below.refl _ w).alloc (Nat.le_refl _) _)
  have HR := Lib.hid (show w.heap.size ≤ r by omega)
  have HR2 := Lib.hid hr
  have HW0 := Lib.hid hw0
  clear hr hw0
  go_enter Try.func15, Try.ntmps15
  go_wp2_with fail
  rw [← HR2.out]
  refine (checkFirst_any s 3 (by decide) _ HS.out).mono ?_
  rintro e U1 ⟨rfl, b⟩
  rw [HK.out]
  have HZ1 := Lib.hid (show Blk U1 r 23 (adv Ad.zero) by have q := HZ.out.below (B := w0.heap.size) (w' := U1) (by rw [HW0.out]; exact b) HZ.out.lt; exact q)
  have HB1 := Lib.hid (show Below w.heap.size w U1 by have q := HB0.out; rw [HW0.out] at q; exact q.trans (b.mono q.size))
  clear b HZ HB0 HW0
  go_wp2_with (refine wpList_store_row rfl 23 _ _ rfl r (adv Ad.zero) rfl rfl 23 (adv Ad.zero) ?_ ad_size rfl (ad_one _) ?_; exact HZ1.out)
  exact dec_end s w U1 r Ad.zero z rfl rfl rfl _ rfl _ HZ1.out HB1.out HR.out HD.out
set_option maxHeartbeats 1000000 in
set_option maxRecDepth 100000 in
theorem dec_unknown (s : ByteArray) (hs : s.size ≤ 9223372036854775807) (hk : chk s 3 = 0) (h0 : 0 < s.size) (E : Bool) (hE : odd (byteAt s 0) = E) (k p m : Nat) (hsz : sizes s.size = ((k, p, m), false)) (hd : decA s = (.zero, 5)) (w : World) :
    Calls Try.prog 15 #[.string s] w fun e w' => e = .returned (decV s) ∧ Below w.heap.size w w' := by
  have HS := Lib.hid hs
  have HK := Lib.hid hk
  have HD := Lib.hid hd
  have HSZ := Lib.hid hsz
  have l0 : (0 : Int) < (s.size : Int) := by omega
  have e0 : (bits .and .u8 (s[0].toNat : Int) 1 != 0) = E := by rw [← hE, byteAt_get s 0 h0]; exact byte_odd ⟨s[0].toNat, s[0].toNat_lt⟩
  clear hk hd hsz hE
  obtain ⟨r, hr⟩ : ∃ r, r = w.heap.size := ⟨_, rfl⟩
  obtain ⟨w0, hw0⟩ : ∃ w0, w0 = w.alloc (.cells (adv Ad.zero) 23) := ⟨_, rfl⟩
  have HZ := Lib.hid (show Blk w0 r 23 (adv Ad.zero) by rw [hw0, hr]; exact Blk.new _ _ _)
  have HB0 := Lib.hid (show Below w.heap.size w w0 by rw [hw0]; exact (Below.refl _ w).alloc (Nat.le_refl _) _)
  have HR := Lib.hid (show w.heap.size ≤ r by omega)
  have HR2 := Lib.hid hr
  have HW0 := Lib.hid hw0
  clear hr hw0
  go_enter Try.func15, Try.ntmps15
  go_wp2_with fail
  rw [← HR2.out]
  refine (checkFirst_any s 3 (by decide) _ HS.out).mono ?_
  rintro e U1 ⟨rfl, b⟩
  rw [HK.out]
  have HZ1 := Lib.hid (show Blk U1 r 23 (adv Ad.zero) by have q := HZ.out.below (B := w0.heap.size) (w' := U1) (by rw [HW0.out]; exact b) HZ.out.lt; exact q)
  have HB1 := Lib.hid (show Below w.heap.size w U1 by have q := HB0.out; rw [HW0.out] at q; exact q.trans (b.mono q.size))
  clear b HZ HB0 HW0
  go_wp2_with fail
  refine (partsBySize_any _).mono ?_
  rintro e U2 ⟨rfl, htab, b⟩
  have HZ2 := Lib.hid (HZ1.out.below b HZ1.out.lt)
  have HB2 := Lib.hid (HB1.out.trans (b.mono HB1.out.size))
  have hlook := TabB.look htab s.size HS.out
  rw [HSZ.out] at hlook
  obtain ⟨W3, hW3⟩ : ∃ W3, W3 = U2.alloc (.cells #[.int .i64 (k : Int), .int .i64 (p : Int), .int .i64 (m : Int)] 61) := ⟨_, rfl⟩
  obtain ⟨d, hd⟩ : ∃ d, d = U2.heap.size := ⟨_, rfl⟩
  have HP3 := Lib.hid (show Blk W3 d 61 #[.int .i64 (k : Int), .int .i64 (p : Int), .int .i64 (m : Int)] by rw [hW3, hd]; exact Blk.new _ _ _)
  have HZ3 := Lib.hid (show Blk W3 r 23 (adv Ad.zero) by rw [hW3]; exact HZ2.out.alloc _)
  have HB3 := Lib.hid (show Below w.heap.size w W3 by rw [hW3]; exact HB2.out.alloc HB2.out.size _)
  have HW3 := Lib.hid hW3
  have HDD := Lib.hid hd
  clear b htab HZ1 HB1 HZ2 HB2 hW3 hd
  have HLOOK := Lib.hid hlook
  clear hlook
  go_upto_region 6 with (at_lookup; refine wpl_lookup rfl _ _ _ rfl rfl rfl HLOOK.out ?_)
  rw [← HW3.out, ← HDD.out]
  have B0 : Below W3.heap.size W3 W3.drew := (Below.refl _ W3).drew
  refine held_start (fun W => Below W3.heap.size W3 W) (by kernel_rfl) (n := 9) rfl ?_
  obtain ⟨W0, hW0⟩ : ∃ W0, W0 = W3.drew := ⟨_, rfl⟩
  rw [← hW0] at B0 ⊢
  clear hW0
  refine held_free 0 (.bool false) rfl (by kernel_rfl) (by kernel_rfl) (by kernel_rfl) (by kernel_rfl) B0 (fun _ _ => by kernel_rfl) ?_
  refine held_free 1 (.bool true) rfl (by kernel_rfl) (by kernel_rfl) (by kernel_rfl) (by kernel_rfl) B0 (fun _ _ => by kernel_rfl) ?_
  refine held_free 2 (.bool true) rfl (by kernel_rfl) (by kernel_rfl) (by kernel_rfl) (by kernel_rfl) B0 (fun _ _ => by kernel_rfl) ?_
  refine held_pass 3 rfl (by kernel_rfl) (by kernel_rfl) (by kernel_rfl) (by kernel_rfl) B0 ?_
  refine held_pass 4 rfl (by kernel_rfl) (by kernel_rfl) (by kernel_rfl) (by kernel_rfl) B0 ?_
  refine held_pass 5 rfl (by kernel_rfl) (by kernel_rfl) (by kernel_rfl) (by kernel_rfl) B0 ?_
  refine held_pass 6 rfl (by kernel_rfl) (by kernel_rfl) (by kernel_rfl) (by kernel_rfl) B0 ?_
  refine held_pass 7 rfl (by kernel_rfl) (by kernel_rfl) (by kernel_rfl) (by kernel_rfl) B0 ?_
  refine held_free 8 (.bool true) rfl (by kernel_rfl) (by kernel_rfl) (by kernel_rfl) (by kernel_rfl) B0 (fun _ _ => by kernel_rfl) ?_
  refine held_end_at ⟨#[.string s, undef, .pointer (some ⟨r, 0, none⟩), .int .i64 0, .int .i64 0, .bool E, .pointer (some ⟨d, 0, none⟩), .bool false, undef, undef, .string s, .int .i64 0, .int .i64 0, .bool false, undef, undef, .string s, .int .u8 (s[0].toNat : Int), .int .u8 (bits .and .u8 (s[0].toNat : Int) 1), .bool E, .tuple #[part (k : Int) (p : Int) (m : Int), .bool false], .map (some U1.heap.size), .string s, .int .i64 (s.size : Int), .tuple #[part (k : Int) (p : Int) (m : Int), .bool false], part (k : Int) (p : Int) (m : Int), .bool false, .bool false, .bool true, .bool true, undef, undef, undef, undef, undef, .bool true, undef, undef, undef, undef, undef, undef, undef, undef, undef, undef, undef, undef, undef, undef, undef, undef, undef, undef, undef, undef, undef, undef, undef, undef, undef, undef, undef, undef, undef, undef, undef, undef, undef, undef], []⟩ (by kernel_rfl) (by kernel_rfl) ?_
  have HZ4 := Lib.hid (HZ3.out.below B0 HZ3.out.lt)
  have HB4 := Lib.hid (HB3.out.trans (B0.mono HB3.out.size))
  clear B0
  go_wp2_with (refine wpList_store_row rfl 23 _ _ rfl r (adv Ad.zero) rfl rfl 23 (adv Ad.zero) ?_ ad_size rfl (ad_one _) ?_; exact HZ4.out)
  exact dec_end s w W0 r Ad.zero 5 (by kernel_rfl) (by kernel_rfl) (by kernel_rfl) _ rfl _ HZ4.out HB4.out HR.out HD.out
set_option maxHeartbeats 1000000 in
set_option maxRecDepth 100000 in
theorem dec_mac (s : ByteArray) (hs : s.size ≤ 9223372036854775807) (hk : chk s 3 = 0) (h0 : 0 < s.size) (E : Bool) (hE : odd (byteAt s 0) = E) (k p m : Nat) (hsz : sizes s.size = ((k, p, m), true)) (hm : m ≠ macOf E) (hd : decA s = (.zero, 5)) (w : World) :
    Calls Try.prog 15 #[.string s] w fun e w' => e = .returned (decV s) ∧ Below w.heap.size w w' := by
  have HS := Lib.hid hs
  have HK := Lib.hid hk
  have HD := Lib.hid hd
  have HSZ := Lib.hid hsz
  have HM := Lib.hid (show (m : Int) ≠ (macOf E : Int) by omega)
  clear hm
  have l0 : (0 : Int) < (s.size : Int) := by omega
  have e0 : (bits .and .u8 (s[0].toNat : Int) 1 != 0) = E := by rw [← hE, byteAt_get s 0 h0]; exact byte_odd ⟨s[0].toNat, s[0].toNat_lt⟩
  clear hk hd hsz hE
  obtain ⟨r, hr⟩ : ∃ r, r = w.heap.size := ⟨_, rfl⟩
  obtain ⟨w0, hw0⟩ : ∃ w0, w0 = w.alloc (.cells (adv Ad.zero) 23) := ⟨_, rfl⟩
  have HZ := Lib.hid (show Blk w0 r 23 (adv Ad.zero) by rw [hw0, hr]; exact Blk.new _ _ _)
  have HB0 := Lib.hid (show Below w.heap.size w w0 by rw [hw0]; exact (Below.refl _ w).alloc (Nat.le_refl _) _)
  have HR := Lib.hid (show w.heap.size ≤ r by omega)
  have HR2 := Lib.hid hr
  have HW0 := Lib.hid hw0
  clear hr hw0
  go_enter Try.func15, Try.ntmps15
  go_wp2_with fail
  rw [← HR2.out]
  refine (checkFirst_any s 3 (by decide) _ HS.out).mono ?_
  rintro e U1 ⟨rfl, b⟩
  rw [HK.out]
  have HZ1 := Lib.hid (show Blk U1 r 23 (adv Ad.zero) by have q := HZ.out.below (B := w0.heap.size) (w' := U1) (by rw [HW0.out]; exact b) HZ.out.lt; exact q)
  have HB1 := Lib.hid (show Below w.heap.size w U1 by have q := HB0.out; rw [HW0.out] at q; exact q.trans (b.mono q.size))
  clear b HZ HB0 HW0
  go_wp2_with fail
  refine (partsBySize_any _).mono ?_
  rintro e U2 ⟨rfl, htab, b⟩
  have HZ2 := Lib.hid (HZ1.out.below b HZ1.out.lt)
  have HB2 := Lib.hid (HB1.out.trans (b.mono HB1.out.size))
  have hlook := TabB.look htab s.size HS.out
  rw [HSZ.out] at hlook
  obtain ⟨W3, hW3⟩ : ∃ W3, W3 = U2.alloc (.cells #[.int .i64 (k : Int), .int .i64 (p : Int), .int .i64 (m : Int)] 61) := ⟨_, rfl⟩
  obtain ⟨d, hd⟩ : ∃ d, d = U2.heap.size := ⟨_, rfl⟩
  have HP3 := Lib.hid (show Blk W3 d 61 #[.int .i64 (k : Int), .int .i64 (p : Int), .int .i64 (m : Int)] by rw [hW3, hd]; exact Blk.new _ _ _)
  have HZ3 := Lib.hid (show Blk W3 r 23 (adv Ad.zero) by rw [hW3]; exact HZ2.out.alloc _)
  have HB3 := Lib.hid (show Below w.heap.size w W3 by rw [hW3]; exact HB2.out.alloc HB2.out.size _)
  have HW3 := Lib.hid hW3
  have HDD := Lib.hid hd
  clear b htab HZ1 HB1 HZ2 HB2 hW3 hd
  have HLOOK := Lib.hid hlook
  clear hlook
  go_upto_region 6 with (at_lookup; refine wpl_lookup rfl _ _ _ rfl rfl rfl HLOOK.out ?_)
  rw [← HW3.out, ← HDD.out]
  have B0 : Below W3.heap.size W3 W3.drew := (Below.refl _ W3).drew
  refine held_start (fun W => Below W3.heap.size W3 W) (by kernel_rfl) (n := 9) rfl ?_
  obtain ⟨W0, hW0⟩ : ∃ W0, W0 = W3.drew := ⟨_, rfl⟩
  rw [← hW0] at B0 ⊢
  clear hW0
  refine held_free 0 (.bool true) rfl (by kernel_rfl) (by kernel_rfl) (by kernel_rfl) (by kernel_rfl) B0 (fun _ _ => by kernel_rfl) ?_
  refine held_free 1 (.bool false) rfl (by kernel_rfl) (by kernel_rfl) (by kernel_rfl) (by kernel_rfl) B0 (fun _ _ => by kernel_rfl) ?_
  refine held_free 2 (.bool false) rfl (by kernel_rfl) (by kernel_rfl) (by kernel_rfl) (by kernel_rfl) B0 (fun _ _ => by kernel_rfl) ?_
  refine held_free 3 (.pointer (some ⟨d, 2, none⟩)) rfl (by kernel_rfl) (by kernel_rfl) (by kernel_rfl) (by kernel_rfl) B0 (fun _ _ => ex_field (v := .pointer (some ⟨d, 0, none⟩)) 61 (.tmp 6) 2 (by kernel_rfl) (by kernel_rfl) (by kernel_rfl)) ?_
  refine held_free 4 (.int .i64 (m : Int)) rfl (by kernel_rfl) (by kernel_rfl) (by kernel_rfl) (by kernel_rfl) B0 (fun W b => ex_load 3 (.tmp 30) (by kernel_rfl) ⟨d, 2, none⟩ (by kernel_rfl) (by kernel_rfl) ((HP3.out.below b HP3.out.lt).cell 2)) ?_
  refine held_free 5 (.bool E) rfl (by kernel_rfl) (by kernel_rfl) (by kernel_rfl) (by kernel_rfl) B0 (fun _ _ => by kernel_rfl) ?_
  refine held_call 6 rfl (by kernel_rfl) (by kernel_rfl) (by kernel_rfl) (macSizeOf_any E _) (fun w' h => bel_in B0 h) ?_
  intro W1 hW1
  have B1 := bel_in B0 hW1
  clear hW1 B0
  refine held_free 7 (.bool true) rfl (by kernel_rfl) (by kernel_rfl) (by kernel_rfl) (by kernel_rfl) B1 (fun _ _ => ex_intne .i64 3 3 (.tmp 31) (.tmp 33) (by kernel_rfl) ((m : Int)) ((macOf E : Int)) (by kernel_rfl) (by kernel_rfl) (by kernel_rfl) HM.out) ?_
  refine held_free 8 (.bool true) rfl (by kernel_rfl) (by kernel_rfl) (by kernel_rfl) (by kernel_rfl) B1 (fun _ _ => by kernel_rfl) ?_
  refine held_end_at ⟨#[.string s, undef, .pointer (some ⟨r, 0, none⟩), .int .i64 0, .int .i64 0, .bool E, .pointer (some ⟨d, 0, none⟩), .bool true, undef, undef, .string s, .int .i64 0, .int .i64 0, .bool false, undef, undef, .string s, .int .u8 (s[0].toNat : Int), .int .u8 (bits .and .u8 (s[0].toNat : Int) 1), .bool E, .tuple #[part (k : Int) (p : Int) (m : Int), .bool true], .map (some U1.heap.size), .string s, .int .i64 (s.size : Int), .tuple #[part (k : Int) (p : Int) (m : Int), .bool true], part (k : Int) (p : Int) (m : Int), .bool true, .bool true, .bool false, .bool false, .pointer (some ⟨d, 2, none⟩), .int .i64 (m : Int), .bool E, .int .i64 (macOf E : Int), .bool true, .bool true, undef, undef, undef, undef, undef, undef, undef, undef, undef, undef, undef, undef, undef, undef, undef, undef, undef, undef, undef, undef, undef, undef, undef, undef, undef, undef, undef, undef, undef, undef, undef, undef, undef, undef], []⟩ (by kernel_rfl) (by kernel_rfl) ?_
  have HZ4 := Lib.hid (HZ3.out.below B1 HZ3.out.lt)
  have HB4 := Lib.hid (HB3.out.trans (B1.mono HB3.out.size))
  clear B1
  go_wp2_with (refine wpList_store_row rfl 23 _ _ rfl r (adv Ad.zero) rfl rfl 23 (adv Ad.zero) ?_ ad_size rfl (ad_one _) ?_; exact HZ4.out)
  exact dec_end s w W1 r Ad.zero 5 (by kernel_rfl) (by kernel_rfl) (by kernel_rfl) _ rfl _ HZ4.out HB4.out HR.out HD.out
set_option maxHeartbeats 1000000 in
set_option maxRecDepth 100000 in
theorem dec_good (s : ByteArray) (v : UInt8) (l : List UInt8) (hs : s.size ≤ 9223372036854775807) (hs1 : s.extract 1 s.size = txt (v :: l)) (hk : chk s 3 = 0) (h0 : 1 ≤ s.size) (E : Bool) (hE : odd (byteAt s 0) = E) (k p m : Nat) (h : Bool) (hp : p = portOf h) (hm : m = macOf E) (hsz : sizes s.size = ((k, p, m), true)) (hl : l.length = k + p + m) (hd : decA s = (gotA E v.toNat l k h, 0)) (w : World) :
    Calls Try.prog 15 #[.string s] w fun e w' => e = .returned (decV s) ∧ Below w.heap.size w w' := by
  have HS := Lib.hid hs
  have HK := Lib.hid hk
  have HD := Lib.hid hd
  have HSZ := Lib.hid hsz
  have HS1 := Lib.hid hs1
  have HLL := Lib.hid hl
  have HPP := Lib.hid hp
  have HM := Lib.hid (show (m : Int) = (macOf E : Int) by omega)
  have HL28 := Lib.hid (show l.length ≤ 28 by
    have := HSZ.out
    rcases sizes_shape s.size E with ⟨k', h', q1, q2⟩ | ⟨_, q⟩ | ⟨_, _, q⟩
    · obtain ⟨q3, q4⟩ := shape_cases _ _ _ _ q1
      rw [this] at q2
      simp only [Prod.mk.injEq, and_true] at q2
      have : portOf h' ≤ 2 := by cases h' <;> decide
      have : macOf E ≤ 8 := by cases E <;> decide
      omega
    · rw [this] at q; cases q
    · rw [this] at q; exact absurd hm q)
  have l0 : (0 : Int) < (s.size : Int) := by omega
  have l1 : (1 : Int) ≤ (s.size : Int) := by omega
  have EP := Lib.hid (show decide (0 < p) = h by rw [hp]; cases h <;> rfl)
  have e0 : (bits .and .u8 (s[0].toNat : Int) 1 != 0) = E := by rw [← hE, byteAt_get s 0 h0]; exact byte_odd ⟨s[0].toNat, s[0].toNat_lt⟩
  clear hk hd hsz hE hl hp hm hs1
  obtain ⟨r, hr⟩ : ∃ r, r = w.heap.size := ⟨_, rfl⟩
  obtain ⟨w0, hw0⟩ : ∃ w0, w0 = w.alloc (.cells (adv Ad.zero) 23) := ⟨_, rfl⟩
  have HZ := Lib.hid (show Blk w0 r 23 (adv Ad.zero) by rw [hw0, hr]; exact Blk.new _ _ _)
  have HB0 := Lib.hid (show Below w.heap.size w w0 by rw [hw0]; exact (Below.refl _ w).alloc (Nat.le_refl _) _)
  have HR := Lib.hid (show w.heap.size ≤ r by omega)
  have HR2 := Lib.hid hr
  have HW0 := Lib.hid hw0
  clear hr hw0
  go_enter Try.func15, Try.ntmps15
  go_wp2_with fail
  rw [← HR2.out]
  refine (checkFirst_any s 3 (by decide) _ HS.out).mono ?_
  rintro e U1 ⟨rfl, b⟩
  rw [HK.out]
  have HZ1 := Lib.hid (show Blk U1 r 23 (adv Ad.zero) by have q := HZ.out.below (B := w0.heap.size) (w' := U1) (by rw [HW0.out]; exact b) HZ.out.lt; exact q)
  have HB1 := Lib.hid (show Below w.heap.size w U1 by have q := HB0.out; rw [HW0.out] at q; exact q.trans (b.mono q.size))
  clear b HZ HB0 HW0
  go_wp2_with fail
  refine (partsBySize_any _).mono ?_
  rintro e U2 ⟨rfl, htab, b⟩
  have HZ2 := Lib.hid (HZ1.out.below b HZ1.out.lt)
  have HB2 := Lib.hid (HB1.out.trans (b.mono HB1.out.size))
  have hlook := TabB.look htab s.size HS.out
  rw [HSZ.out] at hlook
  obtain ⟨W3, hW3⟩ : ∃ W3, W3 = U2.alloc (.cells #[.int .i64 (k : Int), .int .i64 (p : Int), .int .i64 (m : Int)] 61) := ⟨_, rfl⟩
  obtain ⟨d, hd⟩ : ∃ d, d = U2.heap.size := ⟨_, rfl⟩
  have HP3 := Lib.hid (show Blk W3 d 61 #[.int .i64 (k : Int), .int .i64 (p : Int), .int .i64 (m : Int)] by rw [hW3, hd]; exact Blk.new _ _ _)
  have HZ3 := Lib.hid (show Blk W3 r 23 (adv Ad.zero) by rw [hW3]; exact HZ2.out.alloc _)
  have HB3 := Lib.hid (show Below w.heap.size w W3 by rw [hW3]; exact HB2.out.alloc HB2.out.size _)
  have HW3 := Lib.hid hW3
  have HDD := Lib.hid hd
  clear b htab HZ1 HB1 HZ2 HB2 hW3 hd
  have HLOOK := Lib.hid hlook
  clear hlook
  go_upto_region 6 with (at_lookup; refine wpl_lookup rfl _ _ _ rfl rfl rfl HLOOK.out ?_)
  rw [← HW3.out, ← HDD.out]
  have B0 : Below W3.heap.size W3 W3.drew := (Below.refl _ W3).drew
  refine held_start (fun W => Below W3.heap.size W3 W) (by kernel_rfl) (n := 9) rfl ?_
  obtain ⟨W0, hW0⟩ : ∃ W0, W0 = W3.drew := ⟨_, rfl⟩
  rw [← hW0] at B0 ⊢
  clear hW0
  refine held_free 0 (.bool true) rfl (by kernel_rfl) (by kernel_rfl) (by kernel_rfl) (by kernel_rfl) B0 (fun _ _ => by kernel_rfl) ?_
  refine held_free 1 (.bool false) rfl (by kernel_rfl) (by kernel_rfl) (by kernel_rfl) (by kernel_rfl) B0 (fun _ _ => by kernel_rfl) ?_
  refine held_free 2 (.bool false) rfl (by kernel_rfl) (by kernel_rfl) (by kernel_rfl) (by kernel_rfl) B0 (fun _ _ => by kernel_rfl) ?_
  refine held_free 3 (.pointer (some ⟨d, 2, none⟩)) rfl (by kernel_rfl) (by kernel_rfl) (by kernel_rfl) (by kernel_rfl) B0 (fun _ _ => ex_field (v := .pointer (some ⟨d, 0, none⟩)) 61 (.tmp 6) 2 (by kernel_rfl) (by kernel_rfl) (by kernel_rfl)) ?_
  refine held_free 4 (.int .i64 (m : Int)) rfl (by kernel_rfl) (by kernel_rfl) (by kernel_rfl) (by kernel_rfl) B0 (fun W b => ex_load 3 (.tmp 30) (by kernel_rfl) ⟨d, 2, none⟩ (by kernel_rfl) (by kernel_rfl) ((HP3.out.below b HP3.out.lt).cell 2)) ?_
  refine held_free 5 (.bool E) rfl (by kernel_rfl) (by kernel_rfl) (by kernel_rfl) (by kernel_rfl) B0 (fun _ _ => by kernel_rfl) ?_
  refine held_call 6 rfl (by kernel_rfl) (by kernel_rfl) (by kernel_rfl) (macSizeOf_any E _) (fun w' h => bel_in B0 h) ?_
  intro W1 hW1
  have B1 := bel_in B0 hW1
  clear hW1 B0
  refine held_free 7 (.bool false) rfl (by kernel_rfl) (by kernel_rfl) (by kernel_rfl) (by kernel_rfl) B1 (fun _ _ => ex_intneq .i64 3 3 (.tmp 31) (.tmp 33) (by kernel_rfl) ((m : Int)) ((macOf E : Int)) (by kernel_rfl) (by kernel_rfl) (by kernel_rfl) HM.out) ?_
  refine held_free 8 (.bool false) rfl (by kernel_rfl) (by kernel_rfl) (by kernel_rfl) (by kernel_rfl) B1 (fun _ _ => by kernel_rfl) ?_
  refine held_end_at ⟨#[.string s, undef, .pointer (some ⟨r, 0, none⟩), .int .i64 0, .int .i64 0, .bool E, .pointer (some ⟨d, 0, none⟩), .bool true, undef, undef, .string s, .int .i64 0, .int .i64 0, .bool false, undef, undef, .string s, .int .u8 (s[0].toNat : Int), .int .u8 (bits .and .u8 (s[0].toNat : Int) 1), .bool E, .tuple #[part (k : Int) (p : Int) (m : Int), .bool true], .map (some U1.heap.size), .string s, .int .i64 (s.size : Int), .tuple #[part (k : Int) (p : Int) (m : Int), .bool true], part (k : Int) (p : Int) (m : Int), .bool true, .bool true, .bool false, .bool false, .pointer (some ⟨d, 2, none⟩), .int .i64 (m : Int), .bool E, .int .i64 (macOf E : Int), .bool false, .bool false, undef, undef, undef, undef, undef, undef, undef, undef, undef, undef, undef, undef, undef, undef, undef, undef, undef, undef, undef, undef, undef, undef, undef, undef, undef, undef, undef, undef, undef, undef, undef, undef, undef, undef], []⟩ (by kernel_rfl) (by kernel_rfl) ?_
  have HZ4 := Lib.hid (HZ3.out.below B1 HZ3.out.lt)
  have HP4 := Lib.hid (HP3.out.below B1 HP3.out.lt)
  have HB4 := Lib.hid (HB3.out.trans (B1.mono HB3.out.size))
  clear B1 HZ3 HP3 HB3 HLOOK e0
  go_wp2_with fail
  rw [HS1.out]
  refine (taker_any (txt (v :: l)) _).mono ?_
  rintro e U4 ⟨rfl, hg, b⟩
  obtain ⟨g, hgg⟩ : ∃ g, g = W1.heap.size := ⟨_, rfl⟩
  rw [← hgg] at hg ⊢
  obtain ⟨X, hX⟩ : ∃ X, X = U4.heap.size := ⟨_, rfl⟩
  obtain ⟨U5, hU5⟩ : ∃ U, U = U4.alloc (.cells #[.bool E, .int .i64 0, .string ⟨#[]⟩, .bool h, .int .i64 0, .string ⟨#[]⟩] 23) := ⟨_, rfl⟩
  have HF5 := Lib.hid (show Fl w U5 r d g X k p m (txt (v :: l)) #[.bool E, .int .i64 0, .string ⟨#[]⟩, .bool h, .int .i64 0, .string ⟨#[]⟩] by
    have q1 := HZ4.out.lt
    have q2 := HP4.out.lt
    have q3 := hg.lt
    have q4 := HR.out
    have q5 := HB4.out.size
    have q6 := b.size
    rw [hU5, hX]
    exact ⟨(HZ4.out.below b q1).alloc _, (HP4.out.below b q2).alloc _, hg.alloc _, Blk.new _ _ _, (HB4.out.trans (b.mono q5)).alloc (by omega) _, ⟨by omega, by omega, by omega⟩, ⟨by omega, by omega, by omega, by omega, by omega⟩⟩)
  have HP5 := Lib.hid (HP4.out.below b HP4.out.lt)
  have HU5 := Lib.hid hU5
  have HX := Lib.hid hX
  have c1 := HP5.out.cell 1
  simp only [List.getElem?_toArray, List.getElem?_cons_zero, List.getElem?_cons_succ] at c1
  clear hU5 hX b hg hgg HZ4 HP4 HB4
  go_wp2_with fail
  rw [EP.out, ← HU5.out, ← HX.out]
  clear c1 HU5 HX EP HP5
  refine (take_txt g 1 (v :: l) (txt [v]) (txt l) (by have := HL28.out; simp only [List.length_cons]; omega) (by simp) rfl rfl U5 HF5.out.box).mono ?_
  rintro e U6 ⟨rfl, q, hb⟩
  have HF6 := Lib.hid (HF5.out.take q hb)
  clear q hb
  go_wp2_with fail
  refine (Read_new (txt [v]) U6).mono ?_
  rintro e U7 ⟨c, rfl, hc, b, hcur⟩
  have HB7 := Lib.hid b
  clear b
  go_wp2_with fail
  refine (answer (U8_any c (txt [v]) 0 false U7 (by rw [txt_size]; simp only [List.length_cons, List.length_nil]; omega) (Nat.zero_le _) hcur) (congrArg (fun z : Nat => Value.int .u8 (z : Int)) (u8_one v))).mono ?_
  rintro e U8 ⟨rfl, mv⟩
  have HF8 := Lib.hid (HF6.out.below (below_move HB7.out mv hc (Nat.le_refl _)))
  clear hc hcur mv HB7
  obtain ⟨N8, hN8⟩ : ∃ n : Nat, n = v.toNat := ⟨_, rfl⟩
  have l8 : N8 < 256 := by rw [hN8]; exact v.toNat_lt
  rw [← hN8]
  have HN8 := Lib.hid hN8
  clear hN8
  have fz := HF8.out.x.frozen 1
  have xc := HF8.out.x.cell 1
  simp only [List.getElem?_toArray, List.getElem?_cons_zero, List.getElem?_cons_succ] at xc
  obtain ⟨U9, hU9⟩ : ∃ U, U = U8.setCell ⟨X, 1, none⟩ (.int .i64 (N8 : Int)) := ⟨_, rfl⟩
  have HF9 := Lib.hid (show Fl w U9 r d g X k p m (txt l) #[.bool E, .int .i64 (N8 : Int), .string ⟨#[]⟩, .bool h, .int .i64 0, .string ⟨#[]⟩] by rw [hU9]; exact HF8.out.set 1 (.int .i64 (N8 : Int)))
  have HU9 := Lib.hid hU9
  clear hU9
  have v0 := HF9.out.pd.cell 0
  simp only [List.getElem?_toArray, List.getElem?_cons_zero] at v0
  rw [HU9.out] at v0
  go_wp2_with fail
  rw [← HU9.out]
  clear v0 fz xc HU9
  obtain ⟨TI, hTI⟩ : ∃ T, T = txt (l.take k) := ⟨_, rfl⟩
  refine (take_txt g k l TI (txt (l.drop k)) (by have := HL28.out; omega) (by have := HLL.out; omega) hTI rfl U9 HF9.out.box).mono ?_
  rintro e U10 ⟨rfl, q, hb⟩
  have HF10 := Lib.hid (HF9.out.take q hb)
  have HTI := Lib.hid hTI
  clear q hb hTI
  have fz := HF10.out.x.frozen 2
  have xc := HF10.out.x.cell 2
  simp only [List.getElem?_toArray, List.getElem?_cons_zero, List.getElem?_cons_succ] at xc
  obtain ⟨U11, hU11⟩ : ∃ U, U = U10.setCell ⟨X, 2, none⟩ (.string TI) := ⟨_, rfl⟩
  have HF11 := Lib.hid (show Fl w U11 r d g X k p m (txt (l.drop k)) #[.bool E, .int .i64 (N8 : Int), .string TI, .bool h, .int .i64 0, .string ⟨#[]⟩] by rw [hU11]; exact HF10.out.set 2 (.string TI))
  have HU11 := Lib.hid hU11
  clear hU11
  have v0 := HF11.out.pd.cell 1
  simp only [List.getElem?_toArray, List.getElem?_cons_zero, List.getElem?_cons_succ] at v0
  rw [HU11.out] at v0
  go_wp2_with fail
  rw [← HU11.out]
  clear v0 fz xc HU11
  obtain ⟨TP, hTP⟩ : ∃ T, T = txt ((l.drop k).take p) := ⟨_, rfl⟩
  refine (take_txt g p (l.drop k) TP (txt ((l.drop k).drop p)) (by have := HL28.out; rw [List.length_drop]; omega) (by have := HLL.out; rw [List.length_drop]; omega) hTP rfl U11 HF11.out.box).mono ?_
  rintro e U12 ⟨rfl, q, hb⟩
  have HF12 := Lib.hid (HF11.out.take q hb)
  have HTP := Lib.hid hTP
  clear q hb hTP
  obtain ⟨N16, hN16⟩ : ∃ n : Nat, n = numO TP 0 false 2 := ⟨_, rfl⟩
  have l16 : N16 ≤ 65535 := by rw [hN16]; exact numO_le_2 _ _ _
  have HN0 := Lib.hid hN16
  have HN := Lib.hid (show (N16 : Int) = (num (txt l) k (portOf h) : Int) by rw [hN16, HTP.out, HPP.out, u16_part l k h (by have := HLL.out; have := HPP.out; omega)])
  have HTPS := Lib.hid (show TP.size ≤ 28 by rw [HTP.out, txt_size, List.length_take, List.length_drop]; have := HL28.out; omega)
  clear hN16
  go_wp2_with fail
  refine (Read_new TP U12).mono ?_
  rintro e U13 ⟨c, rfl, hc, b, hcur⟩
  have HB13 := Lib.hid b
  clear b
  go_wp2_with fail
  refine (answer (U16_any c TP 0 false U13 (by have := HTPS.out; omega) (Nat.zero_le _) hcur) (congrArg (fun z : Nat => Value.int .u16 (z : Int)) (show numO TP 0 false 2 = N16 from HN0.out.symm))).mono ?_
  rintro e U14 ⟨rfl, mv⟩
  have HF14 := Lib.hid (HF12.out.below (below_move HB13.out mv hc (Nat.le_refl _)))
  clear hc hcur mv HB13
  have fz := HF14.out.x.frozen 4
  have xc := HF14.out.x.cell 4
  simp only [List.getElem?_toArray, List.getElem?_cons_zero, List.getElem?_cons_succ] at xc
  obtain ⟨U15, hU15⟩ : ∃ U, U = U14.setCell ⟨X, 4, none⟩ (.int .i64 (N16 : Int)) := ⟨_, rfl⟩
  have HF15 := Lib.hid (show Fl w U15 r d g X k p m (txt ((l.drop k).drop p)) #[.bool E, .int .i64 (N8 : Int), .string TI, .bool h, .int .i64 (N16 : Int), .string ⟨#[]⟩] by rw [hU15]; exact HF14.out.set 4 (.int .i64 (N16 : Int)))
  have HU15 := Lib.hid hU15
  clear hU15
  have v0 := HF15.out.pd.cell 2
  simp only [List.getElem?_toArray, List.getElem?_cons_zero, List.getElem?_cons_succ] at v0
  rw [HU15.out] at v0
  go_wp2_with fail
  rw [← HU15.out]
  clear v0 fz xc HU15
  obtain ⟨TM, hTM⟩ : ∃ T, T = txt (((l.drop k).drop p).take m) := ⟨_, rfl⟩
  refine (take_txt g m ((l.drop k).drop p) TM (txt (((l.drop k).drop p).drop m)) (by have := HL28.out; rw [List.length_drop, List.length_drop]; omega) (by have := HLL.out; rw [List.length_drop, List.length_drop]; omega) hTM rfl U15 HF15.out.box).mono ?_
  rintro e U16 ⟨rfl, q, hb⟩
  have HF16 := Lib.hid (HF15.out.take q hb)
  have HTM := Lib.hid hTM
  clear q hb hTM
  have fz := HF16.out.x.frozen 5
  have xc := HF16.out.x.cell 5
  simp only [List.getElem?_toArray, List.getElem?_cons_zero, List.getElem?_cons_succ] at xc
  obtain ⟨U17, hU17⟩ : ∃ U, U = U16.setCell ⟨X, 5, none⟩ (.string TM) := ⟨_, rfl⟩
  have HF17 := Lib.hid (show Fl w U17 r d g X k p m (txt (((l.drop k).drop p).drop m)) #[.bool E, .int .i64 (N8 : Int), .string TI, .bool h, .int .i64 (N16 : Int), .string TM] by rw [hU17]; exact HF16.out.set 5 (.string TM))
  have HU17 := Lib.hid hU17
  clear hU17
  have eM : TM = txt (l.drop (k + portOf h)) := by rw [HTM.out, List.drop_drop, ← HPP.out, List.take_of_length_le (by have := HLL.out; rw [List.length_drop]; omega)]
  have HEQ := Lib.hid (show #[.bool E, .int .i64 (N8 : Int), .string TI, .bool h, .int .i64 (N16 : Int), .string TM] = adv (gotA E v.toNat l k h) by
    show _ = (#[.bool E, .int .i64 ((v.toNat : Nat) : Int), .string (txt (l.take k)), .bool h, .int .i64 (num (txt l) k (portOf h) : Int), .string (txt (l.drop (k + portOf h)))] : Array Value)
    rw [eM, HN8.out, HTI.out, HN.out])
  clear eM
  have HXX := HF17.out.x
  have HZZ := HF17.out.z
  rw [HU17.out] at HXX HZZ
  have HX2 := Lib.hid HXX
  have HZ2 := Lib.hid HZZ
  clear HXX HZZ
  go_wp2_with (first
    | (refine wpList_load_row rfl 23 _ rfl X rfl 23 #[.bool E, .int .i64 (N8 : Int), .string TI, .bool h, .int .i64 (N16 : Int), .string TM] (0, 0) _ ?_ Try.underlying23 rfl ad_size ?_; exact HX2.out)
    | (refine wpList_store_row rfl 23 _ _ rfl r #[.bool E, .int .i64 (N8 : Int), .string TI, .bool h, .int .i64 (N16 : Int), .string TM] rfl rfl 23 (adv Ad.zero) ?_ ad_size rfl (by simp [Value.oneCell']) ?_; exact HZ2.out))
  rw [← HU17.out]
  exact dec_end s w U17 r (gotA E v.toNat l k h) 0 (by kernel_rfl) (by kernel_rfl) (by kernel_rfl) _ HEQ.out _ HF17.out.z HF17.out.b HR.out HD.out
theorem chk_cases (s : ByteArray) (k : Nat) : (s.size = 0 ∧ chk s k = 4) ∨ (s.size ≠ 0 ∧ byteAt s 0 / 16 ≠ k ∧ chk s k = 7) ∨ (s.size ≠ 0 ∧ byteAt s 0 / 16 = k ∧ chk s k = 0) := by
  by_cases h0 : s.size = 0
  · exact .inl ⟨h0, by unfold chk; rw [if_pos h0]⟩
  by_cases h : byteAt s 0 / 16 = k
  · exact .inr (.inr ⟨h0, h, by unfold chk; rw [if_neg h0, if_pos h]⟩)
  · exact .inr (.inl ⟨h0, h, by unfold chk; rw [if_neg h0, if_neg h]⟩)
theorem DecodeAdd_any (s : ByteArray) (hs : s.size ≤ 9223372036854775807) (w : World) :
    Calls Try.prog 15 #[.string s] w fun e w' => e = .returned (decV s) ∧ Below w.heap.size w w' := by
  rcases chk_cases s 3 with ⟨h0, hk⟩ | ⟨h0, h1, hk⟩ | ⟨h0, h1, hk⟩
  · exact dec_bad s hs 4 (.inl rfl) hk (decA_short s h0) w
  · exact dec_bad s hs 7 (.inr rfl) hk (decA_kind s h0 h1) w
  rcases sizes_shape s.size (odd (byteAt s 0)) with ⟨k, h, q1, q2⟩ | ⟨q1, q2⟩ | ⟨q1, q2, q3⟩
  · obtain ⟨q3, q4⟩ := shape_cases _ _ _ _ q1
    obtain ⟨u, v, l, rfl, hl⟩ := two_of s (by omega)
    exact dec_good _ v l hs (txt_back (u :: v :: l) 1) hk (by omega) _ rfl k (portOf h) (macOf (odd (byteAt (txt (u :: v :: l)) 0))) h rfl rfl q2 (by omega) (decA_some _ k h h0 h1 q1) w
  · obtain ⟨⟨⟨k, p, m⟩, b⟩, hb⟩ : ∃ x, x = sizes s.size := ⟨_, rfl⟩
    rw [← hb] at q2
    have q2 : b = false := q2
    subst q2
    exact dec_unknown s hs hk (by omega) _ rfl k p m hb.symm (decA_form s h0 h1 q1) w
  · obtain ⟨⟨⟨k, p, m⟩, b⟩, hb⟩ : ∃ x, x = sizes s.size := ⟨_, rfl⟩
    rw [← hb] at q2 q3
    have q2 : b = true := q2
    subst q2
    exact dec_mac s hs hk (by omega) _ rfl k p m hb.symm q3 (decA_form s h0 h1 q1) w
set_option maxHeartbeats 1000000 in
set_option maxRecDepth 100000 in
theorem decR_bad (s : ByteArray) (hs : s.size ≤ 9223372036854775807) (z : Int) (hz : z = 4 ∨ z = 7) (hk : chk s 4 = z) (hd : decR s = (⟨#[]⟩, z)) (w : World) :
    Calls Try.prog 17 #[.string s] w fun e w' => e = .returned (decRV s) ∧ Below w.heap.size w w' := by
  have HS := Lib.hid hs
  have HK := Lib.hid hk
  have HD := Lib.hid hd
  have e0 : (z != 0) = true := by rw [bne_iff_ne]; omega
  clear hk hd hz
  obtain ⟨r, hr⟩ : ∃ r, r = w.heap.size := ⟨_, rfl⟩
  obtain ⟨w0, hw0⟩ : ∃ w0, w0 = w.alloc (.cells (rmv ⟨#[]⟩) 29) := ⟨_, rfl⟩
  have HZ := Lib.hid (show Blk w0 r 29 (rmv ⟨#[]⟩) by rw [hw0, hr]; exact Blk.new _ _ _)
  have HB0 := Lib.hid (show Below w.heap.size w w0 by rw [hw0]; exact (Below.refl _ w).alloc (Nat.le_refl _) _)
  have HR := Lib.hid (show w.heap.size ≤ r by omega)
  have HR2 := Lib.hid hr
  have HW0 := Lib.hid hw0
  clear hr hw0
  go_enter Try.func17, Try.ntmps17
  go_wp2_with fail
  rw [← HR2.out]
  refine (checkFirst_any s 4 (by decide) _ HS.out).mono ?_
  rintro e U1 ⟨rfl, b⟩
  rw [HK.out]
  have HZ1 := Lib.hid (show Blk U1 r 29 (rmv ⟨#[]⟩) by have q := HZ.out.below (B := w0.heap.size) (w' := U1) (by rw [HW0.out]; exact b) HZ.out.lt; exact q)
  have HB1 := Lib.hid (show Below w.heap.size w U1 by have q := HB0.out; rw [HW0.out] at q; exact q.trans (b.mono q.size))
  clear b HZ HB0 HW0
  go_wp2_with (refine wpList_store_row rfl 29 _ _ rfl r (rmv ⟨#[]⟩) rfl rfl 29 (rmv ⟨#[]⟩) ?_ rm_size rfl (rm_one _) ?_; exact HZ1.out)
  exact decR_end s w U1 r ⟨#[]⟩ z rfl rfl rfl _ rfl _ HZ1.out HB1.out HR.out HD.out
set_option maxHeartbeats 1000000 in
set_option maxRecDepth 100000 in
theorem decR_good (s T : ByteArray) (hs : s.size ≤ 9223372036854775807) (h0 : 1 ≤ s.size) (hT : s.extract 1 s.size = T) (hTs : T.size ≤ 9223372036854775807) (hk : chk s 4 = 0) (hv : decide (1 ≤ T.size ∧ T.size ≤ 37) = true) (hd : decR s = (T, 0)) (w : World) :
    Calls Try.prog 17 #[.string s] w fun e w' => e = .returned (decRV s) ∧ Below w.heap.size w w' := by
  have HS := Lib.hid hs
  have HK := Lib.hid hk
  have HD := Lib.hid hd
  have HT := Lib.hid hT
  have HV := Lib.hid hv
  have HTS := Lib.hid hTs
  have l1 : (1 : Int) ≤ (s.size : Int) := by omega
  clear hk hd hT hv hTs
  obtain ⟨r, hr⟩ : ∃ r, r = w.heap.size := ⟨_, rfl⟩
  obtain ⟨w0, hw0⟩ : ∃ w0, w0 = w.alloc (.cells (rmv ⟨#[]⟩) 29) := ⟨_, rfl⟩
  have HZ := Lib.hid (show Blk w0 r 29 (rmv ⟨#[]⟩) by rw [hw0, hr]; exact Blk.new _ _ _)
  have HB0 := Lib.hid (show Below w.heap.size w w0 by rw [hw0]; exact (Below.refl _ w).alloc (Nat.le_refl _) _)
  have HR := Lib.hid (show w.heap.size ≤ r by omega)
  have HR2 := Lib.hid hr
  have HW0 := Lib.hid hw0
  clear hr hw0
  go_enter Try.func17, Try.ntmps17
  go_wp2_with fail
  rw [← HR2.out]
  refine (checkFirst_any s 4 (by decide) _ HS.out).mono ?_
  rintro e U1 ⟨rfl, b⟩
  rw [HK.out]
  have HZ1 := Lib.hid (show Blk U1 r 29 (rmv ⟨#[]⟩) by have q := HZ.out.below (B := w0.heap.size) (w' := U1) (by rw [HW0.out]; exact b) HZ.out.lt; exact q)
  have HB1 := Lib.hid (show Below w.heap.size w U1 by have q := HB0.out; rw [HW0.out] at q; exact q.trans (b.mono q.size))
  clear b HZ HB0 HW0
  obtain ⟨X, hX⟩ : ∃ X, X = U1.heap.size := ⟨_, rfl⟩
  obtain ⟨U2, hU2⟩ : ∃ U, U = U1.alloc (.cells (rmv T) 29) := ⟨_, rfl⟩
  have hx2 : Blk U2 X 29 (rmv T) := by rw [hU2, hX]; exact Blk.new _ _ _
  have HX2 := Lib.hid hx2
  have HZ2 := Lib.hid (show Blk U2 r 29 (rmv ⟨#[]⟩) by rw [hU2]; exact HZ1.out.alloc _)
  have HB2 := Lib.hid (show Below w.heap.size w U2 by rw [hU2]; exact HB1.out.alloc HB1.out.size _)
  have HU2 := Lib.hid hU2
  have HX := Lib.hid hX
  clear hU2 hX hx2 HZ1 HB1
  go_upto_region 5 with fail
  rw [HT.out, ← HU2.out, ← HX.out]
  clear HT HU2 HX
  go_wp2_with (refine wpList_load_row rfl 29 _ rfl X rfl 29 (rmv T) (0, 0) _ ?_ Try.underlying29 rfl rm_size ?_; exact HX2.out)
  refine (validRemove_any T _ HTS.out).mono ?_
  rintro e U3 ⟨rfl, b⟩
  rw [HV.out]
  have HX3 := Lib.hid (HX2.out.below b HX2.out.lt)
  have HZ3 := Lib.hid (HZ2.out.below b HZ2.out.lt)
  have HB3 := Lib.hid (HB2.out.trans (b.mono HB2.out.size))
  clear b HX2 HZ2 HB2
  go_wp2_with (first
    | (refine wpList_load_row rfl 29 _ rfl X rfl 29 (rmv T) (0, 0) _ ?_ Try.underlying29 rfl rm_size ?_; exact HX3.out)
    | (refine wpList_store_row rfl 29 _ _ rfl r (rmv T) rfl rfl 29 (rmv ⟨#[]⟩) ?_ rm_size rfl (rm_one _) ?_; exact HZ3.out))
  exact decR_end s w U3 r T 0 rfl rfl rfl _ rfl _ HZ3.out HB3.out HR.out HD.out
set_option maxHeartbeats 1000000 in
set_option maxRecDepth 100000 in
theorem decR_no (s T : ByteArray) (hs : s.size ≤ 9223372036854775807) (h0 : 1 ≤ s.size) (hT : s.extract 1 s.size = T) (hTs : T.size ≤ 9223372036854775807) (hk : chk s 4 = 0) (hv : decide (1 ≤ T.size ∧ T.size ≤ 37) = false) (hd : decR s = (⟨#[]⟩, 5)) (w : World) :
    Calls Try.prog 17 #[.string s] w fun e w' => e = .returned (decRV s) ∧ Below w.heap.size w w' := by
  have HS := Lib.hid hs
  have HK := Lib.hid hk
  have HD := Lib.hid hd
  have HT := Lib.hid hT
  have HV := Lib.hid hv
  have HTS := Lib.hid hTs
  have l1 : (1 : Int) ≤ (s.size : Int) := by omega
  clear hk hd hT hv hTs
  obtain ⟨r, hr⟩ : ∃ r, r = w.heap.size := ⟨_, rfl⟩
  obtain ⟨w0, hw0⟩ : ∃ w0, w0 = w.alloc (.cells (rmv ⟨#[]⟩) 29) := ⟨_, rfl⟩
  have HZ := Lib.hid (show Blk w0 r 29 (rmv ⟨#[]⟩) by rw [hw0, hr]; exact Blk.new _ _ _)
  have HB0 := Lib.hid (show Below w.heap.size w w0 by rw [hw0]; exact (Below.refl _ w).alloc (Nat.le_refl _) _)
  have HR := Lib.hid (show w.heap.size ≤ r by omega)
  have HR2 := Lib.hid hr
  have HW0 := Lib.hid hw0
  clear hr hw0
  go_enter Try.func17, Try.ntmps17
  go_wp2_with fail
  rw [← HR2.out]
  refine (checkFirst_any s 4 (by decide) _ HS.out).mono ?_
  rintro e U1 ⟨rfl, b⟩
  rw [HK.out]
  have HZ1 := Lib.hid (show Blk U1 r 29 (rmv ⟨#[]⟩) by have q := HZ.out.below (B := w0.heap.size) (w' := U1) (by rw [HW0.out]; exact b) HZ.out.lt; exact q)
  have HB1 := Lib.hid (show Below w.heap.size w U1 by have q := HB0.out; rw [HW0.out] at q; exact q.trans (b.mono q.size))
  clear b HZ HB0 HW0
  obtain ⟨X, hX⟩ : ∃ X, X = U1.heap.size := ⟨_, rfl⟩
  obtain ⟨U2, hU2⟩ : ∃ U, U = U1.alloc (.cells (rmv T) 29) := ⟨_, rfl⟩
  have hx2 : Blk U2 X 29 (rmv T) := by rw [hU2, hX]; exact Blk.new _ _ _
  have HX2 := Lib.hid hx2
  have HZ2 := Lib.hid (show Blk U2 r 29 (rmv ⟨#[]⟩) by rw [hU2]; exact HZ1.out.alloc _)
  have HB2 := Lib.hid (show Below w.heap.size w U2 by rw [hU2]; exact HB1.out.alloc HB1.out.size _)
  have HU2 := Lib.hid hU2
  have HX := Lib.hid hX
  clear hU2 hX hx2 HZ1 HB1
  go_upto_region 5 with fail
  rw [HT.out, ← HU2.out, ← HX.out]
  clear HT HU2 HX
  go_wp2_with (refine wpList_load_row rfl 29 _ rfl X rfl 29 (rmv T) (0, 0) _ ?_ Try.underlying29 rfl rm_size ?_; exact HX2.out)
  refine (validRemove_any T _ HTS.out).mono ?_
  rintro e U3 ⟨rfl, b⟩
  rw [HV.out]
  have HX3 := Lib.hid (HX2.out.below b HX2.out.lt)
  have HZ3 := Lib.hid (HZ2.out.below b HZ2.out.lt)
  have HB3 := Lib.hid (HB2.out.trans (b.mono HB2.out.size))
  clear b HX2 HZ2 HB2
  go_wp2_with (first
    | (refine wpList_load_row rfl 29 _ rfl X rfl 29 (rmv T) (0, 0) _ ?_ Try.underlying29 rfl rm_size ?_; exact HX3.out)
    | (refine wpList_store_row rfl 29 _ _ rfl r (rmv ⟨#[]⟩) rfl rfl 29 (rmv ⟨#[]⟩) ?_ rm_size rfl (rm_one _) ?_; exact HZ3.out))
  exact decR_end s w U3 r ⟨#[]⟩ 5 rfl rfl rfl _ rfl _ HZ3.out HB3.out HR.out HD.out
theorem DecodeRemove_any (s : ByteArray) (hs : s.size ≤ 9223372036854775807) (w : World) :
    Calls Try.prog 17 #[.string s] w fun e w' => e = .returned (decRV s) ∧ Below w.heap.size w w' := by
  rcases chk_cases s 4 with ⟨h0, hk⟩ | ⟨h0, h1, hk⟩ | ⟨h0, h1, hk⟩
  · exact decR_bad s hs 4 (.inl rfl) hk (decR_short s h0) w
  · exact decR_bad s hs 7 (.inr rfl) hk (decR_kind s h0 h1) w
  have hT : s.extract 1 s.size = after1 s := txt_back s.data.toList 1
  have hz : (after1 s).size = s.size - 1 := by rw [txt_size, List.length_drop, len_data]
  by_cases h : 2 ≤ s.size ∧ s.size ≤ 38
  · exact decR_good s _ hs (by omega) hT (by omega) hk (decide_eq_true (by omega)) (decR_t s h1 h) w
  · exact decR_no s _ hs (by omega) hT (by omega) hk (decide_eq_false (by omega)) (decR_f s h0 h1 h) w
end Go.Proofs.Ytcofdiamlmlhfaa
