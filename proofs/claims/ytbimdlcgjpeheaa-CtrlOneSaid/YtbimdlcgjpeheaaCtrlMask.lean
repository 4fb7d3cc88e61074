/-
  Bytes that are masked one after the other; what a text is laid again as, whichever of the four options it is: itself, but for the bits that are passed over. Words for a loop that masks bytes in memory.
-/
import Derived.Test.YtbimdlcgjpeheaaCtrlMore
namespace Go.Proofs.Ytbimdlcgjpeheaa
open Go.ChangeShapes Go.WideShapes Go.ChangeAt Go.RowKit
set_option linter.unusedVariables false

/-- The first j bytes masked. -/
def msk (m : Nat → UInt8) (l : List UInt8) : Nat → List UInt8
  | 0 => l
  | j + 1 => (msk m l j).set j ((msk m l j).getD j 0 &&& m j)
theorem msk_length (m : Nat → UInt8) (l : List UInt8) : ∀ j, (msk m l j).length = l.length
  | 0 => rfl
  | j + 1 => by rw [msk, List.length_set, msk_length m l j]
/-- The two masks: by which of the four options it is (4: none). -/
def mOf (k : Nat) (j : Nat) : UInt8 := if k = 0 then (if j = 0 then 241 else 255) else if k = 3 then 255 else if k = 4 then 255 else (if j = 0 then 240 else 0)
/-- Which of the four options a text is. -/
def kind (s : ByteArray) : Nat := if wrong 5 1 s = 0 then 0 else if wrong 6 10 s = 0 then 1 else if wrong 7 10 s = 0 then 2 else if wrong 8 2 s = 0 then 3 else 4
theorem kind_le (s : ByteArray) : kind s ≤ 4 := by unfold kind; (repeat' split) <;> omega
theorem kind_codes (s : ByteArray) : (wrong 5 1 s = 0 ↔ kind s = 0) ∧ (wrong 6 10 s = 0 ↔ kind s = 1) ∧ (wrong 7 10 s = 0 ↔ kind s = 2) ∧ (wrong 8 2 s = 0 ↔ kind s = 3) := by
  have h5 := wrong_iff 5 1 s (by decide)
  have h6 := wrong_iff 6 10 s (by decide)
  have h7 := wrong_iff 7 10 s (by decide)
  have h8 := wrong_iff 8 2 s (by decide)
  by_cases a : wrong 5 1 s = 0
  · have b : ¬ wrong 6 10 s = 0 := fun x => by have := (h5.1 a).2; have := (h6.1 x).2; omega
    have c : ¬ wrong 7 10 s = 0 := fun x => by have := (h5.1 a).2; have := (h7.1 x).2; omega
    have d : ¬ wrong 8 2 s = 0 := fun x => by have := (h5.1 a).2; have := (h8.1 x).2; omega
    simp [kind, a, b, c, d]
  by_cases b : wrong 6 10 s = 0
  · have c : ¬ wrong 7 10 s = 0 := fun x => by have := (h6.1 b).2; have := (h7.1 x).2; omega
    have d : ¬ wrong 8 2 s = 0 := fun x => by have := (h6.1 b).2; have := (h8.1 x).2; omega
    simp [kind, a, b, c, d]
  by_cases c : wrong 7 10 s = 0
  · have d : ¬ wrong 8 2 s = 0 := fun x => by have := (h7.1 c).2; have := (h8.1 x).2; omega
    simp [kind, a, b, c, d]
  by_cases d : wrong 8 2 s = 0 <;> simp [kind, a, b, c, d]
def again (s : ByteArray) : ByteArray := if kind s = 0 then prioT (decP s) else if kind s = 1 then numT 6 (decN 6 s) else if kind s = 2 then numT 7 (decN 7 s) else if kind s = 3 then rstT (decF s) (decR s) else s
def rounds (s : ByteArray) : Nat := if kind s < 4 then min 2 s.size else 0
theorem odd_mask : ∀ b : _root_.Fin 256, b.val / 16 = 5 → (if (b.val % 2 == 1) = true then (81 : UInt8) else 80) = UInt8.ofNat b.val &&& 241 := by decide +kernel
theorem up_mask : ∀ b : _root_.Fin 256, UInt8.ofNat b.val &&& 240 = UInt8.ofNat (b.val / 16 * 16) ∧ UInt8.ofNat b.val &&& 0 = 0 ∧ UInt8.ofNat b.val &&& 255 = UInt8.ofNat b.val := by decide +kernel
theorem ofNat_self (b : UInt8) : UInt8.ofNat b.toNat = b := by simp
theorem up_b (b : UInt8) (k : Nat) (h : b.toNat / 16 = k) : UInt8.ofNat (k * 16) = b &&& 240 := by
  have q := (up_mask ⟨b.toNat, b.toNat_lt⟩).1
  rw [ofNat_self] at q
  rw [q, ← h]
theorem no_b (b : UInt8) : b &&& 0 = 0 := by
  have q := (up_mask ⟨b.toNat, b.toNat_lt⟩).2.1
  rwa [ofNat_self] at q
theorem all_b (b : UInt8) : b &&& 255 = b := by
  have q := (up_mask ⟨b.toNat, b.toNat_lt⟩).2.2
  rwa [ofNat_self] at q
theorem txt_cases (s : ByteArray) (l : List UInt8) (h : s.data.toList = l) : s = txt l := by subst h; rfl
theorem byteAt_of (s : ByteArray) (l : List UInt8) (h : s.data.toList = l) (i : Nat) : byteAt s i = (l.getD i 0).toNat := by subst h; rfl
theorem num_again (k : Nat) (s : ByteArray) (h : s.size = 10 ∧ byteAt s 0 / 16 = k) : numT k (num s 2 8) = txt (msk (fun j => if j = 0 then 240 else 0) s.data.toList 2) := by
  have hl : s.data.toList.length = 10 := (len_data s).trans h.1
  have hb := be_num s 2 8 (by omega)
  match hs : s.data.toList, hl with
  | b :: c :: r, hl =>
    have h0 : byteAt s 0 = b.toNat := byteAt_of s _ hs 0
    rw [h0] at h
    rw [hs] at hb
    have hr : (List.drop 2 (b :: c :: r)).take 8 = r := by
      show r.take 8 = r
      exact List.take_of_length_le (by simp at hl; omega)
    rw [hr] at hb
    rw [numT, hb, up_b b k h.2]
    congr 1
    show (b &&& 240) :: 0 :: r = (b &&& 240) :: (c &&& 0) :: r
    rw [no_b]
theorem again_msk (s : ByteArray) : again s = txt (msk (mOf (kind s)) s.data.toList (rounds s)) := by
  obtain ⟨h5, h6, h7, h8⟩ := kind_codes s
  have hk := kind_le s
  have w5 := wrong_iff 5 1 s (by decide)
  have w6 := wrong_iff 6 10 s (by decide)
  have w7 := wrong_iff 7 10 s (by decide)
  have w8 := wrong_iff 8 2 s (by decide)
  have hc : kind s = 0 ∨ kind s = 1 ∨ kind s = 2 ∨ kind s = 3 ∨ kind s = 4 := by omega
  unfold again rounds
  rcases hc with h | h | h | h | h
  · rw [if_pos h, if_pos (by omega), h]
    have w := h5.2 h
    obtain ⟨z, b0⟩ := w5.1 w
    have hl : s.data.toList.length = 1 := (len_data s).trans z
    match hs : s.data.toList, hl with
    | [b], _ =>
      have h0 : byteAt s 0 = b.toNat := byteAt_of s _ hs 0
      rw [h0] at b0
      unfold decP gotP prioT
      rw [if_pos w, z, h0, odd_mask ⟨b.toNat, b.toNat_lt⟩ b0, ofNat_self]
      rfl
  · rw [if_neg (by omega), if_pos h, if_pos (by omega), h]
    have w := h6.2 h
    have q := w6.1 w
    unfold decN
    rw [if_pos w, num_again 6 s q, q.1]
    rfl
  · rw [if_neg (by omega), if_neg (by omega), if_pos h, if_pos (by omega), h]
    have w := h7.2 h
    have q := w7.1 w
    unfold decN
    rw [if_pos w, num_again 7 s q, q.1]
    rfl
  · rw [if_neg (by omega), if_neg (by omega), if_neg (by omega), if_pos h, if_pos (by omega), h]
    have w := h8.2 h
    obtain ⟨z, b0⟩ := w8.1 w
    have hl : s.data.toList.length = 2 := (len_data s).trans z
    match hs : s.data.toList, hl with
    | [b, c], _ =>
      have h0 : byteAt s 0 = b.toNat := byteAt_of s _ hs 0
      have h1 : byteAt s 1 = c.toNat := byteAt_of s _ hs 1
      rw [h0] at b0
      unfold decF decR rstT
      rw [if_pos w, if_pos w, z, h0, h1, show 128 + b.toNat % 16 = b.toNat by have := b.toNat_lt; omega, ofNat_self, ofNat_self]
      show txt [b, c] = txt [b &&& 255, c &&& 255]
      rw [all_b, all_b]
  · rw [if_neg (by omega), if_neg (by omega), if_neg (by omega), if_neg (by omega), if_neg (by omega)]
    rfl
theorem and8 (x m : UInt8) : bits .and .u8 (x.toNat : Int) (m.toNat : Int) = ((x &&& m).toNat : Int) := by
  have hx : ∀ y : UInt8, BitVec.ofInt 8 (y.toNat : Int) = y.toBitVec := fun y => by
    rw [BitVec.ofInt_natCast]
    exact BitVec.ofNat_toNat 8 y.toBitVec |>.trans (by simp)
  show IntKind.u8.wrap (((BitVec.ofInt 8 (x.toNat : Int)) &&& (BitVec.ofInt 8 (m.toNat : Int))).toNat : Int) = _
  rw [hx, hx, IntKind.wrap_u8]
  have e : (x.toBitVec &&& m.toBitVec).toNat = (x &&& m).toNat := rfl
  have := (x &&& m).toNat_lt
  rw [e]
  omega
theorem ex_and8 {ρ : Operand → Value} {o : Oper} {w : World} (t u : TypeId) (x y : Operand) (ho : o.op = .binOp .and t x y u) (a b c : Int) (hx : ρ x = .int .u8 a) (hy : ρ y = .int .u8 b) (ht : Try.prog.underlying t = some (.int .u8)) (h : bits .and .u8 a b = c) :
    (execOp ρ o).run Try.prog w = .ok (.value (.int .u8 c)) w := by
  subst h
  unfold execOp
  rw [ho]
  simp [hx, hy, go_sem]
theorem place_at (g k n cap : Nat) (hk : k < n) (hn : n < 9223372036854775808) (w : World) : (Instr.indexAt 45 (.slice (some ⟨g, 0, none⟩) n cap) (.int .i64 (k : Int))).run Try.prog w = .ok (.pointer (some ⟨g, k, none⟩)) w := by
  have e2 : (sizeOf (Try.prog.elem 45)).run Try.prog w = .ok 1 w := by kernel_rfl
  have hu : Try.prog.underlying 45 = some (.slice (Try.prog.elem 45)) := by kernel_rfl
  have e3 : (⟨g, 0, none⟩ : Addr).add k = ⟨g, k, none⟩ := by unfold Addr.add; split <;> simp_all
  rw [run_indexAt_slice w _ _ _ _ _ _ hu]
  simp [hk, go_sem]
theorem place_two (g : Nat) : ∀ (k : Nat), k < 2 → ∀ w : World, (Instr.indexAt 59 (.pointer (some ⟨g, 0, none⟩)) (.int .i64 (k : Int))).run Try.prog w = .ok (.pointer (some ⟨g, k, none⟩)) w
  | 0, _, w => by kernel_rfl
  | 1, _, w => by kernel_rfl
theorem store_byte (W : World) (g k : Nat) (x z : Int) (hc : W.cell? ⟨g, k, none⟩ = some (.int .u8 x)) (hf : W.frozen? ⟨g, k, none⟩ = false) : (storeVar 5 ⟨g, k, none⟩ (.int .u8 z)).run Try.prog W = .ok () (W.setCell ⟨g, k, none⟩ (.int .u8 z)) := by
  have hi : (Try.prog.info? 5).map (·.size) = some 1 := by kernel_rfl
  have hst : (store ((⟨g, k, none⟩ : Addr).add 0) (.int .u8 z)).run Try.prog W = .ok () (W.setCell ⟨g, k, none⟩ (.int .u8 z)) := by
    rw [show (⟨g, k, none⟩ : Addr).add 0 = ⟨g, k, none⟩ from rfl, run_store Try.prog W _ _ _ rfl, hc]
    simp [hf]
  cases hq : Try.prog.info? 5 with
  | none => rw [hq] at hi; cases hi
  | some i =>
    have hs : i.size = 1 := by simpa [hq] using hi
    simp [storeVar, sizeOf, typeInfo, hq, Value.cells, hs, storeCells, hst]
end Go.Proofs.Ytbimdlcgjpeheaa
