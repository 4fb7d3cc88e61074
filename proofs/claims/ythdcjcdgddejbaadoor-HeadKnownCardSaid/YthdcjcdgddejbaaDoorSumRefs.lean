/-
  The document's own answers of layer 3 that walk through texts (plaitref03): All and Of, each by its walk.
-/
import Derived.Test.YthdcjcdgddejbaaDoorSumOf
namespace Go.Proofs.YthdcjcdgddejbaaDoor
open Go.ChangeShapes Go.WideShapes Go.ChangeAt Go.RowKit
set_option linter.unusedVariables false

/-- Bytes, as a text. -/
abbrev txt (l : List UInt8) : ByteArray := ⟨l.toArray⟩
theorem txt_size (l : List UInt8) : (txt l).size = l.length := by simp [ByteArray.size]
theorem txt_append (l : List UInt8) (s : ByteArray) : txt l ++ s = txt (l ++ s.data.toList) := by
  apply ByteArray.ext
  simp [txt, ByteArray.data_append]
theorem data_append (a b : ByteArray) : (a ++ b).data.toList = a.data.toList ++ b.data.toList := by simp [ByteArray.data_append]
theorem txt_data (s : ByteArray) : txt s.data.toList = s := by cases s; simp [txt]


/-- The words that the reference counts: the text, with a byte 0 behind it if it is odd. -/
def even (s : ByteArray) : ByteArray := if s.size % 2 = 1 then s ++ ⟨#[0]⟩ else s
theorem even_size (s : ByteArray) : (even s).size % 2 = 0 ∧ s.size ≤ (even s).size ∧ (even s).size ≤ s.size + 1 := by
  unfold even; split
  · have : (s ++ ⟨#[0]⟩ : ByteArray).size = s.size + 1 := by rw [ByteArray.size_append]; rfl
    omega
  · omega
theorem even_tot (s : ByteArray) : tot (even s).data.toList = tot s.data.toList := by
  unfold even; split
  · rw [data_append]; exact tot_zero _
  · rfl
theorem tot_two (l : List UInt8) (a b : UInt8) (h : l.length % 2 = 0) : tot (l ++ [a, b]) = tot l + 256 * (a.toNat : Int) + (b.toNat : Int) := by
  rw [tot_append l [a, b] h]
  have : tot [a, b] = 256 * (a.toNat : Int) + (b.toNat : Int) := by simp [tot, advs, adv]
  omega
theorem take_two (s : ByteArray) (k : Nat) (h : k + 1 < s.size) : s.data.toList.take (k + 2) = s.data.toList.take k ++ [s[k], s[k + 1]] := by
  rw [show k + 2 = (k + 1) + 1 from rfl, take_snoc s (k + 1) h, take_snoc s k (by omega), List.append_assoc]; rfl

set_option maxHeartbeats 1000000 in
theorem Of_ref (s : ByteArray) (w : World) (hs : s.size ≤ 1099511627776) :
    Calls Tryd.prog 26 #[.string s] w fun e w' => e = .returned (.int .u16 (fold (tot s.data.toList))) ∧ Below w.heap.size w w' := by
  obtain ⟨q, hq⟩ : ∃ q, q = even s := ⟨_, rfl⟩
  have hq2 := even_size s
  have hqt := even_tot s
  rw [← hq] at hq2 hqt
  rw [← hqt]
  by_cases ho : s.size % 2 = 1
  · have e : s ++ ⟨#[0]⟩ = q := by rw [hq, even, if_pos ho]
    clear hq hqt
    go_enter Tryd.func26, Tryd.ntmps26
    go_wp2
    go_loopw [3, 4] (fun x i wr => ∃ j : Nat, 2 * j ≤ q.size ∧ i = .int .i64 ((2 * j : Nat) : Int) ∧ x = .int .u64 (tot (q.data.toList.take (2 * j))) ∧ Below w.heap.size w wr) (fun _ i _ => q.size - (intOf i).toNat)
    case atStart => exact ⟨0, Nat.zero_le _, rfl, rfl, Below.refl _ _⟩
    case round =>
      obtain ⟨j, hj, rfl, rfl, hB⟩ := hrel
      obtain ⟨k, hk⟩ : ∃ k, k = 2 * j := ⟨_, rfl⟩
      rw [← hk] at hj ⊢
      have hkk : k % 2 = 0 := by omega
      by_cases hlt : k < q.size
      · have hk1 : k + 1 < q.size := by omega
        obtain ⟨T, hT⟩ : ∃ T, T = tot (q.data.toList.take k) := ⟨_, rfl⟩
        have tb := tot_b (q.data.toList.take k)
        have hl : (q.data.toList.take k).length = k := by rw [List.length_take]; exact Nat.min_eq_left (by simp; omega)
        rw [← hT, hl] at tb
        have e2 := tot_two (q.data.toList.take k) q[k] q[k + 1] (by rw [hl]; exact hkk)
        rw [← take_two q k hk1, ← hT] at e2
        obtain ⟨k1, hk1'⟩ : ∃ k1, k1 = k + 1 := ⟨_, rfl⟩
        have w1 : IntKind.i64.wrap ((k : Int) + 1) = (k1 : Int) := by rw [hk1']; exact IntWalk.i64_in _ (by omega)
        have i1 : (k1 : Int) < (q.size : Int) := by omega
        have i1' : k1 < q.size := by omega
        have c0 := q[k].toNat_lt
        have c1 := q[k1].toNat_lt
        have a0 : IntKind.u64.wrap (q[k].toNat : Int) = (q[k].toNat : Int) := by rw [IntKind.wrap_u64]; omega
        have a1 : IntKind.u64.wrap (256 * (q[k].toNat : Int)) = 256 * (q[k].toNat : Int) := by rw [IntKind.wrap_u64]; omega
        have a2 : IntKind.u64.wrap (T + 256 * (q[k].toNat : Int)) = T + 256 * (q[k].toNat : Int) := by rw [IntKind.wrap_u64]; omega
        have a3 : IntKind.u64.wrap (q[k1].toNat : Int) = (q[k1].toNat : Int) := by rw [IntKind.wrap_u64]; omega
        have a4 : IntKind.u64.wrap (T + 256 * (q[k].toNat : Int) + (q[k1].toNat : Int)) = T + 256 * (q[k].toNat : Int) + (q[k1].toNat : Int) := by rw [IntKind.wrap_u64]; omega
        have eb : q[k + 1] = q[k1] := by simp [hk1']
        rw [eb] at e2
        clear eb hk1'
        have HE := Lib.hid e2
        have HK := Lib.hid hk
        rw [← hT]
        have HB := Lib.hid hB
        clear hT hl e2 hk hB
        go_wp2
        go_quiet (fail)
        go_wp2
        go_roundw
        case rel => exact ⟨j + 1, by have := HK.out; omega, by have := HK.out; go_num, val_int (by rw [show 2 * (j + 1) = k + 2 by have := HK.out; omega]; exact HE.out.symm), below_drewN HB.out _⟩
        case measure => simp [intOf]; omega
      · obtain rfl : k = q.size := by omega
        rw [take_all]
        have tb := tot_b q.data.toList
        have hl : q.data.toList.length = q.size := by simp
        rw [hl] at tb
        have HB := Lib.hid hB
        clear hl hB hk
        go_wp2_with (go_at_call 35; refine (Fold_ref (tot q.data.toList) tb.1 (by omega) _).mono ?_; rintro e w' ⟨rfl, rfl⟩)
        go_ret; exact ⟨rfl, HB.out⟩
  · have e : q = s := by rw [hq, even, if_neg ho]
    subst e
    clear hq hqt
    have ho1 : ((q.size : Int) % 2 == 1) = false := by simp; omega
    go_enter Tryd.func26, Tryd.ntmps26
    go_wp2
    go_loopw [3, 4] (fun x i wr => ∃ j : Nat, 2 * j ≤ q.size ∧ i = .int .i64 ((2 * j : Nat) : Int) ∧ x = .int .u64 (tot (q.data.toList.take (2 * j))) ∧ Below w.heap.size w wr) (fun _ i _ => q.size - (intOf i).toNat)
    case atStart => exact ⟨0, Nat.zero_le _, rfl, rfl, Below.refl _ _⟩
    case round =>
      obtain ⟨j, hj, rfl, rfl, hB⟩ := hrel
      obtain ⟨k, hk⟩ : ∃ k, k = 2 * j := ⟨_, rfl⟩
      rw [← hk] at hj ⊢
      have hkk : k % 2 = 0 := by omega
      by_cases hlt : k < q.size
      · have hk1 : k + 1 < q.size := by omega
        obtain ⟨T, hT⟩ : ∃ T, T = tot (q.data.toList.take k) := ⟨_, rfl⟩
        have tb := tot_b (q.data.toList.take k)
        have hl : (q.data.toList.take k).length = k := by rw [List.length_take]; exact Nat.min_eq_left (by simp; omega)
        rw [← hT, hl] at tb
        have e2 := tot_two (q.data.toList.take k) q[k] q[k + 1] (by rw [hl]; exact hkk)
        rw [← take_two q k hk1, ← hT] at e2
        obtain ⟨k1, hk1'⟩ : ∃ k1, k1 = k + 1 := ⟨_, rfl⟩
        have w1 : IntKind.i64.wrap ((k : Int) + 1) = (k1 : Int) := by rw [hk1']; exact IntWalk.i64_in _ (by omega)
        have i1 : (k1 : Int) < (q.size : Int) := by omega
        have i1' : k1 < q.size := by omega
        have c0 := q[k].toNat_lt
        have c1 := q[k1].toNat_lt
        have a0 : IntKind.u64.wrap (q[k].toNat : Int) = (q[k].toNat : Int) := by rw [IntKind.wrap_u64]; omega
        have a1 : IntKind.u64.wrap (256 * (q[k].toNat : Int)) = 256 * (q[k].toNat : Int) := by rw [IntKind.wrap_u64]; omega
        have a2 : IntKind.u64.wrap (T + 256 * (q[k].toNat : Int)) = T + 256 * (q[k].toNat : Int) := by rw [IntKind.wrap_u64]; omega
        have a3 : IntKind.u64.wrap (q[k1].toNat : Int) = (q[k1].toNat : Int) := by rw [IntKind.wrap_u64]; omega
        have a4 : IntKind.u64.wrap (T + 256 * (q[k].toNat : Int) + (q[k1].toNat : Int)) = T + 256 * (q[k].toNat : Int) + (q[k1].toNat : Int) := by rw [IntKind.wrap_u64]; omega
        have eb : q[k + 1] = q[k1] := by simp [hk1']
        rw [eb] at e2
        clear eb hk1'
        have HE := Lib.hid e2
        have HK := Lib.hid hk
        rw [← hT]
        have HB := Lib.hid hB
        clear hT hl e2 hk hB
        go_wp2
        go_quiet (fail)
        go_wp2
        go_roundw
        case rel => exact ⟨j + 1, by have := HK.out; omega, by have := HK.out; go_num, val_int (by rw [show 2 * (j + 1) = k + 2 by have := HK.out; omega]; exact HE.out.symm), below_drewN HB.out _⟩
        case measure => simp [intOf]; omega
      · obtain rfl : k = q.size := by omega
        rw [take_all]
        have tb := tot_b q.data.toList
        have hl : q.data.toList.length = q.size := by simp
        rw [hl] at tb
        have HB := Lib.hid hB
        clear hl hB hk
        go_wp2_with (go_at_call 35; refine (Fold_ref (tot q.data.toList) tb.1 (by omega) _).mono ?_; rintro e w' ⟨rfl, rfl⟩)
        go_ret; exact ⟨rfl, HB.out⟩
end Go.Proofs.YthdcjcdgddejbaaDoor
