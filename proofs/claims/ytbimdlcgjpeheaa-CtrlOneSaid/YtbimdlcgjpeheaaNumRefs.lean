/-
  Numbers as bytes by the document's own answer (plaitref01: Laid, Num), each by its walk.
-/
import Derived.Test.YtbimdlcgjpeheaaNumBytes
import Derived.Test.YtbimdlcgjpeheaaSumWords
import Derived.Laws.MakeOwn
import Derived.Laws.IdiomStrings
import Derived.OwnWalk
import Derived.Laws.AppendOwn
import Derived.Deep.RegionHeld3
namespace Go.Proofs.Ytbimdlcgjpeheaa
open Go.ChangeShapes Go.WideShapes Go.ChangeAt Go.RowKit
set_option linter.unusedVariables false

def byv (l : List UInt8) : Array Value := (l.map fun b => Value.int .u8 (b.toNat : Int)).toArray
theorem byv_size (l : List UInt8) : (byv l).size = l.length := by simp [byv]
theorem byv_get (l : List UInt8) (i : Nat) (h : i < l.length) : (byv l)[i]? = some (.int .u8 (l[i].toNat : Int)) := by simp [byv, h]
theorem byv_set (l : List UInt8) (i : Nat) (v : UInt8) : (byv l).setIfInBounds i (.int .u8 (v.toNat : Int)) = byv (l.set i v) := by simp [byv, List.map_set]
theorem add_off (b q : Nat) : (⟨b, 0, none⟩ : Addr).add q = ⟨b, q, none⟩ := by unfold Addr.add; split <;> simp_all
theorem below_then {a b c : World} (h : Below a.heap.size a b) (k : Below b.heap.size b c) : Below a.heap.size a c := h.trans (k.mono h.size)
theorem info8r : (Try.prog.info? 5).map (fun i => (i.zero, i.size, i.bytes)) = some (some (.int .u8 0), 1, 1) := by kernel_rfl
theorem be_take (m n j : Nat) (h : j < m) : (be m n).take (j + 1) = (be m n).take j ++ [UInt8.ofNat (n / 256 ^ (m - 1 - j))] := by
  rw [List.take_add_one, be_get m n j h]; rfl

set_option maxHeartbeats 2000000 in
set_option maxRecDepth 100000 in
theorem Laid_ref (n m : Nat) (w : World) (hn : n ≤ 18446744073709551615) (h1 : 1 ≤ m) (hm : m ≤ 8) :
    Calls Try.prog 25 #[.int .u64 (n : Int), .int .i64 (m : Int)] w fun e w' => e = .returned (.string (txt (be m n))) ∧ Below w.heap.size w w' := by
  obtain ⟨i0, hi, hz0, hz1, hz2⟩ := info_parts info8r
  have HI := Lib.hid hi
  have HZ0 := Lib.hid hz0
  have HZ1 := Lib.hid hz1
  have HZ2 := Lib.hid hz2
  clear hi hz0 hz1 hz2
  go_enter Try.func25, Try.ntmps25
  go_wp2
  go_loopw [5, 6] (fun v x wr => ∃ j : Nat, j ≤ m ∧ x = .int .i64 ((m : Int) - 1 - (j : Int)) ∧ wr.ownsRow w.heap.size 5 1 v j (byv ((be m n).take j)).toList ∧ Below w.heap.size w wr) (fun _ x _ => (intOf x + 1).toNat)
  case atStart => exact ⟨0, Nat.zero_le _, by go_num, World.ownsRow_nil _ _ _ _, Below.refl _ _⟩
  case round =>
    obtain ⟨j, hj, rfl, hO, hB⟩ := hrel
    by_cases hlt : j < m
    · obtain ⟨k, hk⟩ : ∃ k : Nat, k + 1 + j = m := ⟨m - 1 - j, by omega⟩
      have ek : (m : Int) - 1 - (j : Int) = (k : Int) := by omega
      rw [ek]
      have hk8 : k ≤ 7 := by omega
      have HO := Lib.hid hO
      have HB := Lib.hid hB
      clear hO hB
      obtain ⟨V, hV⟩ : ∃ V : UInt8, V = UInt8.ofNat (n / 256 ^ k) := ⟨_, rfl⟩
      have hv : (n : Int) / 2 ^ (8 * k) % 256 = (V.toNat : Int) := by
        rw [hV, UInt8.toNat_ofNat', show (2 : Nat) ^ 8 = 256 from rfl, show (2 : Int) ^ (8 * k) = ((256 ^ k : Nat) : Int) by rw [Int.pow_mul]; norm_cast]
        omega
      have htk : (be m n).take (j + 1) = (be m n).take j ++ [V] := by rw [be_take m n j hlt, hV, show m - 1 - j = k by omega]
      have HTK := Lib.hid htk
      have HVV := Lib.hid hv
      clear hV htk
      go_wp2_with (at_builtin; rw [HVV.out]; refine wpList_append_own _ rfl _ _ 45 rfl w.heap.size 5 i0 (.int .u8 0) 1 1 Try.underlying45 HI.out HZ0.out HZ1.out HZ2.out rfl (by decide) _ _ _ rfl (HO.out.alloc _) ⟨wr.heap.size, 0, none⟩ 1 1 [.int .u8 (V.toNat : Int)] rfl rfl ?c1 ?c2 ?c3 ?c4 ?c5 ?_)
      case c1 =>
        intro i u hu
        obtain rfl : i = 0 := by
          rcases Nat.eq_zero_or_pos i with h | h
          · exact h
          · rw [List.getElem?_eq_none (by simp; omega)] at hu; cases hu
        injection hu with hu
        subst hu
        exact (Blk.new wr 5 #[.int .u8 (V.toNat : Int)]).cell 0
      case c2 => intro u hu; obtain rfl := List.mem_singleton.1 hu; rfl
      case c3 => unfold maxLen; omega
      case c4 => omega
      case c5 => have := HB.out.size; simp; omega
      intro v' w2 own2 grow2 _
      have HN := Lib.hid (show w2.ownsRow w.heap.size 5 1 v' (j + 1) (byv ((be m n).take (j + 1))).toList by
        rw [HTK.out]; simpa [byv] using own2)
      have HB2 := Lib.hid ((HB.out.alloc HB.out.size _).grown grow2 (by have := HB.out.size; simp; omega) (fun k hk => (HO.out.lt k hk).1))
      clear own2 grow2
      go_wp2_with fail
      go_roundw
      case rel => exact ⟨j + 1, by omega, by go_num, HN.out, HB2.out⟩
      case measure => simp [intOf]
    · obtain rfl : j = m := by omega
      rw [show (be j n).take j = be j n from List.take_of_length_le (by rw [be_length]; exact Nat.le_refl _)] at hO
      obtain ⟨_, ⟨_, h0, _⟩ | ⟨g, cap, cur, rfl, _, hg, _, _, _, htake⟩⟩ := id hO
      · omega
      have HB := Lib.hid hB
      have hcv : (convert 45 9 (.slice (some ⟨g, 0, none⟩) j cap)).run Try.prog wr = .ok (.string (txt (be j n))) wr := by
        have q := run_convert_bytes_back wr 45 9 5 ⟨g, 0, none⟩ cap (be j n) Try.underlying45 Try.underlying5 Try.underlying9 (fun i hi => by
          have hi' : i < j := by rw [be_length] at hi; exact hi
          rw [add_off, cell_of_row wr g i cur _ _ hg]
          have q := congrArg (fun l => l[i]?) htake
          simp only [Nat.mul_one] at q
          rw [List.getElem?_take_of_lt hi'] at q
          rw [← Array.getElem?_toList, q]
          simp [byv, hi])
        rwa [be_length] at q
      clear hO hB hg htake
      go_wp2
      go_ret; exact ⟨rfl, HB.out⟩

theorem Num_ref (s : ByteArray) (w : World) (hs : s.size ≤ 8) :
    Calls Try.prog 52 #[.string s] w fun e w' => e = .returned (.int .u64 ((num s 0 s.size : Nat) : Int)) ∧ w = w' := by
  go_enter Try.func52, Try.ntmps52
  go_wp2
  go_loopw [3, 4] (fun x i wr => ∃ j : Nat, j ≤ s.size ∧ i = .int .i64 (j : Int) ∧ x = .int .u64 ((num s 0 j : Nat) : Int) ∧ w = wr) (fun _ i _ => s.size - (intOf i).toNat)
  case atStart => exact ⟨0, Nat.zero_le _, rfl, rfl, rfl⟩
  case round =>
    obtain ⟨j, hj, rfl, rfl, rfl⟩ := hrel
    by_cases hlt : j < s.size
    · obtain ⟨n, hn⟩ : ∃ n, n = num s 0 j := ⟨_, rfl⟩
      have hn1 : n ≤ 72057594037927935 := by rw [hn]; exact num_le7 s 0 j (by omega)
      have es : num s 0 (j + 1) = n * 256 + s[j].toNat := by rw [num_step0 s j hlt, hn]
      have c1 := s[j].toNat_lt
      rw [← hn]
      have HE := Lib.hid es
      clear hn es
      have i1 : (j : Int) < (s.size : Int) := by omega
      go_wp2
      go_roundw
      case rel => exact ⟨j + 1, by omega, by go_num, val_int (by rw [HE.out]; omega), by first | rfl | trivial⟩
      case measure => simp [intOf]; omega
    · obtain rfl : j = s.size := by omega
      go_wp2
      go_ret; exact ⟨rfl, rfl⟩

theorem Laid_t (n m : Nat) (t : ByteArray) (w : World) (hn : n ≤ 18446744073709551615) (h1 : 1 ≤ m) (hm : m ≤ 8) (ht : txt (be m n) = t) :
    Calls Try.prog 25 #[.int .u64 (n : Int), .int .i64 (m : Int)] w fun e w' => e = .returned (.string t) ∧ Below w.heap.size w w' := by
  rw [← ht]; exact Laid_ref n m w hn h1 hm
theorem Laid_n (N : Int) (n m : Nat) (t : ByteArray) (w : World) (hN : N = (n : Int)) (hn : n ≤ 18446744073709551615) (h1 : 1 ≤ m) (hm : m ≤ 8) (ht : txt (be m n) = t) :
    Calls Try.prog 25 #[.int .u64 N, .int .i64 (m : Int)] w fun e w' => e = .returned (.string t) ∧ Below w.heap.size w w' := by
  subst hN; rw [← ht]; exact Laid_ref n m w hn h1 hm
theorem Num_t (s : ByteArray) (n : Nat) (w : World) (hs : s.size ≤ 8) (hn : num s 0 s.size = n) :
    Calls Try.prog 52 #[.string s] w fun e w' => e = .returned (.int .u64 (n : Int)) ∧ w = w' := by
  rw [← hn]; exact Num_ref s w hs
end Go.Proofs.Ytbimdlcgjpeheaa
