/-
  A cursor's calls, one contract each for every state that it may be in.
-/
import Derived.Test.YtbimdlcgjpeheaaCurMoves
import Derived.Test.YtbimdlcgjpeheaaCurMore
namespace Go.Proofs.Ytbimdlcgjpeheaa
open Go.RowKit
set_option linter.unusedVariables false

theorem LeftC_any (b : Nat) (s : ByteArray) (k : Nat) (br : Bool) (w : World) (hs : s.size ≤ 9223372036854775807) (hk : k ≤ s.size) (h : Cur w b s k br) :
    Calls Try.prog 54 #[.pointer (some ⟨b, 0, none⟩)] w fun e w' => e = .returned (.int .i64 (leftO s k br)) ∧ ∃ n, w' = w.drewN n := by
  cases br
  · exact Left_ok b s k w hs hk h
  · exact (Left_br b s k w h).mono fun _ _ x => ⟨x.1, 0, x.2.symm⟩
theorem End_any (b : Nat) (s : ByteArray) (k : Nat) (br : Bool) (w : World) (hs : s.size ≤ 9223372036854775807) (hk : k ≤ s.size) (h : Cur w b s k br) :
    Calls Try.prog 55 #[.pointer (some ⟨b, 0, none⟩)] w fun e w' => e = .returned (.int .i64 (endO s k br)) ∧ ∃ n, w' = w.drewN n := by
  cases br
  · by_cases hlt : k < s.size
    · rw [show endO s k false = 5 by simp [endO, hlt]]
      exact End_more b s k w hs hlt h
    · obtain rfl : k = s.size := by omega
      rw [show endO s s.size false = 0 by simp [endO]]
      exact End_done b s w hs h
  · exact (End_br b s k w h).mono fun _ _ x => ⟨x.1, 0, x.2.symm⟩
theorem U8_any (b : Nat) (s : ByteArray) (k : Nat) (br : Bool) (w : World) (hs : s.size ≤ 9223372036854775807) (hk : k ≤ s.size) (h : Cur w b s k br) :
    Calls Try.prog 41 #[.pointer (some ⟨b, 0, none⟩)] w fun e w' => e = .returned (.int .u8 (numO s k br 1)) ∧ Moved w w' b s (posO s k br (1 : Nat)) (brO s k br (1 : Nat)) := by
  rcases fits_cases s k br (1 : Nat) with ⟨rfl, hf⟩ | ⟨rfl, hn, hf⟩ | ⟨rfl, h0, h1, hf⟩
  · rw [numO_f hf, posO_f hf, brO_f hf]
    exact U8_br b s k w h
  · rw [numO_f hf, posO_f hf, brO_f hf]
    exact U8_f b s k w hs hk (by omega) h
  · rw [numO_t hf, posO_t hf, brO_t hf]
    exact U8_t b s k w hs (by omega) h
theorem numO_le_1 (s : ByteArray) (k : Nat) (br : Bool) : numO s k br 1 ≤ 255 := by
  unfold numO; split
  · have := num_lt s k 1; omega
  · omega
theorem numO_le_2 (s : ByteArray) (k : Nat) (br : Bool) : numO s k br 2 ≤ 65535 := by
  unfold numO; split
  · have := num_lt s k 2; omega
  · omega
theorem numO_le_4 (s : ByteArray) (k : Nat) (br : Bool) : numO s k br 4 ≤ 4294967295 := by
  unfold numO; split
  · have := num_lt s k 4; omega
  · omega
theorem U64_any (b : Nat) (s : ByteArray) (k : Nat) (br : Bool) (w : World) (hs : s.size ≤ 9223372036854775807) (hk : k ≤ s.size) (h : Cur w b s k br) :
    Calls Try.prog 57 #[.pointer (some ⟨b, 0, none⟩)] w fun e w' => e = .returned (.int .u64 (numO s k br 8)) ∧ Moved w w' b s (posO s k br (8 : Nat)) (brO s k br (8 : Nat)) := by
  rcases fits_cases s k br (8 : Nat) with ⟨rfl, hf⟩ | ⟨rfl, hn, hf⟩ | ⟨rfl, h0, h1, hf⟩
  · rw [numO_f hf, posO_f hf, brO_f hf]
    exact U64_br b s k w h
  · rw [numO_f hf, posO_f hf, brO_f hf]
    exact U64_f b s k w hs hk (by omega) h
  · rw [numO_t hf, posO_t hf, brO_t hf]
    exact U64_t b s k w hs (by omega) h
theorem numO_le_8 (s : ByteArray) (k : Nat) (br : Bool) : numO s k br 8 ≤ 18446744073709551615 := by
  unfold numO; split
  · have := num_lt s k 8; omega
  · omega
end Go.Proofs.Ytbimdlcgjpeheaa
