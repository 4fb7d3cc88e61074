/-
  A cursor's calls, one contract each for every state that it may be in.
-/
import Derived.Test.YtcofdiamlmlhfaaCurMoves
import Derived.Test.YtcofdiamlmlhfaaCurMore
namespace Go.Proofs.Ytcofdiamlmlhfaa
open Go.RowKit
set_option linter.unusedVariables false

theorem U8_any (b : Nat) (s : ByteArray) (k : Nat) (br : Bool) (w : World) (hs : s.size ≤ 9223372036854775807) (hk : k ≤ s.size) (h : Cur w b s k br) :
    Calls Try.prog 35 #[.pointer (some ⟨b, 0, none⟩)] w fun e w' => e = .returned (.int .u8 (numO s k br 1)) ∧ Moved w w' b s (posO s k br (1 : Nat)) (brO s k br (1 : Nat)) := by
  rcases fits_cases s k br (1 : Nat) with ⟨rfl, hf⟩ | ⟨rfl, hn, hf⟩ | ⟨rfl, h0, h1, hf⟩
  · rw [numO_f hf, posO_f hf, brO_f hf]
    exact U8_br b s k w h
  · rw [numO_f hf, posO_f hf, brO_f hf]
    exact U8_f b s k w hs hk (by omega) h
  · rw [numO_t hf, posO_t hf, brO_t hf]
    exact U8_t b s k w hs (by omega) h
theorem numO_le_1 (s : ByteArray) (k : Nat) (br : Bool) : numO s k br 1 ≤ 255 := by
  unfold numO; split
  · have := num_lt s k 1; omega
  · omega
theorem U16_any (b : Nat) (s : ByteArray) (k : Nat) (br : Bool) (w : World) (hs : s.size ≤ 9223372036854775807) (hk : k ≤ s.size) (h : Cur w b s k br) :
    Calls Try.prog 36 #[.pointer (some ⟨b, 0, none⟩)] w fun e w' => e = .returned (.int .u16 (numO s k br 2)) ∧ Moved w w' b s (posO s k br (2 : Nat)) (brO s k br (2 : Nat)) := by
  rcases fits_cases s k br (2 : Nat) with ⟨rfl, hf⟩ | ⟨rfl, hn, hf⟩ | ⟨rfl, h0, h1, hf⟩
  · rw [numO_f hf, posO_f hf, brO_f hf]
    exact U16_br b s k w h
  · rw [numO_f hf, posO_f hf, brO_f hf]
    exact U16_f b s k w hs hk (by omega) h
  · rw [numO_t hf, posO_t hf, brO_t hf]
    exact U16_t b s k w hs (by omega) h
theorem numO_le_2 (s : ByteArray) (k : Nat) (br : Bool) : numO s k br 2 ≤ 65535 := by
  unfold numO; split
  · have := num_lt s k 2; omega
  · omega
theorem numO_le_4 (s : ByteArray) (k : Nat) (br : Bool) : numO s k br 4 ≤ 4294967295 := by
  unfold numO; split
  · have := num_lt s k 4; omega
  · omega
theorem numO_le_8 (s : ByteArray) (k : Nat) (br : Bool) : numO s k br 8 ≤ 18446744073709551615 := by
  unfold numO; split
  · have := num_lt s k 8; omega
  · omega
end Go.Proofs.Ytcofdiamlmlhfaa
