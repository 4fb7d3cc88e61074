/-
  The padding of a text (sha.padding), by its walk.
-/
import Derived.Test.YtcbakfnpbhgjoaaDoorShaSmall
import Derived.Laws.MakeOwn
import Derived.Laws.IdiomStrings
import Derived.Laws.Bits64
namespace Go.Proofs.YtcbakfnpbhgjoaaDoor
open Go.ChangeShapes Go.WideShapes Go.ChangeAt Go.RowKit
set_option linter.unusedVariables false

abbrev txt (l : List UInt8) : ByteArray := ⟨l.toArray⟩
theorem info8 : (Tryd.prog.info? 5).map (fun i => (i.zero, i.size, i.bytes)) = some (some (.int .u8 0), 1, 1) := by kernel_rfl
/-- A new slice of bytes. -/
theorem make_any (W : World) (n : Nat) (k : IntKind) (hn : n ≤ 1200) : (Instr.makeSlice 35 (.int k (n : Int)) (.int k (n : Int))).run Tryd.prog W = .ok (.slice (some ⟨W.heap.size, 0, none⟩) n n) (W.alloc (.cells (byv (List.replicate n 0)) 5)) := by
  have hi := info8
  cases hq : Tryd.prog.info? 5 with
  | none => simp [hq] at hi
  | some i =>
    simp [hq] at hi
    obtain ⟨hz, h1, h2⟩ := hi
    have hr := run_make (P := Tryd.prog) W 35 5 i _ Tryd.underlying35 hq hz k k n n (by omega) (Int.le_refl _) (by rw [h2]; omega) (by omega)
    rw [hr, h1, Int.toNat_natCast, Nat.mul_one]
    have e : madeCells (Value.cells (.int .u8 0)) n = byv (List.replicate n 0) := by
      apply Array.toList_inj.1
      show (madeCells #[.int .u8 0] n).toList = _
      rw [toList_madeCells_one, byv, List.map_replicate]; rfl
    rw [e]
/-- A slice of bytes that begins its block, made a text. -/
theorem bytes_txt (W : World) (g cap n : Nat) (l : List UInt8) (h : Blk W g 5 (byv l)) (hn : n = l.length) :
    (convert 35 9 (.slice (some ⟨g, 0, none⟩) n cap)).run Tryd.prog W = .ok (.string (txt l)) W := by
  subst hn
  exact run_convert_bytes_back W 35 9 5 ⟨g, 0, none⟩ cap l Tryd.underlying35 Tryd.underlying5 Tryd.underlying9 fun j hj => by
    rw [add_off]; exact (h.cell j).trans (byv_get l j hj)

/-- What the padding is while its count is laid: i bytes of it are there. -/
def padAt (z N i : Nat) : List UInt8 := 128 :: (List.replicate z 0 ++ (List.replicate (8 - i) 0 ++ (cnt N).drop (8 - i)))
theorem padAt_length (z N i : Nat) (hi : i ≤ 8) : (padAt z N i).length = z + 9 := by simp [padAt, cnt_length] <;> omega
theorem padAt_start (z N : Nat) : (List.replicate (z + 9) (0 : UInt8)).set 0 128 = padAt z N 0 := by
  rw [show z + 9 = (z + 8) + 1 by omega, List.replicate_succ, List.set_cons_zero, padAt, List.drop_of_length_le (by simp [cnt_length]), List.append_nil, List.replicate_append_replicate]
theorem cnt_get (N k : Nat) (hk : k < 8) : (cnt N)[k]'(by rw [cnt_length]; exact hk) = UInt8.ofNat (N >>> (8 * (7 - k))) := by simp [cnt]
theorem padAt_next (z N i : Nat) (hi : i < 8) : (padAt z N i).set (z + 8 - i) (UInt8.ofNat (N >>> (8 * i))) = padAt z N (i + 1) := by
  have e : 8 - i = (8 - (i + 1)) + 1 := by omega
  have ed : (cnt N).drop (8 - (i + 1)) = UInt8.ofNat (N >>> (8 * i)) :: (cnt N).drop (8 - i) := by
    rw [List.drop_eq_getElem_cons (by rw [cnt_length]; omega), cnt_get N _ (by omega)]
    rw [show 7 - (8 - (i + 1)) = i by omega, show 8 - (i + 1) + 1 = 8 - i by omega]
  unfold padAt
  rw [show z + 8 - i = (z + (8 - (i + 1))) + 1 by omega, List.set_cons_succ, List.set_append_right _ _ (by simp), List.length_replicate, show z + (8 - (i + 1)) - z = 8 - (i + 1) by omega, ed]
  conv => lhs; rw [show List.replicate (8 - i) (0 : UInt8) = List.replicate (8 - (i + 1)) 0 ++ [0] by rw [e, List.replicate_succ']]
  rw [List.append_assoc, List.set_append_right _ _ (by simp), List.length_replicate, Nat.sub_self]
  rfl
theorem padAt_end (z n i : Nat) (hz : z = zrs n) (hi : i ≤ 8) (h0 : (8 * n) >>> (8 * i) = 0) : padAt z (8 * n) i = pads n := by
  have e : List.replicate (8 - i) (0 : UInt8) = (cnt (8 * n)).take (8 - i) := by
    apply List.ext_getElem (by rw [List.length_take, cnt_length, List.length_replicate]; omega)
    intro k h1 h2
    have hk : k < 8 - i := by simpa using h1
    rw [List.getElem_replicate, List.getElem_take, cnt_get _ _ (by omega)]
    have : (8 * n) >>> (8 * (7 - k)) = 0 := by
      rw [show 8 * (7 - k) = 8 * i + 8 * (7 - k - i) by omega, Nat.shiftRight_add, h0, Nat.zero_shiftRight]
    rw [this]; rfl
  rw [padAt, e, List.take_append_drop, pads, hz]

set_option maxHeartbeats 2000000 in
theorem padding_any (n : Nat) (w : World) (hn : n < 1152921504606846976) :
    Calls Tryd.prog 70 #[.int .u64 (n : Int)] w fun e w' => e = .returned (.string (txt (pads n))) ∧ Below w.heap.size w w' := by
  obtain ⟨z, hz⟩ : ∃ z, z = zrs n := ⟨_, rfl⟩
  have hzl : z ≤ 63 := by rw [hz]; unfold zrs; omega
  have hzr : (IntKind.u64.wrap (55 - (n : Int))).tmod 64 = (z : Int) := by
    rw [IntKind.wrap_u64, tmod_of_emod, hz]; unfold zrs; omega
  have hct : IntKind.u64.wrap ((n : Int) * 8) = ((8 * n : Nat) : Int) := by rw [IntKind.wrap_u64]; omega
  have hmk := fun W => make_any W (z + 9) .u64 (by omega)
  rw [show ((z + 9 : Nat) : Int) = 1 + (z : Int) + 8 by omega] at hmk
  have HZ := Lib.hid hz
  clear hz
  go_enter Tryd.func70, Tryd.ntmps70
  go_wp2
  obtain ⟨W0, hW0⟩ : ∃ W0, W0 = w.alloc (.cells ((byv (List.replicate (z + 9) 0)).setIfInBounds 0 (.int .u8 128)) 5) := ⟨_, rfl⟩
  have e0 : (byv (List.replicate (z + 9) 0)).setIfInBounds 0 (.int .u8 128) = byv (padAt z (8 * n) 0) := by
    rw [show (Value.int .u8 128) = .int .u8 (((128 : UInt8).toNat : Nat) : Int) by rfl, byv_set, padAt_start]
  have k0 : Blk W0 w.heap.size 5 (byv (padAt z (8 * n) 0)) := by rw [hW0, e0]; exact Blk.new w _ _
  have kb : Below w.heap.size w W0 := by rw [hW0]; exact (Below.refl _ w).alloc (Nat.le_refl _) _
  rw [← hW0]
  have K0 := Lib.hid k0
  have KB := Lib.hid kb
  clear hW0 e0 k0 kb hmk hct hzr
  go_loopw [5, 6] (fun c k wr => ∃ i : Nat, i ≤ 8 ∧ c = .int .u64 (((8 * n) >>> (8 * i) : Nat) : Int) ∧ k = .int .i64 ((z + 8 : Int) - (i : Int)) ∧ Blk wr w.heap.size 5 (byv (padAt z (8 * n) i)) ∧ Below w.heap.size w wr) (fun _ k _ => (intOf k).toNat)
  case atStart => exact ⟨0, by decide, by simp, congrArg (Value.int .i64) (by omega), K0.out, KB.out⟩
  case round =>
    clear K0 KB
    obtain ⟨i, hi, rfl, rfl, hk, hb⟩ := hrel
    have hl := padAt_length z (8 * n) i hi
    by_cases h0 : (8 * n) >>> (8 * i) = 0
    · have ht := bytes_txt wr w.heap.size (z + 9) (z + 9) _ hk hl.symm
      rw [padAt_end z n i HZ.out hi h0] at ht
      have HB := Lib.hid hb
      rw [h0]
      clear hk hb hl h0
      go_wp2
      go_ret; exact ⟨rfl, HB.out⟩
    · have h8 : i < 8 := by
        rcases Nat.lt_or_ge i 8 with h | h
        · exact h
        · exfalso; apply h0
          rw [show 8 * i = 64 by omega, Nat.shiftRight_eq_div_pow]
          exact Nat.div_eq_of_lt (by omega)
      obtain ⟨v, hcell⟩ : ∃ v, wr.cell? ⟨w.heap.size, z + 8 - i, none⟩ = some v := ⟨_, (hk.cell (z + 8 - i)).trans (byv_get _ _ (by omega))⟩
      have hfro := hk.frozen (z + 8 - i)
      have hn' := hk.set_ (z + 8 - i) (.int .u8 ((UInt8.ofNat ((8 * n) >>> (8 * i))).toNat : Int))
      rw [byv_set, padAt_next z (8 * n) i h8, ofNat_mod] at hn'
      have hsh : (8 * n) >>> (8 * (i + 1)) = (8 * n) >>> (8 * i) / 256 := by
        rw [show 8 * (i + 1) = 8 * i + 8 by omega, Nat.shiftRight_add, Nat.shiftRight_eq_div_pow _ 8]
      obtain ⟨q, hq⟩ : ∃ q : Nat, q = z + 8 - i := ⟨_, rfl⟩
      have hqi : (z + 8 : Int) - (i : Int) = (q : Int) := by omega
      rw [← hq] at hcell hfro hn'
      rw [hqi]
      obtain ⟨c, hc⟩ : ∃ c, c = (8 * n) >>> (8 * i) := ⟨_, rfl⟩
      rw [← hc] at h0 hn' hsh ⊢
      have hcp : (0 : Int) < c := by omega
      have HN := Lib.hid hn'
      have HB := Lib.hid hb
      have HS := Lib.hid hsh
      have hqz : q < z + 9 := by omega
      have HQ := Lib.hid hqi
      clear hn' hb hsh hc hk hl hq hqi
      go_wp2
      go_roundw
      case rel => exact ⟨i + 1, by omega, by rw [HS.out]; go_num, by have := HQ.out; go_num, HN.out, HB.out.setCell (p := ⟨w.heap.size, q, none⟩) (Nat.le_refl _) _⟩
      case measure => simp [intOf]; have := HQ.out; omega
end Go.Proofs.YtcbakfnpbhgjoaaDoor
