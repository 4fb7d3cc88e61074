/-
  Bits, bytes in memory, and plain facts for JoinPasses. No statement of the document is here.
-/
import Derived.Test.YthnokkcpmikajaaDoorJoinBytes
import Derived.Deep.AppendLies
namespace Go.Proofs.YthnokkcpmikajaaDoor.joinPasses
open Go.ChangeShapes Go.WideShapes Go.ChangeAt Go.RowKit
set_option linter.unusedVariables false

/-! ### Bits -/
theorem low15 : ∀ c : Fin 256, bits .or .u8 16 (bits .and .u8 ((c.val : Nat) : Int) 15) = ((16 + c.val % 16 : Nat) : Int) := by decide +kernel
theorem mask17 : ∀ c : Fin 256, c.val / 16 = 1 → bits .and .u8 ((c.val : Nat) : Int) 17 = ((16 + c.val % 2 : Nat) : Int) := by decide +kernel
theorem u8_of (n : Nat) (h : n < 256) : ∃ v : UInt8, v.toNat = n := ⟨UInt8.ofNat n, by rw [UInt8.toNat_ofNat']; exact Nat.mod_eq_of_lt h⟩
/-- A byte of which some bits are turned. -/
theorem turned (a q : Nat) (ha : a < 256) (hq : q < 256) : ∃ v : UInt8, bits .xor .u8 (a : Int) (q : Int) = (v.toNat : Int) ∧ (q < 16 → v.toNat / 16 = a / 16) ∧ (q % 2 = 0 → v.toNat % 2 = a % 2) := by
  have hx : a ^^^ q < 256 := Nat.xor_lt_two_pow (n := 8) (by omega) (by omega)
  obtain ⟨v, hv⟩ := u8_of _ hx
  refine ⟨v, by rw [u8_xor_nat _ _ (by omega) (by omega), hv], fun h => ?_, fun h => ?_⟩
  · rw [hv]
    have := Nat.xor_div_two_pow (a := a) (b := q) (n := 4)
    simpa [Nat.div_eq_of_lt h] using this
  · rw [hv]
    have := Nat.xor_mod_two_pow (a := a) (b := q) (n := 1)
    simpa [h] using this
theorem and14 : ∀ q : Fin 256, ∃ k : Fin 8, bits .and .u8 ((q.val : Nat) : Int) 14 = ((2 * k.val : Nat) : Int) := by decide +kernel
theorem and1 : ∀ q : Fin 256, ∃ k : Fin 2, bits .and .u8 ((q.val : Nat) : Int) 1 = ((k.val : Nat) : Int) := by decide +kernel
/-! ### Bytes in memory -/
theorem text_bytes2 (w : World) (s : ByteArray) :
    ∃ cap w', (convert 9 36 (.string s)).run Tryd.prog w = .ok (.slice (some ⟨w.heap.size, 0, none⟩) s.size cap) w' ∧ Bts w' w.heap.size s.data.toList ∧ Below w.heap.size w w' ∧ w'.heap.size = w.heap.size + 1 ∧ s.size ≤ cap := by
  obtain ⟨cap, w', h1, h2, h3, h4⟩ := text_bytes w s
  have h := run_bytes_of_string (P := Tryd.prog) w 9 36 5 s Tryd.underlying9 Tryd.underlying36 Tryd.underlying5
  rw [h1] at h
  injection h with h5 h6
  injection h5 with _ _ h7
  exact ⟨cap, w', h1, h2, h3, h4, by rw [h7]; exact grownCap_ge w s.size 0 5⟩
theorem Bts.front {W : World} {g : Nat} {l : List UInt8} (h : Bts W g l) (r : List UInt8) (hr : ∃ t, l = r ++ t) : Bts W g r := by
  obtain ⟨t, rfl⟩ := hr
  refine ⟨h.1, fun j hj => ?_⟩
  have q := h.2 j (by rw [List.length_append]; omega)
  rw [List.getElem_append_left hj] at q
  exact q
theorem Bts.of_own {W : World} {base n : Nat} {v : Value} {l : List UInt8} (h : W.ownsRow base 5 1 v n (l.map fun b => Value.int .u8 (b.toNat : Int))) (h0 : 0 < l.length) : ∃ g cap, v = .slice (some ⟨g, 0, none⟩) n cap ∧ base ≤ g ∧ Bts W g l ∧ n = l.length := by
  obtain ⟨hl, h | ⟨g, cap, cur, rfl, hb, hg, hn, _, hs, ht⟩⟩ := h
  · simp at hl; omega
  · have hln : n = l.length := by simp at hl; omega
    refine ⟨g, cap, rfl, hb, ⟨(Array.getElem?_eq_some_iff.1 hg).1, fun j hj => ⟨?_, ?_⟩⟩, hln⟩
    · rw [cell_of_row W g j cur 5 (0, 0) hg, ← Array.getElem?_toList]
      have : (cur.toList.take (n * 1))[j]? = some (.int .u8 (l[j].toNat : Int)) := by rw [ht]; simp [hj]
      rw [List.getElem?_take_of_lt (by omega)] at this
      exact this
    · simp [World.frozen?, hg]
theorem ex_strcat_sum {ρ : Operand → Value} {o : Oper} {w : World} (t u : TypeId) (x y : Operand) (ho : o.op = .binOp .add t x y u) (a b c : ByteArray) (hx : ρ x = .string a) (hy : ρ y = .string b) (hz : a.size + b.size ≤ 9223372036854775807) (h : c = a ++ b) :
    (execOp ρ o).run Tryd.prog w = .ok (.value (.string c)) w := by
  subst h
  unfold execOp
  rw [ho]
  have hr := run_string_add_sum (P := Tryd.prog) w a b hz
  simp [hx, hy, eqGuard, Go.binOp, hr]
theorem slice_to (w : World) (g n k cap : Nat) (hk : k ≤ cap) : (Instr.sliceAt 36 (.slice (some ⟨g, 0, none⟩) n cap) none (some (.int .i64 (k : Int))) none).run Tryd.prog w = .ok (.slice (some ⟨g, 0, none⟩) k cap) w := by
  have hu : Tryd.prog.underlying 36 = some (.slice (Tryd.prog.elem 36)) := by kernel_rfl
  have l2 : (k : Int) ≤ (cap : Int) := by omega
  rw [run_sliceAt_slice w _ _ _ _ _ hu]
  simp [go_sem, l2]
theorem info8p : (Tryd.prog.info? 5).map (fun i => (i.zero, i.size, i.bytes)) = some (some (.int .u8 0), 1, 1) := by kernel_rfl
theorem own_none (w : World) (base : Nat) (hb : base ≤ w.heap.size) : (w.alloc (.cells #[] 5)).ownsRow base 5 1 (.slice (some ⟨w.heap.size, 0, none⟩) 0 0) 0 [] :=
  World.ownsRow_made w #[] 0 hb (by unfold maxLen; omega) rfl

/-- The option that the bytes are, as long as a form's body. -/
theorem got_form (f n : Nat) (h : (f = 0 ∧ n = 10) ∨ (f = 1 ∧ n = 14) ∨ (f = 2 ∧ n = 22)) (c d : Nat) (r : List UInt8) : ∃ x, got n c d r = some x ∧ x.form = (f : Int) := by
  rcases h with ⟨rfl, rfl⟩ | ⟨rfl, rfl⟩ | ⟨rfl, rfl⟩
  · exact ⟨_, rfl, rfl⟩
  · exact ⟨_, rfl, rfl⟩
  · exact ⟨_, rfl, rfl⟩
theorem got_alike (f n : Nat) (h : (f = 0 ∧ n = 10) ∨ (f = 1 ∧ n = 14)) (c c' d : Nat) (hc : c' % 2 = c % 2) (r : List UInt8) : got n c' d r = got n c d r := by
  rcases h with ⟨rfl, rfl⟩ | ⟨rfl, rfl⟩
  · rw [got_10, got_10, got0, got0, hc]
  · rw [got_14, got_14, got1, got1, hc]
theorem front_bytes (L : List UInt8) (n : Nat) (h : n ≤ L.length) (h2 : 2 ≤ n) : ∃ u v r t, L = (u :: v :: r) ++ t ∧ r.length + 2 = n := by
  have hl : (L.take n).length = n := by rw [List.length_take]; omega
  have ht := List.take_append_drop n L
  match e : L.take n, hl with
  | u :: v :: r, hl => exact ⟨u, v, r, L.drop n, by rw [← e, ht], hl⟩
  | [], hl => simp at hl; omega
  | [u], hl => simp at hl; omega
theorem Bts.other {W : World} {g : Nat} {l : List UInt8} (h : Bts W g l) {k : Nat} (hne : g ≠ k) (i : Nat) (u : Value) : Bts (W.setCell ⟨k, i, none⟩ u) g l := h.same (Below.heap_setCell W ⟨k, i, none⟩ u g hne) (by simp [World.setCell])
theorem Blk.other_ {w : World} {g : Nat} {t : TypeId} {cs : Array Value} (h : Blk w g t cs) {k : Nat} (hne : g ≠ k) (i : Nat) (u : Value) : Blk (w.setCell ⟨k, i, none⟩ u) g t cs := h.same (Below.heap_setCell w ⟨k, i, none⟩ u g hne)
theorem Tbl.set_ {w : World} (h : Tbl w) {k : Nat} (hk : 0 < k) (i : Nat) (u : Value) : Tbl (w.setCell ⟨k, i, none⟩ u) := h.under (B := k) ((Below.refl k w).setCell (p := ⟨k, i, none⟩) (Nat.le_refl k) u) hk
theorem got_third (c c' d d' : Nat) (r : List UInt8) : got 22 c' d' r = got 22 c d r := rfl
end Go.Proofs.YthnokkcpmikajaaDoor.joinPasses
