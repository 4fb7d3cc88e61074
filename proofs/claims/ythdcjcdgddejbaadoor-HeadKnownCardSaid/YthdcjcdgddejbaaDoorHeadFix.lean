/-
  The fixed bytes in memory, and what the small functions of package head do with them: part, put, number, text.
-/
import Derived.Test.YthdcjcdgddejbaaDoorHeadMem
import Derived.Deep.QuietTactic
import Derived.BigQuiet
import Derived.IntWalk
import Derived.Laws.CopyRow
import Derived.Laws.Rows
import Derived.Laws.Tables
namespace Go.Proofs.YthdcjcdgddejbaaDoor
open Go.ChangeShapes Go.WideShapes Go.ChangeAt Go.RowKit
set_option linter.unusedVariables false

theorem fixed_len : Tryd.prog.arrayLen 51 = 20 := by kernel_rfl
theorem fixed_under : Tryd.prog.underlying 51 = some (.array (Tryd.prog.arrayLen 51) (Tryd.prog.elem 51)) := by kernel_rfl
theorem fixed_size (w : World) : (sizeOf (Tryd.prog.elem 51)).run Tryd.prog w = .ok 1 w := by kernel_rfl
theorem add_off (b q : Nat) : (⟨b, 0, none⟩ : Addr).add q = ⟨b, q, none⟩ := by unfold Addr.add; split <;> simp_all
theorem fixed_slice (w : World) (b p q : Nat) (h : p < q) (h' : q ≤ 20) :
    (Instr.sliceAt 51 (.pointer (some ⟨b, 0, none⟩)) (some (.int .i64 (p : Int))) (some (.int .i64 (q : Int))) (some (.int .i64 (q : Int)))).run Tryd.prog w = .ok (.slice (some ⟨b, p, none⟩) (q - p) (q - p)) w := by
  rw [run_sliceAt_array_lhm w 51 ⟨b, 0, none⟩ fixed_under .i64 .i64 .i64 p q q (by omega) (by omega) (Int.le_refl _) (by rw [fixed_len]; omega), fixed_size]
  unfold slicedAt
  simp only [Result.andThen_ok, Int.toNat_natCast, Nat.mul_one]
  rw [if_neg (by omega), add_off]

/-- Bytes, as cells. -/
def byv (l : List UInt8) : Array Value := (l.map fun b => Value.int .u8 (b.toNat : Int)).toArray
theorem byv_size (l : List UInt8) : (byv l).size = l.length := by simp [byv]
theorem byv_get (l : List UInt8) (i : Nat) (h : i < l.length) : (byv l)[i]? = some (.int .u8 (l[i].toNat : Int)) := by simp [byv, h]
theorem byv_set (l : List UInt8) (i : Nat) (v : UInt8) : (byv l).setIfInBounds i (.int .u8 (v.toNat : Int)) = byv (l.set i v) := by simp [byv, List.map_set]
theorem byv_one (l : List UInt8) : (byv l).all (·.oneCell') = true := by
  rw [Array.all_eq_true_iff_forall_mem]
  intro v hv
  simp only [byv, List.mem_toArray, List.mem_map] at hv
  obtain ⟨b, _, rfl⟩ := hv
  rfl
/-- Block g holds the fixed bytes l, and nothing else. -/
def Fx (w : World) (g : Nat) (l : List UInt8) : Prop := Blk w g 51 (byv l)
namespace Fx
variable {w w' : World} {g : Nat} {l : List UInt8}
theorem lt (h : Fx w g l) : g < w.heap.size := Blk.lt h
theorem cell (h : Fx w g l) (j : Nat) (hj : j < l.length) : w.cell? ⟨g, j, none⟩ = some (.int .u8 (l[j].toNat : Int)) := (Blk.cell h j).trans (byv_get l j hj)
theorem frozen (h : Fx w g l) (j : Nat) : w.frozen? ⟨g, j, none⟩ = false := Blk.frozen h j
theorem set_ (h : Fx w g l) (p : Nat) (v : UInt8) : Fx (w.setCell ⟨g, p, none⟩ (.int .u8 (v.toNat : Int))) g (l.set p v) := by
  have := Blk.set_ h p (.int .u8 (v.toNat : Int))
  rwa [byv_set] at this
theorem bts (h : Fx w g l) : Bts w g l := ⟨h.lt, fun j hj => ⟨h.cell j hj, h.frozen j⟩⟩
theorem new (w : World) (l : List UInt8) : Fx (w.alloc (.cells (byv l) 51)) w.heap.size l := Blk.new w _ _
theorem below {B : Nat} (h : Fx w g l) (hb : Below B w w') (hg : g < B) : Fx w' g l := Blk.below h hb hg
theorem alloc (h : Fx w g l) (o : Obj) : Fx (w.alloc o) g l := Blk.alloc h o
theorem grown {row : Option Nat} (h : Fx w g l) (hb : w.grownBy w' row) (hg : some g ≠ row) : Fx w' g l := Blk.grown h hb hg
/-- The whole array is read. -/
theorem load (h : Fx w g l) (hl : l.length = 20) : (Instr.loadAt 51 (.pointer (some ⟨g, 0, none⟩))).run Tryd.prog w = .ok (.agg (byv l)) w := by
  have hi : (Tryd.prog.info? 51).map (·.size) = some (byv l).size := by rw [byv_size, hl]; kernel_rfl
  simp only [Instr.loadAt, Instr.sureAddr, Sem.run_bind, Sem.run_pure, Result.andThen_ok]
  rw [run_loadVar_row w g 51 51 (byv l) (0, 0) _ h fixed_under rfl hi]
/-- Another one is laid over it. -/
theorem over (h : Fx w g l) (hl : l.length = 20) (l' : List UInt8) (hl' : l'.length = 20) : (Instr.storeAt 51 (.pointer (some ⟨g, 0, none⟩)) (.agg (byv l'))).run Tryd.prog w = .ok () (w.setRow g (byv l')) := by
  have hi : (Tryd.prog.info? 51).map (·.size) = some (byv l').size := by rw [byv_size, hl']; kernel_rfl
  simp only [Instr.storeAt, Instr.sureAddr, Sem.run_bind, Sem.run_pure, Result.andThen_ok]
  exact run_storeVar_row w g 51 51 (byv l) (byv l') h hi (by rw [byv_size, byv_size, hl, hl']) (byv_one l')
/-- The same two, as a walk leaves them. -/
theorem loadC (h : Fx w g l) (hl : l.length = 20) : (loadCellsFrom ⟨g, 0, none⟩ 0 20 #[]).run Tryd.prog w = .ok (byv l) w := by
  have := run_loadCells_list (P := Tryd.prog) w ⟨g, 0, none⟩ (byv l).toList (fun j v hv => by
    rw [add_off, Blk.cell h j]; simpa using hv)
  have e : (byv l).toList.length = 20 := by simp [byv, hl]
  rw [e] at this
  simpa [loadCells] using this
theorem storeC (h : Fx w g l) (hl : l.length = 20) (l' : List UInt8) (hl' : l'.length = 20) : (storeCells ⟨g, 0, none⟩ (byv l').toList 0).run Tryd.prog w = .ok () (w.setRow g (byv l')) := by
  have := run_storeCells_from (P := Tryd.prog) g 51 (byv l').toList 0 (byv l) w h (by simp [byv, hl, hl']) (fun v hv => (Array.all_eq_true_iff_forall_mem.1 (byv_one l')) v (by simpa using hv))
  simpa using this
theorem row (h : Fx w g l) (l' : List UInt8) : Fx (w.setRow g (byv l')) g l' := setRow_heap w g _ _ _ _ h
end Fx
theorem only_setRow {a w : World} {g : Nat} (h : a.grownBy w (some g)) (cs : Array Value) : a.grownBy (w.setRow g cs) (some g) :=
  h.trans ⟨rfl, rfl, rfl, by simp, fun k _ hk => setRow_other w g k cs fun e => hk (by rw [e])⟩

theorem part_any (b p q : Nat) (w : World) (h : p < q) (h' : q ≤ 20) :
    Calls Tryd.prog 27 #[.pointer (some ⟨b, 0, none⟩), .int .i64 (p : Int), .int .i64 (q : Int)] w fun e w' => e = .returned (.slice (some ⟨b, p, none⟩) (q - p) (q - p)) ∧ w = w' := by
  have hs := fixed_slice w b p q h h'
  go_enter Tryd.func27, Tryd.ntmps27
  go_wp2
  go_ret; exact ⟨rfl, rfl⟩

theorem text_any (b : Nat) (l : List UInt8) (t : ByteArray) (w : World) (hl : l.length = 20) (e : txt l = t) (h : Fx w b l) :
    Calls Tryd.prog 22 #[.pointer (some ⟨b, 0, none⟩)] w fun e w' => e = .returned (.string t) ∧ w = w' := by
  have ht := bytes_text w b 20 20 l h.bts hl.symm
  rw [e] at ht
  clear h e
  go_enter Tryd.func22, Tryd.ntmps22
  go_wp2_with (go_at_call 27; refine (part_any b 0 20 _ (by decide) (by decide)).mono ?_; rintro e w' ⟨rfl, rfl⟩)
  go_ret; exact ⟨rfl, rfl⟩
/-- Bytes in memory of which some are set anew. -/
theorem mid_set (P M R : List UInt8) (k p j : Nat) (v : UInt8) (T : List UInt8) (hp : P.length = p) (hM : M.length = k + 1) : (P ++ M ++ (T ++ R)).set (p + k) v = P ++ M.take k ++ (v :: T ++ R) := by
  obtain ⟨A, c, rfl⟩ : ∃ A c, M = A ++ [c] := by
    have hne : M ≠ [] := fun e => by simp [e] at hM
    exact ⟨M.dropLast, M.getLast hne, (List.dropLast_concat_getLast hne).symm⟩
  have hA : A.length = k := by simpa using hM
  rw [List.take_left' hA, List.append_assoc P, List.set_append_right _ _ (by omega), hp, show p + k - p = k by omega]
  rw [List.append_assoc A, List.set_append_right _ _ (by omega), hA, Nat.sub_self]
  simp

set_option maxHeartbeats 1000000 in
theorem put_any (b p m q : Nat) (n : Nat) (P M R : List UInt8) (w : World) (hq : q = p + m) (hm : 1 ≤ m) (hp : P.length = p) (hM : M.length = m) (hR : (P ++ M ++ R).length = 20) (hn : n ≤ 4294967295) (h : Fx w b (P ++ M ++ R)) :
    Calls Tryd.prog 19 #[.pointer (some ⟨b, 0, none⟩), .int .i64 (p : Int), .int .i64 (q : Int), .int .u32 (n : Int)] w fun e w' => e = .returned (.tuple #[]) ∧ Fx w' b (P ++ be m n ++ R) ∧ w.grownBy w' (some b) := by
  have hl : p + m ≤ 20 := by simp at hR; omega
  have em : q - p = m := by omega
  have l0 : p < q := by omega
  have l1 : q ≤ 20 := by omega
  have H := Lib.hid h
  have HR := Lib.hid hR
  have HE := Lib.hid em
  clear h hR hq em
  go_enter Tryd.func19, Tryd.ntmps19
  go_wp2_with fail
  refine (part_any b p q _ l0 l1).mono ?_
  rintro e w' ⟨rfl, rfl⟩
  rw [HE.out]
  clear l0 l1
  go_wp2
  go_loopw [9, 3] (fun x y wr => ∃ j : Nat, j ≤ m ∧ x = .int .i64 ((m : Int) - 1 - (j : Int)) ∧ y = .int .u32 ((n / 256 ^ j : Nat) : Int) ∧ Fx wr b (P ++ M.take (m - j) ++ (be j n ++ R)) ∧ w.grownBy wr (some b)) (fun x _ _ => (intOf x + 1).toNat)
  case atStart => exact ⟨0, Nat.zero_le _, by go_num, val_int (by simp), by rw [Nat.sub_zero, ← hM, List.take_length]; exact H.out, .refl _ _⟩
  case round =>
    obtain ⟨j, hj, rfl, rfl, hB, hG⟩ := hrel
    by_cases hlt : j < m
    · obtain ⟨k, hk⟩ : ∃ k : Nat, k + 1 + j = m := ⟨m - 1 - j, by omega⟩
      obtain ⟨r, hr⟩ : ∃ r, r = n / 256 ^ j := ⟨_, rfl⟩
      have hrn : r ≤ 4294967295 := by rw [hr]; exact Nat.le_trans (Nat.div_le_self _ _) hn
      have ek : (m : Int) - 1 - (j : Int) = (k : Int) := by omega
      rw [ek, ← hr]
      have e1 : m - j = k + 1 := by omega
      have e2 : m - (j + 1) = k := by omega
      rw [e1] at hB
      have hT : (M.take (k + 1)).length = k + 1 := by rw [List.length_take]; omega
      have hlen : p + k < (P ++ M.take (k + 1) ++ (be j n ++ R)).length := by simp [hp, hT]; omega
      have hset := Fx.set_ hB (p + k) (UInt8.ofNat r)
      rw [mid_set P (M.take (k + 1)) R k p j (UInt8.ofNat r) (be j n) hp hT, List.take_take, Nat.min_eq_left (by omega : k ≤ k + 1)] at hset
      have ev : ((UInt8.ofNat r).toNat : Int) = (r : Int) % 256 := by rw [UInt8.toNat_ofNat']; simp
      rw [ev, hr, show UInt8.ofNat (n / 256 ^ j) :: be j n ++ R = be (j + 1) n ++ R from rfl] at hset
      rw [← hr] at hset
      have c1 := Fx.cell hB (p + k) hlen
      have f1 := Fx.frozen hB (p + k)
      have HS := Lib.hid hset
      have HG := Lib.hid hG
      have HRR := Lib.hid hr
      obtain ⟨c, hc⟩ : ∃ c : Int, c = ((P ++ M.take (k + 1) ++ (be j n ++ R))[p + k].toNat : Int) := ⟨_, rfl⟩
      rw [← hc] at c1
      clear hset hB hG hr hc hT hlen ev e1 ek
      go_wp2
      go_roundw
      case rel => exact ⟨j + 1, by omega, by go_num, val_int (by rw [HRR.out, Nat.pow_succ, ← Nat.div_div_eq_div_mul]; omega), by rw [e2]; exact HS.out, only_setCell HG.out rfl _⟩
      case measure => simp [intOf]
    · obtain rfl : j = m := by omega
      rw [Nat.sub_self, List.take_zero, List.append_nil] at hB
      have HB := Lib.hid hB
      clear hB
      go_wp2
      go_end0
      exact ⟨rfl, by rw [List.append_assoc]; exact HB.out, hG⟩
theorem or_byte32 (n c : Nat) (hn : n ≤ 16777215) (hc : c < 256) : bits .or .u32 ((n : Int) * 256) (c : Int) = ((n * 256 + c : Nat) : Int) := by
  have e : ((n : Int) * 256) = ((n * 256 : Nat) : Int) := by omega
  rw [e, u32_or_nat (n * 256) c (by omega) (by omega)]
  have h : n * 256 ||| c = n * 256 + c := by
    have := Nat.shiftLeft_add_eq_or_of_lt (b := c) (i := 8) (by omega) n
    rw [Nat.shiftLeft_eq, show (2 : Nat) ^ 8 = 256 from rfl] at this
    exact this.symm
  rw [h]

set_option maxHeartbeats 1000000 in
theorem number_any (b p m q : Nat) (P M R : List UInt8) (r : Nat) (w : World) (hq : q = p + m) (hm : 1 ≤ m) (hm4 : m ≤ 4) (hp : P.length = p) (hM : M.length = m) (hR : (P ++ M ++ R).length = 20) (hr : nm M = r) (h : Fx w b (P ++ M ++ R)) :
    Calls Tryd.prog 36 #[.pointer (some ⟨b, 0, none⟩), .int .i64 (p : Int), .int .i64 (q : Int)] w fun e w' => e = .returned (.int .u32 (r : Int)) ∧ w = w' := by
  have hl : p + m ≤ 20 := by simp at hR; omega
  have em : q - p = m := by omega
  have l0 : p < q := by omega
  have l1 : q ≤ 20 := by omega
  have H := Lib.hid h
  have HR := Lib.hid hR
  have HE := Lib.hid em
  have HA := Lib.hid hr
  clear h hR hq em hr
  go_enter Tryd.func36, Tryd.ntmps36
  go_wp2_with fail
  refine (part_any b p q _ l0 l1).mono ?_
  rintro e w' ⟨rfl, rfl⟩
  rw [HE.out]
  clear l0 l1
  go_wp2
  go_loopw [15, 7] (fun x y wr => ∃ j : Nat, j ≤ m ∧ x = .int .i64 (j : Int) ∧ y = .int .u32 ((nm (M.take j) : Nat) : Int) ∧ w = wr) (fun x _ _ => m - (intOf x).toNat)
  case atStart => exact ⟨0, Nat.zero_le _, rfl, rfl, rfl⟩
  case round =>
    obtain ⟨j, hj, rfl, rfl, rfl⟩ := hrel
    by_cases hlt : j < m
    · have hjM : j < M.length := by omega
      obtain ⟨n, hn⟩ : ∃ n, n = nm (M.take j) := ⟨_, rfl⟩
      have hn1 : n ≤ 16777215 := by
        have h1 := nm_lt (M.take j)
        have h2 : (M.take j).length ≤ 3 := by rw [List.length_take]; omega
        have h3 : 256 ^ (M.take j).length ≤ 256 ^ 3 := Nat.pow_le_pow_right (by omega) h2
        rw [hn]; omega
      have es : nm (M.take (j + 1)) = n * 256 + M[j].toNat := by rw [List.take_add_one, List.getElem?_eq_getElem hjM, hn]; exact nm_snoc _ _
      obtain ⟨c, hc⟩ : ∃ c, c = M[j].toNat := ⟨_, rfl⟩
      have hc1 : c < 256 := by rw [hc]; exact M[j].toNat_lt
      have hlen : p + j < (P ++ M ++ R).length := by have := HR.out; omega
      have c1 := Fx.cell H.out (p + j) hlen
      have eg : (P ++ M ++ R)[p + j] = M[j] := by
        rw [List.getElem_append_left (by simp; omega), List.getElem_append_right (by omega)]
        simp [hp]
      rw [eg, ← hc] at c1
      rw [← hc] at es
      rw [← hn]
      have e2 := or_byte32 n c hn1 hc1
      rw [← es] at e2
      have HE2 := Lib.hid e2
      clear hn es hc eg hlen e2 hjM
      go_wp2
      go_roundw
      case rel => exact ⟨j + 1, by omega, by go_num, by first | rw [← HE2.out] | exact val_int HE2.out, by first | rfl | trivial⟩
      case measure => simp [intOf]; omega
    · obtain rfl : j = m := by omega
      rw [show M.take j = M by rw [← hM, List.take_length], HA.out]
      go_wp2
      go_ret; exact ⟨rfl, rfl⟩
end Go.Proofs.YthdcjcdgddejbaaDoor
