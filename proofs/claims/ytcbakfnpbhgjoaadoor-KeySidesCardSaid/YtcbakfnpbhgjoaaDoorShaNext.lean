/-
  A block's words, each by its walk: those that are its bytes (sha.givenOf), and further ones (sha.nextOf and its closure).
-/
import Derived.Test.YtcbakfnpbhgjoaaDoorShaRound
namespace Go.Proofs.YtcbakfnpbhgjoaaDoor
open Go.ChangeShapes Go.WideShapes Go.ChangeAt Go.RowKit
set_option linter.unusedVariables false

/-- Words, and bytes, as cells. -/
def wov (l : List Nat) : Array Value := (l.map fun n : Nat => Value.int .u32 (n : Int)).toArray
def byv (l : List UInt8) : Array Value := (l.map fun b => Value.int .u8 (b.toNat : Int)).toArray
theorem wov_size (l : List Nat) : (wov l).size = l.length := by simp [wov]
theorem wov_get (l : List Nat) (i : Nat) (h : i < l.length) : (wov l)[i]? = some (.int .u32 ((l.getD i 0 : Nat) : Int)) := by simp [wov, h]
theorem wov_set (l : List Nat) (i n : Nat) : (wov l).setIfInBounds i (.int .u32 (n : Int)) = wov (l.set i n) := by simp [wov, List.map_set]
theorem wov_one (l : List Nat) : (wov l).all (·.oneCell') = true := by
  rw [Array.all_eq_true_iff_forall_mem]
  intro v hv
  simp only [wov, List.mem_toArray, List.mem_map] at hv
  obtain ⟨b, _, rfl⟩ := hv
  rfl
theorem byv_size (l : List UInt8) : (byv l).size = l.length := by simp [byv]
theorem byv_get (l : List UInt8) (i : Nat) (h : i < l.length) : (byv l)[i]? = some (.int .u8 (l[i].toNat : Int)) := by simp [byv, h]
theorem byv_num (l : List UInt8) (i : Nat) (h : i < l.length) : (byv l)[i]? = some (.int .u8 (((nums l).getD i 0 : Nat) : Int)) := by simp [byv, nums, h]
theorem byv_set (l : List UInt8) (i : Nat) (v : UInt8) : (byv l).setIfInBounds i (.int .u8 (v.toNat : Int)) = byv (l.set i v) := by simp [byv, List.map_set]
theorem byv_one (l : List UInt8) : (byv l).all (·.oneCell') = true := by
  rw [Array.all_eq_true_iff_forall_mem]
  intro v hv
  simp only [byv, List.mem_toArray, List.mem_map] at hv
  obtain ⟨b, _, rfl⟩ := hv
  rfl

theorem back_any (g : Nat) (l : List Nat) (t n : Nat) (w : World) (hl : l.length = 16) (hn : n ≤ t) (ht : t ≤ 64) (h : Blk w g 133 (wov l)) (h' : Blk w (g + 1) 3 #[.int .i64 (t : Int)]) :
    Calls Tryd.prog 106 #[.int .i64 (n : Int), .pointer (some ⟨g, 0, none⟩), .pointer (some ⟨g + 1, 0, none⟩)] w fun e w' => e = .returned (.int .u32 ((l.getD ((t - n) % 16) 0 : Nat) : Int)) ∧ w = w' := by
  have c0 := h'.cell 0
  have c1 : w.cell? ⟨g, (t - n) % 16, none⟩ = some (.int .u32 ((l.getD ((t - n) % 16) 0 : Nat) : Int)) := (h.cell _).trans (wov_get l _ (by omega))
  obtain ⟨v, hv⟩ : ∃ v, v = l.getD ((t - n) % 16) 0 := ⟨_, rfl⟩
  rw [← hv] at c1 ⊢
  clear hv h h'
  go_enter Tryd.func106, Tryd.ntmps106
  go_wp2
  go_ret; exact ⟨rfl, rfl⟩
/-- The closure, asked for the word n places back, whatever the world. -/
def Backs (g : Nat) (l : List Nat) (t : Nat) (n : Int) (v : Nat) : Prop := ∀ W, Blk W g 133 (wov l) → Blk W (g + 1) 3 #[.int .i64 (t : Int)] →
  Calls Tryd.prog 106 #[.int .i64 n, .pointer (some ⟨g, 0, none⟩), .pointer (some ⟨g + 1, 0, none⟩)] W fun e w' => e = .returned (.int .u32 (v : Int)) ∧ W = w'
theorem backs (g : Nat) (l : List Nat) (t n : Nat) (hl : l.length = 16) (hn : n ≤ t) (ht : t ≤ 64) : Backs g l t (n : Int) (l.getD ((t - n) % 16) 0) :=
  fun W h h' => back_any g l t n W hl hn ht h h'

/-- What has been gathered of a word behind j bytes. -/
def pgv (b : List Nat) (t : Nat) : Nat → Nat
  | 0 => 0
  | j + 1 => pgv b t j * 256 + b.getD (4 * t + j) 0
theorem pgv_all (b : List Nat) (t : Nat) : pgv b t 4 = gvn b t := by simp [pgv, gvn]
theorem pgv_lt {b : List Nat} (h : Bys b) (t : Nat) : ∀ j, pgv b t j < 256 ^ j
  | 0 => by simp [pgv]
  | j + 1 => by
    have h1 := pgv_lt h t j
    have h2 := h (4 * t + j)
    rw [pgv, Nat.pow_succ]; omega
theorem or_byte (x b : Nat) (hx : x < 16777216) (hb : b ≤ 255) : bits .or .u32 ((x : Int) * 256 % 4294967296) (b : Int) = ((x * 256 + b : Nat) : Int) := by
  rw [show ((x : Int) * 256 % 4294967296) = ((x * 256 : Nat) : Int) by omega, u32_or_nat _ _ (by omega) (by omega)]
  congr 1
  have := Nat.shiftLeft_add_eq_or_of_lt (show b < 2 ^ 8 by omega) x
  rw [Nat.shiftLeft_eq] at this
  exact this.symm

set_option maxHeartbeats 1000000 in
theorem givenOf_any (bs : List UInt8) (t : Nat) (w : World) (hl : bs.length = 64) (ht : t < 16) :
    Calls Tryd.prog 97 #[.agg (byv bs), .int .i64 (t : Int)] w fun e w' => e = .returned (.int .u32 ((gvn (nums bs) t : Nat) : Int)) ∧ Below w.heap.size w w' := by
  rw [← pgv_all]
  have hb := nums_bys bs
  have hc : ∀ j, j < 4 → (w.alloc (.cells (byv bs) 95)).cell? ⟨w.heap.size, t * 4 + j, none⟩ = some (.int .u8 (((nums bs).getD (4 * t + j) 0 : Nat) : Int)) := fun j hj => by
    have := (Blk.new w 95 (byv bs)).cell (4 * t + j)
    rw [show t * 4 + j = 4 * t + j by omega]
    exact this.trans (byv_num bs _ (by omega))
  obtain ⟨B, hB⟩ : ∃ B, B = nums bs := ⟨_, rfl⟩
  rw [← hB] at hb hc ⊢
  have HB := Lib.hid hb
  have HC := Lib.hid hc
  have HL := Lib.hid ((Below.refl w.heap.size w).alloc (Nat.le_refl _) (.cells (byv bs) 95))
  clear hb hc hB
  go_enter Tryd.func97, Tryd.ntmps97
  go_wp2
  obtain ⟨W0, hW0⟩ : ∃ W0, W0 = w.alloc (.cells (byv bs) 95) := ⟨_, rfl⟩
  rw [← hW0] at HC HL ⊢
  clear hW0
  go_loopw [7, 5] (fun i x wr => ∃ j : Nat, j ≤ 4 ∧ i = .int .i64 (j : Int) ∧ x = .int .u32 ((pgv B t j : Nat) : Int) ∧ W0 = wr) (fun i _ _ => 4 - (intOf i).toNat)
  case atStart => exact ⟨0, by decide, rfl, rfl, rfl⟩
  case round =>
    obtain ⟨j, hj, rfl, rfl, rfl⟩ := hrel
    by_cases hlt : j < 4
    · have c := HC.out j hlt
      have l0 := pgv_lt HB.out t j
      have l1 : pgv B t j < 16777216 := Nat.lt_of_lt_of_le l0 (Nat.pow_le_pow_right (by decide) (show j ≤ 3 by omega))
      have e := or_byte (pgv B t j) (B.getD (4 * t + j) 0) l1 (HB.out _)
      obtain ⟨x, hx⟩ : ∃ x, x = pgv B t j := ⟨_, rfl⟩
      obtain ⟨v, hv⟩ : ∃ v, v = B.getD (4 * t + j) 0 := ⟨_, rfl⟩
      have hn : pgv B t (j + 1) = x * 256 + v := by rw [pgv, hx, hv]
      have hv' : v ≤ 255 := by rw [hv]; exact HB.out _
      have HV := Lib.hid hv'
      rw [← hx] at e ⊢
      rw [← hv] at c e
      have HN := Lib.hid hn
      clear hx hv hn l0 l1 hv'
      go_wp2
      go_roundw
      case rel => exact ⟨j + 1, by omega, by go_num, by rw [HN.out, ← e, show ((v : Int) % 4294967296) = v by have := HV.out; omega], by first | rfl | trivial⟩
      case measure => simp [intOf]; omega
    · obtain rfl : j = 4 := by omega
      clear hlt
      go_wp2
      go_ret; exact ⟨rfl, HL.out⟩
theorem shd_val (k x : Nat) (h : x ≤ MW) : shd MW k x = x / 2 ^ k := by
  have hM : (MW : Nat) = 4294967295 := rfl
  have := Nat.div_le_self x (2 ^ k)
  rw [shd, and_MW, Nat.shiftRight_eq_div_pow, Nat.mod_eq_of_lt (by omega)]
theorem shd_cast (k x : Nat) (h : x ≤ MW) (hk : k = 3 := by rfl) : ((x : Int) / 8) = ((shd MW k x : Nat) : Int) := by
  subst hk; rw [shd_val _ _ h, Int.natCast_ediv]; rfl
theorem shd_cast10 (x : Nat) (h : x ≤ MW) : ((x : Int) / 1024) = ((shd MW 10 x : Nat) : Int) := by
  rw [shd_val _ _ h, Int.natCast_ediv]; rfl

set_option maxHeartbeats 2000000 in
theorem nextOf_any (l : List Nat) (t : Nat) (w : World) (hl : l.length = 16) (hb : ∀ i, l.getD i 0 ≤ MW) (h1 : 16 ≤ t) (h2 : t < 64) :
    Calls Tryd.prog 98 #[.agg (wov l), .int .i64 (t : Int)] w fun e w' => e = .returned (.int .u32 ((nxt MW (l.getD ((t - 16) % 16) 0) (l.getD ((t - 15) % 16) 0) (l.getD ((t - 7) % 16) 0) (l.getD ((t - 2) % 16) 0) : Nat) : Int)) ∧ Below w.heap.size w w' := by
  obtain ⟨W0, hW0⟩ : ∃ W0, W0 = (w.alloc (.cells (wov l) 133)).alloc (.cells #[.int .i64 (t : Int)] 3) := ⟨_, rfl⟩
  have k0 : Blk W0 w.heap.size 133 (wov l) := by rw [hW0]; exact (Blk.new w _ _).alloc _
  have k1 : Blk W0 (w.heap.size + 1) 3 #[.int .i64 (t : Int)] := by
    rw [hW0]; have := Blk.new (w.alloc (.cells (wov l) 133)) 3 #[.int .i64 (t : Int)]; rwa [World.size_alloc] at this
  have kb : Below w.heap.size w W0 := by rw [hW0]; exact ((Below.refl _ w).alloc (Nat.le_refl _) _).alloc (by simp) _
  have HK0 := Lib.hid k0
  have HK1 := Lib.hid k1
  have HKB := Lib.hid kb
  have HP := Lib.hid (hb ((t - 16) % 16))
  have HQ := Lib.hid (hb ((t - 15) % 16))
  have HR := Lib.hid (hb ((t - 7) % 16))
  have HS := Lib.hid (hb ((t - 2) % 16))
  have HBP := Lib.hid (backs w.heap.size l t 16 hl (by omega) (by omega))
  have HBQ := Lib.hid (backs w.heap.size l t 15 hl (by omega) (by omega))
  have HBR := Lib.hid (backs w.heap.size l t 7 hl (by omega) (by omega))
  have HBS := Lib.hid (backs w.heap.size l t 2 hl (by omega) (by omega))
  obtain ⟨p, hp⟩ : ∃ p, p = l.getD ((t - 16) % 16) 0 := ⟨_, rfl⟩
  obtain ⟨q, hq⟩ : ∃ q, q = l.getD ((t - 15) % 16) 0 := ⟨_, rfl⟩
  obtain ⟨r, hr⟩ : ∃ r, r = l.getD ((t - 7) % 16) 0 := ⟨_, rfl⟩
  obtain ⟨s, hs⟩ : ∃ s, s = l.getD ((t - 2) % 16) 0 := ⟨_, rfl⟩
  rw [← hp] at HP HBP ⊢
  rw [← hq] at HQ HBQ ⊢
  rw [← hr] at HR HBR ⊢
  rw [← hs] at HS HBS ⊢
  clear hp hq hr hs k0 k1 kb hb
  go_enter Tryd.func98, Tryd.ntmps98
  go_wp2_with fail
  rw [← hW0]
  clear hW0
  refine (HBS.out W0 HK0.out HK1.out).mono ?_
  rintro e w' ⟨rfl, rfl⟩
  go_wp2_with fail
  refine (HBQ.out W0 HK0.out HK1.out).mono ?_
  rintro e w' ⟨rfl, rfl⟩
  go_wp2_with fail
  refine (HBP.out W0 HK0.out HK1.out).mono ?_
  rintro e w' ⟨rfl, rfl⟩
  go_wp2_with fail
  refine (rotated_i _ q HQ.out (by decide) (by decide) _).mono ?_
  rintro e w' ⟨rfl, rfl⟩
  go_wp2_with fail
  refine (rotated_i _ q HQ.out (by decide) (by decide) _).mono ?_
  rintro e w' ⟨rfl, rfl⟩
  go_wp2_with fail
  rw [shd_cast 3 q HQ.out]
  refine (xor_any _ _ _ _ _ _ (rot_le 7 q) (rot_le 18 q) (shd_le 3 q) (Blk.new W0 _ _)).mono ?_
  rintro e W1 ⟨rfl, hW1⟩
  have HK01 := Lib.hid (show Blk W1 w.heap.size 133 (wov l) by rw [← hW1]; exact HK0.out.alloc _)
  have HK11 := Lib.hid (show Blk W1 (w.heap.size + 1) 3 #[.int .i64 (t : Int)] by rw [← hW1]; exact HK1.out.alloc _)
  have HKB1 := Lib.hid (show Below w.heap.size w W1 by rw [← hW1]; exact HKB.out.alloc HKB.out.size _)
  clear hW1 HK0 HK1 HKB
  go_wp2_with fail
  refine (HBR.out W1 HK01.out HK11.out).mono ?_
  rintro e w' ⟨rfl, rfl⟩
  go_wp2_with fail
  refine (rotated_i _ s HS.out (by decide) (by decide) _).mono ?_
  rintro e w' ⟨rfl, rfl⟩
  go_wp2_with fail
  refine (rotated_i _ s HS.out (by decide) (by decide) _).mono ?_
  rintro e w' ⟨rfl, rfl⟩
  go_wp2_with fail
  rw [shd_cast10 s HS.out]
  refine (xor_any _ _ _ _ _ _ (rot_le 17 s) (rot_le 19 s) (shd_le 10 s) (Blk.new W1 _ _)).mono ?_
  rintro e W2 ⟨rfl, hW2⟩
  have HKB2 := Lib.hid (show Below w.heap.size w W2 by rw [← hW2]; exact HKB1.out.alloc HKB1.out.size _)
  clear hW2 HK01 HK11 HKB1
  go_wp2_with fail
  go_ret
  refine ⟨ret_int ?_, HKB2.out⟩
  simp only [nxt, and_MW, sm0, sm1]; omega
end Go.Proofs.YtcbakfnpbhgjoaaDoor
