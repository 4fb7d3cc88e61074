/-
  CursorCut returns true for all rows of parts and cuts. No conditions.
-/
import Derived.Test.YtjkbajhmnfejgaaCurWorks
import Derived.Test.YtjkbajhmnfejgaaCurAny
import Derived.Test.YtjkbajhmnfejgaaCurLaid
import Derived.WalkKit
import Derived.ProofKit
import Derived.OpenShut
import Derived.ShutString
import Derived.ChangeOld
import Derived.Below
import Derived.SizedLaws
namespace Go.Proofs.Ytjkbajhmnfejgaa.cursorCut
open Go.ChangeShapes Go.WideShapes Go.ChangeAt Go.RowKit
open Go.ChangeMaps (open_string shut_string)
set_option linter.unusedVariables false

/-- What holds at the head of each round. -/
def Round (w : World) (x : ByteArray) (Q : Nat → Int × Nat × ByteArray) (b m : Nat) (v i : Value) (wr : World) : Prop :=
  ∃ j : Nat, (j ≤ m ∧ i = .int .i64 (j : Int)) ∧ Below w.heap.size w wr ∧ (cat Q j).length ≤ x.size ∧ Cur wr b x (cat Q j).length false ∧ wr.ownsRow w.heap.size 3 1 v m (endsV 0 Q m)

/-- An own row of ints and a cursor's block are two. -/
theorem own_ne {w : World} {base n b k : Nat} {v : Value} {xs : List Value} {s : ByteArray} {br : Bool} (h : w.ownsRow base 3 1 v n xs) (hc : Cur w b s k br) : v.ownBlock ≠ some b := by
  rcases h.2 with ⟨rfl, _⟩ | ⟨g, cap, cur, rfl, _, hg, _⟩
  · simp [Value.ownBlock]
  · intro e
    have e' : g = b := by simpa [Value.ownBlock] using e
    exact Blk.ne_ (t := 3) (show Blk w g 3 cur from hg) hc (by decide) e'
theorem own_at {w : World} {base m : Nat} {v : Value} {Q : Nat → Int × Nat × ByteArray} (h : w.ownsRow base 3 1 v m (endsV 0 Q m)) (hm : 0 < m) :
    ∃ g cap, v = .slice (some ⟨g, 0, none⟩) m cap ∧ m ≤ cap ∧ ∀ i, i < m → w.cell? ⟨g, i, none⟩ = some (.int .i64 ((cat Q (i + 1)).length : Int)) := by
  rcases h.2 with ⟨rfl, h0⟩ | ⟨g, cap, cur, rfl, _, hg, hc, _, _, hx⟩
  · omega
  · refine ⟨g, cap, rfl, hc, fun i hi => ?_⟩
    rw [cell_of_row w g i cur 3 (0, 0) hg]
    have e : (cur.toList.take (m * 1))[i]? = (endsV 0 Q m)[i]? := by rw [hx]
    rw [List.getElem?_take_of_lt (by omega)] at e
    rw [← Array.getElem?_toList, e]
    unfold endsV
    rw [List.getElem?_map, List.getElem?_range hi]
    simp
theorem own_move {w w' : World} {base n b k k' : Nat} {v : Value} {xs : List Value} {s : ByteArray} {br br' : Bool} (h : w.ownsRow base 3 1 v n xs) (hc : Cur w b s k br) (hm : Moved w w' b s k' br') : w'.ownsRow base 3 1 v n xs :=
  h.kept hm.1 (.inr (own_ne h hc))
theorem ownsRow_base {w : World} {base base' : Nat} {e : TypeId} {size n : Nat} {v : Value} {xs : List Value} (h : w.ownsRow base e size v n xs) (hb : base' ≤ base) : w.ownsRow base' e size v n xs := by
  refine ⟨h.1, ?_⟩
  rcases h.2 with h0 | ⟨g, cap, cur, hv, hg, r⟩
  · exact .inl h0
  · exact .inr ⟨g, cap, cur, hv, by omega, r⟩
theorem sub_cut (Q : Nat → Int × Nat × ByteArray) {i m c : Nat} (hi : i < m) (x : ByteArray) (hx : x.data.toList = (cat Q m).take c) (hc : (cat Q (i + 1)).length ≤ c) : Sub x (cat Q i).length (part (Q i)) := by
  obtain ⟨d, rfl⟩ : ∃ d, m = i + 1 + d := ⟨m - i - 1, by omega⟩
  obtain ⟨r, hr⟩ := cat_mono Q (i + 1) d
  refine ⟨r.take (c - (cat Q (i + 1)).length), ?_⟩
  rw [hx, hr, List.take_append, List.take_of_length_le hc, cat, List.append_assoc, List.drop_left]
theorem ad_old {w : World} {ad : Addr} {len j : Nat} {Q : Nat → Int × Nat × ByteArray} (h : Parts w (some ad) len Q) (hj : j < len) : w.cell? (ad.add (j * 3)) = some (.int .u8 (Q j).1) := by
  obtain ⟨ad', e, c0, _⟩ := h j hj
  injection e with e
  subst e
  exact c0

set_option maxRecDepth 100000 in
set_option maxHeartbeats 4000000 in
theorem walk_s (A : Option Addr) (len cap : Nat) (hl : len ≤ cap) (hc : cap ≤ 9223372036854775807) (Q : Nat → Int × Nat × ByteArray) (n : Nat) (hn : n ≤ 65535) (w : World) (hp : Parts w A len Q) (h2 : len ≤ 30) :
    Calls Try.prog 6 #[.slice A len cap, .int .u16 (n : Int)] w fun e w' => e = .returned (.bool true) ∧ Below w.heap.size w w' := by
  have HP := Lib.hid hp
  clear hp
  go_enter Try.func6, Try.ntmps6
  go_wp2_with fail
  refine (works_true _).mono ?_
  rintro e w1 ⟨rfl, B1⟩
  have HB1 := Lib.hid B1
  have HP1 := Lib.hid ((HP.out.below (B := 0) B1).front (m := len) (by omega))
  clear B1
  go_wp2_with fail
  refine (laid_any ⟨#[]⟩ (by decide) A len cap (by omega) Q _ HP1.out).mono ?_
  rintro e w2 ⟨v, rfl, own2, B2⟩
  have HB2 := Lib.hid (HB1.out.trans (B2.mono HB1.out.size))
  obtain ⟨all, hall⟩ : ∃ all : ByteArray, all = ⟨#[]⟩ ++ ⟨(cat Q len).toArray⟩ := ⟨_, rfl⟩
  have has : all.size = (cat Q len).length := by rw [hall, append_size]; exact Nat.zero_add _
  have hal : all.data.toList = cat Q len := by rw [hall, append_toList]; exact List.nil_append _
  have hcl := cat_le Q len
  rw [← hall]
  have has1 : all.size ≤ 600 := by omega
  have HAS := Lib.hid has
  have HAL := Lib.hid hal
  have HO2 := Lib.hid (show w2.ownsRow w.heap.size 3 1 v len (endsV 0 Q len) from ownsRow_base own2 HB1.out.size)
  clear own2 B2 hall has hal hcl
  obtain ⟨c, hc0⟩ : ∃ c, c = n % (all.size + 1) := ⟨_, rfl⟩
  have hca : c ≤ all.size := by have := Nat.mod_lt n (show 0 < all.size + 1 by omega); omega
  have hcn : (n : Int) % ((all.size : Int) + 1) = (c : Int) := by rw [hc0, Int.natCast_emod, Int.natCast_add]; rfl
  have HC0 := Lib.hid hc0
  clear hc0
  go_wp2_with fail
  rw [hcn]
  clear hcn
  obtain ⟨x, hx⟩ : ∃ x : ByteArray, x = all.extract 0 c := ⟨_, rfl⟩
  have hxs : x.size = c := by rw [hx, ByteArray.size_extract]; omega
  have hxl : x.data.toList = (cat Q len).take c := by rw [hx, text_take all c hca]; exact congrArg (List.take c) HAL.out
  rw [← hx]
  have HXS := Lib.hid hxs
  have HXL := Lib.hid hxl
  have hx6 : x.size ≤ 600 := by omega
  clear hx hxs hxl
  refine (Read_new x _).mono ?_
  rintro e w3 ⟨b, rfl, hb0, B3, C3⟩
  have hb : w.heap.size ≤ b := Nat.le_trans HB2.out.size hb0
  have HB3 := Lib.hid (HB2.out.trans (B3.mono HB2.out.size))
  have HC3 := Lib.hid C3
  have HO3 := Lib.hid (HO2.out.kept (only_of_below B3 none) (by by_cases h : v.ownBlock = none; exact .inl h; exact .inr h))
  clear B3 C3 hb0
  go_wp2_with fail
  go_loopw [9] (fun i wr => Round w x Q b len v i wr) (fun i _ => len - (intOf i).toNat)
  case atStart => exact ⟨0, ⟨by omega, rfl⟩, HB3.out, Nat.zero_le _, HC3.out, HO3.out⟩
  case round =>
    obtain ⟨j, ⟨hj, rfl⟩, hB, hjx, hC, hO⟩ := hrel
    have HB := Lib.hid hB
    have HC := Lib.hid hC
    have HO := Lib.hid hO
    clear HB3 HC3 HO3
    by_cases hlt : j < len
    · obtain ⟨ad, rfl, c0, c1, c2, ⟨b0, b1⟩, b2, b3⟩ := (HP.out.below (B := 0) hB) j (by omega)
      obtain ⟨g, gcap, rfl, hgc, hg⟩ := own_at hO (by omega)
      have hgb : g ≠ b := by have := own_ne hO hC; simpa [Value.ownBlock] using this
      have hcj := cat_le Q (j + 1)
      have d0 := hg j hlt
      by_cases hend : (cat Q (j + 1)).length ≤ c
      · have hsub := sub_cut Q hlt x HXL.out hend
        have hk : (cat Q j).length + (part (Q j)).length = (cat Q (j + 1)).length := by rw [cat, List.length_append]
        have hadb : (ad.add (j * 3)).block ≠ b := by have := World.block_lt_of_cell? w _ (ad_old HP.out (show j < len by omega)); omega
        have HSUB := Lib.hid hsub
        have HK := Lib.hid hk
        clear hB hC hO hsub hk
        go_wp2_with fail
        go_region_held3 (fun w' => w'.cell? (ad.add (j * 3)) = some (.int .u8 (Q j).1) ∧ w'.cell? ⟨(ad.add (j * 3)).block, (ad.add (j * 3)).off + 1, none⟩ = some (.int .u64 ((Q j).2.1 : Int)) ∧ w'.cell? ⟨(ad.add (j * 3)).block, (ad.add (j * 3)).off + 2, none⟩ = some (.string (Q j).2.2) ∧ w'.cell? ⟨g, j, none⟩ = some (.int .i64 ((cat Q (j + 1)).length : Int)))
          (first | exact ⟨c0, c1, c2, d0⟩ | exact ⟨M5.1.cell (a := ad.add (j * 3)) c0 (by simpa using hadb), M5.1.cell (a := ⟨(ad.add (j * 3)).block, (ad.add (j * 3)).off + 1, none⟩) c1 (by simpa using hadb), M5.1.cell (a := ⟨(ad.add (j * 3)).block, (ad.add (j * 3)).off + 2, none⟩) c2 (by simpa using hadb), M5.1.cell (a := ⟨g, j, none⟩) d0 (by simpa using hgb)⟩)
          (first
            | (go_at_call 23; refine (part_read_t (Q j).1 (Q j).2.1 (Q j).2.2 b0 b1 b2 b3 b x (cat Q j).length (by omega) hjx HSUB.out _ (Blk.drew HC.out)).mono ?_; rintro e w5 ⟨rfl, M5⟩; rw [HK.out] at M5)
            | (go_at_call 11; refine (At_any b x (cat Q (j + 1)).length false _ M5.2).mono ?_; rintro e w6 ⟨rfl, rfl⟩))
        have HN := Lib.hid (show Round w x Q b len (.slice (some ⟨g, 0, none⟩) len gcap) (.int .i64 ((j + 1 : Nat) : Int)) w5 from
          ⟨j + 1, ⟨by omega, rfl⟩, HB.out.trans (below_of_only (B := w.heap.size) (only_undrew M5.1) hb HB.out.size), by have := HXS.out; omega, M5.2, own_move (w := wr.drew) HO.out (Blk.drew HC.out) M5⟩)
        clear M5 HSUB HK c0 c1 c2 d0 HB HC HO
        go_wp2_with fail
        go_roundw
        case rel => exact HN.out
        case measure => simp [intOf]; omega
      · have hsh : x.size < (cat Q j).length + (part (Q j)).length := by
          have e : (cat Q (j + 1)).length = (cat Q j).length + (part (Q j)).length := by rw [cat, List.length_append]
          have := HXS.out
          omega
        by_cases hj0 : j ≤ 0
        · have e0 : (cat Q j).length = 0 := by
            obtain rfl : j = 0 := by omega
            rfl
          have HSH := Lib.hid (show x.size < 0 + (part (Q j)).length from by rw [e0] at hsh; exact hsh)
          have HCK := Lib.hid (show Cur wr b x 0 false from by rw [e0] at hC; exact hC)
          clear e0
          clear hB hC hO hsh hg
          go_wp2_with fail
          clear c0 c1 c2 d0
          refine (part_read_f (Q j).1 (Q j).2.1 (Q j).2.2 b0 b1 b2 b3 b x 0 (by omega) (by omega) HSH.out _ HCK.out).mono ?_
          rintro e w5 ⟨⟨vb, rfl⟩, M5⟩
          have HM5 := Lib.hid M5
          clear M5
          go_wp2_with fail
          refine (End_brm b x 0 _ HM5.out.2).mono ?_
          rintro e w6 ⟨rfl, M6⟩
          have HM6 := Lib.hid (HM5.out.trans M6)
          clear M6
          go_wp2_with fail
          refine (At_mv b x 0 _ true HM6.out.2).mono ?_
          rintro e w7 ⟨rfl, M7⟩
          have HM7 := Lib.hid (HM6.out.trans M7)
          clear M7
          go_wp2_with fail
          refine (Left_brm b x 0 _ HM7.out.2).mono ?_
          rintro e w8 ⟨rfl, M8⟩
          have HM8 := Lib.hid (HM7.out.trans M8)
          clear M8
          go_wp2_with fail
          refine (U8_br b x 0 _ HM8.out.2).mono ?_
          rintro e w9 ⟨rfl, M9⟩
          have HM9 := Lib.hid (HM8.out.trans M9)
          clear M9
          go_wp2_with fail
          refine (U64_br b x 0 _ HM9.out.2).mono ?_
          rintro e w10 ⟨rfl, M10⟩
          have HM10 := Lib.hid (HM9.out.trans M10)
          clear M10
          go_wp2_with fail
          refine (Take_br b x 0 0 _ HM10.out.2).mono ?_
          rintro e w11 ⟨rfl, M11⟩
          have HM11 := Lib.hid (HM10.out.trans M11)
          clear M11
          go_wp2_with fail
          refine (End_brm b x 0 _ HM11.out.2).mono ?_
          rintro e w12 ⟨rfl, M12⟩
          have HM12 := Lib.hid (HM11.out.trans M12)
          clear M12
          go_wp2_with fail
          go_ret
          exact ⟨rfl, below_move HB.out HM12.out hb (Nat.le_refl _)⟩
        · have d1 : wr.cell? ⟨g, j - 1, none⟩ = some (.int .i64 ((cat Q j).length : Int)) := by have := hg (j - 1) (by omega); rwa [show j - 1 + 1 = j by omega] at this
          have HSH := Lib.hid hsh
          have HCK := Lib.hid hC
          clear hB hC hO hsh hg
          go_wp2_with fail
          clear c0 c1 c2 d0 d1
          refine (part_read_f (Q j).1 (Q j).2.1 (Q j).2.2 b0 b1 b2 b3 b x (cat Q j).length (by omega) (by omega) HSH.out _ HCK.out).mono ?_
          rintro e w5 ⟨⟨vb, rfl⟩, M5⟩
          have HM5 := Lib.hid M5
          clear M5
          go_wp2_with fail
          refine (End_brm b x (cat Q j).length _ HM5.out.2).mono ?_
          rintro e w6 ⟨rfl, M6⟩
          have HM6 := Lib.hid (HM5.out.trans M6)
          clear M6
          go_wp2_with fail
          refine (At_mv b x (cat Q j).length _ true HM6.out.2).mono ?_
          rintro e w7 ⟨rfl, M7⟩
          have HM7 := Lib.hid (HM6.out.trans M7)
          clear M7
          go_wp2_with fail
          refine (Left_brm b x (cat Q j).length _ HM7.out.2).mono ?_
          rintro e w8 ⟨rfl, M8⟩
          have HM8 := Lib.hid (HM7.out.trans M8)
          clear M8
          go_wp2_with fail
          refine (U8_br b x (cat Q j).length _ HM8.out.2).mono ?_
          rintro e w9 ⟨rfl, M9⟩
          have HM9 := Lib.hid (HM8.out.trans M9)
          clear M9
          go_wp2_with fail
          refine (U64_br b x (cat Q j).length _ HM9.out.2).mono ?_
          rintro e w10 ⟨rfl, M10⟩
          have HM10 := Lib.hid (HM9.out.trans M10)
          clear M10
          go_wp2_with fail
          refine (Take_br b x (cat Q j).length 0 _ HM10.out.2).mono ?_
          rintro e w11 ⟨rfl, M11⟩
          have HM11 := Lib.hid (HM10.out.trans M11)
          clear M11
          go_wp2_with fail
          refine (End_brm b x (cat Q j).length _ HM11.out.2).mono ?_
          rintro e w12 ⟨rfl, M12⟩
          have HM12 := Lib.hid (HM11.out.trans M12)
          clear M12
          go_wp2_with fail
          go_ret
          exact ⟨rfl, below_move HB.out HM12.out hb (Nat.le_refl _)⟩
    · obtain rfl : len = j := by omega
      have hcx : (cat Q len).length = x.size := by have := HXS.out; have := HAS.out; omega
      have HCK := Lib.hid (show Cur wr b x x.size false from hcx ▸ hC)
      clear hB hC hO hcx
      go_wp2_with fail
      refine (End_donem b x x.size _ (by omega) rfl HCK.out).mono ?_
      rintro e w5 ⟨rfl, M5⟩
      have HB5 := Lib.hid (below_move HB.out M5 hb (Nat.le_refl _))
      clear M5
      go_wp2_with fail
      go_ret
      exact ⟨rfl, HB5.out⟩

set_option maxRecDepth 100000 in
set_option maxHeartbeats 4000000 in
theorem walk_m (A : Option Addr) (len cap : Nat) (hl : len ≤ cap) (hc : cap ≤ 9223372036854775807) (Q : Nat → Int × Nat × ByteArray) (n : Nat) (hn : n ≤ 65535) (w : World) (hp : Parts w A len Q) (h2 : 30 < len) :
    Calls Try.prog 6 #[.slice A len cap, .int .u16 (n : Int)] w fun e w' => e = .returned (.bool true) ∧ Below w.heap.size w w' := by
  have HP := Lib.hid hp
  clear hp
  go_enter Try.func6, Try.ntmps6
  go_wp2_with fail
  refine (works_true _).mono ?_
  rintro e w1 ⟨rfl, B1⟩
  have HB1 := Lib.hid B1
  have HP1 := Lib.hid ((HP.out.below (B := 0) B1).front (m := 30) (by omega))
  clear B1
  go_wp2_with fail
  refine (laid_any ⟨#[]⟩ (by decide) A 30 cap (by omega) Q _ HP1.out).mono ?_
  rintro e w2 ⟨v, rfl, own2, B2⟩
  have HB2 := Lib.hid (HB1.out.trans (B2.mono HB1.out.size))
  obtain ⟨all, hall⟩ : ∃ all : ByteArray, all = ⟨#[]⟩ ++ ⟨(cat Q 30).toArray⟩ := ⟨_, rfl⟩
  have has : all.size = (cat Q 30).length := by rw [hall, append_size]; exact Nat.zero_add _
  have hal : all.data.toList = cat Q 30 := by rw [hall, append_toList]; exact List.nil_append _
  have hcl := cat_le Q 30
  rw [← hall]
  have has1 : all.size ≤ 600 := by omega
  have HAS := Lib.hid has
  have HAL := Lib.hid hal
  have HO2 := Lib.hid (show w2.ownsRow w.heap.size 3 1 v 30 (endsV 0 Q 30) from ownsRow_base own2 HB1.out.size)
  clear own2 B2 hall has hal hcl
  obtain ⟨c, hc0⟩ : ∃ c, c = n % (all.size + 1) := ⟨_, rfl⟩
  have hca : c ≤ all.size := by have := Nat.mod_lt n (show 0 < all.size + 1 by omega); omega
  have hcn : (n : Int) % ((all.size : Int) + 1) = (c : Int) := by rw [hc0, Int.natCast_emod, Int.natCast_add]; rfl
  have HC0 := Lib.hid hc0
  clear hc0
  go_wp2_with fail
  rw [hcn]
  clear hcn
  obtain ⟨x, hx⟩ : ∃ x : ByteArray, x = all.extract 0 c := ⟨_, rfl⟩
  have hxs : x.size = c := by rw [hx, ByteArray.size_extract]; omega
  have hxl : x.data.toList = (cat Q 30).take c := by rw [hx, text_take all c hca]; exact congrArg (List.take c) HAL.out
  rw [← hx]
  have HXS := Lib.hid hxs
  have HXL := Lib.hid hxl
  have hx6 : x.size ≤ 600 := by omega
  clear hx hxs hxl
  refine (Read_new x _).mono ?_
  rintro e w3 ⟨b, rfl, hb0, B3, C3⟩
  have hb : w.heap.size ≤ b := Nat.le_trans HB2.out.size hb0
  have HB3 := Lib.hid (HB2.out.trans (B3.mono HB2.out.size))
  have HC3 := Lib.hid C3
  have HO3 := Lib.hid (HO2.out.kept (only_of_below B3 none) (by by_cases h : v.ownBlock = none; exact .inl h; exact .inr h))
  clear B3 C3 hb0
  go_wp2_with fail
  go_loopw [9] (fun i wr => Round w x Q b 30 v i wr) (fun i _ => 30 - (intOf i).toNat)
  case atStart => exact ⟨0, ⟨by omega, rfl⟩, HB3.out, Nat.zero_le _, HC3.out, HO3.out⟩
  case round =>
    obtain ⟨j, ⟨hj, rfl⟩, hB, hjx, hC, hO⟩ := hrel
    have HB := Lib.hid hB
    have HC := Lib.hid hC
    have HO := Lib.hid hO
    clear HB3 HC3 HO3
    by_cases hlt : j < 30
    · obtain ⟨ad, rfl, c0, c1, c2, ⟨b0, b1⟩, b2, b3⟩ := (HP.out.below (B := 0) hB) j (by omega)
      obtain ⟨g, gcap, rfl, hgc, hg⟩ := own_at hO (by omega)
      have hgb : g ≠ b := by have := own_ne hO hC; simpa [Value.ownBlock] using this
      have hcj := cat_le Q (j + 1)
      have d0 := hg j hlt
      by_cases hend : (cat Q (j + 1)).length ≤ c
      · have hsub := sub_cut Q hlt x HXL.out hend
        have hk : (cat Q j).length + (part (Q j)).length = (cat Q (j + 1)).length := by rw [cat, List.length_append]
        have hadb : (ad.add (j * 3)).block ≠ b := by have := World.block_lt_of_cell? w _ (ad_old HP.out (show j < len by omega)); omega
        have HSUB := Lib.hid hsub
        have HK := Lib.hid hk
        clear hB hC hO hsub hk
        go_wp2_with fail
        go_region_held3 (fun w' => w'.cell? (ad.add (j * 3)) = some (.int .u8 (Q j).1) ∧ w'.cell? ⟨(ad.add (j * 3)).block, (ad.add (j * 3)).off + 1, none⟩ = some (.int .u64 ((Q j).2.1 : Int)) ∧ w'.cell? ⟨(ad.add (j * 3)).block, (ad.add (j * 3)).off + 2, none⟩ = some (.string (Q j).2.2) ∧ w'.cell? ⟨g, j, none⟩ = some (.int .i64 ((cat Q (j + 1)).length : Int)))
          (first | exact ⟨c0, c1, c2, d0⟩ | exact ⟨M5.1.cell (a := ad.add (j * 3)) c0 (by simpa using hadb), M5.1.cell (a := ⟨(ad.add (j * 3)).block, (ad.add (j * 3)).off + 1, none⟩) c1 (by simpa using hadb), M5.1.cell (a := ⟨(ad.add (j * 3)).block, (ad.add (j * 3)).off + 2, none⟩) c2 (by simpa using hadb), M5.1.cell (a := ⟨g, j, none⟩) d0 (by simpa using hgb)⟩)
          (first
            | (go_at_call 23; refine (part_read_t (Q j).1 (Q j).2.1 (Q j).2.2 b0 b1 b2 b3 b x (cat Q j).length (by omega) hjx HSUB.out _ (Blk.drew HC.out)).mono ?_; rintro e w5 ⟨rfl, M5⟩; rw [HK.out] at M5)
            | (go_at_call 11; refine (At_any b x (cat Q (j + 1)).length false _ M5.2).mono ?_; rintro e w6 ⟨rfl, rfl⟩))
        have HN := Lib.hid (show Round w x Q b 30 (.slice (some ⟨g, 0, none⟩) 30 gcap) (.int .i64 ((j + 1 : Nat) : Int)) w5 from
          ⟨j + 1, ⟨by omega, rfl⟩, HB.out.trans (below_of_only (B := w.heap.size) (only_undrew M5.1) hb HB.out.size), by have := HXS.out; omega, M5.2, own_move (w := wr.drew) HO.out (Blk.drew HC.out) M5⟩)
        clear M5 HSUB HK c0 c1 c2 d0 HB HC HO
        go_wp2_with fail
        go_roundw
        case rel => exact HN.out
        case measure => simp [intOf]; omega
      · have hsh : x.size < (cat Q j).length + (part (Q j)).length := by
          have e : (cat Q (j + 1)).length = (cat Q j).length + (part (Q j)).length := by rw [cat, List.length_append]
          have := HXS.out
          omega
        by_cases hj0 : j ≤ 0
        · have e0 : (cat Q j).length = 0 := by
            obtain rfl : j = 0 := by omega
            rfl
          have HSH := Lib.hid (show x.size < 0 + (part (Q j)).length from by rw [e0] at hsh; exact hsh)
          have HCK := Lib.hid (show Cur wr b x 0 false from by rw [e0] at hC; exact hC)
          clear e0
          clear hB hC hO hsh hg
          go_wp2_with fail
          clear c0 c1 c2 d0
          refine (part_read_f (Q j).1 (Q j).2.1 (Q j).2.2 b0 b1 b2 b3 b x 0 (by omega) (by omega) HSH.out _ HCK.out).mono ?_
          rintro e w5 ⟨⟨vb, rfl⟩, M5⟩
          have HM5 := Lib.hid M5
          clear M5
          go_wp2_with fail
          refine (End_brm b x 0 _ HM5.out.2).mono ?_
          rintro e w6 ⟨rfl, M6⟩
          have HM6 := Lib.hid (HM5.out.trans M6)
          clear M6
          go_wp2_with fail
          refine (At_mv b x 0 _ true HM6.out.2).mono ?_
          rintro e w7 ⟨rfl, M7⟩
          have HM7 := Lib.hid (HM6.out.trans M7)
          clear M7
          go_wp2_with fail
          refine (Left_brm b x 0 _ HM7.out.2).mono ?_
          rintro e w8 ⟨rfl, M8⟩
          have HM8 := Lib.hid (HM7.out.trans M8)
          clear M8
          go_wp2_with fail
          refine (U8_br b x 0 _ HM8.out.2).mono ?_
          rintro e w9 ⟨rfl, M9⟩
          have HM9 := Lib.hid (HM8.out.trans M9)
          clear M9
          go_wp2_with fail
          refine (U64_br b x 0 _ HM9.out.2).mono ?_
          rintro e w10 ⟨rfl, M10⟩
          have HM10 := Lib.hid (HM9.out.trans M10)
          clear M10
          go_wp2_with fail
          refine (Take_br b x 0 0 _ HM10.out.2).mono ?_
          rintro e w11 ⟨rfl, M11⟩
          have HM11 := Lib.hid (HM10.out.trans M11)
          clear M11
          go_wp2_with fail
          refine (End_brm b x 0 _ HM11.out.2).mono ?_
          rintro e w12 ⟨rfl, M12⟩
          have HM12 := Lib.hid (HM11.out.trans M12)
          clear M12
          go_wp2_with fail
          go_ret
          exact ⟨rfl, below_move HB.out HM12.out hb (Nat.le_refl _)⟩
        · have d1 : wr.cell? ⟨g, j - 1, none⟩ = some (.int .i64 ((cat Q j).length : Int)) := by have := hg (j - 1) (by omega); rwa [show j - 1 + 1 = j by omega] at this
          have HSH := Lib.hid hsh
          have HCK := Lib.hid hC
          clear hB hC hO hsh hg
          go_wp2_with fail
          clear c0 c1 c2 d0 d1
          refine (part_read_f (Q j).1 (Q j).2.1 (Q j).2.2 b0 b1 b2 b3 b x (cat Q j).length (by omega) (by omega) HSH.out _ HCK.out).mono ?_
          rintro e w5 ⟨⟨vb, rfl⟩, M5⟩
          have HM5 := Lib.hid M5
          clear M5
          go_wp2_with fail
          refine (End_brm b x (cat Q j).length _ HM5.out.2).mono ?_
          rintro e w6 ⟨rfl, M6⟩
          have HM6 := Lib.hid (HM5.out.trans M6)
          clear M6
          go_wp2_with fail
          refine (At_mv b x (cat Q j).length _ true HM6.out.2).mono ?_
          rintro e w7 ⟨rfl, M7⟩
          have HM7 := Lib.hid (HM6.out.trans M7)
          clear M7
          go_wp2_with fail
          refine (Left_brm b x (cat Q j).length _ HM7.out.2).mono ?_
          rintro e w8 ⟨rfl, M8⟩
          have HM8 := Lib.hid (HM7.out.trans M8)
          clear M8
          go_wp2_with fail
          refine (U8_br b x (cat Q j).length _ HM8.out.2).mono ?_
          rintro e w9 ⟨rfl, M9⟩
          have HM9 := Lib.hid (HM8.out.trans M9)
          clear M9
          go_wp2_with fail
          refine (U64_br b x (cat Q j).length _ HM9.out.2).mono ?_
          rintro e w10 ⟨rfl, M10⟩
          have HM10 := Lib.hid (HM9.out.trans M10)
          clear M10
          go_wp2_with fail
          refine (Take_br b x (cat Q j).length 0 _ HM10.out.2).mono ?_
          rintro e w11 ⟨rfl, M11⟩
          have HM11 := Lib.hid (HM10.out.trans M11)
          clear M11
          go_wp2_with fail
          refine (End_brm b x (cat Q j).length _ HM11.out.2).mono ?_
          rintro e w12 ⟨rfl, M12⟩
          have HM12 := Lib.hid (HM11.out.trans M12)
          clear M12
          go_wp2_with fail
          go_ret
          exact ⟨rfl, below_move HB.out HM12.out hb (Nat.le_refl _)⟩
    · obtain rfl : 30 = j := by omega
      have hcx : (cat Q 30).length = x.size := by have := HXS.out; have := HAS.out; omega
      have HCK := Lib.hid (show Cur wr b x x.size false from hcx ▸ hC)
      clear hB hC hO hcx
      go_wp2_with fail
      refine (End_donem b x x.size _ (by omega) rfl HCK.out).mono ?_
      rintro e w5 ⟨rfl, M5⟩
      have HB5 := Lib.hid (below_move HB.out M5 hb (Nat.le_refl _))
      clear M5
      go_wp2_with fail
      go_ret
      exact ⟨rfl, HB5.out⟩

theorem walk (A : Option Addr) (len cap : Nat) (hl : len ≤ cap) (hc : cap ≤ 9223372036854775807) (Q : Nat → Int × Nat × ByteArray) (a : Int) (wa : (Lit.int .u16 a).wf = true) (w : World) (hp : Parts w A len Q) :
    Calls Try.prog 6 #[.slice A len cap, .int .u16 a] w fun e w' => e = .returned (.bool true) ∧ Below w.heap.size w w' := by
  obtain ⟨a0, a1⟩ := bounds_u16 wa
  obtain ⟨n, rfl⟩ := Int.eq_ofNat_of_zero_le a0
  by_cases h2 : len ≤ 30
  · exact walk_s A len cap hl hc Q n (by omega) w hp h2
  · exact walk_m A len cap hl hc Q n (by omega) w hp (by omega)

theorem own : ownKnob Try.prog.godebug = none := by kernel_rfl
theorem laidOut : laidOutB Try.prog = true := by kernel_rfl

set_option maxRecDepth 100000 in
theorem lifted (os : Os) (started : os.Started) (H : Type) (enc : TypeId × Value → H) :
    ReturnsInHanded {} Try.checked os 6 .any (Rows.cursorCutSpec.pre6 enc Try.prog Try.f6 Rows.cursorCutRow.domain false) (Rows.cursorCutSpec.post enc Try.prog Try.f6 false true false false) := by
  refine returnsInHanded_of_change (C := Try.checked) own started (by kernel_rfl) Try.func6
    (ChangeSpec.witness6 (enc := enc) (C := Try.checked) false ⟨#[], #[.slice none 0 0, .int .u16 0], []⟩ 8 (by kernel_rfl) (by kernel_rfl) (by kernel_rfl) (by kernel_rfl)) ?_
  intro W base args ds gs before hval0 hW hcnd _
  have hval : ∀ (j : Nat) t v, Try.f6.params[j]? = some t → args[j]? = some v → Value.okWide Try.prog W .any base t v := hval0
  have hW' := hW
  obtain ⟨p, q, hA0, hV, rfl, hfz, hnd⟩ := hW
  have hA : DataW.TrodAll enc Try.prog W 0 (fun _ => true) true Try.f6.params.toList args.toList ds p := hA0
  rw [Try.params6] at hA hval
  obtain ⟨v0, vs0, d0, ds0, p0, q0, hargs, rfl, rfl, h0, r0⟩ := trodAll_cons hA
  obtain ⟨v1, vs1, d1, ds1, p1, q1, rfl, rfl, rfl, h1, r1⟩ := trodAll_cons r0
  obtain ⟨rfl, rfl, rfl⟩ := trodAll_nil r1
  obtain rfl : args = #[v0, v1] := by cases args; simp_all
  obtain ⟨rfl, rfl⟩ := trodVars_none hV
  have k0 := h0
  have lt0 : ∀ x ∈ p0, x.block < W.heap.size := by obtain ⟨m, hm⟩ := k0; exact DataW.trod_lt m _ _ _ hm
  obtain ⟨A, len, cap, Q, rfl, hl, hc, hp⟩ := open_parts (hval 0 45 v0 rfl rfl) h0
  obtain ⟨a1, rfl, rfl, rfl, w1⟩ := open_int Try.underlying40 (hval 1 40 v1 rfl rfl) h1
  clear hA0 hval0
  simp only [List.append_nil] at hW'
  refine (walk A len cap hl hc Q a1 w1 W hp).mono fun e W' ⟨he, bel⟩ => ?_
  subst he
  exact ⟨_, rfl, _, _, _, [], _, [], hW', trodAll_mk1 (shut_bool Try.underlying4 _), (trodAll_cons_mk (Below.trod laidOut (by kernel_rfl) (of_decide_eq_true (by kernel_rfl)) k0 bel lt0) (trodAll_cons_mk (shut_int Try.underlying40 w1) trodAll_mk0)), rfl, bel.frame _, fun h => by cases h⟩

theorem over : Rows.cursorCutRow.holds Try.pinned (OpenSpec.ofChange Rows.cursorCutSpec) :=
  OpenClaim.holds_of_wide 6 Try.f6 rfl rfl rfl rfl rfl rfl rfl ⟨rfl, rfl, rfl, rfl, rfl⟩ rfl rfl rfl rfl rfl (by kernel_rfl) Try.func6 (by kernel_rfl)
    (of_decide_eq_true (by kernel_rfl)) (by unfold Func.isWrapper; first | (rw [if_pos (by decide +kernel)]; kernel_rfl) | (rw [if_neg (by decide +kernel)]; exact ⟨rfl, rfl⟩))
    (fun os started H enc _ => lifted os started H enc)

theorem proved : Rows.CursorCutSaid := over
#print axioms proved
end Go.Proofs.Ytjkbajhmnfejgaa.cursorCut
