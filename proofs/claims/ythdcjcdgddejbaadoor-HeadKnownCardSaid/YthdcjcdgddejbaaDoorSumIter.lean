/-
  The words of all parts, as the iterator yields them (sum.words and its closure), by its walk: whatever loop ranges over it.
-/
import Derived.RangeFuncNested
import Derived.RangeFuncBound
import Derived.RangeFuncCalls
import Derived.RangeFuncLeaves
import Derived.RangeFuncFrom
import Derived.Shelf.Abstract
import Derived.Shelf.RegionOpen
import Derived.WalkKit
import Derived.OwnWalkIn
import Derived.TacticsInMore
import Derived.LoopNIn
import Derived.LoopIn
import Derived.Test.YthdcjcdgddejbaaDoorSumPairs
namespace Go.Proofs.YthdcjcdgddejbaaDoor
open Go.RowKit Go.Shelf
set_option linter.unusedVariables false
attribute [local go_sem] Oper.semAt_some

/-- What a round of the loop leaves: every block but the loop's record l and the caller's total t. -/
def Kept (l t : Nat) (W W' : World) : Prop := W.heap.size ≤ W'.heap.size ∧ ∀ k, k < W.heap.size → k ≠ l → k ≠ t → W'.heap[k]? = W.heap[k]?
theorem lt_of_cell {w : World} {a : Addr} {v : Value} (h : w.cell? a = some v) : a.block < w.heap.size := by
  obtain ⟨o, ho, _⟩ := cells_of_cell h
  exact (Array.getElem?_eq_some_iff.1 ho).1
/-- Between two bytes: what has been yielded, and what waits. -/
def Mid (n g : Nat) (J : Int → World → Prop) (v : Value) (ss : List ByteArray) (s : Int × Bool) (W : World) : Prop :=
  ∃ (T fs : Int), J T W ∧ Pair W g fs s.2 ∧ s.1 = T + (if s.2 then 256 * fs else 0) ∧ 0 ≤ fs ∧ fs ≤ 255 ∧ 0 ≤ T ∧ RowB n W v ss

set_option maxHeartbeats 2000000 in
theorem words1_in (m : Nat) (n l t B g0 : Nat) (v : Value) (ss : List ByteArray) (J : Int → World → Prop)
    (hJ : ∀ T W W', J T W → Below B W W' → J T W')
    (hY : ∀ T x W, J T W → 0 ≤ T → 0 ≤ x → x ≤ 65535 → T + x ≤ 1152921504606846976 → YieldAt Fence.wide m Tryd.prog l #[.int .u16 x] W fun e W' => e = .returned (.bool true) ∧ J (T + x) W' ∧ Kept l t W W')
    (W : World) (hB : B ≤ W.heap.size) (hl : l < B) (ht : t < B) (hnl : n ≤ l) (hnt : n ≤ t) (hb : W.cell? ⟨g0, 0, none⟩ = some v) (hr : RowB n W v ss) (hsz : (flat ss).length ≤ 1099511627776) (hss : ss.length ≤ 1099511627776) (h0 : J 0 W) :
    CallsIn Fence.wide (m + 1) Tryd.prog 38 #[.func (.yield l) #[] #[], .pointer (some ⟨g0, 0, none⟩)] W fun e W' => (∃ v, e = .returned v) ∧ J (tot (flat ss)) W' := by
  obtain ⟨p, cap, hv, hc⟩ := id hr
  subst hv
  have HR := Lib.hid hr
  have HC := Lib.hid hc
  have HJ := Lib.hid hJ
  have HY := Lib.hid hY
  have H0 := Lib.hid h0
  clear hr hc hJ hY h0
  refine callsIn_of_wp Tryd.func38 rfl trivial ?_ rfl
  simp only [Tryd.ntmps38, List.size_toArray, List.length_cons, List.length_nil, Nat.reduceAdd, Nat.reduceSub, Array.replicate_succ, Array.replicate_zero, List.push_toArray, List.append_toArray, List.nil_append, List.cons_append]
  have hg0 : g0 < W.heap.size := lt_of_cell hb
  gi_wp2_with (refine ⟨trivial, ?_⟩; gi_at_call 39; refine (callsIn_wide.2 (pairs_any _)).mono ?_; rintro e w1 ⟨rfl, bel, hp, hs1⟩; have hb1 := (bel.cell (p := ⟨g0, 0, none⟩) hg0).trans hb; clear hb; have BEL := Lib.hid bel; have HP := Lib.hid hp; clear bel hp)
  gi_loopw [14] (fun i wr => ∃ j : Nat, j ≤ ss.length ∧ i = .int .i64 (j : Int) ∧ Mid n W.heap.size J (.slice p ss.length cap) ss (advs (0, false) (flat (ss.take j))) wr) (fun i _ => ss.length - (intOf i).toNat)
  case atStart => exact ⟨0, Nat.zero_le _, rfl, 0, 0, HJ.out _ _ _ H0.out (BEL.out.mono hB), HP.out, rfl, by omega, by omega, by omega, HR.out.kept fun k hk => BEL.out.block k (by omega)⟩
  case round =>
    clear hb1 HP BEL H0 HR HC hg0 hs1
    obtain ⟨j, hj, rfl, hM⟩ := hrel
    by_cases hlt : j < ss.length
    · obtain ⟨s, hs⟩ : ∃ s, ss[j]? = some s := ⟨_, List.getElem?_eq_getElem hlt⟩
      have hlen := size_le_flat ss j s hs
      obtain ⟨T0, fs0, x1, x2, x3, x4, x5, x6, hr⟩ := id hM
      obtain ⟨p', cap', hv', hc'⟩ := hr
      injection hv' with ep _ ec
      subst ec
      obtain ⟨g, hp, hg, hcell⟩ := hc' j s hs
      rw [← ep] at hp
      subst hp
      have HM := Lib.hid hM
      have HS := Lib.hid hs
      clear hM x1 x2 x3 x4 x5 x6 hc' ep hs
      gi_wp2
      gi_loopw [20] (fun k wr => ∃ q : Nat, q ≤ s.size ∧ k = .int .i64 (q : Int) ∧ Mid n W.heap.size J (.slice (some ⟨g, 0, none⟩) ss.length cap) ss (advs (0, false) (flat (ss.take j) ++ s.data.toList.take q)) wr) (fun k _ => s.size - (intOf k).toNat)
      case atStart => exact ⟨0, Nat.zero_le _, rfl, by simpa using HM.out⟩
      case round =>
        clear hcell
        obtain ⟨q, hq, rfl, hM⟩ := hrel
        by_cases hqs : q < s.size
        · obtain ⟨T, fs, hJT, hP, hsum, hf0, hf1, hT, hrow⟩ := hM
          have hnext : flat (ss.take j) ++ s.data.toList.take (q + 1) = (flat (ss.take j) ++ s.data.toList.take q) ++ [s[q]] := by rw [take_snoc s q hqs, List.append_assoc]
          have hbound := (advs_b (flat (ss.take j) ++ s.data.toList.take q) (0, false)).2
          have hlenq : ((flat (ss.take j) ++ s.data.toList.take q).length : Int) ≤ 1099511627776 := by rw [List.length_append, List.length_take]; omega
          obtain ⟨st, hst⟩ : ∃ st, st = advs (0, false) (flat (ss.take j) ++ s.data.toList.take q) := ⟨_, rfl⟩
          rw [← hst] at hP hsum hbound
          obtain ⟨b, hb⟩ : ∃ b : Int, b = (s[q].toNat : Int) := ⟨_, rfl⟩
          have hb0 : 0 ≤ b := by omega
          have hb1 : b ≤ 255 := by have := s[q].toNat_lt; omega
          have HB := Lib.hid hb
          have HN := Lib.hid hnext
          have HST := Lib.hid hst
          have HP := Lib.hid hP
          have HSUM := Lib.hid hsum
          have hTb : (advs (0, false) (flat (ss.take j) ++ s.data.toList.take q)).1 ≤ 65280 * 1099511627776 := by rw [← hst]; simp at hbound; omega
          rw [← hst] at hTb
          have HBD := Lib.hid hTb
          clear hbound hTb hlenq
          have HJT := Lib.hid hJT
          have HROW := Lib.hid hrow
          obtain ⟨s1, c⟩ := st
          clear hb hnext hst hP hsum hJT hrow
          cases c with
          | false =>
            gi_wp2_with (refine ⟨trivial, ?_⟩; gi_at_call 40; rw [← HB.out]; refine (callsIn_wide.2 (pair_first b fs W.heap.size _ HP.out)).mono ?_; rintro e w2 ⟨rfl, bel, hp, hs2⟩; have BEL := Lib.hid bel; have HP2 := Lib.hid hp; clear bel hp hs2)
            refine ⟨fun _ h => (by cases h), ?_⟩
            gi_wp2
            go_roundw
            case rel =>
              refine ⟨q + 1, by omega, by go_num, T, b, HJ.out _ _ _ HJT.out (BEL.out.mono hB), ?_, ?_, hb0, hb1, hT, HROW.out.kept fun k hk => BEL.out.block k (by omega)⟩
              · rw [HN.out, advs_snoc, ← HST.out]; exact HP2.out
              · rw [HN.out, advs_snoc, ← HST.out]; have e := HSUM.out; simp at e; simp [adv, e, HB.out]
            case measure => simp [intOf]; omega
          | true =>
            gi_wp2_with (refine ⟨trivial, ?_⟩; gi_at_call 40; rw [← HB.out]; refine (callsIn_wide.2 (pair_second b fs W.heap.size _ hb0 hb1 hf0 hf1 HP.out)).mono ?_; rintro e w2 ⟨rfl, bel, hp, hs2⟩; have BEL := Lib.hid bel; have HP2 := Lib.hid hp; have HS2 := Lib.hid hs2; clear bel hp hs2; obtain ⟨fn, tmps, assign, body, hy, hR⟩ := HY.out T (256 * fs + b) w2 (HJ.out _ _ _ HJT.out (BEL.out.mono hB)) hT (by omega) (by omega) (by have := HSUM.out; simp at this; have := HBD.out; omega))
            refine hR.mono ?_
            rintro e w3 ⟨rfl, hJ3, hK3⟩
            have HJ3 := Lib.hid hJ3
            have HK3 := Lib.hid hK3
            clear hJ3 hK3 hy hR
            gi_wp2
            go_roundw
            case rel =>
              have z2 := HP2.out.2.lt
              refine ⟨q + 1, by omega, by go_num, T + (256 * fs + b), fs, HJ3.out, ?_, ?_, hf0, hf1, by omega, (HROW.out.kept fun k hk => BEL.out.block k (by omega)).kept fun k hk => HK3.out.2 k (by omega) (by omega) (by omega)⟩
              · rw [HN.out, advs_snoc, ← HST.out]; exact HP2.out.same fun k hk hk' => HK3.out.2 k hk' (by omega) (by omega)
              · rw [HN.out, advs_snoc, ← HST.out]; have e := HSUM.out; simp at e; simp [adv, e, HB.out]; omega
            case measure => simp [intOf]; omega
        · obtain rfl : q = s.size := by omega
          have hnext : flat (ss.take j) ++ s.data.toList.take s.size = flat (ss.take (j + 1)) := by rw [flat_take ss j s HS.out, take_all]
          rw [hnext] at hM
          have HM2 := Lib.hid hM
          clear hM hnext
          gi_wp2
          go_roundw
          case rel => exact ⟨j + 1, by omega, by go_num, HM2.out⟩
          case measure => simp [intOf]; omega
    · obtain rfl : j = ss.length := by omega
      rw [List.take_length] at hM
      obtain ⟨T, fs, hJT, hP, hsum, hf0, hf1, hT, hrow⟩ := hM
      have hbound := (advs_b (flat ss) (0, false)).2
      obtain ⟨st, hst⟩ : ∃ st, st = advs (0, false) (flat ss) := ⟨_, rfl⟩
      have htot : tot (flat ss) = st.1 := by rw [hst]; rfl
      rw [← hst] at hP hsum hbound
      have HTOT := Lib.hid htot
      have HP := Lib.hid hP
      have HSUM := Lib.hid hsum
      have HJT := Lib.hid hJT
      obtain ⟨s1, c⟩ := st
      clear hP hsum hJT hrow hst htot
      cases c with
      | false =>
        gi_wp2_with (refine ⟨trivial, ?_⟩; gi_at_call 40; refine (callsIn_wide.2 (pair_first 0 fs W.heap.size _ HP.out)).mono ?_; rintro e w2 ⟨rfl, bel, hp, hs2⟩; have BEL := Lib.hid bel; have HP2 := Lib.hid hp; clear bel hp hs2)
        go_end0
        refine ⟨⟨_, rfl⟩, ?_⟩
        have e := HSUM.out
        simp at e
        rw [HTOT.out]
        show J s1 _
        rw [e]
        exact HJ.out _ _ _ HJT.out (BEL.out.mono hB)
      | true =>
        gi_wp2_with (refine ⟨trivial, ?_⟩; gi_at_call 40; refine (callsIn_wide.2 (pair_second 0 fs W.heap.size _ (by omega) (by omega) hf0 hf1 HP.out)).mono ?_; rintro e w2 ⟨rfl, bel, hp, hs2⟩; have BEL := Lib.hid bel; have HP2 := Lib.hid hp; clear bel hp hs2; obtain ⟨fn, tmps, assign, body, hy, hR⟩ := HY.out T (256 * fs) w2 (HJ.out _ _ _ HJT.out (BEL.out.mono hB)) hT (by omega) (by omega) (by have := HSUM.out; simp at this; simp at hbound; omega))
        refine hR.mono ?_
        rintro e w3 ⟨rfl, hJ3, hK3⟩
        have HJ3 := Lib.hid hJ3
        clear hJ3 hK3 hy hR
        gi_wp2
        go_end0
        refine ⟨⟨_, rfl⟩, ?_⟩
        have e := HSUM.out
        simp at e
        rw [HTOT.out]
        show J s1 _
        rw [e]
        exact HJ3.out
end Go.Proofs.YthdcjcdgddejbaaDoor
