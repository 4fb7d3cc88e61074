/-
  The items of a text, as the function over which Walk goes hands them over (items and its closure), by its walk: whatever loop ranges over it.
-/
import Derived.RangeFuncNested
import Derived.RangeFuncBound
import Derived.RangeFuncCalls
import Derived.RangeFuncLeaves
import Derived.RangeFuncFrom
import Derived.Shelf.Abstract
import Derived.Shelf.RegionOpen
import Derived.WalkKit
import Derived.OwnWalkIn
import Derived.TacticsInMore
import Derived.LoopNIn
import Derived.LoopIn
import Derived.Test.YtlmbccgldigihaaAreaFirst
namespace Go.Proofs.Ytlmbccgldigihaa
open Go.RowKit Go.Shelf
set_option linter.unusedVariables false
attribute [local go_sem] Oper.semAt_some

theorem items_any (s : ByteArray) (w : World) :
    Calls Try.prog 22 #[.string s] w fun e w' => e = .returned (.func (.func 24) #[] #[.pointer (some ⟨w.heap.size, 0, none⟩)]) ∧ w' = w.alloc (.cells #[.string s] 9) := by
  go_enter Try.func22, Try.ntmps22
  go_wp2
  go_ret; exact ⟨rfl, rfl⟩

/-- What is handed over, as values. -/
abbrev encs (x : Ev) : Array Value := #[.agg #[.int .i64 x.1.1, .string x.1.2], .agg #[.int .i64 x.2.1, .int .i64 x.2.2]]
/-- Block b is as it was. -/
def Kpt (b : Nat) (W W' : World) : Prop := W'.heap[b]? = W.heap[b]?

theorem fst_size (q : List UInt8) (h : q ≠ []) (hc : (fst q).2.2 = 0) : 1 ≤ (fst q).2.1 ∧ (fst q).2.1 ≤ q.length := by
  match q, h with
  | [a], _ =>
    rw [fst_one] at hc ⊢
    split at hc
    · next h => rw [if_pos h]; simp
    · simp at hc
  | a :: b :: t, _ =>
    rw [fst_two] at hc ⊢
    split at hc
    · next h => rw [if_pos h]; simp
    · next h =>
      rw [if_neg h]
      split at hc
      · simp at hc
      · next h2 =>
        rw [if_neg h2]
        split at hc
        · simp at hc
        · next h3 => rw [if_neg h3]; simp; omega
theorem evs_nil (m k : Nat) : evs m k [] = [] := by cases m <;> simp [evs]
theorem evs_ok (m k : Nat) (q : List UInt8) (h : q ≠ []) (hc : (fst q).2.2 = 0) : evs (m + 1) k q = ((fst q).1, (0, 0)) :: evs m (k + (fst q).2.1) (q.drop (fst q).2.1) := by
  rw [evs, if_neg h, if_pos hc]
theorem evs_bad (m k : Nat) (q : List UInt8) (h : q ≠ []) (hc : (fst q).2.2 ≠ 0) : evs (m + 1) k q = [((0, ⟨#[]⟩), ((fst q).2.2, (k : Int)))] := by
  rw [evs, if_neg h, if_neg hc]

set_option maxHeartbeats 2000000 in
theorem items1_in (m l b : Nat) (s : ByteArray) (hs : s.size ≤ 40) (J Jx : List Ev → World → Prop) (W : World)
    (hJ : ∀ pre V V', J pre V → V.grownBy V' none → J pre V')
    (hJx : ∀ pre V V', Jx pre V → V.grownBy V' none → Jx pre V')
    (hY : ∀ pre x V, J pre V → pre.length < 41 → YieldAt Fence.wide m Try.prog l (encs x) V fun e V' => (e = .returned (.bool true) ∧ J (pre ++ [x]) V' ∧ Kpt b V V') ∨ (e = .returned (.bool false) ∧ Jx (pre ++ [x]) V'))
    (hb : W.cell? ⟨b, 0, none⟩ = some (.string s)) (h0 : J [] W) :
    CallsIn Fence.wide (m + 1) Try.prog 24 #[.func (.yield l) #[] #[], .pointer (some ⟨b, 0, none⟩)] W fun e W' => (∃ v, e = .returned v) ∧ ((∃ xs, xs = evs 41 0 s.data.toList ∧ J xs W') ∨ (∃ pre, pre <+: evs 41 0 s.data.toList ∧ Jx pre W')) := by
  obtain ⟨E, hE⟩ : ∃ E, E = evs 41 0 s.data.toList := ⟨_, rfl⟩
  rw [← hE]
  have HE := Lib.hid hE
  have HJ := Lib.hid hJ
  have HY := Lib.hid hY
  have H0 := Lib.hid h0
  clear hJ hY h0 hJx hE
  refine callsIn_of_wp Try.func24 rfl trivial ?_ rfl
  simp only [Try.ntmps24, List.size_toArray, List.length_cons, List.length_nil, Nat.reduceAdd, Nat.reduceSub, Array.replicate_succ, Array.replicate_zero, List.push_toArray, List.append_toArray, List.nil_append, List.cons_append]
  gi_wp2
  gi_loopw [3] (fun i wr => ∃ (k f : Nat) (pre : List Ev), k ≤ s.size ∧ i = .int .i64 (k : Int) ∧ J pre wr ∧ E = pre ++ evs f k (s.data.toList.drop k) ∧ s.size - k ≤ f ∧ pre.length + f ≤ 41 ∧ wr.cell? ⟨b, 0, none⟩ = some (.string s)) (fun i _ => s.size - (intOf i).toNat)
  case atStart => exact ⟨0, 41, [], Nat.zero_le _, rfl, H0.out, by rw [HE.out]; rfl, by omega, by simp, hb⟩
  case round =>
    clear hb H0
    obtain ⟨k, f, pre, hk, rfl, hJp, hEp, hf, hpf, hc⟩ := hrel
    by_cases hlt : k < s.size
    · obtain ⟨q, hq⟩ : ∃ q, q = s.extract k s.size := ⟨_, rfl⟩
      have hqd : q.data.toList = s.data.toList.drop k := by rw [hq, data_extract, List.take_of_length_le (by simp)]
      have hqs : q.size = s.size - k := by rw [← data_length, hqd, List.length_drop, data_length]
      obtain ⟨f', rfl⟩ : ∃ f', f = f' + 1 := ⟨f - 1, by omega⟩
      have hne : q.data.toList ≠ [] := fun e => by rw [← List.length_eq_zero_iff, data_length] at e; omega
      rw [← hqd] at hEp
      obtain ⟨⟨⟨ki, bi⟩, sz, c⟩, hr⟩ : ∃ r, fst q.data.toList = r := ⟨_, rfl⟩
      have HQ := Lib.hid hq.symm
      have HJP := Lib.hid hJp
      have HEP := Lib.hid hEp
      have HR := Lib.hid hr
      have HN := Lib.hid hne
      have HQD := Lib.hid hqd
      have hb' : b < wr.heap.size := by
        obtain ⟨o, ho, _⟩ := cells_of_cell hc
        exact (Array.getElem?_eq_some_iff.1 ho).1
      have hcode := fst_code q.data.toList
      rw [hr] at hcode
      simp only at hcode
      clear hq hJp hEp hr hne hqd
      by_cases h0c : c = 0
      · subst h0c
        have hsz := fst_size _ HN.out (by rw [HR.out])
        rw [HR.out, data_length] at hsz
        simp only at hsz
        clear hcode
        gi_wp2_with (refine ⟨trivial, ?_⟩; gi_at_call 25; rw [HQ.out]; refine (callsIn_wide.2 (first_any q ((ki, bi), sz, 0) HR.out _ (by omega) (by omega))).mono ?_; rintro e w1 ⟨rfl, B1⟩; have hc1 := (bcell B1 b 0 hb').trans hc; clear hc; have J1 := HJ.out pre _ (w1.alloc (.cells #[.int .i64 ki, .string bi] 24)) HJP.out ((only_of_below B1 none).trans (World.grownBy_alloc _ _ none)); obtain ⟨fn, tmps, assign, body, hy, hR⟩ := HY.out pre ((ki, bi), (0, 0)) _ J1 (by omega); have HJ1 := Lib.hid J1; clear J1; dsimp only [encs] at hy)
        have hc2 : (w1.alloc (.cells #[.int .i64 ki, .string bi] 24)).cell? ⟨b, 0, none⟩ = some (.string s) := (bcell (below_more (Below.refl _ w1) _) b 0 (Nat.lt_of_lt_of_le hb' B1.size)).trans hc1
        refine hR.mono ?_
        rintro e W3 (⟨rfl, J3, k3⟩ | ⟨rfl, Jx3⟩)
        · have hc3 : W3.cell? ⟨b, 0, none⟩ = some (.string s) := (World.cell?_of_block (a := ⟨b, 0, none⟩) k3).trans hc2
          have HJ3 := Lib.hid J3
          clear J3 k3 hc1 hc2 hy hR B1
          gi_wp2
          go_roundw
          case rel =>
            have e1 := HEP.out
            rw [evs_ok _ _ _ HN.out (by rw [HR.out]), HR.out, HQD.out, List.drop_drop] at e1
            exact ⟨k + sz, f', pre ++ [((ki, bi), (0, 0))], by omega, by go_num, HJ3.out, by rw [e1]; simp, by omega, by simp; omega, hc3⟩
          case measure => simp [intOf]; omega
        · have HJ3 := Lib.hid Jx3
          clear Jx3 hc1 hc2 hy hR B1
          gi_wp2
          refine bodyPost_ret (results_none rfl _ _ _) rfl ?_
          have e1 := HEP.out
          rw [evs_ok _ _ _ HN.out (by rw [HR.out]), HR.out] at e1
          exact ⟨⟨_, rfl⟩, .inr ⟨pre ++ [((ki, bi), (0, 0))], ⟨evs f' (k + sz) (q.data.toList.drop sz), by rw [e1]; simp⟩, HJ3.out⟩⟩
      · have hcb : (c != 0) = true := by simpa using h0c
        gi_wp2_with (refine ⟨trivial, ?_⟩; gi_at_call 25; rw [HQ.out]; refine (callsIn_wide.2 (first_any q ((ki, bi), sz, c) HR.out _ (by omega) (by omega))).mono ?_; rintro e w1 ⟨rfl, B1⟩; have J1 := HJ.out pre _ (w1.alloc (.cells #[.int .i64 ki, .string bi] 24)) HJP.out ((only_of_below B1 none).trans (World.grownBy_alloc _ _ none)); obtain ⟨fn, tmps, assign, body, hy, hR⟩ := HY.out pre ((0, ⟨#[]⟩), (c, (k : Int))) _ J1 (by omega); have HJ1 := Lib.hid J1; clear J1; dsimp only [encs] at hy)
        have e1 := HEP.out
        rw [evs_bad _ _ _ HN.out (by rw [HR.out]; exact h0c), HR.out] at e1
        refine hR.mono ?_
        rintro e W3 (⟨rfl, J3, k3⟩ | ⟨rfl, Jx3⟩)
        · have HJ3 := Lib.hid J3
          have HE1 := Lib.hid e1
          clear J3 k3 hy hR B1 e1
          gi_wp2
          refine bodyPost_ret (results_none rfl _ _ _) rfl ?_
          exact ⟨⟨_, rfl⟩, .inl ⟨_, HE1.out.symm, HJ3.out⟩⟩
        · have HJ3 := Lib.hid Jx3
          have HE1 := Lib.hid e1
          clear Jx3 hy hR B1 e1
          gi_wp2
          refine bodyPost_ret (results_none rfl _ _ _) rfl ?_
          exact ⟨⟨_, rfl⟩, .inr ⟨_, ⟨[], by rw [HE1.out]; simp⟩, HJ3.out⟩⟩
    · obtain rfl : k = s.size := by omega
      rw [List.drop_of_length_le (by simp), evs_nil, List.append_nil] at hEp
      have HJP := Lib.hid hJp
      have HEP := Lib.hid hEp
      clear hJp hEp
      gi_wp2
      go_end0
      exact ⟨⟨_, rfl⟩, .inl ⟨pre, HEP.out.symm, HJP.out⟩⟩
end Go.Proofs.Ytlmbccgldigihaa
