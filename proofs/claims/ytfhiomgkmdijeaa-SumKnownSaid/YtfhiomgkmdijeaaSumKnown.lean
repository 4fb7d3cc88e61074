/-
  The chapter's examples hold, with the greatest numbers and many words (statement SumKnown, promises P3.1, P3.2; closed), without condition.
-/
import Derived.Test.YtfhiomgkmdijeaaSumBytes
import Derived.Test.YtfhiomgkmdijeaaRows
import Derived.WalkKit
import Derived.ProofKit
import Derived.OpenShut
import Derived.ShutString
import Derived.ChangeOld
import Derived.Below
import Derived.SizedLaws
namespace Go.Proofs.Ytfhiomgkmdijeaa.sumKnown
open Go.ChangeShapes Go.WideShapes Go.ChangeAt Go.RowKit
open Go.ChangeMaps (open_string shut_string)
set_option linter.unusedVariables false


/-- Words that are all 65535. -/
theorem tot_ones : ∀ n, tot (List.replicate (2 * n) 255) = 65535 * (n : Int)
  | 0 => rfl
  | n + 1 => by
    rw [show 2 * (n + 1) = 2 * n + 2 by omega, ← List.replicate_append_replicate]
    rw [show List.replicate 2 (255 : UInt8) = [255, 255] from rfl, tot_two _ _ _ (by simp), tot_ones n]
    show 65535 * (n : Int) + 256 * 255 + 255 = _
    omega
/-- A new slice of 65536 bytes. -/
theorem made (w : World) (N : Nat) (hN : N = 65536) : ∃ w', (Instr.makeSlice 38 (.int .i64 65536) (.int .i64 65536)).run Try.prog w = .ok (.slice (some ⟨w.heap.size, 0, none⟩) N N) w' ∧
    (∃ l : List UInt8, Bts w' w.heap.size l ∧ l.length = N) ∧ Below w.heap.size w w' := by
  obtain ⟨i, hi, hz, h1, h2⟩ := info_parts (show (Try.prog.info? 5).map (fun i => (i.zero, i.size, i.bytes)) = some (some (.int .u8 0), 1, 1) by kernel_rfl)
  have hr := run_make (P := Try.prog) w 38 5 i _ Try.underlying38 hi hz .i64 .i64 65536 65536 (by decide) (by decide) (by rw [h2]; decide) (by decide)
  subst hN
  refine ⟨_, hr, ⟨List.replicate 65536 0, ⟨by simp, fun j hj => ?_⟩, by rw [List.length_replicate]⟩, (Below.refl _ w).alloc (Nat.le_refl _) _⟩
  have hj' : j < 65536 := by rw [List.length_replicate] at hj; exact hj
  have hb := Blk.new w 5 (madeCells (Value.cells (.int .u8 0)) (Int.toNat 65536 * i.size))
  refine ⟨?_, hb.frozen j⟩
  have hl := toList_madeCells_one (.int .u8 0) 65536
  rw [hb.cell j, h1, ← Array.getElem?_toList]
  rw [show madeCells (Value.cells (.int .u8 0)) (Int.toNat 65536 * 1) = madeCells #[.int .u8 0] 65536 from rfl, hl, List.getElem?_replicate, if_pos hj', List.getElem_replicate]
  rfl

set_option maxHeartbeats 4000000 in
set_option maxRecDepth 100000 in
theorem walk (w : World) : Calls Try.prog 8 #[] w fun e w' => e = .returned (.bool true) ∧ Below w.heap.size w w' := by
  obtain ⟨N, hN⟩ : ∃ N, N = 65536 := ⟨_, rfl⟩
  obtain ⟨wm, hm, ⟨l0, hl0, hn0⟩, hb0⟩ := made w N hN
  have HNN := Lib.hid hN
  have hN1 : N ≤ 1000000 := by omega
  clear hN
  have HL0 := Lib.hid hl0
  have HN0 := Lib.hid hn0
  have HB0 := Lib.hid hb0
  clear hl0 hn0 hb0
  go_enter Try.func8, Try.ntmps8
  go_wp2
  clear hm
  go_loopw [2] (fun i wr => ∃ (j : Nat) (l : List UInt8), j ≤ N ∧ i = .int .i64 (j : Int) ∧ Bts wr w.heap.size l ∧ l.length = N ∧ (∀ k, k < j → l[k]? = some 255) ∧ Below w.heap.size w wr) (fun i _ => N - (intOf i).toNat)
  case atStart => exact ⟨0, l0, Nat.zero_le _, rfl, HL0.out, HN0.out, fun k hk => absurd hk (by omega), HB0.out⟩
  case round =>
    clear HL0 HN0 HB0
    obtain ⟨j, l, hj, rfl, hl, hn, hv, hB⟩ := hrel
    have HL := Lib.hid hl
    have HN := Lib.hid hn
    have HV := Lib.hid hv
    have HB := Lib.hid hB
    clear hl hn hv hB
    by_cases hlt : j < N
    · have c := HL.out.cell j (by rw [HN.out]; exact hlt)
      have f := HL.out.frozen j (by rw [HN.out]; exact hlt)
      go_wp2
      go_roundw
      case rel =>
        refine ⟨j + 1, l.set j 255, by omega, by go_num, HL.out.set_ j 255 (by rw [HN.out]; exact hlt), by rw [List.length_set]; exact HN.out, fun k hk => ?_, HB.out.setCell (p := ⟨w.heap.size, j, none⟩) (Nat.le_refl _) _⟩
        rw [List.getElem?_set]
        by_cases e : j = k
        · rw [if_pos e, if_pos (by rw [HN.out]; omega)]
        · rw [if_neg e]; exact HV.out k (by omega)
      case measure => simp [intOf]; omega
    · obtain rfl : N = j := by omega
      have hrep : l = List.replicate N 255 := by
        apply List.ext_getElem?
        intro k
        by_cases hk : k < N
        · rw [HV.out k hk, List.getElem?_replicate, if_pos hk]
        · rw [List.getElem?_eq_none (by rw [HN.out]; omega), List.getElem?_eq_none (by rw [List.length_replicate]; omega)]
      have HT := Lib.hid (show fold (tot (flat [txt l])) = 65535 by
        have e : flat [txt l] = l := by simp [flat]
        rw [e, hrep, HNN.out, show 65536 = 2 * 32768 from rfl, tot_ones 32768]; decide)
      have HS := Lib.hid (show (flat [txt l]).length ≤ 1099511627776 by
        have e : flat [txt l] = l := by simp [flat]
        rw [e, HN.out]; omega)
      clear hrep HV
      go_wp2_with fail
      refine (works_any _).mono ?_
      rintro e w0 ⟨rfl, b0⟩
      have B0 := Lib.hid (below_then HB.out b0)
      have hc := bytes_text w0 w.heap.size N N l (HL.out.below b0 HL.out.1) HN.out.symm
      clear b0
      go_wp2_with fail
      refine (Of_any _ [txt l] 65535 _ (Row.built _ _ rfl) HS.out (by simp) HT.out).mono ?_
      rintro e w1 ⟨rfl, b1⟩
      have B1 := Lib.hid (below_then (B0.out.alloc B0.out.size _) b1)
      clear b1 hc
      go_wp2_with fail
      refine (Fold_any 0 (by decide) (by decide) _).mono ?_
      rintro e w' ⟨rfl, rfl⟩
      go_wp2_with fail
      refine (Fold_any 1 (by decide) (by decide) _).mono ?_
      rintro e w' ⟨rfl, rfl⟩
      go_wp2_with fail
      refine (Fold_any 131070 (by decide) (by decide) _).mono ?_
      rintro e w' ⟨rfl, rfl⟩
      go_wp2_with fail
      refine (Fold_any 131071 (by decide) (by decide) _).mono ?_
      rintro e w' ⟨rfl, rfl⟩
      go_wp2_with fail
      refine (Same_any 0 1 (by decide) (by decide) (by decide) (by decide) _).mono ?_
      rintro e w' ⟨rfl, rfl⟩
      go_wp2_with fail
      refine (Same_any 65535 0 (by decide) (by decide) (by decide) (by decide) _).mono ?_
      rintro e w' ⟨rfl, rfl⟩
      go_wp2_with fail
      refine (Same_any 65534 65535 (by decide) (by decide) (by decide) (by decide) _).mono ?_
      rintro e w' ⟨rfl, rfl⟩
      go_wp2_with fail
      refine (Not_any 0 (by decide) (by decide) _).mono ?_
      rintro e w' ⟨rfl, rfl⟩
      go_wp2_with fail
      refine (Not_any 65535 (by decide) (by decide) _).mono ?_
      rintro e w' ⟨rfl, rfl⟩
      go_wp2_with fail
      refine (Turn_any 0 0 0 (by decide) (by decide) (by decide) (by decide) (by decide) (by decide) _).mono ?_
      rintro e w' ⟨rfl, rfl⟩
      go_wp2_with fail
      refine (Turn_any 5 5 0 (by decide) (by decide) (by decide) (by decide) (by decide) (by decide) _).mono ?_
      rintro e w' ⟨rfl, rfl⟩
      go_wp2_with fail
      refine (Whole_any _ [] 0 _ (Row.nil _) (by decide) (by decide) (by decide)).mono ?_
      rintro e w2 ⟨rfl, b2⟩
      have B2 := Lib.hid (below_then (B1.out) b2)
      clear b2
      go_wp2_with fail
      refine (Whole_any _ [⟨#[0]⟩] 0 _ (Row.built _ _ rfl) (by decide) (by decide) (by decide)).mono ?_
      rintro e w3 ⟨rfl, b3⟩
      have B3 := Lib.hid (below_then (B2.out.alloc B2.out.size _) b3)
      clear b3
      go_wp2_with fail
      refine (Whole_any _ [⟨#[255, 255]⟩] 65535 _ (Row.built _ _ rfl) (by decide) (by decide) (by decide)).mono ?_
      rintro e w4 ⟨rfl, b4⟩
      have B4 := Lib.hid (below_then (B3.out.alloc B3.out.size _) b4)
      clear b4
      go_wp2_with fail
      refine (Of_any _ [⟨#[255]⟩] 65280 _ (Row.built _ _ rfl) (by decide) (by decide) (by decide)).mono ?_
      rintro e w5 ⟨rfl, b5⟩
      have B5 := Lib.hid (below_then (B4.out.alloc B4.out.size _) b5)
      clear b5
      go_wp2
      go_ret; exact ⟨rfl, B5.out⟩

theorem own : ownKnob Try.prog.godebug = none := by kernel_rfl
theorem laidOut : laidOutB Try.prog = true := by kernel_rfl

set_option maxRecDepth 100000 in
theorem lifted (os : Os) (started : os.Started) (H : Type) (enc : TypeId × Value → H) :
    ReturnsInHanded {} Try.checked os 8 .any (Rows.sumKnownSpec.pre6 enc Try.prog Try.f8 Rows.sumKnownRow.domain false) (Rows.sumKnownSpec.post enc Try.prog Try.f8 false true false false) := by
  refine returnsInHanded_of_change (C := Try.checked) own started (by kernel_rfl) Try.func8
    (ChangeSpec.witness6 (enc := enc) (C := Try.checked) false ⟨#[], #[], []⟩ 8 (by kernel_rfl) (by kernel_rfl) (by kernel_rfl) (by kernel_rfl)) ?_
  intro W base args ds gs before hval0 hW hcnd _
  have hval : ∀ (j : Nat) t v, Try.f8.params[j]? = some t → args[j]? = some v → Value.okWide Try.prog W .any base t v := hval0
  have hW' := hW
  obtain ⟨p, q, hA0, hV, rfl, hfz, hnd⟩ := hW
  have hA : DataW.TrodAll enc Try.prog W 0 (fun _ => true) true Try.f8.params.toList args.toList ds p := hA0
  rw [Try.params8] at hA hval
  obtain ⟨rfl, rfl, rfl⟩ := trodAll_none hA
  obtain ⟨rfl, rfl⟩ := trodVars_none hV
  clear hA0 hval0
  simp only [List.append_nil] at hW'
  refine (walk W).mono fun e W' ⟨he, bel⟩ => ?_
  subst he
  exact ⟨_, rfl, _, _, _, [], _, [], hW', trodAll_mk1 (shut_bool Try.underlying4 _), rfl, rfl, bel.frame _, fun h => by cases h⟩

theorem over : Rows.sumKnownRow.holds Try.pinned (OpenSpec.ofChange Rows.sumKnownSpec) :=
  OpenClaim.holds_of_wide 8 Try.f8 rfl rfl rfl rfl rfl rfl rfl ⟨rfl, rfl, rfl, rfl, rfl⟩ rfl rfl rfl rfl rfl (by kernel_rfl) Try.func8 (by kernel_rfl)
    (of_decide_eq_true (by kernel_rfl)) (by unfold Func.isWrapper; first | (rw [if_pos (by decide +kernel)]; kernel_rfl) | (rw [if_neg (by decide +kernel)]; exact ⟨rfl, rfl⟩))
    (fun os started H enc _ => lifted os started H enc)

theorem proved : Rows.SumKnownSaid := over
#print axioms proved
end Go.Proofs.Ytfhiomgkmdijeaa.sumKnown
