/-
  CursorTells returns true for all texts and rows of steps. No conditions.
-/
import Derived.Test.YtjkbajhmnfejgaaCurWorks
import Derived.Test.YtjkbajhmnfejgaaCurAlike
import Derived.Test.YtjkbajhmnfejgaaCurOpen
import Derived.WalkKit
import Derived.ProofKit
import Derived.OpenShut
import Derived.ShutString
import Derived.ChangeOld
import Derived.Below
import Derived.SizedLaws
namespace Go.Proofs.Ytjkbajhmnfejgaa.cursorTells
open Go.ChangeShapes Go.WideShapes Go.ChangeAt Go.RowKit
open Go.ChangeMaps (open_string shut_string)
set_option linter.unusedVariables false

/-- The steps of a slice: the cells of each, and that they are numbers of their kinds. -/
def Steps (w : World) (A : Option Addr) (len : Nat) : Prop :=
  ∀ i, i < len → ∃ (ad : Addr) (a n : Int), A = some ad ∧ w.cell? (ad.add (i * 2)) = some (.int .u8 a) ∧ w.cell? ⟨(ad.add (i * 2)).block, (ad.add (i * 2)).off + 1, none⟩ = some (.int .i64 n) ∧ (0 ≤ a ∧ a ≤ 255) ∧ (-9223372036854775808 ≤ n ∧ n ≤ 9223372036854775807)

/-- What holds at the head of each round. -/
def Round (w : World) (s : ByteArray) (b r len : Nat) (i : Value) (wr : World) : Prop :=
  ∃ j : Nat, (j ≤ len ∧ j ≤ 40 ∧ i = .int .i64 (j : Int)) ∧ Below w.heap.size w wr ∧ ∃ (k : Nat) (br : Bool), k ≤ s.size ∧ Cur wr b s k br ∧ Ref wr r s k br

theorem endO_ne (s : ByteArray) (k : Nat) (br : Bool) : (endO s k br != endO s k br) = false := by simp

set_option maxRecDepth 100000 in
set_option maxHeartbeats 4000000 in
theorem walk (s : ByteArray) (hs : s.size ≤ 140737488351232) (A : Option Addr) (len cap : Nat) (hl : len ≤ 9223372036854775807) (w : World) (hst : Steps w A len) :
    Calls Try.prog 3 #[.string s, .slice A len cap] w fun e w' => e = .returned (.bool true) ∧ Below w.heap.size w w' := by
  have HS := Lib.hid hst
  clear hst
  go_enter Try.func3, Try.ntmps3
  go_wp2_with fail
  refine (Read_new s _).mono ?_
  rintro e w1 ⟨b, rfl, hb, B1, C1⟩
  have HR0 := Lib.hid (show Ref (w1.alloc (.cells #[.string s, .int .i64 0, .bool false] 27)) w1.heap.size s 0 false from Blk.new _ _ _)
  have HC0 := Lib.hid (show Cur (w1.alloc (.cells #[.string s, .int .i64 0, .bool false] 27)) b s 0 false from Blk.alloc C1 _)
  have HB0 := Lib.hid (show Below w.heap.size w (w1.alloc (.cells #[.string s, .int .i64 0, .bool false] 27)) from B1.alloc B1.size _)
  have hrw := B1.size
  clear B1 C1
  go_wp2_with fail
  refine (answer (Left_any b s 0 false _ (by omega) (by omega) HC0.out) (val_int (by simp [leftO]) : _ = Value.int .i64 (s.size : Int))).mono ?_
  rintro e w' ⟨rfl, n1, rfl⟩
  go_wp2_with fail
  refine (At_any b s 0 false _ (Blk.drewN HC0.out _)).mono ?_
  rintro e w' ⟨rfl, rfl⟩
  go_wp2_with fail
  refine (End_any b s 0 false _ (by omega) (by omega) (Blk.drewN HC0.out _)).mono ?_
  rintro e w' ⟨rfl, n2, rfl⟩
  go_wp2_with fail
  refine (End_ref w1.heap.size s 0 false _ (by omega) (by omega) (Blk.drewN HR0.out _)).mono ?_
  rintro e w' ⟨rfl, n3, rfl⟩
  go_wp2_with fail
  go_loopw [7] (fun i wr => Round w s b w1.heap.size len i wr) (fun i _ => 40 - (intOf i).toNat)
  case atStart => exact ⟨0, ⟨by omega, by omega, rfl⟩, below_drewN HB0.out _, 0, false, by omega, Blk.drewN HC0.out _, Blk.drewN HR0.out _⟩
  case round =>
    obtain ⟨j, ⟨hj1, hj2, rfl⟩, hB, k, br, hk, hC, hR⟩ := hrel
    have HB := Lib.hid hB
    have HC := Lib.hid hC
    have HR := Lib.hid hR
    clear HB0 HC0 HR0
    by_cases h40 : j < 40
    · by_cases hlen : j < len
      · obtain ⟨ad, a, n, rfl, c0, c1, ⟨a0, a1⟩, ⟨n0, n1⟩⟩ := HS.out j hlen
        have hlt := World.block_lt_of_cell? w _ c0
        rw [← hB.cell hlt] at c0
        rw [← hB.cell (p := ⟨(ad.add (j * 2)).block, (ad.add (j * 2)).off + 1, none⟩) hlt] at c1
        have d40 : decide ((j : Int) < 40) = true := by simp; omega
        clear hB hC hR HS
        go_wp2_with fail
        clear d40 c0 c1
        refine (alike_any a n a0 a1 n0 n1 b w1.heap.size s k br w.heap.size _ (by omega) hk HC.out HR.out hb hrw HB.out.size).mono ?_
        rintro e w2 ⟨rfl, k', br', hk', hC', hR', hB'⟩
        have HN := Lib.hid (show Round w s b w1.heap.size len (.int .i64 ((j + 1 : Nat) : Int)) w2 from ⟨j + 1, ⟨by omega, by omega, rfl⟩, HB.out.trans hB', k', br', hk', hC', hR'⟩)
        clear hk' hC' hR' hB' HB HC HR
        go_wp2_with fail
        go_roundw
        case rel => exact HN.out
        case measure => simp [intOf]; omega
      · obtain rfl : len = j := by omega
        clear hB hC hR HS
        go_wp2_with fail
        refine (works_true _).mono ?_
        rintro e w2 ⟨rfl, hB2⟩
        go_wp2_with fail
        go_ret
        exact ⟨rfl, HB.out.trans (hB2.mono HB.out.size)⟩
    · obtain rfl : 40 = j := by omega
      clear hB hC hR HS
      by_cases h4 : 40 < len
      all_goals
        go_wp2_with fail
        refine (works_true _).mono ?_
        rintro e w2 ⟨rfl, hB2⟩
        go_wp2_with fail
        go_ret
        exact ⟨rfl, HB.out.trans (hB2.mono HB.out.size)⟩

theorem open_steps {H : Type} {enc : TypeId × Value → H} {w : World} {base : Nat} {spare : Nat → Bool} {held : Bool} {r : Reach} {b0 : Nat} {v : Value} {d : DataW H} {p : List MemPlace}
    (hv : Value.okWide Try.prog w r b0 22 v) (h : DataW.Trod enc Try.prog w base spare held 22 v d p) :
    ∃ (A : Option Addr) (len cap : Nat), v = .slice A len cap ∧ len ≤ 9223372036854775807 ∧ Steps w A len := by
  obtain ⟨A, len, cap, rfl, hl, hc, hi⟩ := open_rows Try.underlying22 Try.underlying32 (by kernel_rfl) (by kernel_rfl) hv h
  refine ⟨A, len, cap, rfl, by omega, fun i hlt => ?_⟩
  obtain ⟨ad, rfl, hf⟩ := hi i hlt
  obtain ⟨u0, m0, y0, c0, t0⟩ := hf 0 _ rfl
  obtain ⟨u1, m1, y1, c1, t1⟩ := hf 1 _ rfl
  obtain ⟨a, e0, _, wa⟩ := DataW.trod_int Try.underlying5 t0
  obtain ⟨n, e1, _, wn⟩ := DataW.trod_int Try.underlying3 t1
  injection e0 with e0
  injection e1 with e1
  subst e0 e1
  exact ⟨ad, a, n, rfl, c0, c1, bounds_u8 wa, bounds_i64 wn⟩

theorem own : ownKnob Try.prog.godebug = none := by kernel_rfl
theorem laidOut : laidOutB Try.prog = true := by kernel_rfl

set_option maxRecDepth 100000 in
theorem lifted (os : Os) (started : os.Started) (H : Type) (enc : TypeId × Value → H) :
    ReturnsInHanded {} Try.checked os 3 .any (Rows.cursorTellsSpec.pre6 enc Try.prog Try.f3 Rows.cursorTellsRow.domain false) (Rows.cursorTellsSpec.post enc Try.prog Try.f3 false true false false) := by
  refine returnsInHanded_of_change_sized (C := Try.checked) own started (by kernel_rfl) Try.func3
    (ChangeSpec.witness6 (enc := enc) (C := Try.checked) false ⟨#[], #[.string ByteArray.empty, .slice none 0 0], []⟩ 8 (by kernel_rfl) (by kernel_rfl) (by kernel_rfl) (by kernel_rfl)) ?_
  intro W base args ds gs before hval0 hW hcnd hsz0 _
  have hsz : (DataW.weightsEach Try.prog (Try.f3.params.toList ++ Rows.cursorTellsSpec.plain.varTypes Try.prog) (ds ++ gs)).all (· ≤ reachBytes) = true := hsz0
  have hval : ∀ (j : Nat) t v, Try.f3.params[j]? = some t → args[j]? = some v → Value.okWide Try.prog W .any base t v := hval0
  have hW' := hW
  obtain ⟨p, q, hA0, hV, rfl, hfz, hnd⟩ := hW
  have hA : DataW.TrodAll enc Try.prog W 0 (fun _ => true) true Try.f3.params.toList args.toList ds p := hA0
  rw [Try.params3] at hA hval hsz
  obtain ⟨v0, vs0, d0, ds0, p0, q0, hargs, rfl, rfl, h0, r0⟩ := trodAll_cons hA
  obtain ⟨v1, vs1, d1, ds1, p1, q1, rfl, rfl, rfl, h1, r1⟩ := trodAll_cons r0
  obtain ⟨rfl, rfl, rfl⟩ := trodAll_nil r1
  obtain rfl : args = #[v0, v1] := by cases args; simp_all
  obtain ⟨rfl, rfl⟩ := trodVars_none hV
  obtain ⟨a0, rfl, rfl, rfl, w0⟩ := open_string Try.underlying9 (hval 0 9 v0 rfl rfl) h0
  have k1 := h1
  have lt1 : ∀ x ∈ p1, x.block < W.heap.size := by obtain ⟨m, hm⟩ := k1; exact DataW.trod_lt m _ _ _ hm
  obtain ⟨A, len, cap, rfl, hl, hst⟩ := open_steps (hval 1 22 v1 rfl rfl) h1
  have z0 : a0.size ≤ 140737488351232 := by have := sized_string hsz (j := 0) (t := 9) rfl rfl; simpa [reachBytes] using this
  clear hA0 hval0
  simp only [List.append_nil] at hW'
  refine (walk a0 z0 A len cap hl W hst).mono fun e W' ⟨he, bel⟩ => ?_
  subst he
  exact ⟨_, rfl, _, _, _, [], _, [], hW', trodAll_mk1 (shut_bool Try.underlying4 _), (trodAll_cons_mk (shut_string Try.underlying9 w0) (trodAll_cons_mk (Below.trod laidOut (by kernel_rfl) (of_decide_eq_true (by kernel_rfl)) k1 bel lt1) trodAll_mk0)), rfl, bel.frame _, fun h => by cases h⟩

theorem over : Rows.cursorTellsRow.holds Try.pinned (OpenSpec.ofChange Rows.cursorTellsSpec) :=
  OpenClaim.holds_of_wide 3 Try.f3 rfl rfl rfl rfl rfl rfl rfl ⟨rfl, rfl, rfl, rfl, rfl⟩ rfl rfl rfl rfl rfl (by kernel_rfl) Try.func3 (by kernel_rfl)
    (of_decide_eq_true (by kernel_rfl)) (by unfold Func.isWrapper; first | (rw [if_pos (by decide +kernel)]; kernel_rfl) | (rw [if_neg (by decide +kernel)]; exact ⟨rfl, rfl⟩))
    (fun os started H enc _ => lifted os started H enc)

theorem proved : Rows.CursorTellsSaid := over
#print axioms proved
end Go.Proofs.Ytjkbajhmnfejgaa.cursorTells
