/-
  What seq.Expand answers: its iterator over three candidates, and the loop that keeps the nearest one.
-/
import Derived.RangeFuncNested
import Derived.RangeFuncBound
import Derived.RangeFuncCalls
import Derived.RangeFuncLeaves
import Derived.RangeFuncFrom
import Derived.Shelf.Abstract
import Derived.Shelf.RegionOpen
import Derived.WalkKit
import Derived.OwnWalkIn
import Derived.TacticsInMore
import Derived.LoopNIn
import Derived.LoopIn
import Derived.Test.YtffbokidmjokmaaSeqWalks
namespace Go.Proofs.Ytffbokidmjokmaa
open Go.RowKit Go.Shelf
set_option linter.unusedVariables false
attribute [local go_sem] Oper.semAt_some

/-! ### the plain mathematics -/
/-- The shorter one of the two ways, as 'apart' answers it. -/
def ap (a b : Int) : Int := if 0 < (b - a) % 18446744073709551616 ∧ (b - a) % 18446744073709551616 ≤ 9223372036854775807 then (b - a) % 18446744073709551616 else (a - b) % 18446744073709551616
theorem ap_of (a b d : Int) (h : (a + d) % 18446744073709551616 = b) (h0 : -1099511627776 ≤ d) (h1 : d ≤ 1099511627776) : ap a b = if d < 0 then -d else d := by
  unfold ap; split <;> split <;> omega
theorem ap_b (a b : Int) : 0 ≤ ap a b ∧ ap a b ≤ 18446744073709551615 := by
  unfold ap; split <;> omega

abbrev U64 := { x : Int // 0 ≤ x ∧ x ≤ 18446744073709551615 }
def stepTo (near : Int) (s : Int × Int) (x : U64) : Int × Int := if ap near x.1 < s.2 then (x.1, ap near x.1) else s
def best (near : Int) (xs : List U64) : Int × Int := xs.foldl (stepTo near) (0, 18446744073709551615)
theorem best_snoc (near : Int) (xs : List U64) (x : U64) : best near (xs ++ [x]) = stepTo near (best near xs) x := by simp [best]
theorem best_yes (near : Int) (xs : List U64) (x : U64) (h : ap near x.1 < (best near xs).2) : best near (xs ++ [x]) = (x.1, ap near x.1) := by
  rw [best_snoc, stepTo, if_pos h]
theorem best_no (near : Int) (xs : List U64) (x : U64) (h : ¬ ap near x.1 < (best near xs).2) : best near (xs ++ [x]) = best near xs := by
  rw [best_snoc, stepTo, if_neg h]

def sameOf (low near : Int) : Int := near / 4294967296 * 4294967296 + low
theorem same_b (low near : Int) (hl : 0 ≤ low) (hl' : low ≤ 4294967295) (hn : 0 ≤ near) (hn' : near ≤ 18446744073709551615) : 0 ≤ sameOf low near ∧ sameOf low near ≤ 18446744073709551615 := by
  unfold sameOf; omega
def up (s : Int) : U64 := ⟨(s + 4294967296) % 18446744073709551616, by omega⟩
def dn (s : Int) : U64 := ⟨(s - 4294967296) % 18446744073709551616, by omega⟩

theorem best_three (low near r : Int) (hl : 0 ≤ low) (hl' : low ≤ 4294967295) (hn : 0 ≤ near) (hn' : near ≤ 18446744073709551615)
    (h : ∃ d, -2147483648 < d ∧ d ≤ 2147483648 ∧ (near + d) % 4294967296 = low ∧ (near + d) % 18446744073709551616 = r) (m : U64) (hm : m.1 = sameOf low near) :
    (best near [up m.1, m, dn m.1]).1 = r := by
  obtain ⟨d, d0, d1, e0, e1⟩ := h
  have hs : sameOf low near = near / 4294967296 * 4294967296 + low := rfl
  have b : -4294967296 < m.1 - near ∧ m.1 - near < 4294967296 := by omega
  have bm := m.2
  have au : ap near (up m.1).1 = m.1 - near + 4294967296 := by
    rw [ap_of near (up m.1).1 (m.1 - near + 4294967296) (by show _ = (m.1 + 4294967296) % 18446744073709551616; omega) (by omega) (by omega), if_neg (by omega)]
  have am : ap near m.1 = if m.1 - near < 0 then -(m.1 - near) else m.1 - near := ap_of near m.1 (m.1 - near) (by omega) (by omega) (by omega)
  have ad : ap near (dn m.1).1 = 4294967296 - (m.1 - near) := by
    rw [ap_of near (dn m.1).1 (m.1 - near - 4294967296) (by show _ = (m.1 - 4294967296) % 18446744073709551616; omega) (by omega) (by omega), if_pos (by omega)]; omega
  have hu : (up m.1).1 = (m.1 + 4294967296) % 18446744073709551616 := rfl
  have hd : (dn m.1).1 = (m.1 - 4294967296) % 18446744073709551616 := rfl
  have s1 : best near [up m.1] = ((up m.1).1, m.1 - near + 4294967296) := by
    have q := best_yes near [] (up m.1) (by rw [au]; show _ < (18446744073709551615 : Int); omega)
    rw [au] at q; exact q
  by_cases c1 : m.1 - near < 0
  · rw [if_pos c1] at am
    by_cases c2 : -(m.1 - near) < m.1 - near + 4294967296
    · have s2 : best near [up m.1, m] = (m.1, -(m.1 - near)) := by
        have q := best_yes near [up m.1] m (by rw [am, s1]; exact c2)
        rw [am] at q; exact q
      have s3 : best near [up m.1, m, dn m.1] = (m.1, -(m.1 - near)) := by
        have q := best_no near [up m.1, m] (dn m.1) (by rw [ad, s2]; show ¬ _ < -(m.1 - near); omega)
        rw [s2] at q; exact q
      rw [s3]; show m.1 = r; omega
    · have s2 : best near [up m.1, m] = ((up m.1).1, m.1 - near + 4294967296) := by
        have q := best_no near [up m.1] m (by rw [am, s1]; exact c2)
        rw [s1] at q; exact q
      have s3 : best near [up m.1, m, dn m.1] = ((up m.1).1, m.1 - near + 4294967296) := by
        have q := best_no near [up m.1, m] (dn m.1) (by rw [ad, s2]; show ¬ _ < m.1 - near + 4294967296; omega)
        rw [s2] at q; exact q
      rw [s3]; show (up m.1).1 = r; omega
  · rw [if_neg c1] at am
    have s2 : best near [up m.1, m] = (m.1, m.1 - near) := by
      have q := best_yes near [up m.1] m (by rw [am, s1]; show _ < m.1 - near + 4294967296; omega)
      rw [am] at q; exact q
    by_cases c2 : 4294967296 - (m.1 - near) < m.1 - near
    · have s3 : best near [up m.1, m, dn m.1] = ((dn m.1).1, 4294967296 - (m.1 - near)) := by
        have q := best_yes near [up m.1, m] (dn m.1) (by rw [ad, s2]; exact c2)
        rw [ad] at q; exact q
      rw [s3]; show (dn m.1).1 = r; omega
    · have s3 : best near [up m.1, m, dn m.1] = (m.1, m.1 - near) := by
        have q := best_no near [up m.1, m] (dn m.1) (by rw [ad, s2]; exact c2)
        rw [s2] at q; exact q
      rw [s3]; show m.1 = r; omega

/-! ### apart, at every pair -/
theorem apart64_ap (a b : Int) (ha : 0 ≤ a) (ha' : a ≤ 18446744073709551615) (hb : 0 ≤ b) (hb' : b ≤ 18446744073709551615) (w : World) :
    Calls Try.prog 26 #[.int .u64 a, .int .u64 b] w fun e w' => e = .returned (.int .u64 (ap a b)) ∧ w = w' := by
  by_cases c : 0 < (b - a) % 18446744073709551616 ∧ (b - a) % 18446744073709551616 ≤ 9223372036854775807
  · have e : ap a b = (b - a) % 18446744073709551616 := if_pos c
    rw [e]
    exact apart64_t a b _ ha ha' hb hb' (by omega) (by omega) (by omega) w
  · have e : ap a b = - (- ((a - b) % 18446744073709551616)) := by rw [ap, if_neg c]; omega
    rw [e]
    exact apart64_f a b _ ha ha' hb hb' (by omega) (by omega) (by omega) w

/-! ### the iterator -/
theorem candidates_in (F : Fence) (n : Nat) (hf : F.fn 25) (hro : F.round = none) (low near : Int) (hl : 0 ≤ low) (hl' : low ≤ 4294967295) (hn : 0 ≤ near) (hn' : near ≤ 18446744073709551615) (w : World) :
    CallsIn F n Try.prog 25 #[.int .u32 low, .int .u64 near] w fun e w' =>
      e = .returned (.func (.func 29) #[] #[.pointer (some ⟨w.heap.size, 0, none⟩)]) ∧ w' = w.alloc (.cells #[.int .u64 (sameOf low near)] 33) := by
  have hs := Lib.hid (show near / 4294967296 * 4294967296 + low = sameOf low near from rfl)
  refine callsIn_of_wp Try.func25 rfl hf ?_ hro
  simp only [Try.ntmps25, List.size_toArray, List.length_cons, List.length_nil, Nat.reduceAdd, Nat.reduceSub, Array.replicate_succ, Array.replicate_zero, List.push_toArray, List.append_toArray, List.nil_append, List.cons_append]
  gi_wp2
  go_ret
  exact ⟨rfl, by rw [hs.out]⟩


def enc64 (x : U64) : Value := .int .u64 x.1

set_option maxHeartbeats 1000000 in
theorem candidates1_in (F : Fence) (n : Nat) (hf : F.fn 29) (hro : F.round = none) (hn : 1 ≤ n) (l B : Nat) (m : U64) (J Jx : List U64 → World → Prop)
    (hY : ∀ pre x W, J pre W → pre.length < 3 → YieldAt F (n - 1) Try.prog l #[.int .u64 x.1] W fun e W' =>
      (e = .returned (.bool true) ∧ J (pre ++ [x]) W' ∧ KeepsWalks W W') ∨ (e = .returned (.bool false) ∧ Jx (pre ++ [x]) W'))
    (W : World) (hB : W.cell? ⟨B, 0, none⟩ = some (.int .u64 m.1)) (h0 : J [] W) :
    CallsIn F n Try.prog 29 #[.func (.yield l) #[] #[], .pointer (some ⟨B, 0, none⟩)] W fun e W' => (∃ v, e = .returned v) ∧
      ((∃ ys, ys = [up m.1, m, dn m.1] ∧ J ys W') ∨ (∃ pre, True ∧ Jx pre W')) := by
  obtain ⟨u, hu⟩ : ∃ u, u = up m.1 := ⟨_, rfl⟩
  obtain ⟨d, hd⟩ : ∃ d, d = dn m.1 := ⟨_, rfl⟩
  have eu : IntKind.u64.wrap (m.1 + 4294967296) = u.1 := by rw [IntKind.wrap_u64, hu]; rfl
  have ed : IntKind.u64.wrap (m.1 - 4294967296) = d.1 := by rw [IntKind.wrap_u64, hd]; rfl
  rw [← hu, ← hd]
  clear hu hd
  have i0 : ∀ w, (Instr.index 48 (.agg #[.int .u64 u.1, .int .u64 m.1, .int .u64 d.1]) (.int .i64 0)).run Try.prog w = .ok (.int .u64 u.1) w := fun _ => by kernel_rfl
  have i1 : ∀ w, (Instr.index 48 (.agg #[.int .u64 u.1, .int .u64 m.1, .int .u64 d.1]) (.int .i64 1)).run Try.prog w = .ok (.int .u64 m.1) w := fun _ => by kernel_rfl
  have i2 : ∀ w, (Instr.index 48 (.agg #[.int .u64 u.1, .int .u64 m.1, .int .u64 d.1]) (.int .i64 2)).run Try.prog w = .ok (.int .u64 d.1) w := fun _ => by kernel_rfl
  refine callsIn_of_wp Try.func29 rfl hf ?_ hro
  simp only [Try.ntmps29, List.size_toArray, List.length_cons, List.length_nil, Nat.reduceAdd, Nat.reduceSub, Array.replicate_succ, Array.replicate_zero, List.push_toArray, List.append_toArray, List.nil_append, List.cons_append]
  gi_wp2
  gi_loopw [11] (fun i wr => (i = .int .i64 0 ∧ J [] wr) ∨ (i = .int .i64 1 ∧ J [u] wr) ∨ (i = .int .i64 2 ∧ J [u, m] wr) ∨ (i = .int .i64 3 ∧ J [u, m, d] wr)) (fun i _ => 3 - (intOf i).toNat)
  case atStart => exact .inl ⟨rfl, h0⟩
  case round =>
    clear eu ed hB
    rcases hrel with ⟨rfl, hJ⟩ | ⟨rfl, hJ⟩ | ⟨rfl, hJ⟩ | ⟨rfl, hJ⟩
    · clear i1 i2
      obtain ⟨fn, tmps, assign, body, hy, hR⟩ := hY [] u wr hJ (by simp)
      gi_wp2
      refine hR.mono ?_
      rintro e W3 (⟨rfl, hJ3, _⟩ | ⟨rfl, hJx3⟩)
      · gi_wp2
        go_roundw
        case rel => exact .inr (.inl ⟨rfl, hJ3⟩)
        case measure => simp [intOf]
      · gi_wp2
        refine bodyPost_ret (results_none rfl _ _ _) rfl ?_
        exact ⟨⟨_, rfl⟩, .inr ⟨_, trivial, hJx3⟩⟩
    · clear i0 i2
      obtain ⟨fn, tmps, assign, body, hy, hR⟩ := hY [u] m wr hJ (by simp)
      gi_wp2
      refine hR.mono ?_
      rintro e W3 (⟨rfl, hJ3, _⟩ | ⟨rfl, hJx3⟩)
      · gi_wp2
        go_roundw
        case rel => exact .inr (.inr (.inl ⟨rfl, hJ3⟩))
        case measure => simp [intOf]
      · gi_wp2
        refine bodyPost_ret (results_none rfl _ _ _) rfl ?_
        exact ⟨⟨_, rfl⟩, .inr ⟨_, trivial, hJx3⟩⟩
    · clear i0 i1
      obtain ⟨fn, tmps, assign, body, hy, hR⟩ := hY [u, m] d wr hJ (by simp)
      gi_wp2
      refine hR.mono ?_
      rintro e W3 (⟨rfl, hJ3, _⟩ | ⟨rfl, hJx3⟩)
      · gi_wp2
        go_roundw
        case rel => exact .inr (.inr (.inr ⟨rfl, hJ3⟩))
        case measure => simp [intOf]
      · gi_wp2
        refine bodyPost_ret (results_none rfl _ _ _) rfl ?_
        exact ⟨⟨_, rfl⟩, .inr ⟨_, trivial, hJx3⟩⟩
    · gi_wp2
      go_end0
      exact ⟨⟨_, rfl⟩, .inl ⟨_, rfl, hJ⟩⟩

theorem candidates_stops (F : Fence) (n : Nat) (hf : F.fn 29) (hro : F.round = none) (hn : 1 ≤ n) (B : Nat) (m : U64) (w : World) (hlt : B < w.heap.size) (hB : w.cell? ⟨B, 0, none⟩ = some (.int .u64 m.1)) :
    SeqStopsK F n Try.prog 29 #[.pointer (some ⟨B, 0, none⟩)] (fun x : U64 => #[.int .u64 x.1]) KeepsWalks (fun ys => ys = [up m.1, m, dn m.1]) (fun _ => True) 3 w :=
  fun l J Jx W hW _ _ hY h0 => candidates1_in F n hf hro hn l B m J Jx hY W ((hW.cell (p := ⟨B, 0, none⟩) hlt).trans hB) h0

set_option maxRecDepth 100000 in
set_option maxHeartbeats 2000000 in
theorem Expand_in (low near r : Int) (hl : 0 ≤ low) (hl' : low ≤ 4294967295) (hn : 0 ≤ near) (hn' : near ≤ 18446744073709551615)
    (m : U64) (hm : sameOf low near = m.1) (w : World) :
    CallsIn Fence.wide 8 Try.prog 18 #[.int .u32 low, .int .u64 near] w fun e w' => e = .returned (.int .u64 (best near [up m.1, m, dn m.1]).1) ∧ Below w.heap.size w w' := by
  have HM := Lib.hid hm
  clear hm
  refine callsIn_of_wp_marks Try.func18 rfl trivial ?_ rfl
  simp only [Try.ntmps18, List.size_toArray, List.length_cons, List.length_nil, Nat.reduceAdd, Nat.reduceSub, Array.replicate_succ, Array.replicate_zero, List.push_toArray, List.append_toArray, List.nil_append, List.cons_append]
  gi_wp2_with (refine ⟨trivial, ?_⟩; gi_at_call 25; refine (candidates_in Fence.wide _ trivial rfl low near hl hl' hn hn' _).mono ?_; rintro e w' ⟨rfl, rfl⟩)
  rw [HM.out]
  obtain ⟨W0, hW0⟩ : ∃ W0, W0 = (((w.alloc (.cells #[.int .u64 near] 33)).alloc (.cells #[.int .u64 0] 33)).alloc (.cells #[.int .u64 18446744073709551615] 33)).alloc (.cells #[.int .u64 m.1] 33) := ⟨_, rfl⟩
  have sz : W0.heap.size = w.heap.size + 4 := by rw [hW0]; simp
  have c0 : W0.cell? ⟨w.heap.size, 0, none⟩ = some (.int .u64 near) := by rw [hW0]; simp [go_sem]
  have c1 : W0.cell? ⟨w.heap.size + 1, 0, none⟩ = some (.int .u64 0) := by rw [hW0]; simp [go_sem]
  have c2 : W0.cell? ⟨w.heap.size + 1 + 1, 0, none⟩ = some (.int .u64 18446744073709551615) := by rw [hW0]; simp [go_sem]
  have c3 : W0.cell? ⟨w.heap.size + 1 + 1 + 1, 0, none⟩ = some (.int .u64 m.1) := by rw [hW0]; simp [go_sem]
  have f1 : W0.frozen? ⟨w.heap.size + 1, 0, none⟩ = false := by rw [hW0]; simp [go_sem]
  have f2 : W0.frozen? ⟨w.heap.size + 1 + 1, 0, none⟩ = false := by rw [hW0]; simp [go_sem]
  have hB0 : Below w.heap.size w W0 := by
    rw [hW0]; exact ((((Below.refl _ w).alloc (Nat.le_refl _) _).alloc (by simp) _).alloc (by simp; omega) _).alloc (by simp; omega) _
  rw [← hW0]
  clear hW0 HM
  refine wpIn_rangeFunc_ownF rfl (by decide) (gf := 29) (lb := #[.pointer (some ⟨w.heap.size + 1 + 1 + 1, 0, none⟩)]) rfl trivial (enters_of Try.func29 (by kernel_rfl) rfl)
    (candidates_stops Fence.wide _ trivial rfl (by decide) (w.heap.size + 1 + 1 + 1) m W0 (by omega) c3) walksK_t walksK_b (Below.refl _ _) (fun _ => rfl)
    (fun pre W => (W.cell? ⟨w.heap.size, 0, none⟩ = some (.int .u64 near) ∧ W.cell? ⟨w.heap.size + 1, 0, none⟩ = some (.int .u64 (best near pre).1) ∧ W.cell? ⟨w.heap.size + 1 + 1, 0, none⟩ = some (.int .u64 (best near pre).2) ∧ W.frozen? ⟨w.heap.size + 1, 0, none⟩ = false ∧ W.frozen? ⟨w.heap.size + 1 + 1, 0, none⟩ = false) ∧ Below w.heap.size w W)
    (fun _ _ _ => False)
    (OwnFrom.and (Own.from (fun s A B row hs hg hr => ⟨cell_kept hs.1 hg hr, cell_kept hs.2.1 hg hr, cell_kept hs.2.2.1 hg hr, (frozen_kept hs.2.1 hg hr).trans hs.2.2.2.1, (frozen_kept hs.2.2.1 hg hr).trans hs.2.2.2.2⟩) _) (ownFrom_below (Nat.le_refl _) (by omega)))
    (fun _ _ _ _ _ hs _ _ => hs)
    ⟨⟨c0, c1, c2, f1, f2⟩, hB0⟩
    (fun x => { tmps := #[.int .u32 low, .int .u64 near, undef, .pointer (some ⟨w.heap.size, 0, none⟩), .int .u64 0, .pointer (some ⟨w.heap.size + 1, 0, none⟩), .pointer (some ⟨w.heap.size + 1 + 1, 0, none⟩), .int .u64 x.1, undef, .int .u32 low, .int .u64 near, .func (.func 29) #[] #[.pointer (some ⟨w.heap.size + 1 + 1 + 1, 0, none⟩)], .int .u64 x.1, undef, undef, undef, undef, undef, undef, undef, undef, undef], defers := [] }) ?assign ?body ?done ?stop
  case assign =>
    intro l x W K hK
    gi_wp2
    exact hK
  case body =>
    clear c0 c1 c2 c3 f1 f2 hB0 sz
    rintro l pre x W ⟨⟨h0, h1, h2, g1, g2⟩, hB⟩ _
    by_cases hlt : ap near x.1 < (best near pre).2
    · have hb := Lib.hid (best_yes near pre x hlt)
      gi_wp2_with (refine ⟨trivial, ?_⟩; gi_at_call 26; refine (CallsIn.inRound l (callsIn_wide.2 (apart64_ap near x.1 hn hn' x.2.1 x.2.2 _))).mono ?_; rintro e w' ⟨rfl, rfl⟩)
      rw [ownPostK, hb.out]
      refine ⟨(KeepsOthers.setCell _ _ _).trans (KeepsOthers.setCell _ _ _), ((KeepsOthers.setCell _ _ _).trans (KeepsOthers.setCell _ _ _)).walks, ⟨?_, ?_, ?_, ?_, ?_⟩, (hB.setCell (p := ⟨w.heap.size + 1, 0, none⟩) (by simp) _).setCell (p := ⟨w.heap.size + 1 + 1, 0, none⟩) (by simp; omega) _⟩ <;> simp [go_sem, h0, h1, h2, g1, g2]
    · have hb := Lib.hid (best_no near pre x hlt)
      gi_wp2_with (refine ⟨trivial, ?_⟩; gi_at_call 26; refine (CallsIn.inRound l (callsIn_wide.2 (apart64_ap near x.1 hn hn' x.2.1 x.2.2 _))).mono ?_; rintro e w' ⟨rfl, rfl⟩)
      rw [ownPostK, hb.out]
      exact ⟨KeepsOthers.refl _, (KeepsOthers.refl _).walks, ⟨h0, h1, h2, g1, g2⟩, hB⟩
  case done =>
    rintro D ys W hD rfl ⟨⟨h0, h1, h2, g1, g2⟩, hB⟩ hK
    gi_wp2
    refine ⟨by simp, .inl ⟨_, _, rfl, run_takeDeferred hK, ?_⟩⟩
    exact ⟨_, results_tmp rfl _ _ _, rfl, hB.trans (belowK_b (w := w) (Nat.le_refl _) W D _ _ (by omega) hK rfl rfl)⟩
  case stop =>
    rintro D c pre W _ _ h _
    exact h.elim

/-- 'Expand' answers the one number r with these lowest 32 bits, less than 2^31 ahead of near, or from it on as far as 2^31, round the end. -/
theorem Expand_any (low near r : Int) (hl : 0 ≤ low) (hl' : low ≤ 4294967295) (hn : 0 ≤ near) (hn' : near ≤ 18446744073709551615)
    (h : ∃ d, -2147483648 < d ∧ d ≤ 2147483648 ∧ (near + d) % 4294967296 = low ∧ (near + d) % 18446744073709551616 = r) (w : World) :
    Calls Try.prog 18 #[.int .u32 low, .int .u64 near] w fun e w' => e = .returned (.int .u64 r) ∧ Below w.heap.size w w' := by
  have hb := best_three low near r hl hl' hn hn' h ⟨sameOf low near, same_b low near hl hl' hn hn'⟩ rfl
  rw [← hb]
  exact callsIn_wide.1 (Expand_in low near r hl hl' hn hn' ⟨sameOf low near, same_b low near hl hl' hn hn'⟩ rfl w)
end Go.Proofs.Ytffbokidmjokmaa
