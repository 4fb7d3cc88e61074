/-
  What Of and Whole answer, of any slice of texts in memory: the sum of the words of all of them as one text, folded.
-/
import Derived.Test.YthdcjcdgddejbaaDoorSumRange
namespace Go.Proofs.YthdcjcdgddejbaaDoor
open Go.RowKit Go.Shelf
set_option linter.unusedVariables false
attribute [local go_sem] Oper.semAt_some

theorem words_any (p : Option Addr) (n cap : Nat) (w : World) :
    Calls Tryd.prog 33 #[.slice p n cap] w fun e w' => e = .returned (.func (.func 38) #[] #[.pointer (some ⟨w.heap.size, 0, none⟩)]) ∧ w' = w.alloc (.cells #[.slice p n cap] 70) := by
  go_enter Tryd.func33, Tryd.ntmps33
  go_wp2
  go_ret; exact ⟨rfl, rfl⟩

set_option maxHeartbeats 2000000 in
set_option maxRecDepth 100000 in
theorem Of_in (v : Value) (ss : List ByteArray) (w : World) (hr : Row w v ss) (hsz : (flat ss).length ≤ 1099511627776) (hss : ss.length ≤ 1099511627776) :
    CallsIn Fence.wide 8 Tryd.prog 21 #[v] w fun e w' => e = .returned (.int .u16 (fold (tot (flat ss)))) ∧ Below w.heap.size w w' := by
  obtain ⟨p, cap, hv, _⟩ := id hr
  subst hv
  have HR := Lib.hid hr
  clear hr
  refine callsIn_of_wp_marks Tryd.func21 rfl trivial ?_ rfl
  simp only [Tryd.ntmps21, List.size_toArray, List.length_cons, List.length_nil, Nat.reduceAdd, Nat.reduceSub, Array.replicate_succ, Array.replicate_zero, List.push_toArray, List.append_toArray, List.nil_append, List.cons_append]
  gi_wp2_with (refine ⟨trivial, ?_⟩; gi_at_call 33; refine (callsIn_wide.2 (words_any p ss.length cap _)).mono ?_; rintro e w' ⟨rfl, rfl⟩)
  obtain ⟨W0, hW0⟩ : ∃ W0, W0 = (w.alloc (.cells #[.int .u64 0] 58)).alloc (.cells #[.slice p ss.length cap] 70) := ⟨_, rfl⟩
  have sz : W0.heap.size = w.heap.size + 2 := by rw [hW0]; simp
  have c0 : Blk W0 w.heap.size 58 #[.int .u64 0] := by rw [hW0]; exact (Blk.new w 58 #[.int .u64 0]).alloc _
  have c1 : Blk W0 (w.heap.size + 1) 70 #[.slice p ss.length cap] := by
    rw [hW0]; have := Blk.new (w.alloc (.cells #[.int .u64 0] 58)) 70 #[.slice p ss.length cap]; rwa [World.size_alloc] at this
  have hB0 : Below w.heap.size w W0 := by
    rw [hW0]; exact ((Below.refl _ w).alloc (Nat.le_refl _) _).alloc (by simp) _
  rw [← hW0]
  clear hW0
  have HC1 := Lib.hid c1
  have tb := tot_b (flat ss)
  refine range_sum (m := 6) (gf := 38) (lb := #[.pointer (some ⟨w.heap.size + 1, 0, none⟩)]) rfl (enters_of Tryd.func38 (by kernel_rfl) rfl) rfl w.heap.size (by omega) (tot (flat ss))
    (fun l B J W hb hB hl hwl hJ hY h0 => words1_in 6 w.heap.size l w.heap.size B (w.heap.size + 1) _ ss J hJ hY W hB hl (by omega) (by omega) (Nat.le_refl _)
      ((hb.cell (p := ⟨w.heap.size + 1, 0, none⟩) (by simp; omega)).trans (HC1.out.cell 0)) (HR.out.kept fun k hk => (hb.block k (by omega)).trans (hB0.block k hk)) hsz hss h0)
    (fun T W => Blk W w.heap.size 58 #[.int .u64 T] ∧ Below w.heap.size w W)
    (fun T W W' h hb => ⟨h.1.below hb (by omega), h.2.trans (hb.mono (by omega))⟩) ⟨c0, hB0⟩
    (fun x => { tmps := #[.slice p ss.length cap, undef, .int .u16 0, .pointer (some ⟨w.heap.size, 0, none⟩), .int .u16 x, .slice p ss.length cap, .func (.func 38) #[] #[.pointer (some ⟨w.heap.size + 1, 0, none⟩)], .int .u16 x, undef, undef, undef, undef, undef, undef], defers := [] }) ?assign ?body ?done
  case assign =>
    intro l x W K hK
    gi_wp2
    exact hK
  case body =>
    clear c0 c1 hB0 sz HC1
    rintro l T x W ⟨hb, hB⟩ hT hx hx' hTx
    have h0 := hb.cell 0
    have f0 := hb.frozen 0
    have HB := Lib.hid hb
    have HBW := Lib.hid hB
    clear hb hB
    gi_wp2
    refine ⟨⟨by simp [World.setCell], fun k hk hkt => Below.heap_setCell _ _ _ _ hkt⟩, Blk.set_ HB.out 0 _, HBW.out.setCell (p := ⟨w.heap.size, 0, none⟩) (Nat.le_refl _) _⟩
  case done =>
    rintro D W hD ⟨hb, hB⟩ hK
    have h0 := hb.cell 0
    have HBW := Lib.hid hB
    have HK := Lib.hid hK
    clear hb hB hK c0 c1 hB0
    gi_wp2_with (refine ⟨trivial, ?_⟩; gi_at_call 34; refine (callsIn_wide.2 (Fold_any (tot (flat ss)) tb.1 (by omega) _)).mono ?_; rintro e w' ⟨rfl, rfl⟩)
    refine ⟨by simp, .inl ⟨_, _, rfl, run_takeDeferred HK.out, ?_⟩⟩
    exact ⟨_, results_tmp rfl _ _ _, rfl, HBW.out.trans (belowK_b (w := w) (Nat.le_refl _) W D _ _ (by omega) HK.out rfl rfl)⟩

/-- 'Of', of any slice of texts. -/
theorem Of_any (v : Value) (ss : List ByteArray) (r : Int) (w : World) (hr : Row w v ss) (hsz : (flat ss).length ≤ 1099511627776) (hss : ss.length ≤ 1099511627776) (h : fold (tot (flat ss)) = r) :
    Calls Tryd.prog 21 #[v] w fun e w' => e = .returned (.int .u16 r) ∧ Below w.heap.size w w' := by
  rw [← h]; exact callsIn_wide.1 (Of_in v ss w hr hsz hss)
/-- 'Whole', of any slice of texts. -/
theorem Whole_any (v : Value) (ss : List ByteArray) (r : Int) (w : World) (hr : Row w v ss) (hsz : (flat ss).length ≤ 1099511627776) (hss : ss.length ≤ 1099511627776) (h : fold (tot (flat ss)) = r) :
    Calls Tryd.prog 29 #[v] w fun e w' => e = .returned (.bool (r == 65535)) ∧ Below w.heap.size w w' := by
  obtain ⟨p, cap, hv, _⟩ := id hr
  subst hv
  have HR := Lib.hid hr
  have HH := Lib.hid h
  clear hr h
  go_enter Tryd.func29, Tryd.ntmps29
  go_wp2_with (go_at_call 21; refine (Of_any _ ss r _ HR.out hsz hss HH.out).mono ?_; rintro e w1 ⟨rfl, B1⟩)
  go_ret; exact ⟨rfl, B1⟩
end Go.Proofs.YthdcjcdgddejbaaDoor
