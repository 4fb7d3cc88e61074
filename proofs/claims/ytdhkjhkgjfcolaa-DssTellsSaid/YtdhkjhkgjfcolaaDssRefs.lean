/-
  The document's own answers of layer 11 (plaitref11): bare, May, wide, bit, each by its walk.
-/
import Derived.Test.YtdhkjhkgjfcolaaDssDec
import Derived.Test.YtdhkjhkgjfcolaaNumRefs
import Derived.Deep.RegionHeld3
namespace Go.Proofs.Ytdhkjhkgjfcolaa
open Go.ChangeShapes Go.WideShapes Go.ChangeAt Go.RowKit
set_option linter.unusedVariables false

/-- A store, alone, that what the kind asks abides. -/
theorem held_skip {P : Program} {ops : Array Oper} {S : World → Prop} {Q : Exit → Act → World → Prop} {md : Region.Mode} {fuel : Nat} {listed : Array Bool} {a : Act} {w : World} (i : Nat) {o : Oper} {w' : World} (hi : ops[i]? = some o) (hr : Region.ready md ops listed = [i]) (hw : Region.wanted o (yielded ops a.tmps) = true) (he : (execOp a.eval o).run P w = .ok .skip w') (hS : S w')
    (h : wpAnyH P md ops Q S fuel (listed.setIfInBounds i true) (a.put o.dst undef) w') : wpAnyH P md ops Q S (fuel + 1) listed a w := by
  refine held_op hi hr hw ?_
  unfold Oper.wp
  rw [he]
  exact ⟨hS, h⟩
/-- One cell of a block that is known whole, stored. -/
theorem store_blk {W : World} {g i : Nat} {t' : TypeId} {cs : Array Value} (h : Blk W g t' cs) (hi : i < cs.size) (t : TypeId) (v : Value) (ht : (Try.prog.info? t).map (·.size) = some 1) (hv : v.cells = #[v]) (h1 : v.oneCell' = true) : (storeVar t ⟨g, i, none⟩ v).run Try.prog W = .ok () (W.setCell ⟨g, i, none⟩ v) := by
  have hst : (store ((⟨g, i, none⟩ : Addr).add 0) v).run Try.prog W = .ok () (W.setCell ⟨g, i, none⟩ v) := by
    rw [show (⟨g, i, none⟩ : Addr).add 0 = ⟨g, i, none⟩ from rfl, run_store Try.prog W _ _ _ h1, h.cell i, Array.getElem?_eq_getElem hi]
    simp [h.frozen i]
  cases hq : Try.prog.info? t with
  | none => rw [hq] at ht; cases ht
  | some k =>
    have hs : k.size = 1 := by simpa [hq] using ht
    simp [storeVar, sizeOf, typeInfo, hq, hv, hs, storeCells, hst]
theorem wideR_any (l : Bool) (w : World) : Calls Try.prog 26 #[.bool l] w fun e w' => e = .returned (.int .i64 (wA true l : Nat)) ∧ w = w' := by
  cases l
  all_goals
    go_enter Try.func26, Try.ntmps26
    go_wp2
    go_ret; exact ⟨rfl, rfl⟩
def bitN (l : Bool) (n : Nat) : Nat := if l then n else 0
theorem bitR_any (l : Bool) (n : Nat) (w : World) : Calls Try.prog 25 #[.bool l, .int .u64 (n : Int)] w fun e w' => e = .returned (.int .u64 (bitN l n : Nat)) ∧ w = w' := by
  cases l
  all_goals
    go_enter Try.func25, Try.ntmps25
    go_wp2
    go_ret; exact ⟨rfl, rfl⟩
/-- Where bare stands: the argument, the answer's variable, what it has so far. -/
structure Br (w W : World) (a z o : Nat) (x y : Ds) : Prop where
  arg : Blk W a 26 (dsv x)
  ret : Blk W z 26 (dsv .zero)
  out : Blk W o 26 (dsv y)
  rest : Below w.heap.size w W
  ne : a ≠ o ∧ z ≠ o ∧ w.heap.size ≤ o ∧ w.heap.size ≤ z
theorem Br.turn {w W : World} {a z o : Nat} {x y y' : Ds} (h : Br w W a z o x y) (i : Nat) (v : Value) (hy : (dsv y).setIfInBounds i v = dsv y') : Br w (W.setCell ⟨o, i, none⟩ v) a z o x y' :=
  ⟨h.arg.same (Below.heap_setCell W ⟨o, i, none⟩ v a h.ne.1), h.ret.same (Below.heap_setCell W ⟨o, i, none⟩ v z h.ne.2.1), by rw [← hy]; exact h.out.set_ i v, h.rest.setCell h.ne.2.2.1 _, h.ne⟩
theorem Br.drew {w W : World} {a z o : Nat} {x y : Ds} (h : Br w W a z o x y) : Br w W.drew a z o x y := ⟨h.arg.drew, h.ret.drew, h.out.drew, h.rest.drew, h.ne⟩
theorem bare_fin (x : Ds) (w : World) (cs0 cs1 cs : Array Value) {a : Act} (ht : a.tmps.getD 2 undef = .pointer (some ⟨w.heap.size + 1, 0, none⟩)) (hc : cs = dsv x.bare) (hd : a.defers = []) (hb : Below w.heap.size w ((w.alloc (.cells cs0 26)).alloc (.cells cs 26))) :
    bodyPost Try.prog Try.f48 (fun e w' => e = .returned (.agg (dsv x.bare)) ∧ Below w.heap.size w w') .ret a (((w.alloc (.cells cs0 26)).alloc (.cells cs 26)).alloc (.cells cs1 26)) := by
  subst hc
  have hB : Blk ((w.alloc (.cells cs0 26)).alloc (.cells (dsv x.bare) 26)) (w.heap.size + 1) 26 (dsv x.bare) := by
    have := Blk.new (w.alloc (.cells cs0 26)) 26 (dsv x.bare)
    simpa using this
  exact bodyPost_ret (results_cell_row rfl _ _ (w.heap.size + 1) 26 (dsv x.bare) (0, 0) _ ht (hB.alloc _) Try.underlying26 rfl ds_size) hd ⟨rfl, hb.alloc hb.size _⟩
set_option maxHeartbeats 2000000 in
set_option maxRecDepth 100000 in
theorem bareR_any (x : Ds) (w : World) :
    Calls Try.prog 48 #[.agg (dsv x)] w fun e w' => e = .returned (.agg (dsv x.bare)) ∧ Below w.heap.size w w' := by
  obtain ⟨fin, ha, la, ack, hm, ld, dsn, ssn, len, hs, sum⟩ := x
  cases ha
  · cases hm
    · obtain ⟨a, hae⟩ : ∃ a, a = w.heap.size := ⟨_, rfl⟩
      obtain ⟨z, hze⟩ : ∃ z, z = w.heap.size + 1 := ⟨_, rfl⟩
      obtain ⟨o, hoe⟩ : ∃ o, o = w.heap.size + 1 + 1 := ⟨_, rfl⟩
      obtain ⟨W0, hW0⟩ : ∃ W0, W0 = ((w.alloc (.cells (dsv (⟨fin, false, la, ack, false, ld, dsn, ssn, len, hs, sum⟩ : Ds)) 26)).alloc (.cells (dsv .zero) 26)).alloc (.cells (dsv (⟨false, false, false, 0, false, false, 0, 0, 0, false, 0⟩ : Ds)) 26) := ⟨_, rfl⟩
      have D0 : Br w W0 a z o (⟨fin, false, la, ack, false, ld, dsn, ssn, len, hs, sum⟩ : Ds) (⟨false, false, false, 0, false, false, 0, 0, 0, false, 0⟩ : Ds) := by
        have q1 := Blk.new (w.alloc (.cells (dsv (⟨fin, false, la, ack, false, ld, dsn, ssn, len, hs, sum⟩ : Ds)) 26)) 26 (dsv .zero)
        have q2 := Blk.new ((w.alloc (.cells (dsv (⟨fin, false, la, ack, false, ld, dsn, ssn, len, hs, sum⟩ : Ds)) 26)).alloc (.cells (dsv .zero) 26)) 26 (dsv (⟨false, false, false, 0, false, false, 0, 0, 0, false, 0⟩ : Ds))
        rw [show (w.alloc (.cells (dsv (⟨fin, false, la, ack, false, ld, dsn, ssn, len, hs, sum⟩ : Ds)) 26)).heap.size = w.heap.size + 1 by simp] at q1
        rw [show ((w.alloc (.cells (dsv (⟨fin, false, la, ack, false, ld, dsn, ssn, len, hs, sum⟩ : Ds)) 26)).alloc (.cells (dsv .zero) 26)).heap.size = w.heap.size + 1 + 1 by simp] at q2
        rw [hW0, hae, hze, hoe]
        exact ⟨((Blk.new _ _ _).alloc _).alloc _, q1.alloc _, q2, (((Below.refl _ w).alloc (Nat.le_refl _) _).alloc (by simp) _).alloc (by simp; omega) _, by omega, by omega, by omega, by omega⟩
      have HWE := Lib.hid hW0
      have HAE := Lib.hid hae
      have HZE := Lib.hid hze
      have HOE := Lib.hid hoe
      have HD := Lib.hid D0
      clear hW0 hae hze hoe D0
      go_enter Try.func48, Try.ntmps48
      go_wp2_with fail
      have q := HD.out.rest
      exact bare_fin (⟨fin, false, la, ack, false, ld, dsn, ssn, len, hs, sum⟩ : Ds) w _ _ _ rfl (by simp [Ds.bare]) rfl (((Below.refl _ w).alloc (Nat.le_refl _) _).alloc (by simp) _)
    · cases hs
      · obtain ⟨a, hae⟩ : ∃ a, a = w.heap.size := ⟨_, rfl⟩
        obtain ⟨z, hze⟩ : ∃ z, z = w.heap.size + 1 := ⟨_, rfl⟩
        obtain ⟨o, hoe⟩ : ∃ o, o = w.heap.size + 1 + 1 := ⟨_, rfl⟩
        obtain ⟨W0, hW0⟩ : ∃ W0, W0 = ((w.alloc (.cells (dsv (⟨fin, false, la, ack, true, ld, dsn, ssn, len, false, sum⟩ : Ds)) 26)).alloc (.cells (dsv .zero) 26)).alloc (.cells (dsv (⟨false, false, false, 0, true, false, 0, 0, 0, false, 0⟩ : Ds)) 26) := ⟨_, rfl⟩
        have D0 : Br w W0 a z o (⟨fin, false, la, ack, true, ld, dsn, ssn, len, false, sum⟩ : Ds) (⟨false, false, false, 0, true, false, 0, 0, 0, false, 0⟩ : Ds) := by
          have q1 := Blk.new (w.alloc (.cells (dsv (⟨fin, false, la, ack, true, ld, dsn, ssn, len, false, sum⟩ : Ds)) 26)) 26 (dsv .zero)
          have q2 := Blk.new ((w.alloc (.cells (dsv (⟨fin, false, la, ack, true, ld, dsn, ssn, len, false, sum⟩ : Ds)) 26)).alloc (.cells (dsv .zero) 26)) 26 (dsv (⟨false, false, false, 0, true, false, 0, 0, 0, false, 0⟩ : Ds))
          rw [show (w.alloc (.cells (dsv (⟨fin, false, la, ack, true, ld, dsn, ssn, len, false, sum⟩ : Ds)) 26)).heap.size = w.heap.size + 1 by simp] at q1
          rw [show ((w.alloc (.cells (dsv (⟨fin, false, la, ack, true, ld, dsn, ssn, len, false, sum⟩ : Ds)) 26)).alloc (.cells (dsv .zero) 26)).heap.size = w.heap.size + 1 + 1 by simp] at q2
          rw [hW0, hae, hze, hoe]
          exact ⟨((Blk.new _ _ _).alloc _).alloc _, q1.alloc _, q2, (((Below.refl _ w).alloc (Nat.le_refl _) _).alloc (by simp) _).alloc (by simp; omega) _, by omega, by omega, by omega, by omega⟩
        have HWE := Lib.hid hW0
        have HAE := Lib.hid hae
        have HZE := Lib.hid hze
        have HOE := Lib.hid hoe
        have HD := Lib.hid D0
        clear hW0 hae hze hoe D0
        go_enter Try.func48, Try.ntmps48
        go_wp2_with fail
        have hWE : W0 = ((w.alloc (.cells (dsv (⟨fin, false, la, ack, true, ld, dsn, ssn, len, false, sum⟩ : Ds)) 26)).alloc (.cells #[.bool false, .bool false, .bool false, .int .u64 0, .bool false, .bool false, .int .u64 0, .int .u32 0, .int .i64 0, .bool false, .int .u16 0] 26)).alloc (.cells #[.bool false, .bool false, .bool false, .int .u64 0, .bool true, .bool false, .int .u64 0, .int .u32 0, .int .i64 0, .bool false, .int .u16 0] 26) := HWE.out
        rw [← hWE, ← HOE.out, ← HZE.out, ← HAE.out]
        clear hWE HWE
        have D0 := HD.out
        refine held_start (fun W => Blk W a 26 (dsv (⟨fin, false, la, ack, true, ld, dsn, ssn, len, false, sum⟩ : Ds))) (by kernel_rfl) (n := 24) rfl ?_
        have D1 := D0.drew
        obtain ⟨W1, hW⟩ : ∃ W', W' = W0.drew := ⟨_, rfl⟩
        rw [← hW] at D1 ⊢
        clear hW D0
        refine held_free 0 (.pointer (some ⟨a, 0, none⟩)) rfl (by kernel_rfl) (by kernel_rfl) (by kernel_rfl) (by kernel_rfl) D1.arg (fun _ _ => by kernel_rfl) ?_
        refine held_free 1 (.bool fin) rfl (by kernel_rfl) (by kernel_rfl) (by kernel_rfl) (by kernel_rfl) D1.arg (fun W q => ex_load 4 (.tmp 19) (by kernel_rfl) ⟨a, 0, none⟩ (by kernel_rfl) (by kernel_rfl) (q.cell 0)) ?_
        refine held_free 2 (.pointer (some ⟨a, 5, none⟩)) rfl (by kernel_rfl) (by kernel_rfl) (by kernel_rfl) (by kernel_rfl) D1.arg (fun _ _ => by kernel_rfl) ?_
        refine held_free 3 (.bool ld) rfl (by kernel_rfl) (by kernel_rfl) (by kernel_rfl) (by kernel_rfl) D1.arg (fun W q => ex_load 4 (.tmp 21) (by kernel_rfl) ⟨a, 5, none⟩ (by kernel_rfl) (by kernel_rfl) (q.cell 5)) ?_
        refine held_free 4 (.pointer (some ⟨a, 6, none⟩)) rfl (by kernel_rfl) (by kernel_rfl) (by kernel_rfl) (by kernel_rfl) D1.arg (fun _ _ => by kernel_rfl) ?_
        refine held_free 5 (.int .u64 (dsn : Int)) rfl (by kernel_rfl) (by kernel_rfl) (by kernel_rfl) (by kernel_rfl) D1.arg (fun W q => ex_load 22 (.tmp 23) (by kernel_rfl) ⟨a, 6, none⟩ (by kernel_rfl) (by kernel_rfl) (q.cell 6)) ?_
        refine held_free 6 (.pointer (some ⟨a, 7, none⟩)) rfl (by kernel_rfl) (by kernel_rfl) (by kernel_rfl) (by kernel_rfl) D1.arg (fun _ _ => by kernel_rfl) ?_
        refine held_free 7 (.int .u32 (ssn : Int)) rfl (by kernel_rfl) (by kernel_rfl) (by kernel_rfl) (by kernel_rfl) D1.arg (fun W q => ex_load 23 (.tmp 25) (by kernel_rfl) ⟨a, 7, none⟩ (by kernel_rfl) (by kernel_rfl) (q.cell 7)) ?_
        refine held_free 8 (.pointer (some ⟨a, 8, none⟩)) rfl (by kernel_rfl) (by kernel_rfl) (by kernel_rfl) (by kernel_rfl) D1.arg (fun _ _ => by kernel_rfl) ?_
        refine held_free 9 (.int .i64 len) rfl (by kernel_rfl) (by kernel_rfl) (by kernel_rfl) (by kernel_rfl) D1.arg (fun W q => ex_load 3 (.tmp 27) (by kernel_rfl) ⟨a, 8, none⟩ (by kernel_rfl) (by kernel_rfl) (q.cell 8)) ?_
        refine held_free 10 (.pointer (some ⟨a, 9, none⟩)) rfl (by kernel_rfl) (by kernel_rfl) (by kernel_rfl) (by kernel_rfl) D1.arg (fun _ _ => by kernel_rfl) ?_
        refine held_free 11 (.bool false) rfl (by kernel_rfl) (by kernel_rfl) (by kernel_rfl) (by kernel_rfl) D1.arg (fun W q => ex_load 4 (.tmp 29) (by kernel_rfl) ⟨a, 9, none⟩ (by kernel_rfl) (by kernel_rfl) (q.cell 9)) ?_
        refine held_free 12 (.pointer (some ⟨o, 0, none⟩)) rfl (by kernel_rfl) (by kernel_rfl) (by kernel_rfl) (by kernel_rfl) D1.arg (fun _ _ => by kernel_rfl) ?_
        have D2 : Br w (W1.setCell ⟨o, 0, none⟩ (.bool fin)) a z o (⟨fin, false, la, ack, true, ld, dsn, ssn, len, false, sum⟩ : Ds) (⟨fin, false, false, 0, true, false, 0, 0, 0, false, 0⟩ : Ds) := D1.turn 0 _ rfl
        refine held_skip 13 rfl (by kernel_rfl) (by kernel_rfl) (ex_store_cell 4 (.tmp 31) (.tmp 20) (by kernel_rfl) ⟨o, 0, none⟩ (.bool fin) (by kernel_rfl) (by kernel_rfl) (store_blk D1.out (by show 0 < 11; omega) _ _ (by kernel_rfl) rfl rfl)) D2.arg ?_
        obtain ⟨W2, hW⟩ : ∃ W', W' = W1.setCell ⟨o, 0, none⟩ (.bool fin) := ⟨_, rfl⟩
        rw [← hW] at D2 ⊢
        clear hW D1
        refine held_free 14 (.pointer (some ⟨o, 5, none⟩)) rfl (by kernel_rfl) (by kernel_rfl) (by kernel_rfl) (by kernel_rfl) D2.arg (fun _ _ => by kernel_rfl) ?_
        have D3 : Br w (W2.setCell ⟨o, 5, none⟩ (.bool ld)) a z o (⟨fin, false, la, ack, true, ld, dsn, ssn, len, false, sum⟩ : Ds) (⟨fin, false, false, 0, true, ld, 0, 0, 0, false, 0⟩ : Ds) := D2.turn 5 _ rfl
        refine held_skip 15 rfl (by kernel_rfl) (by kernel_rfl) (ex_store_cell 4 (.tmp 32) (.tmp 22) (by kernel_rfl) ⟨o, 5, none⟩ (.bool ld) (by kernel_rfl) (by kernel_rfl) (store_blk D2.out (by show 5 < 11; omega) _ _ (by kernel_rfl) rfl rfl)) D3.arg ?_
        obtain ⟨W3, hW⟩ : ∃ W', W' = W2.setCell ⟨o, 5, none⟩ (.bool ld) := ⟨_, rfl⟩
        rw [← hW] at D3 ⊢
        clear hW D2
        refine held_free 16 (.pointer (some ⟨o, 6, none⟩)) rfl (by kernel_rfl) (by kernel_rfl) (by kernel_rfl) (by kernel_rfl) D3.arg (fun _ _ => by kernel_rfl) ?_
        have D4 : Br w (W3.setCell ⟨o, 6, none⟩ (.int .u64 (dsn : Int))) a z o (⟨fin, false, la, ack, true, ld, dsn, ssn, len, false, sum⟩ : Ds) (⟨fin, false, false, 0, true, ld, dsn, 0, 0, false, 0⟩ : Ds) := D3.turn 6 _ rfl
        refine held_skip 17 rfl (by kernel_rfl) (by kernel_rfl) (ex_store_cell 22 (.tmp 33) (.tmp 24) (by kernel_rfl) ⟨o, 6, none⟩ (.int .u64 (dsn : Int)) (by kernel_rfl) (by kernel_rfl) (store_blk D3.out (by show 6 < 11; omega) _ _ (by kernel_rfl) rfl rfl)) D4.arg ?_
        obtain ⟨W4, hW⟩ : ∃ W', W' = W3.setCell ⟨o, 6, none⟩ (.int .u64 (dsn : Int)) := ⟨_, rfl⟩
        rw [← hW] at D4 ⊢
        clear hW D3
        refine held_free 18 (.pointer (some ⟨o, 7, none⟩)) rfl (by kernel_rfl) (by kernel_rfl) (by kernel_rfl) (by kernel_rfl) D4.arg (fun _ _ => by kernel_rfl) ?_
        have D5 : Br w (W4.setCell ⟨o, 7, none⟩ (.int .u32 (ssn : Int))) a z o (⟨fin, false, la, ack, true, ld, dsn, ssn, len, false, sum⟩ : Ds) (⟨fin, false, false, 0, true, ld, dsn, ssn, 0, false, 0⟩ : Ds) := D4.turn 7 _ rfl
        refine held_skip 19 rfl (by kernel_rfl) (by kernel_rfl) (ex_store_cell 23 (.tmp 34) (.tmp 26) (by kernel_rfl) ⟨o, 7, none⟩ (.int .u32 (ssn : Int)) (by kernel_rfl) (by kernel_rfl) (store_blk D4.out (by show 7 < 11; omega) _ _ (by kernel_rfl) rfl rfl)) D5.arg ?_
        obtain ⟨W5, hW⟩ : ∃ W', W' = W4.setCell ⟨o, 7, none⟩ (.int .u32 (ssn : Int)) := ⟨_, rfl⟩
        rw [← hW] at D5 ⊢
        clear hW D4
        refine held_free 20 (.pointer (some ⟨o, 8, none⟩)) rfl (by kernel_rfl) (by kernel_rfl) (by kernel_rfl) (by kernel_rfl) D5.arg (fun _ _ => by kernel_rfl) ?_
        have D6 : Br w (W5.setCell ⟨o, 8, none⟩ (.int .i64 len)) a z o (⟨fin, false, la, ack, true, ld, dsn, ssn, len, false, sum⟩ : Ds) (⟨fin, false, false, 0, true, ld, dsn, ssn, len, false, 0⟩ : Ds) := D5.turn 8 _ rfl
        refine held_skip 21 rfl (by kernel_rfl) (by kernel_rfl) (ex_store_cell 3 (.tmp 35) (.tmp 28) (by kernel_rfl) ⟨o, 8, none⟩ (.int .i64 len) (by kernel_rfl) (by kernel_rfl) (store_blk D5.out (by show 8 < 11; omega) _ _ (by kernel_rfl) rfl rfl)) D6.arg ?_
        obtain ⟨W6, hW⟩ : ∃ W', W' = W5.setCell ⟨o, 8, none⟩ (.int .i64 len) := ⟨_, rfl⟩
        rw [← hW] at D6 ⊢
        clear hW D5
        refine held_free 22 (.pointer (some ⟨o, 9, none⟩)) rfl (by kernel_rfl) (by kernel_rfl) (by kernel_rfl) (by kernel_rfl) D6.arg (fun _ _ => by kernel_rfl) ?_
        have D7 : Br w (W6.setCell ⟨o, 9, none⟩ (.bool false)) a z o (⟨fin, false, la, ack, true, ld, dsn, ssn, len, false, sum⟩ : Ds) (⟨fin, false, false, 0, true, ld, dsn, ssn, len, false, 0⟩ : Ds) := D6.turn 9 _ rfl
        refine held_skip 23 rfl (by kernel_rfl) (by kernel_rfl) (ex_store_cell 4 (.tmp 36) (.tmp 30) (by kernel_rfl) ⟨o, 9, none⟩ (.bool false) (by kernel_rfl) (by kernel_rfl) (store_blk D6.out (by show 9 < 11; omega) _ _ (by kernel_rfl) rfl rfl)) D7.arg ?_
        obtain ⟨W7, hW⟩ : ∃ W', W' = W6.setCell ⟨o, 9, none⟩ (.bool false) := ⟨_, rfl⟩
        rw [← hW] at D7 ⊢
        clear hW D6
        refine held_end (by kernel_rfl) ?_
        have HD7 := Lib.hid D7
        have HNZ := Lib.hid (show w.heap.size ≤ z from D7.ne.2.2.2)
        have o9 := D7.out.cell 9
        simp only [List.getElem?_toArray, List.getElem?_cons_zero, List.getElem?_cons_succ] at o9
        have HF := HD7
        clear D7
        have HB := Lib.hid (show dsv (⟨fin, false, false, 0, true, ld, dsn, ssn, len, false, 0⟩ : Ds) = dsv (Ds.bare (⟨fin, false, la, ack, true, ld, dsn, ssn, len, false, sum⟩ : Ds)) by simp [Ds.bare])
        have HSE := Lib.hid (setRow_heap _ z _ (dsv (⟨fin, false, false, 0, true, ld, dsn, ssn, len, false, 0⟩ : Ds)) _ _ HF.out.ret)
        have HBE := Lib.hid (below_setRow HF.out.rest HNZ.out (dsv (⟨fin, false, false, 0, true, ld, dsn, ssn, len, false, 0⟩ : Ds)))
        go_wp2_with (first | (refine wpList_load_row rfl 26 _ rfl o rfl 26 (dsv (⟨fin, false, false, 0, true, ld, dsn, ssn, len, false, 0⟩ : Ds)) (0, 0) _ ?_ Try.underlying26 rfl ds_size ?_; exact HF.out.out) | (refine wpList_store_row rfl 26 _ _ rfl z (dsv (⟨fin, false, false, 0, true, ld, dsn, ssn, len, false, 0⟩ : Ds)) rfl rfl 26 _ HF.out.ret ds_size rfl (ds_one _) ?_))
        rw [← HB.out]
        exact bodyPost_ret (results_cell_row rfl _ _ z 26 (dsv (⟨fin, false, false, 0, true, ld, dsn, ssn, len, false, 0⟩ : Ds)) (0, 0) _ rfl HSE.out Try.underlying26 rfl ds_size) rfl ⟨rfl, HBE.out⟩
      · obtain ⟨a, hae⟩ : ∃ a, a = w.heap.size := ⟨_, rfl⟩
        obtain ⟨z, hze⟩ : ∃ z, z = w.heap.size + 1 := ⟨_, rfl⟩
        obtain ⟨o, hoe⟩ : ∃ o, o = w.heap.size + 1 + 1 := ⟨_, rfl⟩
        obtain ⟨W0, hW0⟩ : ∃ W0, W0 = ((w.alloc (.cells (dsv (⟨fin, false, la, ack, true, ld, dsn, ssn, len, true, sum⟩ : Ds)) 26)).alloc (.cells (dsv .zero) 26)).alloc (.cells (dsv (⟨false, false, false, 0, true, false, 0, 0, 0, false, 0⟩ : Ds)) 26) := ⟨_, rfl⟩
        have D0 : Br w W0 a z o (⟨fin, false, la, ack, true, ld, dsn, ssn, len, true, sum⟩ : Ds) (⟨false, false, false, 0, true, false, 0, 0, 0, false, 0⟩ : Ds) := by
          have q1 := Blk.new (w.alloc (.cells (dsv (⟨fin, false, la, ack, true, ld, dsn, ssn, len, true, sum⟩ : Ds)) 26)) 26 (dsv .zero)
          have q2 := Blk.new ((w.alloc (.cells (dsv (⟨fin, false, la, ack, true, ld, dsn, ssn, len, true, sum⟩ : Ds)) 26)).alloc (.cells (dsv .zero) 26)) 26 (dsv (⟨false, false, false, 0, true, false, 0, 0, 0, false, 0⟩ : Ds))
          rw [show (w.alloc (.cells (dsv (⟨fin, false, la, ack, true, ld, dsn, ssn, len, true, sum⟩ : Ds)) 26)).heap.size = w.heap.size + 1 by simp] at q1
          rw [show ((w.alloc (.cells (dsv (⟨fin, false, la, ack, true, ld, dsn, ssn, len, true, sum⟩ : Ds)) 26)).alloc (.cells (dsv .zero) 26)).heap.size = w.heap.size + 1 + 1 by simp] at q2
          rw [hW0, hae, hze, hoe]
          exact ⟨((Blk.new _ _ _).alloc _).alloc _, q1.alloc _, q2, (((Below.refl _ w).alloc (Nat.le_refl _) _).alloc (by simp) _).alloc (by simp; omega) _, by omega, by omega, by omega, by omega⟩
        have HWE := Lib.hid hW0
        have HAE := Lib.hid hae
        have HZE := Lib.hid hze
        have HOE := Lib.hid hoe
        have HD := Lib.hid D0
        clear hW0 hae hze hoe D0
        go_enter Try.func48, Try.ntmps48
        go_wp2_with fail
        have hWE : W0 = ((w.alloc (.cells (dsv (⟨fin, false, la, ack, true, ld, dsn, ssn, len, true, sum⟩ : Ds)) 26)).alloc (.cells #[.bool false, .bool false, .bool false, .int .u64 0, .bool false, .bool false, .int .u64 0, .int .u32 0, .int .i64 0, .bool false, .int .u16 0] 26)).alloc (.cells #[.bool false, .bool false, .bool false, .int .u64 0, .bool true, .bool false, .int .u64 0, .int .u32 0, .int .i64 0, .bool false, .int .u16 0] 26) := HWE.out
        rw [← hWE, ← HOE.out, ← HZE.out, ← HAE.out]
        clear hWE HWE
        have D0 := HD.out
        refine held_start (fun W => Blk W a 26 (dsv (⟨fin, false, la, ack, true, ld, dsn, ssn, len, true, sum⟩ : Ds))) (by kernel_rfl) (n := 24) rfl ?_
        have D1 := D0.drew
        obtain ⟨W1, hW⟩ : ∃ W', W' = W0.drew := ⟨_, rfl⟩
        rw [← hW] at D1 ⊢
        clear hW D0
        refine held_free 0 (.pointer (some ⟨a, 0, none⟩)) rfl (by kernel_rfl) (by kernel_rfl) (by kernel_rfl) (by kernel_rfl) D1.arg (fun _ _ => by kernel_rfl) ?_
        refine held_free 1 (.bool fin) rfl (by kernel_rfl) (by kernel_rfl) (by kernel_rfl) (by kernel_rfl) D1.arg (fun W q => ex_load 4 (.tmp 19) (by kernel_rfl) ⟨a, 0, none⟩ (by kernel_rfl) (by kernel_rfl) (q.cell 0)) ?_
        refine held_free 2 (.pointer (some ⟨a, 5, none⟩)) rfl (by kernel_rfl) (by kernel_rfl) (by kernel_rfl) (by kernel_rfl) D1.arg (fun _ _ => by kernel_rfl) ?_
        refine held_free 3 (.bool ld) rfl (by kernel_rfl) (by kernel_rfl) (by kernel_rfl) (by kernel_rfl) D1.arg (fun W q => ex_load 4 (.tmp 21) (by kernel_rfl) ⟨a, 5, none⟩ (by kernel_rfl) (by kernel_rfl) (q.cell 5)) ?_
        refine held_free 4 (.pointer (some ⟨a, 6, none⟩)) rfl (by kernel_rfl) (by kernel_rfl) (by kernel_rfl) (by kernel_rfl) D1.arg (fun _ _ => by kernel_rfl) ?_
        refine held_free 5 (.int .u64 (dsn : Int)) rfl (by kernel_rfl) (by kernel_rfl) (by kernel_rfl) (by kernel_rfl) D1.arg (fun W q => ex_load 22 (.tmp 23) (by kernel_rfl) ⟨a, 6, none⟩ (by kernel_rfl) (by kernel_rfl) (q.cell 6)) ?_
        refine held_free 6 (.pointer (some ⟨a, 7, none⟩)) rfl (by kernel_rfl) (by kernel_rfl) (by kernel_rfl) (by kernel_rfl) D1.arg (fun _ _ => by kernel_rfl) ?_
        refine held_free 7 (.int .u32 (ssn : Int)) rfl (by kernel_rfl) (by kernel_rfl) (by kernel_rfl) (by kernel_rfl) D1.arg (fun W q => ex_load 23 (.tmp 25) (by kernel_rfl) ⟨a, 7, none⟩ (by kernel_rfl) (by kernel_rfl) (q.cell 7)) ?_
        refine held_free 8 (.pointer (some ⟨a, 8, none⟩)) rfl (by kernel_rfl) (by kernel_rfl) (by kernel_rfl) (by kernel_rfl) D1.arg (fun _ _ => by kernel_rfl) ?_
        refine held_free 9 (.int .i64 len) rfl (by kernel_rfl) (by kernel_rfl) (by kernel_rfl) (by kernel_rfl) D1.arg (fun W q => ex_load 3 (.tmp 27) (by kernel_rfl) ⟨a, 8, none⟩ (by kernel_rfl) (by kernel_rfl) (q.cell 8)) ?_
        refine held_free 10 (.pointer (some ⟨a, 9, none⟩)) rfl (by kernel_rfl) (by kernel_rfl) (by kernel_rfl) (by kernel_rfl) D1.arg (fun _ _ => by kernel_rfl) ?_
        refine held_free 11 (.bool true) rfl (by kernel_rfl) (by kernel_rfl) (by kernel_rfl) (by kernel_rfl) D1.arg (fun W q => ex_load 4 (.tmp 29) (by kernel_rfl) ⟨a, 9, none⟩ (by kernel_rfl) (by kernel_rfl) (q.cell 9)) ?_
        refine held_free 12 (.pointer (some ⟨o, 0, none⟩)) rfl (by kernel_rfl) (by kernel_rfl) (by kernel_rfl) (by kernel_rfl) D1.arg (fun _ _ => by kernel_rfl) ?_
        have D2 : Br w (W1.setCell ⟨o, 0, none⟩ (.bool fin)) a z o (⟨fin, false, la, ack, true, ld, dsn, ssn, len, true, sum⟩ : Ds) (⟨fin, false, false, 0, true, false, 0, 0, 0, false, 0⟩ : Ds) := D1.turn 0 _ rfl
        refine held_skip 13 rfl (by kernel_rfl) (by kernel_rfl) (ex_store_cell 4 (.tmp 31) (.tmp 20) (by kernel_rfl) ⟨o, 0, none⟩ (.bool fin) (by kernel_rfl) (by kernel_rfl) (store_blk D1.out (by show 0 < 11; omega) _ _ (by kernel_rfl) rfl rfl)) D2.arg ?_
        obtain ⟨W2, hW⟩ : ∃ W', W' = W1.setCell ⟨o, 0, none⟩ (.bool fin) := ⟨_, rfl⟩
        rw [← hW] at D2 ⊢
        clear hW D1
        refine held_free 14 (.pointer (some ⟨o, 5, none⟩)) rfl (by kernel_rfl) (by kernel_rfl) (by kernel_rfl) (by kernel_rfl) D2.arg (fun _ _ => by kernel_rfl) ?_
        have D3 : Br w (W2.setCell ⟨o, 5, none⟩ (.bool ld)) a z o (⟨fin, false, la, ack, true, ld, dsn, ssn, len, true, sum⟩ : Ds) (⟨fin, false, false, 0, true, ld, 0, 0, 0, false, 0⟩ : Ds) := D2.turn 5 _ rfl
        refine held_skip 15 rfl (by kernel_rfl) (by kernel_rfl) (ex_store_cell 4 (.tmp 32) (.tmp 22) (by kernel_rfl) ⟨o, 5, none⟩ (.bool ld) (by kernel_rfl) (by kernel_rfl) (store_blk D2.out (by show 5 < 11; omega) _ _ (by kernel_rfl) rfl rfl)) D3.arg ?_
        obtain ⟨W3, hW⟩ : ∃ W', W' = W2.setCell ⟨o, 5, none⟩ (.bool ld) := ⟨_, rfl⟩
        rw [← hW] at D3 ⊢
        clear hW D2
        refine held_free 16 (.pointer (some ⟨o, 6, none⟩)) rfl (by kernel_rfl) (by kernel_rfl) (by kernel_rfl) (by kernel_rfl) D3.arg (fun _ _ => by kernel_rfl) ?_
        have D4 : Br w (W3.setCell ⟨o, 6, none⟩ (.int .u64 (dsn : Int))) a z o (⟨fin, false, la, ack, true, ld, dsn, ssn, len, true, sum⟩ : Ds) (⟨fin, false, false, 0, true, ld, dsn, 0, 0, false, 0⟩ : Ds) := D3.turn 6 _ rfl
        refine held_skip 17 rfl (by kernel_rfl) (by kernel_rfl) (ex_store_cell 22 (.tmp 33) (.tmp 24) (by kernel_rfl) ⟨o, 6, none⟩ (.int .u64 (dsn : Int)) (by kernel_rfl) (by kernel_rfl) (store_blk D3.out (by show 6 < 11; omega) _ _ (by kernel_rfl) rfl rfl)) D4.arg ?_
        obtain ⟨W4, hW⟩ : ∃ W', W' = W3.setCell ⟨o, 6, none⟩ (.int .u64 (dsn : Int)) := ⟨_, rfl⟩
        rw [← hW] at D4 ⊢
        clear hW D3
        refine held_free 18 (.pointer (some ⟨o, 7, none⟩)) rfl (by kernel_rfl) (by kernel_rfl) (by kernel_rfl) (by kernel_rfl) D4.arg (fun _ _ => by kernel_rfl) ?_
        have D5 : Br w (W4.setCell ⟨o, 7, none⟩ (.int .u32 (ssn : Int))) a z o (⟨fin, false, la, ack, true, ld, dsn, ssn, len, true, sum⟩ : Ds) (⟨fin, false, false, 0, true, ld, dsn, ssn, 0, false, 0⟩ : Ds) := D4.turn 7 _ rfl
        refine held_skip 19 rfl (by kernel_rfl) (by kernel_rfl) (ex_store_cell 23 (.tmp 34) (.tmp 26) (by kernel_rfl) ⟨o, 7, none⟩ (.int .u32 (ssn : Int)) (by kernel_rfl) (by kernel_rfl) (store_blk D4.out (by show 7 < 11; omega) _ _ (by kernel_rfl) rfl rfl)) D5.arg ?_
        obtain ⟨W5, hW⟩ : ∃ W', W' = W4.setCell ⟨o, 7, none⟩ (.int .u32 (ssn : Int)) := ⟨_, rfl⟩
        rw [← hW] at D5 ⊢
        clear hW D4
        refine held_free 20 (.pointer (some ⟨o, 8, none⟩)) rfl (by kernel_rfl) (by kernel_rfl) (by kernel_rfl) (by kernel_rfl) D5.arg (fun _ _ => by kernel_rfl) ?_
        have D6 : Br w (W5.setCell ⟨o, 8, none⟩ (.int .i64 len)) a z o (⟨fin, false, la, ack, true, ld, dsn, ssn, len, true, sum⟩ : Ds) (⟨fin, false, false, 0, true, ld, dsn, ssn, len, false, 0⟩ : Ds) := D5.turn 8 _ rfl
        refine held_skip 21 rfl (by kernel_rfl) (by kernel_rfl) (ex_store_cell 3 (.tmp 35) (.tmp 28) (by kernel_rfl) ⟨o, 8, none⟩ (.int .i64 len) (by kernel_rfl) (by kernel_rfl) (store_blk D5.out (by show 8 < 11; omega) _ _ (by kernel_rfl) rfl rfl)) D6.arg ?_
        obtain ⟨W6, hW⟩ : ∃ W', W' = W5.setCell ⟨o, 8, none⟩ (.int .i64 len) := ⟨_, rfl⟩
        rw [← hW] at D6 ⊢
        clear hW D5
        refine held_free 22 (.pointer (some ⟨o, 9, none⟩)) rfl (by kernel_rfl) (by kernel_rfl) (by kernel_rfl) (by kernel_rfl) D6.arg (fun _ _ => by kernel_rfl) ?_
        have D7 : Br w (W6.setCell ⟨o, 9, none⟩ (.bool true)) a z o (⟨fin, false, la, ack, true, ld, dsn, ssn, len, true, sum⟩ : Ds) (⟨fin, false, false, 0, true, ld, dsn, ssn, len, true, 0⟩ : Ds) := D6.turn 9 _ rfl
        refine held_skip 23 rfl (by kernel_rfl) (by kernel_rfl) (ex_store_cell 4 (.tmp 36) (.tmp 30) (by kernel_rfl) ⟨o, 9, none⟩ (.bool true) (by kernel_rfl) (by kernel_rfl) (store_blk D6.out (by show 9 < 11; omega) _ _ (by kernel_rfl) rfl rfl)) D7.arg ?_
        obtain ⟨W7, hW⟩ : ∃ W', W' = W6.setCell ⟨o, 9, none⟩ (.bool true) := ⟨_, rfl⟩
        rw [← hW] at D7 ⊢
        clear hW D6
        refine held_end (by kernel_rfl) ?_
        have HD7 := Lib.hid D7
        have HNZ := Lib.hid (show w.heap.size ≤ z from D7.ne.2.2.2)
        have o9 := D7.out.cell 9
        have c10 := D7.arg.cell 10
        have o10 := D7.out.cell 10
        have z10 := D7.out.frozen 10
        simp only [List.getElem?_toArray, List.getElem?_cons_zero, List.getElem?_cons_succ] at o9 c10 o10
        obtain ⟨Wf, hWf⟩ : ∃ W', W' = W7.setCell ⟨o, 10, none⟩ (.int .u16 (sum : Int)) := ⟨_, rfl⟩
        have HF := Lib.hid (show Br w Wf a z o (⟨fin, false, la, ack, true, ld, dsn, ssn, len, true, sum⟩ : Ds) (⟨fin, false, false, 0, true, ld, dsn, ssn, len, true, sum⟩ : Ds) by rw [hWf]; exact D7.turn 10 _ rfl)
        have HWF := Lib.hid hWf
        clear hWf D7
        have HB := Lib.hid (show dsv (⟨fin, false, false, 0, true, ld, dsn, ssn, len, true, sum⟩ : Ds) = dsv (Ds.bare (⟨fin, false, la, ack, true, ld, dsn, ssn, len, true, sum⟩ : Ds)) by simp [Ds.bare])
        have HSE := Lib.hid (setRow_heap _ z _ (dsv (⟨fin, false, false, 0, true, ld, dsn, ssn, len, true, sum⟩ : Ds)) _ _ HF.out.ret)
        have HBE := Lib.hid (below_setRow HF.out.rest HNZ.out (dsv (⟨fin, false, false, 0, true, ld, dsn, ssn, len, true, sum⟩ : Ds)))
        go_upto_region 8 with fail
        rw [← HWF.out]
        clear HWF c10 o9 o10 z10
        go_wp2_with (first | (refine wpList_load_row rfl 26 _ rfl o rfl 26 (dsv (⟨fin, false, false, 0, true, ld, dsn, ssn, len, true, sum⟩ : Ds)) (0, 0) _ ?_ Try.underlying26 rfl ds_size ?_; exact HF.out.out) | (refine wpList_store_row rfl 26 _ _ rfl z (dsv (⟨fin, false, false, 0, true, ld, dsn, ssn, len, true, sum⟩ : Ds)) rfl rfl 26 _ HF.out.ret ds_size rfl (ds_one _) ?_))
        rw [← HB.out]
        exact bodyPost_ret (results_cell_row rfl _ _ z 26 (dsv (⟨fin, false, false, 0, true, ld, dsn, ssn, len, true, sum⟩ : Ds)) (0, 0) _ rfl HSE.out Try.underlying26 rfl ds_size) rfl ⟨rfl, HBE.out⟩
  · cases hm
    · obtain ⟨a, hae⟩ : ∃ a, a = w.heap.size := ⟨_, rfl⟩
      obtain ⟨z, hze⟩ : ∃ z, z = w.heap.size + 1 := ⟨_, rfl⟩
      obtain ⟨o, hoe⟩ : ∃ o, o = w.heap.size + 1 + 1 := ⟨_, rfl⟩
      obtain ⟨W0, hW0⟩ : ∃ W0, W0 = ((w.alloc (.cells (dsv (⟨fin, true, la, ack, false, ld, dsn, ssn, len, hs, sum⟩ : Ds)) 26)).alloc (.cells (dsv .zero) 26)).alloc (.cells (dsv (⟨false, true, false, 0, false, false, 0, 0, 0, false, 0⟩ : Ds)) 26) := ⟨_, rfl⟩
      have D0 : Br w W0 a z o (⟨fin, true, la, ack, false, ld, dsn, ssn, len, hs, sum⟩ : Ds) (⟨false, true, false, 0, false, false, 0, 0, 0, false, 0⟩ : Ds) := by
        have q1 := Blk.new (w.alloc (.cells (dsv (⟨fin, true, la, ack, false, ld, dsn, ssn, len, hs, sum⟩ : Ds)) 26)) 26 (dsv .zero)
        have q2 := Blk.new ((w.alloc (.cells (dsv (⟨fin, true, la, ack, false, ld, dsn, ssn, len, hs, sum⟩ : Ds)) 26)).alloc (.cells (dsv .zero) 26)) 26 (dsv (⟨false, true, false, 0, false, false, 0, 0, 0, false, 0⟩ : Ds))
        rw [show (w.alloc (.cells (dsv (⟨fin, true, la, ack, false, ld, dsn, ssn, len, hs, sum⟩ : Ds)) 26)).heap.size = w.heap.size + 1 by simp] at q1
        rw [show ((w.alloc (.cells (dsv (⟨fin, true, la, ack, false, ld, dsn, ssn, len, hs, sum⟩ : Ds)) 26)).alloc (.cells (dsv .zero) 26)).heap.size = w.heap.size + 1 + 1 by simp] at q2
        rw [hW0, hae, hze, hoe]
        exact ⟨((Blk.new _ _ _).alloc _).alloc _, q1.alloc _, q2, (((Below.refl _ w).alloc (Nat.le_refl _) _).alloc (by simp) _).alloc (by simp; omega) _, by omega, by omega, by omega, by omega⟩
      have HWE := Lib.hid hW0
      have HAE := Lib.hid hae
      have HZE := Lib.hid hze
      have HOE := Lib.hid hoe
      have HD := Lib.hid D0
      clear hW0 hae hze hoe D0
      go_enter Try.func48, Try.ntmps48
      go_wp2_with fail
      have hWE : W0 = ((w.alloc (.cells (dsv (⟨fin, true, la, ack, false, ld, dsn, ssn, len, hs, sum⟩ : Ds)) 26)).alloc (.cells #[.bool false, .bool false, .bool false, .int .u64 0, .bool false, .bool false, .int .u64 0, .int .u32 0, .int .i64 0, .bool false, .int .u16 0] 26)).alloc (.cells #[.bool false, .bool true, .bool false, .int .u64 0, .bool false, .bool false, .int .u64 0, .int .u32 0, .int .i64 0, .bool false, .int .u16 0] 26) := HWE.out
      rw [← hWE, ← HOE.out, ← HZE.out, ← HAE.out]
      clear hWE HWE
      have D0 := HD.out
      refine held_start (fun W => Blk W a 26 (dsv (⟨fin, true, la, ack, false, ld, dsn, ssn, len, hs, sum⟩ : Ds))) (by kernel_rfl) (n := 8) rfl ?_
      have D1 := D0.drew
      obtain ⟨W1, hW⟩ : ∃ W', W' = W0.drew := ⟨_, rfl⟩
      rw [← hW] at D1 ⊢
      clear hW D0
      refine held_free 0 (.pointer (some ⟨a, 2, none⟩)) rfl (by kernel_rfl) (by kernel_rfl) (by kernel_rfl) (by kernel_rfl) D1.arg (fun _ _ => by kernel_rfl) ?_
      refine held_free 1 (.bool la) rfl (by kernel_rfl) (by kernel_rfl) (by kernel_rfl) (by kernel_rfl) D1.arg (fun W q => ex_load 4 (.tmp 11) (by kernel_rfl) ⟨a, 2, none⟩ (by kernel_rfl) (by kernel_rfl) (q.cell 2)) ?_
      refine held_free 2 (.pointer (some ⟨a, 3, none⟩)) rfl (by kernel_rfl) (by kernel_rfl) (by kernel_rfl) (by kernel_rfl) D1.arg (fun _ _ => by kernel_rfl) ?_
      refine held_free 3 (.int .u64 (ack : Int)) rfl (by kernel_rfl) (by kernel_rfl) (by kernel_rfl) (by kernel_rfl) D1.arg (fun W q => ex_load 22 (.tmp 13) (by kernel_rfl) ⟨a, 3, none⟩ (by kernel_rfl) (by kernel_rfl) (q.cell 3)) ?_
      refine held_free 4 (.pointer (some ⟨o, 2, none⟩)) rfl (by kernel_rfl) (by kernel_rfl) (by kernel_rfl) (by kernel_rfl) D1.arg (fun _ _ => by kernel_rfl) ?_
      have D2 : Br w (W1.setCell ⟨o, 2, none⟩ (.bool la)) a z o (⟨fin, true, la, ack, false, ld, dsn, ssn, len, hs, sum⟩ : Ds) (⟨false, true, la, 0, false, false, 0, 0, 0, false, 0⟩ : Ds) := D1.turn 2 _ rfl
      refine held_skip 5 rfl (by kernel_rfl) (by kernel_rfl) (ex_store_cell 4 (.tmp 15) (.tmp 12) (by kernel_rfl) ⟨o, 2, none⟩ (.bool la) (by kernel_rfl) (by kernel_rfl) (store_blk D1.out (by show 2 < 11; omega) _ _ (by kernel_rfl) rfl rfl)) D2.arg ?_
      obtain ⟨W2, hW⟩ : ∃ W', W' = W1.setCell ⟨o, 2, none⟩ (.bool la) := ⟨_, rfl⟩
      rw [← hW] at D2 ⊢
      clear hW D1
      refine held_free 6 (.pointer (some ⟨o, 3, none⟩)) rfl (by kernel_rfl) (by kernel_rfl) (by kernel_rfl) (by kernel_rfl) D2.arg (fun _ _ => by kernel_rfl) ?_
      have D3 : Br w (W2.setCell ⟨o, 3, none⟩ (.int .u64 (ack : Int))) a z o (⟨fin, true, la, ack, false, ld, dsn, ssn, len, hs, sum⟩ : Ds) (⟨false, true, la, ack, false, false, 0, 0, 0, false, 0⟩ : Ds) := D2.turn 3 _ rfl
      refine held_skip 7 rfl (by kernel_rfl) (by kernel_rfl) (ex_store_cell 22 (.tmp 16) (.tmp 14) (by kernel_rfl) ⟨o, 3, none⟩ (.int .u64 (ack : Int)) (by kernel_rfl) (by kernel_rfl) (store_blk D2.out (by show 3 < 11; omega) _ _ (by kernel_rfl) rfl rfl)) D3.arg ?_
      obtain ⟨W3, hW⟩ : ∃ W', W' = W2.setCell ⟨o, 3, none⟩ (.int .u64 (ack : Int)) := ⟨_, rfl⟩
      rw [← hW] at D3 ⊢
      clear hW D2
      refine held_end (by kernel_rfl) ?_
      have HD3 := Lib.hid D3
      have HD3 := Lib.hid D3
      have HNZ := Lib.hid (show w.heap.size ≤ z from D3.ne.2.2.2)
      have c4 := D3.arg.cell 4
      have o9 := D3.out.cell 9
      simp only [List.getElem?_toArray, List.getElem?_cons_zero, List.getElem?_cons_succ] at c4 o9
      have HF := HD3
      clear D3
      have HB := Lib.hid (show dsv (⟨false, true, la, ack, false, false, 0, 0, 0, false, 0⟩ : Ds) = dsv (Ds.bare (⟨fin, true, la, ack, false, ld, dsn, ssn, len, hs, sum⟩ : Ds)) by simp [Ds.bare])
      have HSE := Lib.hid (setRow_heap _ z _ (dsv (⟨false, true, la, ack, false, false, 0, 0, 0, false, 0⟩ : Ds)) _ _ HF.out.ret)
      have HBE := Lib.hid (below_setRow HF.out.rest HNZ.out (dsv (⟨false, true, la, ack, false, false, 0, 0, 0, false, 0⟩ : Ds)))
      go_wp2_with (first | (refine wpList_load_row rfl 26 _ rfl o rfl 26 (dsv (⟨false, true, la, ack, false, false, 0, 0, 0, false, 0⟩ : Ds)) (0, 0) _ ?_ Try.underlying26 rfl ds_size ?_; exact HF.out.out) | (refine wpList_store_row rfl 26 _ _ rfl z (dsv (⟨false, true, la, ack, false, false, 0, 0, 0, false, 0⟩ : Ds)) rfl rfl 26 _ HF.out.ret ds_size rfl (ds_one _) ?_))
      rw [← HB.out]
      exact bodyPost_ret (results_cell_row rfl _ _ z 26 (dsv (⟨false, true, la, ack, false, false, 0, 0, 0, false, 0⟩ : Ds)) (0, 0) _ rfl HSE.out Try.underlying26 rfl ds_size) rfl ⟨rfl, HBE.out⟩
    · cases hs
      · obtain ⟨a, hae⟩ : ∃ a, a = w.heap.size := ⟨_, rfl⟩
        obtain ⟨z, hze⟩ : ∃ z, z = w.heap.size + 1 := ⟨_, rfl⟩
        obtain ⟨o, hoe⟩ : ∃ o, o = w.heap.size + 1 + 1 := ⟨_, rfl⟩
        obtain ⟨W0, hW0⟩ : ∃ W0, W0 = ((w.alloc (.cells (dsv (⟨fin, true, la, ack, true, ld, dsn, ssn, len, false, sum⟩ : Ds)) 26)).alloc (.cells (dsv .zero) 26)).alloc (.cells (dsv (⟨false, true, false, 0, true, false, 0, 0, 0, false, 0⟩ : Ds)) 26) := ⟨_, rfl⟩
        have D0 : Br w W0 a z o (⟨fin, true, la, ack, true, ld, dsn, ssn, len, false, sum⟩ : Ds) (⟨false, true, false, 0, true, false, 0, 0, 0, false, 0⟩ : Ds) := by
          have q1 := Blk.new (w.alloc (.cells (dsv (⟨fin, true, la, ack, true, ld, dsn, ssn, len, false, sum⟩ : Ds)) 26)) 26 (dsv .zero)
          have q2 := Blk.new ((w.alloc (.cells (dsv (⟨fin, true, la, ack, true, ld, dsn, ssn, len, false, sum⟩ : Ds)) 26)).alloc (.cells (dsv .zero) 26)) 26 (dsv (⟨false, true, false, 0, true, false, 0, 0, 0, false, 0⟩ : Ds))
          rw [show (w.alloc (.cells (dsv (⟨fin, true, la, ack, true, ld, dsn, ssn, len, false, sum⟩ : Ds)) 26)).heap.size = w.heap.size + 1 by simp] at q1
          rw [show ((w.alloc (.cells (dsv (⟨fin, true, la, ack, true, ld, dsn, ssn, len, false, sum⟩ : Ds)) 26)).alloc (.cells (dsv .zero) 26)).heap.size = w.heap.size + 1 + 1 by simp] at q2
          rw [hW0, hae, hze, hoe]
          exact ⟨((Blk.new _ _ _).alloc _).alloc _, q1.alloc _, q2, (((Below.refl _ w).alloc (Nat.le_refl _) _).alloc (by simp) _).alloc (by simp; omega) _, by omega, by omega, by omega, by omega⟩
        have HWE := Lib.hid hW0
        have HAE := Lib.hid hae
        have HZE := Lib.hid hze
        have HOE := Lib.hid hoe
        have HD := Lib.hid D0
        clear hW0 hae hze hoe D0
        go_enter Try.func48, Try.ntmps48
        go_wp2_with fail
        have hWE : W0 = ((w.alloc (.cells (dsv (⟨fin, true, la, ack, true, ld, dsn, ssn, len, false, sum⟩ : Ds)) 26)).alloc (.cells #[.bool false, .bool false, .bool false, .int .u64 0, .bool false, .bool false, .int .u64 0, .int .u32 0, .int .i64 0, .bool false, .int .u16 0] 26)).alloc (.cells #[.bool false, .bool true, .bool false, .int .u64 0, .bool true, .bool false, .int .u64 0, .int .u32 0, .int .i64 0, .bool false, .int .u16 0] 26) := HWE.out
        rw [← hWE, ← HOE.out, ← HZE.out, ← HAE.out]
        clear hWE HWE
        have D0 := HD.out
        refine held_start (fun W => Blk W a 26 (dsv (⟨fin, true, la, ack, true, ld, dsn, ssn, len, false, sum⟩ : Ds))) (by kernel_rfl) (n := 8) rfl ?_
        have D1 := D0.drew
        obtain ⟨W1, hW⟩ : ∃ W', W' = W0.drew := ⟨_, rfl⟩
        rw [← hW] at D1 ⊢
        clear hW D0
        refine held_free 0 (.pointer (some ⟨a, 2, none⟩)) rfl (by kernel_rfl) (by kernel_rfl) (by kernel_rfl) (by kernel_rfl) D1.arg (fun _ _ => by kernel_rfl) ?_
        refine held_free 1 (.bool la) rfl (by kernel_rfl) (by kernel_rfl) (by kernel_rfl) (by kernel_rfl) D1.arg (fun W q => ex_load 4 (.tmp 11) (by kernel_rfl) ⟨a, 2, none⟩ (by kernel_rfl) (by kernel_rfl) (q.cell 2)) ?_
        refine held_free 2 (.pointer (some ⟨a, 3, none⟩)) rfl (by kernel_rfl) (by kernel_rfl) (by kernel_rfl) (by kernel_rfl) D1.arg (fun _ _ => by kernel_rfl) ?_
        refine held_free 3 (.int .u64 (ack : Int)) rfl (by kernel_rfl) (by kernel_rfl) (by kernel_rfl) (by kernel_rfl) D1.arg (fun W q => ex_load 22 (.tmp 13) (by kernel_rfl) ⟨a, 3, none⟩ (by kernel_rfl) (by kernel_rfl) (q.cell 3)) ?_
        refine held_free 4 (.pointer (some ⟨o, 2, none⟩)) rfl (by kernel_rfl) (by kernel_rfl) (by kernel_rfl) (by kernel_rfl) D1.arg (fun _ _ => by kernel_rfl) ?_
        have D2 : Br w (W1.setCell ⟨o, 2, none⟩ (.bool la)) a z o (⟨fin, true, la, ack, true, ld, dsn, ssn, len, false, sum⟩ : Ds) (⟨false, true, la, 0, true, false, 0, 0, 0, false, 0⟩ : Ds) := D1.turn 2 _ rfl
        refine held_skip 5 rfl (by kernel_rfl) (by kernel_rfl) (ex_store_cell 4 (.tmp 15) (.tmp 12) (by kernel_rfl) ⟨o, 2, none⟩ (.bool la) (by kernel_rfl) (by kernel_rfl) (store_blk D1.out (by show 2 < 11; omega) _ _ (by kernel_rfl) rfl rfl)) D2.arg ?_
        obtain ⟨W2, hW⟩ : ∃ W', W' = W1.setCell ⟨o, 2, none⟩ (.bool la) := ⟨_, rfl⟩
        rw [← hW] at D2 ⊢
        clear hW D1
        refine held_free 6 (.pointer (some ⟨o, 3, none⟩)) rfl (by kernel_rfl) (by kernel_rfl) (by kernel_rfl) (by kernel_rfl) D2.arg (fun _ _ => by kernel_rfl) ?_
        have D3 : Br w (W2.setCell ⟨o, 3, none⟩ (.int .u64 (ack : Int))) a z o (⟨fin, true, la, ack, true, ld, dsn, ssn, len, false, sum⟩ : Ds) (⟨false, true, la, ack, true, false, 0, 0, 0, false, 0⟩ : Ds) := D2.turn 3 _ rfl
        refine held_skip 7 rfl (by kernel_rfl) (by kernel_rfl) (ex_store_cell 22 (.tmp 16) (.tmp 14) (by kernel_rfl) ⟨o, 3, none⟩ (.int .u64 (ack : Int)) (by kernel_rfl) (by kernel_rfl) (store_blk D2.out (by show 3 < 11; omega) _ _ (by kernel_rfl) rfl rfl)) D3.arg ?_
        obtain ⟨W3, hW⟩ : ∃ W', W' = W2.setCell ⟨o, 3, none⟩ (.int .u64 (ack : Int)) := ⟨_, rfl⟩
        rw [← hW] at D3 ⊢
        clear hW D2
        refine held_end (by kernel_rfl) ?_
        have HD3 := Lib.hid D3
        have c1 := D3.arg.cell 4
        simp only [List.getElem?_toArray, List.getElem?_cons_zero, List.getElem?_cons_succ] at c1
        clear D3
        go_wp2_with fail
        clear c1
        have D3 := HD3.out
        refine held_start (fun W => Blk W a 26 (dsv (⟨fin, true, la, ack, true, ld, dsn, ssn, len, false, sum⟩ : Ds))) (by kernel_rfl) (n := 24) rfl ?_
        have D4 := D3.drew
        obtain ⟨W4, hW⟩ : ∃ W', W' = W3.drew := ⟨_, rfl⟩
        rw [← hW] at D4 ⊢
        clear hW D3
        refine held_free 0 (.pointer (some ⟨a, 0, none⟩)) rfl (by kernel_rfl) (by kernel_rfl) (by kernel_rfl) (by kernel_rfl) D4.arg (fun _ _ => by kernel_rfl) ?_
        refine held_free 1 (.bool fin) rfl (by kernel_rfl) (by kernel_rfl) (by kernel_rfl) (by kernel_rfl) D4.arg (fun W q => ex_load 4 (.tmp 19) (by kernel_rfl) ⟨a, 0, none⟩ (by kernel_rfl) (by kernel_rfl) (q.cell 0)) ?_
        refine held_free 2 (.pointer (some ⟨a, 5, none⟩)) rfl (by kernel_rfl) (by kernel_rfl) (by kernel_rfl) (by kernel_rfl) D4.arg (fun _ _ => by kernel_rfl) ?_
        refine held_free 3 (.bool ld) rfl (by kernel_rfl) (by kernel_rfl) (by kernel_rfl) (by kernel_rfl) D4.arg (fun W q => ex_load 4 (.tmp 21) (by kernel_rfl) ⟨a, 5, none⟩ (by kernel_rfl) (by kernel_rfl) (q.cell 5)) ?_
        refine held_free 4 (.pointer (some ⟨a, 6, none⟩)) rfl (by kernel_rfl) (by kernel_rfl) (by kernel_rfl) (by kernel_rfl) D4.arg (fun _ _ => by kernel_rfl) ?_
        refine held_free 5 (.int .u64 (dsn : Int)) rfl (by kernel_rfl) (by kernel_rfl) (by kernel_rfl) (by kernel_rfl) D4.arg (fun W q => ex_load 22 (.tmp 23) (by kernel_rfl) ⟨a, 6, none⟩ (by kernel_rfl) (by kernel_rfl) (q.cell 6)) ?_
        refine held_free 6 (.pointer (some ⟨a, 7, none⟩)) rfl (by kernel_rfl) (by kernel_rfl) (by kernel_rfl) (by kernel_rfl) D4.arg (fun _ _ => by kernel_rfl) ?_
        refine held_free 7 (.int .u32 (ssn : Int)) rfl (by kernel_rfl) (by kernel_rfl) (by kernel_rfl) (by kernel_rfl) D4.arg (fun W q => ex_load 23 (.tmp 25) (by kernel_rfl) ⟨a, 7, none⟩ (by kernel_rfl) (by kernel_rfl) (q.cell 7)) ?_
        refine held_free 8 (.pointer (some ⟨a, 8, none⟩)) rfl (by kernel_rfl) (by kernel_rfl) (by kernel_rfl) (by kernel_rfl) D4.arg (fun _ _ => by kernel_rfl) ?_
        refine held_free 9 (.int .i64 len) rfl (by kernel_rfl) (by kernel_rfl) (by kernel_rfl) (by kernel_rfl) D4.arg (fun W q => ex_load 3 (.tmp 27) (by kernel_rfl) ⟨a, 8, none⟩ (by kernel_rfl) (by kernel_rfl) (q.cell 8)) ?_
        refine held_free 10 (.pointer (some ⟨a, 9, none⟩)) rfl (by kernel_rfl) (by kernel_rfl) (by kernel_rfl) (by kernel_rfl) D4.arg (fun _ _ => by kernel_rfl) ?_
        refine held_free 11 (.bool false) rfl (by kernel_rfl) (by kernel_rfl) (by kernel_rfl) (by kernel_rfl) D4.arg (fun W q => ex_load 4 (.tmp 29) (by kernel_rfl) ⟨a, 9, none⟩ (by kernel_rfl) (by kernel_rfl) (q.cell 9)) ?_
        refine held_free 12 (.pointer (some ⟨o, 0, none⟩)) rfl (by kernel_rfl) (by kernel_rfl) (by kernel_rfl) (by kernel_rfl) D4.arg (fun _ _ => by kernel_rfl) ?_
        have D5 : Br w (W4.setCell ⟨o, 0, none⟩ (.bool fin)) a z o (⟨fin, true, la, ack, true, ld, dsn, ssn, len, false, sum⟩ : Ds) (⟨fin, true, la, ack, true, false, 0, 0, 0, false, 0⟩ : Ds) := D4.turn 0 _ rfl
        refine held_skip 13 rfl (by kernel_rfl) (by kernel_rfl) (ex_store_cell 4 (.tmp 31) (.tmp 20) (by kernel_rfl) ⟨o, 0, none⟩ (.bool fin) (by kernel_rfl) (by kernel_rfl) (store_blk D4.out (by show 0 < 11; omega) _ _ (by kernel_rfl) rfl rfl)) D5.arg ?_
        obtain ⟨W5, hW⟩ : ∃ W', W' = W4.setCell ⟨o, 0, none⟩ (.bool fin) := ⟨_, rfl⟩
        rw [← hW] at D5 ⊢
        clear hW D4
        refine held_free 14 (.pointer (some ⟨o, 5, none⟩)) rfl (by kernel_rfl) (by kernel_rfl) (by kernel_rfl) (by kernel_rfl) D5.arg (fun _ _ => by kernel_rfl) ?_
        have D6 : Br w (W5.setCell ⟨o, 5, none⟩ (.bool ld)) a z o (⟨fin, true, la, ack, true, ld, dsn, ssn, len, false, sum⟩ : Ds) (⟨fin, true, la, ack, true, ld, 0, 0, 0, false, 0⟩ : Ds) := D5.turn 5 _ rfl
        refine held_skip 15 rfl (by kernel_rfl) (by kernel_rfl) (ex_store_cell 4 (.tmp 32) (.tmp 22) (by kernel_rfl) ⟨o, 5, none⟩ (.bool ld) (by kernel_rfl) (by kernel_rfl) (store_blk D5.out (by show 5 < 11; omega) _ _ (by kernel_rfl) rfl rfl)) D6.arg ?_
        obtain ⟨W6, hW⟩ : ∃ W', W' = W5.setCell ⟨o, 5, none⟩ (.bool ld) := ⟨_, rfl⟩
        rw [← hW] at D6 ⊢
        clear hW D5
        refine held_free 16 (.pointer (some ⟨o, 6, none⟩)) rfl (by kernel_rfl) (by kernel_rfl) (by kernel_rfl) (by kernel_rfl) D6.arg (fun _ _ => by kernel_rfl) ?_
        have D7 : Br w (W6.setCell ⟨o, 6, none⟩ (.int .u64 (dsn : Int))) a z o (⟨fin, true, la, ack, true, ld, dsn, ssn, len, false, sum⟩ : Ds) (⟨fin, true, la, ack, true, ld, dsn, 0, 0, false, 0⟩ : Ds) := D6.turn 6 _ rfl
        refine held_skip 17 rfl (by kernel_rfl) (by kernel_rfl) (ex_store_cell 22 (.tmp 33) (.tmp 24) (by kernel_rfl) ⟨o, 6, none⟩ (.int .u64 (dsn : Int)) (by kernel_rfl) (by kernel_rfl) (store_blk D6.out (by show 6 < 11; omega) _ _ (by kernel_rfl) rfl rfl)) D7.arg ?_
        obtain ⟨W7, hW⟩ : ∃ W', W' = W6.setCell ⟨o, 6, none⟩ (.int .u64 (dsn : Int)) := ⟨_, rfl⟩
        rw [← hW] at D7 ⊢
        clear hW D6
        refine held_free 18 (.pointer (some ⟨o, 7, none⟩)) rfl (by kernel_rfl) (by kernel_rfl) (by kernel_rfl) (by kernel_rfl) D7.arg (fun _ _ => by kernel_rfl) ?_
        have D8 : Br w (W7.setCell ⟨o, 7, none⟩ (.int .u32 (ssn : Int))) a z o (⟨fin, true, la, ack, true, ld, dsn, ssn, len, false, sum⟩ : Ds) (⟨fin, true, la, ack, true, ld, dsn, ssn, 0, false, 0⟩ : Ds) := D7.turn 7 _ rfl
        refine held_skip 19 rfl (by kernel_rfl) (by kernel_rfl) (ex_store_cell 23 (.tmp 34) (.tmp 26) (by kernel_rfl) ⟨o, 7, none⟩ (.int .u32 (ssn : Int)) (by kernel_rfl) (by kernel_rfl) (store_blk D7.out (by show 7 < 11; omega) _ _ (by kernel_rfl) rfl rfl)) D8.arg ?_
        obtain ⟨W8, hW⟩ : ∃ W', W' = W7.setCell ⟨o, 7, none⟩ (.int .u32 (ssn : Int)) := ⟨_, rfl⟩
        rw [← hW] at D8 ⊢
        clear hW D7
        refine held_free 20 (.pointer (some ⟨o, 8, none⟩)) rfl (by kernel_rfl) (by kernel_rfl) (by kernel_rfl) (by kernel_rfl) D8.arg (fun _ _ => by kernel_rfl) ?_
        have D9 : Br w (W8.setCell ⟨o, 8, none⟩ (.int .i64 len)) a z o (⟨fin, true, la, ack, true, ld, dsn, ssn, len, false, sum⟩ : Ds) (⟨fin, true, la, ack, true, ld, dsn, ssn, len, false, 0⟩ : Ds) := D8.turn 8 _ rfl
        refine held_skip 21 rfl (by kernel_rfl) (by kernel_rfl) (ex_store_cell 3 (.tmp 35) (.tmp 28) (by kernel_rfl) ⟨o, 8, none⟩ (.int .i64 len) (by kernel_rfl) (by kernel_rfl) (store_blk D8.out (by show 8 < 11; omega) _ _ (by kernel_rfl) rfl rfl)) D9.arg ?_
        obtain ⟨W9, hW⟩ : ∃ W', W' = W8.setCell ⟨o, 8, none⟩ (.int .i64 len) := ⟨_, rfl⟩
        rw [← hW] at D9 ⊢
        clear hW D8
        refine held_free 22 (.pointer (some ⟨o, 9, none⟩)) rfl (by kernel_rfl) (by kernel_rfl) (by kernel_rfl) (by kernel_rfl) D9.arg (fun _ _ => by kernel_rfl) ?_
        have D10 : Br w (W9.setCell ⟨o, 9, none⟩ (.bool false)) a z o (⟨fin, true, la, ack, true, ld, dsn, ssn, len, false, sum⟩ : Ds) (⟨fin, true, la, ack, true, ld, dsn, ssn, len, false, 0⟩ : Ds) := D9.turn 9 _ rfl
        refine held_skip 23 rfl (by kernel_rfl) (by kernel_rfl) (ex_store_cell 4 (.tmp 36) (.tmp 30) (by kernel_rfl) ⟨o, 9, none⟩ (.bool false) (by kernel_rfl) (by kernel_rfl) (store_blk D9.out (by show 9 < 11; omega) _ _ (by kernel_rfl) rfl rfl)) D10.arg ?_
        obtain ⟨W10, hW⟩ : ∃ W', W' = W9.setCell ⟨o, 9, none⟩ (.bool false) := ⟨_, rfl⟩
        rw [← hW] at D10 ⊢
        clear hW D9
        refine held_end (by kernel_rfl) ?_
        have HD10 := Lib.hid D10
        have HNZ := Lib.hid (show w.heap.size ≤ z from D10.ne.2.2.2)
        have o9 := D10.out.cell 9
        simp only [List.getElem?_toArray, List.getElem?_cons_zero, List.getElem?_cons_succ] at o9
        have HF := HD10
        clear D10
        have HB := Lib.hid (show dsv (⟨fin, true, la, ack, true, ld, dsn, ssn, len, false, 0⟩ : Ds) = dsv (Ds.bare (⟨fin, true, la, ack, true, ld, dsn, ssn, len, false, sum⟩ : Ds)) by simp [Ds.bare])
        have HSE := Lib.hid (setRow_heap _ z _ (dsv (⟨fin, true, la, ack, true, ld, dsn, ssn, len, false, 0⟩ : Ds)) _ _ HF.out.ret)
        have HBE := Lib.hid (below_setRow HF.out.rest HNZ.out (dsv (⟨fin, true, la, ack, true, ld, dsn, ssn, len, false, 0⟩ : Ds)))
        go_wp2_with (first | (refine wpList_load_row rfl 26 _ rfl o rfl 26 (dsv (⟨fin, true, la, ack, true, ld, dsn, ssn, len, false, 0⟩ : Ds)) (0, 0) _ ?_ Try.underlying26 rfl ds_size ?_; exact HF.out.out) | (refine wpList_store_row rfl 26 _ _ rfl z (dsv (⟨fin, true, la, ack, true, ld, dsn, ssn, len, false, 0⟩ : Ds)) rfl rfl 26 _ HF.out.ret ds_size rfl (ds_one _) ?_))
        rw [← HB.out]
        exact bodyPost_ret (results_cell_row rfl _ _ z 26 (dsv (⟨fin, true, la, ack, true, ld, dsn, ssn, len, false, 0⟩ : Ds)) (0, 0) _ rfl HSE.out Try.underlying26 rfl ds_size) rfl ⟨rfl, HBE.out⟩
      · obtain ⟨a, hae⟩ : ∃ a, a = w.heap.size := ⟨_, rfl⟩
        obtain ⟨z, hze⟩ : ∃ z, z = w.heap.size + 1 := ⟨_, rfl⟩
        obtain ⟨o, hoe⟩ : ∃ o, o = w.heap.size + 1 + 1 := ⟨_, rfl⟩
        obtain ⟨W0, hW0⟩ : ∃ W0, W0 = ((w.alloc (.cells (dsv (⟨fin, true, la, ack, true, ld, dsn, ssn, len, true, sum⟩ : Ds)) 26)).alloc (.cells (dsv .zero) 26)).alloc (.cells (dsv (⟨false, true, false, 0, true, false, 0, 0, 0, false, 0⟩ : Ds)) 26) := ⟨_, rfl⟩
        have D0 : Br w W0 a z o (⟨fin, true, la, ack, true, ld, dsn, ssn, len, true, sum⟩ : Ds) (⟨false, true, false, 0, true, false, 0, 0, 0, false, 0⟩ : Ds) := by
          have q1 := Blk.new (w.alloc (.cells (dsv (⟨fin, true, la, ack, true, ld, dsn, ssn, len, true, sum⟩ : Ds)) 26)) 26 (dsv .zero)
          have q2 := Blk.new ((w.alloc (.cells (dsv (⟨fin, true, la, ack, true, ld, dsn, ssn, len, true, sum⟩ : Ds)) 26)).alloc (.cells (dsv .zero) 26)) 26 (dsv (⟨false, true, false, 0, true, false, 0, 0, 0, false, 0⟩ : Ds))
          rw [show (w.alloc (.cells (dsv (⟨fin, true, la, ack, true, ld, dsn, ssn, len, true, sum⟩ : Ds)) 26)).heap.size = w.heap.size + 1 by simp] at q1
          rw [show ((w.alloc (.cells (dsv (⟨fin, true, la, ack, true, ld, dsn, ssn, len, true, sum⟩ : Ds)) 26)).alloc (.cells (dsv .zero) 26)).heap.size = w.heap.size + 1 + 1 by simp] at q2
          rw [hW0, hae, hze, hoe]
          exact ⟨((Blk.new _ _ _).alloc _).alloc _, q1.alloc _, q2, (((Below.refl _ w).alloc (Nat.le_refl _) _).alloc (by simp) _).alloc (by simp; omega) _, by omega, by omega, by omega, by omega⟩
        have HWE := Lib.hid hW0
        have HAE := Lib.hid hae
        have HZE := Lib.hid hze
        have HOE := Lib.hid hoe
        have HD := Lib.hid D0
        clear hW0 hae hze hoe D0
        go_enter Try.func48, Try.ntmps48
        go_wp2_with fail
        have hWE : W0 = ((w.alloc (.cells (dsv (⟨fin, true, la, ack, true, ld, dsn, ssn, len, true, sum⟩ : Ds)) 26)).alloc (.cells #[.bool false, .bool false, .bool false, .int .u64 0, .bool false, .bool false, .int .u64 0, .int .u32 0, .int .i64 0, .bool false, .int .u16 0] 26)).alloc (.cells #[.bool false, .bool true, .bool false, .int .u64 0, .bool true, .bool false, .int .u64 0, .int .u32 0, .int .i64 0, .bool false, .int .u16 0] 26) := HWE.out
        rw [← hWE, ← HOE.out, ← HZE.out, ← HAE.out]
        clear hWE HWE
        have D0 := HD.out
        refine held_start (fun W => Blk W a 26 (dsv (⟨fin, true, la, ack, true, ld, dsn, ssn, len, true, sum⟩ : Ds))) (by kernel_rfl) (n := 8) rfl ?_
        have D1 := D0.drew
        obtain ⟨W1, hW⟩ : ∃ W', W' = W0.drew := ⟨_, rfl⟩
        rw [← hW] at D1 ⊢
        clear hW D0
        refine held_free 0 (.pointer (some ⟨a, 2, none⟩)) rfl (by kernel_rfl) (by kernel_rfl) (by kernel_rfl) (by kernel_rfl) D1.arg (fun _ _ => by kernel_rfl) ?_
        refine held_free 1 (.bool la) rfl (by kernel_rfl) (by kernel_rfl) (by kernel_rfl) (by kernel_rfl) D1.arg (fun W q => ex_load 4 (.tmp 11) (by kernel_rfl) ⟨a, 2, none⟩ (by kernel_rfl) (by kernel_rfl) (q.cell 2)) ?_
        refine held_free 2 (.pointer (some ⟨a, 3, none⟩)) rfl (by kernel_rfl) (by kernel_rfl) (by kernel_rfl) (by kernel_rfl) D1.arg (fun _ _ => by kernel_rfl) ?_
        refine held_free 3 (.int .u64 (ack : Int)) rfl (by kernel_rfl) (by kernel_rfl) (by kernel_rfl) (by kernel_rfl) D1.arg (fun W q => ex_load 22 (.tmp 13) (by kernel_rfl) ⟨a, 3, none⟩ (by kernel_rfl) (by kernel_rfl) (q.cell 3)) ?_
        refine held_free 4 (.pointer (some ⟨o, 2, none⟩)) rfl (by kernel_rfl) (by kernel_rfl) (by kernel_rfl) (by kernel_rfl) D1.arg (fun _ _ => by kernel_rfl) ?_
        have D2 : Br w (W1.setCell ⟨o, 2, none⟩ (.bool la)) a z o (⟨fin, true, la, ack, true, ld, dsn, ssn, len, true, sum⟩ : Ds) (⟨false, true, la, 0, true, false, 0, 0, 0, false, 0⟩ : Ds) := D1.turn 2 _ rfl
        refine held_skip 5 rfl (by kernel_rfl) (by kernel_rfl) (ex_store_cell 4 (.tmp 15) (.tmp 12) (by kernel_rfl) ⟨o, 2, none⟩ (.bool la) (by kernel_rfl) (by kernel_rfl) (store_blk D1.out (by show 2 < 11; omega) _ _ (by kernel_rfl) rfl rfl)) D2.arg ?_
        obtain ⟨W2, hW⟩ : ∃ W', W' = W1.setCell ⟨o, 2, none⟩ (.bool la) := ⟨_, rfl⟩
        rw [← hW] at D2 ⊢
        clear hW D1
        refine held_free 6 (.pointer (some ⟨o, 3, none⟩)) rfl (by kernel_rfl) (by kernel_rfl) (by kernel_rfl) (by kernel_rfl) D2.arg (fun _ _ => by kernel_rfl) ?_
        have D3 : Br w (W2.setCell ⟨o, 3, none⟩ (.int .u64 (ack : Int))) a z o (⟨fin, true, la, ack, true, ld, dsn, ssn, len, true, sum⟩ : Ds) (⟨false, true, la, ack, true, false, 0, 0, 0, false, 0⟩ : Ds) := D2.turn 3 _ rfl
        refine held_skip 7 rfl (by kernel_rfl) (by kernel_rfl) (ex_store_cell 22 (.tmp 16) (.tmp 14) (by kernel_rfl) ⟨o, 3, none⟩ (.int .u64 (ack : Int)) (by kernel_rfl) (by kernel_rfl) (store_blk D2.out (by show 3 < 11; omega) _ _ (by kernel_rfl) rfl rfl)) D3.arg ?_
        obtain ⟨W3, hW⟩ : ∃ W', W' = W2.setCell ⟨o, 3, none⟩ (.int .u64 (ack : Int)) := ⟨_, rfl⟩
        rw [← hW] at D3 ⊢
        clear hW D2
        refine held_end (by kernel_rfl) ?_
        have HD3 := Lib.hid D3
        have c1 := D3.arg.cell 4
        simp only [List.getElem?_toArray, List.getElem?_cons_zero, List.getElem?_cons_succ] at c1
        clear D3
        go_wp2_with fail
        clear c1
        have D3 := HD3.out
        refine held_start (fun W => Blk W a 26 (dsv (⟨fin, true, la, ack, true, ld, dsn, ssn, len, true, sum⟩ : Ds))) (by kernel_rfl) (n := 24) rfl ?_
        have D4 := D3.drew
        obtain ⟨W4, hW⟩ : ∃ W', W' = W3.drew := ⟨_, rfl⟩
        rw [← hW] at D4 ⊢
        clear hW D3
        refine held_free 0 (.pointer (some ⟨a, 0, none⟩)) rfl (by kernel_rfl) (by kernel_rfl) (by kernel_rfl) (by kernel_rfl) D4.arg (fun _ _ => by kernel_rfl) ?_
        refine held_free 1 (.bool fin) rfl (by kernel_rfl) (by kernel_rfl) (by kernel_rfl) (by kernel_rfl) D4.arg (fun W q => ex_load 4 (.tmp 19) (by kernel_rfl) ⟨a, 0, none⟩ (by kernel_rfl) (by kernel_rfl) (q.cell 0)) ?_
        refine held_free 2 (.pointer (some ⟨a, 5, none⟩)) rfl (by kernel_rfl) (by kernel_rfl) (by kernel_rfl) (by kernel_rfl) D4.arg (fun _ _ => by kernel_rfl) ?_
        refine held_free 3 (.bool ld) rfl (by kernel_rfl) (by kernel_rfl) (by kernel_rfl) (by kernel_rfl) D4.arg (fun W q => ex_load 4 (.tmp 21) (by kernel_rfl) ⟨a, 5, none⟩ (by kernel_rfl) (by kernel_rfl) (q.cell 5)) ?_
        refine held_free 4 (.pointer (some ⟨a, 6, none⟩)) rfl (by kernel_rfl) (by kernel_rfl) (by kernel_rfl) (by kernel_rfl) D4.arg (fun _ _ => by kernel_rfl) ?_
        refine held_free 5 (.int .u64 (dsn : Int)) rfl (by kernel_rfl) (by kernel_rfl) (by kernel_rfl) (by kernel_rfl) D4.arg (fun W q => ex_load 22 (.tmp 23) (by kernel_rfl) ⟨a, 6, none⟩ (by kernel_rfl) (by kernel_rfl) (q.cell 6)) ?_
        refine held_free 6 (.pointer (some ⟨a, 7, none⟩)) rfl (by kernel_rfl) (by kernel_rfl) (by kernel_rfl) (by kernel_rfl) D4.arg (fun _ _ => by kernel_rfl) ?_
        refine held_free 7 (.int .u32 (ssn : Int)) rfl (by kernel_rfl) (by kernel_rfl) (by kernel_rfl) (by kernel_rfl) D4.arg (fun W q => ex_load 23 (.tmp 25) (by kernel_rfl) ⟨a, 7, none⟩ (by kernel_rfl) (by kernel_rfl) (q.cell 7)) ?_
        refine held_free 8 (.pointer (some ⟨a, 8, none⟩)) rfl (by kernel_rfl) (by kernel_rfl) (by kernel_rfl) (by kernel_rfl) D4.arg (fun _ _ => by kernel_rfl) ?_
        refine held_free 9 (.int .i64 len) rfl (by kernel_rfl) (by kernel_rfl) (by kernel_rfl) (by kernel_rfl) D4.arg (fun W q => ex_load 3 (.tmp 27) (by kernel_rfl) ⟨a, 8, none⟩ (by kernel_rfl) (by kernel_rfl) (q.cell 8)) ?_
        refine held_free 10 (.pointer (some ⟨a, 9, none⟩)) rfl (by kernel_rfl) (by kernel_rfl) (by kernel_rfl) (by kernel_rfl) D4.arg (fun _ _ => by kernel_rfl) ?_
        refine held_free 11 (.bool true) rfl (by kernel_rfl) (by kernel_rfl) (by kernel_rfl) (by kernel_rfl) D4.arg (fun W q => ex_load 4 (.tmp 29) (by kernel_rfl) ⟨a, 9, none⟩ (by kernel_rfl) (by kernel_rfl) (q.cell 9)) ?_
        refine held_free 12 (.pointer (some ⟨o, 0, none⟩)) rfl (by kernel_rfl) (by kernel_rfl) (by kernel_rfl) (by kernel_rfl) D4.arg (fun _ _ => by kernel_rfl) ?_
        have D5 : Br w (W4.setCell ⟨o, 0, none⟩ (.bool fin)) a z o (⟨fin, true, la, ack, true, ld, dsn, ssn, len, true, sum⟩ : Ds) (⟨fin, true, la, ack, true, false, 0, 0, 0, false, 0⟩ : Ds) := D4.turn 0 _ rfl
        refine held_skip 13 rfl (by kernel_rfl) (by kernel_rfl) (ex_store_cell 4 (.tmp 31) (.tmp 20) (by kernel_rfl) ⟨o, 0, none⟩ (.bool fin) (by kernel_rfl) (by kernel_rfl) (store_blk D4.out (by show 0 < 11; omega) _ _ (by kernel_rfl) rfl rfl)) D5.arg ?_
        obtain ⟨W5, hW⟩ : ∃ W', W' = W4.setCell ⟨o, 0, none⟩ (.bool fin) := ⟨_, rfl⟩
        rw [← hW] at D5 ⊢
        clear hW D4
        refine held_free 14 (.pointer (some ⟨o, 5, none⟩)) rfl (by kernel_rfl) (by kernel_rfl) (by kernel_rfl) (by kernel_rfl) D5.arg (fun _ _ => by kernel_rfl) ?_
        have D6 : Br w (W5.setCell ⟨o, 5, none⟩ (.bool ld)) a z o (⟨fin, true, la, ack, true, ld, dsn, ssn, len, true, sum⟩ : Ds) (⟨fin, true, la, ack, true, ld, 0, 0, 0, false, 0⟩ : Ds) := D5.turn 5 _ rfl
        refine held_skip 15 rfl (by kernel_rfl) (by kernel_rfl) (ex_store_cell 4 (.tmp 32) (.tmp 22) (by kernel_rfl) ⟨o, 5, none⟩ (.bool ld) (by kernel_rfl) (by kernel_rfl) (store_blk D5.out (by show 5 < 11; omega) _ _ (by kernel_rfl) rfl rfl)) D6.arg ?_
        obtain ⟨W6, hW⟩ : ∃ W', W' = W5.setCell ⟨o, 5, none⟩ (.bool ld) := ⟨_, rfl⟩
        rw [← hW] at D6 ⊢
        clear hW D5
        refine held_free 16 (.pointer (some ⟨o, 6, none⟩)) rfl (by kernel_rfl) (by kernel_rfl) (by kernel_rfl) (by kernel_rfl) D6.arg (fun _ _ => by kernel_rfl) ?_
        have D7 : Br w (W6.setCell ⟨o, 6, none⟩ (.int .u64 (dsn : Int))) a z o (⟨fin, true, la, ack, true, ld, dsn, ssn, len, true, sum⟩ : Ds) (⟨fin, true, la, ack, true, ld, dsn, 0, 0, false, 0⟩ : Ds) := D6.turn 6 _ rfl
        refine held_skip 17 rfl (by kernel_rfl) (by kernel_rfl) (ex_store_cell 22 (.tmp 33) (.tmp 24) (by kernel_rfl) ⟨o, 6, none⟩ (.int .u64 (dsn : Int)) (by kernel_rfl) (by kernel_rfl) (store_blk D6.out (by show 6 < 11; omega) _ _ (by kernel_rfl) rfl rfl)) D7.arg ?_
        obtain ⟨W7, hW⟩ : ∃ W', W' = W6.setCell ⟨o, 6, none⟩ (.int .u64 (dsn : Int)) := ⟨_, rfl⟩
        rw [← hW] at D7 ⊢
        clear hW D6
        refine held_free 18 (.pointer (some ⟨o, 7, none⟩)) rfl (by kernel_rfl) (by kernel_rfl) (by kernel_rfl) (by kernel_rfl) D7.arg (fun _ _ => by kernel_rfl) ?_
        have D8 : Br w (W7.setCell ⟨o, 7, none⟩ (.int .u32 (ssn : Int))) a z o (⟨fin, true, la, ack, true, ld, dsn, ssn, len, true, sum⟩ : Ds) (⟨fin, true, la, ack, true, ld, dsn, ssn, 0, false, 0⟩ : Ds) := D7.turn 7 _ rfl
        refine held_skip 19 rfl (by kernel_rfl) (by kernel_rfl) (ex_store_cell 23 (.tmp 34) (.tmp 26) (by kernel_rfl) ⟨o, 7, none⟩ (.int .u32 (ssn : Int)) (by kernel_rfl) (by kernel_rfl) (store_blk D7.out (by show 7 < 11; omega) _ _ (by kernel_rfl) rfl rfl)) D8.arg ?_
        obtain ⟨W8, hW⟩ : ∃ W', W' = W7.setCell ⟨o, 7, none⟩ (.int .u32 (ssn : Int)) := ⟨_, rfl⟩
        rw [← hW] at D8 ⊢
        clear hW D7
        refine held_free 20 (.pointer (some ⟨o, 8, none⟩)) rfl (by kernel_rfl) (by kernel_rfl) (by kernel_rfl) (by kernel_rfl) D8.arg (fun _ _ => by kernel_rfl) ?_
        have D9 : Br w (W8.setCell ⟨o, 8, none⟩ (.int .i64 len)) a z o (⟨fin, true, la, ack, true, ld, dsn, ssn, len, true, sum⟩ : Ds) (⟨fin, true, la, ack, true, ld, dsn, ssn, len, false, 0⟩ : Ds) := D8.turn 8 _ rfl
        refine held_skip 21 rfl (by kernel_rfl) (by kernel_rfl) (ex_store_cell 3 (.tmp 35) (.tmp 28) (by kernel_rfl) ⟨o, 8, none⟩ (.int .i64 len) (by kernel_rfl) (by kernel_rfl) (store_blk D8.out (by show 8 < 11; omega) _ _ (by kernel_rfl) rfl rfl)) D9.arg ?_
        obtain ⟨W9, hW⟩ : ∃ W', W' = W8.setCell ⟨o, 8, none⟩ (.int .i64 len) := ⟨_, rfl⟩
        rw [← hW] at D9 ⊢
        clear hW D8
        refine held_free 22 (.pointer (some ⟨o, 9, none⟩)) rfl (by kernel_rfl) (by kernel_rfl) (by kernel_rfl) (by kernel_rfl) D9.arg (fun _ _ => by kernel_rfl) ?_
        have D10 : Br w (W9.setCell ⟨o, 9, none⟩ (.bool true)) a z o (⟨fin, true, la, ack, true, ld, dsn, ssn, len, true, sum⟩ : Ds) (⟨fin, true, la, ack, true, ld, dsn, ssn, len, true, 0⟩ : Ds) := D9.turn 9 _ rfl
        refine held_skip 23 rfl (by kernel_rfl) (by kernel_rfl) (ex_store_cell 4 (.tmp 36) (.tmp 30) (by kernel_rfl) ⟨o, 9, none⟩ (.bool true) (by kernel_rfl) (by kernel_rfl) (store_blk D9.out (by show 9 < 11; omega) _ _ (by kernel_rfl) rfl rfl)) D10.arg ?_
        obtain ⟨W10, hW⟩ : ∃ W', W' = W9.setCell ⟨o, 9, none⟩ (.bool true) := ⟨_, rfl⟩
        rw [← hW] at D10 ⊢
        clear hW D9
        refine held_end (by kernel_rfl) ?_
        have HD10 := Lib.hid D10
        have HNZ := Lib.hid (show w.heap.size ≤ z from D10.ne.2.2.2)
        have o9 := D10.out.cell 9
        have c10 := D10.arg.cell 10
        have o10 := D10.out.cell 10
        have z10 := D10.out.frozen 10
        simp only [List.getElem?_toArray, List.getElem?_cons_zero, List.getElem?_cons_succ] at o9 c10 o10
        obtain ⟨Wf, hWf⟩ : ∃ W', W' = W10.setCell ⟨o, 10, none⟩ (.int .u16 (sum : Int)) := ⟨_, rfl⟩
        have HF := Lib.hid (show Br w Wf a z o (⟨fin, true, la, ack, true, ld, dsn, ssn, len, true, sum⟩ : Ds) (⟨fin, true, la, ack, true, ld, dsn, ssn, len, true, sum⟩ : Ds) by rw [hWf]; exact D10.turn 10 _ rfl)
        have HWF := Lib.hid hWf
        clear hWf D10
        have HB := Lib.hid (show dsv (⟨fin, true, la, ack, true, ld, dsn, ssn, len, true, sum⟩ : Ds) = dsv (Ds.bare (⟨fin, true, la, ack, true, ld, dsn, ssn, len, true, sum⟩ : Ds)) by simp [Ds.bare])
        have HSE := Lib.hid (setRow_heap _ z _ (dsv (⟨fin, true, la, ack, true, ld, dsn, ssn, len, true, sum⟩ : Ds)) _ _ HF.out.ret)
        have HBE := Lib.hid (below_setRow HF.out.rest HNZ.out (dsv (⟨fin, true, la, ack, true, ld, dsn, ssn, len, true, sum⟩ : Ds)))
        go_upto_region 8 with fail
        rw [← HWF.out]
        clear HWF c10 o9 o10 z10
        go_wp2_with (first | (refine wpList_load_row rfl 26 _ rfl o rfl 26 (dsv (⟨fin, true, la, ack, true, ld, dsn, ssn, len, true, sum⟩ : Ds)) (0, 0) _ ?_ Try.underlying26 rfl ds_size ?_; exact HF.out.out) | (refine wpList_store_row rfl 26 _ _ rfl z (dsv (⟨fin, true, la, ack, true, ld, dsn, ssn, len, true, sum⟩ : Ds)) rfl rfl 26 _ HF.out.ret ds_size rfl (ds_one _) ?_))
        rw [← HB.out]
        exact bodyPost_ret (results_cell_row rfl _ _ z 26 (dsv (⟨fin, true, la, ack, true, ld, dsn, ssn, len, true, sum⟩ : Ds)) (0, 0) _ rfl HSE.out Try.underlying26 rfl ds_size) rfl ⟨rfl, HBE.out⟩
end Go.Proofs.Ytdhkjhkgjfcolaa
