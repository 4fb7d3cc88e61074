/-
  What a block makes of eight words, by the document's own text (plaitref06.take), by its walk.
-/
import Derived.Test.YtcbakfnpbhgjoaaDoorShaRefW
import Derived.Test.YtcbakfnpbhgjoaaDoorWalkOps
namespace Go.Proofs.YtcbakfnpbhgjoaaDoor
open Go.ChangeShapes Go.WideShapes Go.ChangeAt Go.RowKit
set_option linter.unusedVariables false

/-- Eight words, as cells of 64 bits. -/
abbrev w64s (s : Ws) : Array Value := #[.int .u64 (s.a : Int), .int .u64 (s.b : Int), .int .u64 (s.c : Int), .int .u64 (s.d : Int), .int .u64 (s.e : Int), .int .u64 (s.f : Int), .int .u64 (s.g : Int), .int .u64 (s.h : Int)]
theorem w64s_size (s : Ws) : (w64s s).size = 8 := by simp
theorem w64s_one (s : Ws) : (w64s s).all (·.oneCell') = true := by simp [Value.oneCell']
theorem k64_zero (w : World) : (zeroValue 107).run Tryd.prog w = .ok (.agg (u64s (List.replicate 64 0))) w := by kernel_rfl
theorem k64_size : (Tryd.prog.info? 107).map (·.size) = some 64 := by kernel_rfl
theorem k64_under : Tryd.prog.underlying 107 = some (.array (Tryd.prog.arrayLen 107) (Tryd.prog.elem 107)) := by kernel_rfl
theorem k8_size : (Tryd.prog.info? 81).map (·.size) = some 8 := by kernel_rfl
theorem k8_under : Tryd.prog.underlying 81 = some (.array (Tryd.prog.arrayLen 81) (Tryd.prog.elem 81)) := by kernel_rfl
theorem u64s_size (l : List Nat) : (u64s l).size = l.length := by simp [u64s]
theorem u64s_one (l : List Nat) : (u64s l).all (·.oneCell') = true := by
  rw [Array.all_eq_true_iff_forall_mem]
  intro v hv
  simp only [u64s, List.mem_toArray, List.mem_map] at hv
  obtain ⟨n, _, rfl⟩ := hv
  rfl
set_option maxRecDepth 100000 in
theorem rounds_ref (w : World) : Calls Tryd.prog 78 #[] w fun e w' => e = .returned (.agg (u64s kws)) ∧ Below w.heap.size w w' := by
  obtain ⟨Z, hZ⟩ : ∃ Z, Z = u64s (List.replicate 64 0) := ⟨_, rfl⟩
  obtain ⟨A, hA⟩ : ∃ A, A = u64s kws := ⟨_, rfl⟩
  have hz := k64_zero
  rw [← hZ] at hz
  have HA := Lib.hid hA
  have HAZ := Lib.hid (show (Tryd.prog.info? 107).map (·.size) = some A.size by rw [hA, u64s_size]; exact k64_size)
  have HAO := Lib.hid (show Z.size = A.size by rw [hZ, hA, u64s_size, u64s_size]; rfl)
  have HA1 := Lib.hid (show A.all (·.oneCell') = true by rw [hA]; exact u64s_one _)
  have HR := Lib.hid (Blk.new w 107 Z)
  have HRW := Lib.hid (show Blk ((w.alloc (.cells Z 107)).setRow w.heap.size A) w.heap.size 107 A from setRow_heap _ _ _ _ _ _ (Blk.new w _ _))
  have HBW := Lib.hid (below_setRow ((Below.refl w.heap.size w).alloc (Nat.le_refl _) (.cells Z 107)) (Nat.le_refl _) A)
  rw [← hA]
  clear hA hZ
  go_enter Tryd.func78, Tryd.ntmps78
  go_wp2_with (first
    | (refine wpList_store_row rfl 107 (.tmp 0) (.tmp 1) rfl w.heap.size A rfl rfl 107 Z ?_ HAZ.out HAO.out HA1.out ?_; exact HR.out)
    | (refine wpList_yields rfl (.build 107 _) rfl (.agg A) ?_ ?_; rw [HA.out]; kernel_rfl))
  refine bodyPost_ret (results_cell_row rfl _ _ w.heap.size 107 A (0, 0) _ rfl HRW.out k64_under rfl HAZ.out) rfl ⟨rfl, HBW.out⟩
/-- The last sums: k of them done. -/
def mixl (R s : Ws) (k : Nat) : List Nat := (R.plus MW s).list.take k ++ R.list.drop k
theorem ws_le {s : Ws} (h : s.Ok) (k : Nat) (hk : k < s.list.length) : s.list[k] ≤ MW := by
  have hk8 : k < 8 := hk
  match k, hk8 with
  | 0, _ => exact h.a
  | 1, _ => exact h.b
  | 2, _ => exact h.c
  | 3, _ => exact h.d
  | 4, _ => exact h.e
  | 5, _ => exact h.f
  | 6, _ => exact h.g
  | 7, _ => exact h.h
theorem mixl_set (R s : Ws) (k : Nat) (hk : k < 8) : (u64s (mixl R s k)).setIfInBounds k (.int .u64 (((R.list[k]'hk + s.list[k]'hk) &&& MW : Nat) : Int)) = u64s (mixl R s (k + 1)) := by
  match k, hk with
  | 0, _ => rfl
  | 1, _ => rfl
  | 2, _ => rfl
  | 3, _ => rfl
  | 4, _ => rfl
  | 5, _ => rfl
  | 6, _ => rfl
  | 7, _ => rfl
theorem store_u64 (W : World) (g k x z : Nat) (hc : W.cell? ⟨g, k, none⟩ = some (.int .u64 (x : Int))) (hf : W.frozen? ⟨g, k, none⟩ = false) : (storeVar 22 ⟨g, k, none⟩ (.int .u64 (z : Int))).run Tryd.prog W = .ok () (W.setCell ⟨g, k, none⟩ (.int .u64 (z : Int))) := by
  have hi : (Tryd.prog.info? 22).map (·.size) = some 1 := by kernel_rfl
  have hst : (store ((⟨g, k, none⟩ : Addr).add 0) (.int .u64 (z : Int))).run Tryd.prog W = .ok () (W.setCell ⟨g, k, none⟩ (.int .u64 (z : Int))) := by
    rw [show (⟨g, k, none⟩ : Addr).add 0 = ⟨g, k, none⟩ from rfl, run_store Tryd.prog W _ _ _ rfl, hc]
    simp [hf]
  cases hq : Tryd.prog.info? 22 with
  | none => rw [hq] at hi; cases hi
  | some i =>
    have hs : i.size = 1 := by simpa [hq] using hi
    simp [storeVar, sizeOf, typeInfo, hq, Value.cells, hs, storeCells, hst]
/-- So far: t rounds. -/
def TkAt (w : World) (s : Ws) (bl : List UInt8) (gl gk gw : Nat) (KA SA curw : Array Value) (t : Value) (W : World) : Prop :=
  ∃ k : Nat, k ≤ 64 ∧ t = .int .i64 (k : Int) ∧ Blk W gl 81 (w64s (rds MW 1 (nums bl) s k)) ∧ Blk W gk 107 KA ∧ W.heap[gw]? = some (.cells curw 22 (0, 0)) ∧ Blk W w.heap.size 81 SA ∧ Blk W (w.heap.size + 1) 81 (w64s ⟨0, 0, 0, 0, 0, 0, 0, 0⟩) ∧ Below w.heap.size w W
theorem kwd_le (t : Nat) : kws.getD t 0 ≤ MW := by
  have all : ∀ x ∈ kws, x ≤ MW := by decide
  rw [List.getD_eq_getElem?_getD]
  cases h : kws[t]? with
  | none => exact Nat.zero_le _
  | some x => exact all x (List.mem_of_getElem? h)
theorem k8_at (g k : Nat) (hk : k < 8) (w : World) : (Instr.indexAt 81 (.pointer (some ⟨g, 0, none⟩)) (.int .i64 (k : Int))).run Tryd.prog w = .ok (.pointer (some ⟨g, k, none⟩)) w := by
  rw [run_indexAt_array w _ _ _ _ (by kernel_rfl)]
  have e1 : Tryd.prog.arrayLen 81 = 8 := by kernel_rfl
  have e2 : Tryd.prog.elem 81 = 22 := by kernel_rfl
  have e4 : (sizeOf 22).run Tryd.prog w = .ok 1 w := by kernel_rfl
  rw [e1, e2, e4, if_pos ⟨by omega, by omega⟩]
  have e3 : (⟨g, 0, none⟩ : Addr).add k = ⟨g, k, none⟩ := by unfold Addr.add; split <;> simp_all
  simp [e3]
theorem k64_at (g k : Nat) (hk : k < 64) (w : World) : (Instr.indexAt 107 (.pointer (some ⟨g, 0, none⟩)) (.int .i64 (k : Int))).run Tryd.prog w = .ok (.pointer (some ⟨g, k, none⟩)) w := by
  rw [run_indexAt_array w _ _ _ _ (by kernel_rfl)]
  have e1 : Tryd.prog.arrayLen 107 = 64 := by kernel_rfl
  have e2 : Tryd.prog.elem 107 = 22 := by kernel_rfl
  have e4 : (sizeOf 22).run Tryd.prog w = .ok 1 w := by kernel_rfl
  rw [e1, e2, e4, if_pos ⟨by omega, by omega⟩]
  have e3 : (⟨g, 0, none⟩ : Addr).add k = ⟨g, k, none⟩ := by unfold Addr.add; split <;> simp_all
  simp [e3]
theorem bq {N : Nat} {a b c : World} (h : Below N a b) (q : ∃ n, c = b.drewN n) : Below N a c := by
  obtain ⟨n, rfl⟩ := q
  exact below_drewN h n
theorem blk_dq {a b : World} {g : Nat} {t : TypeId} {cs : Array Value} (h : Blk a g t cs) (q : ∃ n, b = a.drewN n) : Blk b g t cs := by
  obtain ⟨n, rfl⟩ := q
  exact h.drewN n
theorem bal {a b : World} (h : Below a.heap.size a b) (o : Obj) : Below a.heap.size a (b.alloc o) := h.alloc h.size o
set_option maxRecDepth 100000 in
set_option maxHeartbeats 4000000 in
theorem take_ref (s : Ws) (hs : s.Ok) (g o cap : Nat) (bl : List UInt8) (hbl : bl.length = 64) (w : World) (h : Bat w g o bl) :
    Calls Tryd.prog 59 #[.agg (w64s s), .slice (some ⟨g, o, none⟩) 64 cap] w fun e w' => e = .returned (.agg (w64s (cmp s bl))) ∧ Below w.heap.size w w' := by
  have HB := Lib.hid h
  have hg := h.1
  clear h
  go_enter Tryd.func59, Tryd.ntmps59
  go_wp2_with fail
  obtain ⟨W1, hW1⟩ : ∃ W1, W1 = (w.alloc (Obj.cells (w64s s) 81)).alloc (Obj.cells (w64s ⟨0, 0, 0, 0, 0, 0, 0, 0⟩) 81) := ⟨_, rfl⟩
  have b1 : Below w.heap.size w W1 := by rw [hW1]; exact ((Below.refl _ w).alloc (Nat.le_refl _) _).alloc (by rw [World.size_alloc]; omega) _
  have s1 : Blk W1 w.heap.size 81 (w64s s) := by rw [hW1]; exact (Blk.new w _ _).alloc _
  have r1 : Blk W1 (w.heap.size + 1) 81 (w64s ⟨0, 0, 0, 0, 0, 0, 0, 0⟩) := by
    rw [hW1]; have := Blk.new (w.alloc (Obj.cells (w64s s) 81)) 81 (w64s ⟨0, 0, 0, 0, 0, 0, 0, 0⟩); rwa [World.size_alloc] at this
  change Calls _ _ _ ((w.alloc (Obj.cells (w64s s) 81)).alloc (Obj.cells (w64s ⟨0, 0, 0, 0, 0, 0, 0, 0⟩) 81)) _
  rw [← hW1]
  refine (words_ref g o cap bl hbl W1 (HB.out.below b1 hg)).mono ?_
  rintro e W2 ⟨v, rfl, own2, b2⟩
  obtain ⟨gw, capw, curw, rfl, hbw, hgw, _, _, hcw⟩ := own_form own2 (by decide) (wlist_length bl 64)
  have HS2 := Lib.hid (s1.below b2 s1.lt)
  have HR2 := Lib.hid (r1.below b2 r1.lt)
  have HB2 := Lib.hid (b1.trans (b2.mono b1.size))
  have HGW := Lib.hid hgw
  have HCW := Lib.hid hcw
  clear hW1 b1 s1 r1 b2 own2 hgw hcw HB
  go_wp2_with fail
  refine (rounds_ref W2).mono ?_
  rintro e W3 ⟨rfl, b3⟩
  obtain ⟨KA, hKA⟩ : ∃ KA, KA = u64s kws := ⟨_, rfl⟩
  obtain ⟨Z, hZ⟩ : ∃ Z, Z = u64s (List.replicate 64 0) := ⟨_, rfl⟩
  obtain ⟨SA, hSA⟩ : ∃ SA, SA = w64s s := ⟨_, rfl⟩
  obtain ⟨Z8, hZ8⟩ : ∃ Z8, Z8 = w64s ⟨0, 0, 0, 0, 0, 0, 0, 0⟩ := ⟨_, rfl⟩
  have hz64 := k64_zero
  rw [← hZ] at hz64
  have hz8 : ∀ w, (zeroValue 81).run Tryd.prog w = .ok (.agg Z8) w := fun w => by rw [hZ8]; kernel_rfl
  have HKZ := Lib.hid (show (Tryd.prog.info? 107).map (·.size) = some KA.size by rw [hKA, u64s_size]; exact k64_size)
  have HKO := Lib.hid (show Z.size = KA.size by rw [hZ, hKA, u64s_size, u64s_size]; rfl)
  have HK1 := Lib.hid (show KA.all (·.oneCell') = true by rw [hKA]; exact u64s_one _)
  have HSZ := Lib.hid (show (Tryd.prog.info? 81).map (·.size) = some SA.size by rw [hSA, w64s_size]; exact k8_size)
  have HSO := Lib.hid (show Z8.size = SA.size by rw [hZ8, hSA, w64s_size, w64s_size])
  have HS1 := Lib.hid (show SA.all (·.oneCell') = true by rw [hSA]; exact w64s_one s)
  have hs3 : w.heap.size < W3.heap.size := Nat.lt_of_lt_of_le HS2.out.lt b3.size
  have HS3 : Blk W3 w.heap.size 81 SA := by rw [hSA]; exact HS2.out.below b3 HS2.out.lt
  have HR3 := HR2.out.below b3 HR2.out.lt
  have HGW3 : W3.heap[gw]? = some (.cells curw 22 (0, 0)) := (b3.block gw (Array.getElem?_eq_some_iff.1 HGW.out).1).trans HGW.out
  have HB3 : Below w.heap.size w W3 := HB2.out.trans (b3.mono HB2.out.size)
  -- k
  obtain ⟨W4, hW4⟩ : ∃ W4, W4 = (W3.alloc (.cells Z 107)).setRow W3.heap.size KA := ⟨_, rfl⟩
  have b4 : Below W3.heap.size W3 W4 := by rw [hW4]; exact below_setRow ((Below.refl _ W3).alloc (Nat.le_refl _) _) (Nat.le_refl _) _
  have k4 : Blk W4 W3.heap.size 107 KA := by rw [hW4]; exact setRow_heap _ _ _ _ _ _ (Blk.new W3 _ _)
  have n4 : Blk (W3.alloc (.cells Z 107)) W3.heap.size 107 Z := Blk.new W3 _ _
  have s4 : Blk W4 w.heap.size 81 SA := HS3.below b4 HS3.lt
  have z4 : W4.heap.size = W3.heap.size + 1 := by rw [hW4]; simp
  -- l
  have e5 : W4.heap.size = W3.heap.size + 1 := z4
  obtain ⟨W5, hW5⟩ : ∃ W5, W5 = (W4.alloc (.cells Z8 81)).setRow (W3.heap.size + 1) SA := ⟨_, rfl⟩
  rw [← e5] at hW5
  have b5 : Below W4.heap.size W4 W5 := by rw [hW5]; exact below_setRow ((Below.refl _ W4).alloc (Nat.le_refl _) _) (Nat.le_refl _) _
  have l5 : Blk W5 W4.heap.size 81 SA := by rw [hW5]; exact setRow_heap _ _ _ _ _ _ (Blk.new W4 _ _)
  have n5 : Blk (W4.alloc (.cells Z8 81)) W4.heap.size 81 Z8 := Blk.new W4 _ _
  have s5 : Blk W5 w.heap.size 81 SA := s4.below b5 s4.lt
  have s5' : Blk (W4.alloc (.cells Z8 81)) w.heap.size 81 SA := s4.alloc _
  have k5 : Blk W5 W3.heap.size 107 KA := k4.below b5 k4.lt
  have b35 : Below W3.heap.size W3 W5 := b4.trans (b5.mono b4.size)
  have HR5 := Lib.hid (HR3.below b35 HR3.lt)
  have HGW5 := Lib.hid ((b35.block gw (Array.getElem?_eq_some_iff.1 HGW3).1).trans HGW3)
  have HB5 := Lib.hid (HB3.trans (b35.mono HB3.size))
  have HK5 := Lib.hid k5
  have HL5 := Lib.hid l5
  have HS5 := Lib.hid s5
  have HN4 := Lib.hid n4
  rw [e5] at hW5 n5
  rw [hW4] at hW5 n5 s5' s4
  have HN5 := Lib.hid n5
  have HS5' := Lib.hid s5'
  have HS4 := Lib.hid s4
  have HW5 := Lib.hid hW5
  rw [← hKA]
  have HKA := Lib.hid hKA
  have HSA := Lib.hid hSA
  obtain ⟨gk, hgk⟩ : ∃ gk, gk = W3.heap.size := ⟨_, rfl⟩
  obtain ⟨gl, hgl⟩ : ∃ gl, gl = W4.heap.size := ⟨_, rfl⟩
  have lkl : gk < gl := by omega
  have lsk : w.heap.size < gk := by omega
  have lrk : w.heap.size + 1 < gk := by rw [hgk]; exact HR3.lt
  have lwk : gw < gk := by rw [hgk]; exact (Array.getElem?_eq_some_iff.1 HGW3).1
  have hws : gw ≠ w.heap.size := by
    intro e
    have h1 := HGW3
    rw [e, show W3.heap[w.heap.size]? = _ from HS3] at h1
    simp at h1
  have HGW2 := HGW
  clear e5 hKA hZ hZ8 hSA hs3 HS3 HR3 HGW3 HB3 hW4 b4 k4 n4 s4 hW5 b5 l5 n5 s5 s5' k5 b35 b3 HS2 HR2 HB2 HGW
  go_wp2_with (first
    | (refine wpList_store_row rfl 107 (.tmp 6) (.tmp 14) rfl W3.heap.size KA rfl rfl 107 Z ?_ HKZ.out HKO.out HK1.out ?_; exact HN4.out)
    | (refine wpList_load_row rfl 81 (.tmp 2) rfl w.heap.size rfl 81 SA (0, 0) _ ?_ k8_under rfl HSZ.out ?_; first | exact HS4.out | exact HS5'.out)
    | (refine wpList_store_row rfl 81 (.tmp 7) (.tmp 15) rfl (W3.heap.size + 1) SA rfl rfl 81 Z8 ?_ HSZ.out HSO.out HS1.out ?_; exact HN5.out))
  rw [← HW5.out]
  have hgl' : W4.heap.size = W3.heap.size + 1 := z4
  rw [hgl'] at hgl
  rw [z4, ← hgl] at HL5
  rw [← hgl, ← hgk]
  rw [← hgk] at HK5
  clear hgl hgk HN4 HN5 HS5' HS4 HW5 hz64 hz8 HKZ HKO HK1 hgl' z4
  go_loopw [8] (fun t wr => TkAt w s bl gl gk gw KA SA curw t wr) (fun t _ => 64 - (intOf t).toNat)
  case atStart => exact ⟨0, by decide, rfl, by rw [HSA.out] at HL5; exact HL5.out, HK5.out, HGW5.out, HS5.out, HR5.out, HB5.out⟩
  case round =>
    obtain ⟨t, ht, rfl, hl, hk, hgw, hs', hr, hb⟩ := hrel
    have HL := Lib.hid hl
    have HK := Lib.hid hk
    have HGW := Lib.hid hgw
    have HS := Lib.hid hs'
    have HR := Lib.hid hr
    have HB := Lib.hid hb
    clear hl hk hgw hs' hr hb HL5 HK5 HGW5 HS5 HR5 HB5
    by_cases hlt : t < 64
    · go_wp2_with fail
      have hok := rds_ok hs 1 (nums bl) t
      have hstep : rds MW 1 (nums bl) s (t + 1) = (rds MW 1 (nums bl) s t).step MW ((kws.getD t 0 * 1 + wrd MW (nums bl) t) &&& MW) := rfl
      have hwl := wrd_le (nums_bys bl) t
      have hkl : kws.getD t 0 ≤ MW := kwd_le t
      have hkc : KA[t]? = some (.int .u64 ((kws.getD t 0 : Nat) : Int)) := by
        rw [HKA.out, u64s_get kws t (by show t < 64; exact hlt)]
        simp [show t < kws.length by show t < 64; exact hlt]
      have hwc : wr.cell? ⟨gw, t, none⟩ = some (.int .u64 ((wrd MW (nums bl) t : Nat) : Int)) := by
        have h1 := HCW.out t hlt
        have e : wr.heap[gw]? = W2.heap[gw]? := HGW.out.trans HGW2.out.symm
        rw [World.cell?_of_block (a := ⟨gw, t, none⟩) e, h1]
        simp [wlist]
      obtain ⟨R, hR⟩ : ∃ R, R = rds MW 1 (nums bl) s t := ⟨_, rfl⟩
      rw [← hR] at hok hstep HL
      obtain ⟨kt, ekt⟩ : ∃ n, n = kws.getD t 0 := ⟨_, rfl⟩
      obtain ⟨wt, ewt⟩ : ∃ n, n = wrd MW (nums bl) t := ⟨_, rfl⟩
      rw [← ekt] at hkl hkc hstep
      rw [← ewt] at hwl hwc hstep
      obtain ⟨la, lb, lc, ld, le, lf, lg, lh⟩ := R
      obtain ⟨oa, ob, oc, od, oe, of', og, oh⟩ := hok
      dsimp only at oa ob oc od oe of' og oh
      have HST := Lib.hid hstep
      clear hR ekt ewt hstep
      have HBL0 := Lib.hid HL.out.lt
      have IL0 := k8_at gl 0 (by decide)
      have IL1 := k8_at gl 1 (by decide)
      have IL2 := k8_at gl 2 (by decide)
      have IL3 := k8_at gl 3 (by decide)
      have IL4 := k8_at gl 4 (by decide)
      have IL5 := k8_at gl 5 (by decide)
      have IL6 := k8_at gl 6 (by decide)
      have IL7 := k8_at gl 7 (by decide)
      have IK := k64_at gk t hlt
      have IW := nats_at gw 64 capw t hlt
      have LL : ∀ W : World, Below wr.heap.size wr W → ∀ j, W.cell? ⟨gl, j, none⟩ = (w64s ⟨la, lb, lc, ld, le, lf, lg, lh⟩)[j]? := fun W b j => (HL.out.below b HL.out.lt).cell j
      have LL0 : ∀ W : World, Below wr.heap.size wr W → W.cell? ⟨gl, 0, none⟩ = some (.int .u64 (la : Int)) := fun W b => LL W b 0
      have LL1 : ∀ W : World, Below wr.heap.size wr W → W.cell? ⟨gl, 1, none⟩ = some (.int .u64 (lb : Int)) := fun W b => LL W b 1
      have LL2 : ∀ W : World, Below wr.heap.size wr W → W.cell? ⟨gl, 2, none⟩ = some (.int .u64 (lc : Int)) := fun W b => LL W b 2
      have LL3 : ∀ W : World, Below wr.heap.size wr W → W.cell? ⟨gl, 3, none⟩ = some (.int .u64 (ld : Int)) := fun W b => LL W b 3
      have LL4 : ∀ W : World, Below wr.heap.size wr W → W.cell? ⟨gl, 4, none⟩ = some (.int .u64 (le : Int)) := fun W b => LL W b 4
      have LL5 : ∀ W : World, Below wr.heap.size wr W → W.cell? ⟨gl, 5, none⟩ = some (.int .u64 (lf : Int)) := fun W b => LL W b 5
      have LL6 : ∀ W : World, Below wr.heap.size wr W → W.cell? ⟨gl, 6, none⟩ = some (.int .u64 (lg : Int)) := fun W b => LL W b 6
      have LL7 : ∀ W : World, Below wr.heap.size wr W → W.cell? ⟨gl, 7, none⟩ = some (.int .u64 (lh : Int)) := fun W b => LL W b 7
      have LK : ∀ W : World, Below wr.heap.size wr W → W.cell? ⟨gk, t, none⟩ = some (.int .u64 (kt : Int)) := fun W b => ((HK.out.below b HK.out.lt).cell t).trans hkc
      have LW : ∀ W : World, Below wr.heap.size wr W → W.cell? ⟨gw, t, none⟩ = some (.int .u64 (wt : Int)) := fun W b => (World.cell?_of_block (a := ⟨gw, t, none⟩) (b.block gw (Array.getElem?_eq_some_iff.1 HGW.out).1)).trans hwc
      clear LL
      have T6 := turned_any 6 le (by decide) (by decide) oe
      have T11 := turned_any 11 le (by decide) (by decide) oe
      have T25 := turned_any 25 le (by decide) (by decide) oe
      have T2 := turned_any 2 la (by decide) (by decide) oa
      have T13 := turned_any 13 la (by decide) (by decide) oa
      have T22 := turned_any 22 la (by decide) (by decide) oa
      have X1 := xor_ref (rot MW 6 le) (rot MW 11 le) (rot MW 25 le) (MW_le _) (MW_le _) (MW_le _)
      have X0 := xor_ref (rot MW 2 la) (rot MW 13 la) (rot MW 22 la) (MW_le _) (MW_le _) (MW_le _)
      have PK := pick_ref le lf lg oe of' og
      have MS := most_ref la lb lc oa ob oc
      rw [show rot MW 6 le ^^^ rot MW 11 le ^^^ rot MW 25 le = bg1 MW le from rfl] at X1
      rw [show rot MW 2 la ^^^ rot MW 13 la ^^^ rot MW 22 la = bg0 MW la from rfl] at X0
      have lB1 : bg1 MW le ≤ MW := xor3_le _ _ _ (MW_le _) (MW_le _) (MW_le _)
      have lB0 : bg0 MW la ≤ MW := xor3_le _ _ _ (MW_le _) (MW_le _) (MW_le _)
      have le32 : ∀ x, x < 2 ^ 32 → x ≤ MW := fun x h => by unfold MW; omega
      have lC : chs MW le lf lg ≤ MW := le32 _ (trio_lt 2 le lf lg oe of' og)
      have lM : mjs la lb lc ≤ MW := le32 _ (trio_lt 1 la lb lc oa ob oc)
      clear le32
      have hup : Ws.up MW ⟨la, lb, lc, ld, le, lf, lg, lh⟩ ((kt * 1 + wt) &&& MW) = sums [lh, bg1 MW le, chs MW le lf lg, kt, wt] := by
        unfold Ws.up sums
        rw [and_MW, and_MW]
        simp only [List.foldl_cons, List.foldl_nil]
        omega
      have hvp : Ws.vp MW ⟨la, lb, lc, ld, le, lf, lg, lh⟩ = sums [bg0 MW la, mjs la lb lc] := by
        unfold Ws.vp sums
        rw [and_MW]
        simp only [List.foldl_cons, List.foldl_nil]
        omega
      obtain ⟨r6, f1⟩ : ∃ n, n = rot MW 6 le := ⟨_, rfl⟩
      obtain ⟨r11, f2⟩ : ∃ n, n = rot MW 11 le := ⟨_, rfl⟩
      obtain ⟨r25, f3⟩ : ∃ n, n = rot MW 25 le := ⟨_, rfl⟩
      obtain ⟨r2, f4⟩ : ∃ n, n = rot MW 2 la := ⟨_, rfl⟩
      obtain ⟨r13, f5⟩ : ∃ n, n = rot MW 13 la := ⟨_, rfl⟩
      obtain ⟨r22, f6⟩ : ∃ n, n = rot MW 22 la := ⟨_, rfl⟩
      obtain ⟨bb1, f7⟩ : ∃ n, n = bg1 MW le := ⟨_, rfl⟩
      obtain ⟨bb0, f8⟩ : ∃ n, n = bg0 MW la := ⟨_, rfl⟩
      obtain ⟨cc, f9⟩ : ∃ n, n = chs MW le lf lg := ⟨_, rfl⟩
      obtain ⟨mm, f10⟩ : ∃ n, n = mjs la lb lc := ⟨_, rfl⟩
      rw [← f1] at T6 X1
      rw [← f2] at T11 X1
      rw [← f3] at T25 X1
      rw [← f4] at T2 X0
      rw [← f5] at T13 X0
      rw [← f6] at T22 X0
      rw [← f7] at X1 lB1 hup
      rw [← f8] at X0 lB0 hvp
      rw [← f9] at PK lC hup
      rw [← f10] at MS lM hvp
      clear f1 f2 f3 f4 f5 f6 f7 f8 f9 f10
      obtain ⟨X, eX⟩ : ∃ n, n = sums [lh, bb1, cc, kt, wt] := ⟨_, rfl⟩
      obtain ⟨Y, eY⟩ : ∃ n, n = sums [bb0, mm] := ⟨_, rfl⟩
      have lX : X ≤ MW := by rw [eX]; have := sums_lt [lh, bb1, cc, kt, wt]; unfold MW; omega
      have lY : Y ≤ MW := by rw [eY]; have := sums_lt [bb0, mm]; unfold MW; omega
      have A1 : ∀ w8 : World, Calls Tryd.prog 79 #[.slice (some ⟨w8.heap.size, 0, none⟩) 5 5] (w8.alloc (.cells (u64s [lh, bb1, cc, kt, wt]) 22)) fun e w' => e = .returned (.int .u64 (X : Int)) ∧ ∃ n, w' = (w8.alloc (.cells (u64s [lh, bb1, cc, kt, wt]) 22)).drewN n := fun w8 => by
        rw [eX]
        exact add_any [lh, bb1, cc, kt, wt] (fun q hq => by simp only [List.mem_cons, List.not_mem_nil, or_false] at hq; unfold MW at *; omega) (show 5 ≤ 16 by decide) _ 5 5 _ _ (Blk.new w8 _ _) rfl
      have A2 : ∀ w8 : World, Calls Tryd.prog 79 #[.slice (some ⟨w8.heap.size, 0, none⟩) 2 2] (w8.alloc (.cells (u64s [bb0, mm]) 22)) fun e w' => e = .returned (.int .u64 (Y : Int)) ∧ ∃ n, w' = (w8.alloc (.cells (u64s [bb0, mm]) 22)).drewN n := fun w8 => by
        rw [eY]
        exact add_any [bb0, mm] (fun q hq => by simp only [List.mem_cons, List.not_mem_nil, or_false] at hq; unfold MW at *; omega) (show 2 ≤ 16 by decide) _ 2 2 _ _ (Blk.new w8 _ _) rfl
      rw [← eX] at hup
      rw [← eY] at hvp
      have HUP := Lib.hid hup
      have HVP := Lib.hid hvp
      clear eX eY hup hvp
      have BS : Below wr.heap.size wr wr.drew := (Below.refl _ wr).drew
      refine held_start (fun W => Below wr.heap.size wr W) (by kernel_rfl) (n := 29) rfl ?_
      refine held_free 0 (.pointer (some ⟨gl, 7, none⟩)) rfl (by kernel_rfl) (by kernel_rfl) (by kernel_rfl) (by kernel_rfl) BS (fun W _ => by refine ex_index rfl ?_ ?_ (IL7 W) <;> kernel_rfl) ?_
      refine held_free 1 (.int .u64 (lh : Int)) rfl (by kernel_rfl) (by kernel_rfl) (by kernel_rfl) (by kernel_rfl) BS (fun W h => by refine ex_load 22 (.tmp 20) ?_ ⟨gl, 7, none⟩ ?_ ?_ (LL7 W h) <;> kernel_rfl) ?_
      refine held_free 2 (.pointer (some ⟨gl, 4, none⟩)) rfl (by kernel_rfl) (by kernel_rfl) (by kernel_rfl) (by kernel_rfl) BS (fun W _ => by refine ex_index rfl ?_ ?_ (IL4 W) <;> kernel_rfl) ?_
      refine held_free 3 (.int .u64 (le : Int)) rfl (by kernel_rfl) (by kernel_rfl) (by kernel_rfl) (by kernel_rfl) BS (fun W h => by refine ex_load 22 (.tmp 22) ?_ ⟨gl, 4, none⟩ ?_ ?_ (LL4 W h) <;> kernel_rfl) ?_
      refine held_free 5 (.pointer (some ⟨gl, 4, none⟩)) rfl (by kernel_rfl) (by kernel_rfl) (by kernel_rfl) (by kernel_rfl) BS (fun W _ => by refine ex_index rfl ?_ ?_ (IL4 W) <;> kernel_rfl) ?_
      refine held_free 6 (.int .u64 (le : Int)) rfl (by kernel_rfl) (by kernel_rfl) (by kernel_rfl) (by kernel_rfl) BS (fun W h => by refine ex_load 22 (.tmp 25) ?_ ⟨gl, 4, none⟩ ?_ ?_ (LL4 W h) <;> kernel_rfl) ?_
      refine held_free 8 (.pointer (some ⟨gl, 4, none⟩)) rfl (by kernel_rfl) (by kernel_rfl) (by kernel_rfl) (by kernel_rfl) BS (fun W _ => by refine ex_index rfl ?_ ?_ (IL4 W) <;> kernel_rfl) ?_
      refine held_free 9 (.int .u64 (le : Int)) rfl (by kernel_rfl) (by kernel_rfl) (by kernel_rfl) (by kernel_rfl) BS (fun W h => by refine ex_load 22 (.tmp 28) ?_ ⟨gl, 4, none⟩ ?_ ?_ (LL4 W h) <;> kernel_rfl) ?_
      refine held_free 12 (.pointer (some ⟨gl, 4, none⟩)) rfl (by kernel_rfl) (by kernel_rfl) (by kernel_rfl) (by kernel_rfl) BS (fun W _ => by refine ex_index rfl ?_ ?_ (IL4 W) <;> kernel_rfl) ?_
      refine held_free 13 (.int .u64 (le : Int)) rfl (by kernel_rfl) (by kernel_rfl) (by kernel_rfl) (by kernel_rfl) BS (fun W h => by refine ex_load 22 (.tmp 32) ?_ ⟨gl, 4, none⟩ ?_ ?_ (LL4 W h) <;> kernel_rfl) ?_
      refine held_free 14 (.pointer (some ⟨gl, 5, none⟩)) rfl (by kernel_rfl) (by kernel_rfl) (by kernel_rfl) (by kernel_rfl) BS (fun W _ => by refine ex_index rfl ?_ ?_ (IL5 W) <;> kernel_rfl) ?_
      refine held_free 15 (.int .u64 (lf : Int)) rfl (by kernel_rfl) (by kernel_rfl) (by kernel_rfl) (by kernel_rfl) BS (fun W h => by refine ex_load 22 (.tmp 34) ?_ ⟨gl, 5, none⟩ ?_ ?_ (LL5 W h) <;> kernel_rfl) ?_
      refine held_free 16 (.pointer (some ⟨gl, 6, none⟩)) rfl (by kernel_rfl) (by kernel_rfl) (by kernel_rfl) (by kernel_rfl) BS (fun W _ => by refine ex_index rfl ?_ ?_ (IL6 W) <;> kernel_rfl) ?_
      refine held_free 17 (.int .u64 (lg : Int)) rfl (by kernel_rfl) (by kernel_rfl) (by kernel_rfl) (by kernel_rfl) BS (fun W h => by refine ex_load 22 (.tmp 36) ?_ ⟨gl, 6, none⟩ ?_ ?_ (LL6 W h) <;> kernel_rfl) ?_
      refine held_free 19 (.int .i64 (t : Int)) rfl (by kernel_rfl) (by kernel_rfl) (by kernel_rfl) (by kernel_rfl) BS (fun _ _ => by kernel_rfl) ?_
      refine held_free 20 (.pointer (some ⟨gk, t, none⟩)) rfl (by kernel_rfl) (by kernel_rfl) (by kernel_rfl) (by kernel_rfl) BS (fun W _ => by refine ex_index rfl ?_ ?_ (IK W) <;> kernel_rfl) ?_
      refine held_free 21 (.int .u64 (kt : Int)) rfl (by kernel_rfl) (by kernel_rfl) (by kernel_rfl) (by kernel_rfl) BS (fun W h => by refine ex_load 22 (.tmp 40) ?_ ⟨gk, t, none⟩ ?_ ?_ (LK W h) <;> kernel_rfl) ?_
      refine held_free 22 (.slice (some ⟨gw, 0, none⟩) 64 capw) rfl (by kernel_rfl) (by kernel_rfl) (by kernel_rfl) (by kernel_rfl) BS (fun _ _ => by kernel_rfl) ?_
      refine held_free 23 (.int .i64 (t : Int)) rfl (by kernel_rfl) (by kernel_rfl) (by kernel_rfl) (by kernel_rfl) BS (fun _ _ => by kernel_rfl) ?_
      refine held_free 24 (.pointer (some ⟨gw, t, none⟩)) rfl (by kernel_rfl) (by kernel_rfl) (by kernel_rfl) (by kernel_rfl) BS (fun W _ => by refine ex_index rfl ?_ ?_ (IW W) <;> kernel_rfl) ?_
      refine held_free 25 (.int .u64 (wt : Int)) rfl (by kernel_rfl) (by kernel_rfl) (by kernel_rfl) (by kernel_rfl) BS (fun W h => by refine ex_load 22 (.tmp 44) ?_ ⟨gw, t, none⟩ ?_ ?_ (LW W h) <;> kernel_rfl) ?_
      refine held_call 4 rfl (by kernel_rfl) (by kernel_rfl) (by kernel_rfl) (T6 _) (fun w' h => bq BS h) ?_
      intro u1 hu1
      have Bu1 := bq BS hu1
      refine held_call 7 rfl (by kernel_rfl) (by kernel_rfl) (by kernel_rfl) (T11 _) (fun w' h => bq Bu1 h) ?_
      intro u2 hu2
      have Bu2 := bq Bu1 hu2
      refine held_call 10 rfl (by kernel_rfl) (by kernel_rfl) (by kernel_rfl) (T25 _) (fun w' h => bq Bu2 h) ?_
      intro u3 hu3
      have Bu3 := bq Bu2 hu3
      refine held_call 11 rfl (by kernel_rfl) (by kernel_rfl) (by kernel_rfl) (X1 _) (fun w' h => bq Bu3 h) ?_
      intro u4 hu4
      have Bu4 := bq Bu3 hu4
      refine held_call 18 rfl (by kernel_rfl) (by kernel_rfl) (by kernel_rfl) (PK _) (fun w' h => bq Bu4 h) ?_
      intro u5 hu5
      have Bu5 := bq Bu4 hu5
      have Bu6 := bal Bu5 (.cells (u64s [lh, bb1, cc, kt, wt]) 22)
      refine held_lone (v := .slice (some ⟨u5.heap.size, 0, none⟩) 5 5) (w' := u5.alloc (.cells (u64s [lh, bb1, cc, kt, wt]) 22)) 26 rfl (by kernel_rfl) (by kernel_rfl) (by kernel_rfl) Bu6 ?_
      refine held_call 27 rfl (by kernel_rfl) (by kernel_rfl) (by kernel_rfl) (A1 _) (fun w' h => bq Bu6 h) ?_
      intro u7 hu7
      have Bu7 := bq Bu6 hu7
      refine held_free 28 (.int .u64 (X : Int)) rfl (by kernel_rfl) (by kernel_rfl) (by kernel_rfl) (by kernel_rfl) Bu7 (fun _ _ => by kernel_rfl) ?_
      refine held_end (by kernel_rfl) ?_
      have HBU := Lib.hid Bu7
      clear hu1 hu2 hu3 hu4 hu5 hu7 Bu1 Bu2 Bu3 Bu4 Bu5 Bu6 Bu7 BS
      go_wp2_with fail
      have BV : Below wr.heap.size wr u7.drew := HBU.out.drew
      refine held_start (fun W => Below wr.heap.size wr W) (by kernel_rfl) (n := 20) rfl ?_
      refine held_free 0 (.pointer (some ⟨gl, 0, none⟩)) rfl (by kernel_rfl) (by kernel_rfl) (by kernel_rfl) (by kernel_rfl) BV (fun W _ => by refine ex_index rfl ?_ ?_ (IL0 W) <;> kernel_rfl) ?_
      refine held_free 1 (.int .u64 (la : Int)) rfl (by kernel_rfl) (by kernel_rfl) (by kernel_rfl) (by kernel_rfl) BV (fun W h => by refine ex_load 22 (.tmp 48) ?_ ⟨gl, 0, none⟩ ?_ ?_ (LL0 W h) <;> kernel_rfl) ?_
      refine held_free 3 (.pointer (some ⟨gl, 0, none⟩)) rfl (by kernel_rfl) (by kernel_rfl) (by kernel_rfl) (by kernel_rfl) BV (fun W _ => by refine ex_index rfl ?_ ?_ (IL0 W) <;> kernel_rfl) ?_
      refine held_free 4 (.int .u64 (la : Int)) rfl (by kernel_rfl) (by kernel_rfl) (by kernel_rfl) (by kernel_rfl) BV (fun W h => by refine ex_load 22 (.tmp 51) ?_ ⟨gl, 0, none⟩ ?_ ?_ (LL0 W h) <;> kernel_rfl) ?_
      refine held_free 6 (.pointer (some ⟨gl, 0, none⟩)) rfl (by kernel_rfl) (by kernel_rfl) (by kernel_rfl) (by kernel_rfl) BV (fun W _ => by refine ex_index rfl ?_ ?_ (IL0 W) <;> kernel_rfl) ?_
      refine held_free 7 (.int .u64 (la : Int)) rfl (by kernel_rfl) (by kernel_rfl) (by kernel_rfl) (by kernel_rfl) BV (fun W h => by refine ex_load 22 (.tmp 54) ?_ ⟨gl, 0, none⟩ ?_ ?_ (LL0 W h) <;> kernel_rfl) ?_
      refine held_free 10 (.pointer (some ⟨gl, 0, none⟩)) rfl (by kernel_rfl) (by kernel_rfl) (by kernel_rfl) (by kernel_rfl) BV (fun W _ => by refine ex_index rfl ?_ ?_ (IL0 W) <;> kernel_rfl) ?_
      refine held_free 11 (.int .u64 (la : Int)) rfl (by kernel_rfl) (by kernel_rfl) (by kernel_rfl) (by kernel_rfl) BV (fun W h => by refine ex_load 22 (.tmp 58) ?_ ⟨gl, 0, none⟩ ?_ ?_ (LL0 W h) <;> kernel_rfl) ?_
      refine held_free 12 (.pointer (some ⟨gl, 1, none⟩)) rfl (by kernel_rfl) (by kernel_rfl) (by kernel_rfl) (by kernel_rfl) BV (fun W _ => by refine ex_index rfl ?_ ?_ (IL1 W) <;> kernel_rfl) ?_
      refine held_free 13 (.int .u64 (lb : Int)) rfl (by kernel_rfl) (by kernel_rfl) (by kernel_rfl) (by kernel_rfl) BV (fun W h => by refine ex_load 22 (.tmp 60) ?_ ⟨gl, 1, none⟩ ?_ ?_ (LL1 W h) <;> kernel_rfl) ?_
      refine held_free 14 (.pointer (some ⟨gl, 2, none⟩)) rfl (by kernel_rfl) (by kernel_rfl) (by kernel_rfl) (by kernel_rfl) BV (fun W _ => by refine ex_index rfl ?_ ?_ (IL2 W) <;> kernel_rfl) ?_
      refine held_free 15 (.int .u64 (lc : Int)) rfl (by kernel_rfl) (by kernel_rfl) (by kernel_rfl) (by kernel_rfl) BV (fun W h => by refine ex_load 22 (.tmp 62) ?_ ⟨gl, 2, none⟩ ?_ ?_ (LL2 W h) <;> kernel_rfl) ?_
      refine held_call 2 rfl (by kernel_rfl) (by kernel_rfl) (by kernel_rfl) (T2 _) (fun w' h => bq BV h) ?_
      intro v1 hv1
      have Bv1 := bq BV hv1
      refine held_call 5 rfl (by kernel_rfl) (by kernel_rfl) (by kernel_rfl) (T13 _) (fun w' h => bq Bv1 h) ?_
      intro v2 hv2
      have Bv2 := bq Bv1 hv2
      refine held_call 8 rfl (by kernel_rfl) (by kernel_rfl) (by kernel_rfl) (T22 _) (fun w' h => bq Bv2 h) ?_
      intro v3 hv3
      have Bv3 := bq Bv2 hv3
      refine held_call 9 rfl (by kernel_rfl) (by kernel_rfl) (by kernel_rfl) (X0 _) (fun w' h => bq Bv3 h) ?_
      intro v4 hv4
      have Bv4 := bq Bv3 hv4
      refine held_call 16 rfl (by kernel_rfl) (by kernel_rfl) (by kernel_rfl) (MS _) (fun w' h => bq Bv4 h) ?_
      intro v5 hv5
      have Bv5 := bq Bv4 hv5
      have Bv6 := bal Bv5 (.cells (u64s [bb0, mm]) 22)
      refine held_lone (v := .slice (some ⟨v5.heap.size, 0, none⟩) 2 2) (w' := v5.alloc (.cells (u64s [bb0, mm]) 22)) 17 rfl (by kernel_rfl) (by kernel_rfl) (by kernel_rfl) Bv6 ?_
      refine held_call 18 rfl (by kernel_rfl) (by kernel_rfl) (by kernel_rfl) (A2 _) (fun w' h => bq Bv6 h) ?_
      intro v7 hv7
      have Bv7 := bq Bv6 hv7
      refine held_free 19 (.int .u64 (Y : Int)) rfl (by kernel_rfl) (by kernel_rfl) (by kernel_rfl) (by kernel_rfl) Bv7 (fun _ _ => by kernel_rfl) ?_
      refine held_end (by kernel_rfl) ?_
      have HBV := Lib.hid Bv7
      clear hv1 hv2 hv3 hv4 hv5 hv7 Bv1 Bv2 Bv3 Bv4 Bv5 Bv6 Bv7 BV
      go_wp2_with fail
      obtain ⟨Z1, eZ1⟩ : ∃ n, n = sums [X, Y] := ⟨_, rfl⟩
      obtain ⟨Z2, eZ2⟩ : ∃ n, n = sums [ld, X] := ⟨_, rfl⟩
      have A3 : ∀ (W : World) (N : Nat), Blk W N 22 (u64s [X, Y]) → Calls Tryd.prog 79 #[.slice (some ⟨N, 0, none⟩) 2 2] W fun e w' => e = .returned (.int .u64 (Z1 : Int)) ∧ ∃ n, w' = W.drewN n := fun W N hb => by
        rw [eZ1]
        exact add_any [X, Y] (fun q hq => by simp only [List.mem_cons, List.not_mem_nil, or_false] at hq; unfold MW at *; omega) (show 2 ≤ 16 by decide) _ 2 2 _ _ hb rfl
      have A4 : ∀ (W : World) (N : Nat), Blk W N 22 (u64s [ld, X]) → Calls Tryd.prog 79 #[.slice (some ⟨N, 0, none⟩) 2 2] W fun e w' => e = .returned (.int .u64 (Z2 : Int)) ∧ ∃ n, w' = W.drewN n := fun W N hb => by
        rw [eZ2]
        exact add_any [ld, X] (fun q hq => by simp only [List.mem_cons, List.not_mem_nil, or_false] at hq; unfold MW at *; omega) (show 2 ≤ 16 by decide) _ 2 2 _ _ hb rfl
      have hnew : rds MW 1 (nums bl) s (t + 1) = ⟨Z1, la, lb, lc, Z2, le, lf, lg⟩ := by
        rw [HST.out]
        unfold Ws.step
        rw [HUP.out, HVP.out, eZ1, eZ2]
        have e1 : sums [X, Y] = (X + Y) &&& MW := by unfold sums; rw [and_MW]; simp only [List.foldl_cons, List.foldl_nil]; omega
        have e2 : sums [ld, X] = (ld + X) &&& MW := by unfold sums; rw [and_MW]; simp only [List.foldl_cons, List.foldl_nil]; omega
        rw [e1, e2]
      clear eZ1 eZ2
      have HNEW := Lib.hid hnew
      have FIN : ∀ W : World, Below wr.heap.size wr W → TkAt w s bl gl gk gw KA SA curw (.int .i64 ((t : Int) + 1)) (W.setRow gl (w64s ⟨Z1, la, lb, lc, Z2, le, lf, lg⟩)) := fun W b => by
        have hgl : W.heap[gl]? = some (.cells (w64s ⟨la, lb, lc, ld, le, lf, lg, lh⟩) 81 (0, 0)) := HL.out.below b HL.out.lt
        refine ⟨t + 1, by omega, by rw [Int.natCast_add]; rfl, by rw [HNEW.out]; exact setRow_heap _ _ _ _ _ _ hgl, (HK.out.below b HK.out.lt).same (setRow_other _ _ _ _ (by omega)), ?_, (HS.out.below b HS.out.lt).same (setRow_other _ _ _ _ (by omega)), (HR.out.below b HR.out.lt).same (setRow_other _ _ _ _ (by omega)), below_setRow (HB.out.trans (b.mono HB.out.size)) (by omega) _⟩
        exact (setRow_other _ _ _ _ (by omega)).trans ((b.block gw (Array.getElem?_eq_some_iff.1 HGW.out).1).trans HGW.out)
      have BW : Below wr.heap.size wr v7.drew := HBV.out.drew
      refine walk_start 22 (fun W => Below wr.heap.size wr W) (by kernel_rfl) (n := 23) rfl ?_
      obtain ⟨W9, hW9⟩ : ∃ W9, W9 = v7.drew := ⟨_, rfl⟩
      rw [← hW9] at BW ⊢
      clear hW9
      refine walk_free 0 (.int .u64 (X : Int)) rfl (by kernel_rfl) (by kernel_rfl) (by kernel_rfl) (by kernel_rfl) (by kernel_rfl) (by kernel_rfl) BW (fun _ _ => by kernel_rfl) ?_
      refine walk_free 1 (.int .u64 (Y : Int)) rfl (by kernel_rfl) (by kernel_rfl) (by kernel_rfl) (by kernel_rfl) (by kernel_rfl) (by kernel_rfl) BW (fun _ _ => by kernel_rfl) ?_
      refine walk_free 4 (.pointer (some ⟨gl, 0, none⟩)) rfl (by kernel_rfl) (by kernel_rfl) (by kernel_rfl) (by kernel_rfl) (by kernel_rfl) (by kernel_rfl) BW (fun W _ => by refine ex_index rfl ?_ ?_ (IL0 W) <;> kernel_rfl) ?_
      refine walk_free 5 (.int .u64 (la : Int)) rfl (by kernel_rfl) (by kernel_rfl) (by kernel_rfl) (by kernel_rfl) (by kernel_rfl) (by kernel_rfl) BW (fun W h => by refine ex_load 22 (.tmp 71) ?_ ⟨gl, 0, none⟩ ?_ ?_ (LL0 W h) <;> kernel_rfl) ?_
      refine walk_free 6 (.pointer (some ⟨gl, 1, none⟩)) rfl (by kernel_rfl) (by kernel_rfl) (by kernel_rfl) (by kernel_rfl) (by kernel_rfl) (by kernel_rfl) BW (fun W _ => by refine ex_index rfl ?_ ?_ (IL1 W) <;> kernel_rfl) ?_
      refine walk_free 7 (.int .u64 (lb : Int)) rfl (by kernel_rfl) (by kernel_rfl) (by kernel_rfl) (by kernel_rfl) (by kernel_rfl) (by kernel_rfl) BW (fun W h => by refine ex_load 22 (.tmp 73) ?_ ⟨gl, 1, none⟩ ?_ ?_ (LL1 W h) <;> kernel_rfl) ?_
      refine walk_free 8 (.pointer (some ⟨gl, 2, none⟩)) rfl (by kernel_rfl) (by kernel_rfl) (by kernel_rfl) (by kernel_rfl) (by kernel_rfl) (by kernel_rfl) BW (fun W _ => by refine ex_index rfl ?_ ?_ (IL2 W) <;> kernel_rfl) ?_
      refine walk_free 9 (.int .u64 (lc : Int)) rfl (by kernel_rfl) (by kernel_rfl) (by kernel_rfl) (by kernel_rfl) (by kernel_rfl) (by kernel_rfl) BW (fun W h => by refine ex_load 22 (.tmp 75) ?_ ⟨gl, 2, none⟩ ?_ ?_ (LL2 W h) <;> kernel_rfl) ?_
      refine walk_free 10 (.pointer (some ⟨gl, 3, none⟩)) rfl (by kernel_rfl) (by kernel_rfl) (by kernel_rfl) (by kernel_rfl) (by kernel_rfl) (by kernel_rfl) BW (fun W _ => by refine ex_index rfl ?_ ?_ (IL3 W) <;> kernel_rfl) ?_
      refine walk_free 11 (.int .u64 (ld : Int)) rfl (by kernel_rfl) (by kernel_rfl) (by kernel_rfl) (by kernel_rfl) (by kernel_rfl) (by kernel_rfl) BW (fun W h => by refine ex_load 22 (.tmp 77) ?_ ⟨gl, 3, none⟩ ?_ ?_ (LL3 W h) <;> kernel_rfl) ?_
      refine walk_free 12 (.int .u64 (X : Int)) rfl (by kernel_rfl) (by kernel_rfl) (by kernel_rfl) (by kernel_rfl) (by kernel_rfl) (by kernel_rfl) BW (fun _ _ => by kernel_rfl) ?_
      refine walk_free 15 (.pointer (some ⟨gl, 4, none⟩)) rfl (by kernel_rfl) (by kernel_rfl) (by kernel_rfl) (by kernel_rfl) (by kernel_rfl) (by kernel_rfl) BW (fun W _ => by refine ex_index rfl ?_ ?_ (IL4 W) <;> kernel_rfl) ?_
      refine walk_free 16 (.int .u64 (le : Int)) rfl (by kernel_rfl) (by kernel_rfl) (by kernel_rfl) (by kernel_rfl) (by kernel_rfl) (by kernel_rfl) BW (fun W h => by refine ex_load 22 (.tmp 82) ?_ ⟨gl, 4, none⟩ ?_ ?_ (LL4 W h) <;> kernel_rfl) ?_
      refine walk_free 17 (.pointer (some ⟨gl, 5, none⟩)) rfl (by kernel_rfl) (by kernel_rfl) (by kernel_rfl) (by kernel_rfl) (by kernel_rfl) (by kernel_rfl) BW (fun W _ => by refine ex_index rfl ?_ ?_ (IL5 W) <;> kernel_rfl) ?_
      refine walk_free 18 (.int .u64 (lf : Int)) rfl (by kernel_rfl) (by kernel_rfl) (by kernel_rfl) (by kernel_rfl) (by kernel_rfl) (by kernel_rfl) BW (fun W h => by refine ex_load 22 (.tmp 84) ?_ ⟨gl, 5, none⟩ ?_ ?_ (LL5 W h) <;> kernel_rfl) ?_
      refine walk_free 19 (.pointer (some ⟨gl, 6, none⟩)) rfl (by kernel_rfl) (by kernel_rfl) (by kernel_rfl) (by kernel_rfl) (by kernel_rfl) (by kernel_rfl) BW (fun W _ => by refine ex_index rfl ?_ ?_ (IL6 W) <;> kernel_rfl) ?_
      refine walk_free 20 (.int .u64 (lg : Int)) rfl (by kernel_rfl) (by kernel_rfl) (by kernel_rfl) (by kernel_rfl) (by kernel_rfl) (by kernel_rfl) BW (fun W h => by refine ex_load 22 (.tmp 86) ?_ ⟨gl, 6, none⟩ ?_ ?_ (LL6 W h) <;> kernel_rfl) ?_
      refine walk_two 2 13 (by kernel_rfl) ?_ ?_
      · refine do_lone (v := .slice (some ⟨W9.heap.size, 0, none⟩) 2 2) (w' := (W9.alloc (.cells (u64s [X, Y]) 22))) 2 rfl (by kernel_rfl) (by kernel_rfl) (bal BW _) ?_
        have BN1 := bal BW (.cells (u64s [X, Y]) 22)
        have K1 := Blk.new W9 22 (u64s [X, Y])
        refine walk_two 3 13 (by kernel_rfl) ?_ ?_
        · refine do_call 3 rfl (by kernel_rfl) (by kernel_rfl) (A3 _ _ K1) (fun w' h => bq BN1 h) ?_
          intro q2 hq2
          have BN2 := bq BN1 hq2
          refine walk_one 13 (by kernel_rfl) (do_lone (v := .slice (some ⟨q2.heap.size, 0, none⟩) 2 2) (w' := (q2.alloc (.cells (u64s [ld, X]) 22))) 13 rfl (by kernel_rfl) (by kernel_rfl) (bal BN2 _) ?_)
          have BN3 := bal BN2 (.cells (u64s [ld, X]) 22)
          have K3 := Blk.new q2 22 (u64s [ld, X])
          refine walk_one 14 (by kernel_rfl) (do_call 14 rfl (by kernel_rfl) (by kernel_rfl) (A4 _ _ K3) (fun w' h => bq BN3 h) ?_)
          intro q4 hq4
          have BN4 := bq BN3 hq4
          refine walk_free 21 (.agg (w64s ⟨Z1, la, lb, lc, Z2, le, lf, lg⟩)) rfl (by kernel_rfl) (by kernel_rfl) (by kernel_rfl) (by kernel_rfl) (by kernel_rfl) (by kernel_rfl) BN4 (fun _ _ => by kernel_rfl) ?_
          refine walk_one 22 (by kernel_rfl) (do_last 22 rfl (by kernel_rfl) (ex_store_row 81 (.tmp 7) (.tmp 88) (by kernel_rfl) gl (w64s ⟨Z1, la, lb, lc, Z2, le, lf, lg⟩) (by kernel_rfl) (by kernel_rfl) 81 (w64s ⟨la, lb, lc, ld, le, lf, lg, lh⟩) (HL.out.below BN4 HL.out.lt) (by rw [w64s_size]; exact k8_size) (by rw [w64s_size, w64s_size]) (w64s_one _)) (by kernel_rfl) ?_)
          refine walk_end (by kernel_rfl) ?_
          have HFIN := Lib.hid (FIN _ BN4)
          clear FIN
          go_wp2_with fail
          go_roundw
          case rel => exact HFIN.out
          case measure => simp [intOf]; omega
        · refine do_lone (v := .slice (some ⟨(W9.alloc (.cells (u64s [X, Y]) 22)).heap.size, 0, none⟩) 2 2) (w' := ((W9.alloc (.cells (u64s [X, Y]) 22)).alloc (.cells (u64s [ld, X]) 22))) 13 rfl (by kernel_rfl) (by kernel_rfl) (bal BN1 _) ?_
          have BN2 := bal BN1 (.cells (u64s [ld, X]) 22)
          have K2 := Blk.new (W9.alloc (.cells (u64s [X, Y]) 22)) 22 (u64s [ld, X])
          have K2x := K1.alloc (.cells (u64s [ld, X]) 22)
          refine walk_one 3 (by kernel_rfl) (do_call 3 rfl (by kernel_rfl) (by kernel_rfl) (A3 _ _ K2x) (fun w' h => bq BN2 h) ?_)
          intro q3 hq3
          have BN3 := bq BN2 hq3
          have K3x := blk_dq K2 hq3
          refine walk_one 14 (by kernel_rfl) (do_call 14 rfl (by kernel_rfl) (by kernel_rfl) (A4 _ _ K3x) (fun w' h => bq BN3 h) ?_)
          intro q4 hq4
          have BN4 := bq BN3 hq4
          refine walk_free 21 (.agg (w64s ⟨Z1, la, lb, lc, Z2, le, lf, lg⟩)) rfl (by kernel_rfl) (by kernel_rfl) (by kernel_rfl) (by kernel_rfl) (by kernel_rfl) (by kernel_rfl) BN4 (fun _ _ => by kernel_rfl) ?_
          refine walk_one 22 (by kernel_rfl) (do_last 22 rfl (by kernel_rfl) (ex_store_row 81 (.tmp 7) (.tmp 88) (by kernel_rfl) gl (w64s ⟨Z1, la, lb, lc, Z2, le, lf, lg⟩) (by kernel_rfl) (by kernel_rfl) 81 (w64s ⟨la, lb, lc, ld, le, lf, lg, lh⟩) (HL.out.below BN4 HL.out.lt) (by rw [w64s_size]; exact k8_size) (by rw [w64s_size, w64s_size]) (w64s_one _)) (by kernel_rfl) ?_)
          refine walk_end (by kernel_rfl) ?_
          have HFIN := Lib.hid (FIN _ BN4)
          clear FIN
          go_wp2_with fail
          go_roundw
          case rel => exact HFIN.out
          case measure => simp [intOf]; omega
      · refine do_lone (v := .slice (some ⟨W9.heap.size, 0, none⟩) 2 2) (w' := (W9.alloc (.cells (u64s [ld, X]) 22))) 13 rfl (by kernel_rfl) (by kernel_rfl) (bal BW _) ?_
        have BN1 := bal BW (.cells (u64s [ld, X]) 22)
        have K1 := Blk.new W9 22 (u64s [ld, X])
        refine walk_one 2 (by kernel_rfl) (do_lone (v := .slice (some ⟨(W9.alloc (.cells (u64s [ld, X]) 22)).heap.size, 0, none⟩) 2 2) (w' := ((W9.alloc (.cells (u64s [ld, X]) 22)).alloc (.cells (u64s [X, Y]) 22))) 2 rfl (by kernel_rfl) (by kernel_rfl) (bal BN1 _) ?_)
        have BN2 := bal BN1 (.cells (u64s [X, Y]) 22)
        have K2 := Blk.new (W9.alloc (.cells (u64s [ld, X]) 22)) 22 (u64s [X, Y])
        have K2x := K1.alloc (.cells (u64s [X, Y]) 22)
        refine walk_one 3 (by kernel_rfl) (do_call 3 rfl (by kernel_rfl) (by kernel_rfl) (A3 _ _ K2) (fun w' h => bq BN2 h) ?_)
        intro q3 hq3
        have BN3 := bq BN2 hq3
        have K3x := blk_dq K2x hq3
        refine walk_one 14 (by kernel_rfl) (do_call 14 rfl (by kernel_rfl) (by kernel_rfl) (A4 _ _ K3x) (fun w' h => bq BN3 h) ?_)
        intro q4 hq4
        have BN4 := bq BN3 hq4
        refine walk_free 21 (.agg (w64s ⟨Z1, la, lb, lc, Z2, le, lf, lg⟩)) rfl (by kernel_rfl) (by kernel_rfl) (by kernel_rfl) (by kernel_rfl) (by kernel_rfl) (by kernel_rfl) BN4 (fun _ _ => by kernel_rfl) ?_
        refine walk_one 22 (by kernel_rfl) (do_last 22 rfl (by kernel_rfl) (ex_store_row 81 (.tmp 7) (.tmp 88) (by kernel_rfl) gl (w64s ⟨Z1, la, lb, lc, Z2, le, lf, lg⟩) (by kernel_rfl) (by kernel_rfl) 81 (w64s ⟨la, lb, lc, ld, le, lf, lg, lh⟩) (HL.out.below BN4 HL.out.lt) (by rw [w64s_size]; exact k8_size) (by rw [w64s_size, w64s_size]) (w64s_one _)) (by kernel_rfl) ?_)
        refine walk_end (by kernel_rfl) ?_
        have HFIN := Lib.hid (FIN _ BN4)
        clear FIN
        go_wp2_with fail
        go_roundw
        case rel => exact HFIN.out
        case measure => simp [intOf]; omega
    · obtain rfl : t = 64 := by omega
      clear hlt
      have hok := rds_ok hs 1 (nums bl) 64
      have hblk : cmp s bl = (rds MW 1 (nums bl) s 64).plus MW s := rfl
      obtain ⟨R, hR⟩ : ∃ R, R = rds MW 1 (nums bl) s 64 := ⟨_, rfl⟩
      rw [← hR] at hok hblk HL
      have HBK := Lib.hid hblk
      clear hR hblk
      have HL0 := Lib.hid (show Blk wr gl 81 (u64s (mixl R s 0)) from HL.out)
      go_wp2_with fail
      go_loopw [11] (fun i W => ∃ k : Nat, k ≤ 8 ∧ i = .int .i64 (k : Int) ∧ Blk W gl 81 (u64s (mixl R s k)) ∧ Blk W w.heap.size 81 SA ∧ Blk W (w.heap.size + 1) 81 (w64s ⟨0, 0, 0, 0, 0, 0, 0, 0⟩) ∧ Below w.heap.size w W) (fun i _ => 8 - (intOf i).toNat)
      case atStart => exact ⟨0, by decide, rfl, HL0.out, HS.out, HR.out, HB.out⟩
      case round =>
        obtain ⟨k, hk, rfl, hl, hs', hr, hb⟩ := hrel
        have HL1 := Lib.hid hl
        have HS1 := Lib.hid hs'
        have HR1 := Lib.hid hr
        have HB1 := Lib.hid hb
        clear hl hs' hr hb HL HK HGW HS HR HB HL0
        by_cases hlt : k < 8
        · go_wp2_with fail
          have hkR : k < R.list.length := hlt
          have hks : k < s.list.length := hlt
          have hmk : (mixl R s k)[k]? = some (R.list[k]'hkR) := by
            unfold mixl
            rw [List.getElem?_append_right (by rw [List.length_take]; exact Nat.min_le_left _ _), List.length_take, Ws.list_length, show k - min k 8 = 0 by omega, List.getElem?_drop]
            simp [hkR]
          have hml : (mixl R s k).length = 8 := by unfold mixl; simp [Ws.list_length]; omega
          have hset : (u64s (mixl R s k)).setIfInBounds k (.int .u64 (((R.list[k]'hkR + s.list[k]'hks) &&& MW : Nat) : Int)) = u64s (mixl R s (k + 1)) := mixl_set R s k hlt
          have hx : R.list[k]'hkR ≤ MW := ws_le hok k hkR
          have hy : s.list[k]'hks ≤ MW := ws_le hs k hks
          obtain ⟨x, ex⟩ : ∃ n, n = R.list[k]'hkR := ⟨_, rfl⟩
          obtain ⟨y, ey⟩ : ∃ n, n = s.list[k]'hks := ⟨_, rfl⟩
          rw [← ex] at hmk hset hx
          rw [← ey] at hset hy
          have hsk : SA[k]? = some (.int .u64 (y : Int)) := by
            rw [HSA.out, show w64s s = u64s s.list from rfl, u64s_get _ _ hks, ey]
          have hlk : (u64s (mixl R s k))[k]? = some (.int .u64 (x : Int)) := by
            simp [u64s, hmk]
          clear ex ey
          obtain ⟨z, ez⟩ : ∃ n, n = sums [x, y] := ⟨_, rfl⟩
          have hzz : (x + y) &&& MW = z := by rw [ez]; unfold sums; rw [and_MW]; simp only [List.foldl_cons, List.foldl_nil]; omega
          have AZ : ∀ w8 : World, Calls Tryd.prog 79 #[.slice (some ⟨w8.heap.size, 0, none⟩) 2 2] (w8.alloc (.cells (u64s [x, y]) 22)) fun e w' => e = .returned (.int .u64 (z : Int)) ∧ ∃ n, w' = (w8.alloc (.cells (u64s [x, y]) 22)).drewN n := fun w8 => by
            rw [ez]
            exact add_any [x, y] (fun q hq => by simp only [List.mem_cons, List.not_mem_nil, or_false] at hq; unfold MW at *; omega) (show 2 ≤ 16 by decide) _ 2 2 _ _ (Blk.new w8 _ _) rfl
          rw [hzz] at hset
          clear ez hzz
          have HSETT := Lib.hid hset
          have JL := k8_at gl k hlt
          have JS := k8_at w.heap.size k hlt
          have CL : ∀ W : World, Below wr.heap.size wr W → W.cell? ⟨gl, k, none⟩ = some (.int .u64 (x : Int)) := fun W b => ((HL1.out.below b HL1.out.lt).cell k).trans hlk
          have CS : ∀ W : World, Below wr.heap.size wr W → W.cell? ⟨w.heap.size, k, none⟩ = some (.int .u64 (y : Int)) := fun W b => ((HS1.out.below b HS1.out.lt).cell k).trans hsk
          have STO : ∀ W : World, Below wr.heap.size wr W → (storeVar 22 ⟨gl, k, none⟩ (.int .u64 (z : Int))).run Tryd.prog W = .ok () (W.setCell ⟨gl, k, none⟩ (.int .u64 (z : Int))) := fun W b => store_u64 W gl k x z (CL W b) ((HL1.out.below b HL1.out.lt).frozen k)
          have FIN : ∀ W : World, Below wr.heap.size wr W → ∃ k' : Nat, k' ≤ 8 ∧ Value.int .i64 ((k : Int) + 1) = .int .i64 (k' : Int) ∧ Blk (W.setCell ⟨gl, k, none⟩ (.int .u64 (z : Int))) gl 81 (u64s (mixl R s k')) ∧ Blk (W.setCell ⟨gl, k, none⟩ (.int .u64 (z : Int))) w.heap.size 81 SA ∧ Blk (W.setCell ⟨gl, k, none⟩ (.int .u64 (z : Int))) (w.heap.size + 1) 81 (w64s ⟨0, 0, 0, 0, 0, 0, 0, 0⟩) ∧ Below w.heap.size w (W.setCell ⟨gl, k, none⟩ (.int .u64 (z : Int))) := fun W b => by
            have hgl := (HL1.out.below b HL1.out.lt).set_ k (.int .u64 (z : Int))
            rw [HSETT.out] at hgl
            refine ⟨k + 1, by omega, by rw [Int.natCast_add]; rfl, hgl, (HS1.out.below b HS1.out.lt).same (Below.heap_setCell W _ _ _ (by show w.heap.size ≠ gl; omega)), (HR1.out.below b HR1.out.lt).same (Below.heap_setCell W _ _ _ (by show w.heap.size + 1 ≠ gl; omega)), ?_⟩
            have b1 : Below w.heap.size w W := HB1.out.trans (b.mono HB1.out.size)
            exact b1.trans ⟨rfl, rfl, rfl, by simp [World.setCell], fun j hj => Below.heap_setCell W _ _ j (by show j ≠ gl; omega)⟩
          have BW : Below wr.heap.size wr wr.drew := (Below.refl _ wr).drew
          refine walk_start 10 (fun W => Below wr.heap.size wr W) (by kernel_rfl) (n := 11) rfl ?_
          obtain ⟨W9, hW9⟩ : ∃ W9, W9 = wr.drew := ⟨_, rfl⟩
          rw [← hW9] at BW ⊢
          clear hW9
          refine walk_free 0 (.int .i64 (k : Int)) rfl (by kernel_rfl) (by kernel_rfl) (by kernel_rfl) (by kernel_rfl) (by kernel_rfl) (by kernel_rfl) BW (fun _ _ => by kernel_rfl) ?_
          refine walk_free 1 (.int .i64 (k : Int)) rfl (by kernel_rfl) (by kernel_rfl) (by kernel_rfl) (by kernel_rfl) (by kernel_rfl) (by kernel_rfl) BW (fun _ _ => by kernel_rfl) ?_
          refine walk_free 2 (.pointer (some ⟨gl, k, none⟩)) rfl (by kernel_rfl) (by kernel_rfl) (by kernel_rfl) (by kernel_rfl) (by kernel_rfl) (by kernel_rfl) BW (fun W _ => by refine ex_index rfl ?_ ?_ (JL W) <;> kernel_rfl) ?_
          refine walk_free 3 (.int .u64 (x : Int)) rfl (by kernel_rfl) (by kernel_rfl) (by kernel_rfl) (by kernel_rfl) (by kernel_rfl) (by kernel_rfl) BW (fun W h => by refine ex_load 22 (.tmp 95) ?_ ⟨gl, k, none⟩ ?_ ?_ (CL W h) <;> kernel_rfl) ?_
          refine walk_free 4 (.int .i64 (k : Int)) rfl (by kernel_rfl) (by kernel_rfl) (by kernel_rfl) (by kernel_rfl) (by kernel_rfl) (by kernel_rfl) BW (fun _ _ => by kernel_rfl) ?_
          refine walk_free 5 (.pointer (some ⟨w.heap.size, k, none⟩)) rfl (by kernel_rfl) (by kernel_rfl) (by kernel_rfl) (by kernel_rfl) (by kernel_rfl) (by kernel_rfl) BW (fun W _ => by refine ex_index rfl ?_ ?_ (JS W) <;> kernel_rfl) ?_
          refine walk_free 6 (.int .u64 (y : Int)) rfl (by kernel_rfl) (by kernel_rfl) (by kernel_rfl) (by kernel_rfl) (by kernel_rfl) (by kernel_rfl) BW (fun W h => by refine ex_load 22 (.tmp 98) ?_ ⟨w.heap.size, k, none⟩ ?_ ?_ (CS W h) <;> kernel_rfl) ?_
          refine walk_one 7 (by kernel_rfl) (do_lone (v := .slice (some ⟨W9.heap.size, 0, none⟩) 2 2) (w' := W9.alloc (.cells (u64s [x, y]) 22)) 7 rfl (by kernel_rfl) (by kernel_rfl) (bal BW _) ?_)
          refine walk_one 8 (by kernel_rfl) (do_call 8 rfl (by kernel_rfl) (by kernel_rfl) (AZ W9) (fun w' h => bq (bal BW (.cells (u64s [x, y]) 22)) h) ?_)
          intro q hq
          have BQ := bq (bal BW (.cells (u64s [x, y]) 22)) hq
          refine walk_free 9 (.pointer (some ⟨gl, k, none⟩)) rfl (by kernel_rfl) (by kernel_rfl) (by kernel_rfl) (by kernel_rfl) (by kernel_rfl) (by kernel_rfl) BQ (fun W _ => by refine ex_index rfl ?_ ?_ (JL W) <;> kernel_rfl) ?_
          refine walk_one 10 (by kernel_rfl) (do_last 10 rfl (by kernel_rfl) (ex_store_cell 22 (.tmp 102) (.tmp 101) (by kernel_rfl) ⟨gl, k, none⟩ (.int .u64 (z : Int)) (by kernel_rfl) (by kernel_rfl) (STO q BQ)) (by kernel_rfl) ?_)
          refine walk_end (by kernel_rfl) ?_
          have HFIN := Lib.hid (FIN q BQ)
          clear FIN STO BQ hq
          go_wp2_with fail
          go_roundw
          case rel => exact ⟨_, _, _, _, _, _, _, _, _, _, _, _, _, _, _, HFIN.out, rfl⟩
          case measure => simp [intOf]; omega
        · obtain rfl : k = 8 := by omega
          clear hlt
          have e8 : u64s (mixl R s 8) = w64s (cmp s bl) := by rw [HBK.out]; rfl
          rw [e8] at HL1
          obtain ⟨FA, hFA⟩ : ∃ FA, FA = w64s (cmp s bl) := ⟨_, rfl⟩
          rw [← hFA] at HL1
          have HFA := Lib.hid hFA
          have HFZ := Lib.hid (show (Tryd.prog.info? 81).map (·.size) = some FA.size by rw [hFA, w64s_size]; exact k8_size)
          have HFO := Lib.hid (show (w64s ⟨0, 0, 0, 0, 0, 0, 0, 0⟩).size = FA.size by rw [hFA, w64s_size, w64s_size])
          have HF1 := Lib.hid (show FA.all (·.oneCell') = true by rw [hFA]; exact w64s_one _)
          clear hFA e8
          have HRW := Lib.hid (show Blk (wr.setRow (w.heap.size + 1) FA) (w.heap.size + 1) 81 FA from setRow_heap _ _ _ _ _ _ HR1.out)
          have HBW := Lib.hid (below_setRow HB1.out (by omega : w.heap.size ≤ w.heap.size + 1) FA)
          go_wp2_with (first
            | (refine wpList_load_row rfl 81 (.tmp 7) rfl gl rfl 81 FA (0, 0) _ ?_ k8_under rfl HFZ.out ?_; exact HL1.out)
            | (refine wpList_store_row rfl 81 (.tmp 4) (.tmp 103) rfl (w.heap.size + 1) FA rfl rfl 81 _ ?_ HFZ.out HFO.out HF1.out ?_; exact HR1.out))
          refine bodyPost_ret (results_cell_row rfl _ _ (w.heap.size + 1) 81 FA (0, 0) _ rfl HRW.out k8_under rfl HFZ.out) rfl ⟨by rw [HFA.out], HBW.out⟩
end Go.Proofs.YtcbakfnpbhgjoaaDoor
