/-
  What a block makes of eight words (sha.process), by its walk.
-/
import Derived.Test.YtcbakfnpbhgjoaaDoorShaRange
namespace Go.Proofs.YtcbakfnpbhgjoaaDoor
open Go.RowKit Go.Shelf
set_option linter.unusedVariables false
attribute [local go_sem] Oper.semAt_some

/-- The tables hold what the program's text lays there. -/
structure Tbl (w : World) : Prop where
  lt : 1 < w.heap.size
  rw : ∀ i, i < 64 → w.cell? ⟨1, i, none⟩ = some (.int .u32 ((kws.getD i 0 : Nat) : Int))
  iw : ∀ i, i < 8 → w.cell? ⟨0, i, none⟩ = some (.int .u32 ((ws0.list.getD i 0 : Nat) : Int))
theorem Tbl.under {w w' : World} {B : Nat} (h : Tbl w) (b : Below B w w') (hB : 1 < B) : Tbl w' :=
  ⟨Nat.lt_of_lt_of_le h.lt b.size, fun i hi => (World.cell?_of_block (a := ⟨1, i, none⟩) (b.block 1 hB)).trans (h.rw i hi), fun i hi => (World.cell?_of_block (a := ⟨0, i, none⟩) (b.block 0 (by omega))).trans (h.iw i hi)⟩
theorem Tbl.below {w w' : World} (h : Tbl w) (b : Below w.heap.size w w') : Tbl w' := h.under b h.lt
theorem Tbl.alloc {w : World} (h : Tbl w) (o : Obj) : Tbl (w.alloc o) := h.below ((Below.refl _ w).alloc (Nat.le_refl _) o)
theorem Tbl.drewN {w : World} (h : Tbl w) (n : Nat) : Tbl (w.drewN n) := h.below (below_drewN (Below.refl _ w) n)

theorem kws_le (i : Nat) : kws.getD i 0 ≤ MW := by
  have all : ∀ j : Fin 64, kws.getD j.val 0 ≤ MW := by decide
  by_cases h : i < 64
  · exact all ⟨i, h⟩
  · rw [List.getD_eq_getElem?_getD, List.getElem?_eq_none (by simp [kws]; omega)]; decide
theorem eight_index (s : Ws) (j : Nat) (hj : j < 8) (w : World) : (Instr.index 93 (.agg (wsv s)) (.int .i64 (j : Int))).run Tryd.prog w = .ok (.int .u32 ((s.list.getD j 0 : Nat) : Int)) w := by
  obtain ⟨a, b, c, d, e, f, g, h⟩ := s
  obtain rfl | rfl | rfl | rfl | rfl | rfl | rfl | rfl : j = 0 ∨ j = 1 ∨ j = 2 ∨ j = 3 ∨ j = 4 ∨ j = 5 ∨ j = 6 ∨ j = 7 := by omega
  all_goals kernel_rfl
theorem wsv_list (s : Ws) : wsv s = wov s.list := rfl
theorem zeros8 : (#[.int .u32 0, .int .u32 0, .int .u32 0, .int .u32 0, .int .u32 0, .int .u32 0, .int .u32 0, .int .u32 0] : Array Value) = wsv ⟨0, 0, 0, 0, 0, 0, 0, 0⟩ := rfl
theorem wsv_size (s : Ws) : (wsv s).size = 8 := rfl
theorem wsv_one (s : Ws) : (wsv s).all (·.oneCell') = true := wov_one s.list
/-- The sum of two, j of them added. -/
def mixw (r s : Ws) (j : Nat) : List Nat := (List.range 8).map fun i => if i < j then (r.list.getD i 0 + s.list.getD i 0) &&& MW else r.list.getD i 0
theorem mixw_zero (r s : Ws) : mixw r s 0 = r.list := by obtain ⟨a, b, c, d, e, f, g, h⟩ := r; rfl
theorem mixw_all (r s : Ws) : mixw r s 8 = (r.plus MW s).list := by obtain ⟨a, b, c, d, e, f, g, h⟩ := r; obtain ⟨a', b', c', d', e', f', g', h'⟩ := s; rfl
theorem mixw_length (r s : Ws) (j : Nat) : (mixw r s j).length = 8 := by simp [mixw]
theorem mixw_get (r s : Ws) (j : Nat) (hj : j < 8) : (mixw r s j).getD j 0 = r.list.getD j 0 := by simp [mixw, hj]
theorem mixw_next (r s : Ws) (j : Nat) (hj : j < 8) : (mixw r s j).set j ((r.list.getD j 0 + s.list.getD j 0) &&& MW) = mixw r s (j + 1) := by
  apply List.ext_getElem (by simp [mixw])
  intro i h1 h2
  simp only [mixw, List.getElem_set, List.getElem_map, List.getElem_range]
  by_cases e : j = i
  · subst e; simp
  · simp only [e, if_false]
    by_cases h : i < j
    · rw [if_pos h, if_pos (by omega)]
    · rw [if_neg h, if_neg (by omega)]

/-- A row is laid over another one, as a walk leaves it. -/
theorem Blk.storeC {w : World} {g : Nat} {t : TypeId} {cs : Array Value} (h : Blk w g t cs) (ds : Array Value) (hz : ds.size = cs.size) (h1 : ds.all (·.oneCell') = true) : (storeCells ⟨g, 0, none⟩ ds.toList 0).run Tryd.prog w = .ok () (w.setRow g ds) := by
  have := run_storeCells_from (P := Tryd.prog) g t ds.toList 0 cs w h (by simp [hz]) (fun v hv => (Array.all_eq_true_iff_forall_mem.1 h1) v (by simpa using hv))
  simpa [hz] using this
/-- 'round', its answer under a letter. -/
theorem round_of (s : Ws) (x : Nat) (ns cs : Array Value) (hn : ns = wsv s) (hc : cs = wsv (s.step MW x)) (hs : s.Ok) (hx : x ≤ MW) (w : World) :
    Calls Tryd.prog 86 #[.agg ns, .int .u32 (x : Int)] w fun e w' => e = .returned (.agg cs) ∧ Below w.heap.size w w' := by
  subst hn hc; exact round_any s x hs hx w

/-- Where process stands while it ranges over the words: its arguments, its result's place, the words so far. -/
structure Proc (s : Ws) (bs : List UInt8) (w W : World) (x : Ws) : Prop where
  old : Blk W w.heap.size 93 (wsv s)
  res : Blk W (w.heap.size + 2) 93 (wsv ⟨0, 0, 0, 0, 0, 0, 0, 0⟩)
  now : Blk W (w.heap.size + 3) 93 (wsv x)
  bel : Below w.heap.size w W
  tbl : Tbl W
namespace Proc
variable {s : Ws} {bs : List UInt8} {w W W' : World} {x : Ws} {B : Nat}
theorem below (h : Proc s bs w W x) (b : Below B W W') (hB : w.heap.size + 3 < B) (h1 : 1 < w.heap.size) : Proc s bs w W' x :=
  ⟨h.old.below b (by omega), h.res.below b (by omega), h.now.below b hB, h.bel.trans (b.mono (by omega)), h.tbl.under b (by omega)⟩
theorem put (h : Proc s bs w W x) (cs : Array Value) (y : Ws) (hc : cs = wsv y) (h1 : 1 < w.heap.size) : Proc s bs w (W.setRow (w.heap.size + 3) cs) y := by
  subst hc
  exact ⟨h.old.same (setRow_other W _ _ _ (by omega)), h.res.same (setRow_other W _ _ _ (by omega)), setRow_heap _ _ _ _ _ _ h.now, below_setRow h.bel (by omega) _, h.tbl.under (below_setRow (Below.refl (w.heap.size + 3) W) (Nat.le_refl _) _) (by omega)⟩
end Proc
/-- Where process stands while it adds: the words so far, the block of what is deferred. -/
structure Fin (r s : Ws) (w W : World) (D j : Nat) : Prop where
  res : Blk W (w.heap.size + 2) 93 (wsv ⟨0, 0, 0, 0, 0, 0, 0, 0⟩)
  now : Blk W (w.heap.size + 3) 93 (wov (mixw r s j))
  bel : Below w.heap.size w W
  dfr : W.heap[D]? = some (.deferred (some []))
theorem Fin.next {r s : Ws} {w W : World} {D j : Nat} (h : Fin r s w W D j) (hj : j < 8) (hD : w.heap.size + 5 ≤ D) : Fin r s w (W.setCell ⟨w.heap.size + 3, j, none⟩ (.int .u32 (((r.list.getD j 0 + s.list.getD j 0) &&& MW : Nat) : Int))) D (j + 1) :=
  ⟨h.res.same (Below.heap_setCell _ _ _ _ (by simp)), by have := h.now.set_ j (.int .u32 (((r.list.getD j 0 + s.list.getD j 0) &&& MW : Nat) : Int)); rwa [wov_set, mixw_next r s j hj] at this, h.bel.setCell (p := ⟨w.heap.size + 3, j, none⟩) (by simp) _, (Below.heap_setCell _ _ _ _ (by simp; omega)).trans h.dfr⟩

set_option maxHeartbeats 2000000 in
set_option maxRecDepth 100000 in
theorem process_in (s : Ws) (bs : List UInt8) (w : World) (hs : s.Ok) (hl : bs.length = 64) (ht : Tbl w) :
    CallsIn Fence.wide 8 Tryd.prog 69 #[.agg (wsv s), .agg (byv bs)] w fun e w' => e = .returned (.agg (wsv (cmp s bs))) ∧ Below w.heap.size w w' := by
  have h1 := ht.lt
  have HT := Lib.hid ht
  have hbz : (byv bs).size = 64 := by rw [byv_size, hl]
  clear ht
  refine callsIn_of_wp_marks Tryd.func69 rfl trivial ?_ rfl
  simp only [Tryd.ntmps69, List.size_toArray, List.length_cons, List.length_nil, Nat.reduceAdd, Nat.reduceSub, Array.replicate_succ, Array.replicate_zero, List.push_toArray, List.append_toArray, List.nil_append, List.cons_append]
  obtain ⟨W0, hW0⟩ : ∃ W0, W0 = ((((w.alloc (.cells (wsv s) 93)).alloc (.cells (byv bs) 95)).alloc (.cells (wsv ⟨0, 0, 0, 0, 0, 0, 0, 0⟩) 93)).alloc (.cells (wsv s) 93)) := ⟨_, rfl⟩
  have e1 : (w.alloc (.cells (wsv s) 93)).heap.size = w.heap.size + 1 := World.size_alloc _ _
  have e2 : ((w.alloc (.cells (wsv s) 93)).alloc (.cells (byv bs) 95)).heap.size = w.heap.size + 2 := by rw [World.size_alloc, e1]
  have e3 : (((w.alloc (.cells (wsv s) 93)).alloc (.cells (byv bs) 95)).alloc (.cells (wsv ⟨0, 0, 0, 0, 0, 0, 0, 0⟩) 93)).heap.size = w.heap.size + 3 := by rw [World.size_alloc, e2]
  have k1 : Blk W0 w.heap.size 93 (wsv s) := by rw [hW0]; exact (((Blk.new w _ _).alloc _).alloc _).alloc _
  have k2 : Blk W0 (w.heap.size + 1) 95 (byv bs) := by rw [hW0, ← e1]; exact ((Blk.new _ _ _).alloc _).alloc _
  have k3 : Blk W0 (w.heap.size + 2) 93 (wsv ⟨0, 0, 0, 0, 0, 0, 0, 0⟩) := by rw [hW0, ← e2]; exact (Blk.new _ _ _).alloc _
  have k4 : Blk W0 (w.heap.size + 3) 93 (wsv s) := by rw [hW0, ← e3]; exact Blk.new _ _ _
  have kb : Below w.heap.size w W0 := by rw [hW0]; exact ((((Below.refl _ w).alloc (Nat.le_refl _) _).alloc (by rw [e1]; omega) _).alloc (by rw [e2]; omega) _).alloc (by rw [e3]; omega) _
  have k0 : Proc s bs w W0 s := ⟨k1, k3, k4, kb, HT.out.below kb⟩
  have HP0 := Lib.hid k0
  have HG := Lib.hid k2
  have hz0 : W0.heap.size = w.heap.size + 4 := by rw [hW0, World.size_alloc, e3]
  clear e1 e2 e3 k1 k2 k3 k4 kb k0
  gi_wp2_with (refine wpListIn_row rfl 95 _ rfl (w.heap.size + 1) ?_ 95 (byv bs) _ ?_ block_under rfl ?_ ?_; rfl; (have := HG.out; rw [hW0] at this; exact this); rw [hbz]; exact block_size)
  refine ⟨trivial, (callsIn_wide.2 (wordsOf_any bs _)).mono ?_⟩
  rintro e w' ⟨rfl, rfl⟩
  gi_wp2_with fail
  have hW1 : W0 = ((((w.alloc (.cells (wsv s) 93)).alloc (.cells (byv bs) 95)).alloc (.cells #[.int .u32 0, .int .u32 0, .int .u32 0, .int .u32 0, .int .u32 0, .int .u32 0, .int .u32 0, .int .u32 0] 93)).alloc (.cells #[.int .u32 (s.a : Int), .int .u32 (s.b : Int), .int .u32 (s.c : Int), .int .u32 (s.d : Int), .int .u32 (s.e : Int), .int .u32 (s.f : Int), .int .u32 (s.g : Int), .int .u32 (s.h : Int)] 93)) := hW0
  rw [← hW1]
  obtain ⟨W1, hW2⟩ : ∃ W1, W1 = W0.alloc (.cells (byv bs) 95) := ⟨_, rfl⟩
  have hz1 : W1.heap.size = w.heap.size + 5 := by rw [hW2, World.size_alloc, hz0]
  have hb01 : Below W0.heap.size W0 W1 := by rw [hW2]; exact (Below.refl _ W0).alloc (Nat.le_refl _) _
  have HP1 := Lib.hid (HP0.out.below hb01 (by omega) h1)
  have HG1 := Lib.hid (show Blk W1 (w.heap.size + 4) 95 (byv bs) by rw [hW2, ← hz0]; exact Blk.new _ _ _)
  rw [← hW2]
  clear hW2 hW1 hW0 hb01 HP0 HG
  refine range_rows (m := 6) (gf := 96) (lb := #[.pointer (some ⟨w.heap.size + 1 + 1 + 1 + 1, 0, none⟩)]) rfl (enters_of Tryd.func96 (by kernel_rfl) rfl) 64 (fun i => #[.int .i64 (i : Int), .int .u32 ((wrd MW (nums bs) i : Nat) : Int)]) (fun _ => rfl) (w.heap.size + 3) (by omega)
    (fun l B J W hb hB hl' hwl hJ hY h0 => words_in 6 l (w.heap.size + 3) B (w.heap.size + 4) bs J hl hJ hY W hB hl' (by omega) (by omega) (by omega) (by omega) (HG1.out.below hb (by omega)) h0)
    (fun i W => Proc s bs w W (rds MW 1 (nums bs) s i)) (fun i W W' h hb => h.below hb (by omega) h1) HP1.out
    (fun i => { tmps := #[.agg (wsv s), .agg (byv bs), .pointer (some ⟨w.heap.size, 0, none⟩), .pointer (some ⟨w.heap.size + 1, 0, none⟩), .pointer (some ⟨w.heap.size + 1 + 1, 0, none⟩), .pointer (some ⟨w.heap.size + 1 + 1 + 1, 0, none⟩), .int .i64 (i : Int), .int .u32 ((wrd MW (nums bs) i : Nat) : Int), undef, undef, .agg (wsv s), .agg (byv bs), .func (.func 96) #[] #[.pointer (some ⟨w.heap.size + 1 + 1 + 1 + 1, 0, none⟩)], .int .i64 (i : Int), .int .u32 ((wrd MW (nums bs) i : Nat) : Int), undef, undef, undef, undef, undef, undef, undef, undef, undef, undef, undef, undef, undef, undef, undef, undef, undef, undef, undef, undef], defers := [] }) ?assign ?body ?done
  case assign =>
    intro l x W K hK
    gi_wp2
    exact hK
  case body =>
    clear HG1 HP1
    rintro l i W hI hi
    obtain ⟨x, hx⟩ : ∃ x, x = rds MW 1 (nums bs) s i := ⟨_, rfl⟩
    have hxo : x.Ok := by rw [hx]; exact rds_ok hs 1 (nums bs) i
    obtain ⟨v, hv⟩ : ∃ v, v = wrd MW (nums bs) i := ⟨_, rfl⟩
    have hvl : v ≤ MW := by rw [hv]; exact wrd_le (nums_bys bs) i
    have hnx : rds MW 1 (nums bs) s (i + 1) = x.step MW ((kws.getD i 0 * 1 + v) &&& MW) := by rw [rds, ← hx, ← hv]
    obtain ⟨k, hk⟩ : ∃ k, k = kws.getD i 0 := ⟨_, rfl⟩
    have hkl : k ≤ MW := by rw [hk]; exact kws_le i
    have ck := hI.tbl.rw i hi
    rw [← hk] at ck hnx
    rw [← hx] at hI
    rw [← hv]
    obtain ⟨ns, hns⟩ : ∃ ns, ns = wsv x := ⟨_, rfl⟩
    obtain ⟨cs, hcs⟩ : ∃ cs, cs = wsv (x.step MW ((k * 1 + v) &&& MW)) := ⟨_, rfl⟩
    have HNOW := Lib.hid (show Blk W.drew (w.heap.size + 3) 93 ns by rw [hns]; exact hI.now.drew)
    have HNZ := Lib.hid (show (Tryd.prog.info? 93).map (·.size) = some ns.size by rw [hns]; exact eight_size)
    have hi1 : (i : Int) < 64 := by omega
    have hi0 : (0 : Int) ≤ i := by omega
    have hmo : Tryd.prog.follows Departure.mixedOrders = true := by kernel_rfl
    have HS := Lib.hid (fun (w' : World) (b : Below W.drew.heap.size W.drew w') => (hI.now.drew.below b hI.now.lt).storeC cs (by rw [hcs]; rfl) (by rw [hcs]; exact wsv_one _))
    have hsum : ((k : Int) + (v : Int)) % 4294967296 = (((k * 1 + v) &&& MW : Nat) : Int) := by rw [and_MW]; omega
    have HR := Lib.hid (fun (w' : World) => round_of x ((k * 1 + v) &&& MW) ns cs hns hcs hxo (MW_le _) w')
    have HI := Lib.hid hI
    have HNX := Lib.hid hnx
    have HCS := Lib.hid hcs
    obtain ⟨y, hy⟩ : ∃ y : Nat, y = ((k * 1 + v) &&& MW) := ⟨_, rfl⟩
    rw [← hy] at hsum HR
    clear hx hv hk hI hns hcs hy hnx hxo hvl hkl
    gi_wp2_with fail
    refine round_tail 6 hmo (by kernel_rfl) (by kernel_rfl) (fun ⟨_, _, h⟩ => h) ?_
    simp only [List.take_succ_cons, List.take_zero, List.drop_succ_cons, List.drop_zero]
    refine still_row rfl 93 _ rfl (w.heap.size + 3) rfl 93 ns _ HNOW.out eight_under rfl HNZ.out ?_
    repeat still_step
    refine wpStill_nil ?_
    change wpList _ _ _ _ _ W.drew
    rw [show IntKind.u32.wrap ((k : Int) + (v : Int)) = ((y : Nat) : Int) by rw [IntKind.wrap_u32', hsum]]
    go_wp2_with fail
    refine (HR.out _).mono ?_
    rintro e w' ⟨rfl, bel⟩
    have hw3 : w.heap.size + 3 < W.drew.heap.size := HI.out.now.lt
    have b' : Below W.heap.size W w' := (below_drewN (Below.refl _ W) 1).trans bel
    have HIw := Lib.hid (HI.out.below b' hw3 h1)
    have HCZ := Lib.hid (show (Tryd.prog.info? 93).map (·.size) = some cs.size by rw [HCS.out]; exact eight_size)
    have HCO := Lib.hid (show (wsv x).size = cs.size by rw [HCS.out]; rfl)
    have HC1 := Lib.hid (show cs.all (·.oneCell') = true by rw [HCS.out]; exact wsv_one _)
    have HB' := Lib.hid b'
    clear hw3 b' bel HI HR HS HNOW HNZ ck hsum hmo
    go_wp2_with (refine wpList_store_row rfl 93 (.tmp 5) (.tmp 21) rfl (w.heap.size + 3) cs rfl rfl 93 _ HIw.out.now HCZ.out HCO.out HC1.out ?_)
    have P' := HIw.out.put cs _ HCS.out h1
    rw [← HNX.out] at P'
    exact ⟨⟨by simpa using HB'.out.size, fun q hq hne => (setRow_other w' _ _ _ hne).trans (HB'.out.block q hq)⟩, P'⟩
  case done =>
    clear HG1 HP1
    rintro D W hD hI hK
    rw [hz1] at hD
    obtain ⟨r, hr⟩ : ∃ r, r = rds MW 1 (nums bs) s 64 := ⟨_, rfl⟩
    have hcmp : cmp s bs = r.plus MW s := by rw [hr]; rfl
    rw [← hr] at hI
    have F0 : Fin r s w W D 0 := ⟨hI.res, by rw [mixw_zero]; exact hI.now, hI.bel, hK⟩
    have HOLD := Lib.hid hI.old
    have HF0 := Lib.hid F0
    have HCMP := Lib.hid hcmp
    clear hr hcmp hI hK F0
    gi_wp2_with (refine wpListIn_row rfl 93 _ rfl w.heap.size ?_ 93 (wsv s) _ ?_ eight_under rfl ?_ ?_; rfl; exact HOLD.out; exact eight_size)
    gi_loopw [23] (fun i wr => ∃ j : Nat, j ≤ 8 ∧ i = .int .i64 (j : Int) ∧ Fin r s w wr D j) (fun i _ => 8 - (intOf i).toNat)
    case atStart => exact ⟨0, by decide, rfl, HF0.out⟩
    case round =>
      clear HF0 HOLD
      obtain ⟨j, hj, rfl, hF⟩ := hrel
      by_cases hlt : j < 8
      · have ix := fun W => eight_index s j hlt W
        have c : wr.cell? ⟨w.heap.size + 1 + 1 + 1, j, none⟩ = some (.int .u32 ((r.list.getD j 0 : Nat) : Int)) := by rw [← mixw_get r s j hlt]; exact (hF.now.cell j).trans (wov_get _ j (by rw [mixw_length]; exact hlt))
        have f : wr.frozen? ⟨w.heap.size + 1 + 1 + 1, j, none⟩ = false := hF.now.frozen j
        have HN := Lib.hid (hF.next hlt hD)
        obtain ⟨x, hx⟩ : ∃ x, x = r.list.getD j 0 := ⟨_, rfl⟩
        obtain ⟨y, hy⟩ : ∃ y, y = s.list.getD j 0 := ⟨_, rfl⟩
        rw [← hx] at c HN
        rw [← hy] at ix HN
        clear hx hy hF
        gi_wp2
        go_roundw
        case rel => exact ⟨j + 1, by omega, by go_num, by rw [show ((x : Int) + y) % 4294967296 = (((x + y) &&& MW : Nat) : Int) by rw [and_MW]; omega]; exact HN.out⟩
        case measure => simp [intOf]; omega
      · obtain rfl : j = 8 := by omega
        obtain ⟨cs, hcs⟩ : ∃ cs, cs = wov (mixw r s 8) := ⟨_, rfl⟩
        have hce : cs = wsv (cmp s bs) := by rw [hcs, mixw_all, HCMP.out]; rfl
        have HNOW := Lib.hid (show Blk wr (w.heap.size + 3) 93 cs by rw [hcs]; exact hF.now)
        have HF := Lib.hid hF
        have HCE := Lib.hid hce
        have HCZ := Lib.hid (show (Tryd.prog.info? 93).map (·.size) = some cs.size by rw [hce]; exact eight_size)
        have HCO := Lib.hid (show (wsv ⟨0, 0, 0, 0, 0, 0, 0, 0⟩).size = cs.size by rw [hce]; rfl)
        have HC1 := Lib.hid (show cs.all (·.oneCell') = true by rw [hce]; exact wsv_one _)
        have HROW := Lib.hid (show Blk (wr.setRow (w.heap.size + 2) cs) (w.heap.size + 2) 93 cs from setRow_heap _ _ _ _ _ _ hF.res)
        clear hcs hce hF hlt
        gi_wp2_with (first
          | (refine wpListIn_row rfl 93 _ rfl (w.heap.size + 3) ?_ 93 cs _ ?_ eight_under rfl ?_ ?_; rfl; exact HNOW.out; exact HCZ.out)
          | (refine wpListIn_put rfl 93 (.tmp 4) (.tmp 34) rfl (w.heap.size + 2) cs rfl rfl 93 _ HF.out.res HCZ.out HCO.out HC1.out ?_))
        have HDF := Lib.hid ((setRow_other wr (w.heap.size + 2) D cs (by omega)).trans HF.out.dfr)
        have HBL := Lib.hid (below_setRow HF.out.bel (by omega : w.heap.size ≤ w.heap.size + 2) cs)
        have HRW := Lib.hid (show Blk ((wr.setRow (w.heap.size + 2) cs).putObj D (.deferred none)) (w.heap.size + 2) 93 cs from HROW.out.same (World.putObj_heap_other (by omega)))
        refine ⟨by simp, .inl ⟨_, _, rfl, run_takeDeferred HDF.out, ?_⟩⟩
        refine ⟨_, results_cell_row rfl _ _ (w.heap.size + 2) 93 cs (0, 0) _ rfl HRW.out eight_under rfl HCZ.out, ?_, HBL.out.trans (below_putObj _ _ _ (by omega))⟩
        rw [HCE.out]

/-- What a block makes of eight words. -/
theorem process_any (s : Ws) (bs : List UInt8) (w : World) (hs : s.Ok) (hl : bs.length = 64) (ht : Tbl w) :
    Calls Tryd.prog 69 #[.agg (wsv s), .agg (byv bs)] w fun e w' => e = .returned (.agg (wsv (cmp s bs))) ∧ Below w.heap.size w w' := callsIn_wide.1 (process_in s bs w hs hl ht)
end Go.Proofs.YtcbakfnpbhgjoaaDoor
