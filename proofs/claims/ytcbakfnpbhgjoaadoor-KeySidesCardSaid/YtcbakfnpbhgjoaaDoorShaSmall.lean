/-
  What the small functions of package sha answer, each by its walk: New, Len, Copy, inBytes.
-/
import Derived.Test.YtcbakfnpbhgjoaaDoorShaMem
namespace Go.Proofs.YtcbakfnpbhgjoaaDoor
open Go.ChangeShapes Go.WideShapes Go.ChangeAt Go.RowKit
set_option linter.unusedVariables false

theorem hash_size : (Tryd.prog.info? 97).map (·.size) = some 73 := by kernel_rfl
/-- A hash to which nothing was ever laid. -/
abbrev hzero : Array Value := hcs ⟨0, 0, 0, 0, 0, 0, 0, 0⟩ (List.replicate 64 0) 0
theorem hash_zero (w : World) : (zeroValue 97).run Tryd.prog w = .ok (.agg hzero) w := by kernel_rfl
theorem digest_size : (Tryd.prog.info? 32).map (·.size) = some 32 := by kernel_rfl
theorem digest_under : Tryd.prog.underlying 32 = some (.array (Tryd.prog.arrayLen 32) (Tryd.prog.elem 32)) := by kernel_rfl

set_option maxRecDepth 100000 in
theorem New_any (w : World) (ht : Tbl w) :
    Calls Tryd.prog 45 #[] w fun e w' => e = .returned (.pointer (some ⟨w.heap.size, 0, none⟩)) ∧ Hsh w' w.heap.size [] ∧ Below w.heap.size w w' := by
  have c0 : w.cell? ⟨0, 0, none⟩ = some (.int .u32 1779033703) := ht.iw 0 (by decide)
  have c1 : w.cell? ⟨0, 1, none⟩ = some (.int .u32 3144134277) := ht.iw 1 (by decide)
  have c2 : w.cell? ⟨0, 2, none⟩ = some (.int .u32 1013904242) := ht.iw 2 (by decide)
  have c3 : w.cell? ⟨0, 3, none⟩ = some (.int .u32 2773480762) := ht.iw 3 (by decide)
  have c4 : w.cell? ⟨0, 4, none⟩ = some (.int .u32 1359893119) := ht.iw 4 (by decide)
  have c5 : w.cell? ⟨0, 5, none⟩ = some (.int .u32 2600822924) := ht.iw 5 (by decide)
  have c6 : w.cell? ⟨0, 6, none⟩ = some (.int .u32 528734635) := ht.iw 6 (by decide)
  have c7 : w.cell? ⟨0, 7, none⟩ = some (.int .u32 1541459225) := ht.iw 7 (by decide)
  clear ht
  go_enter Tryd.func45, Tryd.ntmps45
  go_wp2_with (refine wpList_yields rfl (.build 97 #[(0, .tmp 1)]) rfl (.agg (hcs ws0 (List.replicate 64 0) 0)) ?_ ?_; kernel_rfl)
  go_ret
  refine ⟨rfl, ⟨List.replicate 64 0, rfl, rfl, ?_⟩, (Below.refl _ w).alloc (Nat.le_refl _) _⟩
  exact Blk.new w _ _

theorem Copy_nil (w : World) :
    Calls Tryd.prog 90 #[.pointer none] w fun e w' => e = .returned (.pointer none) ∧ w = w' := by
  go_enter Tryd.func90, Tryd.ntmps90
  go_wp2
  go_ret; exact ⟨rfl, rfl⟩

set_option maxRecDepth 100000 in
theorem Copy_any (g : Nat) (l : List UInt8) (w : World) (h : Hsh w g l) :
    Calls Tryd.prog 90 #[.pointer (some ⟨g, 0, none⟩)] w fun e w' => e = .returned (.pointer (some ⟨w.heap.size, 0, none⟩)) ∧ Hsh w' w.heap.size l ∧ Below w.heap.size w w' := by
  obtain ⟨rest, hl, hr, hb⟩ := h
  obtain ⟨cs, hcs'⟩ : ∃ cs, cs = hcs (blks (l.length / 64) ws0 l) rest l.length := ⟨_, rfl⟩
  have hz : (Tryd.prog.info? 97).map (·.size) = some cs.size := by rw [hcs', hcs_size, hl]; exact hash_size
  rw [← hcs'] at hb
  have HB := Lib.hid hb
  have HZ := Lib.hid hz
  have HCS := Lib.hid hcs'
  have hzv := hash_zero
  have hzz : hzero.size = 73 := rfl
  obtain ⟨zs, hzs⟩ : ∃ zs, zs = hzero := ⟨_, rfl⟩
  rw [← hzs] at hzv hzz
  clear hb hz hcs' hzs
  go_enter Tryd.func90, Tryd.ntmps90
  have hzo : zs.size = cs.size := by rw [hzz, HCS.out, hcs_size, hl]
  have h1 : cs.all (·.oneCell') = true := by
    rw [HCS.out, Array.all_eq_true_iff_forall_mem]
    intro v hv
    simp only [hcs, List.mem_toArray, List.mem_append] at hv
    rcases hv with (hv | hv) | hv
    · exact (Array.all_eq_true_iff_forall_mem.1 (wsv_one _)) v (by simpa using hv)
    · exact (Array.all_eq_true_iff_forall_mem.1 (byv_one _)) v (by simpa using hv)
    · simp only [List.mem_singleton] at hv; subst hv; rfl
  have HZO := Lib.hid hzo
  have H1 := Lib.hid h1
  have HN := Lib.hid (Blk.new w 97 zs)
  have HR := Lib.hid (show Blk ((w.alloc (.cells zs 97)).setRow w.heap.size cs) w.heap.size 97 cs from setRow_heap _ _ _ _ _ _ (Blk.new w 97 zs))
  have HBL := Lib.hid (below_setRow ((Below.refl w.heap.size w).alloc (Nat.le_refl _) (.cells zs 97)) (Nat.le_refl _) cs)
  clear hzo h1 hzz
  go_wp2_with (first
    | refine wpList_load_row rfl 97 _ rfl g rfl 97 cs (0, 0) _ HB.out Tryd.underlying97 rfl HZ.out ?_
    | refine wpList_store_row rfl 97 (.tmp 3) (.tmp 8) rfl w.heap.size cs rfl rfl 97 zs HN.out HZ.out HZO.out H1.out ?_)
  go_ret
  exact ⟨rfl, ⟨rest, hl, hr, by rw [← HCS.out]; exact HR.out⟩, HBL.out⟩

/-- The bytes of eight words, one by one. -/
theorem dgb_get (s : Ws) (j : Nat) (hj : j < 32) : (dgb s)[j]'(by rw [dgb_length]; exact hj) = UInt8.ofNat (s.list.getD (j / 4) 0 >>> (8 * (3 - j % 4))) := by simp [dgb]
theorem take_zeros (l : List UInt8) (n j : Nat) (hl : l.length = n) (hj : j < n) : (l.take j ++ List.replicate (n - j) 0).set j (l[j]'(by omega)) = l.take (j + 1) ++ List.replicate (n - (j + 1)) 0 := by
  have e : n - j = (n - (j + 1)) + 1 := by omega
  rw [List.set_append_right _ _ (by rw [List.length_take]; exact Nat.min_le_left _ _), List.length_take, Nat.min_eq_left (by omega), Nat.sub_self, e, List.replicate_succ, List.set_cons_zero, List.take_succ_eq_append_getElem (by omega), List.append_assoc]
  rfl
theorem ofNat_mod (n : Nat) : ((UInt8.ofNat n).toNat : Int) = (n : Int) % 256 := by simp

set_option maxHeartbeats 2000000 in
set_option maxRecDepth 100000 in
theorem inBytes_any (s : Ws) (w : World) (hs : s.Ok) :
    Calls Tryd.prog 71 #[.agg (wsv s)] w fun e w' => e = .returned (.agg (byv (dgb s))) ∧ Below w.heap.size w w' := by
  have hz : (#[.int .u8 0, .int .u8 0, .int .u8 0, .int .u8 0, .int .u8 0, .int .u8 0, .int .u8 0, .int .u8 0, .int .u8 0, .int .u8 0, .int .u8 0, .int .u8 0, .int .u8 0, .int .u8 0, .int .u8 0, .int .u8 0, .int .u8 0, .int .u8 0, .int .u8 0, .int .u8 0, .int .u8 0, .int .u8 0, .int .u8 0, .int .u8 0, .int .u8 0, .int .u8 0, .int .u8 0, .int .u8 0, .int .u8 0, .int .u8 0, .int .u8 0, .int .u8 0] : Array Value) = byv (List.replicate 32 0) := rfl
  have e1 : (w.alloc (.cells (wsv s) 93)).heap.size = w.heap.size + 1 := World.size_alloc _ _
  have e2 : ((w.alloc (.cells (wsv s) 93)).alloc (.cells (byv (List.replicate 32 0)) 32)).heap.size = w.heap.size + 2 := by rw [World.size_alloc, e1]
  obtain ⟨W0, hW0⟩ : ∃ W0, W0 = ((w.alloc (.cells (wsv s) 93)).alloc (.cells (byv (List.replicate 32 0)) 32)).alloc (.cells (byv (List.replicate 32 0)) 32) := ⟨_, rfl⟩
  have k0 : Blk W0 w.heap.size 93 (wsv s) := by rw [hW0]; exact ((Blk.new w _ _).alloc _).alloc _
  have k1 : Blk W0 (w.heap.size + 1) 32 (byv (List.replicate 32 0)) := by rw [hW0, ← e1]; exact (Blk.new _ _ _).alloc _
  have k2 : Blk W0 (w.heap.size + 2) 32 (byv (List.replicate 32 0)) := by rw [hW0, ← e2]; exact Blk.new _ _ _
  have kb : Below w.heap.size w W0 := by rw [hW0]; exact (((Below.refl _ w).alloc (Nat.le_refl _) _).alloc (by rw [e1]; omega) _).alloc (by rw [e2]; omega) _
  have K0 := Lib.hid k0
  have K1 := Lib.hid k1
  have K2 := Lib.hid k2
  have KB := Lib.hid kb
  have HZ := Lib.hid hz
  clear e1 e2 k0 k1 k2 kb hz
  go_enter Tryd.func71, Tryd.ntmps71
  go_wp2
  rw [HZ.out]
  rw [← hW0]
  clear hW0 HZ
  go_loopw [6] (fun i wr => ∃ j : Nat, j ≤ 32 ∧ i = .int .i64 (j : Int) ∧ Blk wr w.heap.size 93 (wsv s) ∧ Blk wr (w.heap.size + 1) 32 (byv (List.replicate 32 0)) ∧ Blk wr (w.heap.size + 2) 32 (byv ((dgb s).take j ++ List.replicate (32 - j) 0)) ∧ Below w.heap.size w wr) (fun i _ => 32 - (intOf i).toNat)
  case atStart => exact ⟨0, by decide, rfl, K0.out, K1.out, K2.out, KB.out⟩
  case round =>
    clear K0 K1 K2 KB
    obtain ⟨j, hj, rfl, h0, h1, h2, hb⟩ := hrel
    by_cases hlt : j < 32
    · have c0 : wr.cell? ⟨w.heap.size, j / 4, none⟩ = some (.int .u32 ((s.list.getD (j / 4) 0 : Nat) : Int)) := (h0.cell _).trans (by rw [wsv_list]; exact wov_get _ _ (by rw [Ws.list_length]; omega))
      have hl2 : ((dgb s).take j ++ List.replicate (32 - j) 0).length = 32 := by simp [dgb_length]; omega
      have c2 : wr.cell? ⟨w.heap.size + 1 + 1, j, none⟩ = some (.int .u8 ((((dgb s).take j ++ List.replicate (32 - j) 0)[j]'(by omega)).toNat : Int)) := (h2.cell j).trans (byv_get _ j (by omega))
      have f2 : wr.frozen? ⟨w.heap.size + 1 + 1, j, none⟩ = false := h2.frozen j
      have hn := h2.set_ j (.int .u8 (((dgb s)[j]'(by rw [dgb_length]; exact hlt)).toNat : Int))
      rw [byv_set, take_zeros (dgb s) 32 j (dgb_length s) hlt, dgb_get s j hlt, ofNat_mod] at hn
      obtain ⟨x, hx⟩ : ∃ x, x = s.list.getD (j / 4) 0 := ⟨_, rfl⟩
      rw [← hx] at c0 hn
      have hsh : 8 * (3 - (j : Int) % 4) = ((8 * (3 - j % 4) : Nat) : Int) := by omega
      obtain ⟨sh, hsh'⟩ : ∃ sh, sh = 8 * (3 - j % 4) := ⟨_, rfl⟩
      have hsl : sh ≤ 24 := by omega
      rw [← hsh'] at hsh hn
      rw [Nat.shiftRight_eq_div_pow, Int.natCast_ediv, Int.natCast_pow] at hn
      have HN := Lib.hid hn
      have H0 := Lib.hid h0
      have H1 := Lib.hid h1
      have HB := Lib.hid hb
      obtain ⟨v, hv⟩ : ∃ v, v = Value.int .u8 ((((dgb s).take j ++ List.replicate (32 - j) 0)[j]'(by omega)).toNat : Int) := ⟨_, rfl⟩
      rw [← hv] at c2
      clear hx hsh' hn h0 h1 h2 hb hl2 hv
      go_wp2
      go_roundw
      case rel => exact ⟨j + 1, by omega, by go_num, H0.out.same (Below.heap_setCell _ _ _ _ (by simp; omega)), H1.out.same (Below.heap_setCell _ _ _ _ (by simp)), HN.out, HB.out.setCell (p := ⟨w.heap.size + 1 + 1, j, none⟩) (by simp; omega) _⟩
      case measure => simp [intOf]; omega
    · obtain rfl : j = 32 := by omega
      rw [List.take_of_length_le (by rw [dgb_length]; omega), Nat.sub_self, List.replicate_zero, List.append_nil] at h2
      have H1 := Lib.hid h1
      have H2 := Lib.hid h2
      have HZ := Lib.hid (show (Tryd.prog.info? 32).map (·.size) = some (byv (dgb s)).size by rw [byv_size, dgb_length]; exact digest_size)
      have HO := Lib.hid (show (byv (List.replicate 32 0)).size = (byv (dgb s)).size by rw [byv_size, byv_size, dgb_length]; rfl)
      have HR := Lib.hid (show Blk (wr.setRow (w.heap.size + 1) (byv (dgb s))) (w.heap.size + 1) 32 (byv (dgb s)) from setRow_heap _ _ _ _ _ _ h1)
      have HB := Lib.hid (below_setRow hb (by omega : w.heap.size ≤ w.heap.size + 1) (byv (dgb s)))
      clear h0 h1 h2 hb hlt
      obtain ⟨cs, hcs⟩ : ∃ cs, cs = byv (dgb s) := ⟨_, rfl⟩
      have H1c := Lib.hid (show cs.all (·.oneCell') = true by rw [hcs]; exact byv_one _)
      rw [← hcs] at H2 HZ HO HR HB
      have HCE := Lib.hid hcs
      clear hcs
      go_wp2_with (first
        | refine wpList_load_row rfl 32 _ rfl (w.heap.size + 2) rfl 32 cs (0, 0) _ H2.out digest_under rfl HZ.out ?_
        | refine wpList_store_row rfl 32 (.tmp 2) (.tmp 23) rfl (w.heap.size + 1) cs rfl rfl 32 _ H1.out HZ.out HO.out H1c.out ?_)
      refine bodyPost_ret (results_cell_row rfl _ _ (w.heap.size + 1) 32 cs (0, 0) _ rfl HR.out digest_under rfl HZ.out) rfl ⟨by rw [HCE.out], HB.out⟩
end Go.Proofs.YtcbakfnpbhgjoaaDoor
