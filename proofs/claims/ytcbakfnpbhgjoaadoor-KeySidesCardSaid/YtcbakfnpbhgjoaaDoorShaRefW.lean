/-
  The document's own words of a block (plaitref06.words), by its walk.
-/
import Derived.Test.YtcbakfnpbhgjoaaDoorShaRefP
import Derived.Test.YtcbakfnpbhgjoaaDoorHeldSteps
import Derived.Deep.AppendLies
namespace Go.Proofs.YtcbakfnpbhgjoaaDoor
open Go.ChangeShapes Go.WideShapes Go.ChangeAt Go.RowKit
set_option linter.unusedVariables false

/-- Bytes in memory, from a place on. -/
def Bat (W : World) (g o : Nat) (l : List UInt8) : Prop := g < W.heap.size ∧ ∀ (j : Nat) (h : j < l.length), W.cell? ⟨g, o + j, none⟩ = some (.int .u8 (l[j].toNat : Int))
theorem Bat.below {B : Nat} {W W' : World} {g o : Nat} {l : List UInt8} (h : Bat W g o l) (b : Below B W W') (hg : g < B) : Bat W' g o l :=
  ⟨Nat.lt_of_lt_of_le h.1 b.size, fun j hj => (World.cell?_of_block (a := ⟨g, o + j, none⟩) (b.block g hg)).trans (h.2 j hj)⟩
def wlist (bl : List UInt8) (t : Nat) : List Nat := (List.range t).map (wrd MW (nums bl))
theorem wlist_succ (bl : List UInt8) (t : Nat) : wlist bl (t + 1) = wlist bl t ++ [wrd MW (nums bl) t] := by simp [wlist, List.range_succ]
theorem wlist_length (bl : List UInt8) (t : Nat) : (wlist bl t).length = t := by simp [wlist]
theorem u64s_snoc (l : List Nat) (x : Nat) : (u64s (l ++ [x])).toList = (u64s l).toList ++ [.int .u64 (x : Int)] := by simp [u64s]
theorem u64_info : (Tryd.prog.info? 22).map (fun i => (i.zero, i.size, i.bytes)) = some (some (.int .u64 0), 1, 8) := by kernel_rfl
theorem bytes_at (g o cap p : Nat) (hp : p < 64) (w : World) : (Instr.indexAt 35 (.slice (some ⟨g, o, none⟩) 64 cap) (.int .i64 (p : Int))).run Tryd.prog w = .ok (.pointer (some ⟨g, o + p, none⟩)) w := by
  rw [run_indexAt_slice w _ _ _ _ _ _ (by kernel_rfl), if_pos ⟨by omega, by omega⟩]
  have e2 : Tryd.prog.elem 35 = 5 := by kernel_rfl
  have e4 : (sizeOf 5).run Tryd.prog w = .ok 1 w := by kernel_rfl
  rw [e2, e4]
  have e3 : (⟨g, o, none⟩ : Addr).add p = ⟨g, o + p, none⟩ := by unfold Addr.add; split <;> simp_all
  simp [e3]
theorem one_cell (wr : World) (u : Value) (t : TypeId) : ∀ j v, [u][j]? = some v → (wr.alloc (.cells #[u] t)).cell? ((⟨wr.heap.size, 0, none⟩ : Addr).add j) = some v := by
  intro j v hv
  have hj : j = 0 := by
    have := (List.getElem?_eq_some_iff.1 hv).1
    simpa using this
  subst hj
  injection hv with hv
  subst hv
  exact (Blk.new wr t #[u]).cell 0
theorem dq_trans {a b c : World} (h : ∃ n, b = a.drewN n) (k : ∃ n, c = b.drewN n) : ∃ n, c = a.drewN n := by
  obtain ⟨n, rfl⟩ := h
  obtain ⟨m, rfl⟩ := k
  exact ⟨n + m, by simp [World.drewN, Nat.add_assoc]⟩
theorem shd_div (k x : Nat) (hx : x ≤ MW) : shd MW k x = x / 2 ^ k := by
  unfold shd
  have := Nat.div_le_self x (2 ^ k)
  rw [and_MW, Nat.shiftRight_eq_div_pow, Nat.mod_eq_of_lt (by unfold MW at hx; omega)]
theorem moved_shd (k x : Nat) (hk : k ≤ 62) (hx : x ≤ MW) (w : World) :
    Calls Tryd.prog 91 #[.int .u64 (x : Int), .int .i64 (k : Int)] w fun e w' => e = .returned (.int .u64 ((shd MW k x : Nat) : Int)) ∧ ∃ n, w' = w.drewN n := by
  rw [shd_div k x hx]
  exact (moved_any k x hk (by unfold MW at hx; omega) w).mono fun e w' h => ⟨h.1, 0, h.2 ▸ rfl⟩
theorem xor3_le (a b c : Nat) (ha : a ≤ MW) (hb : b ≤ MW) (hc : c ≤ MW) : a ^^^ b ^^^ c ≤ MW := by
  have la : a < 2 ^ 32 := by unfold MW at ha; omega
  have lb : b < 2 ^ 32 := by unfold MW at hb; omega
  have lc : c < 2 ^ 32 := by unfold MW at hc; omega
  have := Nat.xor_lt_two_pow (Nat.xor_lt_two_pow la lb) lc
  unfold MW; omega
theorem nats_at (g n cap p : Nat) (hp : p < n) (w : World) : (Instr.indexAt 105 (.slice (some ⟨g, 0, none⟩) n cap) (.int .i64 (p : Int))).run Tryd.prog w = .ok (.pointer (some ⟨g, p, none⟩)) w := by
  rw [run_indexAt_slice w _ _ _ _ _ _ (by kernel_rfl), if_pos ⟨by omega, by omega⟩]
  have e2 : Tryd.prog.elem 105 = 22 := by kernel_rfl
  have e4 : (sizeOf 22).run Tryd.prog w = .ok 1 w := by kernel_rfl
  rw [e2, e4]
  have e3 : (⟨g, 0, none⟩ : Addr).add p = ⟨g, p, none⟩ := by unfold Addr.add; split <;> simp_all
  simp [e3]
theorem own_more {B t cap g cap2 g2 : Nat} {W W2 : World} {l l2 : List Nat} {x z : Nat} {cur cur2 : Array Value} {fz2 : Nat × Nat} (h : W.ownsRow B 22 1 (.slice (some ⟨g, 0, none⟩) t cap) t (u64s l).toList) (hg : W.heap[g]? = some (.cells cur 22 (0, 0)))
    (hl : l2 = l ++ [x]) (hz : z = x) (hB : B ≤ g2) (hg2 : W2.heap[g2]? = some (.cells cur2 22 fz2)) (hf : fz2 = (0, 0) ∨ fz2 = (0, 0)) (hn : t + 1 ≤ cap2) (hc : cap ≤ maxLen → cap2 ≤ maxLen) (hs : cur2.size = cap2) (ht : cur2.toList.take (t + 1) = cur.toList.take t ++ [.int .u64 (z : Int)]) :
    W2.ownsRow B 22 1 (.slice (some ⟨g2, 0, none⟩) (t + 1) cap2) (t + 1) (u64s l2).toList := by
  have hf' : fz2 = (0, 0) := hf.elim id id
  subst hf' hl hz
  have h0 := h.1
  rcases h.2 with ⟨hv, _⟩ | ⟨g', cap', cur', hv, _, hg', _, hcm, _, htk⟩
  · cases hv
  · injection hv with hv1 _ hv3
    injection hv1 with hv1
    injection hv1 with hv1 _ _
    subst hv1 hv3
    rw [hg] at hg'
    injection hg' with hg'
    injection hg' with hg' _ _
    subst hg'
    refine ⟨by rw [u64s_snoc, List.length_append, h0]; simp, .inr ⟨g2, cap2, cur2, rfl, hB, hg2, hn, hc hcm, by omega, ?_⟩⟩
    rw [Nat.mul_one] at htk ⊢
    rw [ht, htk, u64s_snoc]
theorem own_form {B n : Nat} {W : World} {v : Value} {l : List Nat} (h : W.ownsRow B 22 1 v n (u64s l).toList) (hn : 0 < n) (hl : l.length = n) :
    ∃ g cap cur, v = .slice (some ⟨g, 0, none⟩) n cap ∧ B ≤ g ∧ W.heap[g]? = some (.cells cur 22 (0, 0)) ∧ n ≤ cap ∧ cur.size = cap ∧ ∀ j (hj : j < n), W.cell? ⟨g, j, none⟩ = some (.int .u64 ((l[j]'(by omega) : Nat) : Int)) := by
  rcases h.2 with ⟨_, h0⟩ | ⟨g, cap, cur, rfl, hb, hg, h1, h2, h3, h4⟩
  · omega
  · refine ⟨g, cap, cur, rfl, hb, hg, h1, by omega, fun j hj => ?_⟩
    have e1 : (cur.toList.take (n * 1))[j]? = (u64s l).toList[j]? := by rw [h4]
    rw [List.getElem?_take_of_lt (by omega)] at e1
    rw [cell_of_row W g j cur _ (0, 0) hg, ← Array.getElem?_toList, e1]
    simp [u64s, show j < l.length by omega]
set_option maxRecDepth 100000 in
set_option maxHeartbeats 4000000 in
theorem words_ref (g o cap : Nat) (bl : List UInt8) (hbl : bl.length = 64) (w : World) (h : Bat w g o bl) :
    Calls Tryd.prog 77 #[.slice (some ⟨g, o, none⟩) 64 cap] w fun e w' => ∃ v, e = .returned v ∧ w'.ownsRow w.heap.size 22 1 v 64 (u64s (wlist bl 64)).toList ∧ Below w.heap.size w w' := by
  have HB := Lib.hid h
  have hg := h.1
  clear h
  have TW24 : ∀ w, Calls Tryd.prog 60 #[.int .i64 24] w fun e w' => e = .returned (.int .u64 16777216) ∧ w = w' := two_any 24 (by decide)
  have TW16 : ∀ w, Calls Tryd.prog 60 #[.int .i64 16] w fun e w' => e = .returned (.int .u64 65536) ∧ w = w' := two_any 16 (by decide)
  have TW8 : ∀ w, Calls Tryd.prog 60 #[.int .i64 8] w fun e w' => e = .returned (.int .u64 256) ∧ w = w' := two_any 8 (by decide)
  go_enter Tryd.func77, Tryd.ntmps77
  go_wp2_with fail
  go_loopw [3, 4] (fun v t wr => ∃ k : Nat, k ≤ 16 ∧ t = .int .i64 (k : Int) ∧ wr.ownsRow w.heap.size 22 1 v k (u64s (wlist bl k)).toList ∧ Below w.heap.size w wr) (fun _ t _ => 16 - (intOf t).toNat)
  case atStart => exact ⟨0, by decide, rfl, World.ownsRow_nil _ _ _ _, Below.refl _ _⟩
  case round =>
    obtain ⟨t, ht, rfl, hown, hbel⟩ := hrel
    have HO := Lib.hid hown
    have HBL := Lib.hid hbel
    have hbs := hbel.size
    clear hown hbel
    by_cases hlt : t < 16
    · go_wp2_with fail
      obtain ⟨p0, e0⟩ : ∃ p, p = 4 * t := ⟨_, rfl⟩
      obtain ⟨p1, e1⟩ : ∃ p, p = p0 + 1 := ⟨_, rfl⟩
      obtain ⟨p2, e2⟩ : ∃ p, p = p0 + 2 := ⟨_, rfl⟩
      obtain ⟨p3, e3⟩ : ∃ p, p = p0 + 3 := ⟨_, rfl⟩
      have m4 : IntKind.i64.wrap ((4 : Int) * (t : Int)) = (p0 : Int) := by rw [show (4 : Int) * (t : Int) = (p0 : Int) by omega]; exact IntWalk.i64_in _ (by omega)
      have a1 : IntKind.i64.wrap ((p0 : Int) + (1 : Int)) = (p1 : Int) := by rw [show (p0 : Int) + 1 = (p1 : Int) by omega]; exact IntWalk.i64_in _ (by omega)
      have a2 : IntKind.i64.wrap ((p0 : Int) + (2 : Int)) = (p2 : Int) := by rw [show (p0 : Int) + 2 = (p2 : Int) by omega]; exact IntWalk.i64_in _ (by omega)
      have a3 : IntKind.i64.wrap ((p0 : Int) + (3 : Int)) = (p3 : Int) := by rw [show (p0 : Int) + 3 = (p3 : Int) by omega]; exact IntWalk.i64_in _ (by omega)
      have I0 := bytes_at g o cap p0 (by omega)
      have I1 := bytes_at g o cap p1 (by omega)
      have I2 := bytes_at g o cap p2 (by omega)
      have I3 := bytes_at g o cap p3 (by omega)
      have hx : wrd MW (nums bl) t = ((bl[p0]'(by omega)).toNat * 256 + (bl[p1]'(by omega)).toNat) * 65536 + (bl[p2]'(by omega)).toNat * 256 + (bl[p3]'(by omega)).toNat := by
        rw [wrd_first MW _ t hlt]
        have gdn : ∀ j (hj : j < bl.length), (nums bl).getD j 0 = (bl[j]).toNat := fun j hj => by simp [nums, hj]
        unfold gvn
        rw [← e0, ← e1, ← e2, ← e3, gdn p0 (by omega), gdn p1 (by omega), gdn p2 (by omega), gdn p3 (by omega)]
        omega
      have L0 : ∀ W, Bat W g o bl → W.cell? ⟨g, o + p0, none⟩ = some (.int .u8 ((bl[p0]'(by omega)).toNat : Int)) := fun W h => h.2 p0 (by omega)
      have L1 : ∀ W, Bat W g o bl → W.cell? ⟨g, o + p1, none⟩ = some (.int .u8 ((bl[p1]'(by omega)).toNat : Int)) := fun W h => h.2 p1 (by omega)
      have L2 : ∀ W, Bat W g o bl → W.cell? ⟨g, o + p2, none⟩ = some (.int .u8 ((bl[p2]'(by omega)).toNat : Int)) := fun W h => h.2 p2 (by omega)
      have L3 : ∀ W, Bat W g o bl → W.cell? ⟨g, o + p3, none⟩ = some (.int .u8 ((bl[p3]'(by omega)).toNat : Int)) := fun W h => h.2 p3 (by omega)
      have l0 := (bl[p0]'(by omega)).toNat_lt
      have l1 := (bl[p1]'(by omega)).toNat_lt
      have l2 := (bl[p2]'(by omega)).toNat_lt
      have l3 := (bl[p3]'(by omega)).toNat_lt
      obtain ⟨b0, f0⟩ : ∃ b, b = (bl[p0]'(by omega)).toNat := ⟨_, rfl⟩
      obtain ⟨b1, f1⟩ : ∃ b, b = (bl[p1]'(by omega)).toNat := ⟨_, rfl⟩
      obtain ⟨b2, f2⟩ : ∃ b, b = (bl[p2]'(by omega)).toNat := ⟨_, rfl⟩
      obtain ⟨b3, f3⟩ : ∃ b, b = (bl[p3]'(by omega)).toNat := ⟨_, rfl⟩
      rw [← f0] at L0 l0 hx
      rw [← f1] at L1 l1 hx
      rw [← f2] at L2 l2 hx
      rw [← f3] at L3 l3 hx
      have c0 : IntKind.u64.wrap (b0 : Int) = (b0 : Int) := by rw [IntKind.wrap_u64]; omega
      have c1 : IntKind.u64.wrap (b1 : Int) = (b1 : Int) := by rw [IntKind.wrap_u64]; omega
      have c2 : IntKind.u64.wrap (b2 : Int) = (b2 : Int) := by rw [IntKind.wrap_u64]; omega
      have c3 : IntKind.u64.wrap (b3 : Int) = (b3 : Int) := by rw [IntKind.wrap_u64]; omega
      obtain ⟨y0, g0⟩ : ∃ y, y = b0 * 16777216 := ⟨_, rfl⟩
      obtain ⟨y1, g1⟩ : ∃ y, y = b1 * 65536 := ⟨_, rfl⟩
      obtain ⟨y2, g2⟩ : ∃ y, y = b2 * 256 := ⟨_, rfl⟩
      have q0 : IntKind.u64.wrap ((b0 : Int) * (16777216 : Int)) = (y0 : Int) := by rw [IntKind.wrap_u64]; omega
      have q1 : IntKind.u64.wrap ((b1 : Int) * (65536 : Int)) = (y1 : Int) := by rw [IntKind.wrap_u64]; omega
      have q2 : IntKind.u64.wrap ((b2 : Int) * (256 : Int)) = (y2 : Int) := by rw [IntKind.wrap_u64]; omega
      obtain ⟨z1, k1⟩ : ∃ y, y = y0 + y1 := ⟨_, rfl⟩
      obtain ⟨z2, k2⟩ : ∃ y, y = z1 + y2 := ⟨_, rfl⟩
      obtain ⟨x, k3⟩ : ∃ y, y = z2 + b3 := ⟨_, rfl⟩
      have s1 : IntKind.u64.wrap ((y0 : Int) + (y1 : Int)) = (z1 : Int) := by rw [IntKind.wrap_u64]; omega
      have s2 : IntKind.u64.wrap ((z1 : Int) + (y2 : Int)) = (z2 : Int) := by rw [IntKind.wrap_u64]; omega
      have s3 : IntKind.u64.wrap ((z2 : Int) + (b3 : Int)) = (x : Int) := by rw [IntKind.wrap_u64]; omega
      have hxx : wrd MW (nums bl) t = x := by rw [hx]; omega
      clear e0 e1 e2 e3 f0 f1 f2 f3 g0 g1 g2 k1 k2 k3 hx l0 l1 l2 l3
      have HS : Bat wr.drew g o bl := HB.out.below (HBL.out.drew) hg
      have HOD : wr.drew.ownsRow w.heap.size 22 1 u3 t (u64s (wlist bl t)).toList := HO.out.kept (drawn_only wr 1 none) (by cases u3.ownBlock <;> simp)
      have HBD : Below w.heap.size w wr.drew := HBL.out.drew
      obtain ⟨W, hW⟩ : ∃ W, W = wr.drew := ⟨_, rfl⟩
      refine held_start (fun W => Bat W g o bl) (by kernel_rfl) (n := 40) rfl ?_
      rw [← hW] at HS HOD HBD ⊢
      clear hW
      have hbW := HBD.size
      have HS2 : Bat (W.alloc (.cells #[.int .u64 (x : Int)] 22)) g o bl := HS.below ((Below.refl _ W).alloc (Nat.le_refl _) _) (by have := HS.1; omega)
      obtain ⟨i0, hi, hz0, hz1, hz2⟩ := info_parts u64_info
      obtain ⟨g', cap', w2, hr, own2, grow2, _, _⟩ := run_append_lies (P := Tryd.prog) (W.alloc (.cells #[.int .u64 (x : Int)] 22)) 105 105 w.heap.size 22 i0 (.int .u64 0) 1 8 Tryd.underlying105 hi hz0 hz1 hz2 rfl (by decide) u3 t _ (HOD.alloc _) ⟨W.heap.size, 0, none⟩ 1 1 [.int .u64 (x : Int)] rfl (one_cell W _ _) (fun u hu => by obtain rfl := List.mem_singleton.1 hu; rfl) (by decide) (by unfold maxLen; omega) (by omega) (by rw [World.size_alloc]; omega) _ rfl
      have bel2 : Below w.heap.size w w2 := (HBD.alloc hbW _).grown grow2 (by rw [World.size_alloc]; omega) (fun k hk => (HOD.lt k hk).1)
      have HS3 : Bat w2 g o bl := HB.out.below bel2 hg
      refine held_free 0 (u3) rfl (by kernel_rfl) (by kernel_rfl) (by kernel_rfl) (by kernel_rfl) HS (fun _ _ => by kernel_rfl) ?_
      refine held_free 1 (.slice (some ⟨g, o, none⟩) 64 cap) rfl (by kernel_rfl) (by kernel_rfl) (by kernel_rfl) (by kernel_rfl) HS (fun _ _ => by kernel_rfl) ?_
      refine held_free 2 (.int .i64 (t : Int)) rfl (by kernel_rfl) (by kernel_rfl) (by kernel_rfl) (by kernel_rfl) HS (fun _ _ => by kernel_rfl) ?_
      refine held_free 3 (.int .i64 (IntKind.i64.wrap ((4 : Int) * (t : Int)))) rfl (by kernel_rfl) (by kernel_rfl) (by kernel_rfl) (by kernel_rfl) HS (fun _ _ => by kernel_rfl) ?_
      rw [m4]
      refine held_free 4 (.pointer (some ⟨g, o + p0, none⟩)) rfl (by kernel_rfl) (by kernel_rfl) (by kernel_rfl) (by kernel_rfl) HS (fun W _ => by refine ex_index rfl ?_ ?_ (I0 W) <;> kernel_rfl) ?_
      refine held_free 5 (.int .u8 (b0 : Int)) rfl (by kernel_rfl) (by kernel_rfl) (by kernel_rfl) (by kernel_rfl) HS (fun W h => by refine ex_load 5 (.tmp 16) ?_ ⟨g, o + p0, none⟩ ?_ ?_ (L0 W h) <;> kernel_rfl) ?_
      refine held_free 6 (.int .u64 (IntKind.u64.wrap (b0 : Int))) rfl (by kernel_rfl) (by kernel_rfl) (by kernel_rfl) (by kernel_rfl) HS (fun _ _ => by kernel_rfl) ?_
      rw [c0]
      refine held_free 9 (.slice (some ⟨g, o, none⟩) 64 cap) rfl (by kernel_rfl) (by kernel_rfl) (by kernel_rfl) (by kernel_rfl) HS (fun _ _ => by kernel_rfl) ?_
      refine held_free 10 (.int .i64 (t : Int)) rfl (by kernel_rfl) (by kernel_rfl) (by kernel_rfl) (by kernel_rfl) HS (fun _ _ => by kernel_rfl) ?_
      refine held_free 11 (.int .i64 (IntKind.i64.wrap ((4 : Int) * (t : Int)))) rfl (by kernel_rfl) (by kernel_rfl) (by kernel_rfl) (by kernel_rfl) HS (fun _ _ => by kernel_rfl) ?_
      rw [m4]
      refine held_free 12 (.int .i64 (IntKind.i64.wrap ((p0 : Int) + (1 : Int)))) rfl (by kernel_rfl) (by kernel_rfl) (by kernel_rfl) (by kernel_rfl) HS (fun _ _ => by kernel_rfl) ?_
      rw [a1]
      refine held_free 13 (.pointer (some ⟨g, o + p1, none⟩)) rfl (by kernel_rfl) (by kernel_rfl) (by kernel_rfl) (by kernel_rfl) HS (fun W _ => by refine ex_index rfl ?_ ?_ (I1 W) <;> kernel_rfl) ?_
      refine held_free 14 (.int .u8 (b1 : Int)) rfl (by kernel_rfl) (by kernel_rfl) (by kernel_rfl) (by kernel_rfl) HS (fun W h => by refine ex_load 5 (.tmp 25) ?_ ⟨g, o + p1, none⟩ ?_ ?_ (L1 W h) <;> kernel_rfl) ?_
      refine held_free 15 (.int .u64 (IntKind.u64.wrap (b1 : Int))) rfl (by kernel_rfl) (by kernel_rfl) (by kernel_rfl) (by kernel_rfl) HS (fun _ _ => by kernel_rfl) ?_
      rw [c1]
      refine held_free 19 (.slice (some ⟨g, o, none⟩) 64 cap) rfl (by kernel_rfl) (by kernel_rfl) (by kernel_rfl) (by kernel_rfl) HS (fun _ _ => by kernel_rfl) ?_
      refine held_free 20 (.int .i64 (t : Int)) rfl (by kernel_rfl) (by kernel_rfl) (by kernel_rfl) (by kernel_rfl) HS (fun _ _ => by kernel_rfl) ?_
      refine held_free 21 (.int .i64 (IntKind.i64.wrap ((4 : Int) * (t : Int)))) rfl (by kernel_rfl) (by kernel_rfl) (by kernel_rfl) (by kernel_rfl) HS (fun _ _ => by kernel_rfl) ?_
      rw [m4]
      refine held_free 22 (.int .i64 (IntKind.i64.wrap ((p0 : Int) + (2 : Int)))) rfl (by kernel_rfl) (by kernel_rfl) (by kernel_rfl) (by kernel_rfl) HS (fun _ _ => by kernel_rfl) ?_
      rw [a2]
      refine held_free 23 (.pointer (some ⟨g, o + p2, none⟩)) rfl (by kernel_rfl) (by kernel_rfl) (by kernel_rfl) (by kernel_rfl) HS (fun W _ => by refine ex_index rfl ?_ ?_ (I2 W) <;> kernel_rfl) ?_
      refine held_free 24 (.int .u8 (b2 : Int)) rfl (by kernel_rfl) (by kernel_rfl) (by kernel_rfl) (by kernel_rfl) HS (fun W h => by refine ex_load 5 (.tmp 35) ?_ ⟨g, o + p2, none⟩ ?_ ?_ (L2 W h) <;> kernel_rfl) ?_
      refine held_free 25 (.int .u64 (IntKind.u64.wrap (b2 : Int))) rfl (by kernel_rfl) (by kernel_rfl) (by kernel_rfl) (by kernel_rfl) HS (fun _ _ => by kernel_rfl) ?_
      rw [c2]
      refine held_free 29 (.slice (some ⟨g, o, none⟩) 64 cap) rfl (by kernel_rfl) (by kernel_rfl) (by kernel_rfl) (by kernel_rfl) HS (fun _ _ => by kernel_rfl) ?_
      refine held_free 30 (.int .i64 (t : Int)) rfl (by kernel_rfl) (by kernel_rfl) (by kernel_rfl) (by kernel_rfl) HS (fun _ _ => by kernel_rfl) ?_
      refine held_free 31 (.int .i64 (IntKind.i64.wrap ((4 : Int) * (t : Int)))) rfl (by kernel_rfl) (by kernel_rfl) (by kernel_rfl) (by kernel_rfl) HS (fun _ _ => by kernel_rfl) ?_
      rw [m4]
      refine held_free 32 (.int .i64 (IntKind.i64.wrap ((p0 : Int) + (3 : Int)))) rfl (by kernel_rfl) (by kernel_rfl) (by kernel_rfl) (by kernel_rfl) HS (fun _ _ => by kernel_rfl) ?_
      rw [a3]
      refine held_free 33 (.pointer (some ⟨g, o + p3, none⟩)) rfl (by kernel_rfl) (by kernel_rfl) (by kernel_rfl) (by kernel_rfl) HS (fun W _ => by refine ex_index rfl ?_ ?_ (I3 W) <;> kernel_rfl) ?_
      refine held_free 34 (.int .u8 (b3 : Int)) rfl (by kernel_rfl) (by kernel_rfl) (by kernel_rfl) (by kernel_rfl) HS (fun W h => by refine ex_load 5 (.tmp 45) ?_ ⟨g, o + p3, none⟩ ?_ ?_ (L3 W h) <;> kernel_rfl) ?_
      refine held_free 35 (.int .u64 (IntKind.u64.wrap (b3 : Int))) rfl (by kernel_rfl) (by kernel_rfl) (by kernel_rfl) (by kernel_rfl) HS (fun _ _ => by kernel_rfl) ?_
      rw [c3]
      refine held_call 7 rfl (by kernel_rfl) (by kernel_rfl) (by kernel_rfl) (TW24 _) (fun w' h => h ▸ HS) ?_
      rintro w' rfl
      refine held_free 8 (.int .u64 (IntKind.u64.wrap ((b0 : Int) * (16777216 : Int)))) rfl (by kernel_rfl) (by kernel_rfl) (by kernel_rfl) (by kernel_rfl) HS (fun _ _ => by kernel_rfl) ?_
      rw [q0]
      refine held_call 16 rfl (by kernel_rfl) (by kernel_rfl) (by kernel_rfl) (TW16 _) (fun w' h => h ▸ HS) ?_
      rintro w' rfl
      refine held_free 17 (.int .u64 (IntKind.u64.wrap ((b1 : Int) * (65536 : Int)))) rfl (by kernel_rfl) (by kernel_rfl) (by kernel_rfl) (by kernel_rfl) HS (fun _ _ => by kernel_rfl) ?_
      rw [q1]
      refine held_free 18 (.int .u64 (IntKind.u64.wrap ((y0 : Int) + (y1 : Int)))) rfl (by kernel_rfl) (by kernel_rfl) (by kernel_rfl) (by kernel_rfl) HS (fun _ _ => by kernel_rfl) ?_
      rw [s1]
      refine held_call 26 rfl (by kernel_rfl) (by kernel_rfl) (by kernel_rfl) (TW8 _) (fun w' h => h ▸ HS) ?_
      rintro w' rfl
      refine held_free 27 (.int .u64 (IntKind.u64.wrap ((b2 : Int) * (256 : Int)))) rfl (by kernel_rfl) (by kernel_rfl) (by kernel_rfl) (by kernel_rfl) HS (fun _ _ => by kernel_rfl) ?_
      rw [q2]
      refine held_free 28 (.int .u64 (IntKind.u64.wrap ((z1 : Int) + (y2 : Int)))) rfl (by kernel_rfl) (by kernel_rfl) (by kernel_rfl) (by kernel_rfl) HS (fun _ _ => by kernel_rfl) ?_
      rw [s2]
      refine held_free 36 (.int .u64 (IntKind.u64.wrap ((z2 : Int) + (b3 : Int)))) rfl (by kernel_rfl) (by kernel_rfl) (by kernel_rfl) (by kernel_rfl) HS (fun _ _ => by kernel_rfl) ?_
      rw [s3]
      refine held_lone (v := .slice (some ⟨W.heap.size, 0, none⟩) 1 1) (w' := W.alloc (.cells #[.int .u64 (x : Int)] 22)) 37 rfl (by kernel_rfl) (by kernel_rfl) (by kernel_rfl) HS2 ?_
      refine held_lone 38 rfl (by kernel_rfl) (by kernel_rfl) (ex_append rfl (by kernel_rfl) (by kernel_rfl) hr) HS3 ?_
      refine held_free 39 (.slice (some ⟨g', 0, none⟩) (t + 1) cap') rfl (by kernel_rfl) (by kernel_rfl) (by kernel_rfl) (by kernel_rfl) HS3 (fun _ _ => by kernel_rfl) ?_
      refine held_end (by kernel_rfl) ?_
      have HF := Lib.hid (show w2.ownsRow w.heap.size 22 1 (.slice (some ⟨g', 0, none⟩) (t + 1) cap') (t + 1) (u64s (wlist bl (t + 1))).toList by rw [wlist_succ, u64s_snoc, hxx]; exact own2)
      have HF2 := Lib.hid bel2
      clear own2 grow2 bel2 hr HS HS2 HS3 HOD HBD hi hz0 hz1 hz2
      go_wp2_with fail
      go_roundw
      case rel => exact ⟨t + 1, by omega, by rw [Int.natCast_add]; rfl, HF.out, HF2.out⟩
      case measure => simp [intOf]; omega
    · obtain rfl : t = 16 := by omega
      clear hlt TW24 TW16 TW8
      go_wp2_with fail
      go_loopw [3, 5] (fun v t wr => ∃ k : Nat, 16 ≤ k ∧ k ≤ 64 ∧ t = .int .i64 (k : Int) ∧ wr.ownsRow w.heap.size 22 1 v k (u64s (wlist bl k)).toList ∧ Below w.heap.size w wr) (fun _ t _ => 64 - (intOf t).toNat)
      case atStart => exact ⟨16, by decide, by decide, rfl, HO.out, HBL.out⟩
      case round =>
        obtain ⟨t, ht16, ht, rfl, hown, hbel⟩ := hrel
        have HO2 := Lib.hid hown
        have HBL2 := Lib.hid hbel
        have hbs2 := hbel.size
        clear hown hbel HO HBL
        by_cases hlt : t < 64
        · obtain ⟨g', cap', cur, rfl, hbg', hg', hnc', hcs', hcell0⟩ := own_form HO2.out (by omega) (wlist_length bl t)
          have hcell : ∀ j (hj : j < t), wr.cell? ⟨g', j, none⟩ = some (.int .u64 ((wrd MW (nums bl) j : Nat) : Int)) := fun j hj => by have := hcell0 j hj; simpa [wlist] using this
          clear hcell0
          have HCL := Lib.hid hcell
          obtain ⟨p15, e15⟩ : ∃ p, p = t - 15 := ⟨_, rfl⟩
          obtain ⟨p2, e2⟩ : ∃ p, p = t - 2 := ⟨_, rfl⟩
          obtain ⟨p16, e16⟩ : ∃ p, p = t - 16 := ⟨_, rfl⟩
          obtain ⟨p7, e7⟩ : ∃ p, p = t - 7 := ⟨_, rfl⟩
          have m15 : IntKind.i64.wrap ((t : Int) - (15 : Int)) = (p15 : Int) := by rw [show (t : Int) - 15 = (p15 : Int) by omega]; exact IntWalk.i64_in _ (by omega)
          have m2 : IntKind.i64.wrap ((t : Int) - (2 : Int)) = (p2 : Int) := by rw [show (t : Int) - 2 = (p2 : Int) by omega]; exact IntWalk.i64_in _ (by omega)
          have m16 : IntKind.i64.wrap ((t : Int) - (16 : Int)) = (p16 : Int) := by rw [show (t : Int) - 16 = (p16 : Int) by omega]; exact IntWalk.i64_in _ (by omega)
          have m7 : IntKind.i64.wrap ((t : Int) - (7 : Int)) = (p7 : Int) := by rw [show (t : Int) - 7 = (p7 : Int) by omega]; exact IntWalk.i64_in _ (by omega)
          have hnx := wrd_next MW (nums bl) t (by omega)
          rw [← e15, ← e2, ← e16, ← e7] at hnx
          have l15 : p15 < t := by omega
          have l2 : p2 < t := by omega
          have l16 : p16 < t := by omega
          have l7 : p7 < t := by omega
          have v15 := wrd_le (nums_bys bl) p15
          have v2 := wrd_le (nums_bys bl) p2
          have v16 := wrd_le (nums_bys bl) p16
          have v7 := wrd_le (nums_bys bl) p7
          have C15 := hcell p15 l15
          have C2 := hcell p2 l2
          have C16 := hcell p16 l16
          have C7 := hcell p7 l7
          obtain ⟨x, ex⟩ : ∃ x, x = wrd MW (nums bl) p15 := ⟨_, rfl⟩
          obtain ⟨y, ey⟩ : ∃ x, x = wrd MW (nums bl) p2 := ⟨_, rfl⟩
          obtain ⟨n16, f16⟩ : ∃ x, x = wrd MW (nums bl) p16 := ⟨_, rfl⟩
          obtain ⟨n7, f7⟩ : ∃ x, x = wrd MW (nums bl) p7 := ⟨_, rfl⟩
          rw [← ex] at hnx v15 C15
          rw [← ey] at hnx v2 C2
          rw [← f16] at hnx v16 C16
          rw [← f7] at hnx v7 C7
          have HNX := Lib.hid hnx
          clear e15 e2 e16 e7 ex ey f16 f7 hnx hcell
          have i15 : (p15 : Int) < (t : Int) := by omega
          have i2 : (p2 : Int) < (t : Int) := by omega
          have c15 : wr.cell? ⟨g', p15, none⟩ = some (.int .u64 (x : Int)) := C15
          have c2 : wr.cell? ⟨g', p2, none⟩ = some (.int .u64 (y : Int)) := C2
          go_wp2_with fail
          go_quiet (fail)
          clear c15 c2
          obtain ⟨W0, hW0⟩ : ∃ W0, W0 = wr.drewN nq := ⟨_, rfl⟩
          have HO3 := Lib.hid (show W0.ownsRow w.heap.size 22 1 (.slice (some ⟨g', 0, none⟩) t cap') t (u64s (wlist bl t)).toList by rw [hW0]; exact HO2.out.kept (drawn_only wr nq none) (by simp [Value.ownBlock]))
          have HB3 := Lib.hid (show Below w.heap.size w W0 by rw [hW0]; exact below_drewN HBL2.out _)
          have hg3 : W0.heap[g']? = some (.cells cur 22 (0, 0)) := by rw [hW0]; exact hg'
          rw [← hW0]
          clear hW0
          go_wp2_with fail
          have T7 := turned_any 7 x (by decide) (by decide) v15
          have T18 := turned_any 18 x (by decide) (by decide) v15
          have M3 := moved_shd 3 x (by decide) v15
          have T17 := turned_any 17 y (by decide) (by decide) v2
          have T19 := turned_any 19 y (by decide) (by decide) v2
          have M10 := moved_shd 10 y (by decide) v2
          have X0 := xor_ref (rot MW 7 x) (rot MW 18 x) (shd MW 3 x) (MW_le _) (MW_le _) (MW_le _)
          have X1 := xor_ref (rot MW 17 y) (rot MW 19 y) (shd MW 10 y) (MW_le _) (MW_le _) (MW_le _)
          have hu0 : rot MW 7 x ^^^ rot MW 18 x ^^^ shd MW 3 x = sm0 MW x := rfl
          have hu1 : rot MW 17 y ^^^ rot MW 19 y ^^^ shd MW 10 y = sm1 MW y := rfl
          rw [hu0] at X0
          rw [hu1] at X1
          have lu0 : sm0 MW x ≤ MW := xor3_le _ _ _ (MW_le _) (MW_le _) (MW_le _)
          have lu1 : sm1 MW y ≤ MW := xor3_le _ _ _ (MW_le _) (MW_le _) (MW_le _)
          obtain ⟨a7, f1⟩ : ∃ a, a = rot MW 7 x := ⟨_, rfl⟩
          obtain ⟨a18, f2⟩ : ∃ a, a = rot MW 18 x := ⟨_, rfl⟩
          obtain ⟨a3, f3⟩ : ∃ a, a = shd MW 3 x := ⟨_, rfl⟩
          obtain ⟨b17, f4⟩ : ∃ a, a = rot MW 17 y := ⟨_, rfl⟩
          obtain ⟨b19, f5⟩ : ∃ a, a = rot MW 19 y := ⟨_, rfl⟩
          obtain ⟨b10, f6⟩ : ∃ a, a = shd MW 10 y := ⟨_, rfl⟩
          obtain ⟨u0, f7⟩ : ∃ a, a = sm0 MW x := ⟨_, rfl⟩
          obtain ⟨u1, f8⟩ : ∃ a, a = sm1 MW y := ⟨_, rfl⟩
          rw [← f1] at T7 X0
          rw [← f2] at T18 X0
          rw [← f3] at M3 X0
          rw [← f4] at T17 X1
          rw [← f5] at T19 X1
          rw [← f6] at M10 X1
          rw [← f7] at X0 lu0
          rw [← f8] at X1 lu1
          have hz : sums [n16, u0, n7, u1] = wrd MW (nums bl) t := by
            rw [HNX.out, nxt, ← f7, ← f8, and_MW]
            unfold sums
            simp only [List.foldl_cons, List.foldl_nil]
            omega
          obtain ⟨z, ez⟩ : ∃ z, z = sums [n16, u0, n7, u1] := ⟨_, rfl⟩
          have AD : ∀ w8 : World, Calls Tryd.prog 79 #[.slice (some ⟨w8.heap.size, 0, none⟩) 4 4] (w8.alloc (.cells (u64s [n16, u0, n7, u1]) 22)) fun e w' => e = .returned (.int .u64 (z : Int)) ∧ ∃ n, w' = (w8.alloc (.cells (u64s [n16, u0, n7, u1]) 22)).drewN n := fun w8 => by
            rw [ez]
            exact add_any [n16, u0, n7, u1] (fun q hq => by simp only [List.mem_cons, List.not_mem_nil, or_false] at hq; unfold MW at *; omega) (show 4 ≤ 16 by decide) _ 4 4 _ _ (Blk.new w8 _ _) rfl
          rw [← ez] at hz
          clear f1 f2 f3 f4 f5 f6 f7 f8 ez hu0 hu1 lu0 lu1
          have I16 := nats_at g' t cap' p16 l16
          have I7 := nats_at g' t cap' p7 l7
          have L16 : ∀ W : World, (∀ j, j < t → W.cell? ⟨g', j, none⟩ = some (.int .u64 ((wrd MW (nums bl) j : Nat) : Int))) → W.cell? ⟨g', p16, none⟩ = some (.int .u64 (n16 : Int)) := fun W h => by rw [← C16, HCL.out p16 l16]; exact h p16 l16
          have L7 : ∀ W : World, (∀ j, j < t → W.cell? ⟨g', j, none⟩ = some (.int .u64 ((wrd MW (nums bl) j : Nat) : Int))) → W.cell? ⟨g', p7, none⟩ = some (.int .u64 (n7 : Int)) := fun W h => by rw [← C7, HCL.out p7 l7]; exact h p7 l7
          refine held_start (fun W => ∀ j, j < t → W.cell? ⟨g', j, none⟩ = some (.int .u64 ((wrd MW (nums bl) j : Nat) : Int))) (by kernel_rfl) (n := 30) rfl ?_
          have hs0 : ∀ j, j < t → W0.cell? ⟨g', j, none⟩ = some (.int .u64 ((wrd MW (nums bl) j : Nat) : Int)) := fun j hj => by
            have e : W0.heap[g']? = wr.heap[g']? := hg3.trans hg'.symm
            exact (World.cell?_of_block (a := ⟨g', j, none⟩) e).trans (HCL.out j hj)
          have hsq : ∀ w' : World, (∃ n, w' = W0.drewN n) → ∀ j, j < t → w'.cell? ⟨g', j, none⟩ = some (.int .u64 ((wrd MW (nums bl) j : Nat) : Int)) := fun w' h j hj => by
            obtain ⟨n, rfl⟩ := h
            exact hs0 j hj
          have hg'l : ∀ w' : World, (∃ n, w' = W0.drewN n) → g' < w'.heap.size := fun w' h => by obtain ⟨n, rfl⟩ := h; exact (Array.getElem?_eq_some_iff.1 hg3).1
          have hsa : ∀ (w' : World) (cs : Array Value), (∃ n, w' = W0.drewN n) → ∀ j, j < t → (w'.alloc (.cells cs 22)).cell? ⟨g', j, none⟩ = some (.int .u64 ((wrd MW (nums bl) j : Nat) : Int)) := fun w' cs h j hj =>
            (World.cell?_of_block (a := ⟨g', j, none⟩) (Below.heap_alloc w' _ g' (hg'l w' h))).trans (hsq w' h j hj)
          have hsd : ∀ (a b : World), (∀ j, j < t → a.cell? ⟨g', j, none⟩ = some (.int .u64 ((wrd MW (nums bl) j : Nat) : Int))) → (∃ n, b = a.drewN n) → ∀ j, j < t → b.cell? ⟨g', j, none⟩ = some (.int .u64 ((wrd MW (nums bl) j : Nat) : Int)) := fun a b h q j hj => by
            obtain ⟨n, rfl⟩ := q
            exact h j hj
          have own9 : ∀ (a : World) (cs : Array Value) (b : World), (∃ n, a = W0.drewN n) → (∃ n, b = (a.alloc (.cells cs 22)).drewN n) → b.ownsRow w.heap.size 22 1 (.slice (some ⟨g', 0, none⟩) t cap') t (u64s (wlist bl t)).toList ∧ b.heap[g']? = some (.cells cur 22 (0, 0)) ∧ Below w.heap.size w b := fun a cs b q1 q2 => by
            obtain ⟨n, rfl⟩ := q1
            obtain ⟨m, rfl⟩ := q2
            have o1 : (W0.drewN n).ownsRow w.heap.size 22 1 (.slice (some ⟨g', 0, none⟩) t cap') t (u64s (wlist bl t)).toList := HO3.out.kept (drawn_only W0 n none) (by simp [Value.ownBlock])
            have b1 : Below w.heap.size w (W0.drewN n) := below_drewN HB3.out n
            refine ⟨(o1.alloc _).kept (drawn_only _ m none) (by simp [Value.ownBlock]), ?_, below_drewN (b1.alloc b1.size _) m⟩
            exact (Below.heap_alloc (W0.drewN n) _ g' (Array.getElem?_eq_some_iff.1 hg3).1).trans hg3
          have Q0 : ∃ n, W0.drew = W0.drewN n := ⟨1, rfl⟩
          refine held_free 0 (.slice (some ⟨g', 0, none⟩) t cap') rfl (by kernel_rfl) (by kernel_rfl) (by kernel_rfl) (by kernel_rfl) (hsq _ Q0) (fun _ _ => by kernel_rfl) ?_
          refine held_free 1 (.slice (some ⟨g', 0, none⟩) t cap') rfl (by kernel_rfl) (by kernel_rfl) (by kernel_rfl) (by kernel_rfl) (hsq _ Q0) (fun _ _ => by kernel_rfl) ?_
          refine held_free 2 (.int .i64 (t : Int)) rfl (by kernel_rfl) (by kernel_rfl) (by kernel_rfl) (by kernel_rfl) (hsq _ Q0) (fun _ _ => by kernel_rfl) ?_
          refine held_free 3 (.int .i64 (IntKind.i64.wrap ((t : Int) - (16 : Int)))) rfl (by kernel_rfl) (by kernel_rfl) (by kernel_rfl) (by kernel_rfl) (hsq _ Q0) (fun _ _ => by kernel_rfl) ?_
          rw [m16]
          refine held_free 4 (.pointer (some ⟨g', p16, none⟩)) rfl (by kernel_rfl) (by kernel_rfl) (by kernel_rfl) (by kernel_rfl) (hsq _ Q0) (fun W _ => by refine ex_index rfl ?_ ?_ (I16 W) <;> kernel_rfl) ?_
          refine held_free 5 (.int .u64 (n16 : Int)) rfl (by kernel_rfl) (by kernel_rfl) (by kernel_rfl) (by kernel_rfl) (hsq _ Q0) (fun W h => by refine ex_load 22 (.tmp 69) ?_ ⟨g', p16, none⟩ ?_ ?_ (L16 W h) <;> kernel_rfl) ?_
          refine held_free 6 (.int .u64 (x : Int)) rfl (by kernel_rfl) (by kernel_rfl) (by kernel_rfl) (by kernel_rfl) (hsq _ Q0) (fun _ _ => by kernel_rfl) ?_
          refine held_free 8 (.int .u64 (x : Int)) rfl (by kernel_rfl) (by kernel_rfl) (by kernel_rfl) (by kernel_rfl) (hsq _ Q0) (fun _ _ => by kernel_rfl) ?_
          refine held_free 10 (.int .u64 (x : Int)) rfl (by kernel_rfl) (by kernel_rfl) (by kernel_rfl) (by kernel_rfl) (hsq _ Q0) (fun _ _ => by kernel_rfl) ?_
          refine held_free 13 (.slice (some ⟨g', 0, none⟩) t cap') rfl (by kernel_rfl) (by kernel_rfl) (by kernel_rfl) (by kernel_rfl) (hsq _ Q0) (fun _ _ => by kernel_rfl) ?_
          refine held_free 14 (.int .i64 (t : Int)) rfl (by kernel_rfl) (by kernel_rfl) (by kernel_rfl) (by kernel_rfl) (hsq _ Q0) (fun _ _ => by kernel_rfl) ?_
          refine held_free 15 (.int .i64 (IntKind.i64.wrap ((t : Int) - (7 : Int)))) rfl (by kernel_rfl) (by kernel_rfl) (by kernel_rfl) (by kernel_rfl) (hsq _ Q0) (fun _ _ => by kernel_rfl) ?_
          rw [m7]
          refine held_free 16 (.pointer (some ⟨g', p7, none⟩)) rfl (by kernel_rfl) (by kernel_rfl) (by kernel_rfl) (by kernel_rfl) (hsq _ Q0) (fun W _ => by refine ex_index rfl ?_ ?_ (I7 W) <;> kernel_rfl) ?_
          refine held_free 17 (.int .u64 (n7 : Int)) rfl (by kernel_rfl) (by kernel_rfl) (by kernel_rfl) (by kernel_rfl) (hsq _ Q0) (fun W h => by refine ex_load 22 (.tmp 81) ?_ ⟨g', p7, none⟩ ?_ ?_ (L7 W h) <;> kernel_rfl) ?_
          refine held_free 18 (.int .u64 (y : Int)) rfl (by kernel_rfl) (by kernel_rfl) (by kernel_rfl) (by kernel_rfl) (hsq _ Q0) (fun _ _ => by kernel_rfl) ?_
          refine held_free 20 (.int .u64 (y : Int)) rfl (by kernel_rfl) (by kernel_rfl) (by kernel_rfl) (by kernel_rfl) (hsq _ Q0) (fun _ _ => by kernel_rfl) ?_
          refine held_free 22 (.int .u64 (y : Int)) rfl (by kernel_rfl) (by kernel_rfl) (by kernel_rfl) (by kernel_rfl) (hsq _ Q0) (fun _ _ => by kernel_rfl) ?_
          refine held_call 7 rfl (by kernel_rfl) (by kernel_rfl) (by kernel_rfl) (T7 _) (fun w' h => hsq w' (dq_trans Q0 h)) ?_
          intro w1 h1
          have Q1 := dq_trans Q0 h1
          refine held_call 9 rfl (by kernel_rfl) (by kernel_rfl) (by kernel_rfl) (T18 _) (fun w' h => hsq w' (dq_trans Q1 h)) ?_
          intro w2 h2
          have Q2 := dq_trans Q1 h2
          refine held_call 11 rfl (by kernel_rfl) (by kernel_rfl) (by kernel_rfl) (M3 _) (fun w' h => hsq w' (dq_trans Q2 h)) ?_
          intro w3 h3
          have Q3 := dq_trans Q2 h3
          refine held_call 12 rfl (by kernel_rfl) (by kernel_rfl) (by kernel_rfl) (X0 _) (fun w' h => hsq w' (dq_trans Q3 h)) ?_
          intro w4 h4
          have Q4 := dq_trans Q3 h4
          refine held_call 19 rfl (by kernel_rfl) (by kernel_rfl) (by kernel_rfl) (T17 _) (fun w' h => hsq w' (dq_trans Q4 h)) ?_
          intro w5 h5
          have Q5 := dq_trans Q4 h5
          refine held_call 21 rfl (by kernel_rfl) (by kernel_rfl) (by kernel_rfl) (T19 _) (fun w' h => hsq w' (dq_trans Q5 h)) ?_
          intro w6 h6
          have Q6 := dq_trans Q5 h6
          refine held_call 23 rfl (by kernel_rfl) (by kernel_rfl) (by kernel_rfl) (M10 _) (fun w' h => hsq w' (dq_trans Q6 h)) ?_
          intro w7 h7
          have Q7 := dq_trans Q6 h7
          refine held_call 24 rfl (by kernel_rfl) (by kernel_rfl) (by kernel_rfl) (X1 _) (fun w' h => hsq w' (dq_trans Q7 h)) ?_
          intro w8 h8
          have Q8 := dq_trans Q7 h8
          have HSA := hsa w8 (u64s [n16, u0, n7, u1]) Q8
          refine held_lone (v := .slice (some ⟨w8.heap.size, 0, none⟩) 4 4) (w' := w8.alloc (.cells (u64s [n16, u0, n7, u1]) 22)) 25 rfl (by kernel_rfl) (by kernel_rfl) (by kernel_rfl) HSA ?_
          refine held_call 26 rfl (by kernel_rfl) (by kernel_rfl) (by kernel_rfl) (AD w8) (fun w' h => hsd _ w' HSA h) ?_
          intro w9 h9
          have HS9 := hsd _ w9 HSA h9
          have HO9 : w9.ownsRow w.heap.size 22 1 (.slice (some ⟨g', 0, none⟩) t cap') t (u64s (wlist bl t)).toList ∧ w9.heap[g']? = some (.cells cur 22 (0, 0)) ∧ Below w.heap.size w w9 := own9 w8 _ w9 Q8 h9
          clear h1 h2 h3 h4 h5 h6 h7 h8 h9
          have hb9 := HO9.2.2.size
          obtain ⟨i0, hi, hz0, hz1, hz2⟩ := info_parts u64_info
          obtain ⟨g2, cap2, cur2, fz2, w10, hr, hg2, hf2, hnc2, hcs2, htk2, hbl2, hfz2, hcm2, hold2⟩ := app_one (P := Tryd.prog) (w9.alloc (.cells #[.int .u64 (z : Int)] 22)) 105 105 22 i0 (.int .u64 0) Tryd.underlying105 hi hz0 hz1 (by omega) rfl g' t cap' cur (0, 0) ((Below.heap_alloc w9 _ g' (Array.getElem?_eq_some_iff.1 HO9.2.1).1).trans HO9.2.1) (.inl rfl) hnc' hcs' ⟨w9.heap.size, 0, none⟩ 1 (.int .u64 (z : Int)) ((Blk.new w9 _ _).cell 0) rfl (by omega)
          have HSB : ∀ j, j < t → (w9.alloc (.cells #[.int .u64 (z : Int)] 22)).cell? ⟨g', j, none⟩ = some (.int .u64 ((wrd MW (nums bl) j : Nat) : Int)) := fun j hj => (World.cell?_of_block (a := ⟨g', j, none⟩) (Below.heap_alloc w9 _ g' (Array.getElem?_eq_some_iff.1 HO9.2.1).1)).trans (HS9 j hj)
          have HSC : ∀ j, j < t → w10.cell? ⟨g', j, none⟩ = some (.int .u64 ((wrd MW (nums bl) j : Nat) : Int)) := fun j hj => (hold2 j hj).trans (HSB j hj)
          refine held_lone (v := .slice (some ⟨w9.heap.size, 0, none⟩) 1 1) (w' := w9.alloc (.cells #[.int .u64 (z : Int)] 22)) 27 rfl (by kernel_rfl) (by kernel_rfl) (by kernel_rfl) HSB ?_
          refine held_lone 28 rfl (by kernel_rfl) (by kernel_rfl) (ex_append rfl (by kernel_rfl) (by kernel_rfl) hr) HSC ?_
          refine held_free 29 (.slice (some ⟨g2, 0, none⟩) (t + 1) cap2) rfl (by kernel_rfl) (by kernel_rfl) (by kernel_rfl) (by kernel_rfl) HSC (fun _ _ => by kernel_rfl) ?_
          refine held_end (by kernel_rfl) ?_
          have HF := Lib.hid (show w10.ownsRow w.heap.size 22 1 (.slice (some ⟨g2, 0, none⟩) (t + 1) cap2) (t + 1) (u64s (wlist bl (t + 1))).toList from own_more HO9.1 HO9.2.1 (wlist_succ bl t) hz (hbl2 w.heap.size hbg' (by rw [World.size_alloc]; omega)).2 hg2 hfz2 hnc2 hcm2 hcs2 htk2)
          have HF2 := Lib.hid (show Below w.heap.size w w10 from (HO9.2.2.alloc hb9 _).trans (hbl2 w.heap.size hbg' (by rw [World.size_alloc]; omega)).1)
          clear HSA HSB HSC HS9 HO9 hr hg2 hf2 hnc2 hcs2 htk2 hbl2 hfz2 hcm2 hold2 hi hz0 hz1 hz2 T7 T18 M3 T17 T19 M10 X0 X1 AD own9 hsd hsa hsq hs0 L16 L7
          go_wp2_with fail
          refine ⟨?_, ?_⟩
          · repeat (apply Exists.intro)
            refine And.intro ?_ rfl
            exact ⟨t + 1, by omega, by omega, by rw [Int.natCast_add]; rfl, HF.out, HF2.out⟩
          · show 64 - (intOf (Value.int .i64 ((t : Int) + 1))).toNat < 64 - (intOf (Value.int .i64 (t : Int))).toNat
            simp only [intOf]; omega
        · obtain rfl : t = 64 := by omega
          clear hlt
          go_wp2_with fail
          go_ret
          exact ⟨_, rfl, HO2.out, HBL2.out⟩
end Go.Proofs.YtcbakfnpbhgjoaaDoor
