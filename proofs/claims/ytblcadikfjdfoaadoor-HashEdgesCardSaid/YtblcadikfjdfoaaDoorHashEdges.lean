/-
  At each length near a block's ends a text of one byte, again and again, written byte by byte, has the digest that it has at once; and no two lengths have the same one (statement HashEdges, promises P6.1 to P6.3), of all bytes and numbers of blocks, without condition but the tables' own initial values, which the card ties to the program's text. That no two of the 263 lengths have one digest is reckoned by the kernel, for all 256 bytes.
-/
import Derived.Test.YtblcadikfjdfoaaDoorShaOpen
import Derived.Test.YtblcadikfjdfoaaDoorShaEq
import Derived.Test.YtblcadikfjdfoaaDoorShaPieces
import Derived.Test.YtblcadikfjdfoaaDoorShaLanes
import Derived.Deep.QuietTactic
import Derived.BigQuiet
import Derived.Great.BuildSlice
namespace Go.Proofs.YtblcadikfjdfoaaDoor.hashEdges
open Go.ChangeShapes Go.WideShapes Go.ChangeAt Go.RowKit
set_option linter.unusedVariables false

/-- Digests of 0, 1, .. times the byte c, one behind the other. -/
def dl (c : UInt8) (n : Nat) : List Value := (List.range n).flatMap fun k => (byv (digest (List.replicate k c))).toList
theorem dl_succ (c : UInt8) (n : Nat) : dl c (n + 1) = dl c n ++ (byv (digest (List.replicate n c))).toList := by
  unfold dl; rw [List.range_succ, List.flatMap_append]; simp
theorem dl_length (c : UInt8) : ∀ n, (dl c n).length = n * 32
  | 0 => rfl
  | n + 1 => by rw [dl_succ, List.length_append, dl_length c n]; simp [byv, digest_length]; omega
theorem dl_get (c : UInt8) : ∀ (n k j : Nat), k < n → j < 32 → (dl c n)[k * 32 + j]? = (byv (digest (List.replicate k c)))[j]?
  | n + 1, k, j, hk, hj => by
    rw [dl_succ]
    by_cases e : k = n
    · subst e
      rw [List.getElem?_append_right (by rw [dl_length]; omega), dl_length, show k * 32 + j - k * 32 = j by omega, Array.getElem?_toList]
    · rw [List.getElem?_append_left (by rw [dl_length]; omega)]
      exact dl_get c n k j (by omega) hj
theorem own_kept {W W' : World} {B : Nat} {e : TypeId} {k : Nat} {v : Value} {n : Nat} {xs : List Value} (h : W.ownsRow B e k v n xs) (b : ∀ j, B ≤ j → j < W.heap.size → W'.heap[j]? = W.heap[j]?) : W'.ownsRow B e k v n xs := by
  refine ⟨h.1, h.2.imp id ?_⟩
  rintro ⟨g, cap, cur, rfl, hb, hg, r⟩
  exact ⟨g, cap, cur, rfl, hb, (b g hb (Array.getElem?_eq_some_iff.1 hg).1).trans hg, r⟩
theorem own_below {W W' : World} {B : Nat} {e : TypeId} {k : Nat} {v : Value} {n : Nat} {xs : List Value} (h : W.ownsRow B e k v n xs) (b : Below W.heap.size W W') : W'.ownsRow B e k v n xs := own_kept h fun j _ hj => b.block j hj
theorem own_grown {W W' : World} {B g : Nat} {e : TypeId} {k : Nat} {v : Value} {n : Nat} {xs : List Value} (h : W.ownsRow B e k v n xs) (b : W.grownBy W' (some g)) (hg : g < B) : W'.ownsRow B e k v n xs := own_kept h fun j h1 hj => b.block j hj (by simp; omega)
theorem op_calls {P : Program} {ops : Array Oper} {Q : Exit → Act → World → Prop} {K : Act → World → Prop} {i : Nat} {o : Oper} {a : Act} {w : World} {f : FuncId} {args : Array Value} {v : Value} {R : World → Prop} (hi : ops[i]? = some o)
    (hw : Region.wanted o (yielded ops a.tmps) = true) (he : (execOp a.eval o).run P w = .ok (.enter f args) w) (hc : Calls P f args w fun e w' => e = .returned v ∧ R w') (h : ∀ w', R w' → K (a.put o.dst v) w') : wpOp P ops Q i K a w := by
  unfold wpOp
  rw [hi]
  simp only [hw, if_true]
  refine .inl ?_
  unfold Oper.wp
  rw [he]
  exact hc.mono fun e w' ⟨h1, h2⟩ => by subst h1; exact h _ h2
theorem op_gives {P : Program} {ops : Array Oper} {Q : Exit → Act → World → Prop} {K : Act → World → Prop} {i : Nat} {o : Oper} {a : Act} {w w' : World} (v : Value) (hi : ops[i]? = some o)
    (hw : Region.wanted o (yielded ops a.tmps) = true) (he : (execOp a.eval o).run P w = .ok (.value v) w') (h : K (a.put o.dst v) w') : wpOp P ops Q i K a w := by
  unfold wpOp
  rw [hi]
  simp only [hw, if_true]
  refine .inl ?_
  unfold Oper.wp
  rw [he]
  exact h
/-- A call and a read may come up, in either order; the read reads the same behind the call. -/
theorem any_call_read {P : Program} {ops : Array Oper} {md : Region.Mode} {Q : Exit → Act → World → Prop} {i j : Nat} {o u : Oper} {fuel : Nat} {listed : Array Bool} {a : Act} {w : World} {f : FuncId} {args : Array Value} {v : Value} {R : World → Prop} (x : Value)
    (hi : ops[i]? = some o) (hj : ops[j]? = some u) (hr : Region.ready md ops listed = [i, j]) (hri : Region.ready md ops (listed.setIfInBounds i true) = [j]) (hrj : Region.ready md ops (listed.setIfInBounds j true) = [i]) (hne : i ≠ j)
    (hw : Region.wanted o (yielded ops a.tmps) = true) (hwu : Region.wanted u (yielded ops a.tmps) = true) (hw' : Region.wanted o (yielded ops (a.put u.dst x).tmps) = true) (hwu' : Region.wanted u (yielded ops (a.put o.dst v).tmps) = true)
    (he : (execOp a.eval o).run P w = .ok (.enter f args) w) (he' : (execOp (a.put u.dst x).eval o).run P w = .ok (.enter f args) w) (hc : Calls P f args w fun e w' => e = .returned v ∧ R w')
    (hx : (execOp a.eval u).run P w = .ok (.value x) w) (hx' : ∀ w', R w' → (execOp (a.put o.dst v).eval u).run P w' = .ok (.value x) w') (hcm : (a.put u.dst x).put o.dst v = (a.put o.dst v).put u.dst x)
    (h : ∀ w', R w' → wpAny P md ops Q fuel ((listed.setIfInBounds i true).setIfInBounds j true) ((a.put o.dst v).put u.dst x) w') : wpAny P md ops Q (fuel + 1 + 1) listed a w := by
  have e : (listed.setIfInBounds j true).setIfInBounds i true = (listed.setIfInBounds i true).setIfInBounds j true := by
    rw [Array.setIfInBounds_comm _ _ hne]
  refine ⟨fun h0 => (by rw [hr] at h0; cases h0), fun k hk => ?_⟩
  rw [hr] at hk
  simp only [List.mem_cons, List.not_mem_nil, or_false] at hk
  rcases hk with rfl | rfl
  · refine op_calls hi hw he hc fun w' r => ⟨fun h0 => (by rw [hri] at h0; cases h0), fun k hk => ?_⟩
    rw [hri, List.mem_singleton] at hk
    subst hk
    exact op_gives x hj hwu' (hx' w' r) (h w' r)
  · refine op_gives x hj hwu hx ⟨fun h0 => (by rw [hrj] at h0; cases h0), fun k hk => ?_⟩
    rw [hrj, List.mem_singleton] at hk
    subst hk
    refine op_calls hi hw' he' hc fun w' r => ?_
    rw [e, hcm]
    exact h w' r
theorem exec_at {P : Program} {ρ : Operand → Value} {o : Oper} {w : World} {t : TypeId} {x y : Operand} {n i v : Value} (ho : o.op = .indexAddr t x y) (hx : ρ x = n) (hy : ρ y = i) (h : (Instr.indexAt t n i).run P w = .ok v w) : (execOp ρ o).run P w = .ok (.value v) w := by
  unfold execOp
  rw [ho]
  simp [hx, hy, h]
theorem digests_at (g k n cap : Nat) (hk : k < n) (w : World) : (Instr.indexAt 40 (.slice (some ⟨g, 0, none⟩) n cap) (.int .i64 (k : Int))).run Tryd.prog w = .ok (.pointer (some ⟨g, k * 32, none⟩)) w := by
  rw [run_indexAt_slice w _ _ _ _ _ _ (by kernel_rfl), if_pos ⟨by omega, by omega⟩]
  have e2 : Tryd.prog.elem 40 = 24 := by kernel_rfl
  have e4 : (sizeOf 24).run Tryd.prog w = .ok 32 w := by kernel_rfl
  rw [e2, e4]
  have e3 : (⟨g, 0, none⟩ : Addr).add (k * 32) = ⟨g, k * 32, none⟩ := by unfold Addr.add; split <;> simp_all
  simp [e3]
theorem digest_info : ∃ (i : TypeInfo) (z : Value), Tryd.prog.info? 24 = some i ∧ i.zero = some z ∧ i.size = 32 ∧ i.bytes = 32 ∧ z.cells.size = 32 := by
  have h : (Tryd.prog.info? 24).map (fun i => (i.zero.map fun z => z.cells.size, i.size, i.bytes)) = some (some 32, 32, 32) := by kernel_rfl
  cases hi : Tryd.prog.info? 24 with
  | none => rw [hi] at h; cases h
  | some i =>
    rw [hi] at h
    simp only [Option.map_some, Option.some.injEq, Prod.mk.injEq] at h
    obtain ⟨hz, hs, hb⟩ := h
    cases hz' : i.zero with
    | none => rw [hz'] at hz; cases hz
    | some z => rw [hz'] at hz; exact ⟨i, z, rfl, hz', hs, hb, by simpa using hz⟩
theorem lies_arr (wr : World) (cs : Array Value) (t : TypeId) : ∀ i u, cs.toList[i]? = some u → (wr.alloc (.cells cs t)).cell? ((⟨wr.heap.size, 0, none⟩ : Addr).add i) = some u := by
  intro i u hu
  have e : (⟨wr.heap.size, 0, none⟩ : Addr).add i = ⟨wr.heap.size, i, none⟩ := by unfold Addr.add; split <;> simp_all
  rw [e, (Blk.new wr t cs).cell i]
  simpa using hu
/-- One byte, made a text. -/
theorem conv_one (w : World) (c : UInt8) : (convert 22 9 (.slice (some ⟨w.heap.size, 0, none⟩) 1 1)).run Tryd.prog (w.alloc (.cells #[.int .u8 (c.toNat : Int)] 5)) = .ok (.string (txt [c])) (w.alloc (.cells #[.int .u8 (c.toNat : Int)] 5)) :=
  run_convert_bytes_back _ 22 9 5 ⟨w.heap.size, 0, none⟩ 1 [c] Tryd.underlying22 Tryd.underlying5 Tryd.underlying9 fun j hj => by
    obtain rfl : j = 0 := by simpa using hj
    exact lies_arr w #[.int .u8 (c.toNat : Int)] _ 0 _ rfl
/-- A text of one byte, again and again. -/
def rep (c : UInt8) (n : Nat) : ByteArray := txt (List.replicate n c)
theorem rep_next (c : UInt8) (n : Nat) : rep c n ++ txt [c] = rep c (n + 1) := txt_ext (by simp [rep, txt, ByteArray.data_append, List.replicate_succ'])
/-- So far: n bytes. -/
def EdAt (w : World) (gh B : Nat) (c : UInt8) (L : Nat) (v t i : Value) (W : World) : Prop :=
  ∃ n : Nat, n ≤ L + 1 ∧ i = .int .i64 (n : Int) ∧ t = .string (rep c n) ∧ W.ownsRow B 24 32 v n (dl c n) ∧ Hsh W gh (List.replicate n c) ∧ Tbl W ∧ Below w.heap.size w W ∧ B ≤ W.heap.size

set_option maxHeartbeats 400000 in
set_option maxRecDepth 100000 in
theorem walk (a0 : Int) (r0 : 0 ≤ a0 ∧ a0 ≤ 255) (a1 : Int) (r1 : 0 ≤ a1 ∧ a1 ≤ 255) (w : World) (ht : Tbl w) :
    Calls Tryd.prog 7 #[.int .u8 a0, .int .u8 a1] w fun e w' => e = .returned (.bool true) ∧ Below w.heap.size w w' := by
  obtain ⟨c, hc⟩ : ∃ c : UInt8, a0 = (c.toNat : Int) := ⟨UInt8.ofNat a0.toNat, by simp; omega⟩
  subst hc
  clear r0
  have h1 := ht.lt
  have HT := Lib.hid ht
  clear ht
  go_enter Tryd.func7, Tryd.ntmps7
  go_wp2_with fail
  refine (works_t w HT.out).mono ?_
  rintro e W1 ⟨rfl, b1⟩
  have HT1 := Lib.hid (HT.out.below b1)
  have HB1 := Lib.hid b1
  clear b1 HT
  go_wp2_with fail
  refine (New_any W1 HT1.out).mono ?_
  rintro e W2 ⟨rfl, hh, b2⟩
  obtain ⟨gh, hgh⟩ : ∃ gh, gh = W1.heap.size := ⟨_, rfl⟩
  have lgh : w.heap.size ≤ gh := by rw [hgh]; exact HB1.out.size
  rw [← hgh] at hh ⊢
  have HH2 := Lib.hid hh
  have HT2 := Lib.hid (HT1.out.below b2)
  have HB2 := Lib.hid (HB1.out.trans (b2.mono HB1.out.size))
  clear hh b2 hgh HT1 HB1
  go_wp2_with fail
  obtain ⟨L, hL, hL1, hL2⟩ : ∃ L : Nat, 64 * (a1 % 4) + 70 = (L : Int) ∧ 70 ≤ L ∧ L ≤ 262 := ⟨(64 * (a1 % 4) + 70).toNat, by omega, by omega, by omega⟩
  rw [hL]
  have hgB : gh < W2.heap.size := HH2.out.lt
  obtain ⟨B, hB⟩ : ∃ B, B = W2.heap.size := ⟨_, rfl⟩
  rw [← hB] at hgB
  have HBB := Lib.hid (show B ≤ W2.heap.size by omega)
  obtain ⟨z32, hz32⟩ : ∃ z32, z32 = byv (List.replicate 32 0) := ⟨_, rfl⟩
  have HZE := Lib.hid hz32
  clear hB hz32
  go_loopw [5, 7, 9] (fun v t i wr => EdAt w gh B c L v t i wr) (fun _ _ i _ => L + 1 - (intOf i).toNat)
  case atStart => exact ⟨0, by omega, rfl, rfl, World.ownsRow_nil _ _ _ _, HH2.out, HT2.out, HB2.out, HBB.out⟩
  case round =>
    obtain ⟨n, hn, rfl, rfl, hown, hh, ht, hb, hbb⟩ := hrel
    have HO := Lib.hid hown
    have HH := Lib.hid hh
    have HT := Lib.hid ht
    have HB := Lib.hid hb
    clear hown hh ht hb HH2 HT2 HB2 HBB
    by_cases hnL : n ≤ L
    · obtain ⟨D, hD⟩ : ∃ D, D = byv (digest (List.replicate n c)) := ⟨_, rfl⟩
      have HD := Lib.hid hD
      clear hD
      go_wp2_with fail
      refine (SumL (rep c n) (List.replicate n c) D wr rfl HD.out HT.out (by rw [List.length_replicate]; omega)).mono ?_
      rintro e W3 ⟨rfl, b3⟩
      have hb3 := b3.size
      have HO3 := Lib.hid (own_below HO.out b3)
      have HH3 := Lib.hid (HH.out.below b3 HH.out.lt)
      have HT3 := Lib.hid (HT.out.below b3)
      have HB3 := Lib.hid (HB.out.trans (b3.mono HB.out.size))
      clear b3 HO HH HT HB
      have HDZ := Lib.hid (show (Tryd.prog.info? 24).map (·.size) = some D.size by rw [HD.out, byv_size, digest_length]; exact digest_size)
      have HDO := Lib.hid (show z32.size = D.size by rw [HZE.out, HD.out, byv_size, byv_size, digest_length]; rfl)
      have HD1 := Lib.hid (show D.all (·.oneCell') = true by rw [HD.out]; exact byv_one _)
      have HN := Lib.hid (Blk.new W3 24 z32)
      have HG4 := Lib.hid (show Blk ((W3.alloc (.cells z32 24)).setRow W3.heap.size D) W3.heap.size 24 D from setRow_heap _ _ _ _ _ _ (Blk.new W3 _ _))
      have hl4 : Below W3.heap.size W3 ((W3.alloc (.cells z32 24)).setRow W3.heap.size D) := below_setRow ((Below.refl _ W3).alloc (Nat.le_refl _) (.cells z32 24)) (Nat.le_refl _) D
      obtain ⟨W4, hW4⟩ : ∃ W4, W4 = (W3.alloc (.cells z32 24)).setRow W3.heap.size D := ⟨_, rfl⟩
      rw [← hW4] at HG4 hl4
      have hl4s := hl4.size
      have HO4 := Lib.hid (own_below HO3.out hl4)
      have HH4 := Lib.hid (HH3.out.below hl4 HH3.out.lt)
      have HT4 := Lib.hid (HT3.out.below hl4)
      have HB4 := Lib.hid (HB3.out.trans (hl4.mono HB3.out.size))
      have HW4 := Lib.hid hW4
      obtain ⟨gd, hgd⟩ : ∃ gd, gd = W3.heap.size := ⟨_, rfl⟩
      have hgBd : B ≤ gd := by omega
      clear hW4 hl4 HO3 HH3 HT3 HB3
      have hdz := digest_zero
      rw [← HZE.out] at hdz
      go_wp2_with (refine wpList_store_row rfl 24 (.tmp 10) (.tmp 28) rfl W3.heap.size D rfl rfl 24 z32 HN.out HDZ.out HDO.out HD1.out ?_)
      rw [← HW4.out]
      rw [← hgd] at HG4 ⊢
      clear HW4 HN HDO hgd hdz
      have hcase : ((L : Int) - 20 < (n : Int)) ∨ ¬ ((L : Int) - 20 < (n : Int)) := Decidable.em _
      rcases hcase with hgt | hgt
      rotate_left
      have eg : decide ((L : Int) - 20 < (n : Int)) = false := by simpa using hgt
      have eL : IntKind.i64.wrap ((L : Int) - 20) = (L : Int) - 20 := IntWalk.i64_in _ (by omega)
      go_quiet (fail)
      obtain ⟨W5, hW5⟩ : ∃ W, W = W4.drewN nq := ⟨_, rfl⟩
      have HO5 := Lib.hid (show W5.ownsRow B 24 32 u5 n (dl c n) by rw [hW5]; exact own_kept HO4.out fun _ _ _ => rfl)
      have HH5 := Lib.hid (show Hsh W5 gh (List.replicate n c) by rw [hW5]; exact HH4.out.same rfl)
      have HT5 := Lib.hid (show Tbl W5 by rw [hW5]; exact HT4.out.drewN _)
      have HB5 := Lib.hid (show Below w.heap.size w W5 by rw [hW5]; exact below_drewN HB4.out _)
      have HG5 := Lib.hid (show Blk W5 gd 24 D by rw [hW5]; exact HG4.out.drewN _)
      have hs5 : B ≤ W5.heap.size := by rw [hW5]; show B ≤ W4.heap.size; omega
      rw [← hW5]
      clear hW5 HO4 HH4 HT4 HB4 HG4
      go_wp2_with fail
      rotate_left
      have eL : IntKind.i64.wrap ((L : Int) - 20) = (L : Int) - 20 := IntWalk.i64_in _ (by omega)
      have eg : decide ((L : Int) - 20 < (n : Int)) = true := by simpa using hgt
      have q1 : ∀ W, (Op.equalIn 10000 24 (.agg D) (.agg D)).run Tryd.prog W = .ok true W := fun W => by rw [HD.out, digest_eq _ _ (digest_length _) (digest_length _)]; simp
      have HOd := Lib.hid (show W4.drew.ownsRow B 24 32 u5 n (dl c n) from own_kept HO4.out fun _ _ _ => rfl)
      have HHd := Lib.hid (show Hsh W4.drew gh (List.replicate n c) from HH4.out.same rfl)
      have HTd := Lib.hid (show Tbl W4.drew from HT4.out.drewN 1)
      have HGd := Lib.hid (show Blk W4.drew gd 24 D from HG4.out.drew)
      have HBd := Lib.hid (show Below w.heap.size w W4.drew from HB4.out.drew)
      have hsd : B ≤ W4.drew.heap.size := by show B ≤ W4.heap.size; omega
      have hgl : gd < W4.drew.heap.size := HGd.out.lt
      refine wp_region_noPanic (wp_region_any (by kernel_rfl) ?_)
      change wpAny _ _ _ _ 10 _ _ W4.drew
      obtain ⟨Wd, hWd⟩ : ∃ W, W = W4.drew := ⟨_, rfl⟩
      rw [← hWd] at HOd HHd HTd HGd HBd hsd hgl ⊢
      clear hWd HO4 HH4 HT4 HG4 HB4
      refine any_free (i := 0) (.int .i64 (n : Int)) rfl (by kernel_rfl) (by kernel_rfl) (by kernel_rfl) (by kernel_rfl) (fun _ => by kernel_rfl) ?_
      refine any_free (i := 1) (.int .i64 (L : Int)) rfl (by kernel_rfl) (by kernel_rfl) (by kernel_rfl) (by kernel_rfl) (fun _ => by kernel_rfl) ?_
      refine any_free (i := 2) (.int .i64 (IntKind.i64.wrap ((L : Int) - 20))) rfl (by kernel_rfl) (by kernel_rfl) (by kernel_rfl) (by kernel_rfl) (fun _ => by kernel_rfl) ?_
      rw [eL]
      refine any_free (i := 3) (.bool (decide ((L : Int) - 20 < (n : Int)))) rfl (by kernel_rfl) (by kernel_rfl) (by kernel_rfl) (by kernel_rfl) (fun _ => by kernel_rfl) ?_
      rw [eg]
      refine any_free (i := 4) (.bool true) rfl (by kernel_rfl) (by kernel_rfl) (by kernel_rfl) (by kernel_rfl) (fun _ => by kernel_rfl) ?_
      refine any_free (i := 5) (.pointer (some ⟨gh, 0, none⟩)) rfl (by kernel_rfl) (by kernel_rfl) (by kernel_rfl) (by kernel_rfl) (fun _ => by kernel_rfl) ?_
      refine any_call_read (i := 6) (j := 7) (.agg D) rfl rfl (by kernel_rfl) (by kernel_rfl) (by kernel_rfl) (by decide) (by kernel_rfl) (by kernel_rfl) (by kernel_rfl) (by kernel_rfl) (by kernel_rfl) (by kernel_rfl) (DigestL gh (List.replicate n c) D Wd HD.out HTd.out (by rw [List.length_replicate]; omega) HHd.out) (exec_row 24 (.tmp 10) (by kernel_rfl) gd (by kernel_rfl) 24 D _ HGd.out digest_under rfl HDZ.out) (fun w' b' => (exec_row 24 (.tmp 10) (by kernel_rfl) gd (by kernel_rfl) 24 D _ (HGd.out.below b' hgl) digest_under rfl HDZ.out)) (by kernel_rfl) ?_
      intro W5 b5
      have HO5 := Lib.hid (own_below HOd.out b5)
      have HH5 := Lib.hid (HHd.out.below b5 HHd.out.lt)
      have HT5 := Lib.hid (HTd.out.below b5)
      have HB5 := Lib.hid (HBd.out.trans (b5.mono HBd.out.size))
      have HG5 := Lib.hid (HGd.out.below b5 hgl)
      have hs5 : B ≤ W5.heap.size := Nat.le_trans hsd b5.size
      clear b5 HOd HHd HTd HGd HBd hsd hgl
      refine any_rest (k := 8) rfl (by kernel_rfl) ?_
      simp only [List.drop_succ_cons, List.drop_zero]
      change wpList _ _ (NoPanic _) _ _ W5
      go_wp2_with fail
      refine NoPanic.normal ?_
      go_wp2_with fail
      · have hs5d : gd < W5.heap.size := HG5.out.lt
        go_loopw [11] (fun i wr => ∃ k : Nat, k ≤ n ∧ i = .int .i64 (k : Int) ∧ Below W5.heap.size W5 wr) (fun i _ => n - (intOf i).toNat)
        case atStart => exact ⟨0, Nat.zero_le _, rfl, Below.refl _ _⟩
        case round =>
          obtain ⟨k, hk, rfl, hbk⟩ := hrel
          have HBK := Lib.hid hbk
          clear hbk
          by_cases hkn : k < n
          · obtain ⟨g, cap, cur, rfl, hBg, hg, hnc, hcm, hcs, htk⟩ : ∃ g cap cur, u5 = .slice (some ⟨g, 0, none⟩) n cap ∧ B ≤ g ∧ W5.heap[g]? = some (.cells cur 24 (0, 0)) ∧ n ≤ cap ∧ cap ≤ maxLen ∧ cur.size = cap * 32 ∧ cur.toList.take (n * 32) = dl c n := by
              rcases HO5.out.2 with ⟨_, h0⟩ | h
              · omega
              · exact h
            obtain ⟨E, hE⟩ : ∃ E, E = byv (digest (List.replicate k c)) := ⟨_, rfl⟩
            have hEs : E.size = 32 := by rw [hE, byv_size, digest_length]
            have hpart : ∀ j, j < E.size → cur[k * 32 + j]? = E[j]? := fun j hj => by
              have hj32 : j < 32 := by omega
              have e1 : (cur.toList.take (n * 32))[k * 32 + j]? = (dl c n)[k * 32 + j]? := by rw [htk]
              rw [List.getElem?_take_of_lt (by omega), dl_get c n k j hkn hj32] at e1
              rw [← Array.getElem?_toList, e1, hE]
            have hEZ : (Tryd.prog.info? 24).map (·.size) = some E.size := by rw [hEs]; exact digest_size
            have q2 : ∀ W, (Op.equalIn 10000 24 (.agg E) (.agg D)).run Tryd.prog W = .ok false W := fun W => by
              rw [hE, HD.out, digest_eq _ _ (digest_length _) (digest_length _)]
              have := Lanes.edges c n k (by omega) hkn
              rw [show (digest (List.replicate k c) == digest (List.replicate n c)) = false from beq_eq_false_iff_ne.2 this.symm]
            have hglt : g < W5.heap.size := (Array.getElem?_eq_some_iff.1 hg).1
            have hgr : Blk wr.drew g 24 cur := (show Blk wr g _ cur from (HBK.out.block g hglt).trans hg).drew
            have hgdr : Blk wr.drew gd 24 D := (HG5.out.below HBK.out hs5d).drew
            have HPT := Lib.hid (And.intro hg (And.intro htk (And.intro hE hcs)))
            have ik := digests_at g k n cap hkn
            clear hg htk hE hcs hcm
            go_wp2_with fail
            refine wp_region_noPanic (wp_region_any (by kernel_rfl) ?_)
            change wpAny _ _ _ _ 6 _ _ wr.drew
            refine any_free (i := 0) (.slice (some ⟨g, 0, none⟩) n cap) rfl (by kernel_rfl) (by kernel_rfl) (by kernel_rfl) (by kernel_rfl) (fun _ => by kernel_rfl) ?_
            refine any_free (i := 1) (.int .i64 (k : Int)) rfl (by kernel_rfl) (by kernel_rfl) (by kernel_rfl) (by kernel_rfl) (fun _ => by kernel_rfl) ?_
            refine any_free (i := 2) (.pointer (some ⟨g, k * 32, none⟩)) rfl (by kernel_rfl) (by kernel_rfl) (by kernel_rfl) (by kernel_rfl) (fun W => by refine exec_at rfl ?_ ?_ (ik W) <;> kernel_rfl) ?_
            refine any_two (i := 3) (j := 4) (.agg E) (.agg D) rfl rfl (by decide) (by kernel_rfl) (by kernel_rfl) (by kernel_rfl) (by kernel_rfl) (by kernel_rfl) (by kernel_rfl) (by kernel_rfl) (exec_part 24 (.tmp 47) (by kernel_rfl) g (k * 32) (by kernel_rfl) 24 cur E _ hgr hpart digest_under rfl hEZ) (exec_row 24 (.tmp 10) (by kernel_rfl) gd (by kernel_rfl) 24 D _ hgdr digest_under rfl HDZ.out) (exec_part 24 (.tmp 47) (by kernel_rfl) g (k * 32) (by kernel_rfl) 24 cur E _ hgr hpart digest_under rfl hEZ) (exec_row 24 (.tmp 10) (by kernel_rfl) gd (by kernel_rfl) 24 D _ hgdr digest_under rfl HDZ.out) (by kernel_rfl) ?_
            refine any_rest (k := 5) rfl (by kernel_rfl) ?_
            simp only [List.drop_succ_cons, List.drop_zero]
            change wpList _ _ (NoPanic _) _ _ wr.drew
            have HBN := Lib.hid (show Below W5.heap.size W5 wr.drew from HBK.out.drew)
            obtain ⟨Wn, hWn⟩ : ∃ W, W = wr.drew := ⟨_, rfl⟩
            rw [← hWn] at HBN ⊢
            clear hgr hgdr hpart ik hWn
            go_wp2_with fail
            refine NoPanic.normal ?_
            go_wp2_with fail
            go_roundw
            case rel => exact ⟨k + 1, by omega, by rw [Int.natCast_add]; rfl, HBN.out⟩
            case measure => simp [intOf]; omega
          · obtain rfl : k = n := by omega
            clear hkn
            obtain ⟨len5, cap5, p5, e5⟩ : ∃ (len5 cap5 : Nat) (p5 : Option Addr), u5 = .slice p5 k cap5 ∧ len5 = 0 := by
              rcases HO5.out.2 with ⟨h0, h1⟩ | ⟨g, cap, cur, h, _⟩
              · exact ⟨0, 0, none, by rw [h0, h1], rfl⟩
              · exact ⟨0, cap, _, h, rfl⟩
            have HO6 := Lib.hid (own_below HO5.out HBK.out)
            have HG6 := Lib.hid (HG5.out.below HBK.out hs5d)
            have HH6 := Lib.hid (HH5.out.below HBK.out HH5.out.lt)
            have HT6 := Lib.hid (HT5.out.below HBK.out)
            have HB6 := Lib.hid (HB5.out.trans (HBK.out.mono HB5.out.size))
            have hs6 : B ≤ wr.heap.size := Nat.le_trans hs5 HBK.out.size
            clear HO5 HG5 HH5 HT5 HB5 HBK
            rw [e5.1]
            rw [e5.1] at HO6
            clear e5
            obtain ⟨ie, z, hie, hiz, his, hib, hzs⟩ := digest_info
            have HI0 := Lib.hid hie
            have HI1 := Lib.hid hiz
            have HI2 := Lib.hid his
            have HI3 := Lib.hid hib
            have HI4 := Lib.hid hzs
            have hDs : D.size = 32 := by rw [HD.out, byv_size, digest_length]
            have HFL := Lib.hid (show Instr.fill (fun i => some (i * ie.size, ie.size)) ((Array.range (1 * ie.size)).map (z.cells[· % z.cells.size]!)) [((0 : Nat), Value.agg D)] = some D by
              rw [HI2.out]
              have := Great.fill_whole (s := 32) (by decide) [Value.agg D] ((Array.range (1 * 32)).map (z.cells[· % z.cells.size]!)) (fun v hv => by obtain rfl := List.mem_singleton.1 hv; exact hDs) (by simp)
              simpa [Value.cells] using this)
            clear hie hiz his hib hzs
            go_wp2_with (first
              | (refine wpList_load_row rfl 24 (.tmp 10) rfl gd rfl 24 D (0, 0) _ ?_ digest_under rfl HDZ.out ?_; exact HG6.out)
              | (refine Go.wpList_buildSlice rfl 40 24 1 #[(0, .tmp 52)] rfl D ie z Tryd.underlying40 HI0.out HI1.out ?_ ?_ ?_ ?_; rw [HI2.out]; decide; rw [HI2.out]; decide; simp only [List.map_toArray, List.map_cons, List.map_nil]; exact HFL.out)
              | (at_builtin; refine wpList_append_own _ rfl (.tmp 51) (.tmp 53) 40 rfl B 24 ie z 32 32 Tryd.underlying40 HI0.out HI1.out HI2.out HI3.out HI4.out (by decide) _ _ _ rfl (HO6.out.alloc _) ⟨wr.heap.size, 0, none⟩ 1 1 D.toList rfl ?a1 ?a2 ?a3 ?a4 ?a5 ?a6 ?_))
            case a1 => simpa using hDs
            case a2 => exact lies_arr wr D _
            case a3 => intro u hu; exact (Array.all_eq_true_iff_forall_mem.1 HD1.out) u (by simpa using hu)
            case a4 => unfold maxLen; omega
            case a5 => omega
            case a6 => rw [World.size_alloc]; omega
            intro v' w7 own7 grow7 _
            have b7 : Below B wr w7 := ((Below.refl B wr).alloc hs6 _).grown grow7 (by rw [World.size_alloc]; omega) (fun i hi => (HO6.out.lt i hi).1)
            have HO7 := Lib.hid (show w7.ownsRow B 24 32 v' (k + 1) (dl c (k + 1)) by rw [dl_succ, ← HD.out]; exact own7)
            have HH7 := Lib.hid (HH6.out.below b7 hgB)
            have HT7 := Lib.hid (HT6.out.under b7 (by omega))
            have HB7 := Lib.hid (HB6.out.trans (b7.mono (by omega)))
            have hs7 : B ≤ w7.heap.size := Nat.le_trans hs6 b7.size
            have cv7 := conv_one w7 c
            have HO8 := Lib.hid (own_below HO7.out ((Below.refl _ w7).alloc (Nat.le_refl _) (.cells #[.int .u8 (c.toNat : Int)] 5)))
            have HH8 := Lib.hid (HH7.out.below ((Below.refl _ w7).alloc (Nat.le_refl _) (.cells #[.int .u8 (c.toNat : Int)] 5)) HH7.out.lt)
            have HT8 := Lib.hid (HT7.out.alloc (.cells #[.int .u8 (c.toNat : Int)] 5))
            have HB8 := Lib.hid (HB7.out.alloc HB7.out.size (.cells #[.int .u8 (c.toNat : Int)] 5))
            have hs8 : B ≤ (w7.alloc (.cells #[.int .u8 (c.toNat : Int)] 5)).heap.size := by rw [World.size_alloc]; omega
            clear own7 grow7 b7 HO6 HG6 HH6 HT6 HB6 HFL HO7 HH7 HT7 HB7 HI0 HI1 HI2 HI3 HI4
            go_wp2_with fail
            refine (Write_any gh (List.replicate k c) (txt [c]) _ (by omega) (by rw [List.length_replicate]; show k + 1 < _; omega) HT8.out HH8.out).mono ?_
            rintro e W9 ⟨rfl, h9, g9⟩
            rw [show List.replicate k c ++ (txt [c]).data.toList = List.replicate (k + 1) c from (List.replicate_succ' ..).symm] at h9
            have HO9 := Lib.hid (own_grown HO8.out g9 hgB)
            have HH9 := Lib.hid h9
            have HT9 := Lib.hid (HT8.out.grown g9 (by omega))
            have HB9 := Lib.hid (HB8.out.trans (below_of_only g9 lgh HB8.out.size))
            have hs9 : B ≤ W9.heap.size := Nat.le_trans hs8 g9.size
            have cv9 := conv_one W9 c
            have hrep := rep_next c k
            have hsm : ¬ 9223372036854775807 < (rep c k).size + (txt [c]).size := by
              rw [← len_data, ← len_data]
              show ¬ 9223372036854775807 < (List.replicate k c).length + 1
              rw [List.length_replicate]; omega
            have HFIN := Lib.hid (show EdAt w gh B c L v' (.string (rep c (k + 1))) (.int .i64 ((k : Int) + 1)) (W9.alloc (.cells #[.int .u8 (c.toNat : Int)] 5)) from
              ⟨k + 1, by omega, by rw [Int.natCast_add]; rfl, rfl, own_below HO9.out ((Below.refl _ W9).alloc (Nat.le_refl _) _), HH9.out.below ((Below.refl _ W9).alloc (Nat.le_refl _) _) HH9.out.lt, HT9.out.alloc _, HB9.out.alloc HB9.out.size _, by rw [World.size_alloc]; omega⟩)
            clear h9 g9 HO8 HH8 HT8 HB8 HO9 HH9 HT9 HB9 cv7
            go_wp2_with fail
            go_roundw
            case rel => exact HFIN.out
            case measure => simp [intOf]; omega
      · have hs5d : gd < W5.heap.size := HG5.out.lt
        go_loopw [11] (fun i wr => ∃ k : Nat, k ≤ n ∧ i = .int .i64 (k : Int) ∧ Below W5.heap.size W5 wr) (fun i _ => n - (intOf i).toNat)
        case atStart => exact ⟨0, Nat.zero_le _, rfl, Below.refl _ _⟩
        case round =>
          obtain ⟨k, hk, rfl, hbk⟩ := hrel
          have HBK := Lib.hid hbk
          clear hbk
          by_cases hkn : k < n
          · obtain ⟨g, cap, cur, rfl, hBg, hg, hnc, hcm, hcs, htk⟩ : ∃ g cap cur, u5 = .slice (some ⟨g, 0, none⟩) n cap ∧ B ≤ g ∧ W5.heap[g]? = some (.cells cur 24 (0, 0)) ∧ n ≤ cap ∧ cap ≤ maxLen ∧ cur.size = cap * 32 ∧ cur.toList.take (n * 32) = dl c n := by
              rcases HO5.out.2 with ⟨_, h0⟩ | h
              · omega
              · exact h
            obtain ⟨E, hE⟩ : ∃ E, E = byv (digest (List.replicate k c)) := ⟨_, rfl⟩
            have hEs : E.size = 32 := by rw [hE, byv_size, digest_length]
            have hpart : ∀ j, j < E.size → cur[k * 32 + j]? = E[j]? := fun j hj => by
              have hj32 : j < 32 := by omega
              have e1 : (cur.toList.take (n * 32))[k * 32 + j]? = (dl c n)[k * 32 + j]? := by rw [htk]
              rw [List.getElem?_take_of_lt (by omega), dl_get c n k j hkn hj32] at e1
              rw [← Array.getElem?_toList, e1, hE]
            have hEZ : (Tryd.prog.info? 24).map (·.size) = some E.size := by rw [hEs]; exact digest_size
            have q2 : ∀ W, (Op.equalIn 10000 24 (.agg E) (.agg D)).run Tryd.prog W = .ok false W := fun W => by
              rw [hE, HD.out, digest_eq _ _ (digest_length _) (digest_length _)]
              have := Lanes.edges c n k (by omega) hkn
              rw [show (digest (List.replicate k c) == digest (List.replicate n c)) = false from beq_eq_false_iff_ne.2 this.symm]
            have hglt : g < W5.heap.size := (Array.getElem?_eq_some_iff.1 hg).1
            have hgr : Blk wr.drew g 24 cur := (show Blk wr g _ cur from (HBK.out.block g hglt).trans hg).drew
            have hgdr : Blk wr.drew gd 24 D := (HG5.out.below HBK.out hs5d).drew
            have HPT := Lib.hid (And.intro hg (And.intro htk (And.intro hE hcs)))
            have ik := digests_at g k n cap hkn
            clear hg htk hE hcs hcm
            go_wp2_with fail
            refine wp_region_noPanic (wp_region_any (by kernel_rfl) ?_)
            change wpAny _ _ _ _ 6 _ _ wr.drew
            refine any_free (i := 0) (.slice (some ⟨g, 0, none⟩) n cap) rfl (by kernel_rfl) (by kernel_rfl) (by kernel_rfl) (by kernel_rfl) (fun _ => by kernel_rfl) ?_
            refine any_free (i := 1) (.int .i64 (k : Int)) rfl (by kernel_rfl) (by kernel_rfl) (by kernel_rfl) (by kernel_rfl) (fun _ => by kernel_rfl) ?_
            refine any_free (i := 2) (.pointer (some ⟨g, k * 32, none⟩)) rfl (by kernel_rfl) (by kernel_rfl) (by kernel_rfl) (by kernel_rfl) (fun W => by refine exec_at rfl ?_ ?_ (ik W) <;> kernel_rfl) ?_
            refine any_two (i := 3) (j := 4) (.agg E) (.agg D) rfl rfl (by decide) (by kernel_rfl) (by kernel_rfl) (by kernel_rfl) (by kernel_rfl) (by kernel_rfl) (by kernel_rfl) (by kernel_rfl) (exec_part 24 (.tmp 47) (by kernel_rfl) g (k * 32) (by kernel_rfl) 24 cur E _ hgr hpart digest_under rfl hEZ) (exec_row 24 (.tmp 10) (by kernel_rfl) gd (by kernel_rfl) 24 D _ hgdr digest_under rfl HDZ.out) (exec_part 24 (.tmp 47) (by kernel_rfl) g (k * 32) (by kernel_rfl) 24 cur E _ hgr hpart digest_under rfl hEZ) (exec_row 24 (.tmp 10) (by kernel_rfl) gd (by kernel_rfl) 24 D _ hgdr digest_under rfl HDZ.out) (by kernel_rfl) ?_
            refine any_rest (k := 5) rfl (by kernel_rfl) ?_
            simp only [List.drop_succ_cons, List.drop_zero]
            change wpList _ _ (NoPanic _) _ _ wr.drew
            have HBN := Lib.hid (show Below W5.heap.size W5 wr.drew from HBK.out.drew)
            obtain ⟨Wn, hWn⟩ : ∃ W, W = wr.drew := ⟨_, rfl⟩
            rw [← hWn] at HBN ⊢
            clear hgr hgdr hpart ik hWn
            go_wp2_with fail
            refine NoPanic.normal ?_
            go_wp2_with fail
            go_roundw
            case rel => exact ⟨k + 1, by omega, by rw [Int.natCast_add]; rfl, HBN.out⟩
            case measure => simp [intOf]; omega
          · obtain rfl : k = n := by omega
            clear hkn
            obtain ⟨len5, cap5, p5, e5⟩ : ∃ (len5 cap5 : Nat) (p5 : Option Addr), u5 = .slice p5 k cap5 ∧ len5 = 0 := by
              rcases HO5.out.2 with ⟨h0, h1⟩ | ⟨g, cap, cur, h, _⟩
              · exact ⟨0, 0, none, by rw [h0, h1], rfl⟩
              · exact ⟨0, cap, _, h, rfl⟩
            have HO6 := Lib.hid (own_below HO5.out HBK.out)
            have HG6 := Lib.hid (HG5.out.below HBK.out hs5d)
            have HH6 := Lib.hid (HH5.out.below HBK.out HH5.out.lt)
            have HT6 := Lib.hid (HT5.out.below HBK.out)
            have HB6 := Lib.hid (HB5.out.trans (HBK.out.mono HB5.out.size))
            have hs6 : B ≤ wr.heap.size := Nat.le_trans hs5 HBK.out.size
            clear HO5 HG5 HH5 HT5 HB5 HBK
            rw [e5.1]
            rw [e5.1] at HO6
            clear e5
            obtain ⟨ie, z, hie, hiz, his, hib, hzs⟩ := digest_info
            have HI0 := Lib.hid hie
            have HI1 := Lib.hid hiz
            have HI2 := Lib.hid his
            have HI3 := Lib.hid hib
            have HI4 := Lib.hid hzs
            have hDs : D.size = 32 := by rw [HD.out, byv_size, digest_length]
            have HFL := Lib.hid (show Instr.fill (fun i => some (i * ie.size, ie.size)) ((Array.range (1 * ie.size)).map (z.cells[· % z.cells.size]!)) [((0 : Nat), Value.agg D)] = some D by
              rw [HI2.out]
              have := Great.fill_whole (s := 32) (by decide) [Value.agg D] ((Array.range (1 * 32)).map (z.cells[· % z.cells.size]!)) (fun v hv => by obtain rfl := List.mem_singleton.1 hv; exact hDs) (by simp)
              simpa [Value.cells] using this)
            clear hie hiz his hib hzs
            go_wp2_with (first
              | (refine wpList_load_row rfl 24 (.tmp 10) rfl gd rfl 24 D (0, 0) _ ?_ digest_under rfl HDZ.out ?_; exact HG6.out)
              | (refine Go.wpList_buildSlice rfl 40 24 1 #[(0, .tmp 52)] rfl D ie z Tryd.underlying40 HI0.out HI1.out ?_ ?_ ?_ ?_; rw [HI2.out]; decide; rw [HI2.out]; decide; simp only [List.map_toArray, List.map_cons, List.map_nil]; exact HFL.out)
              | (at_builtin; refine wpList_append_own _ rfl (.tmp 51) (.tmp 53) 40 rfl B 24 ie z 32 32 Tryd.underlying40 HI0.out HI1.out HI2.out HI3.out HI4.out (by decide) _ _ _ rfl (HO6.out.alloc _) ⟨wr.heap.size, 0, none⟩ 1 1 D.toList rfl ?b1 ?b2 ?b3 ?b4 ?b5 ?b6 ?_))
            case b1 => simpa using hDs
            case b2 => exact lies_arr wr D _
            case b3 => intro u hu; exact (Array.all_eq_true_iff_forall_mem.1 HD1.out) u (by simpa using hu)
            case b4 => unfold maxLen; omega
            case b5 => omega
            case b6 => rw [World.size_alloc]; omega
            intro v' w7 own7 grow7 _
            have b7 : Below B wr w7 := ((Below.refl B wr).alloc hs6 _).grown grow7 (by rw [World.size_alloc]; omega) (fun i hi => (HO6.out.lt i hi).1)
            have HO7 := Lib.hid (show w7.ownsRow B 24 32 v' (k + 1) (dl c (k + 1)) by rw [dl_succ, ← HD.out]; exact own7)
            have HH7 := Lib.hid (HH6.out.below b7 hgB)
            have HT7 := Lib.hid (HT6.out.under b7 (by omega))
            have HB7 := Lib.hid (HB6.out.trans (b7.mono (by omega)))
            have hs7 : B ≤ w7.heap.size := Nat.le_trans hs6 b7.size
            have cv7 := conv_one w7 c
            have HO8 := Lib.hid (own_below HO7.out ((Below.refl _ w7).alloc (Nat.le_refl _) (.cells #[.int .u8 (c.toNat : Int)] 5)))
            have HH8 := Lib.hid (HH7.out.below ((Below.refl _ w7).alloc (Nat.le_refl _) (.cells #[.int .u8 (c.toNat : Int)] 5)) HH7.out.lt)
            have HT8 := Lib.hid (HT7.out.alloc (.cells #[.int .u8 (c.toNat : Int)] 5))
            have HB8 := Lib.hid (HB7.out.alloc HB7.out.size (.cells #[.int .u8 (c.toNat : Int)] 5))
            have hs8 : B ≤ (w7.alloc (.cells #[.int .u8 (c.toNat : Int)] 5)).heap.size := by rw [World.size_alloc]; omega
            clear own7 grow7 b7 HO6 HG6 HH6 HT6 HB6 HFL HO7 HH7 HT7 HB7 HI0 HI1 HI2 HI3 HI4
            go_wp2_with fail
            refine (Write_any gh (List.replicate k c) (txt [c]) _ (by omega) (by rw [List.length_replicate]; show k + 1 < _; omega) HT8.out HH8.out).mono ?_
            rintro e W9 ⟨rfl, h9, g9⟩
            rw [show List.replicate k c ++ (txt [c]).data.toList = List.replicate (k + 1) c from (List.replicate_succ' ..).symm] at h9
            have HO9 := Lib.hid (own_grown HO8.out g9 hgB)
            have HH9 := Lib.hid h9
            have HT9 := Lib.hid (HT8.out.grown g9 (by omega))
            have HB9 := Lib.hid (HB8.out.trans (below_of_only g9 lgh HB8.out.size))
            have hs9 : B ≤ W9.heap.size := Nat.le_trans hs8 g9.size
            have cv9 := conv_one W9 c
            have hrep := rep_next c k
            have hsm : ¬ 9223372036854775807 < (rep c k).size + (txt [c]).size := by
              rw [← len_data, ← len_data]
              show ¬ 9223372036854775807 < (List.replicate k c).length + 1
              rw [List.length_replicate]; omega
            have HFIN := Lib.hid (show EdAt w gh B c L v' (.string (rep c (k + 1))) (.int .i64 ((k : Int) + 1)) (W9.alloc (.cells #[.int .u8 (c.toNat : Int)] 5)) from
              ⟨k + 1, by omega, by rw [Int.natCast_add]; rfl, rfl, own_below HO9.out ((Below.refl _ W9).alloc (Nat.le_refl _) _), HH9.out.below ((Below.refl _ W9).alloc (Nat.le_refl _) _) HH9.out.lt, HT9.out.alloc _, HB9.out.alloc HB9.out.size _, by rw [World.size_alloc]; omega⟩)
            clear h9 g9 HO8 HH8 HT8 HB8 HO9 HH9 HT9 HB9 cv7
            go_wp2_with fail
            go_roundw
            case rel => exact HFIN.out
            case measure => simp [intOf]; omega
    · obtain rfl : n = L + 1 := by omega
      clear hnL
      go_wp2_with fail
      go_ret
      exact ⟨rfl, HB.out⟩

set_option maxRecDepth 100000 in
theorem lifted (os : Os) (started : os.Started) (H : Type) (enc : TypeId × Value → H) :
    ReturnsInHanded {} Tryd.checked os 7 .any (fun w args => (Rows.hashEdgesSpec.pre enc Tryd.prog Tryd.f7 [] false w args ∧ laidMetH Tryd.prog laid1 w) ∧ sizedMet enc Tryd.prog Tryd.f7 (OpenSpec.ofChange Rows.hashEdgesSpec) false w args)
      (Rows.hashEdgesSpec.post enc Tryd.prog Tryd.f7 false true false false) := by
  refine returnsInHanded_of_change_and (C := Tryd.checked) (X := fun w _ => laidMetH Tryd.prog laid1 w) (fun _ _ _ hh h => h.of_heap hh) own started (by kernel_rfl) Tryd.func7
    (ChangeSpec.witness_shaped (enc := enc) (C := Tryd.checked) (os := os) (X := fun w _ => laidMetH Tryd.prog laid1 w) false (World.doorLaid Tryd.prog 400 os) #[.int .u8 0, .int .u8 0] 8 rfl (World.shaped_of_RefB (by kernel_rfl) (by kernel_rfl)) (by kernel_rfl) (by kernel_rfl) (by kernel_rfl) (door_met os _)) ?_
  intro W base args ds gs before hval0 hW hcnd hsz0 hL _
  have hsz : (DataW.weightsEach Tryd.prog (Tryd.f7.params.toList ++ Rows.hashEdgesSpec.plain.varTypes Tryd.prog) (ds ++ gs)).all (· ≤ reachBytes) = true := hsz0
  have ht := table_of hL
  have hval : ∀ (j : Nat) t v, Tryd.f7.params[j]? = some t → args[j]? = some v → Value.okWide Tryd.prog W .any base t v := hval0
  have hW' := hW
  obtain ⟨p, q, hA0, hV, rfl, hfz, hnd⟩ := hW
  have hA : DataW.TrodAll enc Tryd.prog W 0 (fun _ => true) true Tryd.f7.params.toList args.toList ds p := hA0
  rw [Tryd.params7] at hA hval hsz
  obtain ⟨v0, vs0, d0, ds0, p0, q0, hargs, rfl, rfl, h0, r0⟩ := trodAll_cons hA
  obtain ⟨v1, vs1, d1, ds1, p1, q1, rfl, rfl, rfl, h1, r1⟩ := trodAll_cons r0
  obtain ⟨rfl, rfl, rfl⟩ := trodAll_nil r1
  obtain rfl : args = #[v0, v1] := by cases args; simp_all
  obtain ⟨rfl, rfl⟩ := trodVars_none hV
  obtain ⟨a0, rfl, rfl, rfl, w0⟩ := open_int Tryd.underlying5 (hval 0 5 v0 rfl rfl) h0
  obtain ⟨a1, rfl, rfl, rfl, w1⟩ := open_int Tryd.underlying5 (hval 1 5 v1 rfl rfl) h1
  clear hA0 hval0
  simp only [List.append_nil] at hW'
  refine (walk a0 (bounds_u8 w0) a1 (bounds_u8 w1) W ht).mono fun e W' ⟨he, bel⟩ => ?_
  subst he
  exact ⟨_, rfl, _, _, _, [], _, [], hW', trodAll_mk1 (shut_bool Tryd.underlying4 _), (trodAll_cons_mk (shut_int Tryd.underlying5 w0) (trodAll_cons_mk (shut_int Tryd.underlying5 w1) trodAll_mk0)), rfl, bel.frame _, fun h => by cases h⟩

theorem over : Rows.HashEdgesSaid :=
  OpenClaim.holds_of_wide 7 Tryd.f7 rfl rfl rfl rfl rfl rfl rfl ⟨rfl, rfl, rfl, rfl, rfl⟩ rfl rfl rfl rfl rfl (by kernel_rfl) Tryd.func7 (by kernel_rfl)
    (of_decide_eq_true (by kernel_rfl)) (by unfold Func.isWrapper; first | (rw [if_pos (by decide +kernel)]; kernel_rfl) | (rw [if_neg (by decide +kernel)]; exact ⟨rfl, rfl⟩))
    (fun os started H enc _ => lifted os started H enc)

theorem proved : Rows.HashEdgesCardSaid :=
  Claim7.holds_tied_plain_at .later [] [.data, .data] true _ false
    over (fun _ h => by cases h) (by kernel_rfl) (fun _ h => by cases h) hashEdges_row_tie rfl ⟨rfl, rfl⟩ (by kernel_rfl) rfl
    (fun f fn hf hfn => by
      obtain rfl : f = 7 := Option.some.inj ((show Tryd.prog.funcNamed "plait/plaitlaw06.HashEdges" = some 7 by kernel_rfl).symm.trans hf) |>.symm
      obtain rfl : fn = Tryd.f7 := (Option.some.inj (Tryd.func7.symm.trans hfn)).symm
      exact ⟨by kernel_rfl, fun j t ht => by
        rw [Tryd.params7] at ht
        have hm : t ∈ ([5, 5] : List TypeId) := by simpa using Array.mem_of_getElem? ht
        have hall : (([5, 5] : List TypeId).all fun u => !Tryd.prog.wantsStandIn u) = true := by kernel_rfl
        exact (show Tryd.prog.wantsStandIn t = false by simpa using List.all_eq_true.1 hall t hm)⟩)
    (by kernel_rfl)
#print axioms proved
end Go.Proofs.YtblcadikfjdfoaaDoor.hashEdges
