/-
  The chapter's examples, and two more; a hash that is none (statement HashKnown, promises P6.1, P6.2), without condition but the tables' own initial values, which the card ties to the program's text.
-/
import Derived.Test.YtblcadikfjdfoaaDoorShaOpen
import Derived.Test.YtblcadikfjdfoaaDoorShaEq
import Derived.Test.YtblcadikfjdfoaaDoorShaPieces
import Derived.Deep.QuietTactic
import Derived.BigQuiet
namespace Go.Proofs.YtblcadikfjdfoaaDoor.hashKnown
open Go.ChangeShapes Go.WideShapes Go.ChangeAt Go.RowKit
set_option linter.unusedVariables false

theorem info_u8 : (Tryd.prog.info? 5).map (fun i => (i.zero, i.size, i.bytes)) = some (some (.int .u8 0), 1, 1) := by kernel_rfl
theorem lies_l (wr : World) (vs : List Value) (t : TypeId) : ∀ i u, vs[i]? = some u → (wr.alloc (.cells vs.toArray t)).cell? ((⟨wr.heap.size, 0, none⟩ : Addr).add i) = some u := by
  intro i u hu
  have e : (⟨wr.heap.size, 0, none⟩ : Addr).add i = ⟨wr.heap.size, i, none⟩ := by unfold Addr.add; split <;> simp_all
  rw [e, (Blk.new wr t vs.toArray).cell i]
  simpa using hu
/-- A digit. -/
def hexd (n : Nat) : UInt8 := ([48, 49, 50, 51, 52, 53, 54, 55, 56, 57, 97, 98, 99, 100, 101, 102] : List UInt8).getD n 0
def hexs (l : List UInt8) : List UInt8 := l.flatMap fun b => [hexd (b.toNat / 16), hexd (b.toNat % 16)]
theorem hexs_length (l : List UInt8) : (hexs l).length = 2 * l.length := by
  induction l with
  | nil => rfl
  | cons b l ih => simp [hexs] at ih ⊢; omega
theorem hexs_take (l : List UInt8) (j : Nat) (h : j < l.length) : hexs (l.take (j + 1)) = hexs (l.take j) ++ [hexd (l[j].toNat / 16), hexd (l[j].toNat % 16)] := by
  rw [List.take_succ_eq_append_getElem h, hexs, List.flatMap_append]; rfl
def wantA : Array Value := #[.string ⟨#[101, 51, 98, 48, 99, 52, 52, 50, 57, 56, 102, 99, 49, 99, 49, 52, 57, 97, 102, 98, 102, 52, 99, 56, 57, 57, 54, 102, 98, 57, 50, 52, 50, 55, 97, 101, 52, 49, 101, 52, 54, 52, 57, 98, 57, 51, 52, 99, 97, 52, 57, 53, 57, 57, 49, 98, 55, 56, 53, 50, 98, 56, 53, 53]⟩, .string ⟨#[98, 97, 55, 56, 49, 54, 98, 102, 56, 102, 48, 49, 99, 102, 101, 97, 52, 49, 52, 49, 52, 48, 100, 101, 53, 100, 97, 101, 50, 50, 50, 51, 98, 48, 48, 51, 54, 49, 97, 51, 57, 54, 49, 55, 55, 97, 57, 99, 98, 52, 49, 48, 102, 102, 54, 49, 102, 50, 48, 48, 49, 53, 97, 100]⟩, .string ⟨#[50, 52, 56, 100, 54, 97, 54, 49, 100, 50, 48, 54, 51, 56, 98, 56, 101, 53, 99, 48, 50, 54, 57, 51, 48, 99, 51, 101, 54, 48, 51, 57, 97, 51, 51, 99, 101, 52, 53, 57, 54, 52, 102, 102, 50, 49, 54, 55, 102, 54, 101, 99, 101, 100, 100, 52, 49, 57, 100, 98, 48, 54, 99, 49]⟩, .string ⟨#[100, 55, 97, 56, 102, 98, 98, 51, 48, 55, 100, 55, 56, 48, 57, 52, 54, 57, 99, 97, 57, 97, 98, 99, 98, 48, 48, 56, 50, 101, 52, 102, 56, 100, 53, 54, 53, 49, 101, 52, 54, 100, 51, 99, 100, 98, 55, 54, 50, 100, 48, 50, 100, 48, 98, 102, 51, 55, 99, 57, 101, 53, 57, 50]⟩]
def textA : Array Value := #[.string ⟨#[]⟩, .string ⟨#[97, 98, 99]⟩, .string ⟨#[97, 98, 99, 100, 98, 99, 100, 101, 99, 100, 101, 102, 100, 101, 102, 103, 101, 102, 103, 104, 102, 103, 104, 105, 103, 104, 105, 106, 104, 105, 106, 107, 105, 106, 107, 108, 106, 107, 108, 109, 107, 108, 109, 110, 108, 109, 110, 111, 109, 110, 111, 112, 110, 111, 112, 113]⟩, .string ⟨#[84, 104, 101, 32, 113, 117, 105, 99, 107, 32, 98, 114, 111, 119, 110, 32, 102, 111, 120, 32, 106, 117, 109, 112, 115, 32, 111, 118, 101, 114, 32, 116, 104, 101, 32, 108, 97, 122, 121, 32, 100, 111, 103]⟩]
/-- The four. -/
theorem four_of (j : Nat) (hj : j < 4) : ∃ (t s : ByteArray), textA[j]? = some (.string t) ∧ wantA[j]? = some (.string s) ∧ t.size ≤ 60 ∧ s = txt (hexs (digest t.data.toList)) := by
  have e : ∀ (l : List UInt8) (s : ByteArray), s.data.toList = hexs (digest l) → s = txt (hexs (digest l)) := fun l s h => txt_ext (by rw [h])
  match j, hj with
  | 0, _ => exact ⟨_, _, rfl, rfl, by decide, e _ _ (by decide +kernel)⟩
  | 1, _ => exact ⟨_, _, rfl, rfl, by decide, e _ _ (by decide +kernel)⟩
  | 2, _ => exact ⟨_, _, rfl, rfl, by decide, e _ _ (by decide +kernel)⟩
  | 3, _ => exact ⟨_, _, rfl, rfl, by decide, e _ _ (by decide +kernel)⟩

/-- A digit out of the text of digits. -/
theorem hex_at (n : Nat) (h : n < 16) (w : World) : (Instr.index 9 (.string ⟨#[48, 49, 50, 51, 52, 53, 54, 55, 56, 57, 97, 98, 99, 100, 101, 102]⟩) (.int .u8 (n : Int))).run Tryd.prog w = .ok (.int .u8 ((hexd n).toNat : Int)) w := by
  have all : ∀ m : _root_.Fin 16, ((⟨#[48, 49, 50, 51, 52, 53, 54, 55, 56, 57, 97, 98, 99, 100, 101, 102]⟩ : ByteArray)[m.val]'(m.isLt)) = hexd m.val := by decide +kernel
  rw [run_index_string w _ _ _ _ Tryd.underlying9, dif_pos ⟨by omega, by show (n : Int) < 16; omega⟩]
  have := all ⟨n, h⟩
  simp only [Int.toNat_natCast] at this ⊢
  rw [this]
theorem exec_index {P : Program} {ρ : Operand → Value} {o : Oper} {w : World} {t : TypeId} {x y : Operand} {n i v : Value} (ho : o.op = .index t x y) (hx : ρ x = n) (hy : ρ y = i) (h : (Instr.index t n i).run P w = .ok v w) : (execOp ρ o).run P w = .ok (.value v) w := by
  unfold execOp
  rw [ho]
  simp [hx, hy, h]
theorem exec_at {P : Program} {ρ : Operand → Value} {o : Oper} {w : World} {t : TypeId} {x y : Operand} {n i v : Value} (ho : o.op = .indexAddr t x y) (hx : ρ x = n) (hy : ρ y = i) (h : (Instr.indexAt t n i).run P w = .ok v w) : (execOp ρ o).run P w = .ok (.value v) w := by
  unfold execOp
  rw [ho]
  simp [hx, hy, h]
theorem digest_at (g k : Nat) (hk : k < 32) (w : World) : (Instr.indexAt 24 (.pointer (some ⟨g, 0, none⟩)) (.int .i64 (k : Int))).run Tryd.prog w = .ok (.pointer (some ⟨g, k, none⟩)) w := by
  rw [run_indexAt_array w _ _ _ _ (by kernel_rfl)]
  have e1 : Tryd.prog.arrayLen 24 = 32 := by kernel_rfl
  have e2 : Tryd.prog.elem 24 = 5 := by kernel_rfl
  rw [e1, e2]
  have e3 : (⟨g, 0, none⟩ : Addr).add k = ⟨g, k, none⟩ := by unfold Addr.add; split <;> simp_all
  simp [show (k : Int) < 32 by omega, e3]
theorem four_at (g k : Nat) (hk : k < 4) (w : World) : (Instr.indexAt 42 (.pointer (some ⟨g, 0, none⟩)) (.int .i64 (k : Int))).run Tryd.prog w = .ok (.pointer (some ⟨g, k, none⟩)) w := by
  rw [run_indexAt_array w _ _ _ _ (by kernel_rfl)]
  have e1 : Tryd.prog.arrayLen 42 = 4 := by kernel_rfl
  have e2 : Tryd.prog.elem 42 = 9 := by kernel_rfl
  rw [e1, e2]
  have e3 : (⟨g, 0, none⟩ : Addr).add k = ⟨g, k, none⟩ := by unfold Addr.add; split <;> simp_all
  simp [show (k : Int) < 4 by omega, e3]
theorem exec_conv {P : Program} {ρ : Operand → Value} {o : Oper} {w w' : World} (t u : TypeId) (x : Operand) {n v : Value} (ho : o.op = .convert t u x) (hx : ρ x = n) (h : (convert t u n).run P w = .ok v w') : (execOp ρ o).run P w = .ok (.value v) w' := by
  unfold execOp
  rw [ho]
  simp [hx, h]
/-- Two operations may come up, and both read. -/
theorem any_split {P : Program} {ops : Array Oper} {md : Region.Mode} {Q : Exit → Act → World → Prop} {i j : Nat} {o u : Oper} {fuel : Nat} {listed : Array Bool} {a : Act} {w : World} (v x : Value) (hi : ops[i]? = some o) (hj : ops[j]? = some u) (hr : Region.ready md ops listed = [i, j])
    (hw : Region.wanted o (yielded ops a.tmps) = true) (hwu : Region.wanted u (yielded ops a.tmps) = true) (hv : (execOp a.eval o).run P w = .ok (.value v) w) (hx : (execOp a.eval u).run P w = .ok (.value x) w)
    (h1 : wpAny P md ops Q fuel (listed.setIfInBounds i true) (a.put o.dst v) w) (h2 : wpAny P md ops Q fuel (listed.setIfInBounds j true) (a.put u.dst x) w) : wpAny P md ops Q (fuel + 1) listed a w := by
  refine ⟨fun h0 => (by rw [hr] at h0; cases h0), fun k hk => ?_⟩
  rw [hr] at hk
  simp only [List.mem_cons, List.not_mem_nil, or_false] at hk
  rcases hk with rfl | rfl
  · unfold wpOp
    rw [hi]
    simp only [hw, if_true]
    refine .inl ?_
    unfold Oper.wp
    rw [hv]
    exact h1
  · unfold wpOp
    rw [hj]
    simp only [hwu, if_true]
    refine .inl ?_
    unfold Oper.wp
    rw [hx]
    exact h2
theorem exec_cell {P : Program} {ρ : Operand → Value} {o : Oper} {w : World} (ty : TypeId) (x : Operand) (ho : o.op = .load ty x) (p : Addr) {v : Value} (hx : ρ x = .pointer (some p)) (hu : (isAgg ty).run P w = .ok false w)
    (hc : w.cell? p = some v) : (execOp ρ o).run P w = .ok (.value v) w := by
  unfold execOp
  rw [ho]
  simp [hx, hu, hc, go_sem]

theorem own_text (w : World) (base : Nat) (v : Value) (n : Nat) (l : List UInt8) (h : w.ownsRow base 5 1 v n (byv l).toList) (hl : 0 < l.length) (W : World) (hW : W.heap = w.heap) :
    (convert 22 9 v).run Tryd.prog W = .ok (.string (txt l)) W := by
  obtain ⟨h0, h⟩ := h
  have hn : n = l.length := by simpa [byv] using h0.symm
  subst hn
  rcases h with ⟨rfl, h1⟩ | ⟨g, cap, cur, rfl, hb, hg, h1, h2, h3, h4⟩
  · omega
  · refine run_convert_bytes_back W 22 9 5 ⟨g, 0, none⟩ cap l Tryd.underlying22 Tryd.underlying5 Tryd.underlying9 fun j hj => ?_
    have e : (⟨g, 0, none⟩ : Addr).add j = ⟨g, j, none⟩ := by unfold Addr.add; split <;> simp_all
    have e1 : (cur.toList.take (l.length * 1))[j]? = (byv l).toList[j]? := by rw [h4]
    rw [List.getElem?_take_of_lt (by omega)] at e1
    rw [e, World.cell?_of_block (a := ⟨g, j, none⟩) (show W.heap[g]? = w.heap[g]? by rw [hW]), cell_of_row w g j cur _ (0, 0) hg, ← Array.getElem?_toList, e1]
    simp [byv, hj]

/-- So far: k bytes were told. -/
def HxAt (w : World) (d : List UInt8) (v i : Value) (W : World) : Prop :=
  ∃ k : Nat, k ≤ 32 ∧ i = .int .i64 (k : Int) ∧ W.ownsRow w.heap.size 5 1 v (2 * k) (byv (hexs (d.take k))).toList ∧ Below w.heap.size w W

set_option maxHeartbeats 4000000 in
set_option maxRecDepth 100000 in
theorem walk (w : World) (ht : Tbl w) :
    Calls Tryd.prog 8 #[] w fun e w' => e = .returned (.bool true) ∧ Below w.heap.size w w' := by
  have h1 := ht.lt
  have HT := Lib.hid ht
  clear ht
  go_enter Tryd.func8, Tryd.ntmps8
  go_wp2_with fail
  rw [show (#[.string ⟨#[101, 51, 98, 48, 99, 52, 52, 50, 57, 56, 102, 99, 49, 99, 49, 52, 57, 97, 102, 98, 102, 52, 99, 56, 57, 57, 54, 102, 98, 57, 50, 52, 50, 55, 97, 101, 52, 49, 101, 52, 54, 52, 57, 98, 57, 51, 52, 99, 97, 52, 57, 53, 57, 57, 49, 98, 55, 56, 53, 50, 98, 56, 53, 53]⟩, .string ⟨#[98, 97, 55, 56, 49, 54, 98, 102, 56, 102, 48, 49, 99, 102, 101, 97, 52, 49, 52, 49, 52, 48, 100, 101, 53, 100, 97, 101, 50, 50, 50, 51, 98, 48, 48, 51, 54, 49, 97, 51, 57, 54, 49, 55, 55, 97, 57, 99, 98, 52, 49, 48, 102, 102, 54, 49, 102, 50, 48, 48, 49, 53, 97, 100]⟩, .string ⟨#[50, 52, 56, 100, 54, 97, 54, 49, 100, 50, 48, 54, 51, 56, 98, 56, 101, 53, 99, 48, 50, 54, 57, 51, 48, 99, 51, 101, 54, 48, 51, 57, 97, 51, 51, 99, 101, 52, 53, 57, 54, 52, 102, 102, 50, 49, 54, 55, 102, 54, 101, 99, 101, 100, 100, 52, 49, 57, 100, 98, 48, 54, 99, 49]⟩, .string ⟨#[100, 55, 97, 56, 102, 98, 98, 51, 48, 55, 100, 55, 56, 48, 57, 52, 54, 57, 99, 97, 57, 97, 98, 99, 98, 48, 48, 56, 50, 101, 52, 102, 56, 100, 53, 54, 53, 49, 101, 52, 54, 100, 51, 99, 100, 98, 55, 54, 50, 100, 48, 50, 100, 48, 98, 102, 51, 55, 99, 57, 101, 53, 57, 50]⟩] : Array Value) = wantA from rfl, show (#[.string ⟨#[]⟩, .string ⟨#[97, 98, 99]⟩, .string ⟨#[97, 98, 99, 100, 98, 99, 100, 101, 99, 100, 101, 102, 100, 101, 102, 103, 101, 102, 103, 104, 102, 103, 104, 105, 103, 104, 105, 106, 104, 105, 106, 107, 105, 106, 107, 108, 106, 107, 108, 109, 107, 108, 109, 110, 108, 109, 110, 111, 109, 110, 111, 112, 110, 111, 112, 113]⟩, .string ⟨#[84, 104, 101, 32, 113, 117, 105, 99, 107, 32, 98, 114, 111, 119, 110, 32, 102, 111, 120, 32, 106, 117, 109, 112, 115, 32, 111, 118, 101, 114, 32, 116, 104, 101, 32, 108, 97, 122, 121, 32, 100, 111, 103]⟩] : Array Value) = textA from rfl]
  obtain ⟨z32, hz32⟩ : ∃ z32, z32 = byv (List.replicate 32 0) := ⟨_, rfl⟩
  have HZE := Lib.hid hz32
  clear hz32
  obtain ⟨WC, hWC⟩ : ∃ WC, WC = wantA := ⟨_, rfl⟩
  obtain ⟨TC, hTC⟩ : ∃ TC, TC = textA := ⟨_, rfl⟩
  have HF := Lib.hid (show ∀ (j : Nat) (hj : j < 4), ∃ (t s : ByteArray), TC[j]? = some (.string t) ∧ WC[j]? = some (.string s) ∧ t.size ≤ 60 ∧ s = txt (hexs (digest t.data.toList)) by rw [hWC, hTC]; exact four_of)
  rw [← hWC, ← hTC]
  clear hWC hTC
  have HW1 := Lib.hid ((Blk.new w 42 WC).alloc (.cells TC 42))
  have ht1 := Blk.new (w.alloc (.cells WC 42)) 42 TC
  rw [World.size_alloc] at ht1
  have HX1 := Lib.hid ht1
  have HT1 := Lib.hid ((HT.out.alloc (.cells WC 42)).alloc (.cells TC 42))
  have HB1 := Lib.hid (((Below.refl w.heap.size w).alloc (Nat.le_refl _) (.cells WC 42)).alloc (by rw [World.size_alloc]; omega) (.cells TC 42))
  obtain ⟨W1, hW1⟩ : ∃ W1, W1 = (w.alloc (.cells WC 42)).alloc (.cells TC 42) := ⟨_, rfl⟩
  rw [← hW1] at HW1 HX1 HT1 HB1 ⊢
  clear ht1 hW1 HT
  go_loopw [3] (fun i wr => ∃ j : Nat, j ≤ 4 ∧ i = .int .i64 (j : Int) ∧ Blk wr w.heap.size 42 WC ∧ Blk wr (w.heap.size + 1) 42 TC ∧ Tbl wr ∧ Below w.heap.size w wr) (fun i _ => 4 - (intOf i).toNat)
  case atStart => exact ⟨0, by decide, rfl, HW1.out, HX1.out, HT1.out, HB1.out⟩
  case round =>
    obtain ⟨j, hj, rfl, hw, hx, ht, hb⟩ := hrel
    have HW := Lib.hid hw
    have HX := Lib.hid hx
    have HT := Lib.hid ht
    have HB := Lib.hid hb
    clear hw hx ht hb HW1 HX1 HT1 HB1
    by_cases hlt : j < 4
    · obtain ⟨t, s, et, es, tz, hs⟩ := HF.out j hlt
      have ct := (HX.out.cell j).trans et
      obtain ⟨D, hD⟩ : ∃ D, D = byv (digest t.data.toList) := ⟨_, rfl⟩
      have HD := Lib.hid hD
      have HS := Lib.hid hs
      have HES := Lib.hid es
      clear hs hD et es
      go_wp2_with fail
      refine (SumL t _ D wr rfl HD.out HT.out (by rw [len_data]; omega)).mono ?_
      rintro e W2 ⟨rfl, b2⟩
      have HW2 := Lib.hid (HW.out.below b2 HW.out.lt)
      have HX2 := Lib.hid (HX.out.below b2 HX.out.lt)
      have HT2 := Lib.hid (HT.out.below b2)
      have HB2 := Lib.hid (HB.out.trans (b2.mono HB.out.size))
      clear b2 HW HX HT HB ct
      have HDZ := Lib.hid (show (Tryd.prog.info? 24).map (·.size) = some D.size by rw [HD.out, byv_size, digest_length]; exact digest_size)
      have HDO := Lib.hid (show z32.size = D.size by rw [HZE.out, HD.out, byv_size, byv_size, digest_length]; rfl)
      have HD1 := Lib.hid (show D.all (·.oneCell') = true by rw [HD.out]; exact byv_one _)
      have HN := Lib.hid (Blk.new W2 24 z32)
      have HG3 := Lib.hid (show Blk ((W2.alloc (.cells z32 24)).setRow W2.heap.size D) W2.heap.size 24 D from setRow_heap _ _ _ _ _ _ (Blk.new W2 _ _))
      have HL3 := Lib.hid (below_setRow ((Below.refl _ W2).alloc (Nat.le_refl _) (.cells z32 24)) (Nat.le_refl _) D)
      obtain ⟨W3, hW3⟩ : ∃ W3, W3 = (W2.alloc (.cells z32 24)).setRow W2.heap.size D := ⟨_, rfl⟩
      rw [← hW3] at HG3 HL3
      have HW3 := Lib.hid hW3
      obtain ⟨gd, hgd⟩ : ∃ gd, gd = W2.heap.size := ⟨_, rfl⟩
      have hgl : gd < W3.heap.size := by rw [hgd]; exact HG3.out.lt
      clear hW3
      have hdz := digest_zero
      rw [← HZE.out] at hdz
      go_wp2_with (refine wpList_store_row rfl 24 (.tmp 4) (.tmp 18) rfl W2.heap.size D rfl rfl 24 z32 HN.out HDZ.out HDO.out HD1.out ?_)
      rw [← HW3.out]
      rw [← hgd] at HG3 ⊢
      clear HW3 HN HDZ HDO HD1 hgd
      obtain ⟨d, hd⟩ : ∃ d, d = digest t.data.toList := ⟨_, rfl⟩
      have hdl : d.length = 32 := by rw [hd]; exact digest_length _
      have HDE := Lib.hid (show D = byv d by rw [hd]; exact HD.out)
      have HSE := Lib.hid (show s = txt (hexs d) by rw [hd]; exact HS.out)
      have hs3 : W3.heap.size = W3.heap.size := rfl
      go_loopw [5, 6] (fun v k wr => HxAt W3 d v k wr) (fun _ k _ => 32 - (intOf k).toNat)
      case atStart => exact ⟨0, by decide, rfl, World.ownsRow_nil _ _ _ _, Below.refl _ _⟩
      case round =>
        obtain ⟨k, hk, rfl, hown, hb⟩ := hrel
        have HO := Lib.hid hown
        have HBI := Lib.hid hb
        have hbs := hb.size
        clear hown hb
        by_cases hk32 : k < 32
        · have hkd : k < d.length := by omega
          have c : wr.cell? ⟨gd, k, none⟩ = some (.int .u8 ((d[k]'hkd).toNat : Int)) := by
            rw [(HG3.out.below HBI.out hgl).cell k, HDE.out]; exact byv_get d k hkd
          have hex := hexs_take d k hkd
          have hbl := (d[k]'hkd).toNat_lt
          obtain ⟨b, hb⟩ : ∃ b, b = (d[k]'hkd).toNat := ⟨_, rfl⟩
          rw [← hb] at c hex hbl
          obtain ⟨q, hq⟩ : ∃ q, q = b / 16 := ⟨_, rfl⟩
          obtain ⟨r, hr⟩ : ∃ r, r = b % 16 := ⟨_, rfl⟩
          rw [← hq, ← hr] at hex
          have HEX := Lib.hid hex
          have wq : IntKind.u8.wrap ((b : Int).tdiv 16) = (q : Int) := by rw [IntKind.wrap_u8, Int.tdiv_eq_ediv_of_nonneg (by omega)]; omega
          have wr1 : (b : Int).tmod 16 = (r : Int) := by rw [Int.tmod_eq_emod_of_nonneg (by omega)]; omega
          have ik := digest_at gd k hk32
          have iq := hex_at q (by omega)
          have ir := hex_at r (by omega)
          clear hb hex hq hr
          go_wp2_with fail
          have cd : wr.drew.cell? ⟨gd, k, none⟩ = some (.int .u8 (b : Int)) := c
          refine wp_region_noPanic (wp_region_any (by kernel_rfl) ?_)
          change wpAny _ _ _ _ 14 _ _ wr.drew
          refine any_free (i := 0) (u5) rfl (by kernel_rfl) (by kernel_rfl) (by kernel_rfl) (by kernel_rfl) (fun _ => by kernel_rfl) ?_
          refine any_free (i := 1) (.int .i64 (k : Int)) rfl (by kernel_rfl) (by kernel_rfl) (by kernel_rfl) (by kernel_rfl) (fun _ => by kernel_rfl) ?_
          refine any_free (i := 2) (.pointer (some ⟨gd, k, none⟩)) rfl (by kernel_rfl) (by kernel_rfl) (by kernel_rfl) (by kernel_rfl) (fun W => by refine exec_at rfl ?_ ?_ (ik W) <;> kernel_rfl) ?_
          refine any_free (i := 6) (.int .i64 (k : Int)) rfl (by kernel_rfl) (by kernel_rfl) (by kernel_rfl) (by kernel_rfl) (fun _ => by kernel_rfl) ?_
          refine any_free (i := 7) (.pointer (some ⟨gd, k, none⟩)) rfl (by kernel_rfl) (by kernel_rfl) (by kernel_rfl) (by kernel_rfl) (fun W => by refine exec_at rfl ?_ ?_ (ik W) <;> kernel_rfl) ?_
          refine any_split (i := 3) (j := 8) (.int .u8 (b : Int)) (.int .u8 (b : Int)) rfl rfl (by kernel_rfl) (by kernel_rfl) (by kernel_rfl) (exec_cell 5 (.tmp 25) (by kernel_rfl) ⟨gd, k, none⟩ (by kernel_rfl) (by kernel_rfl) cd) (exec_cell 5 (.tmp 30) (by kernel_rfl) ⟨gd, k, none⟩ (by kernel_rfl) (by kernel_rfl) cd) ?_ ?_
          rotate_left
          refine any_free (i := 9) (.int .u8 ((b : Int).tmod 16)) rfl (by kernel_rfl) (by kernel_rfl) (by kernel_rfl) (by kernel_rfl) (fun _ => by kernel_rfl) ?_
          rw [wr1]
          refine any_free (i := 10) (.int .u8 ((hexd r).toNat : Int)) rfl (by kernel_rfl) (by kernel_rfl) (by kernel_rfl) (by kernel_rfl) (fun W => by refine exec_index rfl ?_ ?_ (ir W) <;> kernel_rfl) ?_
          refine any_one (i := 3) (.int .u8 (b : Int)) rfl (by kernel_rfl) (by kernel_rfl) (exec_cell 5 (.tmp 25) (by kernel_rfl) ⟨gd, k, none⟩ (by kernel_rfl) (by kernel_rfl) cd) ?_
          refine any_free (i := 4) (.int .u8 (IntKind.u8.wrap ((b : Int).tdiv 16))) rfl (by kernel_rfl) (by kernel_rfl) (by kernel_rfl) (by kernel_rfl) (fun _ => by kernel_rfl) ?_
          rw [wq]
          refine any_free (i := 5) (.int .u8 ((hexd q).toNat : Int)) rfl (by kernel_rfl) (by kernel_rfl) (by kernel_rfl) (by kernel_rfl) (fun W => by refine exec_index rfl ?_ ?_ (iq W) <;> kernel_rfl) ?_
          rotate_left
          refine any_free (i := 4) (.int .u8 (IntKind.u8.wrap ((b : Int).tdiv 16))) rfl (by kernel_rfl) (by kernel_rfl) (by kernel_rfl) (by kernel_rfl) (fun _ => by kernel_rfl) ?_
          rw [wq]
          refine any_free (i := 5) (.int .u8 ((hexd q).toNat : Int)) rfl (by kernel_rfl) (by kernel_rfl) (by kernel_rfl) (by kernel_rfl) (fun W => by refine exec_index rfl ?_ ?_ (iq W) <;> kernel_rfl) ?_
          refine any_one (i := 8) (.int .u8 (b : Int)) rfl (by kernel_rfl) (by kernel_rfl) (exec_cell 5 (.tmp 30) (by kernel_rfl) ⟨gd, k, none⟩ (by kernel_rfl) (by kernel_rfl) cd) ?_
          refine any_free (i := 9) (.int .u8 ((b : Int).tmod 16)) rfl (by kernel_rfl) (by kernel_rfl) (by kernel_rfl) (by kernel_rfl) (fun _ => by kernel_rfl) ?_
          rw [wr1]
          refine any_free (i := 10) (.int .u8 ((hexd r).toNat : Int)) rfl (by kernel_rfl) (by kernel_rfl) (by kernel_rfl) (by kernel_rfl) (fun W => by refine exec_index rfl ?_ ?_ (ir W) <;> kernel_rfl) ?_
          all_goals
            refine any_rest (k := 11) rfl (by kernel_rfl) ?_
            simp only [List.drop_succ_cons, List.drop_zero]
            change wpList _ _ (NoPanic _) _ _ wr.drew
            obtain ⟨x, hx⟩ : ∃ x : Nat, x = (hexd q).toNat := ⟨_, rfl⟩
            obtain ⟨y, hy⟩ : ∃ y : Nat, y = (hexd r).toNat := ⟨_, rfl⟩
            rw [← hx, ← hy]
            have HXY := Lib.hid (And.intro hx hy)
            obtain ⟨i0, hi, hz0, hz1, hz2⟩ := info_parts info_u8
            have HI := Lib.hid hi
            have HZ0 := Lib.hid hz0
            have HZ1 := Lib.hid hz1
            have HZ2 := Lib.hid hz2
            have HO2 := Lib.hid (show wr.drew.ownsRow W3.heap.size 5 1 u5 (2 * k) (byv (hexs (d.take k))).toList from HO.out.drew)
            obtain ⟨Wd, hWd⟩ : ∃ W, W = wr.drew := ⟨_, rfl⟩
            have HBD := Lib.hid (show Below W3.heap.size W3 Wd by rw [hWd]; exact HBI.out.drew)
            rw [← hWd] at HO2 ⊢
            clear hx hy hi hz0 hz1 hz2 c cd iq ir hWd
            go_wp2_with (at_builtin; refine wpList_append_own _ rfl (.tmp 23) (.tmp 34) 22 rfl W3.heap.size 5 i0 (.int .u8 0) 1 1 Tryd.underlying22 HI.out HZ0.out HZ1.out HZ2.out rfl (by decide) _ _ _ rfl (HO2.out.alloc _) ⟨Wd.heap.size, 0, none⟩ 2 2 [.int .u8 (x : Int), .int .u8 (y : Int)] rfl rfl (lies_l Wd [.int .u8 (x : Int), .int .u8 (y : Int)] _) ?e2 ?e3 ?e4 ?e5 ?_)
            case e2 => intro u hu; simp at hu; rcases hu with rfl | rfl <;> rfl
            case e3 => unfold maxLen; omega
            case e4 => omega
            case e5 => have := HBD.out.size; simp; omega
            intro v' w2 own2 grow2 _
            have HN := Lib.hid (show HxAt W3 d v' (.int .i64 ((k : Int) + 1)) w2 from
              ⟨k + 1, by omega, by rw [Int.natCast_add]; rfl, by
                have e := HXY.out
                rw [HEX.out, show (byv (hexs (d.take k) ++ [hexd q, hexd r])).toList = (byv (hexs (d.take k))).toList ++ [.int .u8 (x : Int), .int .u8 (y : Int)] by rw [e.1, e.2]; simp [byv], show 2 * (k + 1) = 2 * k + 2 by omega]
                rw [hd]; exact own2, (HBD.out.alloc HBD.out.size _).grown grow2 (by have := HBD.out.size; simp; omega) (fun i hi => (HO2.out.lt i hi).1)⟩)
            clear own2 grow2
            go_wp2_with fail
            refine NoPanic.normal ?_
            go_wp2_with fail
            go_roundw
            case rel => exact HN.out
            case measure => simp [intOf]; omega
        · obtain rfl : k = 32 := by omega
          clear hk32
          rw [List.take_of_length_le (by omega)] at HO
          have hcv := own_text wr _ _ _ (hexs d) HO.out (by rw [hexs_length]; omega)
          rw [← HSE.out] at hcv
          have cs : wr.cell? ⟨w.heap.size, j, none⟩ = some (.string s) := by
            rw [((HW2.out.below HL3.out HW2.out.lt).below HBI.out (Nat.lt_of_lt_of_le HW2.out.lt HL3.out.size)).cell j]; exact HES.out
          go_wp2_with fail
          have cs1 : wr.drew.cell? ⟨w.heap.size, j, none⟩ = some (.string s) := cs
          have cv1 := hcv wr.drew rfl
          have ij := four_at w.heap.size j hlt
          refine wp_region_noPanic (wp_region_any (by kernel_rfl) ?_)
          change wpAny _ _ _ _ 6 _ _ wr.drew
          refine any_free (i := 0) (u5) rfl (by kernel_rfl) (by kernel_rfl) (by kernel_rfl) (by kernel_rfl) (fun _ => by kernel_rfl) ?_
          refine any_free (i := 2) (.int .i64 (j : Int)) rfl (by kernel_rfl) (by kernel_rfl) (by kernel_rfl) (by kernel_rfl) (fun _ => by kernel_rfl) ?_
          refine any_free (i := 3) (.pointer (some ⟨w.heap.size, j, none⟩)) rfl (by kernel_rfl) (by kernel_rfl) (by kernel_rfl) (by kernel_rfl) (fun W => by refine exec_at rfl ?_ ?_ (ij W) <;> kernel_rfl) ?_
          refine any_two (i := 1) (j := 4) (.string s) (.string s) rfl rfl (by decide) (by kernel_rfl) (by kernel_rfl) (by kernel_rfl) (by kernel_rfl) (by kernel_rfl) (by kernel_rfl) (by kernel_rfl) (exec_conv 22 9 (.tmp 36) (by kernel_rfl) (by kernel_rfl) cv1) (exec_cell 9 (.tmp 39) (by kernel_rfl) ⟨w.heap.size, j, none⟩ (by kernel_rfl) (by kernel_rfl) cs1) (exec_conv 22 9 (.tmp 36) (by kernel_rfl) (by kernel_rfl) cv1) (exec_cell 9 (.tmp 39) (by kernel_rfl) ⟨w.heap.size, j, none⟩ (by kernel_rfl) (by kernel_rfl) cs1) (by kernel_rfl) ?_
          refine any_rest (k := 5) rfl (by kernel_rfl) ?_
          simp only [List.drop_succ_cons, List.drop_zero]
          change wpList _ _ (NoPanic _) _ _ wr.drew
          have HFIN := Lib.hid (show Below w.heap.size w wr.drew from ((HB2.out.trans ((HL3.out.trans (HBI.out.mono HL3.out.size)).mono HB2.out.size))).drew)
          have HWF := Lib.hid (show Blk wr.drew w.heap.size 42 WC from ((HW2.out.below HL3.out HW2.out.lt).below HBI.out (Nat.lt_of_lt_of_le HW2.out.lt HL3.out.size)).drew)
          have HXF := Lib.hid (show Blk wr.drew (w.heap.size + 1) 42 TC from ((HX2.out.below HL3.out HX2.out.lt).below HBI.out (Nat.lt_of_lt_of_le HX2.out.lt HL3.out.size)).drew)
          have HTF := Lib.hid (show Tbl wr.drew from ((HT2.out.below HL3.out).below HBI.out).drewN 1)
          obtain ⟨W5, hW5⟩ : ∃ W, W = wr.drew := ⟨_, rfl⟩
          rw [← hW5] at HFIN HWF HXF HTF ⊢
          clear cs cs1 cv1 ij hcv hW5 hbs
          go_wp2_with fail
          refine NoPanic.normal ?_
          go_wp2_with fail
          go_roundw
          case rel => exact ⟨j + 1, by omega, by rw [Int.natCast_add]; rfl, HWF.out, HXF.out, HTF.out, HFIN.out⟩
          case measure => simp [intOf]; omega
    · obtain rfl : j = 4 := by omega
      clear hlt HW HX
      have hdz := digest_zero
      rw [← HZE.out] at hdz
      obtain ⟨D, hD⟩ : ∃ D, D = byv (digest []) := ⟨_, rfl⟩
      have q1 : ∀ W, (Op.equalIn 10000 24 (.agg D) (.agg D)).run Tryd.prog W = .ok true W := fun W => by rw [hD, digest_eq _ _ (digest_length _) (digest_length _)]; simp
      have q2 : ∀ W, (Op.equalIn 10000 24 (.agg z32) (.agg z32)).run Tryd.prog W = .ok true W := fun W => by rw [HZE.out, digest_eq _ _ (by simp) (by simp)]; simp
      have HD := Lib.hid hD
      have hb1 := HB.out.size
      clear hD
      go_wp2_with fail
      refine (Write_nil _ wr).mono ?_
      rintro e W' ⟨rfl, rfl⟩
      go_wp2_with fail
      refine (New_any wr HT.out).mono ?_
      rintro e W6 ⟨rfl, hh, b6⟩
      obtain ⟨gh, hgh⟩ : ∃ gh, gh = wr.heap.size := ⟨_, rfl⟩
      rw [← hgh] at hh ⊢
      have HH6 := Lib.hid hh
      have HT6 := Lib.hid (HT.out.below b6)
      have HB6 := Lib.hid (HB.out.trans (b6.mono HB.out.size))
      clear hh b6 hgh HT HB
      go_wp2_with fail
      refine (works_t W6 HT6.out).mono ?_
      rintro e W7 ⟨rfl, b7⟩
      have HH7 := Lib.hid (HH6.out.below b7 HH6.out.lt)
      have HT7 := Lib.hid (HT6.out.below b7)
      have HB7 := Lib.hid (HB6.out.trans (b7.mono HB6.out.size))
      clear b7 HH6 HT6 HB6
      go_wp2_with fail
      refine (Len_any gh [] W7 HH7.out).mono ?_
      rintro e W' ⟨rfl, rfl⟩
      go_wp2_with fail
      refine (DigestL gh [] D W7 HD.out HT7.out (by decide) HH7.out).mono ?_
      rintro e W8 ⟨rfl, b8⟩
      have HT8 := Lib.hid (HT7.out.below b8)
      have HB8 := Lib.hid (HB7.out.trans (b8.mono HB7.out.size))
      clear b8 HH7 HT7 HB7
      go_wp2_with fail
      refine (SumL ⟨#[]⟩ [] D W8 rfl HD.out HT8.out (by decide)).mono ?_
      rintro e W9 ⟨rfl, b9⟩
      have HB9 := Lib.hid (HB8.out.trans (b9.mono HB8.out.size))
      clear b9 HT8 HB8
      go_wp2_with fail
      refine (Digest_nil W9).mono ?_
      rintro e W10 ⟨rfl, b10⟩
      rw [← HZE.out]
      have HB10 := Lib.hid (HB9.out.trans (b10.mono HB9.out.size))
      clear b10 HB9
      go_wp2_with (refine BigFrame.wpList_want (by rfl) fun K hK => ?_; refine wp_yields _ rfl (.agg z32) ?_ ?_; rw [HZE.out]; kernel_rfl)
      refine (Copy_nil W10).mono ?_
      rintro e W' ⟨rfl, rfl⟩
      go_wp2_with fail
      refine (Len_nil W10).mono ?_
      rintro e W' ⟨rfl, rfl⟩
      go_wp2_with fail
      go_ret
      exact ⟨rfl, HB10.out⟩

set_option maxRecDepth 100000 in
theorem lifted (os : Os) (started : os.Started) (H : Type) (enc : TypeId × Value → H) :
    ReturnsInHanded {} Tryd.checked os 8 .any (fun w args => (Rows.hashKnownSpec.pre enc Tryd.prog Tryd.f8 [] false w args ∧ laidMetH Tryd.prog laid1 w) ∧ sizedMet enc Tryd.prog Tryd.f8 (OpenSpec.ofChange Rows.hashKnownSpec) false w args)
      (Rows.hashKnownSpec.post enc Tryd.prog Tryd.f8 false true false false) := by
  refine returnsInHanded_of_change_and (C := Tryd.checked) (X := fun w _ => laidMetH Tryd.prog laid1 w) (fun _ _ _ hh h => h.of_heap hh) own started (by kernel_rfl) Tryd.func8
    (ChangeSpec.witness_shaped (enc := enc) (C := Tryd.checked) (os := os) (X := fun w _ => laidMetH Tryd.prog laid1 w) false (World.doorLaid Tryd.prog 400 os) #[] 8 rfl (World.shaped_of_RefB (by kernel_rfl) (by kernel_rfl)) (by kernel_rfl) (by kernel_rfl) (by kernel_rfl) (door_met os _)) ?_
  intro W base args ds gs before hval0 hW hcnd hsz0 hL _
  have hsz : (DataW.weightsEach Tryd.prog (Tryd.f8.params.toList ++ Rows.hashKnownSpec.plain.varTypes Tryd.prog) (ds ++ gs)).all (· ≤ reachBytes) = true := hsz0
  have ht := table_of hL
  have hval : ∀ (j : Nat) t v, Tryd.f8.params[j]? = some t → args[j]? = some v → Value.okWide Tryd.prog W .any base t v := hval0
  have hW' := hW
  obtain ⟨p, q, hA0, hV, rfl, hfz, hnd⟩ := hW
  have hA : DataW.TrodAll enc Tryd.prog W 0 (fun _ => true) true Tryd.f8.params.toList args.toList ds p := hA0
  rw [Tryd.params8] at hA hval hsz
  obtain ⟨rfl, rfl, rfl⟩ := trodAll_none hA
  obtain ⟨rfl, rfl⟩ := trodVars_none hV
  clear hA0 hval0
  simp only [List.append_nil] at hW'
  refine (walk  W ht).mono fun e W' ⟨he, bel⟩ => ?_
  subst he
  exact ⟨_, rfl, _, _, _, [], _, [], hW', trodAll_mk1 (shut_bool Tryd.underlying4 _), rfl, rfl, bel.frame _, fun h => by cases h⟩

theorem over : Rows.HashKnownSaid :=
  OpenClaim.holds_of_wide 8 Tryd.f8 rfl rfl rfl rfl rfl rfl rfl ⟨rfl, rfl, rfl, rfl, rfl⟩ rfl rfl rfl rfl rfl (by kernel_rfl) Tryd.func8 (by kernel_rfl)
    (of_decide_eq_true (by kernel_rfl)) (by unfold Func.isWrapper; first | (rw [if_pos (by decide +kernel)]; kernel_rfl) | (rw [if_neg (by decide +kernel)]; exact ⟨rfl, rfl⟩))
    (fun os started H enc _ => lifted os started H enc)

theorem proved : Rows.HashKnownCardSaid :=
  Claim7.holds_tied_plain_at .later [] [.data, .data] true _ false
    over (fun _ h => by cases h) (by kernel_rfl) (fun _ h => by cases h) hashKnown_row_tie rfl ⟨rfl, rfl⟩ (by kernel_rfl) rfl
    (fun f fn hf hfn => by
      obtain rfl : f = 8 := Option.some.inj ((show Tryd.prog.funcNamed "plait/plaitlaw06.HashKnown" = some 8 by kernel_rfl).symm.trans hf) |>.symm
      obtain rfl : fn = Tryd.f8 := (Option.some.inj (Tryd.func8.symm.trans hfn)).symm
      exact ⟨by kernel_rfl, fun j t ht => by
        rw [Tryd.params8] at ht
        simp at ht⟩)
    (by kernel_rfl)
#print axioms proved
end Go.Proofs.YtblcadikfjdfoaaDoor.hashKnown
