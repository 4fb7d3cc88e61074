/-
  The chapter's examples (the law's own 'works', and 'shown'), by their walks.
-/
import Derived.Test.YtblcadikfjdfoaaDoorShaDigest
namespace Go.Proofs.YtblcadikfjdfoaaDoor
open Go.ChangeShapes Go.WideShapes Go.ChangeAt Go.RowKit
set_option linter.unusedVariables false

theorem wpList_load_row_w {P : Program} {ops : Array Oper} {rest : List Oper} {o : Oper} {a : Act} {w : World} {Q : Exit → Act → World → Prop} (hw : Region.wanted o (yielded ops a.tmps) = true) (ty : TypeId) (x : Operand) (ho : o.op = .load ty x)
    (g : Nat) (hx : a.eval x = .pointer (some ⟨g, 0, none⟩)) (t : TypeId) (cs : Array Value) (fr : Nat × Nat) (d : TypeDesc) (hg : w.heap[g]? = some (.cells cs t fr))
    (hu : P.underlying ty = some d) (hd : (match d with | .struct _ | .array _ _ => true | _ => false) = true) (hi : (P.info? ty).map (·.size) = some cs.size)
    (h : wpList P ops Q rest (a.put o.dst (.agg cs)) w) : wpList P ops Q (o :: rest) a w :=
  BigFrame.wpList_want hw fun _ hK => wp_load_row ty x ho g hx t cs fr d hg hu hd hi (hK _ _ h)
/-- The number that bytes are. -/
def nmb (l : List UInt8) : Nat := l.foldl (fun n b => n * 256 + b.toNat) 0
theorem nmb_snoc (l : List UInt8) (b : UInt8) : nmb (l ++ [b]) = nmb l * 256 + b.toNat := by simp [nmb]
theorem nmb_lt (l : List UInt8) : nmb l < 256 ^ l.length := by
  suffices h : ∀ (k : Nat) (l : List UInt8), l.length = k → nmb l < 256 ^ k from h _ l rfl
  intro k
  induction k with
  | zero => intro l h; rw [List.length_eq_zero_iff.1 h]; decide
  | succ k ih =>
    intro l h
    have hne : l ≠ [] := fun e => by simp [e] at h
    obtain ⟨r, b, rfl⟩ : ∃ r b, l = r ++ [b] := ⟨l.dropLast, l.getLast hne, (List.dropLast_concat_getLast hne).symm⟩
    have hr := ih r (by simpa using h)
    have hb := b.toNat_lt
    rw [nmb_snoc, Nat.pow_succ]; omega
theorem or_byte64 (x b : Nat) (hx : x < 72057594037927936) (hb : b ≤ 255) : bits .or .u64 ((x : Int) * 256 % 18446744073709551616) (b : Int) = ((x * 256 + b : Nat) : Int) := by
  rw [show ((x : Int) * 256 % 18446744073709551616) = ((x * 256 : Nat) : Int) by omega, u64_or_nat _ _ (by omega) (by omega)]
  congr 1
  have := Nat.shiftLeft_add_eq_or_of_lt (show b < 2 ^ 8 by omega) x
  rw [Nat.shiftLeft_eq] at this
  exact this.symm

set_option maxHeartbeats 1000000 in
theorem shown_any (d : List UInt8) (w : World) (hd : d.length = 32) :
    Calls Tryd.prog 21 #[.agg (byv d)] w fun e w' => e = .returned (.int .u64 ((nmb (d.take 8) : Nat) : Int)) ∧ Below w.heap.size w w' := by
  have hc : ∀ j (hj : j < 8), (w.alloc (.cells (byv d) 24)).cell? ⟨w.heap.size, j, none⟩ = some (.int .u8 ((d[j]'(by omega)).toNat : Int)) := fun j hj =>
    ((Blk.new w 24 (byv d)).cell j).trans (byv_get d j (by omega))
  have HC := Lib.hid hc
  have HL := Lib.hid ((Below.refl w.heap.size w).alloc (Nat.le_refl _) (.cells (byv d) 24))
  clear hc
  go_enter Tryd.func21, Tryd.ntmps21
  go_wp2
  obtain ⟨W0, hW0⟩ : ∃ W0, W0 = w.alloc (.cells (byv d) 24) := ⟨_, rfl⟩
  rw [← hW0] at HC HL ⊢
  clear hW0
  go_loopw [4, 3] (fun i x wr => ∃ j : Nat, j ≤ 8 ∧ i = .int .i64 (j : Int) ∧ x = .int .u64 ((nmb (d.take j) : Nat) : Int) ∧ W0 = wr) (fun i _ _ => 8 - (intOf i).toNat)
  case atStart => exact ⟨0, by decide, rfl, rfl, rfl⟩
  case round =>
    obtain ⟨j, hj, rfl, rfl, rfl⟩ := hrel
    by_cases hlt : j < 8
    · have c := HC.out j hlt
      have l0 := nmb_lt (d.take j)
      have l1 : nmb (d.take j) < 72057594037927936 := Nat.lt_of_lt_of_le l0 (by rw [List.length_take]; exact Nat.pow_le_pow_right (by decide) (show min j d.length ≤ 7 by omega))
      have hb := (d[j]'(by omega)).toNat_lt
      have e := or_byte64 (nmb (d.take j)) (d[j]'(by omega)).toNat l1 (by omega)
      have hn : nmb (d.take (j + 1)) = nmb (d.take j) * 256 + (d[j]'(by omega)).toNat := by rw [List.take_succ_eq_append_getElem (by omega), nmb_snoc]
      obtain ⟨v, hv⟩ : ∃ v, v = (d[j]'(by omega)).toNat := ⟨_, rfl⟩
      rw [← hv] at c e hn hb
      obtain ⟨x, hx⟩ : ∃ x, x = nmb (d.take j) := ⟨_, rfl⟩
      rw [← hx] at e hn ⊢
      have HN := Lib.hid hn
      have HV := Lib.hid hb
      clear hx hv hn l0 l1 hb
      go_wp2
      go_roundw
      case rel => exact ⟨j + 1, by omega, by go_num, by rw [HN.out, ← e, IntKind.wrap_u64, IntKind.wrap_u64, show ((v : Int) % 18446744073709551616) = v by have := HV.out; omega], by first | rfl | trivial⟩
      case measure => simp [intOf]; omega
    · obtain rfl : j = 8 := by omega
      clear hlt
      go_wp2
      go_ret; exact ⟨rfl, HL.out⟩

theorem shown_of (d : List UInt8) (A : Array Value) (v : Int) (hA : A = byv d) (hv : ((nmb (d.take 8) : Nat) : Int) = v) (w : World) (hd : d.length = 32) :
    Calls Tryd.prog 21 #[.agg A] w fun e w' => e = .returned (.int .u64 v) ∧ Below w.heap.size w w' := by subst hA hv; exact shown_any d w hd

theorem digest0 : digest [] = [0xe3, 0xb0, 0xc4, 0x42, 0x98, 0xfc, 0x1c, 0x14, 0x9a, 0xfb, 0xf4, 0xc8, 0x99, 0x6f, 0xb9, 0x24, 0x27, 0xae, 0x41, 0xe4, 0x64, 0x9b, 0x93, 0x4c, 0xa4, 0x95, 0x99, 0x1b, 0x78, 0x52, 0xb8, 0x55] := by decide +kernel
theorem digest3 : digest [97, 98, 99] = [0xba, 0x78, 0x16, 0xbf, 0x8f, 0x01, 0xcf, 0xea, 0x41, 0x41, 0x40, 0xde, 0x5d, 0xae, 0x22, 0x23, 0xb0, 0x03, 0x61, 0xa3, 0x96, 0x17, 0x7a, 0x9c, 0xb4, 0x10, 0xff, 0x61, 0xf2, 0x00, 0x15, 0xad] := by decide +kernel

set_option maxRecDepth 100000 in
set_option maxHeartbeats 1000000 in
theorem works_t (w : World) (ht : Tbl w) :
    Calls Tryd.prog 11 #[] w fun e w' => e = .returned (.bool true) ∧ Below w.heap.size w w' := by
  have HT := Lib.hid ht
  clear ht
  obtain ⟨z32, hz32⟩ : ∃ z32, z32 = byv (List.replicate 32 0) := ⟨_, rfl⟩
  have hdz := digest_zero
  rw [← hz32] at hdz
  have HZE := Lib.hid hz32
  clear hz32
  go_enter Tryd.func11, Tryd.ntmps11
  go_wp2_with fail
  refine (Sum_any _ w HT.out (by decide)).mono ?_
  rintro e W1 ⟨rfl, b1⟩
  have HB1 := Lib.hid b1
  have HT1 := Lib.hid (HT.out.below b1)
  clear b1
  go_wp2_with fail
  refine (Sum_any _ W1 HT1.out (by decide)).mono ?_
  rintro e W2 ⟨rfl, b2⟩
  have HB2 := Lib.hid (HB1.out.trans (b2.mono HB1.out.size))
  clear b2 HT1 HB1 HT
  obtain ⟨A, hA⟩ : ∃ A, A = byv (digest []) := ⟨_, rfl⟩
  obtain ⟨B, hB⟩ : ∃ B, B = byv (digest [97, 98, 99]) := ⟨_, rfl⟩
  have eA : byv (digest (ByteArray.mk #[]).data.toList) = A := hA.symm
  have eB : byv (digest (ByteArray.mk #[97, 98, 99]).data.toList) = B := hB.symm
  rw [eA, eB]
  have HA := Lib.hid hA
  have HBB := Lib.hid hB
  have HAZ := Lib.hid (show (Tryd.prog.info? 24).map (·.size) = some A.size by rw [hA, byv_size, digest_length]; exact digest_size)
  have HBZ := Lib.hid (show (Tryd.prog.info? 24).map (·.size) = some B.size by rw [hB, byv_size, digest_length]; exact digest_size)
  have HAO := Lib.hid (show z32.size = A.size by rw [hA, HZE.out, byv_size, byv_size, digest_length]; rfl)
  have HBO := Lib.hid (show z32.size = B.size by rw [hB, HZE.out, byv_size, byv_size, digest_length]; rfl)
  have HA1 := Lib.hid (show A.all (·.oneCell') = true by rw [hA]; exact byv_one _)
  have HB1 := Lib.hid (show B.all (·.oneCell') = true by rw [hB]; exact byv_one _)
  have hAc : A[31]? = some (.int .u8 85) ∧ A[8]? = some (.int .u8 154) := by rw [hA, digest0]; exact ⟨rfl, rfl⟩
  have hBc : B[31]? = some (.int .u8 173) ∧ B[8]? = some (.int .u8 65) := by rw [hB, digest3]; exact ⟨rfl, rfl⟩
  have HSA := Lib.hid (fun W => shown_of (digest []) A 16406829232824261652 hA (by rw [digest0]; decide) W (digest_length _))
  have HSB := Lib.hid (fun W => shown_of (digest [97, 98, 99]) B 13436514500253700074 hB (by rw [digest3]; decide) W (digest_length _))
  have n0 : Blk ((W2.alloc (.cells z32 24)).alloc (.cells z32 24)) W2.heap.size 24 z32 := (Blk.new W2 _ _).alloc _
  have n1 : Blk ((W2.alloc (.cells z32 24)).alloc (.cells z32 24)) (W2.heap.size + 1) 24 z32 := by
    have := Blk.new (W2.alloc (.cells z32 24)) 24 z32; rwa [World.size_alloc] at this
  have n2 : Blk (((W2.alloc (.cells z32 24)).alloc (.cells z32 24)).setRow W2.heap.size A) (W2.heap.size + 1) 24 z32 := n1.same (setRow_other _ _ _ _ (by omega))
  have n3 : Blk (((W2.alloc (.cells z32 24)).alloc (.cells z32 24)).setRow W2.heap.size A) W2.heap.size 24 A := setRow_heap _ _ _ _ _ _ n0
  obtain ⟨W3, hW3⟩ : ∃ W3, W3 = (((W2.alloc (.cells z32 24)).alloc (.cells z32 24)).setRow W2.heap.size A).setRow (W2.heap.size + 1) B := ⟨_, rfl⟩
  have q0 : Blk W3 W2.heap.size 24 A := by rw [hW3]; exact n3.same (setRow_other _ _ _ _ (by omega))
  have q1 : Blk W3 (W2.heap.size + 1) 24 B := by rw [hW3]; exact setRow_heap _ _ _ _ _ _ n2
  have qb : Below W2.heap.size W2 W3 := by
    rw [hW3]
    exact below_setRow (below_setRow (((Below.refl _ W2).alloc (Nat.le_refl _) _).alloc (by rw [World.size_alloc]; omega) _) (Nat.le_refl _) _) (by omega) _
  have HN0 := Lib.hid n0
  have HN2 := Lib.hid n2
  have HQ0 := Lib.hid q0
  have HQ1 := Lib.hid q1
  have HQB := Lib.hid (HB2.out.trans (qb.mono HB2.out.size))
  have HQ0e := Lib.hid (show Blk ((((W2.alloc (.cells z32 24)).alloc (.cells z32 24)).setRow W2.heap.size A).setRow (W2.heap.size + 1) B) W2.heap.size 24 A by rw [← hW3]; exact q0)
  have HW3 := Lib.hid hW3
  have HAC := Lib.hid hAc
  have HBC := Lib.hid hBc
  clear eA eB hA hB n0 n1 n2 n3 q0 q1 qb hW3 HB2 hAc hBc
  go_wp2_with (first
    | refine wpList_store_row rfl 24 (.tmp 1) (.tmp 3) rfl W2.heap.size A rfl rfl 24 z32 HN0.out HAZ.out HAO.out HA1.out ?_
    | refine wpList_store_row rfl 24 (.tmp 2) (.tmp 4) rfl (W2.heap.size + 1) B rfl rfl 24 z32 HN2.out HBZ.out HBO.out HB1.out ?_
    | refine wpList_load_row rfl 24 (.tmp 1) rfl W2.heap.size rfl 24 A (0, 0) _ HQ0e.out digest_under rfl HAZ.out ?_)
  rw [← HW3.out]
  refine (HSA.out W3).mono ?_
  rintro e W4 ⟨rfl, b4⟩
  have z0 := HQ0.out.lt
  have z1 := HQ1.out.lt
  have k0 := HQ0.out.below b4 z0
  have k1 := HQ1.out.below b4 z1
  have c31 : W4.cell? ⟨W2.heap.size, 31, none⟩ = some (.int .u8 85) := (k0.cell 31).trans HAC.out.1
  have HK0 := Lib.hid k0
  have HK1 := Lib.hid k1
  have HB4 := Lib.hid (HQB.out.trans (b4.mono HQB.out.size))
  clear HN0 HN2 HW3 HQ0 HQ1 HQ0e HQB b4 z0 z1 k0 k1
  go_wp2_with (refine wpList_load_row_w (by rfl) 24 (.tmp 2) rfl (W2.heap.size + 1) rfl 24 B (0, 0) _ HK1.out digest_under rfl HBZ.out ?_)
  refine (HSB.out W4).mono ?_
  rintro e W5 ⟨rfl, b5⟩
  have k0 := HK0.out.below b5 HK0.out.lt
  have k1 := HK1.out.below b5 HK1.out.lt
  have c1 : W5.cell? ⟨W2.heap.size + 1, 31, none⟩ = some (.int .u8 173) := (k1.cell 31).trans HBC.out.1
  have c2 : W5.cell? ⟨W2.heap.size + 1, 8, none⟩ = some (.int .u8 65) := (k1.cell 8).trans HBC.out.2
  have c3 : W5.cell? ⟨W2.heap.size, 8, none⟩ = some (.int .u8 154) := (k0.cell 8).trans HAC.out.2
  have HB5 := Lib.hid (HB4.out.trans (b5.mono HB4.out.size))
  clear c31 k0 k1 b5 HK0 HK1 HB4
  go_wp2_with fail
  go_ret
  exact ⟨rfl, HB5.out⟩
end Go.Proofs.YtblcadikfjdfoaaDoor
