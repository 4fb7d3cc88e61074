/-
  What bent answers: some text, no longer than what it was given; bends as an argument. No statement of the document is here.
-/
import Derived.Test.YthdcjcdgddejbaaDoorHeadOpen
namespace Go.Proofs.YthdcjcdgddejbaaDoor
open Go.ChangeShapes Go.WideShapes Go.ChangeAt Go.RowKit
set_option linter.unusedVariables false

theorem byte_of (n : Int) (h0 : 0 ≤ n) (h1 : n ≤ 9223372036854775807) : ∃ v : UInt8, n % 256 = (v.toNat : Int) := by
  obtain ⟨m, rfl⟩ := Int.eq_ofNat_of_zero_le h0
  exact ⟨UInt8.ofNat m, by rw [UInt8.toNat_ofNat']; omega⟩

set_option maxHeartbeats 4000000 in
set_option maxRecDepth 100000 in
theorem bent_any (ct sm : Bool) (i b : Int) (hi : 0 ≤ i ∧ i ≤ 65535) (hb : 0 ≤ b ∧ b ≤ 255) (s : ByteArray) (hs : s.size ≤ 1099511627776) (w : World) :
    Calls Tryd.prog 13 #[.agg #[.bool ct, .bool sm, .int .u16 i, .int .u8 b], .string s] w fun e w' => (∃ t : ByteArray, t.size ≤ s.size ∧ e = .returned (.string t)) ∧ Below w.heap.size w w' := by
  obtain ⟨i0, i1⟩ := hi
  obtain ⟨b0, b1⟩ := hb
  have BN := Lib.hid ((Below.refl _ w).alloc (Nat.le_refl _) (.cells #[.bool ct, .bool sm, .int .u16 i, .int .u8 b] 37))
  by_cases h0 : s.size = 0
  · have d0 : ((s.size : Int) == 0) = true := by rw [beq_iff_eq]; omega
    go_enter Tryd.func13, Tryd.ntmps13
    go_wp2
    go_ret; exact ⟨⟨s, Nat.le_refl _, rfl⟩, BN.out⟩
  have d0 : ((s.size : Int) == 0) = false := by rw [beq_eq_false_iff_ne]; omega
  cases ct
  rotate_left
  · have hz2 : ¬ (s.size : Int) + 1 = 0 := by omega
    obtain ⟨k, hk⟩ : ∃ k : Nat, i % ((s.size : Int) + 1) = (k : Int) := ⟨_, (Int.toNat_of_nonneg (Int.emod_nonneg _ hz2)).symm⟩
    have hkt : i.tmod ((s.size : Int) + 1) = (k : Int) := by rw [Int.tmod_eq_emod_of_nonneg i0]; exact hk
    have hkx : (k : Int) ≤ s.size := by have := Int.emod_lt_of_pos i (show (0 : Int) < (s.size : Int) + 1 by omega); omega
    go_enter Tryd.func13, Tryd.ntmps13
    go_wp2
    go_ret; exact ⟨⟨_, by rw [ByteArray.size_extract]; omega, rfl⟩, BN.out⟩
  obtain ⟨cap, w2, hconv, hbts, hbel, hsz⟩ := text_bytes (w.alloc (.cells #[.bool false, .bool sm, .int .u16 i, .int .u8 b] 37)) s
  obtain ⟨l, hl⟩ : ∃ l, l = s.data.toList := ⟨_, rfl⟩
  have hll : l.length = s.size := by rw [hl]; exact len_data s
  rw [← hl] at hbts
  rw [World.size_alloc] at hconv hbts hbel hsz
  obtain ⟨g, hg⟩ : ∃ g, g = w.heap.size + 1 := ⟨_, rfl⟩
  rw [← hg] at hconv hbts hbel hsz
  have BX := Lib.hid ((Blk.new w 37 #[.bool false, .bool sm, .int .u16 i, .int .u8 b]).below hbel (by omega))
  have B2 := Lib.hid (BN.out.trans (hbel.mono (by omega)))
  have HBTS := Lib.hid hbts
  have hz2 : ¬ (s.size : Int) = 0 := by omega
  obtain ⟨k, hk⟩ : ∃ k : Nat, i % (s.size : Int) = (k : Int) := ⟨_, (Int.toNat_of_nonneg (Int.emod_nonneg _ hz2)).symm⟩
  have hkt : i.tmod (s.size : Int) = (k : Int) := by rw [Int.tmod_eq_emod_of_nonneg i0]; exact hk
  have hkx : k < s.size := by have := Int.emod_lt_of_pos i (show (0 : Int) < s.size by omega); omega
  have hkl : k < l.length := by omega
  obtain ⟨z, hz⟩ : ∃ z, z = l[k] := ⟨_, rfl⟩
  have c0 := HBTS.out.cell k hkl
  have f0 := HBTS.out.frozen k hkl
  rw [← hz] at c0
  have x2 : w2.cell? ⟨w.heap.size, 2, none⟩ = some (.int .u16 i) := BX.out.cell 2
  have x3 : w2.cell? ⟨w.heap.size, 3, none⟩ = some (.int .u8 b) := BX.out.cell 3
  have HLL := Lib.hid hll
  have HBEL := Lib.hid hbel
  subst hg
  have HZ := Lib.hid hz
  clear hl hll hk hbts hbel hsz hz
  go_enter Tryd.func13, Tryd.ntmps13
  go_wp2
  refine wp_region_still_tail 13 (by kernel_rfl) (by kernel_rfl) ?_
  simp only [List.take_succ_cons, List.take_zero, List.drop_succ_cons, List.drop_zero]
  change wpStill _ _ w2.drew _ _ _
  obtain ⟨D, hD⟩ : ∃ D, D = w2.drew := ⟨_, rfl⟩
  have BXD := Lib.hid (show Blk D w.heap.size 37 #[.bool false, .bool sm, .int .u16 i, .int .u8 b] by rw [hD]; exact BX.out.drew)
  have BTD := Lib.hid (show Bts D (w.heap.size + 1) l by rw [hD]; exact HBTS.out.drew)
  have BD := Lib.hid (show Below w.heap.size w D by rw [hD]; exact B2.out.drew)
  have HDD := Lib.hid hD
  rw [← hD]
  clear hD c0 f0 x2 x3 BX HBTS B2 HBEL
  have x2 : D.cell? ⟨w.heap.size, 2, none⟩ = some (.int .u16 i) := BXD.out.cell 2
  have x3 : D.cell? ⟨w.heap.size, 3, none⟩ = some (.int .u8 b) := BXD.out.cell 3
  have c0 := BTD.out.cell k hkl
  have f0 := BTD.out.frozen k hkl
  have hw : IntKind.i64.wrap i = i := IntWalk.i64_in _ (by omega)
  have hz0 := z.toNat_lt
  obtain ⟨v, hv⟩ : ∃ v : UInt8, ((z.toNat : Int) + b) % 256 = (v.toNat : Int) := byte_of _ (by omega) (by omega)
  rw [← HZ.out] at c0
  obtain ⟨l1, hl1⟩ : ∃ l1, l1 = l.set k v := ⟨_, rfl⟩
  have hl1l : l1.length = s.size := by rw [hl1, List.length_set, HLL.out]
  have E1 := Lib.hid (show Bts (D.setCell ⟨w.heap.size + 1, k, none⟩ (.int .u8 (v.toNat : Int))) (w.heap.size + 1) l1 by rw [hl1]; exact BTD.out.set_ k v hkl)
  have F1 := Lib.hid (BD.out.setCell (p := ⟨w.heap.size + 1, k, none⟩) (show w.heap.size ≤ w.heap.size + 1 by omega) (.int .u8 (v.toNat : Int)))
  have y1 : (D.setCell ⟨w.heap.size + 1, k, none⟩ (.int .u8 (v.toNat : Int))).cell? ⟨w.heap.size, 1, none⟩ = some (.bool sm) := by
    rw [World.cell?_setCell_other D _ _ _ (fun q => by injection q with q1; omega)]
    exact BXD.out.cell 1
  by_cases hB : sm = true ∧ 20 ≤ s.size
  rotate_left
  · obtain ⟨t2, ht2⟩ : ∃ t2, txt l1 = t2 := ⟨_, rfl⟩
    have cv : (convert 45 9 (.slice (some ⟨w.heap.size + 1, 0, none⟩) s.size cap)).run Tryd.prog (D.setCell ⟨w.heap.size + 1, k, none⟩ (.int .u8 (v.toNat : Int))) = .ok (.string t2) (D.setCell ⟨w.heap.size + 1, k, none⟩ (.int .u8 (v.toNat : Int))) := by
      rw [← ht2]; exact bytes_text _ _ cap _ _ E1.out hl1l.symm
    have ht2s : t2.size ≤ s.size := by rw [← ht2, txt_size, hl1l]; exact Nat.le_refl _
    cases sm
    · repeat still_step
      refine wpStill_nil ?_
      change wpList _ _ _ _ _ w2.drew
      rw [← HDD.out]
      go_wp2_with fail
      go_ret; exact ⟨⟨t2, ht2s, rfl⟩, F1.out⟩
    · have hb20 : ¬ 20 ≤ s.size := fun h => hB ⟨rfl, h⟩
      have d20 : decide ((20 : Int) ≤ (s.size : Int)) = false := by simp; omega
      repeat still_step
      refine wpStill_nil ?_
      change wpList _ _ _ _ _ w2.drew
      rw [← HDD.out]
      go_wp2_with fail
      go_ret; exact ⟨⟨t2, ht2s, rfl⟩, F1.out⟩
  obtain ⟨rfl, h20⟩ := hB
  have d20 : decide ((20 : Int) ≤ (s.size : Int)) = true := by simp; omega
  obtain ⟨l3, hl3⟩ : ∃ l3, l3 = (l1.set 16 0).set 17 0 := ⟨_, rfl⟩
  have hl3l : l3.length = s.size := by rw [hl3, List.length_set, List.length_set, hl1l]
  have E2' : Bts ((D.setCell ⟨w.heap.size + 1, k, none⟩ (.int .u8 (v.toNat : Int))).setCell ⟨w.heap.size + 1, 16, none⟩ (.int .u8 0)) (w.heap.size + 1) (l1.set 16 0) := E1.out.set_ 16 0 (by omega)
  have E3' : Bts (((D.setCell ⟨w.heap.size + 1, k, none⟩ (.int .u8 (v.toNat : Int))).setCell ⟨w.heap.size + 1, 16, none⟩ (.int .u8 0)).setCell ⟨w.heap.size + 1, 17, none⟩ (.int .u8 0)) (w.heap.size + 1) l3 := by rw [hl3]; exact E2'.set_ 17 0 (by rw [List.length_set]; omega)
  have g16 := E1.out.frozen 16 (by omega)
  have g17 := E2'.frozen 17 (by rw [List.length_set]; omega)
  have k16 := E1.out.cell 16 (by omega)
  have k17 := E2'.cell 17 (by rw [List.length_set]; omega)
  have E3 := Lib.hid E3'
  have F3 := Lib.hid ((F1.out.setCell (p := ⟨w.heap.size + 1, 16, none⟩) (show w.heap.size ≤ w.heap.size + 1 by omega) (.int .u8 0)).setCell (p := ⟨w.heap.size + 1, 17, none⟩) (show w.heap.size ≤ w.heap.size + 1 by omega) (.int .u8 0))
  obtain ⟨t2, ht2⟩ : ∃ t2, txt l3 = t2 := ⟨_, rfl⟩
  have cv := bytes_text _ _ cap _ _ E3.out hl3l.symm
  rw [ht2] at cv
  have ht2s : t2.size ≤ 1099511627776 := by rw [← ht2, txt_size, hl3l]; exact hs
  clear E2' E3' hl1 hl3
  have i16 : (16 : Int) < (s.size : Int) := by omega
  have i17 : (17 : Int) < (s.size : Int) := by omega
  have HT2S := Lib.hid ht2s
  clear ht2s ht2 E1 F1
  repeat still_step
  refine wpStill_nil ?_
  change wpList _ _ _ _ _ w2.drew
  rw [← HDD.out]
  go_wp2_with fail
  refine (Of_ref t2 _ HT2S.out).mono ?_
  rintro e V ⟨rfl, bv⟩
  obtain ⟨r0, r1⟩ := fold_b _ (tot_b t2.data.toList).1
  obtain ⟨r, hr⟩ : ∃ r, fold (tot t2.data.toList) = r := ⟨_, rfl⟩
  rw [hr] at r0 r1 ⊢
  have E4 := Lib.hid (E3.out.below bv E3.out.1)
  have F4 := Lib.hid (below_then F3.out bv)
  clear bv E3 F3 hr
  go_wp2_with fail
  refine (Not_ref r r0 r1 _).mono ?_
  rintro e V' ⟨rfl, rfl⟩
  obtain ⟨m, hm⟩ : ∃ m, 65535 - r = m := ⟨_, rfl⟩
  have m0 : 0 ≤ m := by omega
  have m1 : m ≤ 65535 := by omega
  rw [hm]
  clear hm r0 r1
  obtain ⟨v1, hv1⟩ : ∃ v1 : UInt8, m / 256 % 256 = (v1.toNat : Int) := byte_of _ (by omega) (by omega)
  obtain ⟨v2, hv2⟩ : ∃ v2 : UInt8, m % 256 = (v2.toNat : Int) := byte_of _ (by omega) (by omega)
  have hv1' : m / 256 = (v1.toNat : Int) := by omega
  clear hv1
  have E5' := E4.out.set_ 16 v1 (by omega)
  have E6' := E5'.set_ 17 v2 (by rw [List.length_set]; omega)
  have F6 := Lib.hid ((F4.out.setCell (p := ⟨w.heap.size + 1, 16, none⟩) (show w.heap.size ≤ w.heap.size + 1 by omega) (.int .u8 (v1.toNat : Int))).setCell (p := ⟨w.heap.size + 1, 17, none⟩) (show w.heap.size ≤ w.heap.size + 1 by omega) (.int .u8 (v2.toNat : Int)))
  have E6 := Lib.hid E6'
  obtain ⟨l5, hl5⟩ : ∃ l5, l5 = (l3.set 16 v1).set 17 v2 := ⟨_, rfl⟩
  have hl5l : l5.length = s.size := by rw [hl5, List.length_set, List.length_set, hl3l]
  rw [← hl5] at E6
  obtain ⟨t5, ht5⟩ : ∃ t5, txt l5 = t5 := ⟨_, rfl⟩
  have cv5 := bytes_text _ _ cap _ _ E6.out hl5l.symm
  rw [ht5] at cv5
  have ht5s : t5.size ≤ s.size := by rw [← ht5, txt_size, hl5l]; exact Nat.le_refl _
  clear E5' E6' hl5 cv
  have j16 := E4.out.cell 16 (by omega)
  have h16 := E4.out.frozen 16 (by omega)
  have j17 := E4.out.cell 17 (by omega)
  have h17 := E4.out.frozen 17 (by omega)
  go_wp2
  go_ret; exact ⟨⟨t5, ht5s, rfl⟩, F6.out⟩

/-- What is otherwise of bytes. -/
structure Bd where
  ct : Bool
  sm : Bool
  pl : Int
  by_ : Int
structure Bd.Ok (x : Bd) : Prop where
  pl : 0 ≤ x.pl ∧ x.pl ≤ 65535
  by_ : 0 ≤ x.by_ ∧ x.by_ ≤ 255
abbrev bdv (m l : Bd) : Array Value := #[.bool m.ct, .bool m.sm, .int .u16 m.pl, .int .u8 m.by_, .bool l.ct, .bool l.sm, .int .u16 l.pl, .int .u8 l.by_]
theorem bend_size : (Tryd.prog.info? 37).map (·.size) = some 4 := by kernel_rfl

theorem open_bend {H : Type} {enc : TypeId × Value → H} {w : World} {base : Nat} {spare : Nat → Bool} {held : Bool} {fuel : Nat} {c0 c1 c2 c3 : Value} {y : DataW H × List MemPlace}
    (hf : DataW.trod enc Tryd.prog w base spare held fuel 37 [c0, c1, c2, c3] = some y) :
    ∃ x : Bd, c0 = .bool x.ct ∧ c1 = .bool x.sm ∧ c2 = .int .u16 x.pl ∧ c3 = .int .u8 x.by_ ∧ x.Ok := by
  obtain ⟨xs, n, _, hx, hl, hlen, hfld⟩ := DataW.trod_struct Tryd.underlying37 hf
  have hx4 : xs.length = 4 := hlen
  clear hx hl hlen
  match xs, hx4, hfld with
  | [y0, y1, y2, y3], _, hfld =>
    have t0 : DataW.trod enc Tryd.prog w base spare held n 4 [c0] = some y0 := by
      have q : DataW.trod enc Tryd.prog w base spare held n 4 (([c0, c1, c2, c3].drop 0).take (Tryd.prog.cellsOf 4)) = some y0 := hfld 0 _ rfl
      rw [show Tryd.prog.cellsOf 4 = 1 by kernel_rfl] at q
      exact q
    have t1 : DataW.trod enc Tryd.prog w base spare held n 4 [c1] = some y1 := by
      have q : DataW.trod enc Tryd.prog w base spare held n 4 (([c0, c1, c2, c3].drop 1).take (Tryd.prog.cellsOf 4)) = some y1 := hfld 1 _ rfl
      rw [show Tryd.prog.cellsOf 4 = 1 by kernel_rfl] at q
      exact q
    have t2 : DataW.trod enc Tryd.prog w base spare held n 22 [c2] = some y2 := by
      have q : DataW.trod enc Tryd.prog w base spare held n 22 (([c0, c1, c2, c3].drop 2).take (Tryd.prog.cellsOf 22)) = some y2 := hfld 2 _ rfl
      rw [show Tryd.prog.cellsOf 22 = 1 by kernel_rfl] at q
      exact q
    have t3 : DataW.trod enc Tryd.prog w base spare held n 5 [c3] = some y3 := by
      have q : DataW.trod enc Tryd.prog w base spare held n 5 (([c0, c1, c2, c3].drop 3).take (Tryd.prog.cellsOf 5)) = some y3 := hfld 3 _ rfl
      rw [show Tryd.prog.cellsOf 5 = 1 by kernel_rfl] at q
      exact q
    obtain ⟨z0, e0, _⟩ := DataW.trod_bool Tryd.underlying4 t0
    obtain ⟨z1, e1, _⟩ := DataW.trod_bool Tryd.underlying4 t1
    obtain ⟨z2, e2, _, w2⟩ := DataW.trod_int Tryd.underlying22 t2
    obtain ⟨z3, e3, _, w3⟩ := DataW.trod_int Tryd.underlying5 t3
    exact ⟨⟨z0, z1, z2, z3⟩, by simpa using e0, by simpa using e1, by simpa using e2, by simpa using e3, ⟨bounds_u16 w2, bounds_u8 w3⟩⟩

/-- Two bends, as an argument. -/
theorem open_bends {H : Type} {enc : TypeId × Value → H} {w : World} {base : Nat} {spare : Nat → Bool} {held : Bool} {r : Reach} {b0 : Nat} {v : Value} {d : DataW H} {p : List MemPlace}
    (hv : Value.okWide Tryd.prog w r b0 38 v) (h : DataW.Trod enc Tryd.prog w base spare held 38 v d p) :
    ∃ m l : Bd, v = .agg (bdv m l) ∧ m.Ok ∧ l.Ok := by
  simp only [Value.okWide, Tryd.underlying38] at hv
  obtain ⟨cs, rfl, hsz, _⟩ := hv
  have h8 : cs.size = 8 := hsz.trans (by kernel_rfl : Tryd.prog.cellsOf 38 = 8)
  obtain ⟨fuel, hf⟩ := h
  obtain ⟨xs, n, _, hx, hl, hlen, hel⟩ := DataW.trod_array Tryd.underlying38 hf
  obtain ⟨l⟩ := cs
  have hl8 : l.length = 8 := h8
  clear hx hl h8 hsz hf
  match l, hl8, xs, hlen, hel with
  | [c0, c1, c2, c3, c4, c5, c6, c7], _, [y0, y1], _, hel =>
    have q0 := hel 0 (by decide)
    have q1 := hel 1 (by decide)
    rw [show Tryd.prog.cellsOf 37 = 4 by kernel_rfl] at q0 q1
    obtain ⟨m, a0, a1, a2, a3, hm⟩ := open_bend (c0 := c0) (c1 := c1) (c2 := c2) (c3 := c3) (y := y0) q0
    obtain ⟨k, b0, b1, b2, b3, hk⟩ := open_bend (c0 := c4) (c1 := c5) (c2 := c6) (c3 := c7) (y := y1) q1
    subst a0 a1 a2 a3 b0 b1 b2 b3
    exact ⟨m, k, rfl, hm, hk⟩
end Go.Proofs.YthdcjcdgddejbaaDoor
