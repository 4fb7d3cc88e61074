/-
  AreaKnown returns true. No conditions.
-/
import Derived.Test.YtlmbccgldigihaaAreaBytes
import Derived.WalkKit
import Derived.ProofKit
import Derived.OpenShut
import Derived.ShutString
import Derived.ChangeOld
import Derived.Below
import Derived.SizedLaws
namespace Go.Proofs.Ytlmbccgldigihaa.areaKnown
open Go.ChangeShapes Go.WideShapes Go.ChangeAt Go.RowKit
open Go.ChangeMaps (open_string shut_string)
set_option linter.unusedVariables false


/-- A new slice of n bytes, and the text of it. -/
theorem made (w : World) (n : Nat) (N : Int) (hN : (n : Int) = N) (hn : n ≤ 300) : ∃ w', (Instr.makeSlice 33 (.int .i64 N) (.int .i64 N)).run Try.prog w = .ok (.slice (some ⟨w.heap.size, 0, none⟩) n n) w' ∧
    (convert 33 9 (.slice (some ⟨w.heap.size, 0, none⟩) n n)).run Try.prog w' = .ok (.string (txt (List.replicate n 0))) w' ∧ Below w.heap.size w w' := by
  subst hN
  obtain ⟨i, hi, hz, h1, h2⟩ := info_parts info8
  obtain ⟨w', hr, ho, hg⟩ := run_make_full (P := Try.prog) w w.heap.size 33 5 i _ 1 Try.underlying33 hi hz h1 .i64 .i64 n (by rw [h2]; omega) (by unfold maxLen; omega) (Nat.le_refl _)
  refine ⟨w', hr, ?_, (Below.refl _ w).grown hg (Nat.le_refl _) (fun k e => by cases e)⟩
  refine own_text w' w.heap.size w.heap.size n n (List.replicate n 0) ?_ (by simp)
  have e : bcs (List.replicate n 0) = (madeCells (Value.cells (.int .u8 0)) (n * 1)).toList := by
    rw [Nat.mul_one]
    show _ = (madeCells #[.int .u8 0] n).toList
    rw [toList_madeCells_one, bcs, List.map_replicate]; rfl
  rw [e]; exact ho
theorem small1 (k : Int) (b : ByteArray) (h : b.size ≤ 300) : ∀ y ∈ [((k, b) : It)], y.2.size ≤ 140737488355328 := fun y hy => by
  simp at hy; subst hy; show b.size ≤ _; omega
theorem small2 (k j : Int) (b c : ByteArray) (h : b.size ≤ 300) (h' : c.size ≤ 300) : ∀ y ∈ [((k, b) : It), (j, c)], y.2.size ≤ 140737488355328 := fun y hy => by
  simp at hy
  rcases hy with rfl | rfl
  · show b.size ≤ _; omega
  · show c.size ≤ _; omega

set_option maxHeartbeats 4000000 in
set_option maxRecDepth 100000 in
theorem walk (w : World) : Calls Try.prog 8 #[] w fun e w' => e = .returned (.bool true) ∧ Below w.heap.size w w' := by
  obtain ⟨f, hf⟩ : ∃ f, f = txt (List.replicate 38 0) := ⟨_, rfl⟩
  obtain ⟨m, hm⟩ : ∃ m, m = txt (List.replicate 39 0) := ⟨_, rfl⟩
  obtain ⟨g, hg⟩ : ∃ g, g = txt (List.replicate 254 0) := ⟨_, rfl⟩
  obtain ⟨z, hz⟩ : ∃ z, z = txt (List.replicate 40 0) := ⟨_, rfl⟩
  obtain ⟨S, hS⟩ : ∃ S, S = txt (255 :: 40 :: List.replicate 38 0) := ⟨_, rfl⟩
  have hf3 : f.size ≤ 300 := by rw [hf]; decide
  have hm3 : m.size ≤ 300 := by rw [hm]; decide
  have hg3 : g.size ≤ 300 := by rw [hg]; decide
  have hz3 : z.size ≤ 300 := by rw [hz]; decide
  have hS3 : S.size ≤ 300 := by rw [hS]; decide
  have HS : Hid (laid [(255, f)] = (S, 0)) := Lib.hid (by rw [hf, hS]; decide)
  have HSW : Hid (read S = ([(255, f)], 0)) := Lib.hid (by rw [hf, hS]; decide)
  have HM6 : Hid (laid [(2, m)] = (⟨#[]⟩, 6)) := Lib.hid (by rw [hm]; decide)
  have HG2 : Hid (laid [(2, g)] = (⟨#[]⟩, 2)) := Lib.hid (by rw [hg]; decide)
  have HM2 : Hid (laid [(256, ⟨#[]⟩), (2, m)] = (⟨#[]⟩, 2)) := Lib.hid (by rw [hm]; decide)
  have HM3 : Hid (laid [(2, m), (0, ⟨#[]⟩)] = (⟨#[]⟩, 2)) := Lib.hid (by rw [hm]; decide)
  have HMS : Hid (sized [(2, m)] = (0, 6)) := Lib.hid (by rw [hm]; decide)
  have HZ0 : Hid (read z = ([], 0)) := Lib.hid (by rw [hz]; decide)
  have HZ4 : Hid (read (z ++ ⟨#[0, 0, 0, 0]⟩) = ([], 6)) := Lib.hid (by rw [hz]; decide)
  have HZ1 : Hid (read (z ++ ⟨#[0]⟩) = ([], 6)) := Lib.hid (by rw [hz]; decide)
  have HZ4s : Hid ((z ++ ⟨#[0, 0, 0, 0]⟩ : ByteArray).size ≤ 140737488355328) := Lib.hid (by rw [hz]; decide)
  have HZ1s : Hid ((z ++ ⟨#[0]⟩ : ByteArray).size ≤ 140737488355328) := Lib.hid (by rw [hz]; decide)
  have s40 : ((S.size : Int) == 40) = true := by rw [hS]; decide
  have s1 : 1 < S.size := by rw [hS]; decide
  have s1' : (1 : Int) < (S.size : Int) := by omega
  have sb : ((S[1].toNat : Int) == 40) = true := by subst hS; rfl
  have HF := Lib.hid hf
  have HMM := Lib.hid hm
  have HGG := Lib.hid hg
  have HZ := Lib.hid hz
  clear hf hm hg hz hS
  obtain ⟨wa, hma, hca, ba⟩ := made w 38 38 rfl (by decide)
  rw [← HF.out] at hca
  have Ba := Lib.hid ba
  clear ba
  go_enter Try.func8, Try.ntmps8
  obtain ⟨wb, hmb, hcb, bb⟩ := made (wa.alloc (.cells #[.int .i64 255, .string f] 24)) 39 39 rfl (by decide)
  rw [← HMM.out] at hcb
  rw [World.size_alloc] at hmb hcb
  have Kf := Lib.hid ((Blk.new wa 24 #[.int .i64 255, .string f]).below bb (by simp))
  have Bb := Lib.hid (below_then (below_more Ba.out _) bb)
  clear bb
  obtain ⟨wc, hmc, hcc, bc⟩ := made (wb.alloc (.cells #[.int .i64 2, .string m] 24)) 254 254 rfl (by decide)
  rw [← HGG.out] at hcc
  rw [World.size_alloc] at hmc hcc
  replace Kf := Lib.hid ((Kf.out.alloc (.cells #[.int .i64 2, .string m] 24)).below bc (Kf.out.alloc _).lt)
  have Km := Lib.hid ((Blk.new wb 24 #[.int .i64 2, .string m]).below bc (by simp))
  have Bc := Lib.hid (below_then (below_more Bb.out _) bc)
  clear bc
  have Kg := Lib.hid (Blk.new wc 24 #[.int .i64 2, .string g])
  replace Kf := Lib.hid (Kf.out.alloc (.cells #[.int .i64 2, .string g] 24))
  replace Km := Lib.hid (Km.out.alloc (.cells #[.int .i64 2, .string g] 24))
  have B3 := Lib.hid (below_more Bc.out (.cells #[.int .i64 2, .string g] 24))
  have cf0 := Kf.out.cell 0
  have cf1 := Kf.out.cell 1
  have cm0 := Km.out.cell 0
  have cm1 := Km.out.cell 1
  have cg0 := Kg.out.cell 0
  have cg1 := Kg.out.cell 1
  go_wp2_with fail
  refine (Lay_any _ [(255, f)] (S, 0) _ (Row.built2 _ _ _ rfl) (small1 255 f hf3) (Nat.le_of_ble_eq_true rfl) HS.out).mono ?_
  rintro e w11 ⟨rfl, b11⟩
  have B11 := Lib.hid (below_then (below_more B3.out _) b11)
  replace Kf := Lib.hid ((Kf.out.alloc _).below b11 (Kf.out.alloc _).lt)
  replace Km := Lib.hid ((Km.out.alloc _).below b11 (Km.out.alloc _).lt)
  replace Kg := Lib.hid ((Kg.out.alloc _).below b11 (Kg.out.alloc _).lt)
  replace cf0 := Kf.out.cell 0
  replace cf1 := Kf.out.cell 1
  replace cm0 := Km.out.cell 0
  replace cm1 := Km.out.cell 1
  replace cg0 := Kg.out.cell 0
  replace cg1 := Kg.out.cell 1
  clear b11
  go_wp2_with fail
  refine (Lay_any _ [(2, m)] (⟨#[]⟩, 6) _ (Row.built _ _ rfl) (small1 2 m hm3) (Nat.le_of_ble_eq_true rfl) HM6.out).mono ?_
  rintro e w12 ⟨rfl, b12⟩
  have B12 := Lib.hid (below_then (below_more B11.out _) b12)
  replace Kf := Lib.hid ((Kf.out.alloc _).below b12 (Kf.out.alloc _).lt)
  replace Km := Lib.hid ((Km.out.alloc _).below b12 (Km.out.alloc _).lt)
  replace Kg := Lib.hid ((Kg.out.alloc _).below b12 (Kg.out.alloc _).lt)
  replace cf0 := Kf.out.cell 0
  replace cf1 := Kf.out.cell 1
  replace cm0 := Km.out.cell 0
  replace cm1 := Km.out.cell 1
  replace cg0 := Kg.out.cell 0
  replace cg1 := Kg.out.cell 1
  clear b12
  go_wp2_with fail
  refine (Lay_any _ [(2, g)] (⟨#[]⟩, 2) _ (Row.built _ _ rfl) (small1 2 g hg3) (Nat.le_of_ble_eq_true rfl) HG2.out).mono ?_
  rintro e w13 ⟨rfl, b13⟩
  have B13 := Lib.hid (below_then (below_more B12.out _) b13)
  replace Kf := Lib.hid ((Kf.out.alloc _).below b13 (Kf.out.alloc _).lt)
  replace Km := Lib.hid ((Km.out.alloc _).below b13 (Km.out.alloc _).lt)
  replace Kg := Lib.hid ((Kg.out.alloc _).below b13 (Kg.out.alloc _).lt)
  replace cf0 := Kf.out.cell 0
  replace cf1 := Kf.out.cell 1
  replace cm0 := Km.out.cell 0
  replace cm1 := Km.out.cell 1
  replace cg0 := Kg.out.cell 0
  replace cg1 := Kg.out.cell 1
  clear b13
  go_wp2_with fail
  refine (Lay_any _ [(256, ⟨#[]⟩), (2, m)] (⟨#[]⟩, 2) _ (Row.built _ _ rfl) (small2 256 2 ⟨#[]⟩ m (by decide) hm3) (Nat.le_of_ble_eq_true rfl) HM2.out).mono ?_
  rintro e w14 ⟨rfl, b14⟩
  have B14 := Lib.hid (below_then (below_more B13.out _) b14)
  replace Kf := Lib.hid ((Kf.out.alloc _).below b14 (Kf.out.alloc _).lt)
  replace Km := Lib.hid ((Km.out.alloc _).below b14 (Km.out.alloc _).lt)
  replace Kg := Lib.hid ((Kg.out.alloc _).below b14 (Kg.out.alloc _).lt)
  replace cf0 := Kf.out.cell 0
  replace cf1 := Kf.out.cell 1
  replace cm0 := Km.out.cell 0
  replace cm1 := Km.out.cell 1
  replace cg0 := Kg.out.cell 0
  replace cg1 := Kg.out.cell 1
  clear b14
  go_wp2_with fail
  refine (Lay_any _ [(2, m), (0, ⟨#[]⟩)] (⟨#[]⟩, 2) _ (Row.built _ _ rfl) (small2 2 0 m ⟨#[]⟩ hm3 (by decide)) (Nat.le_of_ble_eq_true rfl) HM3.out).mono ?_
  rintro e w15 ⟨rfl, b15⟩
  have B15 := Lib.hid (below_then (below_more B14.out _) b15)
  replace Kf := Lib.hid ((Kf.out.alloc _).below b15 (Kf.out.alloc _).lt)
  replace Km := Lib.hid ((Km.out.alloc _).below b15 (Km.out.alloc _).lt)
  replace Kg := Lib.hid ((Kg.out.alloc _).below b15 (Kg.out.alloc _).lt)
  replace cf0 := Kf.out.cell 0
  replace cf1 := Kf.out.cell 1
  replace cm0 := Km.out.cell 0
  replace cm1 := Km.out.cell 1
  replace cg0 := Kg.out.cell 0
  replace cg1 := Kg.out.cell 1
  clear b15
  go_wp2_with fail
  refine (Lay_any _ [(-1, ⟨#[]⟩)] (⟨#[]⟩, 2) _ (Row.built _ _ rfl) (by decide) (Nat.le_of_ble_eq_true rfl) (by decide)).mono ?_
  rintro e w16 ⟨rfl, b16⟩
  have B16 := Lib.hid (below_then (below_more B15.out _) b16)
  replace Kf := Lib.hid ((Kf.out.alloc _).below b16 (Kf.out.alloc _).lt)
  replace Km := Lib.hid ((Km.out.alloc _).below b16 (Km.out.alloc _).lt)
  replace Kg := Lib.hid ((Kg.out.alloc _).below b16 (Kg.out.alloc _).lt)
  replace cf0 := Kf.out.cell 0
  replace cf1 := Kf.out.cell 1
  replace cm0 := Km.out.cell 0
  replace cm1 := Km.out.cell 1
  replace cg0 := Kg.out.cell 0
  replace cg1 := Kg.out.cell 1
  clear b16
  go_wp2_with fail
  refine (Lay_any _ [] (⟨#[]⟩, 0) _ (Row.nil _ _) (by decide) (Nat.le_of_ble_eq_true rfl) (by decide)).mono ?_
  rintro e w17 ⟨rfl, b17⟩
  have B17 := Lib.hid (below_then B16.out b17)
  replace Kf := Lib.hid (Kf.out.below b17 Kf.out.lt)
  replace Km := Lib.hid (Km.out.below b17 Km.out.lt)
  replace Kg := Lib.hid (Kg.out.below b17 Kg.out.lt)
  replace cf0 := Kf.out.cell 0
  replace cf1 := Kf.out.cell 1
  replace cm0 := Km.out.cell 0
  replace cm1 := Km.out.cell 1
  replace cg0 := Kg.out.cell 0
  replace cg1 := Kg.out.cell 1
  clear b17
  go_wp2_with fail
  refine (walked_t S _ [(255, f)] _ (by first | decide | omega) (Row.built _ _ rfl) (Nat.le_of_ble_eq_true rfl) HSW.out).mono ?_
  rintro e w18 ⟨rfl, b18⟩
  have B18 := Lib.hid (below_then (below_more B17.out _) b18)
  replace Kf := Lib.hid ((Kf.out.alloc _).below b18 (Kf.out.alloc _).lt)
  replace Km := Lib.hid ((Km.out.alloc _).below b18 (Km.out.alloc _).lt)
  replace Kg := Lib.hid ((Kg.out.alloc _).below b18 (Kg.out.alloc _).lt)
  replace cf0 := Kf.out.cell 0
  replace cf1 := Kf.out.cell 1
  replace cm0 := Km.out.cell 0
  replace cm1 := Km.out.cell 1
  replace cg0 := Kg.out.cell 0
  replace cg1 := Kg.out.cell 1
  clear b18
  go_wp2_with fail
  refine (Size_any _ [] (0, 0) _ (Row.nil _ _) (by decide) (Nat.le_of_ble_eq_true rfl) (by decide)).mono ?_
  rintro e w19 ⟨rfl, b19⟩
  have B19 := Lib.hid (below_then B18.out b19)
  replace Kf := Lib.hid (Kf.out.below b19 Kf.out.lt)
  replace Km := Lib.hid (Km.out.below b19 Km.out.lt)
  replace Kg := Lib.hid (Kg.out.below b19 Kg.out.lt)
  replace cf0 := Kf.out.cell 0
  replace cf1 := Kf.out.cell 1
  replace cm0 := Km.out.cell 0
  replace cm1 := Km.out.cell 1
  replace cg0 := Kg.out.cell 0
  replace cg1 := Kg.out.cell 1
  clear b19
  go_wp2_with fail
  refine (Size_any _ [(2, m)] (0, 6) _ (Row.built _ _ rfl) (small1 2 m hm3) (Nat.le_of_ble_eq_true rfl) HMS.out).mono ?_
  rintro e w20 ⟨rfl, b20⟩
  have B20 := Lib.hid (below_then (below_more B19.out _) b20)
  replace Kf := Lib.hid ((Kf.out.alloc _).below b20 (Kf.out.alloc _).lt)
  replace Km := Lib.hid ((Km.out.alloc _).below b20 (Km.out.alloc _).lt)
  replace Kg := Lib.hid ((Kg.out.alloc _).below b20 (Kg.out.alloc _).lt)
  replace cf0 := Kf.out.cell 0
  replace cf1 := Kf.out.cell 1
  replace cm0 := Km.out.cell 0
  replace cm1 := Km.out.cell 1
  replace cg0 := Kg.out.cell 0
  replace cg1 := Kg.out.cell 1
  clear b20
  clear cf0 cf1 cm0 cm1 cg0 cg1
  obtain ⟨wz, hmz, hcz, bz⟩ := made w20 40 40 rfl (by decide)
  rw [← HZ.out] at hcz
  have BZ := Lib.hid (below_then B20.out bz)
  clear bz
  go_wp2_with fail
  refine (works_any _).mono ?_
  rintro e w41 ⟨rfl, b41⟩
  have B41 := Lib.hid (below_then BZ.out b41)
  clear b41
  clear hmz hcz
  go_wp2_with fail
  refine (walked_t _ _ [] _ (by first | decide | omega) (Row.nil _ _) (Nat.le_of_ble_eq_true rfl) (by decide)).mono ?_
  rintro e w42 ⟨rfl, b42⟩
  have B42 := Lib.hid (below_then B41.out b42)
  clear b42
  go_wp2_with fail
  refine (walked_t z _ [] _ (by first | decide | omega) (Row.nil _ _) (Nat.le_of_ble_eq_true rfl) HZ0.out).mono ?_
  rintro e w43 ⟨rfl, b43⟩
  have B43 := Lib.hid (below_then B42.out b43)
  clear b43
  go_wp2_with fail
  refine (refused_t _ 6 _ (by first | decide | omega | exact HZ4s.out | exact HZ1s.out) HZ4.out).mono ?_
  rintro e w44 ⟨rfl, b44⟩
  have B44 := Lib.hid (below_then B43.out b44)
  clear b44
  go_wp2_with fail
  refine (refused_t _ 6 _ (by first | decide | omega | exact HZ4s.out | exact HZ1s.out) HZ1.out).mono ?_
  rintro e w45 ⟨rfl, b45⟩
  have B45 := Lib.hid (below_then B44.out b45)
  clear b45
  go_wp2_with fail
  refine (refused_t _ 5 _ (by first | decide | omega | exact HZ4s.out | exact HZ1s.out) (by decide)).mono ?_
  rintro e w46 ⟨rfl, b46⟩
  have B46 := Lib.hid (below_then B45.out b46)
  clear b46
  go_wp2_with fail
  refine (refused_t _ 4 _ (by first | decide | omega | exact HZ4s.out | exact HZ1s.out) (by decide)).mono ?_
  rintro e w47 ⟨rfl, b47⟩
  have B47 := Lib.hid (below_then B46.out b47)
  clear b47
  go_wp2_with fail
  refine (refused_t _ 4 _ (by first | decide | omega | exact HZ4s.out | exact HZ1s.out) (by decide)).mono ?_
  rintro e w48 ⟨rfl, b48⟩
  have B48 := Lib.hid (below_then B47.out b48)
  clear b48
  go_wp2_with fail
  refine (refused_t _ 5 _ (by first | decide | omega | exact HZ4s.out | exact HZ1s.out) (by decide)).mono ?_
  rintro e w49 ⟨rfl, b49⟩
  have B49 := Lib.hid (below_then B48.out b49)
  clear b49
  go_wp2_with fail
  refine (walked_t _ _ [(2, ⟨#[]⟩)] _ (by first | decide | omega) (Row.built _ _ rfl) (Nat.le_of_ble_eq_true rfl) (by decide)).mono ?_
  rintro e w50 ⟨rfl, b50⟩
  have B50 := Lib.hid (below_then (below_more B49.out _) b50)
  clear b50
  go_wp2_with fail
  refine (walked_t _ _ [] _ (by first | decide | omega) (Row.nil _ _) (Nat.le_of_ble_eq_true rfl) (by decide)).mono ?_
  rintro e w51 ⟨rfl, b51⟩
  have B51 := Lib.hid (below_then B50.out b51)
  clear b51
  go_wp2
  go_ret; exact ⟨rfl, B51.out⟩

theorem own : ownKnob Try.prog.godebug = none := by kernel_rfl
theorem laidOut : laidOutB Try.prog = true := by kernel_rfl

set_option maxRecDepth 100000 in
theorem lifted (os : Os) (started : os.Started) (H : Type) (enc : TypeId × Value → H) :
    ReturnsInHanded {} Try.checked os 8 .any (Rows.areaKnownSpec.pre6 enc Try.prog Try.f8 Rows.areaKnownRow.domain false) (Rows.areaKnownSpec.post enc Try.prog Try.f8 false true false false) := by
  refine returnsInHanded_of_change (C := Try.checked) own started (by kernel_rfl) Try.func8
    (ChangeSpec.witness6 (enc := enc) (C := Try.checked) false ⟨#[], #[], []⟩ 8 (by kernel_rfl) (by kernel_rfl) (by kernel_rfl) (by kernel_rfl)) ?_
  intro W base args ds gs before hval0 hW hcnd _
  have hval : ∀ (j : Nat) t v, Try.f8.params[j]? = some t → args[j]? = some v → Value.okWide Try.prog W .any base t v := hval0
  have hW' := hW
  obtain ⟨p, q, hA0, hV, rfl, hfz, hnd⟩ := hW
  have hA : DataW.TrodAll enc Try.prog W 0 (fun _ => true) true Try.f8.params.toList args.toList ds p := hA0
  rw [Try.params8] at hA hval
  obtain ⟨rfl, rfl, rfl⟩ := trodAll_none hA
  obtain ⟨rfl, rfl⟩ := trodVars_none hV
  clear hA0 hval0
  simp only [List.append_nil] at hW'
  refine (walk W).mono fun e W' ⟨he, bel⟩ => ?_
  subst he
  exact ⟨_, rfl, _, _, _, [], _, [], hW', trodAll_mk1 (shut_bool Try.underlying4 _), rfl, rfl, bel.frame _, fun h => by cases h⟩

theorem over : Rows.areaKnownRow.holds Try.pinned (OpenSpec.ofChange Rows.areaKnownSpec) :=
  OpenClaim.holds_of_wide 8 Try.f8 rfl rfl rfl rfl rfl rfl rfl ⟨rfl, rfl, rfl, rfl, rfl⟩ rfl rfl rfl rfl rfl (by kernel_rfl) Try.func8 (by kernel_rfl)
    (of_decide_eq_true (by kernel_rfl)) (by unfold Func.isWrapper; first | (rw [if_pos (by decide +kernel)]; kernel_rfl) | (rw [if_neg (by decide +kernel)]; exact ⟨rfl, rfl⟩))
    (fun os started H enc _ => lifted os started H enc)

theorem proved : Rows.AreaKnownSaid := over
#print axioms proved
end Go.Proofs.Ytlmbccgldigihaa.areaKnown
