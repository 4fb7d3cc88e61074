/-
  AreaAlike returns true for all pairs of rows of drafts, and texts. No conditions.
-/
import Derived.Test.YtlmbccgldigihaaAreaWorks
import Derived.Test.YtlmbccgldigihaaAreaDrafts
import Derived.WalkKit
import Derived.ProofKit
import Derived.OpenShut
import Derived.ShutString
import Derived.ChangeOld
import Derived.Below
import Derived.SizedLaws
namespace Go.Proofs.Ytlmbccgldigihaa.areaAlike
open Go.ChangeShapes Go.WideShapes Go.ChangeAt Go.RowKit
open Go.ChangeMaps (open_string shut_string)
set_option linter.unusedVariables false


/-- What drafts make: items that may be, with room; their text. -/
theorem laid_of (w : World) (v : Value) (l : List It) (hd : DRow w v l) : ∃ (D : List It) (Z : ByteArray), D = drafts 0 l ∧ D.all may = true ∧ wide D ≤ 40 ∧ Z = (laid D).1 ∧ laid D = (Z, 0) ∧ Z.size = pad (wide D) ∧ (∀ y ∈ D, y.2.size ≤ 140737488355328) := by
  have hok := drafts_ok l 0 (by omega) (fun x hx => by
    obtain ⟨i, hi⟩ := List.getElem?_of_mem hx
    obtain ⟨_, _, _, _, hc⟩ := hd
    exact (hc i x hi).2.1.1)
  rw [Nat.zero_add] at hok
  obtain ⟨hall, hw40⟩ := hok
  refine ⟨drafts 0 l, (laid (drafts 0 l)).1, rfl, hall, hw40, rfl, by rw [laid_ok _ hall hw40], ?_, fun y hy => by have := (may_iff y).1 (List.all_eq_true.1 hall y hy); omega⟩
  have := (laid_sized (drafts 0 l)).1
  rw [sized_ok _ hall hw40] at this; simp at this; omega
/-- Behind the end nothing counts. -/
theorem ended (D : List It) (hall : D.all may = true) (hw : wide D < 40) (Y : ByteArray) (t : List UInt8) (hY : Y.data.toList = enc D ++ (0 :: t)) (h40 : Y.size ≤ 40) (h4 : Y.size % 4 = 0) : read Y = (D, 0) := by
  rw [read_ok _ h40 h4, hY]
  have := length_le_wide D
  rw [go_enc _ _ _ _ hall (by omega), go_zero]; simp
theorem cut_data (Y : ByteArray) (m : Nat) (p : List UInt8) (t : List UInt8) (hY : Y.data.toList = p ++ (0 :: t)) (hm : p.length < m) : (Y.extract 0 m).data.toList = p ++ (0 :: t.take (m - p.length - 1)) := by
  rw [data_extract, List.drop_zero, hY, List.take_append, List.take_of_length_le (by omega)]
  obtain ⟨q, hq⟩ : ∃ q, m - p.length = q + 1 := ⟨m - p.length - 1, by omega⟩
  rw [hq, List.take_succ_cons]; simp

set_option maxHeartbeats 4000000 in
set_option maxRecDepth 100000 in
theorem walk (v : Value) (l : List It) (u : Value) (m : List It) (c : ByteArray) (hc : c.size ≤ 140737488351232) (w : World) (hd : DRow w v l) (hq : DRow w u m) :
    Calls Try.prog 7 #[v, u, .string c] w fun e w' => e = .returned (.bool true) ∧ Below w.heap.size w w' := by
  obtain ⟨D, Z, hD, hall, hw40, hZ, hlaid, hzp, hsm⟩ := laid_of w v l hd
  obtain ⟨E, V, hE, hall', hw40', hV, hlaid', hvp, hsm'⟩ := laid_of w u m hq
  have hlen := length_le_wide D
  have hlen' := length_le_wide E
  have hpd := pad_b (wide D)
  have hpe := pad_b (wide E)
  have hz40 : Z.size ≤ 40 := by rw [hZ]; exact laid_small D
  have hv40 : V.size ≤ 40 := by rw [hV]; exact laid_small E
  have hzw : wide D ≤ Z.size := by omega
  have heq : D = E ↔ Z = V := ⟨fun e => by rw [hZ, hV, e], fun e => by
    have h1 := read_laid D hall hw40
    have h2 := read_laid E hall' hw40'
    rw [← hZ, e, hV, h2] at h1
    exact (Prod.mk.inj h1).1.symm⟩
  have HD := Lib.hid hd
  have HQ := Lib.hid hq
  have HDD := Lib.hid hD
  have HEE := Lib.hid hE
  have HALL := Lib.hid hall
  have HZ := Lib.hid hZ
  have HL := Lib.hid hlaid
  have HL' := Lib.hid hlaid'
  have HSM := Lib.hid hsm
  have HSM' := Lib.hid hsm'
  have HEQ := Lib.hid heq
  obtain ⟨p0, cap0, hv0, hl0, hc0⟩ := id hd
  obtain ⟨p1, cap1, hv1, hl1, hc1⟩ := id hq
  subst hv0
  subst hv1
  obtain ⟨b, hb⟩ : ∃ b, b = decide (D = E) := ⟨_, rfl⟩
  have hzv : (Z.toList == V.toList) = b := by
    rw [hb, Bool.eq_iff_iff]
    simp only [beq_iff_eq, decide_eq_true_eq]
    exact ⟨fun e => heq.2 (toList_inj e), fun e => by rw [heq.1 e]⟩
  have hbb : (b != b) = false := by cases b <;> rfl
  have HBB := Lib.hid hb
  clear hd hq hD hE hall hall' hZ hV hlaid hlaid' hsm hsm' heq hc0 hc1 hb
  go_enter Try.func7, Try.ntmps7
  go_wp2_with fail
  refine (works_any _).mono ?_
  rintro e w1 ⟨rfl, b1⟩
  have B1 := Lib.hid b1
  clear b1
  go_wp2_with fail
  refine (items_dr _ l _ (HD.out.below B1.out)).mono ?_
  rintro e w2 ⟨v2, rfl, row2, b2⟩
  rw [← HDD.out] at row2
  have B2 := Lib.hid (below_then B1.out b2)
  have R2 := Lib.hid row2
  clear b2 row2
  go_wp2_with fail
  refine (items_dr _ m _ (HQ.out.below B2.out)).mono ?_
  rintro e w3 ⟨v3, rfl, row3, b3⟩
  rw [← HEE.out] at row3
  have B3 := Lib.hid (below_then B2.out b3)
  have R3 := Lib.hid (R2.out.below b3)
  have S3 := Lib.hid row3
  obtain ⟨p, cap, hv, hlc, hcap, hcl⟩ := R3.out
  subst hv
  obtain ⟨p', cap', hv', hlc', hcap', hcl'⟩ := row3
  subst hv'
  clear b3 hcl hcl' R2
  go_wp2_with fail
  refine (Lay_any _ D (Z, 0) _ R3.out HSM.out (by omega) HL.out).mono ?_
  rintro e w4 ⟨rfl, b4⟩
  have B4 := Lib.hid (below_then B3.out b4)
  have R4 := Lib.hid (R3.out.below b4)
  have S4 := Lib.hid (S3.out.below b4)
  clear b4
  go_wp2_with fail
  refine (Lay_any _ E (V, 0) _ S4.out HSM'.out (by omega) HL'.out).mono ?_
  rintro e w5 ⟨rfl, b5⟩
  have B5 := Lib.hid (below_then B4.out b5)
  have R5 := Lib.hid (R4.out.below b5)
  have S5 := Lib.hid (S4.out.below b5)
  clear b5
  go_wp2_with fail
  refine (Same_any _ _ D E b HBB.out _ R5.out S5.out (by omega) (by omega)).mono ?_
  rintro e w6 ⟨rfl, b6⟩
  have B6 := Lib.hid (below_then B5.out b6)
  have R6 := Lib.hid (R5.out.below b6)
  clear b6 S5 S4 S3
  go_wp2_with fail
  clear hzv hbb
  go_loop [13, 14] (fun n i => ∃ j : Nat, j ≤ D.length ∧ i = .int .i64 (j : Int) ∧ n = .int .i64 (wide (D.take j) : Int)) (fun _ i => D.length - (intOf i).toNat)
  case atStart => exact ⟨0, Nat.zero_le _, rfl, rfl⟩
  case round =>
    obtain ⟨j, hj, rfl, rfl⟩ := hrel
    have hwl := wide_take_le D j
    by_cases hlt : j < D.length
    · obtain ⟨x, hx⟩ : ∃ x, D[j]? = some x := ⟨_, List.getElem?_eq_getElem (by omega)⟩
      obtain ⟨ad, hp, hg, c0, c1⟩ := row_cells R6.out (Below.refl _ _) j x hx
      subst hp
      have hxs := HSM.out x (List.mem_of_getElem? hx)
      have hws := wide_take_succ D j x hx
      obtain ⟨n, hn⟩ : ∃ n, n = wide (D.take j) := ⟨_, rfl⟩
      rw [← hn] at hws hwl ⊢
      have HW := Lib.hid hws
      clear hx hws hn
      go_wp2
      go_round
      case rel => exact ⟨j + 1, by omega, by go_num, by rw [HW.out]; go_num⟩
      case measure => simp [intOf]; omega
    · obtain rfl : j = D.length := by omega
      rw [List.take_length]
      obtain ⟨n, hn⟩ : ∃ n, n = wide D := ⟨_, rfl⟩
      rw [← hn] at hw40 hlen hzw ⊢
      have HN := Lib.hid hn
      clear hn hwl hpd hpe hzp hvp
      by_cases h40 : 40 ≤ n
      · have d2 : decide ((40 : Int) ≤ (n : Int)) = true := by simp; omega
        go_wp2
        go_ret; exact ⟨rfl, B6.out⟩
      · have d2 : decide ((40 : Int) ≤ (n : Int)) = false := by simp; omega
        have d3 : decide (Z.size < n) = false := by simp; omega
        have q3 : (0 : Int) ≤ (n : Int) := by omega
        have q4 : (n : Int) ≤ (Z.size : Int) := by omega
        have q5 : n ≤ Z.size := by omega
        obtain ⟨g, hg⟩ : ∃ g, g = min c.size 40 := ⟨_, rfl⟩
        have hmn : (if (40 : Int) < (c.size : Int) then (40 : Int) else (c.size : Int)) = (g : Int) := by rw [hg]; split <;> omega
        have q6 : (0 : Int) ≤ (g : Int) := by omega
        have q7 : (g : Int) ≤ (c.size : Int) := by omega
        have q8 : g ≤ c.size := by omega
        have q9 : g ≤ 40 := by omega
        obtain ⟨Y, hY⟩ : ∃ Y, Y = Z.extract 0 n ++ ⟨#[0]⟩ ++ c.extract 0 g := ⟨_, rfl⟩
        have s1 : (Z.extract 0 n).size = n := by rw [ByteArray.size_extract]; omega
        have s2 : (Z.extract 0 n ++ ⟨#[0]⟩ : ByteArray).size = n + 1 := by rw [ByteArray.size_append, s1]; rfl
        have s3 : (c.extract 0 g).size = g := by rw [ByteArray.size_extract]; omega
        have hYs : Y.size = n + 1 + g := by rw [hY, ByteArray.size_append, s2, s3]
        have hYd : Y.data.toList = enc D ++ (0 :: (c.extract 0 g).data.toList) := by
          have e1 : (Z.extract 0 n).data.toList = enc D := by
            rw [data_extract, HZ.out, laid_ok D HALL.out (by rw [← HN.out]; exact hw40), data_txt, List.drop_zero, HN.out, ← enc_length, List.take_left]
          rw [hY, data_append, data_append, e1]; simp
        have HYD := Lib.hid hYd
        have HYS := Lib.hid hYs
        have hY' := hY.symm
        clear hY hYs hYd hg
        go_wp2
        go_quiet (fail)
        clear s1 s2 s3 hY' hmn
        have hYs := HYS.out
        obtain ⟨f, hf⟩ : ∃ f, f = min Y.size 40 := ⟨_, rfl⟩
        have hmn : (if (40 : Int) < (Y.size : Int) then (40 : Int) else (Y.size : Int)) = (f : Int) := by rw [hf]; split <;> omega
        have r6 : (0 : Int) ≤ (f : Int) := by omega
        have r7 : (f : Int) ≤ (Y.size : Int) := by omega
        have r8 : f ≤ Y.size := by omega
        have r9 : f ≤ 40 := by omega
        have r10 : n < f := by omega
        have HX0 : Hid ((Y.extract 0 f).data.toList = enc D ++ (0 :: ((c.extract 0 g).data.toList.take (f - (enc D).length - 1)))) := Lib.hid (cut_data Y f _ _ HYD.out (by rw [enc_length, ← HN.out]; exact r10))
        obtain ⟨X, hX⟩ : ∃ X, X = Y.extract 0 f := ⟨_, rfl⟩
        have hXs : X.size = f := by rw [hX, ByteArray.size_extract]; omega
        have HXS := Lib.hid hXs
        have hX' := hX.symm
        have HX : Hid (∃ t, X.data.toList = enc D ++ (0 :: t)) := Lib.hid ⟨_, by rw [hX]; exact HX0.out⟩
        clear hX hXs hf hYs HX0
        go_wp2
        clear hX' hmn
        go_loop [15] (fun z => ∃ Q : ByteArray, z = .string Q ∧ (∃ t, Q.data.toList = enc D ++ (0 :: t)) ∧ Q.size ≤ 40) (fun z => match z with | .string Q => 40 - Q.size | _ => 0)
        case atStart => exact ⟨X, rfl, HX.out, by rw [HXS.out]; omega⟩
        case round =>
          obtain ⟨Q, rfl, hQ, hQ40⟩ := hrel
          have HQQ := Lib.hid hQ
          clear hQ
          by_cases h4 : Q.size % 4 = 0
          · have h4b : ((Q.size : Int) % 4 != 0) = false := by simp; omega
            obtain ⟨t, ht⟩ := HQQ.out
            have hrd := ended D HALL.out (by rw [← HN.out]; omega) Q t ht hQ40 h4
            have HRD := Lib.hid hrd
            clear h4 hrd ht
            go_wp2_with fail
            refine (walked_t Q _ D _ (by omega) (Row.drewN R6.out _) (by omega) HRD.out).mono ?_
            rintro e w7 ⟨rfl, b7⟩
            go_wp2
            go_ret; exact ⟨rfl, below_then (below_drewN B6.out _) b7⟩
          · have h4b : ((Q.size : Int) % 4 != 0) = true := by simp; omega
            have hz2 : (Q ++ ⟨#[7]⟩ : ByteArray).size = Q.size + 1 := by rw [ByteArray.size_append]; rfl
            have hlt40 : Q.size < 40 := by omega
            have hnew : ∃ t, (Q ++ ⟨#[7]⟩ : ByteArray).data.toList = enc D ++ (0 :: t) := by
              obtain ⟨t, ht⟩ := HQQ.out
              exact ⟨t ++ [7], by rw [data_append, ht]; simp⟩
            have HNW := Lib.hid hnew
            have HZ2 := Lib.hid hz2
            clear h4 hz2 hnew
            go_wp2
            go_round
            case rel => exact ⟨_, rfl, HNW.out, by rw [HZ2.out]; omega⟩
            case measure => simp only [HZ2.out]; omega

theorem own : ownKnob Try.prog.godebug = none := by kernel_rfl
theorem laidOut : laidOutB Try.prog = true := by kernel_rfl

set_option maxRecDepth 100000 in
theorem lifted (os : Os) (started : os.Started) (H : Type) (enc : TypeId × Value → H) :
    ReturnsInHanded {} Try.checked os 7 .any (Rows.areaAlikeSpec.pre6 enc Try.prog Try.f7 Rows.areaAlikeRow.domain false) (Rows.areaAlikeSpec.post enc Try.prog Try.f7 false true false false) := by
  refine returnsInHanded_of_change_sized (C := Try.checked) own started (by kernel_rfl) Try.func7
    (ChangeSpec.witness6 (enc := enc) (C := Try.checked) false ⟨#[], #[.slice none 0 0, .slice none 0 0, .string ByteArray.empty], []⟩ 8 (by kernel_rfl) (by kernel_rfl) (by kernel_rfl) (by kernel_rfl)) ?_
  intro W base args ds gs before hval0 hW hcnd hsz0 _
  have hsz : (DataW.weightsEach Try.prog (Try.f7.params.toList ++ Rows.areaAlikeSpec.plain.varTypes Try.prog) (ds ++ gs)).all (· ≤ reachBytes) = true := hsz0
  have hval : ∀ (j : Nat) t v, Try.f7.params[j]? = some t → args[j]? = some v → Value.okWide Try.prog W .any base t v := hval0
  have hW' := hW
  obtain ⟨p, q, hA0, hV, rfl, hfz, hnd⟩ := hW
  have hA : DataW.TrodAll enc Try.prog W 0 (fun _ => true) true Try.f7.params.toList args.toList ds p := hA0
  rw [Try.params7] at hA hval hsz
  obtain ⟨v0, vs0, d0, ds0, p0, q0, hargs, rfl, rfl, h0, r0⟩ := trodAll_cons hA
  obtain ⟨v1, vs1, d1, ds1, p1, q1, rfl, rfl, rfl, h1, r1⟩ := trodAll_cons r0
  obtain ⟨v2, vs2, d2, ds2, p2, q2, rfl, rfl, rfl, h2, r2⟩ := trodAll_cons r1
  obtain ⟨rfl, rfl, rfl⟩ := trodAll_nil r2
  obtain rfl : args = #[v0, v1, v2] := by cases args; simp_all
  obtain ⟨rfl, rfl⟩ := trodVars_none hV
  have k0 := h0
  have lt0 : ∀ x ∈ p0, x.block < W.heap.size := by obtain ⟨m, hm⟩ := k0; exact DataW.trod_lt m _ _ _ hm
  obtain ⟨l, hd⟩ := open_drafts (hval 0 39 v0 rfl rfl) h0
  have k1 := h1
  have lt1 : ∀ x ∈ p1, x.block < W.heap.size := by obtain ⟨m, hm⟩ := k1; exact DataW.trod_lt m _ _ _ hm
  obtain ⟨m, hq⟩ := open_drafts (hval 1 39 v1 rfl rfl) h1
  obtain ⟨a2, rfl, rfl, rfl, w2⟩ := open_string Try.underlying9 (hval 2 9 v2 rfl rfl) h2
  have z2 : a2.size ≤ 140737488351232 := by have := sized_string hsz (j := 2) (t := 9) rfl rfl; simpa [reachBytes] using this
  clear hA0 hval0
  simp only [List.append_nil] at hW'
  refine (walk v0 l v1 m a2 z2 W hd hq).mono fun e W' ⟨he, bel⟩ => ?_
  subst he
  exact ⟨_, rfl, _, _, _, [], _, [], hW', trodAll_mk1 (shut_bool Try.underlying4 _), (trodAll_cons_mk (Below.trod laidOut (by kernel_rfl) (of_decide_eq_true (by kernel_rfl)) k0 bel lt0) (trodAll_cons_mk (Below.trod laidOut (by kernel_rfl) (of_decide_eq_true (by kernel_rfl)) k1 bel lt1) (trodAll_cons_mk (shut_string Try.underlying9 w2) trodAll_mk0))), rfl, bel.frame _, fun h => by cases h⟩

theorem over : Rows.areaAlikeRow.holds Try.pinned (OpenSpec.ofChange Rows.areaAlikeSpec) :=
  OpenClaim.holds_of_wide 7 Try.f7 rfl rfl rfl rfl rfl rfl rfl ⟨rfl, rfl, rfl, rfl, rfl⟩ rfl rfl rfl rfl rfl (by kernel_rfl) Try.func7 (by kernel_rfl)
    (of_decide_eq_true (by kernel_rfl)) (by unfold Func.isWrapper; first | (rw [if_pos (by decide +kernel)]; kernel_rfl) | (rw [if_neg (by decide +kernel)]; exact ⟨rfl, rfl⟩))
    (fun os started H enc _ => lifted os started H enc)

theorem proved : Rows.AreaAlikeSaid := over
#print axioms proved
end Go.Proofs.Ytlmbccgldigihaa.areaAlike
