/-
  AreaCanon returns true for all texts. No conditions.
-/
import Derived.Test.YtlmbccgldigihaaAreaWorks
import Derived.WalkKit
import Derived.ProofKit
import Derived.OpenShut
import Derived.ShutString
import Derived.ChangeOld
import Derived.Below
import Derived.SizedLaws
namespace Go.Proofs.Ytlmbccgldigihaa.areaCanon
open Go.ChangeShapes Go.WideShapes Go.ChangeAt Go.RowKit
open Go.ChangeMaps (open_string shut_string)
set_option linter.unusedVariables false


set_option maxHeartbeats 4000000 in
set_option maxRecDepth 100000 in
theorem walk_s (s : ByteArray) (hs : s.size ≤ 140737488351232) (h40 : s.size ≤ 40) (w : World) :
    Calls Try.prog 6 #[.string s] w fun e w' => e = .returned (.bool true) ∧ Below w.heap.size w w' := by
  obtain ⟨t, ht⟩ : ∃ t, t = s.extract 0 (s.size / 4 * 4) := ⟨_, rfl⟩
  have hts : t.size = s.size / 4 * 4 := by rw [ht, ByteArray.size_extract]; omega
  have ht40 : t.size ≤ 40 := by omega
  have ht4 : t.size % 4 = 0 := by omega
  have HT := Lib.hid ht.symm
  obtain ⟨⟨l, c⟩, hR⟩ : ∃ R, read t = R := ⟨_, rfl⟩
  have hgo := hR
  rw [read_ok t ht40 ht4] at hgo
  have hmn : (if (40 : Int) < (s.size : Int) then (40 : Int) else (s.size : Int)) = (s.size : Int) := by rw [if_neg (by omega)]
  have HR := Lib.hid hR
  have HG := Lib.hid hgo
  have HTS := Lib.hid hts
  clear ht hR hgo hts
  go_enter Try.func6, Try.ntmps6
  go_wp2_with fail
  refine (works_any _).mono ?_
  rintro e w1 ⟨rfl, b1⟩
  have B1 := Lib.hid b1
  clear b1
  go_wp2_with fail
  rw [HT.out]
  refine (Walk_any t (l, c) _ (by omega) HR.out).mono ?_
  rintro e w2 ⟨v2, rfl, row2, b2⟩
  have B2 := Lib.hid (below_then B1.out b2)
  have R2 := Lib.hid row2
  obtain ⟨p, cap, hv, hlc, hcap, hcl⟩ := row2
  subst hv
  clear b2 hcl
  by_cases hc : c = 0
  · subst hc
    obtain ⟨l', hl', hall, hwide⟩ := go_back _ _ _ _ HG.out
    rw [List.nil_append] at hl'
    subst hl'
    rw [data_length] at hwide
    have hlen := length_le_wide l
    have hlay := laid_ok l hall (by omega)
    have hsz := (laid_sized l).1
    rw [sized_ok l hall (by omega)] at hsz
    have hpad := pad_b (wide l)
    have hpt : pad (wide l) ≤ t.size := by unfold pad; omega
    have hback := read_laid l hall (by omega)
    obtain ⟨Z, hZ⟩ : ∃ Z, Z = (laid l).1 := ⟨_, rfl⟩
    have hlaid : laid l = (Z, 0) := by rw [hZ, hlay]
    rw [← hZ] at hsz hback
    have hZe : Z = txt (enc l ++ List.replicate (pad (wide l) - wide l) 0) := by rw [hZ, hlay]
    have z1 : Z.size ≤ t.size := by simp at hsz; omega
    have z2 : wide l ≤ Z.size := by simp at hsz; omega
    have z3 : Z.size ≤ wide l + 3 := by simp at hsz; omega
    have HL := Lib.hid hlaid
    have HBK := Lib.hid hback
    have HZE := Lib.hid hZe
    have HALL := Lib.hid hall
    clear hlaid hback hZe hall hlay hsz hpad hpt hZ HG
    go_wp2_with fail
    refine (Lay_any _ l (Z, 0) _ R2.out (fun y hy => by have := (may_iff y).1 (List.all_eq_true.1 HALL.out y hy); omega) (by omega) HL.out).mono ?_
    rintro e w3 ⟨rfl, b3⟩
    have B3 := Lib.hid (below_then B2.out b3)
    have R3 := Lib.hid (R2.out.below b3)
    clear b3
    go_wp2_with fail
    go_loop [7, 8] (fun n i => ∃ j : Nat, j ≤ l.length ∧ i = .int .i64 (j : Int) ∧ n = .int .i64 (wide (l.take j) : Int)) (fun _ i => l.length - (intOf i).toNat)
    case atStart => exact ⟨0, Nat.zero_le _, rfl, rfl⟩
    case round =>
      obtain ⟨j, hj, rfl, rfl⟩ := hrel
      have hwl := wide_take_le l j
      by_cases hlt : j < l.length
      · obtain ⟨x, hx⟩ : ∃ x, l[j]? = some x := ⟨_, List.getElem?_eq_getElem hlt⟩
        obtain ⟨ad, hp, hg, c0, c1⟩ := row_cells R3.out (Below.refl _ _) j x hx
        subst hp
        obtain ⟨m1, m2, m3⟩ := (may_iff x).1 (List.all_eq_true.1 HALL.out x (List.mem_of_getElem? hx))
        have hws := wide_take_succ l j x hx
        obtain ⟨n, hn⟩ : ∃ n, n = wide (l.take j) := ⟨_, rfl⟩
        rw [← hn] at hws hwl ⊢
        have HW := Lib.hid hws
        have d1 : decide (x.1 < 2) = false := by simp; omega
        have d2 : decide ((255 : Int) < x.1) = false := by simp; omega
        clear hx hws hn
        go_wp2
        go_round
        case rel => exact ⟨j + 1, by omega, by go_num, by rw [HW.out]; go_num⟩
        case measure => simp [intOf]; omega
      · obtain rfl : j = l.length := by omega
        rw [List.take_length]
        clear hwl
        obtain ⟨n, hn⟩ : ∃ n, n = wide l := ⟨_, rfl⟩
        rw [← hn] at z2 z3 hwide hlen ⊢
        have HN := Lib.hid hn
        have d1 : decide (t.size < Z.size) = false := by simp; omega
        have d2 : decide ((3 : Int) < (Z.size : Int) - (n : Int)) = false := by simp; omega
        have d3 : decide (Z.size < n) = false := by simp; omega
        clear hn
        go_wp2_with fail
        refine (walked_t Z _ l _ (by omega) R3.out (by omega) HBK.out).mono ?_
        rintro e w4 ⟨rfl, b4⟩
        have B4 := Lib.hid (below_then B3.out b4)
        clear b4
        go_wp2
        go_loop [9] (fun i => ∃ j : Nat, n ≤ j ∧ j ≤ Z.size ∧ i = .int .i64 (j : Int)) (fun i => Z.size - (intOf i).toNat)
        case atStart => exact ⟨n, Nat.le_refl _, z2, rfl⟩
        case round =>
          obtain ⟨q, hq1, hq2, rfl⟩ := hrel
          by_cases hlt : q < Z.size
          · have hz0 : Z[q] = 0 := by
              have e : Z.data.toList[q]? = some 0 := by
                rw [HZE.out, data_txt, List.getElem?_append_right (by rw [enc_length, ← HN.out]; exact hq1), List.getElem?_replicate, if_pos]
                have : Z.size = (enc l ++ List.replicate (pad (wide l) - wide l) (0 : UInt8)).length := by rw [HZE.out, txt_size]
                rw [List.length_append, List.length_replicate, enc_length] at this; rw [enc_length]; have := HN.out; omega
              have e2 : Z.data.toList[q]? = some Z[q] := by rw [List.getElem?_eq_getElem (by simpa using hlt)]; rfl
              rw [e] at e2; exact (Option.some.inj e2).symm
            have hz1 : ((Z[q].toNat : Int) != 0) = false := by rw [hz0]; rfl
            clear hz0
            go_wp2
            go_round
            case rel => exact ⟨q + 1, by omega, by omega, by go_num⟩
            case measure => simp [intOf]; omega
          · obtain rfl : q = Z.size := by omega
            go_wp2
            go_ret; exact ⟨rfl, B4.out⟩
  · obtain ⟨rfl, h45⟩ := go_bad _ _ _ _ _ HG.out hc
    have hcb : (c != 0) = true := by simpa using hc
    rcases h45 with rfl | rfl
    · go_wp2
      go_ret; exact ⟨rfl, B2.out⟩
    · go_wp2
      go_ret; exact ⟨rfl, B2.out⟩

set_option maxHeartbeats 4000000 in
set_option maxRecDepth 100000 in
theorem walk_l (s : ByteArray) (hs : s.size ≤ 140737488351232) (h40 : 40 < s.size) (w : World) :
    Calls Try.prog 6 #[.string s] w fun e w' => e = .returned (.bool true) ∧ Below w.heap.size w w' := by
  obtain ⟨t, ht⟩ : ∃ t, t = s.extract 0 (40) := ⟨_, rfl⟩
  have hts : t.size = 40 := by rw [ht, ByteArray.size_extract]; omega
  have ht40 : t.size ≤ 40 := by omega
  have ht4 : t.size % 4 = 0 := by omega
  have HT := Lib.hid ht.symm
  obtain ⟨⟨l, c⟩, hR⟩ : ∃ R, read t = R := ⟨_, rfl⟩
  have hgo := hR
  rw [read_ok t ht40 ht4] at hgo
  have hmn : (if (40 : Int) < (s.size : Int) then (40 : Int) else (s.size : Int)) = (40 : Int) := by rw [if_pos (by omega)]
  have HR := Lib.hid hR
  have HG := Lib.hid hgo
  have HTS := Lib.hid hts
  clear ht hR hgo hts
  go_enter Try.func6, Try.ntmps6
  go_wp2_with fail
  refine (works_any _).mono ?_
  rintro e w1 ⟨rfl, b1⟩
  have B1 := Lib.hid b1
  clear b1
  go_wp2_with fail
  rw [HT.out]
  refine (Walk_any t (l, c) _ (by omega) HR.out).mono ?_
  rintro e w2 ⟨v2, rfl, row2, b2⟩
  have B2 := Lib.hid (below_then B1.out b2)
  have R2 := Lib.hid row2
  obtain ⟨p, cap, hv, hlc, hcap, hcl⟩ := row2
  subst hv
  clear b2 hcl
  by_cases hc : c = 0
  · subst hc
    obtain ⟨l', hl', hall, hwide⟩ := go_back _ _ _ _ HG.out
    rw [List.nil_append] at hl'
    subst hl'
    rw [data_length] at hwide
    have hlen := length_le_wide l
    have hlay := laid_ok l hall (by omega)
    have hsz := (laid_sized l).1
    rw [sized_ok l hall (by omega)] at hsz
    have hpad := pad_b (wide l)
    have hpt : pad (wide l) ≤ t.size := by unfold pad; omega
    have hback := read_laid l hall (by omega)
    obtain ⟨Z, hZ⟩ : ∃ Z, Z = (laid l).1 := ⟨_, rfl⟩
    have hlaid : laid l = (Z, 0) := by rw [hZ, hlay]
    rw [← hZ] at hsz hback
    have hZe : Z = txt (enc l ++ List.replicate (pad (wide l) - wide l) 0) := by rw [hZ, hlay]
    have z1 : Z.size ≤ t.size := by simp at hsz; omega
    have z2 : wide l ≤ Z.size := by simp at hsz; omega
    have z3 : Z.size ≤ wide l + 3 := by simp at hsz; omega
    have HL := Lib.hid hlaid
    have HBK := Lib.hid hback
    have HZE := Lib.hid hZe
    have HALL := Lib.hid hall
    clear hlaid hback hZe hall hlay hsz hpad hpt hZ HG
    go_wp2_with fail
    refine (Lay_any _ l (Z, 0) _ R2.out (fun y hy => by have := (may_iff y).1 (List.all_eq_true.1 HALL.out y hy); omega) (by omega) HL.out).mono ?_
    rintro e w3 ⟨rfl, b3⟩
    have B3 := Lib.hid (below_then B2.out b3)
    have R3 := Lib.hid (R2.out.below b3)
    clear b3
    go_wp2_with fail
    go_loop [7, 8] (fun n i => ∃ j : Nat, j ≤ l.length ∧ i = .int .i64 (j : Int) ∧ n = .int .i64 (wide (l.take j) : Int)) (fun _ i => l.length - (intOf i).toNat)
    case atStart => exact ⟨0, Nat.zero_le _, rfl, rfl⟩
    case round =>
      obtain ⟨j, hj, rfl, rfl⟩ := hrel
      have hwl := wide_take_le l j
      by_cases hlt : j < l.length
      · obtain ⟨x, hx⟩ : ∃ x, l[j]? = some x := ⟨_, List.getElem?_eq_getElem hlt⟩
        obtain ⟨ad, hp, hg, c0, c1⟩ := row_cells R3.out (Below.refl _ _) j x hx
        subst hp
        obtain ⟨m1, m2, m3⟩ := (may_iff x).1 (List.all_eq_true.1 HALL.out x (List.mem_of_getElem? hx))
        have hws := wide_take_succ l j x hx
        obtain ⟨n, hn⟩ : ∃ n, n = wide (l.take j) := ⟨_, rfl⟩
        rw [← hn] at hws hwl ⊢
        have HW := Lib.hid hws
        have d1 : decide (x.1 < 2) = false := by simp; omega
        have d2 : decide ((255 : Int) < x.1) = false := by simp; omega
        clear hx hws hn
        go_wp2
        go_round
        case rel => exact ⟨j + 1, by omega, by go_num, by rw [HW.out]; go_num⟩
        case measure => simp [intOf]; omega
      · obtain rfl : j = l.length := by omega
        rw [List.take_length]
        clear hwl
        obtain ⟨n, hn⟩ : ∃ n, n = wide l := ⟨_, rfl⟩
        rw [← hn] at z2 z3 hwide hlen ⊢
        have HN := Lib.hid hn
        have d1 : decide (t.size < Z.size) = false := by simp; omega
        have d2 : decide ((3 : Int) < (Z.size : Int) - (n : Int)) = false := by simp; omega
        have d3 : decide (Z.size < n) = false := by simp; omega
        clear hn
        go_wp2_with fail
        refine (walked_t Z _ l _ (by omega) R3.out (by omega) HBK.out).mono ?_
        rintro e w4 ⟨rfl, b4⟩
        have B4 := Lib.hid (below_then B3.out b4)
        clear b4
        go_wp2
        go_loop [9] (fun i => ∃ j : Nat, n ≤ j ∧ j ≤ Z.size ∧ i = .int .i64 (j : Int)) (fun i => Z.size - (intOf i).toNat)
        case atStart => exact ⟨n, Nat.le_refl _, z2, rfl⟩
        case round =>
          obtain ⟨q, hq1, hq2, rfl⟩ := hrel
          by_cases hlt : q < Z.size
          · have hz0 : Z[q] = 0 := by
              have e : Z.data.toList[q]? = some 0 := by
                rw [HZE.out, data_txt, List.getElem?_append_right (by rw [enc_length, ← HN.out]; exact hq1), List.getElem?_replicate, if_pos]
                have : Z.size = (enc l ++ List.replicate (pad (wide l) - wide l) (0 : UInt8)).length := by rw [HZE.out, txt_size]
                rw [List.length_append, List.length_replicate, enc_length] at this; rw [enc_length]; have := HN.out; omega
              have e2 : Z.data.toList[q]? = some Z[q] := by rw [List.getElem?_eq_getElem (by simpa using hlt)]; rfl
              rw [e] at e2; exact (Option.some.inj e2).symm
            have hz1 : ((Z[q].toNat : Int) != 0) = false := by rw [hz0]; rfl
            clear hz0
            go_wp2
            go_round
            case rel => exact ⟨q + 1, by omega, by omega, by go_num⟩
            case measure => simp [intOf]; omega
          · obtain rfl : q = Z.size := by omega
            go_wp2
            go_ret; exact ⟨rfl, B4.out⟩
  · obtain ⟨rfl, h45⟩ := go_bad _ _ _ _ _ HG.out hc
    have hcb : (c != 0) = true := by simpa using hc
    rcases h45 with rfl | rfl
    · go_wp2
      go_ret; exact ⟨rfl, B2.out⟩
    · go_wp2
      go_ret; exact ⟨rfl, B2.out⟩

theorem walk (s : ByteArray) (hs : s.size ≤ 140737488351232) (w : World) :
    Calls Try.prog 6 #[.string s] w fun e w' => e = .returned (.bool true) ∧ Below w.heap.size w w' := by
  by_cases h40 : s.size ≤ 40
  · exact walk_s s hs h40 w
  · exact walk_l s hs (by omega) w

theorem own : ownKnob Try.prog.godebug = none := by kernel_rfl
theorem laidOut : laidOutB Try.prog = true := by kernel_rfl

set_option maxRecDepth 100000 in
theorem lifted (os : Os) (started : os.Started) (H : Type) (enc : TypeId × Value → H) :
    ReturnsInHanded {} Try.checked os 6 .any (Rows.areaCanonSpec.pre6 enc Try.prog Try.f6 Rows.areaCanonRow.domain false) (Rows.areaCanonSpec.post enc Try.prog Try.f6 false true false false) := by
  refine returnsInHanded_of_change_sized (C := Try.checked) own started (by kernel_rfl) Try.func6
    (ChangeSpec.witness6 (enc := enc) (C := Try.checked) false ⟨#[], #[.string ByteArray.empty], []⟩ 8 (by kernel_rfl) (by kernel_rfl) (by kernel_rfl) (by kernel_rfl)) ?_
  intro W base args ds gs before hval0 hW hcnd hsz0 _
  have hsz : (DataW.weightsEach Try.prog (Try.f6.params.toList ++ Rows.areaCanonSpec.plain.varTypes Try.prog) (ds ++ gs)).all (· ≤ reachBytes) = true := hsz0
  have hval : ∀ (j : Nat) t v, Try.f6.params[j]? = some t → args[j]? = some v → Value.okWide Try.prog W .any base t v := hval0
  have hW' := hW
  obtain ⟨p, q, hA0, hV, rfl, hfz, hnd⟩ := hW
  have hA : DataW.TrodAll enc Try.prog W 0 (fun _ => true) true Try.f6.params.toList args.toList ds p := hA0
  rw [Try.params6] at hA hval hsz
  obtain ⟨v0, vs0, d0, ds0, p0, q0, hargs, rfl, rfl, h0, r0⟩ := trodAll_cons hA
  obtain ⟨rfl, rfl, rfl⟩ := trodAll_nil r0
  obtain rfl : args = #[v0] := by cases args; simp_all
  obtain ⟨rfl, rfl⟩ := trodVars_none hV
  obtain ⟨a0, rfl, rfl, rfl, w0⟩ := open_string Try.underlying9 (hval 0 9 v0 rfl rfl) h0
  have z0 : a0.size ≤ 140737488351232 := by have := sized_string hsz (j := 0) (t := 9) rfl rfl; simpa [reachBytes] using this
  clear hA0 hval0
  simp only [List.append_nil] at hW'
  refine (walk a0 z0 W).mono fun e W' ⟨he, bel⟩ => ?_
  subst he
  exact ⟨_, rfl, _, _, _, [], _, [], hW', trodAll_mk1 (shut_bool Try.underlying4 _), (trodAll_cons_mk (shut_string Try.underlying9 w0) trodAll_mk0), rfl, bel.frame _, fun h => by cases h⟩

theorem over : Rows.areaCanonRow.holds Try.pinned (OpenSpec.ofChange Rows.areaCanonSpec) :=
  OpenClaim.holds_of_wide 6 Try.f6 rfl rfl rfl rfl rfl rfl rfl ⟨rfl, rfl, rfl, rfl, rfl⟩ rfl rfl rfl rfl rfl (by kernel_rfl) Try.func6 (by kernel_rfl)
    (of_decide_eq_true (by kernel_rfl)) (by unfold Func.isWrapper; first | (rw [if_pos (by decide +kernel)]; kernel_rfl) | (rw [if_neg (by decide +kernel)]; exact ⟨rfl, rfl⟩))
    (fun os started H enc _ => lifted os started H enc)

theorem proved : Rows.AreaCanonSaid := over
#print axioms proved
end Go.Proofs.Ytlmbccgldigihaa.areaCanon
