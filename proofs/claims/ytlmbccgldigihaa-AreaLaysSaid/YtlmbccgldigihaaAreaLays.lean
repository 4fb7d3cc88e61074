/-
  AreaLays returns true for all rows of items, and kinds. No conditions.
-/
import Derived.Test.YtlmbccgldigihaaAreaWorks
import Derived.Test.YtlmbccgldigihaaAreaCopy
import Derived.BigRegion
import Derived.WalkKit
import Derived.ProofKit
import Derived.OpenShut
import Derived.ShutString
import Derived.ChangeOld
import Derived.Below
import Derived.SizedLaws
namespace Go.Proofs.Ytlmbccgldigihaa.areaLays
open Go.ChangeShapes Go.WideShapes Go.ChangeAt Go.RowKit
open Go.ChangeMaps (open_string shut_string)
set_option linter.unusedVariables false


/-- The first j bodies are cut. -/
def mix (j : Nat) (l : List It) : List It := (l.take j).map cut ++ l.drop j
theorem mix_zero (l : List It) : mix 0 l = l := by simp [mix]
theorem mix_all (j : Nat) (l : List It) (h : l.length ≤ j) : mix j l = l.map cut := by simp [mix, List.take_of_length_le h, List.drop_of_length_le h]
theorem mix_get (j : Nat) (l : List It) (x : It) (h : l[j]? = some x) : (mix j l)[j]? = some x := by
  have hj : j < l.length := (List.getElem?_eq_some_iff.1 h).1
  rw [mix, List.getElem?_append_right (by simp; omega)]
  simp only [List.length_map, List.length_take, Nat.min_eq_left (Nat.le_of_lt hj), Nat.sub_self, List.getElem?_drop, Nat.add_zero]; exact h
theorem mix_succ (j : Nat) (l : List It) (x : It) (h : l[j]? = some x) : (mix j l).set j (cut x) = mix (j + 1) l := by
  have hj : j < l.length := (List.getElem?_eq_some_iff.1 h).1
  have hd : l.drop j = x :: l.drop (j + 1) := by
    obtain ⟨hj', rfl⟩ := List.getElem?_eq_some_iff.1 h
    exact List.drop_eq_getElem_cons hj'
  rw [mix, mix, take_snoc_of l j x h, hd, List.set_append_right _ _ (by simp; omega)]
  simp [Nat.min_eq_left (Nat.le_of_lt hj)]

theorem own_some {w : World} {base : Nat} {e : TypeId} {size : Nat} {v : Value} {n : Nat} {xs : List Value} (h : w.ownsRow base e size v n xs) (hn : v ≠ .slice none 0 0) : ∃ g cap, v = .slice (some ⟨g, 0, none⟩) n cap := by
  rcases h.2 with ⟨rfl, _⟩ | ⟨g, cap, _, rfl, _⟩
  · exact absurd rfl hn
  · exact ⟨g, cap, rfl⟩
theorem own_below {w w' : World} {base : Nat} {e : TypeId} {size : Nat} {v : Value} {n : Nat} {xs : List Value} (h : w.ownsRow base e size v n xs) (b : Below w.heap.size w w') : w'.ownsRow base e size v n xs :=
  h.kept (only_of_below b none) (by cases hv : v.ownBlock with | none => exact .inl rfl | some k => exact .inr (by simp))

set_option maxHeartbeats 4000000 in
set_option maxRecDepth 100000 in
theorem walk_some (ad : Addr) (n cap : Nat) (l : List It) (hsm : ∀ y ∈ l, y.2.size ≤ 9223372036854775807) (a : Int) (a0 : -9223372036854775808 ≤ a) (a1 : a ≤ 9223372036854775807) (w : World) (hr : Row w (.slice (some ad) n cap) l) :
    Calls Try.prog 3 #[.slice (some ad) n cap, .int .i64 a] w fun e w' => e = .returned (.bool true) ∧ Below w.heap.size w w' := by
  obtain ⟨p, cap', hv, hlc, hcap, hcl⟩ := id hr
  injection hv with e1 e2 e3
  subst e2
  subst e3
  obtain ⟨m2, hm2⟩ : ∃ m2, m2 = min l.length 15 := ⟨_, rfl⟩
  have e2 : (if (15 : Int) < (l.length : Int) then (15 : Int) else (l.length : Int)) = (m2 : Int) := by rw [hm2]; split <;> omega
  have q4 : (0 : Int) ≤ (m2 : Int) := by omega
  have q5 : (m2 : Int) ≤ (cap : Int) := by omega
  have q6 : m2 ≤ cap := by omega
  have q8 : m2 ≤ 15 := by omega
  have q9 : m2 ≤ l.length := by omega
  obtain ⟨L, hL⟩ : ∃ L, L = l.take m2 := ⟨_, rfl⟩
  have hLl : L.length = m2 := by rw [hL, List.length_take]; omega
  have HRT : Hid (Row w (.slice (some ad) m2 cap) L) := Lib.hid (by rw [hL]; exact RowB.take hr m2 q9)
  have HSM : Hid (∀ y ∈ L, y.2.size ≤ 9223372036854775807) := Lib.hid (fun y hy => hsm y (List.mem_of_mem_take (by rw [← hL]; exact hy)))
  have HLL := Lib.hid hLl
  obtain ⟨i0, hi, hz0, hz1, hz2⟩ := info_parts info24
  have HI := Lib.hid hi
  have HZ0 := Lib.hid hz0
  have HZ1 := Lib.hid hz1
  have HZ2 := Lib.hid hz2
  have HOE := Lib.hid (own_empty w w.heap.size (Nat.le_refl _))
  have HNW := Lib.hid (Row.news (Row.more HRT.out (.cells #[] 24)))
  have HLN : Hid ((cellsOf L).length = m2 * 2) := Lib.hid (by rw [cellsOf_length, hLl])
  clear hcl hm2 hr hL hLl hi hz0 hz1 hz2 hsm e1
  go_enter Try.func3, Try.ntmps3
  go_wp2_with (at_builtin; refine wpList_append_own _ rfl (.tmp 12) (.tmp 17) 22 rfl w.heap.size 24 i0 (.agg #[.int .i64 0, .string ⟨#[]⟩]) 2 24 Try.underlying22 HI.out HZ0.out HZ1.out HZ2.out rfl (by decide) _ 0 (cellsOf []) rfl HOE.out ad m2 cap (cellsOf L) rfl HLN.out HNW.out (fun u hu => cellsOf_one u L hu) (by unfold maxLen; omega) (by omega) (by simp) ?_; intro v1 w1 hown1 hgrow1 hnil1; have HNI := Lib.hid hnil1; have HO1 := Lib.hid hown1; have HB1 := Lib.hid (Below.grown (below_more (Below.refl w.heap.size w) _) hgrow1 (below_more (Below.refl w.heap.size w) _).size (own_base HOE.out)); clear hown1 hgrow1 hnil1)
  rw [Nat.zero_add] at HO1
  obtain ⟨g1, c1, rfl⟩ := own_some HO1.out (fun e => by have := (HNI.out.1 e).1; cases this)
  clear HNI HOE HNW HRT

  go_loopw [5] (fun i wr => ∃ j : Nat, j ≤ m2 ∧ i = .int .i64 (j : Int) ∧ wr.ownsRow w.heap.size 24 2 (.slice (some ⟨g1, 0, none⟩) m2 c1) m2 (cellsOf (mix j L)) ∧ Below w.heap.size w wr) (fun i _ => m2 - (intOf i).toNat)
  case atStart => exact ⟨0, Nat.zero_le _, rfl, by rw [mix_zero]; exact HO1.out, HB1.out⟩
  case round =>
    clear HO1 HB1
    obtain ⟨j, hj, rfl, hO, hB⟩ := hrel
    have HB := Lib.hid hB
    have HO := Lib.hid hO
    have hsz := hB.size
    clear hB
    by_cases hlt : j < m2
    · obtain ⟨x, hx⟩ : ∃ x, L[j]? = some x := ⟨_, List.getElem?_eq_getElem (by rw [HLL.out]; exact hlt)⟩
      have hxs := HSM.out x (List.mem_of_getElem? hx)
      obtain ⟨g, hgg⟩ : ∃ g, g = g1 := ⟨_, rfl⟩
      subst hgg
      have hmx := mix_get j L x hx
      have t0 : wr.cell? ⟨g, j * 2 + 1, none⟩ = some (.string x.2) := by rw [← add_flat]; exact hO.cells rfl _ _ (cellsOf_get _ j x hmx).2
      have t1 : wr.frozen? ⟨g, j * 2 + 1, none⟩ = false := by
        rcases hO.2 with ⟨h', _⟩ | ⟨g', cap', cur, h', _, hg', _⟩
        · cases h'
        · cases h'; exact Blk.frozen (w := wr) (g := g) hg' _
      obtain ⟨k, s⟩ := x
      simp only at t0 hxs
      obtain ⟨m, hm⟩ : ∃ m, m = min s.size 300 := ⟨_, rfl⟩
      have hmn : (if (300 : Int) < (s.size : Int) then (300 : Int) else (s.size : Int)) = (m : Int) := by rw [hm]; split <;> omega
      have r1 : (0 : Int) ≤ (m : Int) := by omega
      have r2 : (m : Int) ≤ (s.size : Int) := by omega
      have r3 : m ≤ s.size := by omega
      have g1 : (0 : Int) ≤ (j : Int) := by omega
      have g2 : (j : Int) < (m2 : Int) := by omega
      have HST := Lib.hid (hO.stored (j * 2 + 1) (.string (s.extract 0 m)))
      have HMX : Hid (cellsOf (mix (j + 1) L) = (cellsOf (mix j L)).set (j * 2 + 1) (.string (s.extract 0 m))) := Lib.hid (by rw [cells_set _ j _ _ hmx, ← mix_succ j L _ hx, hm]; rfl)
      clear hO hx hmx hm
      go_wp2
      go_region
      go_wp2
      go_roundw
      case rel => exact ⟨j + 1, by omega, by go_num, by rw [HMX.out]; exact HST.out.1, (HB.out.grown HST.out.2 hsz (fun q e => by cases e; exact own_base HO.out _ rfl)).drew⟩
      case measure => simp [intOf]; omega
    · obtain rfl : j = m2 := by omega
      have hLL := HLL.out
      rw [mix_all j L (by omega)] at hO
      obtain ⟨C, hC⟩ : ∃ C, C = L.map cut := ⟨_, rfl⟩
      rw [← hC] at hO
      have hCl : C.length = j := by rw [hC, List.length_map, hLL]
      have HCS : Hid (∀ y ∈ C, y.2.size ≤ 300) := Lib.hid (fun y hy => by
        rw [hC] at hy
        obtain ⟨x, _, rfl⟩ := List.mem_map.1 hy
        exact cut_size x)
      have HR0 := Lib.hid (Row.of_own hO hCl.symm)
      have HCL := Lib.hid hCl
      have hc1 : j ≤ c1 := by
        rcases hO.2 with ⟨h', _⟩ | ⟨g', cap', cur, h', _, _, hnc, _⟩
        · cases h'
        · cases h'; exact hnc
      clear hC hCl hO HO hLL HLL HSM
      go_wp2
      go_loopw [6] (fun i wr => ∃ k : Nat, k ≤ j + 1 ∧ i = .int .i64 (k : Int) ∧ Row wr (.slice (some ⟨g1, 0, none⟩) j c1) C ∧ Below w.heap.size w wr) (fun i _ => j + 1 - (intOf i).toNat)
      case atStart => exact ⟨0, by omega, rfl, HR0.out, HB.out⟩
      case round =>
        clear HR0 HB hsz
        obtain ⟨k, hk, rfl, hR, hB⟩ := hrel
        have HB := Lib.hid hB
        have HR := Lib.hid hR
        have hsz := hB.size
        clear hB hR
        by_cases hkj : k ≤ j
        · have d1 : decide (k ≤ j) = true := by simp; omega
          have s4 : (0 : Int) ≤ (k : Int) := by omega
          have s5 : (k : Int) ≤ (c1 : Int) := by omega
          have s6 : k ≤ c1 := by omega
          have HT := Lib.hid (RowB.take HR.out k (by rw [HCL.out]; exact hkj))
          have HOE := Lib.hid (own_empty wr wr.heap.size (Nat.le_refl _))
          have HNW := Lib.hid (Row.news (Row.more HT.out (.cells #[] 24)))
          have HLN : Hid ((cellsOf (C.take k)).length = k * 2) := Lib.hid (by rw [cellsOf_length, List.length_take, HCL.out, Nat.min_eq_left hkj])
          have HKL : Hid ((C.take k).length = k) := Lib.hid (by rw [List.length_take, HCL.out, Nat.min_eq_left hkj])
          have HKS : Hid (∀ y ∈ C.take k, y.2.size ≤ 300) := Lib.hid (fun y hy => HCS.out y (List.mem_of_mem_take hy))
          go_wp2_with (at_builtin; refine wpList_append_own _ rfl (.tmp 48) (.tmp 51) 22 rfl wr.heap.size 24 i0 (.agg #[.int .i64 0, .string ⟨#[]⟩]) 2 24 Try.underlying22 HI.out HZ0.out HZ1.out HZ2.out rfl (by decide) _ 0 (cellsOf []) rfl HOE.out ⟨g1, 0, none⟩ k c1 (cellsOf (C.take k)) rfl HLN.out HNW.out (fun u hu => cellsOf_one u _ hu) (by unfold maxLen; omega) (by omega) (by simp) ?_; intro v2 w2 hown2 hgrow2 _; have HO2 := Lib.hid hown2; have HB2 := Lib.hid (Below.grown (below_more (Below.refl wr.heap.size wr) _) hgrow2 (below_more (Below.refl wr.heap.size wr) _).size (own_base HOE.out)); clear hown2 hgrow2)
          rw [Nat.zero_add] at HO2
          obtain ⟨p2, c2, rfl⟩ := own_slice HO2.out
          have HV2 := Lib.hid (Row.of_own HO2.out HKL.out.symm)
          obtain ⟨⟨Z, cz⟩, hZ⟩ : ∃ r, laid (C.take k) = r := ⟨_, rfl⟩
          have hsd : sized (C.take k) = ((Z.size : Int), cz) := by
            have := laid_sized (C.take k); rw [hZ] at this; exact Prod.ext this.1.symm this.2.symm
          obtain ⟨⟨Y, cy⟩, hY⟩ : ∃ r, laid (C.take k ++ [(a, ⟨#[]⟩)]) = r := ⟨_, rfl⟩
          have HZ := Lib.hid hZ
          have HSD := Lib.hid hsd
          have HY := Lib.hid hY
          have HKA : Hid (∀ y ∈ C.take k ++ [((a, ⟨#[]⟩) : It)], y.2.size ≤ 300) := Lib.hid (fun y hy => by
            rcases List.mem_append.1 hy with hy | hy
            · exact HKS.out y hy
            · simp at hy; subst hy; show (⟨#[]⟩ : ByteArray).size ≤ 300; decide)
          have HLA : Hid ((C.take k ++ [((a, ⟨#[]⟩) : It)]).length ≤ 1099511627776) := Lib.hid (by rw [List.length_append, HKL.out]; simp; omega)
          have HLK : Hid ((C.take k).length ≤ 1099511627776) := Lib.hid (by rw [HKL.out]; omega)
          clear hZ hsd hY
          go_wp2_with fail
          refine (Lay_any _ (C.take k) (Z, cz) _ HV2.out (fun y hy => Nat.le_trans (HKS.out y hy) (by decide)) HLK.out HZ.out).mono ?_
          rintro e w3 ⟨rfl, b3⟩
          have HB3 := Lib.hid (below_then HB2.out b3)
          have HO3 := Lib.hid (own_below HO2.out b3)
          have HV3 := Lib.hid (HV2.out.below b3)
          clear b3
          go_wp2_with fail
          refine (Lay_ref _ (C.take k) (Z, cz) _ HV3.out (fun y hy => Nat.le_trans (HKS.out y hy) (by decide)) HLK.out HZ.out).mono ?_
          rintro e w4 ⟨rfl, b4⟩
          have HB4 := Lib.hid (below_then HB3.out b4)
          have HO4 := Lib.hid (own_below HO3.out b4)
          have HV4 := Lib.hid (HV3.out.below b4)
          clear b4
          have hcc : (cz != cz) = false := by simp
          have hyy : (cy != cy) = false := by simp
          go_wp2_with fail
          refine (Size_any _ (C.take k) ((Z.size : Int), cz) _ HV4.out (fun y hy => Nat.le_trans (HKS.out y hy) (by decide)) HLK.out HSD.out).mono ?_
          rintro e w5 ⟨rfl, b5⟩
          have HB5 := Lib.hid (below_then HB4.out b5)
          have HO5 := Lib.hid (own_below HO4.out b5)
          have hs5 := HB5.out.size
          clear b5
          have HM63 : Hid (k + 1 ≤ maxLen) := Lib.hid (by unfold maxLen; omega)
          have HM24 : Hid ((k + 1) * 24 ≤ 140737488355328) := Lib.hid (by omega)
          go_wp2_with (at_builtin; refine wpList_append_lies _ (by rfl) (.tmp 78) (.tmp 81) 22 (by rfl) wr.heap.size 24 i0 (.agg #[.int .i64 0, .string ⟨#[]⟩]) 2 24 Try.underlying22 HI.out HZ0.out HZ1.out HZ2.out rfl (by decide) (.slice p2 k c2) k _ (by rfl) (HO5.out.alloc _) ⟨w5.heap.size, 0, none⟩ 1 1 [.int .i64 a, .string ⟨#[]⟩] (by rfl) (by rfl) (World.news_of_block (cs := #[.int .i64 a, .string ⟨#[]⟩]) (t := 24) (fr := (0, 0)) (heap_alloc_new _ _)) (by simp [Value.oneCell']) (by decide) HM63.out HM24.out (by simp; omega) (w5.heap.size + 1) (by simp) ?_; intro g6 c6 w6 hown6 hgrow6 hat6 hlt6; have HO6 := Lib.hid hown6; have HB6 := Lib.hid (Below.grown (below_more HB5.out _) hgrow6 (below_more HB5.out _).size (own_base HO5.out)); clear hown6 hgrow6 hat6 hlt6)
          have HV6 : Hid (Row w6 (.slice (some ⟨g6, 0, none⟩) (k + 1) c6) (C.take k ++ [(a, ⟨#[]⟩)])) := Lib.hid (Row.of_own (l := C.take k ++ [(a, ⟨#[]⟩)]) (by rw [cellsOf_append]; exact HO6.out) (by rw [List.length_append, HKL.out]; rfl))
          refine (Lay_any _ (C.take k ++ [(a, ⟨#[]⟩)]) (Y, cy) _ HV6.out (fun y hy => Nat.le_trans (HKA.out y hy) (by decide)) HLA.out HY.out).mono ?_
          rintro e w7 ⟨rfl, b7⟩
          have HB7 := Lib.hid (below_then HB6.out b7)
          have HV7 := Lib.hid (HV6.out.below b7)
          clear b7
          go_wp2_with fail
          refine (Lay_ref _ (C.take k ++ [(a, ⟨#[]⟩)]) (Y, cy) _ HV7.out (fun y hy => Nat.le_trans (HKA.out y hy) (by decide)) HLA.out HY.out).mono ?_
          rintro e w8 ⟨rfl, b8⟩
          have HB8 := Lib.hid (below_then HB7.out b8)
          clear b8
          go_wp2
          go_roundw
          case rel => exact ⟨k + 1, by omega, by go_num, HR.out.below HB8.out, below_then HB.out HB8.out⟩
          case measure => simp [intOf]; omega
        · have d1 : decide (k ≤ j) = false := by simp; omega
          go_wp2_with fail
          refine (works_any _).mono ?_
          rintro e w7 ⟨rfl, b7⟩
          go_wp2
          go_ret; exact ⟨rfl, below_then HB.out b7⟩


set_option maxHeartbeats 4000000 in
set_option maxRecDepth 100000 in
theorem walk_nil (a : Int) (a0 : -9223372036854775808 ≤ a) (a1 : a ≤ 9223372036854775807) (w : World) :
    Calls Try.prog 3 #[.slice none 0 0, .int .i64 a] w fun e w' => e = .returned (.bool true) ∧ Below w.heap.size w w' := by
  obtain ⟨i0, hi, hz0, hz1, hz2⟩ := info_parts info24
  have HI := Lib.hid hi
  have HZ0 := Lib.hid hz0
  have HZ1 := Lib.hid hz1
  have HZ2 := Lib.hid hz2
  obtain ⟨L, hL⟩ : ∃ L : List It, L = [] := ⟨_, rfl⟩
  obtain ⟨g1, m2, c1, hv1, hm0, hO1⟩ : ∃ g1 m2 c1, Value.slice (some ⟨w.heap.size, 0, none⟩) 0 0 = .slice (some ⟨g1, 0, none⟩) m2 c1 ∧ m2 = 0 ∧ (w.alloc (.cells #[] 24)).ownsRow w.heap.size 24 2 (.slice (some ⟨g1, 0, none⟩) m2 c1) m2 (cellsOf L) := ⟨_, 0, 0, rfl, rfl, by rw [hL]; exact own_empty w w.heap.size (Nat.le_refl _)⟩
  have HV1 := Lib.hid hv1
  have HO1 := Lib.hid hO1
  have HB1 := Lib.hid (below_more (Below.refl w.heap.size w) (.cells #[] 24))
  have HLL : Hid (L.length = m2) := Lib.hid (by rw [hL, hm0]; rfl)
  have HSM : Hid (∀ y ∈ L, y.2.size ≤ 9223372036854775807) := Lib.hid (by rw [hL]; intro y hy; cases hy)
  have q8 : m2 ≤ 15 := by omega
  clear hL hv1 hm0 hO1 hi hz0 hz1 hz2
  go_enter Try.func3, Try.ntmps3
  go_wp2_with (at_builtin; refine wpList_append_own_none rfl (.tmp 12) (.tmp 17) 22 rfl w.heap.size 24 i0 2 Try.underlying22 HI.out (.slice (some ⟨g1, 0, none⟩) m2 c1) m2 (cellsOf L) HV1.out HO1.out rfl ?_)
  clear HV1

  go_loopw [5] (fun i wr => ∃ j : Nat, j ≤ m2 ∧ i = .int .i64 (j : Int) ∧ wr.ownsRow w.heap.size 24 2 (.slice (some ⟨g1, 0, none⟩) m2 c1) m2 (cellsOf (mix j L)) ∧ Below w.heap.size w wr) (fun i _ => m2 - (intOf i).toNat)
  case atStart => exact ⟨0, Nat.zero_le _, rfl, by rw [mix_zero]; exact HO1.out, HB1.out⟩
  case round =>
    clear HO1 HB1
    obtain ⟨j, hj, rfl, hO, hB⟩ := hrel
    have HB := Lib.hid hB
    have HO := Lib.hid hO
    have hsz := hB.size
    clear hB
    by_cases hlt : j < m2
    · obtain ⟨x, hx⟩ : ∃ x, L[j]? = some x := ⟨_, List.getElem?_eq_getElem (by rw [HLL.out]; exact hlt)⟩
      have hxs := HSM.out x (List.mem_of_getElem? hx)
      obtain ⟨g, hgg⟩ : ∃ g, g = g1 := ⟨_, rfl⟩
      subst hgg
      have hmx := mix_get j L x hx
      have t0 : wr.cell? ⟨g, j * 2 + 1, none⟩ = some (.string x.2) := by rw [← add_flat]; exact hO.cells rfl _ _ (cellsOf_get _ j x hmx).2
      have t1 : wr.frozen? ⟨g, j * 2 + 1, none⟩ = false := by
        rcases hO.2 with ⟨h', _⟩ | ⟨g', cap', cur, h', _, hg', _⟩
        · cases h'
        · cases h'; exact Blk.frozen (w := wr) (g := g) hg' _
      obtain ⟨k, s⟩ := x
      simp only at t0 hxs
      obtain ⟨m, hm⟩ : ∃ m, m = min s.size 300 := ⟨_, rfl⟩
      have hmn : (if (300 : Int) < (s.size : Int) then (300 : Int) else (s.size : Int)) = (m : Int) := by rw [hm]; split <;> omega
      have r1 : (0 : Int) ≤ (m : Int) := by omega
      have r2 : (m : Int) ≤ (s.size : Int) := by omega
      have r3 : m ≤ s.size := by omega
      have g1 : (0 : Int) ≤ (j : Int) := by omega
      have g2 : (j : Int) < (m2 : Int) := by omega
      have HST := Lib.hid (hO.stored (j * 2 + 1) (.string (s.extract 0 m)))
      have HMX : Hid (cellsOf (mix (j + 1) L) = (cellsOf (mix j L)).set (j * 2 + 1) (.string (s.extract 0 m))) := Lib.hid (by rw [cells_set _ j _ _ hmx, ← mix_succ j L _ hx, hm]; rfl)
      clear hO hx hmx hm
      go_wp2
      go_region
      go_wp2
      go_roundw
      case rel => exact ⟨j + 1, by omega, by go_num, by rw [HMX.out]; exact HST.out.1, (HB.out.grown HST.out.2 hsz (fun q e => by cases e; exact own_base HO.out _ rfl)).drew⟩
      case measure => simp [intOf]; omega
    · obtain rfl : j = m2 := by omega
      have hLL := HLL.out
      rw [mix_all j L (by omega)] at hO
      obtain ⟨C, hC⟩ : ∃ C, C = L.map cut := ⟨_, rfl⟩
      rw [← hC] at hO
      have hCl : C.length = j := by rw [hC, List.length_map, hLL]
      have HCS : Hid (∀ y ∈ C, y.2.size ≤ 300) := Lib.hid (fun y hy => by
        rw [hC] at hy
        obtain ⟨x, _, rfl⟩ := List.mem_map.1 hy
        exact cut_size x)
      have HR0 := Lib.hid (Row.of_own hO hCl.symm)
      have HCL := Lib.hid hCl
      have hc1 : j ≤ c1 := by
        rcases hO.2 with ⟨h', _⟩ | ⟨g', cap', cur, h', _, _, hnc, _⟩
        · cases h'
        · cases h'; exact hnc
      clear hC hCl hO HO hLL HLL HSM
      go_wp2
      go_loopw [6] (fun i wr => ∃ k : Nat, k ≤ j + 1 ∧ i = .int .i64 (k : Int) ∧ Row wr (.slice (some ⟨g1, 0, none⟩) j c1) C ∧ Below w.heap.size w wr) (fun i _ => j + 1 - (intOf i).toNat)
      case atStart => exact ⟨0, by omega, rfl, HR0.out, HB.out⟩
      case round =>
        clear HR0 HB hsz
        obtain ⟨k, hk, rfl, hR, hB⟩ := hrel
        have HB := Lib.hid hB
        have HR := Lib.hid hR
        have hsz := hB.size
        clear hB hR
        by_cases hkj : k ≤ j
        · have d1 : decide (k ≤ j) = true := by simp; omega
          have s4 : (0 : Int) ≤ (k : Int) := by omega
          have s5 : (k : Int) ≤ (c1 : Int) := by omega
          have s6 : k ≤ c1 := by omega
          have HT := Lib.hid (RowB.take HR.out k (by rw [HCL.out]; exact hkj))
          have HOE := Lib.hid (own_empty wr wr.heap.size (Nat.le_refl _))
          have HNW := Lib.hid (Row.news (Row.more HT.out (.cells #[] 24)))
          have HLN : Hid ((cellsOf (C.take k)).length = k * 2) := Lib.hid (by rw [cellsOf_length, List.length_take, HCL.out, Nat.min_eq_left hkj])
          have HKL : Hid ((C.take k).length = k) := Lib.hid (by rw [List.length_take, HCL.out, Nat.min_eq_left hkj])
          have HKS : Hid (∀ y ∈ C.take k, y.2.size ≤ 300) := Lib.hid (fun y hy => HCS.out y (List.mem_of_mem_take hy))
          go_wp2_with (at_builtin; refine wpList_append_own _ rfl (.tmp 48) (.tmp 51) 22 rfl wr.heap.size 24 i0 (.agg #[.int .i64 0, .string ⟨#[]⟩]) 2 24 Try.underlying22 HI.out HZ0.out HZ1.out HZ2.out rfl (by decide) _ 0 (cellsOf []) rfl HOE.out ⟨g1, 0, none⟩ k c1 (cellsOf (C.take k)) rfl HLN.out HNW.out (fun u hu => cellsOf_one u _ hu) (by unfold maxLen; omega) (by omega) (by simp) ?_; intro v2 w2 hown2 hgrow2 _; have HO2 := Lib.hid hown2; have HB2 := Lib.hid (Below.grown (below_more (Below.refl wr.heap.size wr) _) hgrow2 (below_more (Below.refl wr.heap.size wr) _).size (own_base HOE.out)); clear hown2 hgrow2)
          rw [Nat.zero_add] at HO2
          obtain ⟨p2, c2, rfl⟩ := own_slice HO2.out
          have HV2 := Lib.hid (Row.of_own HO2.out HKL.out.symm)
          obtain ⟨⟨Z, cz⟩, hZ⟩ : ∃ r, laid (C.take k) = r := ⟨_, rfl⟩
          have hsd : sized (C.take k) = ((Z.size : Int), cz) := by
            have := laid_sized (C.take k); rw [hZ] at this; exact Prod.ext this.1.symm this.2.symm
          obtain ⟨⟨Y, cy⟩, hY⟩ : ∃ r, laid (C.take k ++ [(a, ⟨#[]⟩)]) = r := ⟨_, rfl⟩
          have HZ := Lib.hid hZ
          have HSD := Lib.hid hsd
          have HY := Lib.hid hY
          have HKA : Hid (∀ y ∈ C.take k ++ [((a, ⟨#[]⟩) : It)], y.2.size ≤ 300) := Lib.hid (fun y hy => by
            rcases List.mem_append.1 hy with hy | hy
            · exact HKS.out y hy
            · simp at hy; subst hy; show (⟨#[]⟩ : ByteArray).size ≤ 300; decide)
          have HLA : Hid ((C.take k ++ [((a, ⟨#[]⟩) : It)]).length ≤ 1099511627776) := Lib.hid (by rw [List.length_append, HKL.out]; simp; omega)
          have HLK : Hid ((C.take k).length ≤ 1099511627776) := Lib.hid (by rw [HKL.out]; omega)
          clear hZ hsd hY
          go_wp2_with fail
          refine (Lay_any _ (C.take k) (Z, cz) _ HV2.out (fun y hy => Nat.le_trans (HKS.out y hy) (by decide)) HLK.out HZ.out).mono ?_
          rintro e w3 ⟨rfl, b3⟩
          have HB3 := Lib.hid (below_then HB2.out b3)
          have HO3 := Lib.hid (own_below HO2.out b3)
          have HV3 := Lib.hid (HV2.out.below b3)
          clear b3
          go_wp2_with fail
          refine (Lay_ref _ (C.take k) (Z, cz) _ HV3.out (fun y hy => Nat.le_trans (HKS.out y hy) (by decide)) HLK.out HZ.out).mono ?_
          rintro e w4 ⟨rfl, b4⟩
          have HB4 := Lib.hid (below_then HB3.out b4)
          have HO4 := Lib.hid (own_below HO3.out b4)
          have HV4 := Lib.hid (HV3.out.below b4)
          clear b4
          have hcc : (cz != cz) = false := by simp
          have hyy : (cy != cy) = false := by simp
          go_wp2_with fail
          refine (Size_any _ (C.take k) ((Z.size : Int), cz) _ HV4.out (fun y hy => Nat.le_trans (HKS.out y hy) (by decide)) HLK.out HSD.out).mono ?_
          rintro e w5 ⟨rfl, b5⟩
          have HB5 := Lib.hid (below_then HB4.out b5)
          have HO5 := Lib.hid (own_below HO4.out b5)
          have hs5 := HB5.out.size
          clear b5
          have HM63 : Hid (k + 1 ≤ maxLen) := Lib.hid (by unfold maxLen; omega)
          have HM24 : Hid ((k + 1) * 24 ≤ 140737488355328) := Lib.hid (by omega)
          go_wp2_with (at_builtin; refine wpList_append_lies _ (by rfl) (.tmp 78) (.tmp 81) 22 (by rfl) wr.heap.size 24 i0 (.agg #[.int .i64 0, .string ⟨#[]⟩]) 2 24 Try.underlying22 HI.out HZ0.out HZ1.out HZ2.out rfl (by decide) (.slice p2 k c2) k _ (by rfl) (HO5.out.alloc _) ⟨w5.heap.size, 0, none⟩ 1 1 [.int .i64 a, .string ⟨#[]⟩] (by rfl) (by rfl) (World.news_of_block (cs := #[.int .i64 a, .string ⟨#[]⟩]) (t := 24) (fr := (0, 0)) (heap_alloc_new _ _)) (by simp [Value.oneCell']) (by decide) HM63.out HM24.out (by simp; omega) (w5.heap.size + 1) (by simp) ?_; intro g6 c6 w6 hown6 hgrow6 hat6 hlt6; have HO6 := Lib.hid hown6; have HB6 := Lib.hid (Below.grown (below_more HB5.out _) hgrow6 (below_more HB5.out _).size (own_base HO5.out)); clear hown6 hgrow6 hat6 hlt6)
          have HV6 : Hid (Row w6 (.slice (some ⟨g6, 0, none⟩) (k + 1) c6) (C.take k ++ [(a, ⟨#[]⟩)])) := Lib.hid (Row.of_own (l := C.take k ++ [(a, ⟨#[]⟩)]) (by rw [cellsOf_append]; exact HO6.out) (by rw [List.length_append, HKL.out]; rfl))
          refine (Lay_any _ (C.take k ++ [(a, ⟨#[]⟩)]) (Y, cy) _ HV6.out (fun y hy => Nat.le_trans (HKA.out y hy) (by decide)) HLA.out HY.out).mono ?_
          rintro e w7 ⟨rfl, b7⟩
          have HB7 := Lib.hid (below_then HB6.out b7)
          have HV7 := Lib.hid (HV6.out.below b7)
          clear b7
          go_wp2_with fail
          refine (Lay_ref _ (C.take k ++ [(a, ⟨#[]⟩)]) (Y, cy) _ HV7.out (fun y hy => Nat.le_trans (HKA.out y hy) (by decide)) HLA.out HY.out).mono ?_
          rintro e w8 ⟨rfl, b8⟩
          have HB8 := Lib.hid (below_then HB7.out b8)
          clear b8
          go_wp2
          go_roundw
          case rel => exact ⟨k + 1, by omega, by go_num, HR.out.below HB8.out, below_then HB.out HB8.out⟩
          case measure => simp [intOf]; omega
        · have d1 : decide (k ≤ j) = false := by simp; omega
          go_wp2_with fail
          refine (works_any _).mono ?_
          rintro e w7 ⟨rfl, b7⟩
          go_wp2
          go_ret; exact ⟨rfl, below_then HB.out b7⟩


theorem walk (v : Value) (l : List It) (hsm : ∀ y ∈ l, y.2.size ≤ 9223372036854775807) (hn : v = .slice none 0 0 ∨ ∃ ad n c, v = .slice (some ad) n c) (a : Int) (wa : (Lit.int .i64 a).wf = true) (w : World) (hr : Row w v l) :
    Calls Try.prog 3 #[v, .int .i64 a] w fun e w' => e = .returned (.bool true) ∧ Below w.heap.size w w' := by
  obtain ⟨a0, a1⟩ := bounds_i64 wa
  rcases hn with rfl | ⟨ad, n, c, rfl⟩
  · exact walk_nil a a0 a1 w
  · exact walk_some ad n c l hsm a a0 a1 w hr

theorem own : ownKnob Try.prog.godebug = none := by kernel_rfl
theorem laidOut : laidOutB Try.prog = true := by kernel_rfl

set_option maxRecDepth 100000 in
theorem lifted (os : Os) (started : os.Started) (H : Type) (enc : TypeId × Value → H) :
    ReturnsInHanded {} Try.checked os 3 .any (Rows.areaLaysSpec.pre6 enc Try.prog Try.f3 Rows.areaLaysRow.domain false) (Rows.areaLaysSpec.post enc Try.prog Try.f3 false true false false) := by
  refine returnsInHanded_of_change (C := Try.checked) own started (by kernel_rfl) Try.func3
    (ChangeSpec.witness6 (enc := enc) (C := Try.checked) false ⟨#[], #[.slice none 0 0, .int .i64 0], []⟩ 8 (by kernel_rfl) (by kernel_rfl) (by kernel_rfl) (by kernel_rfl)) ?_
  intro W base args ds gs before hval0 hW hcnd _
  have hval : ∀ (j : Nat) t v, Try.f3.params[j]? = some t → args[j]? = some v → Value.okWide Try.prog W .any base t v := hval0
  have hW' := hW
  obtain ⟨p, q, hA0, hV, rfl, hfz, hnd⟩ := hW
  have hA : DataW.TrodAll enc Try.prog W 0 (fun _ => true) true Try.f3.params.toList args.toList ds p := hA0
  rw [Try.params3] at hA hval
  obtain ⟨v0, vs0, d0, ds0, p0, q0, hargs, rfl, rfl, h0, r0⟩ := trodAll_cons hA
  obtain ⟨v1, vs1, d1, ds1, p1, q1, rfl, rfl, rfl, h1, r1⟩ := trodAll_cons r0
  obtain ⟨rfl, rfl, rfl⟩ := trodAll_nil r1
  obtain rfl : args = #[v0, v1] := by cases args; simp_all
  obtain ⟨rfl, rfl⟩ := trodVars_none hV
  have k0 := h0
  have lt0 : ∀ x ∈ p0, x.block < W.heap.size := by obtain ⟨m, hm⟩ := k0; exact DataW.trod_lt m _ _ _ hm
  obtain ⟨l, hr, hsm, hn⟩ := open_items2 (hval 0 22 v0 rfl rfl) h0
  obtain ⟨a1, rfl, rfl, rfl, w1⟩ := open_int Try.underlying3 (hval 1 3 v1 rfl rfl) h1
  clear hA0 hval0
  simp only [List.append_nil] at hW'
  refine (walk v0 l hsm hn a1 w1 W hr).mono fun e W' ⟨he, bel⟩ => ?_
  subst he
  exact ⟨_, rfl, _, _, _, [], _, [], hW', trodAll_mk1 (shut_bool Try.underlying4 _), (trodAll_cons_mk (Below.trod laidOut (by kernel_rfl) (of_decide_eq_true (by kernel_rfl)) k0 bel lt0) (trodAll_cons_mk (shut_int Try.underlying3 w1) trodAll_mk0)), rfl, bel.frame _, fun h => by cases h⟩

theorem over : Rows.areaLaysRow.holds Try.pinned (OpenSpec.ofChange Rows.areaLaysSpec) :=
  OpenClaim.holds_of_wide 3 Try.f3 rfl rfl rfl rfl rfl rfl rfl ⟨rfl, rfl, rfl, rfl, rfl⟩ rfl rfl rfl rfl rfl (by kernel_rfl) Try.func3 (by kernel_rfl)
    (of_decide_eq_true (by kernel_rfl)) (by unfold Func.isWrapper; first | (rw [if_pos (by decide +kernel)]; kernel_rfl) | (rw [if_neg (by decide +kernel)]; exact ⟨rfl, rfl⟩))
    (fun os started H enc _ => lifted os started H enc)

theorem proved : Rows.AreaLaysSaid := over
#print axioms proved
end Go.Proofs.Ytlmbccgldigihaa.areaLays
