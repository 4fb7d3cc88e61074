/-
  The document's own Walk (plaitref04), by its walk.
-/
import Derived.Test.YtlmbccgldigihaaAreaWalk
import Derived.Test.YtlmbccgldigihaaAreaLay
namespace Go.Proofs.Ytlmbccgldigihaa
open Go.ChangeShapes Go.WideShapes Go.ChangeAt Go.RowKit
set_option linter.unusedVariables false

theorem drop_of (q : ByteArray) (k : Nat) : (q.extract k q.size).data.toList = q.data.toList.drop k := by rw [data_extract, List.take_of_length_le (by simp)]
theorem empty_toList : (⟨#[]⟩ : ByteArray).toList = [] := by rw [ByteArray.toList_eq]
theorem len_toList (q : ByteArray) : q.toList.length = q.size := by rw [ByteArray.toList_eq]; simp
theorem toList_ne (q : ByteArray) (h : 0 < q.size) : q.toList ≠ [] := fun e => by
  rw [← List.length_eq_zero_iff, len_toList] at e; omega
theorem data_ne (q : ByteArray) (h : 0 < q.size) : q.data.toList ≠ [] := fun e => by
  rw [← List.length_eq_zero_iff, data_length] at e; omega
theorem go_end (f : Nat) (acc : List It) (q : ByteArray) (h : 0 < q.size) (hk : q[0].toNat = 0) : go (f + 1) acc q.data.toList = (acc, 0) := by
  rw [go, if_neg (data_ne q h), fst_low q h (by omega)]
  simp [hk]
theorem go_skip (f : Nat) (acc : List It) (q : ByteArray) (h : 0 < q.size) (hk : q[0].toNat = 1) : go (f + 1) acc q.data.toList = go f acc (q.extract 1 q.size).data.toList := by
  rw [drop_of, go, if_neg (data_ne q h), fst_low q h (by omega)]
  simp [hk]
theorem go_fault (f : Nat) (acc : List It) (q : ByteArray) (h : 0 < q.size) (x : It) (n : Nat) (c : Int) (hc : c ≠ 0) (hk : fst q.data.toList = (x, n, c)) : go (f + 1) acc q.data.toList = ([], c) := by
  rw [go, if_neg (data_ne q h), hk, if_pos hc]
theorem go_item (f : Nat) (acc : List It) (q : ByteArray) (h : 0 < q.size) (x : It) (n : Nat) (hk : fst q.data.toList = (x, n, 0)) (hx : 2 ≤ x.1) : go (f + 1) acc q.data.toList = go f (acc ++ [x]) (q.extract n q.size).data.toList := by
  rw [drop_of, go, if_neg (data_ne q h), hk, if_neg (by simp), if_neg (by simp only; omega), if_neg (by simp only; omega)]



set_option maxHeartbeats 2000000 in
set_option maxRecDepth 100000 in
theorem Walk_ref (s : ByteArray) (R : List It × Int) (w : World) (hs : s.size ≤ 140737488355328) (h : read s = R) : Calls Try.prog 14 #[.string s] w (Walked R w) := by
  by_cases h40 : 40 < s.size
  · have e : R = ([], 6) := by rw [← h]; unfold read; rw [if_pos h40]
    subst e
    clear h
    go_enter Try.func14, Try.ntmps14
    go_wp2
    go_ret2
    exact ⟨_, rfl, Row.nil _ _, Below.refl _ _⟩
  · by_cases h4 : s.size % 4 = 0
    · have e := h
      rw [read_ok s (by omega) h4] at e
      obtain ⟨i0, hi, hz0, hz1, hz2⟩ := info_parts info24
      have HI := Lib.hid hi
      have HZ0 := Lib.hid hz0
      have HZ1 := Lib.hid hz1
      have HZ2 := Lib.hid hz2
      have HE := Lib.hid e
      have h4b : ((s.size : Int) % 4 != 0) = false := by simp; omega
      have hs40 : s.size ≤ 40 := by omega
      clear h e hi hz0 hz1 hz2 h4
      go_enter Try.func14, Try.ntmps14
      go_wp2
      go_loopw [0, 4] (fun z v wr => ∃ (q : ByteArray) (acc : List It) (f : Nat), q.size ≤ 40 ∧ z = .string q ∧ q.size ≤ f ∧ go f acc q.data.toList = R ∧ acc.length + q.size ≤ 40 ∧ wr.ownsRow w.heap.size 24 2 v acc.length (cellsOf acc) ∧ Below w.heap.size w wr) (fun z _ _ => match z with | .string q => q.size | _ => 0)
      case atStart => exact ⟨s, [], 41, hs40, rfl, by omega, HE.out, by simpa using hs40, World.ownsRow_nil _ _ _ _, Below.refl _ _⟩
      case round =>
        clear HE
        obtain ⟨q, acc, f, hq, rfl, hf, hgo, hacc, hO, hB⟩ := hrel
        obtain ⟨vp, vc, rfl⟩ := own_slice hO
        have HO := Lib.hid hO
        have HB := Lib.hid hB
        have hsz := hB.size
        have HG := Lib.hid hgo
        clear hO hB hgo
        by_cases h0 : q.size = 0
        · have eq : q = ⟨#[]⟩ := eq_of_data (List.length_eq_zero_iff.1 (by rw [data_length, h0]))
          subst eq
          clear h0
          have em := empty_toList
          go_wp2
          go_ret2
          have e := HG.out
          rw [go_nil] at e
          rw [← e]
          exact ⟨_, rfl, Row.of_own HO.out rfl, HB.out⟩
        · have h0' : 0 < q.size := by omega
          have hn1 := toList_ne q h0'
          have hn2 : (q.toList == []) = false := by simpa using hn1
          have hn3 : q.toList.isEmpty = false := by simpa using hn1
          obtain ⟨f', rfl⟩ : ∃ f', f = f' + 1 := ⟨f - 1, by omega⟩
          have g0 : (0 : Int) < (q.size : Int) := by omega
          have hb0 := q[0].toNat_lt
          clear h0 hn1
          by_cases ha0 : q[0].toNat = 0
          · have e := go_end f' acc q h0' ha0
            rw [HG.out] at e
            have HE := Lib.hid e
            have t0 : ((q[0].toNat : Int) != 0) = false := by simp; omega
            clear e ha0
            go_wp2
            go_ret2
            rw [HE.out]
            exact ⟨_, rfl, Row.of_own HO.out rfl, HB.out⟩
          · have t0 : ((q[0].toNat : Int) != 0) = true := by simp; omega
            by_cases ha1 : q[0].toNat = 1
            · have e := go_skip f' acc q h0' ha1
              rw [HG.out] at e
              have HE := Lib.hid e
              have t1 : ((q[0].toNat : Int) == 1) = true := by simp; omega
              have hes : (q.extract 1 q.size).size = q.size - 1 := by rw [ByteArray.size_extract]; omega
              have HES := Lib.hid hes
              have g1 : (1 : Int) ≤ (q.size : Int) := by omega
              clear e ha0 ha1 hes
              go_wp2
              go_roundw
              case rel => exact ⟨_, acc, f', by rw [HES.out]; omega, rfl, by rw [HES.out]; omega, HE.out.symm, by rw [HES.out]; omega, HO.out, HB.out⟩
              case measure => simp only [HES.out]; omega
            · have t1 : ((q[0].toNat : Int) == 1) = false := by simp; omega
              by_cases h2 : q.size < 2
              · have e := go_fault f' acc q h0' _ _ _ (by decide) (fst_alone q (by omega) (by omega))
                rw [HG.out] at e
                have HE := Lib.hid e
                clear e
                go_wp2
                go_ret2
                rw [HE.out]; exact ⟨_, rfl, Row.nil _ _, HB.out⟩
              · have hq1 : 1 < q.size := by omega
                have g1 : (1 : Int) < (q.size : Int) := by omega
                have hb1 := q[1].toNat_lt
                by_cases hb : q[1].toNat < 2
                · have e := go_fault f' acc q h0' _ _ _ (by decide) (fst_form q (by omega) (by omega) hb)
                  rw [HG.out] at e
                  have HE := Lib.hid e
                  clear e
                  go_wp2
                  go_ret2
                  rw [HE.out]; exact ⟨_, rfl, Row.nil _ _, HB.out⟩
                · by_cases hn : q.size < q[1].toNat
                  · have e := go_fault f' acc q h0' _ _ _ (by decide) (fst_short q (by omega) (by omega) hb hn)
                    rw [HG.out] at e
                    have HE := Lib.hid e
                    clear e
                    go_wp2
                    go_ret2
                    rw [HE.out]; exact ⟨_, rfl, Row.nil _ _, HB.out⟩
                  · have e := go_item f' acc q h0' _ _ (fst_item q (by omega) (by omega) hb hn) (by simp only; omega)
                    rw [HG.out] at e
                    have HE := Lib.hid e
                    obtain ⟨n, hnn⟩ : ∃ n, n = q[1].toNat := ⟨_, rfl⟩
                    have hes : (q.extract n q.size).size = q.size - n := by rw [ByteArray.size_extract]; omega
                    have HES := Lib.hid hes
                    have q1 : (2 : Int) ≤ (q[1].toNat : Int) := by omega
                    have q2 : (q[1].toNat : Int) ≤ (q.size : Int) := by omega
                    have q3 : 2 ≤ q[1].toNat := by omega
                    have q4 : q[1].toNat ≤ q.size := by omega
                    have q5 : (0 : Int) ≤ (q[1].toNat : Int) := by omega
                    have HNN := Lib.hid hnn
                    clear e hes hnn
                    go_wp2
                    obtain ⟨kz, hkz⟩ : ∃ kz : Int, kz = (q[0].toNat : Int) := ⟨_, rfl⟩
                    obtain ⟨bz, hbz⟩ : ∃ bz, bz = q.extract 2 q[1].toNat := ⟨_, rfl⟩
                    have o3 := HO.out.alloc (.cells #[.int .i64 (q[0].toNat : Int), .string (q.extract 2 q[1].toNat)] 24)
                    have HO3 := Lib.hid (show ∀ V : World, V.heap = (wr.alloc (.cells #[.int .i64 (q[0].toNat : Int), .string (q.extract 2 q[1].toNat)] 24)).heap → V.ownsRow w.heap.size 24 2 (.slice vp acc.length vc) acc.length (cellsOf acc) by
                      intro V hV; unfold World.ownsRow at o3 ⊢; rw [hV]; exact o3)
                    have HC3 := Lib.hid (show ∀ V : World, V.heap = (wr.alloc (.cells #[.int .i64 (q[0].toNat : Int), .string (q.extract 2 q[1].toNat)] 24)).heap → ∀ j u, [Value.int .i64 (q[0].toNat : Int), .string (q.extract 2 q[1].toNat)][j]? = some u → V.cell? ((⟨wr.heap.size, 0, none⟩ : Addr).add j) = some u by
                      intro V hV
                      exact World.news_of_block (cs := #[.int .i64 (q[0].toNat : Int), .string (q.extract 2 q[1].toNat)]) (t := 24) (fr := (0, 0)) (by rw [hV]; exact heap_alloc_new wr _))
                    have HZ3 := Lib.hid (show ∀ V : World, V.heap = (wr.alloc (.cells #[.int .i64 (q[0].toNat : Int), .string (q.extract 2 q[1].toNat)] 24)).heap → V.heap.size = wr.heap.size + 1 by intro V hV; rw [hV]; simp)
                    have HL3 := Lib.hid (show ∀ V : World, V.heap = (wr.alloc (.cells #[.int .i64 (q[0].toNat : Int), .string (q.extract 2 q[1].toNat)] 24)).heap → w.heap.size ≤ V.heap.size by intro V hV; rw [hV]; simp; omega)
                    have HM63 : Hid (acc.length + 1 ≤ maxLen) := Lib.hid (by unfold maxLen; omega)
                    have HM24 : Hid ((acc.length + 1) * 24 ≤ 140737488355328) := Lib.hid (by omega)
                    clear o3 hkz hbz
                    have ew : IntKind.i64.wrap (q[0].toNat : Int) = (q[0].toNat : Int) := IntWalk.i64_in _ (by omega)
                    go_region_held3 (fun _ => True) (trivial)
                      ((refine step_append_lies _ rfl (.tmp 37) (.tmp 45) 22 rfl w.heap.size 24 i0 (.agg #[.int .i64 0, .string ⟨#[]⟩]) 2 24 Try.underlying22 HI.out HZ0.out HZ1.out HZ2.out rfl (by decide) (.slice vp acc.length vc) acc.length (cellsOf acc) (by simp [Act.eval]) (HO3.out _ rfl) ⟨wr.heap.size, 0, none⟩ 1 1 [.int .i64 (q[0].toNat : Int), .string (q.extract 2 q[1].toNat)] (by simp [Act.eval]) rfl (HC3.out _ rfl) (by simp [Value.oneCell']) (by decide) HM63.out HM24.out (HL3.out _ rfl) (wr.heap.size + 1) (HZ3.out _ rfl) ?_; intro g5 cap5 w5 hown5 hgrow5 hat5 hlt5; have HO5 := Lib.hid hown5; have HB5 := Lib.hid (Below.grown (below_more HB.out (.cells #[.int .i64 (q[0].toNat : Int), .string (q.extract 2 q[1].toNat)] 24)).drew hgrow5 (below_more HB.out _).size (own_base HO.out)); clear hown5 hgrow5 hat5 hlt5))
                    go_wp2
                    go_roundw
                    case rel =>
                      have hnn := HNN.out
                      rw [← HNN.out]
                      exact ⟨_, acc ++ [((q[0].toNat : Int), q.extract 2 q[1].toNat)], f', by rw [HES.out]; omega, rfl, by rw [HES.out]; omega, by rw [HNN.out]; exact HE.out.symm, by rw [HES.out, List.length_append, HNN.out]; simp; omega, by rw [cellsOf_append, List.length_append]; exact HO5.out, HB5.out⟩
                    case measure => have hnn := HNN.out; rw [← HNN.out]; simp only [HES.out]; omega
    · have e : R = ([], 5) := by rw [← h]; unfold read; rw [if_neg h40, if_pos h4]
      subst e
      have h4b : ((s.size : Int) % 4 != 0) = true := by simp; omega
      clear h h4
      go_enter Try.func14, Try.ntmps14
      go_wp2
      go_ret2
      exact ⟨_, rfl, Row.nil _ _, Below.refl _ _⟩
end Go.Proofs.Ytlmbccgldigihaa
