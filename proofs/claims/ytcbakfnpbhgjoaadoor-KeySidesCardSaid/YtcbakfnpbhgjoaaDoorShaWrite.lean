/-
  What Write does to a hash, by its walk: what was written, with the text behind it.
-/
import Derived.Test.YtcbakfnpbhgjoaaDoorShaPad
import Derived.StillTailTactics
namespace Go.Proofs.YtcbakfnpbhgjoaaDoor
open Go.ChangeShapes Go.WideShapes Go.ChangeAt Go.RowKit
set_option linter.unusedVariables false

theorem block_len : Tryd.prog.arrayLen 95 = 64 := by kernel_rfl
theorem block_elem (w : World) : (sizeOf (Tryd.prog.elem 95)).run Tryd.prog w = .ok 1 w := by kernel_rfl
theorem rest_slice (w : World) (g k : Nat) (hk : k < 64) :
    (Instr.sliceAt 95 (.pointer (some ⟨g, 8, none⟩)) (some (.int .u64 (k : Int))) none none).run Tryd.prog w = .ok (.slice (some ⟨g, 8 + k, none⟩) (64 - k) (64 - k)) w := by
  rw [run_sliceAt_array_l w 95 ⟨g, 8, none⟩ block_under .u64 k (by omega) (by rw [block_len]; omega), block_elem]
  unfold slicedAt
  simp only [Result.andThen_ok, Int.toNat_natCast, Nat.mul_one, block_len]
  rw [if_neg (by omega), add_at]

theorem Write_nil (s : ByteArray) (w : World) :
    Calls Tryd.prog 46 #[.pointer none, .string s] w fun e w' => e = .returned (.tuple #[]) ∧ w = w' := by
  go_enter Tryd.func46, Tryd.ntmps46
  go_wp2
  refine bodyPost_ret (results_none rfl _ _ _) rfl ⟨rfl, rfl⟩

theorem only_setRow {a w : World} {g : Nat} (h : a.grownBy w (some g)) (cs : Array Value) : a.grownBy (w.setRow g cs) (some g) :=
  h.trans ⟨rfl, rfl, rfl, by simp, fun k _ hk => setRow_other w g k cs fun e => hk (by rw [e])⟩

/-- How long a text is. -/
def strLen : Value → Nat
  | .string r => r.size
  | _ => 0

/-- Where Write stands: what is left of its text. -/
def Wrt (g : Nat) (old : List UInt8) (s : ByteArray) (w W : World) (r : ByteArray) : Prop :=
  ∃ done : List UInt8, s.data.toList = done ++ r.data.toList ∧ Hsh W g (old ++ done) ∧ w.grownBy W (some g)
/-- The same, of the variable that holds it. -/
def WrtAt (g : Nat) (old : List UInt8) (s : ByteArray) (w : World) (x : Value) (W : World) : Prop := ∃ r : ByteArray, x = .string r ∧ Wrt g old s w W r

set_option maxHeartbeats 1000000 in
set_option maxRecDepth 100000 in
theorem Write_any (g : Nat) (old : List UInt8) (s : ByteArray) (w : World) (hg : 1 < g) (hz : old.length + s.size < 1152921504606846976) (ht : Tbl w) (h : Hsh w g old) :
    Calls Tryd.prog 46 #[.pointer (some ⟨g, 0, none⟩), .string s] w fun e w' => e = .returned (.tuple #[]) ∧ Hsh w' g (old ++ s.data.toList) ∧ w.grownBy w' (some g) := by
  have HT := Lib.hid ht
  have HH := Lib.hid h
  clear ht h
  go_enter Tryd.func46, Tryd.ntmps46
  go_wp2
  go_loopw [1] (fun x wr => WrtAt g old s w x wr) (fun x _ => strLen x)
  case atStart => exact ⟨s, rfl, [], rfl, by simpa using HH.out, World.grownBy.refl _ _⟩
  case round =>
    clear HH
    obtain ⟨r, rfl, done, hd, hH, hG⟩ := hrel
    by_cases hr : r.size = 0
    · have e : r = ⟨#[]⟩ := txt_ext (by rw [List.length_eq_zero_iff.1 (show r.data.toList.length = 0 by rw [len_data]; exact hr)])
      subst e
      have hd' : s.data.toList = done := by simpa using hd
      rw [← hd'] at hH
      have HH := Lib.hid hH
      have HG := Lib.hid hG
      clear hH hG hd hd' hr
      go_wp2
      go_end0
      exact ⟨rfl, HH.out, HG.out⟩
    · obtain ⟨rest, hl, htk, hB⟩ := hH
      obtain ⟨cur, hcur⟩ : ∃ cur, cur = old ++ done := ⟨_, rfl⟩
      rw [← hcur] at htk hB
      obtain ⟨k, hk⟩ : ∃ k, k = cur.length % 64 := ⟨_, rfl⟩
      have hk64 : k < 64 := by omega
      obtain ⟨m, hm⟩ : ∃ m, m = min r.size (64 - k) := ⟨_, rfl⟩
      have hm1 : 1 ≤ m := by omega
      have hlen : (cur.length : Int) < 1152921504606846976 := by
        have e1 : cur.length = old.length + done.length := by rw [hcur, List.length_append]
        have e2 : s.size = done.length + r.size := by rw [← len_data s, hd, List.length_append, len_data]
        omega
      obtain ⟨S, hS⟩ : ∃ S, S = blks (cur.length / 64) ws0 cur := ⟨_, rfl⟩
      rw [← hS] at hB
      obtain ⟨n, hn⟩ : ∃ n, n = cur.length := ⟨_, rfl⟩
      obtain ⟨p, hp⟩ : ∃ p, p = r.data.toList.take m := ⟨_, rfl⟩
      have hpl : p.length = m := by rw [hp, List.length_take, len_data]; omega
      rw [← hn] at hB hlen
      obtain ⟨row, hrow⟩ : ∃ row, row = hcs S rest n := ⟨_, rfl⟩
      rw [← hrow] at hB
      have hrz : row.size = 73 := by rw [hrow, hcs_size, hl]
      have hne : r.toList.isEmpty = false := by
        rw [List.isEmpty_eq_false_iff, ByteArray.toList_eq]; intro e; apply hr; rw [← len_data, e]; rfl
      have c72 : wr.cell? ⟨g, 72, none⟩ = some (.int .u64 (n : Int)) := by rw [hB.cell 72, hrow]; exact hcs_cell S rest n hl
      have hsl := fun W => rest_slice W g k hk64
      rw [show (k : Int) = (n : Int).tmod 64 by rw [Int.tmod_eq_emod_of_nonneg (by omega)]; omega] at hsl
      have hcp := copy_str (P := Tryd.prog) wr.drew 35 9 3 5 g (8 + k) (64 - k) (64 - k) m r row 97 Tryd.underlying35 (by kernel_rfl) hB.drew hm (by omega)
      rw [← hp] at hcp
      obtain ⟨nrow, hnrow⟩ : ∃ nrow, nrow = (row.toList.take (8 + k) ++ (byv p).toList ++ row.toList.drop (8 + k + m)).toArray := ⟨_, rfl⟩
      rw [← hnrow] at hcp
      have HD := Lib.hid hd
      have HCUR := Lib.hid hcur
      have HTK := Lib.hid htk
      have HB := Lib.hid hB
      have HK := Lib.hid hk
      have hmr : (m : Int) ≤ r.size := by omega
      have HM := Lib.hid hm
      have HSE := Lib.hid hS
      have HNE := Lib.hid hn
      have HPE := Lib.hid hp
      have HROW := Lib.hid hrow
      have HCP := Lib.hid hcp
      have HNROW := Lib.hid hnrow
      have HG := Lib.hid hG
      have HRZ := Lib.hid hrz
      have HLEN := Lib.hid hlen
      have HPL := Lib.hid hpl
      clear hd hcur htk hB hk hm hS hn hp hrow hcp hnrow hG hrz hr hlen hpl
      go_wp2_with fail
      refine wp_region_still_tail 10 (by kernel_rfl) (by kernel_rfl) ?_
      simp only [List.take_succ_cons, List.take_zero, List.drop_succ_cons, List.drop_zero]
      change wpStill _ _ wr.drew _ _ _
      repeat still_step
      refine wpStill_nil ?_
      change wpList _ _ _ _ _ wr.drew
      refine wpList_copy_to rfl (.tmp 17) (.tmp 18) 35 9 3 rfl rfl _ _ (.int .i64 (m : Int)) rfl rfl HCP.out ?_
      have HN1 := Lib.hid (show Blk (wr.drew.setRow g nrow) g 97 nrow from setRow_heap _ _ _ _ _ _ HB.out.drew)
      have HG1 := Lib.hid (show w.grownBy (wr.drew.setRow g nrow) (some g) from only_setRow (only_drew HG.out) nrow)
      obtain ⟨W1, hW1⟩ : ∃ W1, W1 = wr.drew.setRow g nrow := ⟨_, rfl⟩
      rw [← hW1] at HN1 HG1 ⊢
      clear hW1 HCP HG HB hsl c72 hne
      obtain ⟨rest', hrest'⟩ : ∃ rest', rest' = rest.take k ++ p ++ rest.drop (k + m) := ⟨_, rfl⟩
      have hnr : nrow = hcs S rest' n := by rw [HNROW.out, HROW.out, hcs_setRest S rest p n k m hl (by have := HM.out; omega) HPL.out, hrest']
      have hl' : rest'.length = 64 := by
        have := HM.out; have := HPL.out
        rw [hrest']; simp [hl]; omega
      have c1 : W1.cell? ⟨g, 72, none⟩ = some (.int .u64 (n : Int)) := by rw [HN1.out.cell 72, hnr]; exact hcs_cell S rest' n hl'
      have f1 : W1.frozen? ⟨g, 72, none⟩ = false := HN1.out.frozen 72
      obtain ⟨n', hn'⟩ : ∃ n', n' = n + m := ⟨_, rfl⟩
      have hml : m ≤ 64 := by have := HM.out; omega
      have hnl : (n : Int) < 1152921504606846976 := HLEN.out
      have hw1 : IntKind.u64.wrap (m : Int) = m := by rw [IntKind.wrap_u64]; omega
      have hw2 : IntKind.u64.wrap ((n : Int) + m) = (n' : Int) := by rw [IntKind.wrap_u64]; omega
      have hrl : (r.extract m r.size).data.toList = r.data.toList.drop m := by
        rw [ByteArray.data_extract, Array.toList_extract, List.extract, List.take_of_length_le (by rw [List.length_drop, len_data]; omega)]
      have HRL := Lib.hid hrl
      have HLS := Lib.hid (show strLen (.string (r.extract m r.size)) < strLen (.string r) by
        show (r.extract m r.size).size < r.size
        rw [← len_data (r.extract m r.size), hrl, List.length_drop, len_data]; omega)
      have HHN := Lib.hid hn'
      have HNR := Lib.hid hnr
      have HRE := Lib.hid hrest'
      have HL' := Lib.hid hl'
      have HL := Lib.hid hl
      have HN2 := Lib.hid (show Blk (W1.setCell ⟨g, 72, none⟩ (.int .u64 (n' : Int))) g 97 (hcs S rest' n') by have := HN1.out.set_ 72 (.int .u64 (n' : Int)); rwa [hnr, hcs_setSize S rest' n n' hl'] at this)
      have HG2 := Lib.hid (only_setCell HG1.out (p := ⟨g, 72, none⟩) rfl (.int .u64 (n' : Int)))
      clear hn' hml hnl hnr hrest' hl' hrl HN1 HG1 hl
      by_cases hq : n' % 64 = 0
      · have hq1 : (n' : Int).tmod 64 = 0 := by rw [Int.tmod_eq_emod_of_nonneg (by omega)]; omega
        have HQ := Lib.hid hq
        clear hq
        obtain ⟨W2, hW2⟩ : ∃ W2, W2 = W1.setCell ⟨g, 72, none⟩ (.int .u64 (n' : Int)) := ⟨_, rfl⟩
        rw [← hW2] at HN2 HG2
        have HW2 := Lib.hid hW2
        clear hW2
        go_wp2_with fail
        rw [← HW2.out]
        clear HW2 c1 f1 hw1 hw2 hq1
        have HND := Lib.hid (show Blk W2.drew g 97 (hcs S rest' n') from HN2.out.drew)
        have HTD := Lib.hid ((HT.out.grown HG2.out hg).drewN 1)
        have HBZ := Lib.hid (show (Tryd.prog.info? 95).map (·.size) = some (byv rest').size by rw [byv_size, HL'.out]; exact block_size)
        refine wp_region_noPanic (wp_region_any (by kernel_rfl) ?_)
        change wpAny _ _ _ _ 13 _ _ W2.drew
        refine any_free (i := 0) (.pointer (some ⟨g, 0, none⟩)) rfl (by kernel_rfl) (by kernel_rfl) (by kernel_rfl) (by kernel_rfl) (fun _ => by kernel_rfl) ?_
        refine any_free (i := 1) (.pointer (some ⟨g, 0, none⟩)) rfl (by kernel_rfl) (by kernel_rfl) (by kernel_rfl) (by kernel_rfl) (fun _ => by kernel_rfl) ?_
        refine any_free (i := 2) (.pointer (some ⟨g, 0, none⟩)) rfl (by kernel_rfl) (by kernel_rfl) (by kernel_rfl) (by kernel_rfl) (fun _ => by kernel_rfl) ?_
        refine any_free (i := 3) (.pointer (some ⟨g, 0, none⟩)) rfl (by kernel_rfl) (by kernel_rfl) (by kernel_rfl) (by kernel_rfl) (fun _ => by kernel_rfl) ?_
        refine any_free (i := 5) (.pointer (some ⟨g, 0, none⟩)) rfl (by kernel_rfl) (by kernel_rfl) (by kernel_rfl) (by kernel_rfl) (fun _ => by kernel_rfl) ?_
        refine any_free (i := 6) (.pointer (some ⟨g, 0, none⟩)) rfl (by kernel_rfl) (by kernel_rfl) (by kernel_rfl) (by kernel_rfl) (fun _ => by kernel_rfl) ?_
        refine any_free (i := 7) (.pointer (some ⟨g, 8, none⟩)) rfl (by kernel_rfl) (by kernel_rfl) (by kernel_rfl) (by kernel_rfl) (fun _ => by kernel_rfl) ?_
        refine any_two (i := 4) (j := 8) (.agg (wsv S)) (.agg (byv rest')) rfl rfl (by decide) (by kernel_rfl) (by kernel_rfl) (by kernel_rfl) (by kernel_rfl) (by kernel_rfl) (by kernel_rfl) (by kernel_rfl) (exec_part 93 (.tmp 41) (by kernel_rfl) g 0 (by kernel_rfl) 97 (hcs S rest' n') (wsv S) _ HND.out (fun j hj => hcs_words S rest' n' j hj) eight_under rfl eight_size) (exec_part 95 (.tmp 45) (by kernel_rfl) g 8 (by kernel_rfl) 97 (hcs S rest' n') (byv rest') _ HND.out (fun j hj => hcs_rest S rest' n' j hj) block_under rfl HBZ.out) (exec_part 93 (.tmp 41) (by kernel_rfl) g 0 (by kernel_rfl) 97 (hcs S rest' n') (wsv S) _ HND.out (fun j hj => hcs_words S rest' n' j hj) eight_under rfl eight_size) (exec_part 95 (.tmp 45) (by kernel_rfl) g 8 (by kernel_rfl) 97 (hcs S rest' n') (byv rest') _ HND.out (fun j hj => hcs_rest S rest' n' j hj) block_under rfl HBZ.out) (by kernel_rfl) ?_
        refine any_rest (k := 9) rfl (by kernel_rfl) ?_
        simp only [List.drop_succ_cons, List.drop_zero]
        change wpList _ _ (NoPanic _) _ _ W2.drew
        go_wp2_with fail
        refine (process_any S rest' _ (by rw [HSE.out]; exact blks_ok _ ws0_ok _) HL'.out HTD.out).mono ?_
        rintro e W3 ⟨rfl, bel⟩
        have hlt2 : g < W2.drew.heap.size := HND.out.lt
        have HN3 := Lib.hid (show Blk W3 g 97 (hcs S rest' n') from HND.out.below bel hlt2)
        have HG3 := Lib.hid (show w.grownBy W3 (some g) from (only_drew HG2.out).trans (only_of_below bel _))
        obtain ⟨cs, hcs1⟩ : ∃ cs, cs = wsv (cmp S rest') := ⟨_, rfl⟩
        obtain ⟨nr, hnr⟩ : ∃ nr, nr = hcs (cmp S rest') rest' n' := ⟨_, rfl⟩
        have HCZ := Lib.hid (show (Tryd.prog.info? 93).map (·.size) = some cs.size by rw [hcs1]; exact eight_size)
        have HC0 := Lib.hid (show 0 + cs.size ≤ (hcs S rest' n').size by rw [hcs1, hcs_size, HL'.out, wsv_size]; decide)
        have HC1 := Lib.hid (show cs.all (·.oneCell') = true by rw [hcs1]; exact wsv_one _)
        have HC2 := Lib.hid (show nr = ((hcs S rest' n').toList.take 0 ++ cs.toList ++ (hcs S rest' n').toList.drop (0 + cs.size)).toArray by rw [hcs1, hnr, hcs_setWords])
        have HN4 := Lib.hid (show Blk (W3.setRow g nr) g 97 nr from setRow_heap _ _ _ _ _ _ HN3.out)
        have HG4 := Lib.hid (only_setRow HG3.out nr)
        rw [← hcs1]
        have HNRE := Lib.hid hnr
        clear bel hlt2 hcs1 hnr
        go_wp2_with (refine wpList_put_part rfl 93 (.tmp 49) (.tmp 47) rfl g 0 cs rfl rfl 97 _ nr HN3.out HCZ.out HC0.out HC1.out HC2.out ?_)
        refine NoPanic.normal ?_
        go_wp2_with fail
        refine ⟨?_, HLS.out⟩
        obtain ⟨q1, q2, q3⟩ := fill_whole cur p rest HL.out HTK.out (by have := HQ.out; have := HHN.out; have := HNE.out; have := HK.out; have := HM.out; rw [HPL.out]; omega)
        refine ⟨_, rfl, done ++ p, ?_, ⟨rest', HL'.out, ?_, ?_⟩, HG4.out⟩
        · rw [HD.out, HRL.out, HPE.out, List.append_assoc, List.take_append_drop]
        · rw [HRE.out, ← List.append_assoc, ← HCUR.out, HK.out, ← HPL.out]; exact q2
        · have h4 := HN4.out
          have e : rest.take (cur.length % 64) ++ p ++ rest.drop (cur.length % 64 + p.length) = rest' := by rw [HRE.out, HK.out, HPL.out]
          rw [e, ← HSE.out] at q3
          rw [← List.append_assoc, ← HCUR.out, q3, show (cur ++ p).length = n' by rw [List.length_append, HPL.out, HHN.out, HNE.out], ← HNRE.out]
          exact h4
      · have hq1 : ((n' : Int) % 64 == 0) = false := by simp; omega
        have HQ := Lib.hid hq
        clear hq
        go_wp2_with fail
        refine ⟨?_, HLS.out⟩
        obtain ⟨q1, q2, q3, q4⟩ := fill_more cur p rest HL.out HTK.out (by have := HQ.out; have := HHN.out; have := HNE.out; have := HK.out; have := HM.out; rw [HPL.out]; omega)
        refine ⟨_, rfl, done ++ p, ?_, ⟨rest', HL'.out, ?_, ?_⟩, HG2.out⟩
        · rw [HD.out, HRL.out, HPE.out, List.append_assoc, List.take_append_drop]
        · rw [HRE.out, ← List.append_assoc, ← HCUR.out, HK.out, ← HPL.out]; exact q2
        · have := HN2.out
          rwa [← List.append_assoc, ← HCUR.out, q4, ← HSE.out, show (cur ++ p).length = n' by rw [List.length_append, HPL.out, HHN.out, HNE.out]]
end Go.Proofs.YtcbakfnpbhgjoaaDoor
