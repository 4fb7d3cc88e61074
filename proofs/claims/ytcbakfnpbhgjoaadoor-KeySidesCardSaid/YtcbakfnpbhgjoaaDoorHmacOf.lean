/-
  What ended, under's closure, under and Of answer, by their walks: the code of a text under a key.
-/
import Derived.Test.YtcbakfnpbhgjoaaDoorHmacBegun
import Derived.Test.YtcbakfnpbhgjoaaDoorShaLoads
import Derived.Test.YtcbakfnpbhgjoaaDoorWalkOps
import Derived.Test.YtcbakfnpbhgjoaaDoorShaRefS
import Derived.Deep.DeepCutAuto
namespace Go.Proofs.YtcbakfnpbhgjoaaDoor
open Go.ChangeShapes Go.WideShapes Go.ChangeAt Go.RowKit
set_option linter.unusedVariables false

/-- What a walk asks of a digest's cells. -/
structure DOk (D : Array Value) : Prop where
  info : (Tryd.prog.info? 32).map (·.size) = some D.size
  size : D.size = 32
  one : D.all (·.oneCell') = true
theorem dok (l : List UInt8) (h : l.length = 32) : DOk (byv l) := ⟨by rw [byv_size, h]; exact digest_size, by rw [byv_size, h], byv_one _⟩
theorem dok_zero : DOk (byv (List.replicate 32 0)) := dok _ (List.length_replicate ..)

set_option maxRecDepth 100000 in
theorem ended_any (g : Nat) (l : List UInt8) (s : ByteArray) (w : World) (ht : Tbl w) (hz : l.length + s.size < 1152921504606846000) (hh : Hsh w g l) (D : Array Value) (hD : D = byv (digest (l ++ s.data.toList))) :
    Calls Tryd.prog 75 #[.pointer (some ⟨g, 0, none⟩), .string s] w fun e w' => e = .returned (.agg D) ∧ Below w.heap.size w w' := by
  obtain ⟨z32, hz32⟩ : ∃ z32, z32 = byv (List.replicate 32 0) := ⟨_, rfl⟩
  have hdz := digest_zero
  rw [← hz32] at hdz
  have hzk : DOk z32 := by rw [hz32]; exact dok_zero
  have hdk : DOk D := by rw [hD]; exact dok _ (digest_length _)
  have HZK := Lib.hid hzk
  have HDK := Lib.hid hdk
  have h1 := ht.lt
  have hgl := hh.lt
  have s1 : (w.alloc (.cells z32 32)).heap.size = w.heap.size + 1 := World.size_alloc _ _
  have HT1 := Lib.hid (ht.alloc (.cells z32 32))
  have HR1 := Lib.hid (Blk.new w 32 z32)
  have HB1 := Lib.hid ((Below.refl w.heap.size w).alloc (Nat.le_refl _) (.cells z32 32))
  have HH1 := Lib.hid (hh.below HB1.out hgl)
  have HD := Lib.hid hD
  clear hz32 ht hh hD hzk hdk
  go_enter Tryd.func75, Tryd.ntmps75
  go_wp2_with fail
  refine (Copy_any g l _ HH1.out).mono ?_
  rintro e W2 ⟨rfl, h2, b2⟩
  rw [s1] at h2 b2 ⊢
  have HT2 := Lib.hid (HT1.out.under b2 (by omega))
  have HR2 := Lib.hid (HR1.out.below b2 (by omega))
  have HB2 := Lib.hid (HB1.out.trans (b2.mono (by omega)))
  have HH2 := Lib.hid h2
  clear HT1 HR1 HB1 HH1 h2 b2 s1
  go_wp2_with fail
  refine (Write_any (w.heap.size + 1) l s W2 (by omega) (by omega) HT2.out HH2.out).mono ?_
  rintro e W3 ⟨rfl, h3, g3⟩
  have HT3 := Lib.hid (HT2.out.grown g3 (by omega))
  have HR3 := Lib.hid (HR2.out.grown g3 (by simp))
  have HB3 := Lib.hid (HB2.out.trans (below_of_only g3 (by omega) (by have := HB2.out.size; omega)))
  have HH3 := Lib.hid h3
  clear HT2 HR2 HB2 HH2 h3 g3
  go_wp2_with fail
  refine (DigestL (w.heap.size + 1) _ D W3 HD.out HT3.out (by rw [List.length_append, len_data]; exact hz) HH3.out).mono ?_
  rintro e W4 ⟨rfl, b4⟩
  have HR4 := Lib.hid (HR3.out.below b4 HR3.out.lt)
  have HB4 := Lib.hid (HB3.out.trans (b4.mono HB3.out.size))
  have HDO := Lib.hid (show z32.size = D.size by rw [HZK.out.size, HDK.out.size])
  have HRW := Lib.hid (show Blk (W4.setRow w.heap.size D) w.heap.size 32 D from setRow_heap _ _ _ _ _ _ HR4.out)
  have HBW := Lib.hid (below_setRow HB4.out (Nat.le_refl _) D)
  clear b4 HR3 HB3 HT3 HH3
  go_wp2_with (refine wpList_store_row rfl 32 (.tmp 4) (.tmp 12) rfl w.heap.size D rfl rfl 32 z32 HR4.out HDK.out.info HDO.out HDK.out.one ?_)
  refine bodyPost_ret (results_cell_row rfl _ _ w.heap.size 32 D (0, 0) _ rfl HRW.out digest_under rfl HDK.out.info) rfl ⟨rfl, HBW.out⟩

set_option maxRecDepth 100000 in
theorem under_any (key : ByteArray) (w : World) (ht : Tbl w) (hz : key.size < 1152921504606846000) :
    Calls Tryd.prog 51 #[.string key] w fun e w' => ∃ g1 g2 b1 b2 : Nat, e = .returned (.func (.func 74) #[] #[.pointer (some ⟨b1, 0, none⟩), .pointer (some ⟨b2, 0, none⟩)]) ∧ 
      Hsh w' g1 (mixd (kb key.data.toList) 0x36) ∧ Hsh w' g2 (mixd (kb key.data.toList) 0x5c) ∧ w'.cell? ⟨b1, 0, none⟩ = some (.pointer (some ⟨g1, 0, none⟩)) ∧ w'.cell? ⟨b2, 0, none⟩ = some (.pointer (some ⟨g2, 0, none⟩)) ∧ Below w.heap.size w w' := by
  have HT := Lib.hid ht
  clear ht
  go_enter Tryd.func51, Tryd.ntmps51
  go_upto_if 7 with fail
  go_cut [0] (fun s wx => ∃ K : ByteArray, s = .string K ∧ K.data.toList = kb key.data.toList ∧ Tbl wx ∧ Below w.heap.size w wx)
  case first =>
    by_cases h64 : 64 < key.size
    · have h64' : (key.size : Int) > 64 := by omega
      obtain ⟨D, hD⟩ : ∃ D, D = digest key.data.toList := ⟨_, rfl⟩
      have hd32 : D.length = 32 := by rw [hD, digest_length]
      have HD := Lib.hid hD
      have HDV := Lib.hid (show byv D = byv (digest key.data.toList) by rw [hD])
      have HKB := Lib.hid (show kb key.data.toList = D by unfold kb; rw [if_pos (by rw [len_data]; exact h64), hD])
      clear hD
      go_wp2_with fail
      refine (SumL key _ (byv D) w rfl HDV.out HT.out (by rw [len_data]; exact hz)).mono ?_
      rintro e w1 ⟨rfl, bb1⟩
      go_wp2_with fail
      refine (Left_any D hd32 32 (by decide) (by decide) w1).mono ?_
      rintro e w2 ⟨rfl, bb2⟩
      have HT2 := Lib.hid ((HT.out.below bb1).below bb2)
      have HB2 := Lib.hid (bb1.trans (bb2.mono bb1.size))
      have HTK := Lib.hid (show D.take (cl 32) = D from List.take_of_length_le (by rw [hd32]; decide))
      clear bb1 bb2 HT
      rw [HTK.out]
      go_wp2_with fail
      go_meet
      exact ⟨_, rfl, HKB.out.symm, HT2.out, HB2.out⟩
    · have h64' : ¬ ((key.size : Int) > 64) := by omega
      go_wp2_with fail
      go_meet
      exact ⟨key, rfl, (by unfold kb; rw [if_neg (by rw [len_data]; exact h64)]), HT.out, Below.refl _ _⟩
  case rest =>
    obtain ⟨K, rfl, hK, ht1, hb1⟩ := hcut
    have hks : K.size ≤ 64 := by rw [← len_data, hK]; exact kb_le _
    have HK := Lib.hid hK
    have HT1 := Lib.hid ht1
    have HB1 := Lib.hid hb1
    clear hK ht1 hb1 HT
    go_wp2_with fail
    refine (begun_any K 0x36 hks wc HT1.out).mono ?_
    rintro e w2 ⟨g1, rfl, hg1, hh1, b2⟩
    rw [HK.out] at hh1
    have HH2 := Lib.hid hh1
    have HT2 := Lib.hid (HT1.out.below b2)
    have HB2 := Lib.hid (HB1.out.trans (b2.mono HB1.out.size))
    clear hh1 b2 hg1 HT1 HB1
    go_wp2_with fail
    refine (begun_any K 0x5c hks w2 HT2.out).mono ?_
    rintro e w3 ⟨g2, rfl, hg2, hh2, b3⟩
    rw [HK.out] at hh2
    have HH3 := Lib.hid (HH2.out.below b3 HH2.out.lt)
    have HH4 := Lib.hid hh2
    have HB3 := Lib.hid (HB2.out.trans (b3.mono HB2.out.size))
    clear hh2 b3 hg2 HT2 HB2 HH2
    have bA : Below w3.heap.size w3 ((w3.alloc (.cells #[.pointer (some ⟨g1, 0, none⟩)] 64)).alloc (.cells #[.pointer (some ⟨g2, 0, none⟩)] 64)) := ((Below.refl _ w3).alloc (Nat.le_refl _) _).alloc (by rw [World.size_alloc]; omega) _
    have k1 := ((Blk.new w3 64 #[.pointer (some ⟨g1, 0, none⟩)]).alloc (.cells #[.pointer (some ⟨g2, 0, none⟩)] 64)).cell 0
    have k2 := (Blk.new (w3.alloc (.cells #[.pointer (some ⟨g1, 0, none⟩)] 64)) 64 #[.pointer (some ⟨g2, 0, none⟩)]).cell 0
    rw [World.size_alloc] at k2
    have HE := Lib.hid (And.intro (HH3.out.below bA HH3.out.lt) (And.intro (HH4.out.below bA HH4.out.lt) (And.intro k1 (And.intro k2 (HB3.out.trans (bA.mono HB3.out.size))))))
    clear bA k1 k2
    go_wp2_with fail
    go_ret; exact ⟨g1, g2, _, _, rfl, HE.out⟩

/-- What the closure of under holds: hashes to which the key's blocks were written. -/
structure Und (w : World) (k : List UInt8) (b1 b2 : Nat) : Prop where
  h1 : ∃ g, w.cell? ⟨b1, 0, none⟩ = some (.pointer (some ⟨g, 0, none⟩)) ∧ Hsh w g (mixd k 0x36)
  h2 : ∃ g, w.cell? ⟨b2, 0, none⟩ = some (.pointer (some ⟨g, 0, none⟩)) ∧ Hsh w g (mixd k 0x5c)
theorem Und.below {w w' : World} {k : List UInt8} {b1 b2 : Nat} (h : Und w k b1 b2) (b : Below w.heap.size w w') : Und w' k b1 b2 := by
  obtain ⟨⟨g1, c1, h1⟩, ⟨g2, c2, h2⟩⟩ := h
  exact ⟨⟨g1, (World.cell?_of_block (a := ⟨b1, 0, none⟩) (b.block b1 (World.block_lt_of_cell? w _ c1))).trans c1, h1.below b h1.lt⟩, ⟨g2, (World.cell?_of_block (a := ⟨b2, 0, none⟩) (b.block b2 (World.block_lt_of_cell? w _ c2))).trans c2, h2.below b h2.lt⟩⟩

set_option maxRecDepth 100000 in
set_option maxHeartbeats 1000000 in
theorem closure_any (k : List UInt8) (text : ByteArray) (b1 b2 : Nat) (D : Array Value) (hD : D = byv (digest (mixd k 0x5c ++ digest (mixd k 0x36 ++ text.data.toList)))) (w : World) (ht : Tbl w) (hu : Und w k b1 b2) (hx : text.size < 1152921504606000000) :
    Calls Tryd.prog 74 #[.string text, .pointer (some ⟨b1, 0, none⟩), .pointer (some ⟨b2, 0, none⟩)] w fun e w' => e = .returned (.agg D) ∧ Below w.heap.size w w' := by
  obtain ⟨z32, hz32⟩ : ∃ z32, z32 = byv (List.replicate 32 0) := ⟨_, rfl⟩
  have hdz := digest_zero
  rw [← hz32] at hdz
  have hzk : DOk z32 := by rw [hz32]; exact dok_zero
  have hdk : DOk D := by rw [hD]; exact dok _ (digest_length _)
  obtain ⟨I, hI⟩ : ∃ I, I = digest (mixd k 0x36 ++ text.data.toList) := ⟨_, rfl⟩
  have hil : I.length = 32 := by rw [hI, digest_length]
  have hik : DOk (byv I) := dok _ hil
  rw [← hI] at hD
  have HI := Lib.hid hI
  have HIK := Lib.hid hik
  have HZK := Lib.hid hzk
  have HDK := Lib.hid hdk
  have s1 : (w.alloc (.cells z32 32)).heap.size = w.heap.size + 1 := World.size_alloc _ _
  have hB1 := (Below.refl w.heap.size w).alloc (Nat.le_refl _) (.cells z32 32)
  have HT1 := Lib.hid (ht.alloc (.cells z32 32))
  have HR1 := Lib.hid (Blk.new w 32 z32)
  have HB1 := Lib.hid hB1
  obtain ⟨⟨g1, c1, hh1⟩, ⟨g2, c2, hh2⟩⟩ := hu.below hB1
  have hg1 : (w.alloc (.cells z32 32)).heap.size = w.heap.size + 1 := World.size_alloc _ _
  have HH1 := Lib.hid hh1
  have HH2 := Lib.hid hh2
  have HC2 := Lib.hid c2
  have HD := Lib.hid hD
  clear hz32 ht hu hD hzk hdk hB1 hh1 hh2 c2 hI hik hg1
  go_enter Tryd.func74, Tryd.ntmps74
  go_wp2_with fail
  refine (ended_any g1 _ text _ HT1.out (by rw [mixd_length]; omega) HH1.out (byv I) (by rw [HI.out])).mono ?_
  rintro e W2 ⟨rfl, bb2⟩
  have hs2 := bb2.size
  rw [s1] at bb2 hs2
  obtain ⟨A, hA⟩ : ∃ A, A = byv I := ⟨_, rfl⟩
  have HAK := Lib.hid (show DOk A by rw [hA]; exact HIK.out)
  have HA := Lib.hid hA
  rw [← hA]
  have HT2 := Lib.hid (HT1.out.under bb2 (by have := HT1.out.lt; omega))
  have HR2 := Lib.hid (HR1.out.below bb2 (by omega))
  have HB2 := Lib.hid (HB1.out.trans (bb2.mono (by omega)))
  have HH3 := Lib.hid (HH2.out.below bb2 (by have := HH2.out.lt; omega))
  have HC3 := Lib.hid (show W2.cell? ⟨b2, 0, none⟩ = some (.pointer (some ⟨g2, 0, none⟩)) from (World.cell?_of_block (a := ⟨b2, 0, none⟩) (bb2.block b2 (by have := World.block_lt_of_cell? _ _ HC2.out; rw [s1] at this; exact this))).trans HC2.out)
  obtain ⟨W3, hW3⟩ : ∃ W3, W3 = (W2.alloc (.cells z32 32)).setRow W2.heap.size A := ⟨_, rfl⟩
  have bA : Below W2.heap.size W2 W3 := by rw [hW3]; exact below_setRow ((Below.refl _ W2).alloc (Nat.le_refl _) _) (Nat.le_refl _) _
  have HN3 := Lib.hid (Blk.new W2 32 z32)
  have HA3 := Lib.hid (show Blk W3 W2.heap.size 32 A by rw [hW3]; exact setRow_heap _ _ _ _ _ _ HN3.out)
  have HAO := Lib.hid (show z32.size = A.size by rw [HZK.out.size, HAK.out.size])
  have HT4 := Lib.hid (HT2.out.below bA)
  have HR4 := Lib.hid (HR2.out.below bA HR2.out.lt)
  have HB4 := Lib.hid (HB2.out.trans (bA.mono HB2.out.size))
  have HH4 := Lib.hid (HH3.out.below bA HH3.out.lt)
  have HC4 := Lib.hid (show W3.cell? ⟨b2, 0, none⟩ = some (.pointer (some ⟨g2, 0, none⟩)) from (World.cell?_of_block (a := ⟨b2, 0, none⟩) (bA.block b2 (World.block_lt_of_cell? _ _ HC3.out))).trans HC3.out)
  have HW3 := Lib.hid hW3
  obtain ⟨ga, hga⟩ : ∃ ga, ga = W2.heap.size := ⟨_, rfl⟩
  have HGA := Lib.hid hga
  clear bb2 hA bA hW3 HT1 HR1 HB1 HH1 HH2 HC2 HT2 HR2 HB2 HH3 HC3 c1 hs2 hga s1
  go_wp2_with (refine wpList_store_row rfl 32 (.tmp 5) (.tmp 8) rfl W2.heap.size A rfl rfl 32 z32 HN3.out HAK.out.info HAO.out HAK.out.one ?_)
  rw [← HW3.out, ← HGA.out]
  rw [← HGA.out] at HA3
  obtain ⟨S, hS⟩ : ∃ S, S = txt I := ⟨_, rfl⟩
  have hSs : S.size = 32 := by rw [hS]; simpa [ByteArray.size] using hil
  have TL : ∀ W, Calls Tryd.prog 27 #[.agg A, .int .i64 32] W fun e w' => e = .returned (.string S) ∧ Below W.heap.size W w' := fun W => by
    have h := Left_any I hil 32 (by decide) (by decide) W
    rw [← HA.out, List.take_of_length_le (by rw [hil]; decide), ← hS] at h
    exact h
  have TE : ∀ W, Below W3.heap.size W3 W → Calls Tryd.prog 75 #[.pointer (some ⟨g2, 0, none⟩), .string S] W fun e w' => e = .returned (.agg D) ∧ Below W.heap.size W w' := fun W b =>
    ended_any g2 _ S W (HT4.out.below b) (by rw [mixd_length, hSs]; decide) (HH4.out.below b HH4.out.lt) D (by rw [HD.out, hS])
  have HDO := Lib.hid (show z32.size = D.size by rw [HZK.out.size, HDK.out.size])
  have FIN : ∀ W, Below W3.heap.size W3 W → Blk (W.setRow w.heap.size D) w.heap.size 32 D ∧ Below w.heap.size w (W.setRow w.heap.size D) := fun W b =>
    ⟨setRow_heap _ _ _ _ _ _ (HR4.out.below b HR4.out.lt), below_setRow (HB4.out.trans (b.mono HB4.out.size)) (Nat.le_refl _) D⟩
  clear hS hSs
  have BW : Below W3.heap.size W3 W3.drew := (Below.refl _ W3).drew
  refine walk_start 4 (fun W => Below W3.heap.size W3 W) (by kernel_rfl) (n := 5) rfl ?_
  obtain ⟨W9, hW9⟩ : ∃ W9, W9 = W3.drew := ⟨_, rfl⟩
  rw [← hW9] at BW ⊢
  clear hW9
  refine walk_free 0 (.pointer (some ⟨g2, 0, none⟩)) rfl (by kernel_rfl) (by kernel_rfl) (by kernel_rfl) (by kernel_rfl) (by kernel_rfl) (by kernel_rfl) BW (fun W b => ex_load 64 (.tmp 2) (by kernel_rfl) ⟨b2, 0, none⟩ (by kernel_rfl) (by kernel_rfl) ((World.cell?_of_block (a := ⟨b2, 0, none⟩) (b.block b2 (World.block_lt_of_cell? _ _ HC4.out))).trans HC4.out)) ?_
  refine walk_free 1 (.agg A) rfl (by kernel_rfl) (by kernel_rfl) (by kernel_rfl) (by kernel_rfl) (by kernel_rfl) (by kernel_rfl) BW (fun W b => exec_row_ 32 (.tmp 5) (by kernel_rfl) ga (by kernel_rfl) 32 A (0, 0) _ (HA3.out.below b HA3.out.lt) digest_under rfl HAK.out.info) ?_
  refine walk_one 2 (by kernel_rfl) (do_call 2 rfl (by kernel_rfl) (by kernel_rfl) (TL _) (fun w' h => bel_in BW h) ?_)
  intro q hq
  have BQ := bel_in BW hq
  refine walk_one 3 (by kernel_rfl) (do_call 3 rfl (by kernel_rfl) (by kernel_rfl) (TE _ BQ) (fun w' h => bel_in BQ h) ?_)
  intro p hp
  have BP := bel_in BQ hp
  refine walk_one 4 (by kernel_rfl) (do_last 4 rfl (by kernel_rfl) (ex_store_row 32 (.tmp 4) (.tmp 12) (by kernel_rfl) w.heap.size D (by kernel_rfl) (by kernel_rfl) 32 z32 (HR4.out.below BP HR4.out.lt) HDK.out.info HDO.out HDK.out.one) (by kernel_rfl) ?_)
  refine walk_end (by kernel_rfl) ?_
  have HFIN := Lib.hid (FIN p BP)
  clear FIN TE TL BP BQ BW hp hq
  go_wp2_with fail
  refine bodyPost_ret (results_cell_row rfl _ _ w.heap.size 32 D (0, 0) _ rfl HFIN.out.1 digest_under rfl HDK.out.info) rfl ⟨rfl, HFIN.out.2⟩

set_option maxRecDepth 100000 in
/-- The code of a text under a key. -/
theorem Of_any (key text : ByteArray) (D : Array Value) (hD : D = byv (code key.data.toList text.data.toList)) (w : World) (ht : Tbl w) (hk : key.size < 1152921504606846000) (hx : text.size < 1152921504606000000) :
    Calls Tryd.prog 26 #[.string key, .string text] w fun e w' => e = .returned (.agg D) ∧ Below w.heap.size w w' := by
  obtain ⟨z32, hz32⟩ : ∃ z32, z32 = byv (List.replicate 32 0) := ⟨_, rfl⟩
  have hdz := digest_zero
  rw [← hz32] at hdz
  have hzk : DOk z32 := by rw [hz32]; exact dok_zero
  have hdk : DOk D := by rw [hD]; exact dok _ (code_length _ _)
  have HZK := Lib.hid hzk
  have HDK := Lib.hid hdk
  have s1 : (w.alloc (.cells z32 32)).heap.size = w.heap.size + 1 := World.size_alloc _ _
  have HT1 := Lib.hid (ht.alloc (.cells z32 32))
  have HR1 := Lib.hid (Blk.new w 32 z32)
  have HB1 := Lib.hid ((Below.refl w.heap.size w).alloc (Nat.le_refl _) (.cells z32 32))
  have HD := Lib.hid hD
  clear hz32 ht hD hzk hdk
  go_enter Tryd.func26, Tryd.ntmps26
  go_wp2_with fail
  refine (under_any key _ HT1.out hk).mono ?_
  rintro e W2 ⟨g1, g2, b1, b2, rfl, h1, h2, c1, c2, bb⟩
  have HU2 := Lib.hid (show Und W2 (kb key.data.toList) b1 b2 from ⟨⟨g1, c1, h1⟩, ⟨g2, c2, h2⟩⟩)
  rw [s1] at bb
  have HT2 := Lib.hid (HT1.out.under bb (by have := HT1.out.lt; omega))
  have HR2 := Lib.hid (HR1.out.below bb (by omega))
  have HB2 := Lib.hid (HB1.out.trans (bb.mono (by omega)))
  clear h1 h2 c1 c2 bb HT1 HR1 HB1 s1
  go_wp2_with fail
  refine (closure_any _ text b1 b2 D (by rw [HD.out, code]) W2 HT2.out HU2.out hx).mono ?_
  rintro e W4 ⟨rfl, b4⟩
  have HR4 := Lib.hid (HR2.out.below b4 HR2.out.lt)
  have HB4 := Lib.hid (HB2.out.trans (b4.mono HB2.out.size))
  have HDO := Lib.hid (show z32.size = D.size by rw [HZK.out.size, HDK.out.size])
  have HRW := Lib.hid (show Blk (W4.setRow w.heap.size D) w.heap.size 32 D from setRow_heap _ _ _ _ _ _ HR4.out)
  have HBW := Lib.hid (below_setRow HB4.out (Nat.le_refl _) D)
  clear b4 HR2 HB2 HT2 HU2
  go_wp2_with (refine wpList_store_row rfl 32 (.tmp 4) (.tmp 8) rfl w.heap.size D rfl rfl 32 z32 HR4.out HDK.out.info HDO.out HDK.out.one ?_)
  refine bodyPost_ret (results_cell_row rfl _ _ w.heap.size 32 D (0, 0) _ rfl HRW.out digest_under rfl HDK.out.info) rfl ⟨rfl, HBW.out⟩
end Go.Proofs.YtcbakfnpbhgjoaaDoor
