/-
  The document's own Decode of layer 11 (plaitref11), by its walk.
-/
import Derived.Test.YtdhkjhkgjfcolaaDssRefE
import Derived.Test.YtdhkjhkgjfcolaaByteMem
namespace Go.Proofs.Ytdhkjhkgjfcolaa
open Go.ChangeShapes Go.WideShapes Go.ChangeAt Go.RowKit
set_option linter.unusedVariables false

theorem fl_1 (G : Nat) : ((G : Int) % 2 == 1) = fl G 1 := by
  unfold fl; rw [Nat.div_one, Bool.beq_eq_decide_eq]; congr 1; apply propext; omega
theorem fl_k (G k : Nat) : ((G : Int) / (k : Int) % 2 == 1) = fl G k := by
  unfold fl; rw [Bool.beq_eq_decide_eq]; congr 1; apply propext
  rw [show (G : Int) / (k : Int) = ((G / k : Nat) : Int) from rfl]; omega
theorem wide_l (l : Bool) (a : Nat) (h : a = wA true l) (w : World) : Calls Try.prog 26 #[.bool l] w fun e w' => e = .returned (.int .i64 (a : Int)) ∧ w = w' := by rw [h]; exact wideR_any l w
/-- A part of a text. -/
theorem str_mid (s : ByteArray) (lo hi : Int) (l h : Nat) (hl : lo = (l : Int)) (hh : hi = (h : Int)) (h1 : l ≤ h) (h2 : h ≤ s.size) (Z : ByteArray) (hZ : s.extract l h = Z) (w : World) : (Instr.slice 9 (.string s) (some (.int .i64 lo)) (some (.int .i64 hi)) none).run Try.prog w = .ok (.string Z) w := by
  subst hl hh hZ
  have a1 : (l : Int) ≤ (h : Int) := by omega
  have a2 : (h : Int) ≤ (s.size : Int) := by omega
  simp [Instr.slice, run_underlying Try.underlying9, Instr.sliceBounds, run_sliceBound, a1, a2]
theorem num_part (s : ByteArray) (k m : Nat) (h : k + m ≤ s.size) : num (s.extract k (k + m)) 0 (s.extract k (k + m)).size = num s k m := num_cut s k (k + m) m rfl h
/-- Where the document's Decode stands: the answer's variable, the signal so far. -/
structure Dr (w W : World) (r o : Nat) (y : Ds) : Prop where
  ret : Blk W r 26 (dsv .zero)
  out : Blk W o 26 (dsv y)
  rest : Below w.heap.size w W
  ne : r ≠ o ∧ w.heap.size ≤ r ∧ w.heap.size ≤ o
theorem Dr.turn {w W : World} {r o : Nat} {y y' : Ds} (h : Dr w W r o y) (i : Nat) (v : Value) (hy : (dsv y).setIfInBounds i v = dsv y') : Dr w (W.setCell ⟨o, i, none⟩ v) r o y' :=
  ⟨h.ret.same (Below.heap_setCell W ⟨o, i, none⟩ v r h.ne.1), by rw [← hy]; exact h.out.set_ i v, h.rest.setCell h.ne.2.2 _, h.ne⟩
theorem gotc_tf (G : Nat) (s : ByteArray) (la : Bool) (b : Bool) (f1 : fl G 1 = true) (f4 : fl G 4 = false) (f2 : fl G 2 = la) : gotc G s b = ⟨false, true, la, num s 2 (wA true la), false, false, 0, 0, 0, b, num s (2 + wA true la + 0 + 0 + 0) (w2 b)⟩ := by unfold gotc; simp only []; rw [f1, f4, f2]; rfl
theorem gotc_ft (G : Nat) (s : ByteArray) (ld fin : Bool) (b : Bool) (f1 : fl G 1 = false) (f4 : fl G 4 = true) (f8 : fl G 8 = ld) (f16 : fl G 16 = fin) : gotc G s b = ⟨fin, false, false, 0, true, ld, num s 2 (wA true ld), num s (2 + wA true ld) 4, (num s (2 + wA true ld + 4) 2 : Int), b, num s (2 + wA true ld + 4 + 2) (w2 b)⟩ := by unfold gotc; simp only []; rw [f1, f4, f8, f16]; rfl
theorem gotc_tt (G : Nat) (s : ByteArray) (la ld fin : Bool) (b : Bool) (f1 : fl G 1 = true) (f4 : fl G 4 = true) (f2 : fl G 2 = la) (f8 : fl G 8 = ld) (f16 : fl G 16 = fin) : gotc G s b = ⟨fin, true, la, num s 2 (wA true la), true, ld, num s (2 + wA true la) (wA true ld), num s (2 + wA true la + wA true ld) 4, (num s (2 + wA true la + wA true ld + 4) 2 : Int), b, num s (2 + wA true la + wA true ld + 4 + 2) (w2 b)⟩ := by unfold gotc; simp only []; rw [f1, f4, f2, f8, f16]; rfl
/-- The end: what is answered is stored, and loaded again. -/
theorem decR_end (s : ByteArray) (V : Value) (w W : World) (r o : Nat) (y z : Ds) (e : Int) (h : Dr w W r o y) (hV : V = decV s) (hd : dec s = (z, e)) {a : Act} (h2 : a.tmps.getD 2 undef = .pointer (some ⟨r, 0, none⟩)) (h3 : a.tmps.getD 3 undef = .int .i64 e) (hdf : a.defers = []) :
    bodyPost Try.prog Try.f14 (fun e w' => e = .returned V ∧ Below w.heap.size w w') .ret a (W.setRow r (dsv z)) := by
  have q := results_row_tmp (P := Try.prog) (fn := Try.f14) (p := 2) (t := 3) (ty := 26) rfl a.tmps (W.setRow r (dsv z)) r 26 (dsv z) (0, 0) _ h2 (setRow_heap _ r _ (dsv z) _ _ h.ret) Try.underlying26 rfl ds_size
  rw [h3] at q
  exact bodyPost_ret q hdf ⟨by rw [hV, decV, hd], below_setRow h.rest h.ne.2.1 (dsv z)⟩
set_option maxHeartbeats 4000000 in
set_option maxRecDepth 100000 in
theorem decR_tf (s : ByteArray) (w : World) (hs : s.size ≤ 9223372036854775000) (V : Value) (hV : V = decV s) (F G : Nat) (hem : s.toList.isEmpty = false) (hne : ¬ s.toList = []) (h0 : 0 < s.size) (l0 : (0 : Int) < (s.size : Int)) (hF0 : (s[0].toNat : Int) = (F : Int)) (hF8 : F < 256) (ek : F / 16 = 2) (e0 : ((F : Int) / 16 % 256 != 2) = false) (h2 : 1 < s.size) (l1 : (1 : Int) < (s.size : Int)) (hG0 : (s[1].toNat : Int) = (G : Int)) (hG8 : G < 256) (hD : dec s = decc G s) (e1 : ((G : Int) % 2 == 1) = true) (e4 : ((G : Int) / 4 % 2 == 1) = false) (hhas : ¬ (fl G 1 = false ∧ fl G 4 = false)) (f1 : fl G 1 = true) (f4 : fl G 4 = false) (la : Bool) (e2 : ((G : Int) / 2 % 2 == 1) = la) (a : Nat) (ha : a = wA true la) (f2 : fl G 2 = la) (hsz : sizc G = 2 + a) :
    Calls Try.prog 14 #[.string s] w fun e w' => e = .returned V ∧ Below w.heap.size w w' := by
  have HS := Lib.hid hs
  have HV := Lib.hid hV
  have HDD := Lib.hid hD
  have HSZ := Lib.hid hsz
  have HF1 := Lib.hid f1
  have HF4 := Lib.hid f4
  clear hV hD hsz f1 f4
  have HA := Lib.hid ha
  have a48 : 4 ≤ a ∧ a ≤ 8 := by rw [ha]; cases la <;> decide
  have HF2 := Lib.hid f2
  clear ha f2
  obtain ⟨r, hr⟩ : ∃ r, r = w.heap.size := ⟨_, rfl⟩
  obtain ⟨o, ho⟩ : ∃ o, o = w.heap.size + 1 := ⟨_, rfl⟩
  obtain ⟨W0, hW0⟩ : ∃ W', W' = (w.alloc (.cells #[.bool false, .bool false, .bool false, .int .u64 0, .bool false, .bool false, .int .u64 0, .int .u32 0, .int .i64 0, .bool false, .int .u16 0] 26)).alloc (.cells #[.bool false, .bool true, .bool false, .int .u64 0, .bool false, .bool false, .int .u64 0, .int .u32 0, .int .i64 0, .bool false, .int .u16 0] 26) := ⟨_, rfl⟩
  have HD0 := Lib.hid (show Dr w W0 r o (⟨false, true, false, 0, false, false, 0, 0, 0, false, 0⟩ : Ds) by
    have q1 := Blk.new (w.alloc (.cells (dsv .zero) 26)) 26 (dsv (⟨false, true, false, 0, false, false, 0, 0, 0, false, 0⟩ : Ds))
    rw [show (w.alloc (.cells (dsv .zero) 26)).heap.size = w.heap.size + 1 by simp] at q1
    rw [hW0, hr, ho]
    exact ⟨(Blk.new _ _ _).alloc _, q1, ((Below.refl _ w).alloc (Nat.le_refl _) _).alloc (by simp) _, by omega, by omega, by omega⟩)
  have HE0 := Lib.hid hW0
  have HO := Lib.hid ho
  have HRE := Lib.hid hr
  clear hW0 ho hr
  go_enter Try.func14, Try.ntmps14
  go_upto_region 9 with fail
  rw [← HE0.out, ← HO.out, ← HRE.out]
  clear HE0 HO hem hne h0 l0 hF0 hF8 h2 l1 hG0 e0 ek e1 e4
  have c1 := HD0.out.out.cell 1
  have c4 := HD0.out.out.cell 4
  simp only [List.getElem?_toArray, List.getElem?_cons_zero, List.getElem?_cons_succ] at c1 c4
  obtain ⟨W1, hW1⟩ : ∃ W', W' = W0.setCell ⟨o, 2, none⟩ (.bool la) := ⟨_, rfl⟩
  have HD1 := Lib.hid (show Dr w W1 r o (⟨false, true, la, 0, false, false, 0, 0, 0, false, 0⟩ : Ds) by rw [hW1]; exact HD0.out.turn 2 _ rfl)
  have HE1 := Lib.hid hW1
  clear hW1
  have s2 := HD0.out.out.cell 2
  have z2 := HD0.out.out.frozen 2
  simp only [List.getElem?_toArray, List.getElem?_cons_zero, List.getElem?_cons_succ] at s2
  go_wp2_with fail
  rw [← HE1.out]
  refine (wide_l la a HA.out _).mono ?_
  rintro e Wx ⟨rfl, rfl⟩
  clear c1 c4 s2 z2 HE1
  have c4 := HD1.out.out.cell 4
  simp only [List.getElem?_toArray, List.getElem?_cons_zero, List.getElem?_cons_succ] at c4
  go_upto_region 19 with fail
  clear c4
  have HHAS := Lib.hid hhas
  clear hhas
  by_cases hsh : s.size < 2 + a
  · have HSH := Lib.hid (show dec s = (.zero, 4) by rw [HDD.out, decc, if_neg HHAS.out, if_pos (by rw [HSZ.out]; exact hsh)])
    go_wp2_with (refine wpList_store_row rfl 26 _ _ rfl r (dsv Ds.zero) rfl rfl 26 _ HD1.out.ret ds_size rfl (ds_one _) ?_)
    exact decR_end s V w W1 r o (⟨false, true, la, 0, false, false, 0, 0, 0, false, 0⟩ : Ds) .zero 4 HD1.out HV.out HSH.out rfl rfl rfl
  have hge : 2 + a ≤ s.size := by omega
  by_cases heq : s.size = 2 + a
  · have HEQ := Lib.hid heq
    have hle : s.size ≤ 2 + a := by omega
    clear heq
    have c4 := HD1.out.out.cell 4
    simp only [List.getElem?_toArray, List.getElem?_cons_zero, List.getElem?_cons_succ] at c4
    obtain ⟨W2, hW2⟩ : ∃ W', W' = W1.setCell ⟨o, 9, none⟩ (.bool false) := ⟨_, rfl⟩
    have HD2 := Lib.hid (show Dr w W2 r o (⟨false, true, la, 0, false, false, 0, 0, 0, false, 0⟩ : Ds) by rw [hW2]; exact HD1.out.turn 9 _ rfl)
    have HE2 := Lib.hid hW2
    clear hW2
    have s9 := HD1.out.out.cell 9
    have z9 := HD1.out.out.frozen 9
    simp only [List.getElem?_toArray, List.getElem?_cons_zero, List.getElem?_cons_succ] at s9
    go_upto_region 25 with fail
    rw [← HE2.out]
    clear c4 s9 z9 HE2
    have c1 := HD2.out.out.cell 1
    have c4 := HD2.out.out.cell 4
    have c2 := HD2.out.out.cell 2
    simp only [List.getElem?_toArray, List.getElem?_cons_zero, List.getElem?_cons_succ] at c1 c4 c2
    obtain ⟨nA, hnA⟩ : ∃ n, n = num s 2 a := ⟨_, rfl⟩
    have HNA := Lib.hid hnA
    clear hnA
    obtain ⟨ZA, hZA⟩ : ∃ Z, s.extract (2) (2 + a) = Z := ⟨_, rfl⟩
    have slA := str_mid s (2) (2 + (a : Int)) (2) (2 + a) (by omega) (by omega) (by omega) (by omega) ZA hZA
    have nzA : num ZA 0 ZA.size = num s (2) a := by rw [← hZA]; exact num_part s (2) a (by omega)
    have zzA : ZA.size ≤ 8 := by rw [← hZA, size_extract s (2) a (by omega)]; omega
    go_wp2_with fail
    refine (wide_l la a HA.out _).mono ?_
    rintro e Wx ⟨rfl, rfl⟩
    go_wp2_with fail
    refine (Num_t ZA nA _ zzA (by rw [nzA, HNA.out])).mono ?_
    rintro e Wx ⟨rfl, rfl⟩
    clear slA nzA zzA hZA 
    obtain ⟨W3, hW3⟩ : ∃ W', W' = W2.setCell ⟨o, 3, none⟩ (.int .u64 (nA : Int)) := ⟨_, rfl⟩
    have HD3 := Lib.hid (show Dr w W3 r o (⟨false, true, la, nA, false, false, 0, 0, 0, false, 0⟩ : Ds) by rw [hW3]; exact HD2.out.turn 3 _ rfl)
    have HE3 := Lib.hid hW3
    clear hW3
    have s3 := HD2.out.out.cell 3
    have z3 := HD2.out.out.frozen 3
    simp only [List.getElem?_toArray, List.getElem?_cons_zero, List.getElem?_cons_succ] at s3
    go_wp2_with fail
    rw [← HE3.out]
    refine (wide_l la a HA.out _).mono ?_
    rintro e Wx ⟨rfl, rfl⟩
    clear c1 c4 c2 s3 z3 HE3
    have c4 := HD3.out.out.cell 4
    have c9 := HD3.out.out.cell 9
    simp only [List.getElem?_toArray, List.getElem?_cons_zero, List.getElem?_cons_succ] at c4 c9
    go_upto_region 35 with fail
    clear c4 c9
    have q := gotc_tf G s la false HF1.out HF4.out HF2.out
    rw [← HA.out, ← HNA.out] at q
    have HFIN := Lib.hid (show dec s = ((⟨false, true, la, nA, false, false, 0, 0, 0, false, 0⟩ : Ds), 0) by rw [HDD.out, decc, if_neg HHAS.out, if_neg (by rw [HSZ.out]; omega), if_pos (by rw [HSZ.out]; exact HEQ.out), q]; rfl)
    clear q
    go_wp2_with (first
      | (refine wpList_load_row rfl 26 _ rfl o rfl 26 (dsv (⟨false, true, la, nA, false, false, 0, 0, 0, false, 0⟩ : Ds)) (0, 0) _ ?_ Try.underlying26 rfl ds_size ?_; exact HD3.out.out)
      | (refine wpList_store_row rfl 26 _ _ rfl r (dsv (⟨false, true, la, nA, false, false, 0, 0, 0, false, 0⟩ : Ds)) rfl rfl 26 _ HD3.out.ret ds_size rfl (ds_one _) ?_))
    exact decR_end s V w W3 r o (⟨false, true, la, nA, false, false, 0, 0, 0, false, 0⟩ : Ds) (⟨false, true, la, nA, false, false, 0, 0, 0, false, 0⟩ : Ds) 0 HD3.out HV.out HFIN.out rfl rfl rfl
  · have hsum : ¬ (fl G 4 = true ∧ s.size = 2 + a + 2) := fun q => by rw [HF4.out] at q; cases q.1
    have c4 := HD1.out.out.cell 4
    simp only [List.getElem?_toArray, List.getElem?_cons_zero, List.getElem?_cons_succ] at c4
    obtain ⟨W2, hW2⟩ : ∃ W', W' = W1.setCell ⟨o, 9, none⟩ (.bool false) := ⟨_, rfl⟩
    have HD2 := Lib.hid (show Dr w W2 r o (⟨false, true, la, 0, false, false, 0, 0, 0, false, 0⟩ : Ds) by rw [hW2]; exact HD1.out.turn 9 _ rfl)
    have HE2 := Lib.hid hW2
    clear hW2
    have s9 := HD1.out.out.cell 9
    have z9 := HD1.out.out.frozen 9
    simp only [List.getElem?_toArray, List.getElem?_cons_zero, List.getElem?_cons_succ] at s9
    go_upto_region 23 with fail
    rw [← HE2.out]
    clear c4 s9 z9 HE2
    have HLG := Lib.hid (show dec s = (.zero, 5) by rw [HDD.out, decc, if_neg HHAS.out, if_neg (by rw [HSZ.out]; exact hsh), if_neg (by rw [HSZ.out]; exact heq), if_neg (by rw [HSZ.out]; exact hsum)])
    go_wp2_with (refine wpList_store_row rfl 26 _ _ rfl r (dsv Ds.zero) rfl rfl 26 _ HD2.out.ret ds_size rfl (ds_one _) ?_)
    exact decR_end s V w W2 r o (⟨false, true, la, 0, false, false, 0, 0, 0, false, 0⟩ : Ds) .zero 5 HD2.out HV.out HLG.out rfl rfl rfl
set_option maxHeartbeats 4000000 in
set_option maxRecDepth 100000 in
theorem decR_ft (s : ByteArray) (w : World) (hs : s.size ≤ 9223372036854775000) (V : Value) (hV : V = decV s) (F G : Nat) (hem : s.toList.isEmpty = false) (hne : ¬ s.toList = []) (h0 : 0 < s.size) (l0 : (0 : Int) < (s.size : Int)) (hF0 : (s[0].toNat : Int) = (F : Int)) (hF8 : F < 256) (ek : F / 16 = 2) (e0 : ((F : Int) / 16 % 256 != 2) = false) (h2 : 1 < s.size) (l1 : (1 : Int) < (s.size : Int)) (hG0 : (s[1].toNat : Int) = (G : Int)) (hG8 : G < 256) (hD : dec s = decc G s) (e1 : ((G : Int) % 2 == 1) = false) (e4 : ((G : Int) / 4 % 2 == 1) = true) (hhas : ¬ (fl G 1 = false ∧ fl G 4 = false)) (f1 : fl G 1 = false) (f4 : fl G 4 = true) (ld fin : Bool) (e8 : ((G : Int) / 8 % 2 == 1) = ld) (e16 : ((G : Int) / 16 % 2 == 1) = fin) (d : Nat) (hd : d = wA true ld) (f8 : fl G 8 = ld) (f16 : fl G 16 = fin) (hsz : sizc G = 2 + d + 6) :
    Calls Try.prog 14 #[.string s] w fun e w' => e = .returned V ∧ Below w.heap.size w w' := by
  have HS := Lib.hid hs
  have HV := Lib.hid hV
  have HDD := Lib.hid hD
  have HSZ := Lib.hid hsz
  have HF1 := Lib.hid f1
  have HF4 := Lib.hid f4
  clear hV hD hsz f1 f4
  have HDW := Lib.hid hd
  have d48 : 4 ≤ d ∧ d ≤ 8 := by rw [hd]; cases ld <;> decide
  have HF8 := Lib.hid f8
  have HF16 := Lib.hid f16
  clear hd f8 f16
  obtain ⟨r, hr⟩ : ∃ r, r = w.heap.size := ⟨_, rfl⟩
  obtain ⟨o, ho⟩ : ∃ o, o = w.heap.size + 1 := ⟨_, rfl⟩
  obtain ⟨W0, hW0⟩ : ∃ W', W' = (w.alloc (.cells #[.bool false, .bool false, .bool false, .int .u64 0, .bool false, .bool false, .int .u64 0, .int .u32 0, .int .i64 0, .bool false, .int .u16 0] 26)).alloc (.cells #[.bool false, .bool false, .bool false, .int .u64 0, .bool true, .bool false, .int .u64 0, .int .u32 0, .int .i64 0, .bool false, .int .u16 0] 26) := ⟨_, rfl⟩
  have HD0 := Lib.hid (show Dr w W0 r o (⟨false, false, false, 0, true, false, 0, 0, 0, false, 0⟩ : Ds) by
    have q1 := Blk.new (w.alloc (.cells (dsv .zero) 26)) 26 (dsv (⟨false, false, false, 0, true, false, 0, 0, 0, false, 0⟩ : Ds))
    rw [show (w.alloc (.cells (dsv .zero) 26)).heap.size = w.heap.size + 1 by simp] at q1
    rw [hW0, hr, ho]
    exact ⟨(Blk.new _ _ _).alloc _, q1, ((Below.refl _ w).alloc (Nat.le_refl _) _).alloc (by simp) _, by omega, by omega, by omega⟩)
  have HE0 := Lib.hid hW0
  have HO := Lib.hid ho
  have HRE := Lib.hid hr
  clear hW0 ho hr
  go_enter Try.func14, Try.ntmps14
  go_upto_region 9 with fail
  rw [← HE0.out, ← HO.out, ← HRE.out]
  clear HE0 HO hem hne h0 l0 hF0 hF8 h2 l1 hG0 e0 ek e1 e4
  have c1 := HD0.out.out.cell 1
  have c4 := HD0.out.out.cell 4
  simp only [List.getElem?_toArray, List.getElem?_cons_zero, List.getElem?_cons_succ] at c1 c4
  obtain ⟨W1, hW1⟩ : ∃ W', W' = W0.setCell ⟨o, 5, none⟩ (.bool ld) := ⟨_, rfl⟩
  have HD1 := Lib.hid (show Dr w W1 r o (⟨false, false, false, 0, true, ld, 0, 0, 0, false, 0⟩ : Ds) by rw [hW1]; exact HD0.out.turn 5 _ rfl)
  have HE1 := Lib.hid hW1
  clear hW1
  have s5 := HD0.out.out.cell 5
  have z5 := HD0.out.out.frozen 5
  simp only [List.getElem?_toArray, List.getElem?_cons_zero, List.getElem?_cons_succ] at s5
  go_upto_region 17 with fail
  rw [← HE1.out]
  clear c1 c4 s5 z5 HE1
  have c5 := HD1.out.out.cell 5
  simp only [List.getElem?_toArray, List.getElem?_cons_zero, List.getElem?_cons_succ] at c5
  obtain ⟨W2, hW2⟩ : ∃ W', W' = W1.setCell ⟨o, 0, none⟩ (.bool fin) := ⟨_, rfl⟩
  have HD2 := Lib.hid (show Dr w W2 r o (⟨fin, false, false, 0, true, ld, 0, 0, 0, false, 0⟩ : Ds) by rw [hW2]; exact HD1.out.turn 0 _ rfl)
  have HE2 := Lib.hid hW2
  clear hW2
  have s0 := HD1.out.out.cell 0
  have z0 := HD1.out.out.frozen 0
  simp only [List.getElem?_toArray, List.getElem?_cons_zero] at s0
  go_wp2_with fail
  rw [← HE2.out]
  refine (wide_l ld d HDW.out _).mono ?_
  rintro e Wx ⟨rfl, rfl⟩
  clear c5 s0 z0 HE2
  go_upto_region 19 with fail
  have HHAS := Lib.hid hhas
  clear hhas
  by_cases hsh : s.size < 2 + d + 6
  · have HSH := Lib.hid (show dec s = (.zero, 4) by rw [HDD.out, decc, if_neg HHAS.out, if_pos (by rw [HSZ.out]; exact hsh)])
    go_wp2_with (refine wpList_store_row rfl 26 _ _ rfl r (dsv Ds.zero) rfl rfl 26 _ HD2.out.ret ds_size rfl (ds_one _) ?_)
    exact decR_end s V w W2 r o (⟨fin, false, false, 0, true, ld, 0, 0, 0, false, 0⟩ : Ds) .zero 4 HD2.out HV.out HSH.out rfl rfl rfl
  have hge : 2 + d + 6 ≤ s.size := by omega
  by_cases heq : s.size = 2 + d + 6
  · have HEQ := Lib.hid heq
    have hle : s.size ≤ 2 + d + 6 := by omega
    clear heq
    have c4 := HD2.out.out.cell 4
    simp only [List.getElem?_toArray, List.getElem?_cons_zero, List.getElem?_cons_succ] at c4
    have hb9 : ((s.size : Int) == 2 + (d : Int) + 6 + 2) = false := by rw [beq_eq_false_iff_ne]; omega
    obtain ⟨W3, hW3⟩ : ∃ W', W' = W2.setCell ⟨o, 9, none⟩ (.bool false) := ⟨_, rfl⟩
    have HD3 := Lib.hid (show Dr w W3 r o (⟨fin, false, false, 0, true, ld, 0, 0, 0, false, 0⟩ : Ds) by rw [hW3]; exact HD2.out.turn 9 _ rfl)
    have HE3 := Lib.hid hW3
    clear hW3
    have s9 := HD2.out.out.cell 9
    have z9 := HD2.out.out.frozen 9
    simp only [List.getElem?_toArray, List.getElem?_cons_zero, List.getElem?_cons_succ] at s9
    go_upto_region 25 with fail
    rw [← HE3.out]
    clear c4 hb9 s9 z9 HE3
    have c1 := HD3.out.out.cell 1
    have c4 := HD3.out.out.cell 4
    have c9 := HD3.out.out.cell 9
    have c5 := HD3.out.out.cell 5
    simp only [List.getElem?_toArray, List.getElem?_cons_zero, List.getElem?_cons_succ] at c1 c4 c9 c5
    obtain ⟨nD, hnD⟩ : ∃ n, n = num s (2) d := ⟨_, rfl⟩
    have HND := Lib.hid hnD
    clear hnD
    obtain ⟨ZD, hZD⟩ : ∃ Z, s.extract (2) (2 + d) = Z := ⟨_, rfl⟩
    have slD := str_mid s (2) (2 + (d : Int)) (2) (2 + d) (by omega) (by omega) (by omega) (by omega) ZD hZD
    have nzD : num ZD 0 ZD.size = num s (2) d := by rw [← hZD]; exact num_part s (2) d (by omega)
    have zzD : ZD.size ≤ 8 := by rw [← hZD, size_extract s (2) d (by omega)]; omega
    go_wp2_with fail
    refine (wide_l ld d HDW.out _).mono ?_
    rintro e Wx ⟨rfl, rfl⟩
    go_wp2_with fail
    refine (Num_t ZD nD _ zzD (by rw [nzD, HND.out])).mono ?_
    rintro e Wx ⟨rfl, rfl⟩
    clear slD nzD zzD hZD 
    obtain ⟨W4, hW4⟩ : ∃ W', W' = W3.setCell ⟨o, 6, none⟩ (.int .u64 (nD : Int)) := ⟨_, rfl⟩
    have HD4 := Lib.hid (show Dr w W4 r o (⟨fin, false, false, 0, true, ld, nD, 0, 0, false, 0⟩ : Ds) by rw [hW4]; exact HD3.out.turn 6 _ rfl)
    have HE4 := Lib.hid hW4
    clear hW4
    have s6 := HD3.out.out.cell 6
    have z6 := HD3.out.out.frozen 6
    simp only [List.getElem?_toArray, List.getElem?_cons_zero, List.getElem?_cons_succ] at s6
    go_wp2_with fail
    rw [← HE4.out]
    refine (wide_l ld d HDW.out _).mono ?_
    rintro e Wx ⟨rfl, rfl⟩
    clear c1 c4 c9 c5 s6 z6 HE4
    obtain ⟨nS, hnS⟩ : ∃ n, n = num s (2 + d) 4 := ⟨_, rfl⟩
    have bS : nS ≤ 4294967295 := by rw [hnS]; have := num_lt s (2 + d) 4; omega
    have qS0 : (nS : Int) % 4294967296 = (nS : Int) := by omega
    have HNS := Lib.hid hnS
    clear hnS
    obtain ⟨ZS, hZS⟩ : ∃ Z, s.extract (2 + d) (2 + d + 4) = Z := ⟨_, rfl⟩
    have slS := str_mid s (2 + (d : Int)) (2 + (d : Int) + 4) (2 + d) (2 + d + 4) (by omega) (by omega) (by omega) (by omega) ZS hZS
    have nzS : num ZS 0 ZS.size = num s (2 + d) 4 := by rw [← hZS]; exact num_part s (2 + d) 4 (by omega)
    have zzS : ZS.size ≤ 8 := by rw [← hZS, size_extract s (2 + d) 4 (by omega)]; omega
    go_wp2_with fail
    refine (Num_t ZS nS _ zzS (by rw [nzS, HNS.out])).mono ?_
    rintro e Wx ⟨rfl, rfl⟩
    clear slS nzS zzS hZS 
    obtain ⟨W5, hW5⟩ : ∃ W', W' = W4.setCell ⟨o, 7, none⟩ (.int .u32 (nS : Int)) := ⟨_, rfl⟩
    have HD5 := Lib.hid (show Dr w W5 r o (⟨fin, false, false, 0, true, ld, nD, nS, 0, false, 0⟩ : Ds) by rw [hW5]; exact HD4.out.turn 7 _ rfl)
    have HE5 := Lib.hid hW5
    clear hW5
    have s7 := HD4.out.out.cell 7
    have z7 := HD4.out.out.frozen 7
    simp only [List.getElem?_toArray, List.getElem?_cons_zero, List.getElem?_cons_succ] at s7
    obtain ⟨nL, hnL⟩ : ∃ n, n = num s (2 + d + 4) 2 := ⟨_, rfl⟩
    have bL : nL ≤ 65535 := by rw [hnL]; have := num_lt s (2 + d + 4) 2; omega
    have qL0 : IntKind.i64.wrap (nL : Int) = (nL : Int) := by rw [IntKind.wrap_i64]; omega
    have qL1 : ((nL : Int) + 9223372036854775808) % 18446744073709551616 - 9223372036854775808 = (nL : Int) := by omega
    have HNL := Lib.hid hnL
    clear hnL
    obtain ⟨ZL, hZL⟩ : ∃ Z, s.extract (2 + d + 4) (2 + d + 4 + 2) = Z := ⟨_, rfl⟩
    have slL := str_mid s (2 + (d : Int) + 4) (2 + (d : Int) + 6) (2 + d + 4) (2 + d + 4 + 2) (by omega) (by omega) (by omega) (by omega) ZL hZL
    have nzL : num ZL 0 ZL.size = num s (2 + d + 4) 2 := by rw [← hZL]; exact num_part s (2 + d + 4) 2 (by omega)
    have zzL : ZL.size ≤ 8 := by rw [← hZL, size_extract s (2 + d + 4) 2 (by omega)]; omega
    go_wp2_with fail
    rw [← HE5.out]
    refine (Num_t ZL nL _ zzL (by rw [nzL, HNL.out])).mono ?_
    rintro e Wx ⟨rfl, rfl⟩
    clear slL nzL zzL hZL s7 z7 HE5 qS0
    have c9 := HD5.out.out.cell 9
    simp only [List.getElem?_toArray, List.getElem?_cons_zero, List.getElem?_cons_succ] at c9
    obtain ⟨W6, hW6⟩ : ∃ W', W' = W5.setCell ⟨o, 8, none⟩ (.int .i64 ((nL : Int) : Int)) := ⟨_, rfl⟩
    have HD6 := Lib.hid (show Dr w W6 r o (⟨fin, false, false, 0, true, ld, nD, nS, (nL : Int), false, 0⟩ : Ds) by rw [hW6]; exact HD5.out.turn 8 _ rfl)
    have HE6 := Lib.hid hW6
    clear hW6
    have s8 := HD5.out.out.cell 8
    have z8 := HD5.out.out.frozen 8
    simp only [List.getElem?_toArray, List.getElem?_cons_zero, List.getElem?_cons_succ] at s8
    go_upto_region 35 with fail
    rw [← HE6.out]
    clear c9 s8 z8 HE6 qL0 qL1
    have q := gotc_ft G s ld fin false HF1.out HF4.out HF8.out HF16.out
    rw [← HDW.out, ← HND.out, ← HNS.out, ← HNL.out] at q
    have HFIN := Lib.hid (show dec s = ((⟨fin, false, false, 0, true, ld, nD, nS, (nL : Int), false, 0⟩ : Ds), 0) by rw [HDD.out, decc, if_neg HHAS.out, if_neg (by rw [HSZ.out]; omega), if_pos (by rw [HSZ.out]; exact HEQ.out), q]; rfl)
    clear q
    go_wp2_with (first
      | (refine wpList_load_row rfl 26 _ rfl o rfl 26 (dsv (⟨fin, false, false, 0, true, ld, nD, nS, (nL : Int), false, 0⟩ : Ds)) (0, 0) _ ?_ Try.underlying26 rfl ds_size ?_; exact HD6.out.out)
      | (refine wpList_store_row rfl 26 _ _ rfl r (dsv (⟨fin, false, false, 0, true, ld, nD, nS, (nL : Int), false, 0⟩ : Ds)) rfl rfl 26 _ HD6.out.ret ds_size rfl (ds_one _) ?_))
    exact decR_end s V w W6 r o (⟨fin, false, false, 0, true, ld, nD, nS, (nL : Int), false, 0⟩ : Ds) (⟨fin, false, false, 0, true, ld, nD, nS, (nL : Int), false, 0⟩ : Ds) 0 HD6.out HV.out HFIN.out rfl rfl rfl
  by_cases hsm : s.size = 2 + d + 6 + 2
  · have HEQ := Lib.hid hsm
    have hsm2 : 2 + d + 6 + 2 ≤ s.size ∧ s.size ≤ 2 + d + 6 + 2 := by omega
    clear heq hsm
    have c4 := HD2.out.out.cell 4
    simp only [List.getElem?_toArray, List.getElem?_cons_zero, List.getElem?_cons_succ] at c4
    have hb9 : ((s.size : Int) == 2 + (d : Int) + 6 + 2) = true := by rw [beq_iff_eq]; omega
    obtain ⟨W3, hW3⟩ : ∃ W', W' = W2.setCell ⟨o, 9, none⟩ (.bool true) := ⟨_, rfl⟩
    have HD3 := Lib.hid (show Dr w W3 r o (⟨fin, false, false, 0, true, ld, 0, 0, 0, true, 0⟩ : Ds) by rw [hW3]; exact HD2.out.turn 9 _ rfl)
    have HE3 := Lib.hid hW3
    clear hW3
    have s9 := HD2.out.out.cell 9
    have z9 := HD2.out.out.frozen 9
    simp only [List.getElem?_toArray, List.getElem?_cons_zero, List.getElem?_cons_succ] at s9
    go_upto_region 25 with fail
    rw [← HE3.out]
    clear c4 hb9 s9 z9 HE3
    have c1 := HD3.out.out.cell 1
    have c4 := HD3.out.out.cell 4
    have c9 := HD3.out.out.cell 9
    have c5 := HD3.out.out.cell 5
    simp only [List.getElem?_toArray, List.getElem?_cons_zero, List.getElem?_cons_succ] at c1 c4 c9 c5
    obtain ⟨nD, hnD⟩ : ∃ n, n = num s (2) d := ⟨_, rfl⟩
    have HND := Lib.hid hnD
    clear hnD
    obtain ⟨ZD, hZD⟩ : ∃ Z, s.extract (2) (2 + d) = Z := ⟨_, rfl⟩
    have slD := str_mid s (2) (2 + (d : Int)) (2) (2 + d) (by omega) (by omega) (by omega) (by omega) ZD hZD
    have nzD : num ZD 0 ZD.size = num s (2) d := by rw [← hZD]; exact num_part s (2) d (by omega)
    have zzD : ZD.size ≤ 8 := by rw [← hZD, size_extract s (2) d (by omega)]; omega
    go_wp2_with fail
    refine (wide_l ld d HDW.out _).mono ?_
    rintro e Wx ⟨rfl, rfl⟩
    go_wp2_with fail
    refine (Num_t ZD nD _ zzD (by rw [nzD, HND.out])).mono ?_
    rintro e Wx ⟨rfl, rfl⟩
    clear slD nzD zzD hZD 
    obtain ⟨W4, hW4⟩ : ∃ W', W' = W3.setCell ⟨o, 6, none⟩ (.int .u64 (nD : Int)) := ⟨_, rfl⟩
    have HD4 := Lib.hid (show Dr w W4 r o (⟨fin, false, false, 0, true, ld, nD, 0, 0, true, 0⟩ : Ds) by rw [hW4]; exact HD3.out.turn 6 _ rfl)
    have HE4 := Lib.hid hW4
    clear hW4
    have s6 := HD3.out.out.cell 6
    have z6 := HD3.out.out.frozen 6
    simp only [List.getElem?_toArray, List.getElem?_cons_zero, List.getElem?_cons_succ] at s6
    go_wp2_with fail
    rw [← HE4.out]
    refine (wide_l ld d HDW.out _).mono ?_
    rintro e Wx ⟨rfl, rfl⟩
    clear c1 c4 c9 c5 s6 z6 HE4
    obtain ⟨nS, hnS⟩ : ∃ n, n = num s (2 + d) 4 := ⟨_, rfl⟩
    have bS : nS ≤ 4294967295 := by rw [hnS]; have := num_lt s (2 + d) 4; omega
    have qS0 : (nS : Int) % 4294967296 = (nS : Int) := by omega
    have HNS := Lib.hid hnS
    clear hnS
    obtain ⟨ZS, hZS⟩ : ∃ Z, s.extract (2 + d) (2 + d + 4) = Z := ⟨_, rfl⟩
    have slS := str_mid s (2 + (d : Int)) (2 + (d : Int) + 4) (2 + d) (2 + d + 4) (by omega) (by omega) (by omega) (by omega) ZS hZS
    have nzS : num ZS 0 ZS.size = num s (2 + d) 4 := by rw [← hZS]; exact num_part s (2 + d) 4 (by omega)
    have zzS : ZS.size ≤ 8 := by rw [← hZS, size_extract s (2 + d) 4 (by omega)]; omega
    go_wp2_with fail
    refine (Num_t ZS nS _ zzS (by rw [nzS, HNS.out])).mono ?_
    rintro e Wx ⟨rfl, rfl⟩
    clear slS nzS zzS hZS 
    obtain ⟨W5, hW5⟩ : ∃ W', W' = W4.setCell ⟨o, 7, none⟩ (.int .u32 (nS : Int)) := ⟨_, rfl⟩
    have HD5 := Lib.hid (show Dr w W5 r o (⟨fin, false, false, 0, true, ld, nD, nS, 0, true, 0⟩ : Ds) by rw [hW5]; exact HD4.out.turn 7 _ rfl)
    have HE5 := Lib.hid hW5
    clear hW5
    have s7 := HD4.out.out.cell 7
    have z7 := HD4.out.out.frozen 7
    simp only [List.getElem?_toArray, List.getElem?_cons_zero, List.getElem?_cons_succ] at s7
    obtain ⟨nL, hnL⟩ : ∃ n, n = num s (2 + d + 4) 2 := ⟨_, rfl⟩
    have bL : nL ≤ 65535 := by rw [hnL]; have := num_lt s (2 + d + 4) 2; omega
    have qL0 : IntKind.i64.wrap (nL : Int) = (nL : Int) := by rw [IntKind.wrap_i64]; omega
    have qL1 : ((nL : Int) + 9223372036854775808) % 18446744073709551616 - 9223372036854775808 = (nL : Int) := by omega
    have HNL := Lib.hid hnL
    clear hnL
    obtain ⟨ZL, hZL⟩ : ∃ Z, s.extract (2 + d + 4) (2 + d + 4 + 2) = Z := ⟨_, rfl⟩
    have slL := str_mid s (2 + (d : Int) + 4) (2 + (d : Int) + 6) (2 + d + 4) (2 + d + 4 + 2) (by omega) (by omega) (by omega) (by omega) ZL hZL
    have nzL : num ZL 0 ZL.size = num s (2 + d + 4) 2 := by rw [← hZL]; exact num_part s (2 + d + 4) 2 (by omega)
    have zzL : ZL.size ≤ 8 := by rw [← hZL, size_extract s (2 + d + 4) 2 (by omega)]; omega
    go_wp2_with fail
    rw [← HE5.out]
    refine (Num_t ZL nL _ zzL (by rw [nzL, HNL.out])).mono ?_
    rintro e Wx ⟨rfl, rfl⟩
    clear slL nzL zzL hZL s7 z7 HE5 qS0
    have c9 := HD5.out.out.cell 9
    simp only [List.getElem?_toArray, List.getElem?_cons_zero, List.getElem?_cons_succ] at c9
    obtain ⟨W6, hW6⟩ : ∃ W', W' = W5.setCell ⟨o, 8, none⟩ (.int .i64 ((nL : Int) : Int)) := ⟨_, rfl⟩
    have HD6 := Lib.hid (show Dr w W6 r o (⟨fin, false, false, 0, true, ld, nD, nS, (nL : Int), true, 0⟩ : Ds) by rw [hW6]; exact HD5.out.turn 8 _ rfl)
    have HE6 := Lib.hid hW6
    clear hW6
    have s8 := HD5.out.out.cell 8
    have z8 := HD5.out.out.frozen 8
    simp only [List.getElem?_toArray, List.getElem?_cons_zero, List.getElem?_cons_succ] at s8
    obtain ⟨nU, hnU⟩ : ∃ n, n = num s (2 + d + 6) 2 := ⟨_, rfl⟩
    have bU : nU ≤ 65535 := by rw [hnU]; have := num_lt s (2 + d + 6) 2; omega
    have qU0 : (nU : Int) % 65536 = (nU : Int) := by omega
    have qU1 : IntKind.u16.wrap (nU : Int) = (nU : Int) := by rw [IntKind.wrap_u16]; omega
    have HNU := Lib.hid hnU
    clear hnU
    obtain ⟨ZU, hZU⟩ : ∃ Z, s.extract (2 + d + 6) (2 + d + 6 + 2) = Z := ⟨_, rfl⟩
    have slU := str_mid s (2 + (d : Int) + 6) (2 + (d : Int) + 6 + 2) (2 + d + 6) (2 + d + 6 + 2) (by omega) (by omega) (by omega) (by omega) ZU hZU
    have nzU : num ZU 0 ZU.size = num s (2 + d + 6) 2 := by rw [← hZU]; exact num_part s (2 + d + 6) 2 (by omega)
    have zzU : ZU.size ≤ 8 := by rw [← hZU, size_extract s (2 + d + 6) 2 (by omega)]; omega
    go_wp2_with fail
    rw [← HE6.out]
    refine (Num_t ZU nU _ zzU (by rw [nzU, HNU.out])).mono ?_
    rintro e Wx ⟨rfl, rfl⟩
    clear slU nzU zzU hZU c9 s8 z8 HE6 qL0 qL1
    obtain ⟨W7, hW7⟩ : ∃ W', W' = W6.setCell ⟨o, 10, none⟩ (.int .u16 (nU : Int)) := ⟨_, rfl⟩
    have HD7 := Lib.hid (show Dr w W7 r o (⟨fin, false, false, 0, true, ld, nD, nS, (nL : Int), true, nU⟩ : Ds) by rw [hW7]; exact HD6.out.turn 10 _ rfl)
    have HE7 := Lib.hid hW7
    clear hW7
    have s10 := HD6.out.out.cell 10
    have z10 := HD6.out.out.frozen 10
    simp only [List.getElem?_toArray, List.getElem?_cons_zero, List.getElem?_cons_succ] at s10
    go_upto_region 35 with fail
    rw [← HE7.out]
    clear s10 z10 HE7 qU0 qU1
    have q := gotc_ft G s ld fin true HF1.out HF4.out HF8.out HF16.out
    rw [← HDW.out, ← HND.out, ← HNS.out, ← HNL.out] at q
    rw [show w2 true = 2 from rfl, show 2 + d + 4 + 2 = 2 + d + 6 from rfl, ← HNU.out] at q
    have HFIN := Lib.hid (show dec s = ((⟨fin, false, false, 0, true, ld, nD, nS, (nL : Int), true, nU⟩ : Ds), 0) by rw [HDD.out, decc, if_neg HHAS.out, if_neg (by rw [HSZ.out]; omega), if_neg (by rw [HSZ.out]; have := HEQ.out; omega), if_pos ⟨HF4.out, by rw [HSZ.out]; exact HEQ.out⟩, q])
    clear q
    go_wp2_with (first
      | (refine wpList_load_row rfl 26 _ rfl o rfl 26 (dsv (⟨fin, false, false, 0, true, ld, nD, nS, (nL : Int), true, nU⟩ : Ds)) (0, 0) _ ?_ Try.underlying26 rfl ds_size ?_; exact HD7.out.out)
      | (refine wpList_store_row rfl 26 _ _ rfl r (dsv (⟨fin, false, false, 0, true, ld, nD, nS, (nL : Int), true, nU⟩ : Ds)) rfl rfl 26 _ HD7.out.ret ds_size rfl (ds_one _) ?_))
    exact decR_end s V w W7 r o (⟨fin, false, false, 0, true, ld, nD, nS, (nL : Int), true, nU⟩ : Ds) (⟨fin, false, false, 0, true, ld, nD, nS, (nL : Int), true, nU⟩ : Ds) 0 HD7.out HV.out HFIN.out rfl rfl rfl
  · have hsum : ¬ (fl G 4 = true ∧ s.size = 2 + d + 6 + 2) := fun q => hsm q.2
    have c4 := HD2.out.out.cell 4
    simp only [List.getElem?_toArray, List.getElem?_cons_zero, List.getElem?_cons_succ] at c4
    have hb9 : ((s.size : Int) == 2 + (d : Int) + 6 + 2) = false := by rw [beq_eq_false_iff_ne]; omega
    obtain ⟨W3, hW3⟩ : ∃ W', W' = W2.setCell ⟨o, 9, none⟩ (.bool false) := ⟨_, rfl⟩
    have HD3 := Lib.hid (show Dr w W3 r o (⟨fin, false, false, 0, true, ld, 0, 0, 0, false, 0⟩ : Ds) by rw [hW3]; exact HD2.out.turn 9 _ rfl)
    have HE3 := Lib.hid hW3
    clear hW3
    have s9 := HD2.out.out.cell 9
    have z9 := HD2.out.out.frozen 9
    simp only [List.getElem?_toArray, List.getElem?_cons_zero, List.getElem?_cons_succ] at s9
    go_upto_region 23 with fail
    rw [← HE3.out]
    clear c4 hb9 s9 z9 HE3
    have HLG := Lib.hid (show dec s = (.zero, 5) by rw [HDD.out, decc, if_neg HHAS.out, if_neg (by rw [HSZ.out]; exact hsh), if_neg (by rw [HSZ.out]; exact heq), if_neg (by rw [HSZ.out]; exact hsum)])
    go_wp2_with (refine wpList_store_row rfl 26 _ _ rfl r (dsv Ds.zero) rfl rfl 26 _ HD3.out.ret ds_size rfl (ds_one _) ?_)
    exact decR_end s V w W3 r o (⟨fin, false, false, 0, true, ld, 0, 0, 0, false, 0⟩ : Ds) .zero 5 HD3.out HV.out HLG.out rfl rfl rfl
set_option maxHeartbeats 4000000 in
set_option maxRecDepth 100000 in
theorem decR_tt (s : ByteArray) (w : World) (hs : s.size ≤ 9223372036854775000) (V : Value) (hV : V = decV s) (F G : Nat) (hem : s.toList.isEmpty = false) (hne : ¬ s.toList = []) (h0 : 0 < s.size) (l0 : (0 : Int) < (s.size : Int)) (hF0 : (s[0].toNat : Int) = (F : Int)) (hF8 : F < 256) (ek : F / 16 = 2) (e0 : ((F : Int) / 16 % 256 != 2) = false) (h2 : 1 < s.size) (l1 : (1 : Int) < (s.size : Int)) (hG0 : (s[1].toNat : Int) = (G : Int)) (hG8 : G < 256) (hD : dec s = decc G s) (e1 : ((G : Int) % 2 == 1) = true) (e4 : ((G : Int) / 4 % 2 == 1) = true) (hhas : ¬ (fl G 1 = false ∧ fl G 4 = false)) (f1 : fl G 1 = true) (f4 : fl G 4 = true) (la : Bool) (e2 : ((G : Int) / 2 % 2 == 1) = la) (a : Nat) (ha : a = wA true la) (f2 : fl G 2 = la) (ld fin : Bool) (e8 : ((G : Int) / 8 % 2 == 1) = ld) (e16 : ((G : Int) / 16 % 2 == 1) = fin) (d : Nat) (hd : d = wA true ld) (f8 : fl G 8 = ld) (f16 : fl G 16 = fin) (hsz : sizc G = 2 + a + d + 6) :
    Calls Try.prog 14 #[.string s] w fun e w' => e = .returned V ∧ Below w.heap.size w w' := by
  have HS := Lib.hid hs
  have HV := Lib.hid hV
  have HDD := Lib.hid hD
  have HSZ := Lib.hid hsz
  have HF1 := Lib.hid f1
  have HF4 := Lib.hid f4
  clear hV hD hsz f1 f4
  have HA := Lib.hid ha
  have a48 : 4 ≤ a ∧ a ≤ 8 := by rw [ha]; cases la <;> decide
  have HF2 := Lib.hid f2
  clear ha f2
  have HDW := Lib.hid hd
  have d48 : 4 ≤ d ∧ d ≤ 8 := by rw [hd]; cases ld <;> decide
  have HF8 := Lib.hid f8
  have HF16 := Lib.hid f16
  clear hd f8 f16
  obtain ⟨r, hr⟩ : ∃ r, r = w.heap.size := ⟨_, rfl⟩
  obtain ⟨o, ho⟩ : ∃ o, o = w.heap.size + 1 := ⟨_, rfl⟩
  obtain ⟨W0, hW0⟩ : ∃ W', W' = (w.alloc (.cells #[.bool false, .bool false, .bool false, .int .u64 0, .bool false, .bool false, .int .u64 0, .int .u32 0, .int .i64 0, .bool false, .int .u16 0] 26)).alloc (.cells #[.bool false, .bool true, .bool false, .int .u64 0, .bool true, .bool false, .int .u64 0, .int .u32 0, .int .i64 0, .bool false, .int .u16 0] 26) := ⟨_, rfl⟩
  have HD0 := Lib.hid (show Dr w W0 r o (⟨false, true, false, 0, true, false, 0, 0, 0, false, 0⟩ : Ds) by
    have q1 := Blk.new (w.alloc (.cells (dsv .zero) 26)) 26 (dsv (⟨false, true, false, 0, true, false, 0, 0, 0, false, 0⟩ : Ds))
    rw [show (w.alloc (.cells (dsv .zero) 26)).heap.size = w.heap.size + 1 by simp] at q1
    rw [hW0, hr, ho]
    exact ⟨(Blk.new _ _ _).alloc _, q1, ((Below.refl _ w).alloc (Nat.le_refl _) _).alloc (by simp) _, by omega, by omega, by omega⟩)
  have HE0 := Lib.hid hW0
  have HO := Lib.hid ho
  have HRE := Lib.hid hr
  clear hW0 ho hr
  go_enter Try.func14, Try.ntmps14
  go_upto_region 9 with fail
  rw [← HE0.out, ← HO.out, ← HRE.out]
  clear HE0 HO hem hne h0 l0 hF0 hF8 h2 l1 hG0 e0 ek e1 e4
  have c1 := HD0.out.out.cell 1
  have c4 := HD0.out.out.cell 4
  simp only [List.getElem?_toArray, List.getElem?_cons_zero, List.getElem?_cons_succ] at c1 c4
  obtain ⟨W1, hW1⟩ : ∃ W', W' = W0.setCell ⟨o, 2, none⟩ (.bool la) := ⟨_, rfl⟩
  have HD1 := Lib.hid (show Dr w W1 r o (⟨false, true, la, 0, true, false, 0, 0, 0, false, 0⟩ : Ds) by rw [hW1]; exact HD0.out.turn 2 _ rfl)
  have HE1 := Lib.hid hW1
  clear hW1
  have s2 := HD0.out.out.cell 2
  have z2 := HD0.out.out.frozen 2
  simp only [List.getElem?_toArray, List.getElem?_cons_zero, List.getElem?_cons_succ] at s2
  go_wp2_with fail
  rw [← HE1.out]
  refine (wide_l la a HA.out _).mono ?_
  rintro e Wx ⟨rfl, rfl⟩
  clear c1 c4 s2 z2 HE1
  have c4 := HD1.out.out.cell 4
  simp only [List.getElem?_toArray, List.getElem?_cons_zero, List.getElem?_cons_succ] at c4
  obtain ⟨W2, hW2⟩ : ∃ W', W' = W1.setCell ⟨o, 5, none⟩ (.bool ld) := ⟨_, rfl⟩
  have HD2 := Lib.hid (show Dr w W2 r o (⟨false, true, la, 0, true, ld, 0, 0, 0, false, 0⟩ : Ds) by rw [hW2]; exact HD1.out.turn 5 _ rfl)
  have HE2 := Lib.hid hW2
  clear hW2
  have s5 := HD1.out.out.cell 5
  have z5 := HD1.out.out.frozen 5
  simp only [List.getElem?_toArray, List.getElem?_cons_zero, List.getElem?_cons_succ] at s5
  go_upto_region 17 with fail
  rw [← HE2.out]
  clear c4 s5 z5 HE2
  have c5 := HD2.out.out.cell 5
  simp only [List.getElem?_toArray, List.getElem?_cons_zero, List.getElem?_cons_succ] at c5
  obtain ⟨W3, hW3⟩ : ∃ W', W' = W2.setCell ⟨o, 0, none⟩ (.bool fin) := ⟨_, rfl⟩
  have HD3 := Lib.hid (show Dr w W3 r o (⟨fin, true, la, 0, true, ld, 0, 0, 0, false, 0⟩ : Ds) by rw [hW3]; exact HD2.out.turn 0 _ rfl)
  have HE3 := Lib.hid hW3
  clear hW3
  have s0 := HD2.out.out.cell 0
  have z0 := HD2.out.out.frozen 0
  simp only [List.getElem?_toArray, List.getElem?_cons_zero] at s0
  go_wp2_with fail
  rw [← HE3.out]
  refine (wide_l ld d HDW.out _).mono ?_
  rintro e Wx ⟨rfl, rfl⟩
  clear c5 s0 z0 HE3
  go_upto_region 19 with fail
  have HHAS := Lib.hid hhas
  clear hhas
  by_cases hsh : s.size < 2 + a + d + 6
  · have HSH := Lib.hid (show dec s = (.zero, 4) by rw [HDD.out, decc, if_neg HHAS.out, if_pos (by rw [HSZ.out]; exact hsh)])
    go_wp2_with (refine wpList_store_row rfl 26 _ _ rfl r (dsv Ds.zero) rfl rfl 26 _ HD3.out.ret ds_size rfl (ds_one _) ?_)
    exact decR_end s V w W3 r o (⟨fin, true, la, 0, true, ld, 0, 0, 0, false, 0⟩ : Ds) .zero 4 HD3.out HV.out HSH.out rfl rfl rfl
  have hge : 2 + a + d + 6 ≤ s.size := by omega
  by_cases heq : s.size = 2 + a + d + 6
  · have HEQ := Lib.hid heq
    have hle : s.size ≤ 2 + a + d + 6 := by omega
    clear heq
    have c4 := HD3.out.out.cell 4
    simp only [List.getElem?_toArray, List.getElem?_cons_zero, List.getElem?_cons_succ] at c4
    have hb9 : ((s.size : Int) == 2 + (a : Int) + (d : Int) + 6 + 2) = false := by rw [beq_eq_false_iff_ne]; omega
    obtain ⟨W4, hW4⟩ : ∃ W', W' = W3.setCell ⟨o, 9, none⟩ (.bool false) := ⟨_, rfl⟩
    have HD4 := Lib.hid (show Dr w W4 r o (⟨fin, true, la, 0, true, ld, 0, 0, 0, false, 0⟩ : Ds) by rw [hW4]; exact HD3.out.turn 9 _ rfl)
    have HE4 := Lib.hid hW4
    clear hW4
    have s9 := HD3.out.out.cell 9
    have z9 := HD3.out.out.frozen 9
    simp only [List.getElem?_toArray, List.getElem?_cons_zero, List.getElem?_cons_succ] at s9
    go_upto_region 25 with fail
    rw [← HE4.out]
    clear c4 hb9 s9 z9 HE4
    have c1 := HD4.out.out.cell 1
    have c4 := HD4.out.out.cell 4
    have c2 := HD4.out.out.cell 2
    simp only [List.getElem?_toArray, List.getElem?_cons_zero, List.getElem?_cons_succ] at c1 c4 c2
    obtain ⟨nA, hnA⟩ : ∃ n, n = num s 2 a := ⟨_, rfl⟩
    have HNA := Lib.hid hnA
    clear hnA
    obtain ⟨ZA, hZA⟩ : ∃ Z, s.extract (2) (2 + a) = Z := ⟨_, rfl⟩
    have slA := str_mid s (2) (2 + (a : Int)) (2) (2 + a) (by omega) (by omega) (by omega) (by omega) ZA hZA
    have nzA : num ZA 0 ZA.size = num s (2) a := by rw [← hZA]; exact num_part s (2) a (by omega)
    have zzA : ZA.size ≤ 8 := by rw [← hZA, size_extract s (2) a (by omega)]; omega
    go_wp2_with fail
    refine (wide_l la a HA.out _).mono ?_
    rintro e Wx ⟨rfl, rfl⟩
    go_wp2_with fail
    refine (Num_t ZA nA _ zzA (by rw [nzA, HNA.out])).mono ?_
    rintro e Wx ⟨rfl, rfl⟩
    clear slA nzA zzA hZA 
    obtain ⟨W5, hW5⟩ : ∃ W', W' = W4.setCell ⟨o, 3, none⟩ (.int .u64 (nA : Int)) := ⟨_, rfl⟩
    have HD5 := Lib.hid (show Dr w W5 r o (⟨fin, true, la, nA, true, ld, 0, 0, 0, false, 0⟩ : Ds) by rw [hW5]; exact HD4.out.turn 3 _ rfl)
    have HE5 := Lib.hid hW5
    clear hW5
    have s3 := HD4.out.out.cell 3
    have z3 := HD4.out.out.frozen 3
    simp only [List.getElem?_toArray, List.getElem?_cons_zero, List.getElem?_cons_succ] at s3
    go_wp2_with fail
    rw [← HE5.out]
    refine (wide_l la a HA.out _).mono ?_
    rintro e Wx ⟨rfl, rfl⟩
    clear c1 c4 c2 s3 z3 HE5
    have c4 := HD5.out.out.cell 4
    have c9 := HD5.out.out.cell 9
    have c5 := HD5.out.out.cell 5
    simp only [List.getElem?_toArray, List.getElem?_cons_zero, List.getElem?_cons_succ] at c4 c9 c5
    obtain ⟨nD, hnD⟩ : ∃ n, n = num s (2 + a) d := ⟨_, rfl⟩
    have HND := Lib.hid hnD
    clear hnD
    obtain ⟨ZD, hZD⟩ : ∃ Z, s.extract (2 + a) (2 + a + d) = Z := ⟨_, rfl⟩
    have slD := str_mid s (2 + (a : Int)) (2 + (a : Int) + (d : Int)) (2 + a) (2 + a + d) (by omega) (by omega) (by omega) (by omega) ZD hZD
    have nzD : num ZD 0 ZD.size = num s (2 + a) d := by rw [← hZD]; exact num_part s (2 + a) d (by omega)
    have zzD : ZD.size ≤ 8 := by rw [← hZD, size_extract s (2 + a) d (by omega)]; omega
    go_wp2_with fail
    refine (wide_l ld d HDW.out _).mono ?_
    rintro e Wx ⟨rfl, rfl⟩
    go_wp2_with fail
    refine (Num_t ZD nD _ zzD (by rw [nzD, HND.out])).mono ?_
    rintro e Wx ⟨rfl, rfl⟩
    clear slD nzD zzD hZD 
    obtain ⟨W6, hW6⟩ : ∃ W', W' = W5.setCell ⟨o, 6, none⟩ (.int .u64 (nD : Int)) := ⟨_, rfl⟩
    have HD6 := Lib.hid (show Dr w W6 r o (⟨fin, true, la, nA, true, ld, nD, 0, 0, false, 0⟩ : Ds) by rw [hW6]; exact HD5.out.turn 6 _ rfl)
    have HE6 := Lib.hid hW6
    clear hW6
    have s6 := HD5.out.out.cell 6
    have z6 := HD5.out.out.frozen 6
    simp only [List.getElem?_toArray, List.getElem?_cons_zero, List.getElem?_cons_succ] at s6
    go_wp2_with fail
    rw [← HE6.out]
    refine (wide_l ld d HDW.out _).mono ?_
    rintro e Wx ⟨rfl, rfl⟩
    clear c4 c9 c5 s6 z6 HE6
    obtain ⟨nS, hnS⟩ : ∃ n, n = num s (2 + a + d) 4 := ⟨_, rfl⟩
    have bS : nS ≤ 4294967295 := by rw [hnS]; have := num_lt s (2 + a + d) 4; omega
    have qS0 : (nS : Int) % 4294967296 = (nS : Int) := by omega
    have HNS := Lib.hid hnS
    clear hnS
    obtain ⟨ZS, hZS⟩ : ∃ Z, s.extract (2 + a + d) (2 + a + d + 4) = Z := ⟨_, rfl⟩
    have slS := str_mid s (2 + (a : Int) + (d : Int)) (2 + (a : Int) + (d : Int) + 4) (2 + a + d) (2 + a + d + 4) (by omega) (by omega) (by omega) (by omega) ZS hZS
    have nzS : num ZS 0 ZS.size = num s (2 + a + d) 4 := by rw [← hZS]; exact num_part s (2 + a + d) 4 (by omega)
    have zzS : ZS.size ≤ 8 := by rw [← hZS, size_extract s (2 + a + d) 4 (by omega)]; omega
    go_wp2_with fail
    refine (Num_t ZS nS _ zzS (by rw [nzS, HNS.out])).mono ?_
    rintro e Wx ⟨rfl, rfl⟩
    clear slS nzS zzS hZS 
    obtain ⟨W7, hW7⟩ : ∃ W', W' = W6.setCell ⟨o, 7, none⟩ (.int .u32 (nS : Int)) := ⟨_, rfl⟩
    have HD7 := Lib.hid (show Dr w W7 r o (⟨fin, true, la, nA, true, ld, nD, nS, 0, false, 0⟩ : Ds) by rw [hW7]; exact HD6.out.turn 7 _ rfl)
    have HE7 := Lib.hid hW7
    clear hW7
    have s7 := HD6.out.out.cell 7
    have z7 := HD6.out.out.frozen 7
    simp only [List.getElem?_toArray, List.getElem?_cons_zero, List.getElem?_cons_succ] at s7
    obtain ⟨nL, hnL⟩ : ∃ n, n = num s (2 + a + d + 4) 2 := ⟨_, rfl⟩
    have bL : nL ≤ 65535 := by rw [hnL]; have := num_lt s (2 + a + d + 4) 2; omega
    have qL0 : IntKind.i64.wrap (nL : Int) = (nL : Int) := by rw [IntKind.wrap_i64]; omega
    have qL1 : ((nL : Int) + 9223372036854775808) % 18446744073709551616 - 9223372036854775808 = (nL : Int) := by omega
    have HNL := Lib.hid hnL
    clear hnL
    obtain ⟨ZL, hZL⟩ : ∃ Z, s.extract (2 + a + d + 4) (2 + a + d + 4 + 2) = Z := ⟨_, rfl⟩
    have slL := str_mid s (2 + (a : Int) + (d : Int) + 4) (2 + (a : Int) + (d : Int) + 6) (2 + a + d + 4) (2 + a + d + 4 + 2) (by omega) (by omega) (by omega) (by omega) ZL hZL
    have nzL : num ZL 0 ZL.size = num s (2 + a + d + 4) 2 := by rw [← hZL]; exact num_part s (2 + a + d + 4) 2 (by omega)
    have zzL : ZL.size ≤ 8 := by rw [← hZL, size_extract s (2 + a + d + 4) 2 (by omega)]; omega
    go_wp2_with fail
    rw [← HE7.out]
    refine (Num_t ZL nL _ zzL (by rw [nzL, HNL.out])).mono ?_
    rintro e Wx ⟨rfl, rfl⟩
    clear slL nzL zzL hZL s7 z7 HE7 qS0
    have c9 := HD7.out.out.cell 9
    simp only [List.getElem?_toArray, List.getElem?_cons_zero, List.getElem?_cons_succ] at c9
    obtain ⟨W8, hW8⟩ : ∃ W', W' = W7.setCell ⟨o, 8, none⟩ (.int .i64 ((nL : Int) : Int)) := ⟨_, rfl⟩
    have HD8 := Lib.hid (show Dr w W8 r o (⟨fin, true, la, nA, true, ld, nD, nS, (nL : Int), false, 0⟩ : Ds) by rw [hW8]; exact HD7.out.turn 8 _ rfl)
    have HE8 := Lib.hid hW8
    clear hW8
    have s8 := HD7.out.out.cell 8
    have z8 := HD7.out.out.frozen 8
    simp only [List.getElem?_toArray, List.getElem?_cons_zero, List.getElem?_cons_succ] at s8
    go_upto_region 35 with fail
    rw [← HE8.out]
    clear c9 s8 z8 HE8 qL0 qL1
    have q := gotc_tt G s la ld fin false HF1.out HF4.out HF2.out HF8.out HF16.out
    rw [← HA.out, ← HNA.out, ← HDW.out, ← HND.out, ← HNS.out, ← HNL.out] at q
    have HFIN := Lib.hid (show dec s = ((⟨fin, true, la, nA, true, ld, nD, nS, (nL : Int), false, 0⟩ : Ds), 0) by rw [HDD.out, decc, if_neg HHAS.out, if_neg (by rw [HSZ.out]; omega), if_pos (by rw [HSZ.out]; exact HEQ.out), q]; rfl)
    clear q
    go_wp2_with (first
      | (refine wpList_load_row rfl 26 _ rfl o rfl 26 (dsv (⟨fin, true, la, nA, true, ld, nD, nS, (nL : Int), false, 0⟩ : Ds)) (0, 0) _ ?_ Try.underlying26 rfl ds_size ?_; exact HD8.out.out)
      | (refine wpList_store_row rfl 26 _ _ rfl r (dsv (⟨fin, true, la, nA, true, ld, nD, nS, (nL : Int), false, 0⟩ : Ds)) rfl rfl 26 _ HD8.out.ret ds_size rfl (ds_one _) ?_))
    exact decR_end s V w W8 r o (⟨fin, true, la, nA, true, ld, nD, nS, (nL : Int), false, 0⟩ : Ds) (⟨fin, true, la, nA, true, ld, nD, nS, (nL : Int), false, 0⟩ : Ds) 0 HD8.out HV.out HFIN.out rfl rfl rfl
  by_cases hsm : s.size = 2 + a + d + 6 + 2
  · have HEQ := Lib.hid hsm
    have hsm2 : 2 + a + d + 6 + 2 ≤ s.size ∧ s.size ≤ 2 + a + d + 6 + 2 := by omega
    clear heq hsm
    have c4 := HD3.out.out.cell 4
    simp only [List.getElem?_toArray, List.getElem?_cons_zero, List.getElem?_cons_succ] at c4
    have hb9 : ((s.size : Int) == 2 + (a : Int) + (d : Int) + 6 + 2) = true := by rw [beq_iff_eq]; omega
    obtain ⟨W4, hW4⟩ : ∃ W', W' = W3.setCell ⟨o, 9, none⟩ (.bool true) := ⟨_, rfl⟩
    have HD4 := Lib.hid (show Dr w W4 r o (⟨fin, true, la, 0, true, ld, 0, 0, 0, true, 0⟩ : Ds) by rw [hW4]; exact HD3.out.turn 9 _ rfl)
    have HE4 := Lib.hid hW4
    clear hW4
    have s9 := HD3.out.out.cell 9
    have z9 := HD3.out.out.frozen 9
    simp only [List.getElem?_toArray, List.getElem?_cons_zero, List.getElem?_cons_succ] at s9
    go_upto_region 25 with fail
    rw [← HE4.out]
    clear c4 hb9 s9 z9 HE4
    have c1 := HD4.out.out.cell 1
    have c4 := HD4.out.out.cell 4
    have c2 := HD4.out.out.cell 2
    simp only [List.getElem?_toArray, List.getElem?_cons_zero, List.getElem?_cons_succ] at c1 c4 c2
    obtain ⟨nA, hnA⟩ : ∃ n, n = num s 2 a := ⟨_, rfl⟩
    have HNA := Lib.hid hnA
    clear hnA
    obtain ⟨ZA, hZA⟩ : ∃ Z, s.extract (2) (2 + a) = Z := ⟨_, rfl⟩
    have slA := str_mid s (2) (2 + (a : Int)) (2) (2 + a) (by omega) (by omega) (by omega) (by omega) ZA hZA
    have nzA : num ZA 0 ZA.size = num s (2) a := by rw [← hZA]; exact num_part s (2) a (by omega)
    have zzA : ZA.size ≤ 8 := by rw [← hZA, size_extract s (2) a (by omega)]; omega
    go_wp2_with fail
    refine (wide_l la a HA.out _).mono ?_
    rintro e Wx ⟨rfl, rfl⟩
    go_wp2_with fail
    refine (Num_t ZA nA _ zzA (by rw [nzA, HNA.out])).mono ?_
    rintro e Wx ⟨rfl, rfl⟩
    clear slA nzA zzA hZA 
    obtain ⟨W5, hW5⟩ : ∃ W', W' = W4.setCell ⟨o, 3, none⟩ (.int .u64 (nA : Int)) := ⟨_, rfl⟩
    have HD5 := Lib.hid (show Dr w W5 r o (⟨fin, true, la, nA, true, ld, 0, 0, 0, true, 0⟩ : Ds) by rw [hW5]; exact HD4.out.turn 3 _ rfl)
    have HE5 := Lib.hid hW5
    clear hW5
    have s3 := HD4.out.out.cell 3
    have z3 := HD4.out.out.frozen 3
    simp only [List.getElem?_toArray, List.getElem?_cons_zero, List.getElem?_cons_succ] at s3
    go_wp2_with fail
    rw [← HE5.out]
    refine (wide_l la a HA.out _).mono ?_
    rintro e Wx ⟨rfl, rfl⟩
    clear c1 c4 c2 s3 z3 HE5
    have c4 := HD5.out.out.cell 4
    have c9 := HD5.out.out.cell 9
    have c5 := HD5.out.out.cell 5
    simp only [List.getElem?_toArray, List.getElem?_cons_zero, List.getElem?_cons_succ] at c4 c9 c5
    obtain ⟨nD, hnD⟩ : ∃ n, n = num s (2 + a) d := ⟨_, rfl⟩
    have HND := Lib.hid hnD
    clear hnD
    obtain ⟨ZD, hZD⟩ : ∃ Z, s.extract (2 + a) (2 + a + d) = Z := ⟨_, rfl⟩
    have slD := str_mid s (2 + (a : Int)) (2 + (a : Int) + (d : Int)) (2 + a) (2 + a + d) (by omega) (by omega) (by omega) (by omega) ZD hZD
    have nzD : num ZD 0 ZD.size = num s (2 + a) d := by rw [← hZD]; exact num_part s (2 + a) d (by omega)
    have zzD : ZD.size ≤ 8 := by rw [← hZD, size_extract s (2 + a) d (by omega)]; omega
    go_wp2_with fail
    refine (wide_l ld d HDW.out _).mono ?_
    rintro e Wx ⟨rfl, rfl⟩
    go_wp2_with fail
    refine (Num_t ZD nD _ zzD (by rw [nzD, HND.out])).mono ?_
    rintro e Wx ⟨rfl, rfl⟩
    clear slD nzD zzD hZD 
    obtain ⟨W6, hW6⟩ : ∃ W', W' = W5.setCell ⟨o, 6, none⟩ (.int .u64 (nD : Int)) := ⟨_, rfl⟩
    have HD6 := Lib.hid (show Dr w W6 r o (⟨fin, true, la, nA, true, ld, nD, 0, 0, true, 0⟩ : Ds) by rw [hW6]; exact HD5.out.turn 6 _ rfl)
    have HE6 := Lib.hid hW6
    clear hW6
    have s6 := HD5.out.out.cell 6
    have z6 := HD5.out.out.frozen 6
    simp only [List.getElem?_toArray, List.getElem?_cons_zero, List.getElem?_cons_succ] at s6
    go_wp2_with fail
    rw [← HE6.out]
    refine (wide_l ld d HDW.out _).mono ?_
    rintro e Wx ⟨rfl, rfl⟩
    clear c4 c9 c5 s6 z6 HE6
    obtain ⟨nS, hnS⟩ : ∃ n, n = num s (2 + a + d) 4 := ⟨_, rfl⟩
    have bS : nS ≤ 4294967295 := by rw [hnS]; have := num_lt s (2 + a + d) 4; omega
    have qS0 : (nS : Int) % 4294967296 = (nS : Int) := by omega
    have HNS := Lib.hid hnS
    clear hnS
    obtain ⟨ZS, hZS⟩ : ∃ Z, s.extract (2 + a + d) (2 + a + d + 4) = Z := ⟨_, rfl⟩
    have slS := str_mid s (2 + (a : Int) + (d : Int)) (2 + (a : Int) + (d : Int) + 4) (2 + a + d) (2 + a + d + 4) (by omega) (by omega) (by omega) (by omega) ZS hZS
    have nzS : num ZS 0 ZS.size = num s (2 + a + d) 4 := by rw [← hZS]; exact num_part s (2 + a + d) 4 (by omega)
    have zzS : ZS.size ≤ 8 := by rw [← hZS, size_extract s (2 + a + d) 4 (by omega)]; omega
    go_wp2_with fail
    refine (Num_t ZS nS _ zzS (by rw [nzS, HNS.out])).mono ?_
    rintro e Wx ⟨rfl, rfl⟩
    clear slS nzS zzS hZS 
    obtain ⟨W7, hW7⟩ : ∃ W', W' = W6.setCell ⟨o, 7, none⟩ (.int .u32 (nS : Int)) := ⟨_, rfl⟩
    have HD7 := Lib.hid (show Dr w W7 r o (⟨fin, true, la, nA, true, ld, nD, nS, 0, true, 0⟩ : Ds) by rw [hW7]; exact HD6.out.turn 7 _ rfl)
    have HE7 := Lib.hid hW7
    clear hW7
    have s7 := HD6.out.out.cell 7
    have z7 := HD6.out.out.frozen 7
    simp only [List.getElem?_toArray, List.getElem?_cons_zero, List.getElem?_cons_succ] at s7
    obtain ⟨nL, hnL⟩ : ∃ n, n = num s (2 + a + d + 4) 2 := ⟨_, rfl⟩
    have bL : nL ≤ 65535 := by rw [hnL]; have := num_lt s (2 + a + d + 4) 2; omega
    have qL0 : IntKind.i64.wrap (nL : Int) = (nL : Int) := by rw [IntKind.wrap_i64]; omega
    have qL1 : ((nL : Int) + 9223372036854775808) % 18446744073709551616 - 9223372036854775808 = (nL : Int) := by omega
    have HNL := Lib.hid hnL
    clear hnL
    obtain ⟨ZL, hZL⟩ : ∃ Z, s.extract (2 + a + d + 4) (2 + a + d + 4 + 2) = Z := ⟨_, rfl⟩
    have slL := str_mid s (2 + (a : Int) + (d : Int) + 4) (2 + (a : Int) + (d : Int) + 6) (2 + a + d + 4) (2 + a + d + 4 + 2) (by omega) (by omega) (by omega) (by omega) ZL hZL
    have nzL : num ZL 0 ZL.size = num s (2 + a + d + 4) 2 := by rw [← hZL]; exact num_part s (2 + a + d + 4) 2 (by omega)
    have zzL : ZL.size ≤ 8 := by rw [← hZL, size_extract s (2 + a + d + 4) 2 (by omega)]; omega
    go_wp2_with fail
    rw [← HE7.out]
    refine (Num_t ZL nL _ zzL (by rw [nzL, HNL.out])).mono ?_
    rintro e Wx ⟨rfl, rfl⟩
    clear slL nzL zzL hZL s7 z7 HE7 qS0
    have c9 := HD7.out.out.cell 9
    simp only [List.getElem?_toArray, List.getElem?_cons_zero, List.getElem?_cons_succ] at c9
    obtain ⟨W8, hW8⟩ : ∃ W', W' = W7.setCell ⟨o, 8, none⟩ (.int .i64 ((nL : Int) : Int)) := ⟨_, rfl⟩
    have HD8 := Lib.hid (show Dr w W8 r o (⟨fin, true, la, nA, true, ld, nD, nS, (nL : Int), true, 0⟩ : Ds) by rw [hW8]; exact HD7.out.turn 8 _ rfl)
    have HE8 := Lib.hid hW8
    clear hW8
    have s8 := HD7.out.out.cell 8
    have z8 := HD7.out.out.frozen 8
    simp only [List.getElem?_toArray, List.getElem?_cons_zero, List.getElem?_cons_succ] at s8
    obtain ⟨nU, hnU⟩ : ∃ n, n = num s (2 + a + d + 6) 2 := ⟨_, rfl⟩
    have bU : nU ≤ 65535 := by rw [hnU]; have := num_lt s (2 + a + d + 6) 2; omega
    have qU0 : (nU : Int) % 65536 = (nU : Int) := by omega
    have qU1 : IntKind.u16.wrap (nU : Int) = (nU : Int) := by rw [IntKind.wrap_u16]; omega
    have HNU := Lib.hid hnU
    clear hnU
    obtain ⟨ZU, hZU⟩ : ∃ Z, s.extract (2 + a + d + 6) (2 + a + d + 6 + 2) = Z := ⟨_, rfl⟩
    have slU := str_mid s (2 + (a : Int) + (d : Int) + 6) (2 + (a : Int) + (d : Int) + 6 + 2) (2 + a + d + 6) (2 + a + d + 6 + 2) (by omega) (by omega) (by omega) (by omega) ZU hZU
    have nzU : num ZU 0 ZU.size = num s (2 + a + d + 6) 2 := by rw [← hZU]; exact num_part s (2 + a + d + 6) 2 (by omega)
    have zzU : ZU.size ≤ 8 := by rw [← hZU, size_extract s (2 + a + d + 6) 2 (by omega)]; omega
    go_wp2_with fail
    rw [← HE8.out]
    refine (Num_t ZU nU _ zzU (by rw [nzU, HNU.out])).mono ?_
    rintro e Wx ⟨rfl, rfl⟩
    clear slU nzU zzU hZU c9 s8 z8 HE8 qL0 qL1
    obtain ⟨W9, hW9⟩ : ∃ W', W' = W8.setCell ⟨o, 10, none⟩ (.int .u16 (nU : Int)) := ⟨_, rfl⟩
    have HD9 := Lib.hid (show Dr w W9 r o (⟨fin, true, la, nA, true, ld, nD, nS, (nL : Int), true, nU⟩ : Ds) by rw [hW9]; exact HD8.out.turn 10 _ rfl)
    have HE9 := Lib.hid hW9
    clear hW9
    have s10 := HD8.out.out.cell 10
    have z10 := HD8.out.out.frozen 10
    simp only [List.getElem?_toArray, List.getElem?_cons_zero, List.getElem?_cons_succ] at s10
    go_upto_region 35 with fail
    rw [← HE9.out]
    clear s10 z10 HE9 qU0 qU1
    have q := gotc_tt G s la ld fin true HF1.out HF4.out HF2.out HF8.out HF16.out
    rw [← HA.out, ← HNA.out, ← HDW.out, ← HND.out, ← HNS.out, ← HNL.out] at q
    rw [show w2 true = 2 from rfl, show 2 + a + d + 4 + 2 = 2 + a + d + 6 from rfl, ← HNU.out] at q
    have HFIN := Lib.hid (show dec s = ((⟨fin, true, la, nA, true, ld, nD, nS, (nL : Int), true, nU⟩ : Ds), 0) by rw [HDD.out, decc, if_neg HHAS.out, if_neg (by rw [HSZ.out]; omega), if_neg (by rw [HSZ.out]; have := HEQ.out; omega), if_pos ⟨HF4.out, by rw [HSZ.out]; exact HEQ.out⟩, q])
    clear q
    go_wp2_with (first
      | (refine wpList_load_row rfl 26 _ rfl o rfl 26 (dsv (⟨fin, true, la, nA, true, ld, nD, nS, (nL : Int), true, nU⟩ : Ds)) (0, 0) _ ?_ Try.underlying26 rfl ds_size ?_; exact HD9.out.out)
      | (refine wpList_store_row rfl 26 _ _ rfl r (dsv (⟨fin, true, la, nA, true, ld, nD, nS, (nL : Int), true, nU⟩ : Ds)) rfl rfl 26 _ HD9.out.ret ds_size rfl (ds_one _) ?_))
    exact decR_end s V w W9 r o (⟨fin, true, la, nA, true, ld, nD, nS, (nL : Int), true, nU⟩ : Ds) (⟨fin, true, la, nA, true, ld, nD, nS, (nL : Int), true, nU⟩ : Ds) 0 HD9.out HV.out HFIN.out rfl rfl rfl
  · have hsum : ¬ (fl G 4 = true ∧ s.size = 2 + a + d + 6 + 2) := fun q => hsm q.2
    have c4 := HD3.out.out.cell 4
    simp only [List.getElem?_toArray, List.getElem?_cons_zero, List.getElem?_cons_succ] at c4
    have hb9 : ((s.size : Int) == 2 + (a : Int) + (d : Int) + 6 + 2) = false := by rw [beq_eq_false_iff_ne]; omega
    obtain ⟨W4, hW4⟩ : ∃ W', W' = W3.setCell ⟨o, 9, none⟩ (.bool false) := ⟨_, rfl⟩
    have HD4 := Lib.hid (show Dr w W4 r o (⟨fin, true, la, 0, true, ld, 0, 0, 0, false, 0⟩ : Ds) by rw [hW4]; exact HD3.out.turn 9 _ rfl)
    have HE4 := Lib.hid hW4
    clear hW4
    have s9 := HD3.out.out.cell 9
    have z9 := HD3.out.out.frozen 9
    simp only [List.getElem?_toArray, List.getElem?_cons_zero, List.getElem?_cons_succ] at s9
    go_upto_region 23 with fail
    rw [← HE4.out]
    clear c4 hb9 s9 z9 HE4
    have HLG := Lib.hid (show dec s = (.zero, 5) by rw [HDD.out, decc, if_neg HHAS.out, if_neg (by rw [HSZ.out]; exact hsh), if_neg (by rw [HSZ.out]; exact heq), if_neg (by rw [HSZ.out]; exact hsum)])
    go_wp2_with (refine wpList_store_row rfl 26 _ _ rfl r (dsv Ds.zero) rfl rfl 26 _ HD4.out.ret ds_size rfl (ds_one _) ?_)
    exact decR_end s V w W4 r o (⟨fin, true, la, 0, true, ld, 0, 0, 0, false, 0⟩ : Ds) .zero 5 HD4.out HV.out HLG.out rfl rfl rfl
set_option maxHeartbeats 4000000 in
set_option maxRecDepth 100000 in
theorem DecodeR_any (s : ByteArray) (w : World) (hs : s.size ≤ 9223372036854775000) :
    Calls Try.prog 14 #[.string s] w fun e w' => e = .returned (decV s) ∧ Below w.heap.size w w' := by
  obtain ⟨V, hV⟩ : ∃ V, V = decV s := ⟨_, rfl⟩
  rw [← hV]
  have HV := Lib.hid hV
  have HZ := Lib.hid (Blk.new w 26 (dsv Ds.zero))
  have HB := Lib.hid ((Below.refl _ w).alloc (Nat.le_refl _) (.cells (dsv Ds.zero) 26))
  have HSE := Lib.hid (setRow_heap _ w.heap.size _ (dsv Ds.zero) _ _ HZ.out)
  have HBE := Lib.hid (below_setRow HB.out (Nat.le_refl _) (dsv Ds.zero))
  by_cases hs0 : s.size = 0
  · have hnil : s.toList = ([] : List UInt8) := by
      rw [ByteArray.toList_eq]; exact List.eq_nil_of_length_eq_zero (by rw [len_data]; exact hs0)
    have hem : s.toList.isEmpty = true := by rw [hnil]; rfl
    have HVZ := Lib.hid (show V = .tuple #[.agg (dsv Ds.zero), .int .i64 4] by rw [HV.out, decV, dec_short s hs0])
    clear hs0 hV
    go_enter Try.func14, Try.ntmps14
    go_wp2_with (refine wpList_store_row rfl 26 _ _ rfl w.heap.size (dsv Ds.zero) rfl rfl 26 _ HZ.out ds_size rfl (ds_one _) ?_)
    exact bodyPost_ret (results_row_tmp rfl _ _ w.heap.size 26 (dsv Ds.zero) (0, 0) _ rfl HSE.out Try.underlying26 rfl ds_size) rfl ⟨by rw [HVZ.out]; rfl, HBE.out⟩
  have hne : ¬ s.toList = [] := fun q => hs0 (by have : s.data.toList.length = 0 := by rw [← ByteArray.toList_eq, q]; rfl
                                                 rw [len_data] at this; exact this)
  have hem : s.toList.isEmpty = false := by simpa using hne
  have h0 : 0 < s.size := by omega
  have l0 : (0 : Int) < (s.size : Int) := by omega
  obtain ⟨F, hF⟩ : ∃ F, F = byteAt s 0 := ⟨_, rfl⟩
  have hF0 : (s[0].toNat : Int) = (F : Int) := by rw [hF, byteAt_get s 0 h0]
  have hF8 : F < 256 := by rw [hF]; exact byteAt_lt s 0
  by_cases hk : F / 16 = 2
  case neg =>
    have HVZ := Lib.hid (show V = .tuple #[.agg (dsv Ds.zero), .int .i64 7] by rw [HV.out, decV, dec_kind s hs0 (by rw [← hF]; exact hk)])
    have e1 : ((F : Int) / 16 % 256 != 2) = true := by rw [bne_iff_ne]; omega
    clear hF hs0 hV
    go_enter Try.func14, Try.ntmps14
    go_wp2_with (refine wpList_store_row rfl 26 _ _ rfl w.heap.size (dsv Ds.zero) rfl rfl 26 _ HZ.out ds_size rfl (ds_one _) ?_)
    exact bodyPost_ret (results_row_tmp rfl _ _ w.heap.size 26 (dsv Ds.zero) (0, 0) _ rfl HSE.out Try.underlying26 rfl ds_size) rfl ⟨by rw [HVZ.out]; rfl, HBE.out⟩
  have hk' : byteAt s 0 / 16 = 2 := by rw [← hF]; exact hk
  have e0 : ((F : Int) / 16 % 256 != 2) = false := by rw [bne_eq_false_iff_eq]; omega
  by_cases h1 : s.size < 2
  · have HVZ := Lib.hid (show V = .tuple #[.agg (dsv Ds.zero), .int .i64 4] by rw [HV.out, decV, dec_one s (by omega) hk'])
    clear hF hs0 hk' hV
    go_enter Try.func14, Try.ntmps14
    go_wp2_with (refine wpList_store_row rfl 26 _ _ rfl w.heap.size (dsv Ds.zero) rfl rfl 26 _ HZ.out ds_size rfl (ds_one _) ?_)
    exact bodyPost_ret (results_row_tmp rfl _ _ w.heap.size 26 (dsv Ds.zero) (0, 0) _ rfl HSE.out Try.underlying26 rfl ds_size) rfl ⟨by rw [HVZ.out]; rfl, HBE.out⟩
  have h2 : 1 < s.size := by omega
  have l1 : (1 : Int) < (s.size : Int) := by omega
  obtain ⟨G, hG⟩ : ∃ G, G = byteAt s 1 := ⟨_, rfl⟩
  have hG0 : (s[1].toNat : Int) = (G : Int) := by rw [hG, byteAt_get s 1 h2]
  have hG8 : G < 256 := by rw [hG]; exact byteAt_lt s 1
  have hD : dec s = decc G s := by rw [dec_two s (by omega) hk', ← hG]
  cases f1 : fl G 1 <;> cases f4 : fl G 4
  · have g1 : ((G : Int) % 2 == 1) = false := by rw [fl_1, f1]
    have g4 : ((G : Int) / 4 % 2 == 1) = false := by rw [← f4, ← fl_k G 4]; rfl
    have HVZ := Lib.hid (show V = .tuple #[.agg (dsv Ds.zero), .int .i64 5] by rw [HV.out, decV, hD, decc, if_pos ⟨f1, f4⟩])
    obtain ⟨W0, hW0⟩ : ∃ W', W' = (w.alloc (.cells (dsv .zero) 26)).alloc (.cells (dsv .zero) 26) := ⟨_, rfl⟩
    have HZ0 := Lib.hid (show Blk W0 w.heap.size 26 (dsv .zero) by rw [hW0]; exact HZ.out.alloc _)
    have HB0 := Lib.hid (show Below w.heap.size w W0 by rw [hW0]; exact HB.out.alloc HB.out.size _)
    have c1 : W0.cell? ⟨w.heap.size + 1, 1, none⟩ = some (.bool false) ∧ W0.cell? ⟨w.heap.size + 1, 4, none⟩ = some (.bool false) := by
      have q1 := Blk.new (w.alloc (.cells (dsv .zero) 26)) 26 (dsv .zero)
      rw [show (w.alloc (.cells (dsv .zero) 26)).heap.size = w.heap.size + 1 by simp, ← hW0] at q1
      exact ⟨q1.cell 1, q1.cell 4⟩
    obtain ⟨c1, c4⟩ := c1
    have HE := Lib.hid hW0
    clear hF hs0 hk' hV hG hW0 hD
    go_enter Try.func14, Try.ntmps14
    go_upto_region 9 with fail
    have hE : W0 = (w.alloc (.cells #[.bool false, .bool false, .bool false, .int .u64 0, .bool false, .bool false, .int .u64 0, .int .u32 0, .int .i64 0, .bool false, .int .u16 0] 26)).alloc (.cells #[.bool false, .bool false, .bool false, .int .u64 0, .bool false, .bool false, .int .u64 0, .int .u32 0, .int .i64 0, .bool false, .int .u16 0] 26) := HE.out
    rw [← hE]
    clear hE
    have HSE0 := Lib.hid (setRow_heap _ w.heap.size _ (dsv Ds.zero) _ _ HZ0.out)
    have HBE0 := Lib.hid (below_setRow HB0.out (Nat.le_refl _) (dsv Ds.zero))
    go_wp2_with (refine wpList_store_row rfl 26 _ _ rfl w.heap.size (dsv Ds.zero) rfl rfl 26 _ HZ0.out ds_size rfl (ds_one _) ?_)
    exact bodyPost_ret (results_row_tmp rfl _ _ w.heap.size 26 (dsv Ds.zero) (0, 0) _ rfl HSE0.out Try.underlying26 rfl ds_size) rfl ⟨by rw [HVZ.out]; rfl, HBE0.out⟩
  · exact decR_ft s w hs V hV F G hem hne h0 l0 hF0 hF8 hk e0 h2 l1 hG0 hG8 hD (by rw [fl_1, f1]) (by rw [← f4, ← fl_k G 4]; rfl) (by rw [f1, f4]; simp) f1 f4 (fl G 8) (fl G 16) (by rw [← fl_k G 8]; rfl) (by rw [← fl_k G 16]; rfl) _ rfl rfl rfl (by unfold sizc; rw [f1, f4]; rfl)
  · exact decR_tf s w hs V hV F G hem hne h0 l0 hF0 hF8 hk e0 h2 l1 hG0 hG8 hD (by rw [fl_1, f1]) (by rw [← f4, ← fl_k G 4]; rfl) (by rw [f1, f4]; simp) f1 f4 (fl G 2) (by rw [← fl_k G 2]; rfl) _ rfl rfl (by unfold sizc; rw [f1, f4]; rfl)
  · exact decR_tt s w hs V hV F G hem hne h0 l0 hF0 hF8 hk e0 h2 l1 hG0 hG8 hD (by rw [fl_1, f1]) (by rw [← f4, ← fl_k G 4]; rfl) (by rw [f1, f4]; simp) f1 f4 (fl G 2) (by rw [← fl_k G 2]; rfl) _ rfl rfl (fl G 8) (fl G 16) (by rw [← fl_k G 8]; rfl) (by rw [← fl_k G 16]; rfl) _ rfl rfl rfl (by unfold sizc; rw [f1, f4]; rfl)
end Go.Proofs.Ytdhkjhkgjfcolaa
