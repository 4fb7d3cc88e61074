/-
  What reader, its closure and Decode of package capable answer, each by its walk.
-/
import Derived.Test.YtpedbmnifjhaiaaCapWalks
import Derived.Test.YtpedbmnifjhaiaaCurMoves
namespace Go.Proofs.Ytpedbmnifjhaiaa
open Go.ChangeShapes Go.WideShapes Go.ChangeAt Go.RowKit
set_option linter.unusedVariables false

/-- The closure that reads, as a value: its captured variable lies in block g. -/
abbrev nextF (g : Nat) : Value := .func (.func 38) #[] #[.pointer (some ⟨g, 0, none⟩)]
/-- A reader in memory: block g holds the cursor's pointer, block b the cursor, which stands at k. -/
structure Rdr (w : World) (g b : Nat) (s : ByteArray) (k : Nat) (br : Bool) : Prop where
  box : Blk w g 75 #[.pointer (some ⟨b, 0, none⟩)]
  cur : Cur w b s k br
  ne : g ≠ b
  at_ : k ≤ s.size
theorem Rdr.below {w w' : World} {g b : Nat} {s : ByteArray} {k : Nat} {br : Bool} (h : Rdr w g b s k br) (q : Below w.heap.size w w') : Rdr w' g b s k br := ⟨h.box.below q h.box.lt, Blk.below h.cur q (Blk.lt h.cur), h.ne, h.at_⟩
theorem Rdr.alloc {w : World} {g b : Nat} {s : ByteArray} {k : Nat} {br : Bool} (h : Rdr w g b s k br) (o : Obj) : Rdr (w.alloc o) g b s k br := ⟨h.box.alloc o, Blk.alloc h.cur o, h.ne, h.at_⟩

theorem reader_any (s : ByteArray) (w : World) :
    Calls Try.prog 24 #[.string s] w fun e w' => e = .returned (nextF (w.heap.size + 1)) ∧ Rdr w' (w.heap.size + 1) w.heap.size s 0 false ∧ Below w.heap.size w w' := by
  go_enter Try.func24, Try.ntmps24
  go_wp2_with fail
  refine (Read_any s w).mono ?_
  rintro e w' ⟨rfl, rfl⟩
  go_wp2_with fail
  go_ret
  refine ⟨by simp, ⟨?_, (Blk.new w 92 _).alloc _, by omega, Nat.zero_le _⟩, ((Below.refl _ w).alloc (Nat.le_refl _) _).alloc (by simp) _⟩
  have := Blk.new (w.alloc (.cells #[.string s, .int .i64 0, .bool false] 92)) 75 #[.pointer (some ⟨w.heap.size, 0, none⟩)]
  simpa using this
theorem next_0 (g b : Nat) (s : ByteArray) (k : Nat) (br : Bool) (w : World) (h : Rdr w g b s k br) :
    Calls Try.prog 38 #[.int .i64 0, .pointer (some ⟨g, 0, none⟩)] w fun e w' => e = .returned (.int .u64 0) ∧ w = w' := by
  go_enter Try.func38, Try.ntmps38
  go_wp2_with fail
  go_ret; exact ⟨rfl, rfl⟩
theorem next_1 (g b : Nat) (s : ByteArray) (k : Nat) (br : Bool) (w : World) (hs : s.size ≤ 9223372036854775807) (h : Rdr w g b s k br) :
    Calls Try.prog 38 #[.int .i64 1, .pointer (some ⟨g, 0, none⟩)] w fun e w' => e = .returned (.int .u64 (numO s k br 1 : Nat)) ∧ w.grownBy w' (some b) ∧ Rdr w' g b s (posO s k br (1 : Nat)) (brO s k br (1 : Nat)) := by
  have c := h.box.cell 0
  simp only [List.getElem?_toArray, List.getElem?_cons_zero] at c
  have H := Lib.hid h
  clear h
  go_enter Try.func38, Try.ntmps38
  go_wp2_with fail
  refine (U8_any b s k br w hs H.out.at_ H.out.cur).mono ?_
  rintro e w' ⟨rfl, hg, hc⟩
  have HG := Lib.hid hg
  have HC := Lib.hid hc
  clear hg hc
  have hn := numO_le_1 s k br
  obtain ⟨n, hN⟩ : ∃ n, n = numO s k br 1 := ⟨_, rfl⟩
  rw [← hN] at hn ⊢
  have HN := Lib.hid hN
  clear hN
  have hw16 : IntKind.u64.wrap (n : Int) = (n : Int) := by rw [IntKind.wrap_u64]; omega
  go_wp2_with fail
  go_ret
  refine ⟨?_, HG.out, ⟨H.out.box.grown HG.out (by simpa using H.out.ne), HC.out, H.out.ne, posO_le s k br _ H.out.at_⟩⟩
  show Ending.returned (.int .u64 _) = .returned (.int .u64 _)
  exact ret_int (by rw [HN.out])
theorem next_2 (g b : Nat) (s : ByteArray) (k : Nat) (br : Bool) (w : World) (hs : s.size ≤ 9223372036854775807) (h : Rdr w g b s k br) :
    Calls Try.prog 38 #[.int .i64 2, .pointer (some ⟨g, 0, none⟩)] w fun e w' => e = .returned (.int .u64 (numO s k br 2 : Nat)) ∧ w.grownBy w' (some b) ∧ Rdr w' g b s (posO s k br (2 : Nat)) (brO s k br (2 : Nat)) := by
  have c := h.box.cell 0
  simp only [List.getElem?_toArray, List.getElem?_cons_zero] at c
  have H := Lib.hid h
  clear h
  go_enter Try.func38, Try.ntmps38
  go_wp2_with fail
  refine (U16_any b s k br w hs H.out.at_ H.out.cur).mono ?_
  rintro e w' ⟨rfl, hg, hc⟩
  have HG := Lib.hid hg
  have HC := Lib.hid hc
  clear hg hc
  have hn := numO_le_2 s k br
  obtain ⟨n, hN⟩ : ∃ n, n = numO s k br 2 := ⟨_, rfl⟩
  rw [← hN] at hn ⊢
  have HN := Lib.hid hN
  clear hN
  have hw16 : IntKind.u64.wrap (n : Int) = (n : Int) := by rw [IntKind.wrap_u64]; omega
  go_wp2_with fail
  go_ret
  refine ⟨?_, HG.out, ⟨H.out.box.grown HG.out (by simpa using H.out.ne), HC.out, H.out.ne, posO_le s k br _ H.out.at_⟩⟩
  show Ending.returned (.int .u64 _) = .returned (.int .u64 _)
  exact ret_int (by rw [HN.out])
theorem next_8 (g b : Nat) (s : ByteArray) (k : Nat) (br : Bool) (w : World) (hs : s.size ≤ 9223372036854775807) (h : Rdr w g b s k br) :
    Calls Try.prog 38 #[.int .i64 8, .pointer (some ⟨g, 0, none⟩)] w fun e w' => e = .returned (.int .u64 (numO s k br 8 : Nat)) ∧ w.grownBy w' (some b) ∧ Rdr w' g b s (posO s k br (8 : Nat)) (brO s k br (8 : Nat)) := by
  have c := h.box.cell 0
  simp only [List.getElem?_toArray, List.getElem?_cons_zero] at c
  have H := Lib.hid h
  clear h
  go_enter Try.func38, Try.ntmps38
  go_wp2_with fail
  refine (U64_any b s k br w hs H.out.at_ H.out.cur).mono ?_
  rintro e w' ⟨rfl, hg, hc⟩
  have HG := Lib.hid hg
  have HC := Lib.hid hc
  clear hg hc
  have hn := numO_le_8 s k br
  obtain ⟨n, hN⟩ : ∃ n, n = numO s k br 8 := ⟨_, rfl⟩
  rw [← hN] at hn ⊢
  have HN := Lib.hid hN
  clear hN
  have hw16 : IntKind.u64.wrap (n : Int) = (n : Int) := by rw [IntKind.wrap_u64]; omega
  go_wp2_with fail
  go_ret
  refine ⟨?_, HG.out, ⟨H.out.box.grown HG.out (by simpa using H.out.ne), HC.out, H.out.ne, posO_le s k br _ H.out.at_⟩⟩
  show Ending.returned (.int .u64 _) = .returned (.int .u64 _)
  exact ret_int (by rw [HN.out])
/-- What the closure answers, whichever of the widths. -/
theorem next_any (g b : Nat) (s : ByteArray) (k : Nat) (m : Nat) (hm : m = 0 ∨ m = 1 ∨ m = 2 ∨ m = 8) (w : World) (hs : s.size ≤ 9223372036854775807) (h : Rdr w g b s k false) (hk : k + m ≤ s.size) :
    Calls Try.prog 38 #[.int .i64 (m : Int), .pointer (some ⟨g, 0, none⟩)] w fun e w' => e = .returned (.int .u64 (num s k m : Nat)) ∧ w.grownBy w' (some b) ∧ Rdr w' g b s (k + m) false := by
  have hf : fits s k false (m : Int) = true := by unfold fits; simp; omega
  rcases hm with rfl | rfl | rfl | rfl
  · exact (next_0 g b s k false w h).mono fun e w' q => ⟨q.1, by rw [← q.2]; exact ⟨.refl _ _, h⟩⟩
  · have := next_1 g b s k false w hs h
    rw [posO_t hf, brO_t hf, numO_t hf] at this
    exact this
  · have := next_2 g b s k false w hs h
    rw [posO_t hf, brO_t hf, numO_t hf] at this
    exact this
  · have := next_8 g b s k false w hs h
    rw [posO_t hf, brO_t hf, numO_t hf] at this
    exact this
theorem capz : (#[.int .i64 0, .int .i64 0, .bool false, .bool false, .int .u64 0, .int .u64 0, .int .i64 0, .int .u16 0] : Array Value) = capv Cap.zero := rfl
theorem results_row_tmp {P : Program} {fn : Func} {p t : Tmp} {ty : TypeId} (h : fn.results = #[.cell p ty, .tmp t]) (tmps : Array Value) (w : World) (g : Nat) (t' : TypeId) (cs : Array Value) (fr : Nat × Nat) (d : TypeDesc)
    (hp : tmps.getD p undef = .pointer (some ⟨g, 0, none⟩)) (hg : w.heap[g]? = some (.cells cs t' fr))
    (hu : P.underlying ty = some d) (hd : (match d with | .struct _ | .array _ _ => true | _ => false) = true) (hi : (P.info? ty).map (·.size) = some cs.size) :
    (results fn tmps).run P w = .ok (.tuple #[.agg cs, tmps.getD t undef]) w := by
  have hp' : tmps[p]?.getD undef = .pointer (some ⟨g, 0, none⟩) := by simpa using hp
  simp [results, h, hp', asAddr, run_loadVar_row w g t' ty cs fr d hg hu hd hi]
/-- What 'Decode' answers. -/
def decV (s : ByteArray) : Value := .tuple #[.agg (capv (dec s).1), .int .i64 (dec s).2]
theorem byte_and1 : ∀ c : Fin 256, bits .and .u64 (c.val : Int) 1 = ((c.val % 2 : Nat) : Int) := by decide +kernel
theorem byte_and128 : ∀ c : Fin 256, (!(bits .and .u64 (c.val : Int) 128 == 0)) = decide (128 ≤ c.val) := by decide +kernel
theorem byte_and32 : ∀ c : Fin 256, (!(bits .and .u64 (c.val : Int) 32 == 0)) = decide (c.val / 32 % 2 = 1) := by decide +kernel
theorem Blk.setOther {w : World} {g : Nat} {t : TypeId} {cs : Array Value} (h : Blk w g t cs) {X : Nat} (hne : g ≠ X) (i : Nat) (u : Value) : Blk (w.setCell ⟨X, i, none⟩ u) g t cs := h.same (Below.heap_setCell w ⟨X, i, none⟩ u g hne)
/-- Where Decode stands as it fills an option's fields. -/
structure Fill (w W : World) (g c X D : Nat) (s : ByteArray) (k : Nat) (f : Int) (cs : Array Value) : Prop where
  rd : Rdr W g c s k false
  x : Blk W X 25 cs
  d : Blk W D 47 (widv f)
  z : Blk W w.heap.size 25 (capv Cap.zero)
  b : Below w.heap.size w W
  zc : w.heap.size < c
  cX : c ≠ X
  gX : g ≠ X
  cD : c ≠ D
  DX : D ≠ X
  zX : w.heap.size < X
namespace Fill
variable {w W W' : World} {g c X D : Nat} {s : ByteArray} {k k' : Nat} {f : Int} {cs : Array Value}
theorem next (h : Fill w W g c X D s k f cs) (hg : W.grownBy W' (some c)) (hr : Rdr W' g c s k' false) : Fill w W' g c X D s k' f cs :=
  ⟨hr, h.x.grown hg (by have := h.cX; simp; omega), h.d.grown hg (by have := h.cD; simp; omega), h.z.grown hg (by have := h.zc; simp; omega), h.b.trans (below_of_only hg (Nat.le_of_lt h.zc) h.b.size), h.zc, h.cX, h.gX, h.cD, h.DX, h.zX⟩
theorem set (h : Fill w W g c X D s k f cs) (i : Nat) (u : Value) : Fill w (W.setCell ⟨X, i, none⟩ u) g c X D s k f (cs.setIfInBounds i u) :=
  ⟨⟨h.rd.box.setOther h.gX i u, Blk.setOther h.rd.cur h.cX i u, h.rd.ne, h.rd.at_⟩, h.x.set_ i u, h.d.setOther h.DX i u, h.z.setOther (by have := h.zX; omega) i u, h.b.trans (below_of_only (only_setCell (.refl _ _) rfl u) (Nat.le_of_lt h.zX) h.b.size), h.zc, h.cX, h.gX, h.cD, h.DX, h.zX⟩
end Fill
/-- The fields of a body, of just as many bytes as its form has, are what stands there. -/
theorem got_fields (f : Nat) (hf : f < 5) (s : ByteArray) (hs : s.size = Cap.size (f : Int)) :
    num s 2 (wOwn f) = num s 2 8 ∧ num s (2 + wOwn f) (wPeer f) = num s 10 8 ∧ num s (2 + wOwn f + wPeer f) (wLen f) = num s 18 2 ∧ num s (2 + wOwn f + wPeer f + wLen f) (wSum f) = num s 20 2 ∧ 2 + wOwn f + wPeer f + wLen f + wSum f = s.size := by
  have past : ∀ k m, s.size ≤ k → num s k m = 0 := fun k m h => num_past s k h m
  have : f = 0 ∨ f = 1 ∨ f = 2 ∨ f = 3 ∨ f = 4 := by omega
  rcases this with rfl | rfl | rfl | rfl | rfl
  · have z : s.size = 2 := hs
    rw [show wOwn ((0 : Nat) : Int) = 0 from rfl, show wPeer ((0 : Nat) : Int) = 0 from rfl, show wLen ((0 : Nat) : Int) = 0 from rfl, show wSum ((0 : Nat) : Int) = 0 from rfl, past 2 8 (by omega), past 10 8 (by omega), past 18 2 (by omega), past 20 2 (by omega)]
    exact ⟨rfl, rfl, rfl, rfl, z.symm⟩
  · have z : s.size = 10 := hs
    rw [show wOwn ((1 : Nat) : Int) = 8 from rfl, show wPeer ((1 : Nat) : Int) = 0 from rfl, show wLen ((1 : Nat) : Int) = 0 from rfl, show wSum ((1 : Nat) : Int) = 0 from rfl, past 10 8 (by omega), past 18 2 (by omega), past 20 2 (by omega)]
    exact ⟨rfl, rfl, rfl, rfl, z.symm⟩
  · have z : s.size = 18 := hs
    rw [show wOwn ((2 : Nat) : Int) = 8 from rfl, show wPeer ((2 : Nat) : Int) = 8 from rfl, show wLen ((2 : Nat) : Int) = 0 from rfl, show wSum ((2 : Nat) : Int) = 0 from rfl, past 18 2 (by omega), past 20 2 (by omega)]
    exact ⟨rfl, rfl, rfl, rfl, z.symm⟩
  · have z : s.size = 20 := hs
    rw [show wOwn ((3 : Nat) : Int) = 8 from rfl, show wPeer ((3 : Nat) : Int) = 8 from rfl, show wLen ((3 : Nat) : Int) = 2 from rfl, show wSum ((3 : Nat) : Int) = 0 from rfl, past 20 2 (by omega)]
    exact ⟨rfl, rfl, rfl, rfl, z.symm⟩
  · have z : s.size = 22 := hs
    exact ⟨rfl, rfl, rfl, rfl, z.symm⟩
theorem wLen_lt (s : ByteArray) (k : Nat) (f : Int) : num s k (wLen f) ≤ 65535 := by unfold wLen; split; have := num_lt s k 2; omega; simp [num]
theorem wSum_lt (s : ByteArray) (k : Nat) (f : Int) : num s k (wSum f) ≤ 65535 := by unfold wSum; split; have := num_lt s k 2; omega; simp [num]

set_option maxHeartbeats 4000000 in
set_option maxRecDepth 100000 in
theorem Decode_any (s : ByteArray) (w : World) (hs : s.size ≤ 9223372036854775807) :
    Calls Try.prog 12 #[.string s] w fun e w' => e = .returned (decV s) ∧ Below w.heap.size w w' := by
  have HS := Lib.hid hs
  obtain ⟨V, hV⟩ : ∃ V, V = decV s := ⟨_, rfl⟩
  rw [← hV]
  have HV := Lib.hid hV
  clear hs hV
  obtain ⟨w0, hw0⟩ : ∃ w0, w0 = w.alloc (.cells #[.int .i64 0, .int .i64 0, .bool false, .bool false, .int .u64 0, .int .u64 0, .int .i64 0, .int .u16 0] 25) := ⟨_, rfl⟩
  have HZ := Lib.hid (show Blk w0 w.heap.size 25 (capv Cap.zero) by rw [hw0]; exact Blk.new _ _ _)
  have HB0 := Lib.hid (show Below w.heap.size w w0 by rw [hw0]; exact (Below.refl _ w).alloc (Nat.le_refl _) _)
  have HLT := Lib.hid (show w.heap.size < w0.heap.size by rw [hw0]; simp)
  have HW0 := Lib.hid hw0
  clear hw0
  go_enter Try.func12, Try.ntmps12
  go_wp2_with fail
  rw [← HW0.out]
  refine (reader_any s w0).mono ?_
  rintro e W1 ⟨rfl, hr, b⟩
  obtain ⟨g, hg⟩ : ∃ g, g = w0.heap.size + 1 := ⟨_, rfl⟩
  obtain ⟨c, hc⟩ : ∃ c, c = w0.heap.size := ⟨_, rfl⟩
  rw [← hg, ← hc] at hr
  rw [← hg]
  have HR1 := Lib.hid hr
  have HC := Lib.hid (show w.heap.size < c by rw [hc]; exact HLT.out)
  have HB1 := Lib.hid (HB0.out.trans (b.mono HB0.out.size))
  have HZ1 := Lib.hid (HZ.out.below b HZ.out.lt)
  clear hr b hg hc HZ HB0 HLT HW0
  go_wp2_with fail
  refine (next_1 g c s 0 false W1 HS.out HR1.out).mono ?_
  rintro e W2 ⟨rfl, hg2, hr⟩
  obtain ⟨k1, hk1⟩ : ∃ k, k = posO s 0 false ((1 : Nat) : Int) := ⟨_, rfl⟩
  obtain ⟨b1, hb1⟩ : ∃ b, b = brO s 0 false ((1 : Nat) : Int) := ⟨_, rfl⟩
  obtain ⟨F, hF⟩ : ∃ F, F = numO s 0 false 1 := ⟨_, rfl⟩
  rw [← hk1, ← hb1] at hr
  rw [← hF]
  have HR2 := Lib.hid hr
  have HB2 := Lib.hid (HB1.out.trans (below_of_only hg2 (Nat.le_of_lt HC.out) HB1.out.size))
  have HZ2 := Lib.hid (HZ1.out.grown hg2 (by have := HC.out; simp; omega))
  have HK1 := Lib.hid hk1
  have HBR1 := Lib.hid hb1
  have HF := Lib.hid hF
  clear hg2 hr hk1 hb1 hF HR1
  go_wp2_with fail
  refine (next_1 g c s k1 b1 W2 HS.out HR2.out).mono ?_
  rintro e W3 ⟨rfl, hg3, hr⟩
  obtain ⟨k2, hk2⟩ : ∃ k, k = posO s k1 b1 ((1 : Nat) : Int) := ⟨_, rfl⟩
  obtain ⟨b2, hb2⟩ : ∃ b, b = brO s k1 b1 ((1 : Nat) : Int) := ⟨_, rfl⟩
  obtain ⟨G, hG⟩ : ∃ G, G = numO s k1 b1 1 := ⟨_, rfl⟩
  rw [← hk2, ← hb2] at hr
  rw [← hG]
  have HR3 := Lib.hid hr
  have HB3 := Lib.hid (HB2.out.trans (below_of_only hg3 (Nat.le_of_lt HC.out) HB2.out.size))
  have HZ3 := Lib.hid (HZ2.out.grown hg3 (by have := HC.out; simp; omega))
  have HK2 := Lib.hid hk2
  have HBR2 := Lib.hid hb2
  have HG := Lib.hid hG
  clear hg3 hr hk2 hb2 hG HR2 HB1 HB2 HZ1 HZ2
  go_wp2_with fail
  refine (formOf_any s.size HS.out W3).mono ?_
  rintro e W4 ⟨rfl, b⟩
  have HR4 := Lib.hid (HR3.out.below b)
  have HB4 := Lib.hid (HB3.out.trans (b.mono HB3.out.size))
  have HZ4 := Lib.hid (HZ3.out.below b HZ3.out.lt)
  clear b HR3 HB3 HZ3
  obtain ⟨f, kn, hfv⟩ : ∃ f kn, formV s.size = .tuple #[.int .i64 f, .bool kn] := by
    unfold formV
    cases formOf s.size with
    | none => exact ⟨_, _, rfl⟩
    | some f => exact ⟨_, _, rfl⟩
  rw [hfv]
  have HFV := Lib.hid hfv
  have HSE := Lib.hid (setRow_heap _ w.heap.size _ (capv Cap.zero) _ _ HZ4.out)
  have HBE := Lib.hid (below_setRow HB4.out (Nat.le_refl _) (capv Cap.zero))
  clear hfv
  by_cases hs0 : s.size = 0
  · have e0 : ((s.size : Int) == 0) = true := by rw [hs0]; rfl
    have HVZ := Lib.hid (show V = .tuple #[.agg (capv Cap.zero), .int .i64 4] by rw [HV.out, decV, dec, if_pos hs0])
    clear hs0
    go_wp2_with (refine wpList_store_row rfl 25 _ _ rfl w.heap.size (capv Cap.zero) rfl rfl 25 _ HZ4.out cap_size rfl (cap_one _) ?_)
    exact bodyPost_ret (results_row_tmp rfl _ _ w.heap.size 25 (capv Cap.zero) (0, 0) _ rfl HSE.out Try.underlying25 rfl cap_size) rfl ⟨by rw [HVZ.out]; rfl, HBE.out⟩
  · have e0 : ((s.size : Int) == 0) = false := by rw [beq_eq_false_iff_ne]; omega
    have hF0 : F = byteAt s 0 := by rw [HF.out, numO_t (by unfold fits; simp; omega), num_1]
    have hk : k1 = 1 := by rw [HK1.out, posO_t (by unfold fits; simp; omega)]; rfl
    have hb : b1 = false := by rw [HBR1.out, brO_t (by unfold fits; simp; omega)]
    have hF8 : F ≤ 255 := by have := byteAt_lt s 0; omega
    have HS0 := Lib.hid hs0
    have HF0 := Lib.hid hF0
    have HK := Lib.hid hk
    have HBR := Lib.hid hb
    clear hs0 hF0 hk hb
    by_cases h16 : 16 ≤ F
    · have HVZ := Lib.hid (show V = .tuple #[.agg (capv Cap.zero), .int .i64 7] by rw [HV.out, decV, dec, if_neg HS0.out, if_pos (by rw [← HF0.out]; exact h16)])
      go_wp2_with (refine wpList_store_row rfl 25 _ _ rfl w.heap.size (capv Cap.zero) rfl rfl 25 _ HZ4.out cap_size rfl (cap_one _) ?_)
      exact bodyPost_ret (results_row_tmp rfl _ _ w.heap.size 25 (capv Cap.zero) (0, 0) _ rfl HSE.out Try.underlying25 rfl cap_size) rfl ⟨by rw [HVZ.out]; rfl, HBE.out⟩
    · have h15 : F < 16 := by omega
      clear h16
      have HF16 := Lib.hid h15
      cases e : formOf s.size with
      | none =>
        have hx := HFV.out
        rw [formV, e] at hx
        simp only [Value.tuple.injEq, Array.mk.injEq, List.cons.injEq, Value.int.injEq, Value.bool.injEq, and_true, true_and] at hx
        obtain ⟨rfl, rfl⟩ := hx
        have HVZ := Lib.hid (show V = .tuple #[.agg (capv Cap.zero), .int .i64 5] by rw [HV.out, decV, dec, if_neg HS0.out, if_neg (by rw [← HF0.out]; have := HF16.out; omega), e])
        clear e
        go_wp2_with (refine wpList_store_row rfl 25 _ _ rfl w.heap.size (capv Cap.zero) rfl rfl 25 _ HZ4.out cap_size rfl (cap_one _) ?_)
        exact bodyPost_ret (results_row_tmp rfl _ _ w.heap.size 25 (capv Cap.zero) (0, 0) _ rfl HSE.out Try.underlying25 rfl cap_size) rfl ⟨by rw [HVZ.out]; rfl, HBE.out⟩
      | some fN =>
        have hz : s.size = Cap.size (fN : Int) ∧ fN < 5 := by
          rcases formOf_cases s.size with ⟨z, e'⟩ | ⟨z, e'⟩ | ⟨z, e'⟩ | ⟨z, e'⟩ | ⟨z, e'⟩ | ⟨z, e'⟩ <;> rw [e'] at e <;> cases e <;> exact ⟨z, by omega⟩
        obtain ⟨hzs, hf5⟩ := hz
        have HZS := Lib.hid hzs
        have HF5 := Lib.hid hf5
        have HE := Lib.hid e
        have hq := got_fields fN hf5 s hzs
        have h2 : 2 ≤ s.size := by rw [← hq.2.2.2.2]; omega
        have HQ := Lib.hid hq
        have hx := HFV.out
        rw [formV, e] at hx
        simp only [Value.tuple.injEq, Array.mk.injEq, List.cons.injEq, Value.int.injEq, Value.bool.injEq, and_true, true_and] at hx
        obtain ⟨rfl, rfl⟩ := hx
        have hG1 : G = byteAt s 1 := by rw [HG.out, HK.out, HBR.out, numO_t (by unfold fits; simp; omega), num_1]
        have hk2 : k2 = 2 := by rw [HK2.out, HK.out, HBR.out, posO_t (by unfold fits; simp; omega)]; rfl
        have hb2 : b2 = false := by rw [HBR2.out, HK.out, HBR.out, brO_t (by unfold fits; simp; omega)]
        have hG8 : G < 256 := by have := byteAt_lt s 1; omega
        subst hk2 hb2
        have HG1 := Lib.hid hG1
        have HG8 := Lib.hid hG8
        clear e hzs hf5 hq h2 hG1 hG8
        have ea : bits .and .u64 (G : Int) 1 = ((G % 2 : Nat) : Int) := byte_and1 ⟨G, HG8.out⟩
        by_cases ho : G % 2 = 0
        · have e2 : (bits .and .u64 (G : Int) 1 == 0) = true := by rw [ea, ho]; rfl
          have HVZ := Lib.hid (show V = .tuple #[.agg (capv Cap.zero), .int .i64 2] by rw [HV.out, decV, dec, if_neg HS0.out, if_neg (by rw [← HF0.out]; have := HF16.out; omega), HE.out]; simp only []; rw [if_pos (by rw [← HG1.out]; exact ho)])
          clear ea ho
          go_wp2_with (refine wpList_store_row rfl 25 _ _ rfl w.heap.size (capv Cap.zero) rfl rfl 25 _ HZ4.out cap_size rfl (cap_one _) ?_)
          exact bodyPost_ret (results_row_tmp rfl _ _ w.heap.size 25 (capv Cap.zero) (0, 0) _ rfl HSE.out Try.underlying25 rfl cap_size) rfl ⟨by rw [HVZ.out]; rfl, HBE.out⟩
        · have e2 : (bits .and .u64 (G : Int) 1 == 0) = false := by rw [ea, beq_eq_false_iff_ne]; omega
          have HVZ := Lib.hid (show V = .tuple #[.agg (capv (got fN s)), .int .i64 0] by rw [HV.out, decV, dec, if_neg HS0.out, if_neg (by rw [← HF0.out]; have := HF16.out; omega), HE.out]; simp only []; rw [if_neg (by rw [← HG1.out]; exact ho)])
          clear ea ho HSE HBE
          go_wp2_with (refine wpList_store_row rfl 25 _ _ rfl w.heap.size (capv Cap.zero) rfl rfl 25 _ HZ4.out cap_size rfl (cap_one _) ?_)
          refine (widthsOf_any (fN : Int) W4).mono ?_
          rintro e W5 ⟨rfl, b⟩
          have HR5 := Lib.hid (HR4.out.below b)
          have HB5 := Lib.hid (HB4.out.trans (b.mono HB4.out.size))
          have HZ5 := Lib.hid (HZ4.out.below b HZ4.out.lt)
          clear b HR4 HB4 HZ4
          have e3 : (bits .and .u64 (G : Int) 128 != 0) = decide (128 ≤ byteAt s 1) := by rw [← HG1.out]; exact byte_and128 ⟨G, HG8.out⟩
          have e4 : (bits .and .u64 (G : Int) 32 != 0) = decide (byteAt s 1 / 32 % 2 = 1) := by rw [← HG1.out]; exact byte_and32 ⟨G, HG8.out⟩
          obtain ⟨sb, hsb⟩ : ∃ b, b = decide (128 ≤ byteAt s 1) := ⟨_, rfl⟩
          obtain ⟨ab, hab⟩ : ∃ b, b = decide (byteAt s 1 / 32 % 2 = 1) := ⟨_, rfl⟩
          rw [← hsb] at e3
          rw [← hab] at e4
          have HSB := Lib.hid hsb
          have HAB := Lib.hid hab
          clear hsb hab
          have e5 : (F : Int) % 16 = (F : Int) := by omega
          obtain ⟨W6, hW6⟩ : ∃ W6, W6 = (W5.alloc (.cells #[.int .i64 (wOwn fN : Int), .int .i64 (wPeer fN : Int), .int .i64 (wLen fN : Int), .int .i64 (wSum fN : Int)] 47)).alloc (.cells #[.int .i64 (fN : Int), .int .i64 (F : Int), .bool sb, .bool ab, .int .u64 0, .int .u64 0, .int .i64 0, .int .u16 0] 25) := ⟨_, rfl⟩
          obtain ⟨D, hD⟩ : ∃ D, D = W5.heap.size := ⟨_, rfl⟩
          obtain ⟨X, hX⟩ : ∃ X, X = W5.heap.size + 1 := ⟨_, rfl⟩
          have HM6 := Lib.hid (show Fill w W6 g c X D s 2 fN #[.int .i64 (fN : Int), .int .i64 (F : Int), .bool sb, .bool ab, .int .u64 0, .int .u64 0, .int .i64 0, .int .u16 0] by
            have q1 := HR5.out.box.lt
            have q2 := Blk.lt HR5.out.cur
            have q3 := HZ5.out.lt
            have q4 := HC.out
            rw [hW6, hD, hX]
            refine ⟨(HR5.out.alloc _).alloc _, ?_, (Blk.new W5 _ _).alloc _, (HZ5.out.alloc _).alloc _, (HB5.out.alloc HB5.out.size _).alloc (by have := HB5.out.size; simp; omega) _, HC.out, by omega, by omega, by omega, by omega, by omega⟩
            have := Blk.new (W5.alloc (.cells #[.int .i64 (wOwn fN : Int), .int .i64 (wPeer fN : Int), .int .i64 (wLen fN : Int), .int .i64 (wSum fN : Int)] 47)) 25 #[.int .i64 (fN : Int), .int .i64 (F : Int), .bool sb, .bool ab, .int .u64 0, .int .u64 0, .int .i64 0, .int .u16 0]
            simpa using this)
          have HW6 := Lib.hid hW6
          have HD := Lib.hid hD
          have HX := Lib.hid hX
          have v0 := HM6.out.d.cell 0
          simp only [List.getElem?_toArray, List.getElem?_cons_zero] at v0
          rw [HW6.out, HD.out] at v0
          clear hW6 hD hX HR5 HB5 HZ5 HC
          go_wp2_with fail
          rw [← HW6.out, ← HX.out, ← HD.out]
          clear v0 e2 e3 e4 e5
          refine (next_any g c s (2) (wOwn fN) (c_own fN) W6 HS.out HM6.out.rd (by have := HQ.out.2.2.2.2; omega)).mono ?_
          rintro e W7 ⟨rfl, hg, hr⟩
          have HM7 := Lib.hid (HM6.out.next hg hr)
          clear hg hr
          obtain ⟨n1, hn1⟩ : ∃ n, n = num s (2) (wOwn fN) := ⟨_, rfl⟩
          rw [← hn1]
          have ln1 : n1 ≤ 18446744073709551615 := by rw [hn1]; exact num_le8 s _ _ (by rcases c_own (fN : Int) with h | h | h | h <;> omega)
          have Hn1 := Lib.hid hn1
          clear hn1
          have fz := HM7.out.x.frozen 4
          have xc := HM7.out.x.cell 4
          simp only [List.getElem?_toArray, List.getElem?_cons_zero, List.getElem?_cons_succ] at xc
          obtain ⟨W8, hW8⟩ : ∃ W, W = W7.setCell ⟨X, 4, none⟩ (.int .u64 (n1 : Int)) := ⟨_, rfl⟩
          have HM8 := Lib.hid (show Fill w W8 g c X D s (2 + wOwn fN) fN #[.int .i64 (fN : Int), .int .i64 (F : Int), .bool sb, .bool ab, .int .u64 (n1 : Int), .int .u64 0, .int .i64 0, .int .u16 0] by rw [hW8]; exact HM7.out.set 4 (.int .u64 (n1 : Int)))
          have HW8 := Lib.hid hW8
          have v := HM8.out.d.cell 1
          simp only [List.getElem?_toArray, List.getElem?_cons_zero, List.getElem?_cons_succ] at v
          rw [HW8.out] at v
          clear hW8
          go_wp2_with fail
          rw [← HW8.out]
          clear v fz xc
          refine (next_any g c s (2 + wOwn fN) (wPeer fN) (c_peer fN) W8 HS.out HM8.out.rd (by have := HQ.out.2.2.2.2; omega)).mono ?_
          rintro e W9 ⟨rfl, hg, hr⟩
          have HM9 := Lib.hid (HM8.out.next hg hr)
          clear hg hr
          obtain ⟨n2, hn2⟩ : ∃ n, n = num s (2 + wOwn fN) (wPeer fN) := ⟨_, rfl⟩
          rw [← hn2]
          have ln2 : n2 ≤ 18446744073709551615 := by rw [hn2]; exact num_le8 s _ _ (by rcases c_peer (fN : Int) with h | h | h | h <;> omega)
          have Hn2 := Lib.hid hn2
          clear hn2
          have fz := HM9.out.x.frozen 5
          have xc := HM9.out.x.cell 5
          simp only [List.getElem?_toArray, List.getElem?_cons_zero, List.getElem?_cons_succ] at xc
          obtain ⟨W10, hW10⟩ : ∃ W, W = W9.setCell ⟨X, 5, none⟩ (.int .u64 (n2 : Int)) := ⟨_, rfl⟩
          have HM10 := Lib.hid (show Fill w W10 g c X D s (2 + wOwn fN + wPeer fN) fN #[.int .i64 (fN : Int), .int .i64 (F : Int), .bool sb, .bool ab, .int .u64 (n1 : Int), .int .u64 (n2 : Int), .int .i64 0, .int .u16 0] by rw [hW10]; exact HM9.out.set 5 (.int .u64 (n2 : Int)))
          have HW10 := Lib.hid hW10
          have v := HM10.out.d.cell 2
          simp only [List.getElem?_toArray, List.getElem?_cons_zero, List.getElem?_cons_succ] at v
          rw [HW10.out] at v
          clear hW10
          go_wp2_with fail
          rw [← HW10.out]
          clear v fz xc
          refine (next_any g c s (2 + wOwn fN + wPeer fN) (wLen fN) (c_len fN) W10 HS.out HM10.out.rd (by have := HQ.out.2.2.2.2; omega)).mono ?_
          rintro e W11 ⟨rfl, hg, hr⟩
          have HM11 := Lib.hid (HM10.out.next hg hr)
          clear hg hr
          obtain ⟨n3, hn3⟩ : ∃ n, n = num s (2 + wOwn fN + wPeer fN) (wLen fN) := ⟨_, rfl⟩
          rw [← hn3]
          have ln3 : n3 ≤ 65535 := by rw [hn3]; exact wLen_lt s _ _
          have Hn3 := Lib.hid hn3
          clear hn3
          have fz := HM11.out.x.frozen 6
          have xc := HM11.out.x.cell 6
          simp only [List.getElem?_toArray, List.getElem?_cons_zero, List.getElem?_cons_succ] at xc
          obtain ⟨W12, hW12⟩ : ∃ W, W = W11.setCell ⟨X, 6, none⟩ (.int .i64 (n3 : Int)) := ⟨_, rfl⟩
          have HM12 := Lib.hid (show Fill w W12 g c X D s (2 + wOwn fN + wPeer fN + wLen fN) fN #[.int .i64 (fN : Int), .int .i64 (F : Int), .bool sb, .bool ab, .int .u64 (n1 : Int), .int .u64 (n2 : Int), .int .i64 (n3 : Int), .int .u16 0] by rw [hW12]; exact HM11.out.set 6 (.int .i64 (n3 : Int)))
          have HW12 := Lib.hid hW12
          have v := HM12.out.d.cell 3
          simp only [List.getElem?_toArray, List.getElem?_cons_zero, List.getElem?_cons_succ] at v
          rw [HW12.out] at v
          clear hW12
          go_wp2_with fail
          rw [← HW12.out]
          clear v fz xc
          refine (next_any g c s (2 + wOwn fN + wPeer fN + wLen fN) (wSum fN) (c_sum fN) W12 HS.out HM12.out.rd (by have := HQ.out.2.2.2.2; omega)).mono ?_
          rintro e W13 ⟨rfl, hg, hr⟩
          have HM13 := Lib.hid (HM12.out.next hg hr)
          clear hg hr
          obtain ⟨n4, hn4⟩ : ∃ n, n = num s (2 + wOwn fN + wPeer fN + wLen fN) (wSum fN) := ⟨_, rfl⟩
          rw [← hn4]
          have ln4 : n4 ≤ 65535 := by rw [hn4]; exact wSum_lt s _ _
          have Hn4 := Lib.hid hn4
          clear hn4
          have fz := HM13.out.x.frozen 7
          have xc := HM13.out.x.cell 7
          simp only [List.getElem?_toArray, List.getElem?_cons_zero, List.getElem?_cons_succ] at xc
          obtain ⟨W14, hW14⟩ : ∃ W, W = W13.setCell ⟨X, 7, none⟩ (.int .u16 (n4 : Int)) := ⟨_, rfl⟩
          have HM14 := Lib.hid (show Fill w W14 g c X D s (2 + wOwn fN + wPeer fN + wLen fN + wSum fN) fN #[.int .i64 (fN : Int), .int .i64 (F : Int), .bool sb, .bool ab, .int .u64 (n1 : Int), .int .u64 (n2 : Int), .int .i64 (n3 : Int), .int .u16 (n4 : Int)] by rw [hW14]; exact HM13.out.set 7 (.int .u16 (n4 : Int)))
          have HW14 := Lib.hid hW14
          clear hW14
          have HEQ := Lib.hid (show #[.int .i64 (fN : Int), .int .i64 (F : Int), .bool sb, .bool ab, .int .u64 (n1 : Int), .int .u64 (n2 : Int), .int .i64 (n3 : Int), .int .u16 (n4 : Int)] = capv (got fN s) by rw [capv, got, Hn1.out, Hn2.out, Hn3.out, Hn4.out, HQ.out.1, HQ.out.2.1, HQ.out.2.2.1, HQ.out.2.2.2.1, HSB.out, HAB.out, HF0.out])
          have HSE := Lib.hid (setRow_heap _ w.heap.size _ (#[.int .i64 (fN : Int), .int .i64 (F : Int), .bool sb, .bool ab, .int .u64 (n1 : Int), .int .u64 (n2 : Int), .int .i64 (n3 : Int), .int .u16 (n4 : Int)]) _ _ HM14.out.z)
          have HBE := Lib.hid (below_setRow HM14.out.b (Nat.le_refl _) (#[.int .i64 (fN : Int), .int .i64 (F : Int), .bool sb, .bool ab, .int .u64 (n1 : Int), .int .u64 (n2 : Int), .int .i64 (n3 : Int), .int .u16 (n4 : Int)]))
          rw [HW14.out] at HSE HBE
          go_wp2_with (first
            | (refine wpList_load_row rfl 25 _ rfl X rfl 25 (#[.int .i64 (fN : Int), .int .i64 (F : Int), .bool sb, .bool ab, .int .u64 (n1 : Int), .int .u64 (n2 : Int), .int .i64 (n3 : Int), .int .u16 (n4 : Int)]) (0, 0) _ ?_ Try.underlying25 rfl cap_size ?_; rw [← HW14.out]; exact HM14.out.x)
            | (refine wpList_store_row rfl 25 _ _ rfl w.heap.size (#[.int .i64 (fN : Int), .int .i64 (F : Int), .bool sb, .bool ab, .int .u64 (n1 : Int), .int .u64 (n2 : Int), .int .i64 (n3 : Int), .int .u16 (n4 : Int)]) rfl rfl 25 (capv Cap.zero) ?_ cap_size rfl (by simp [Value.oneCell']) ?_; rw [← HW14.out]; exact HM14.out.z))
          exact bodyPost_ret (results_row_tmp rfl _ _ w.heap.size 25 (#[.int .i64 (fN : Int), .int .i64 (F : Int), .bool sb, .bool ab, .int .u64 (n1 : Int), .int .u64 (n2 : Int), .int .i64 (n3 : Int), .int .u16 (n4 : Int)]) (0, 0) _ rfl HSE.out Try.underlying25 rfl cap_size) rfl ⟨by rw [HVZ.out, ← HEQ.out]; rfl, HBE.out⟩
end Go.Proofs.Ytpedbmnifjhaiaa
