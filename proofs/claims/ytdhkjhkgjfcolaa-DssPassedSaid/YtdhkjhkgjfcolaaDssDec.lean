/-
  What Decode of package dss answers, by its walk.
-/
import Derived.Test.YtdhkjhkgjfcolaaDssFront
import Derived.Test.YtdhkjhkgjfcolaaDssNext
import Derived.Laws.CopyOwn
namespace Go.Proofs.Ytdhkjhkgjfcolaa
open Go.ChangeShapes Go.WideShapes Go.ChangeAt Go.RowKit
set_option linter.unusedVariables false

/-! ### Five numbers, one behind the other -/
theorem fits_in {s : ByteArray} {k m : Nat} (h : k + m ≤ s.size) : fits s k false (m : Int) = true := by unfold fits; simp; omega
theorem fits_out {s : ByteArray} {k m : Nat} (hk : k ≤ s.size) (h : s.size < k + m) : fits s k false (m : Int) = false := by unfold fits; simp; omega
theorem brO_true (s : ByteArray) (k : Nat) (n : Int) : brO s k true n = true := brO_f (by simp [fits])
theorem posO_in {s : ByteArray} {k m : Nat} (h : k + m ≤ s.size) : posO s k false (m : Int) = k + m := by rw [posO_t (fits_in h)]; simp
theorem brO_in {s : ByteArray} {k m : Nat} (h : k + m ≤ s.size) : brO s k false (m : Int) = false := brO_t (fits_in h)
theorem numO_in {s : ByteArray} {k m : Nat} (h : k + m ≤ s.size) : numO s k false m = num s k m := numO_t (fits_in h)
theorem brO_out {s : ByteArray} {k m : Nat} (hk : k ≤ s.size) (h : s.size < k + m) : brO s k false (m : Int) = true := brO_f (fits_out hk h)
/-- All of them are there. -/
theorem chain_in (s : ByteArray) (a d m l : Nat) (h : 2 + a + d + m + l ≤ s.size) :
    pos3 s (posO s 2 false a) (brO s 2 false a) d m l = 2 + a + d + m + l ∧ br3 s (posO s 2 false a) (brO s 2 false a) d m l = false ∧ numO s 2 false a = num s 2 a ∧ numO s (posO s 2 false a) (brO s 2 false a) d = num s (2 + a) d ∧ num2 s (posO s 2 false a) (brO s 2 false a) d m = num s (2 + a + d) m ∧ num3 s (posO s 2 false a) (brO s 2 false a) d m l = num s (2 + a + d + m) l := by
  unfold pos3 br3 num2 num3 pos2 br2
  rw [posO_in (show 2 + a ≤ s.size by omega), brO_in (show 2 + a ≤ s.size by omega), posO_in (show 2 + a + d ≤ s.size by omega), brO_in (show 2 + a + d ≤ s.size by omega), posO_in (show 2 + a + d + m ≤ s.size by omega), brO_in (show 2 + a + d + m ≤ s.size by omega), posO_in (show 2 + a + d + m + l ≤ s.size by omega), brO_in (show 2 + a + d + m + l ≤ s.size by omega), numO_in (show 2 + a ≤ s.size by omega), numO_in (show 2 + a + d ≤ s.size by omega), numO_in (show 2 + a + d + m ≤ s.size by omega), numO_in (show 2 + a + d + m + l ≤ s.size by omega)]
  exact ⟨rfl, rfl, rfl, rfl, rfl, rfl⟩
/-- One of them is not. -/
theorem chain_out (s : ByteArray) (a d m l : Nat) (h2 : 2 ≤ s.size) (h : s.size < 2 + a + d + m + l) : br3 s (posO s 2 false a) (brO s 2 false a) d m l = true := by
  unfold br3 pos2 br2
  by_cases h1 : 2 + a ≤ s.size
  · rw [posO_in h1, brO_in h1]
    by_cases h3 : 2 + a + d ≤ s.size
    · rw [posO_in h3, brO_in h3]
      by_cases h4 : 2 + a + d + m ≤ s.size
      · rw [posO_in h4, brO_in h4]
        exact brO_out h4 h
      · rw [brO_out h3 (by omega), brO_true]
    · rw [brO_out h1 (by omega), brO_true, brO_true]
  · rw [brO_out h2 (by omega), brO_true, brO_true, brO_true]
theorem front_eq (g : Nat) : frontX g = ⟨fl g 4 && fl g 16, fl g 1, fl g 1 && fl g 2, 0, fl g 4, fl g 4 && fl g 8, 0, 0, 0, false, 0⟩ := by
  unfold frontX Ds.bare
  simp
/-- A signal whose parts, but for a sum, have been read. -/
def midX (g : Nat) (s : ByteArray) : Ds :=
  let a := wA (fl g 1) (fl g 1 && fl g 2)
  let d := wA (fl g 4) (fl g 4 && fl g 8)
  ⟨fl g 4 && fl g 16, fl g 1, fl g 1 && fl g 2, numO s 2 false a, fl g 4, fl g 4 && fl g 8, numO s (posO s 2 false a) (brO s 2 false a) d, num2 s (posO s 2 false a) (brO s 2 false a) d (w4 (fl g 4)), (num3 s (posO s 2 false a) (brO s 2 false a) d (w4 (fl g 4)) (w2 (fl g 4)) : Int), false, 0⟩
def midP (g : Nat) (s : ByteArray) : Nat := pos3 s (posO s 2 false (wA (fl g 1) (fl g 1 && fl g 2) : Nat)) (brO s 2 false (wA (fl g 1) (fl g 1 && fl g 2) : Nat)) (wA (fl g 4) (fl g 4 && fl g 8)) (w4 (fl g 4)) (w2 (fl g 4))
def midB (g : Nat) (s : ByteArray) : Bool := br3 s (posO s 2 false (wA (fl g 1) (fl g 1 && fl g 2) : Nat)) (brO s 2 false (wA (fl g 1) (fl g 1 && fl g 2) : Nat)) (wA (fl g 4) (fl g 4 && fl g 8)) (w4 (fl g 4)) (w2 (fl g 4))
/-- What was read is what the text is, or the end tells why not. -/
def Fin (s : ByteArray) (k : Nat) (br : Bool) (x : Ds) : Prop := (endO s k br ≠ 0 ∧ dec s = (.zero, endO s k br)) ∨ (endO s k br = 0 ∧ dec s = (x, 0))
theorem mid_out (s : ByteArray) (g : Nat) (hg : byteAt s 1 = g) (h2 : 2 ≤ s.size) (hk : byteAt s 0 / 16 = 2) (hh : ¬ (fl g 1 = false ∧ fl g 4 = false)) (h : s.size < sizc g) : midB g s = true ∧ Fin s (midP g s) true (midX g s) := by
  refine ⟨chain_out s _ _ _ _ h2 h, .inl ⟨by simp [endO], ?_⟩⟩
  rw [dec_two s h2 hk, hg, decc, if_neg hh, if_pos h]
  simp [endO]
theorem mid_in (s : ByteArray) (g : Nat) (h : sizc g ≤ s.size) : midP g s = sizc g ∧ midB g s = false ∧ midX g s = gotc g s false := by
  obtain ⟨e1, e2, e3, e4, e5, e6⟩ := chain_in s _ _ _ _ h
  refine ⟨e1, e2, ?_⟩
  unfold midX gotc
  simp only []
  rw [e3, e4, e5, e6]
  simp [w2, num]
theorem fin_no (s : ByteArray) (g : Nat) (hg : byteAt s 1 = g) (h2 : 2 ≤ s.size) (hk : byteAt s 0 / 16 = 2) (hh : ¬ (fl g 1 = false ∧ fl g 4 = false)) (h : sizc g ≤ s.size) (hs : ¬ (fl g 4 = true ∧ s.size = sizc g + 2)) : Fin s (sizc g) false (gotc g s false) := by
  unfold Fin
  rw [dec_two s h2 hk, hg, decc, if_neg hh, if_neg (by omega)]
  by_cases e : s.size = sizc g
  · rw [if_pos e]
    exact .inr ⟨by simp [endO]; omega, rfl⟩
  · rw [if_neg e, if_neg hs]
    have : endO s (sizc g) false = 5 := by simp [endO]; omega
    rw [this]
    exact .inl ⟨by decide, rfl⟩
theorem fin_sum (s : ByteArray) (g : Nat) (hg : byteAt s 1 = g) (h2 : 2 ≤ s.size) (hk : byteAt s 0 / 16 = 2) (hh : ¬ (fl g 1 = false ∧ fl g 4 = false)) (h4 : fl g 4 = true) (hs : s.size = sizc g + 2) : Fin s (sizc g + 2) false (gotc g s true) := by
  unfold Fin
  rw [dec_two s h2 hk, hg, decc, if_neg hh, if_neg (by omega), if_neg (by omega), if_pos ⟨h4, hs⟩]
  exact .inr ⟨by simp [endO]; omega, rfl⟩
theorem Ds.split (x : Ds) (B : Bool) (h : x.hm = B) (h1 : x.hs = false) (h2 : x.sum = 0) : x = ⟨x.fin, x.ha, x.la, x.ack, B, x.ld, x.dsn, x.ssn, x.len, false, 0⟩ := Ds.ext_ rfl rfl rfl rfl h rfl rfl rfl rfl h1 h2
/-- What the last part leaves. -/
theorem last_any (b c : Nat) (s : ByteArray) (g : Nat) (hg : byteAt s 1 = g) (h2 : 2 ≤ s.size) (hk : byteAt s 0 / 16 = 2) (hh : ¬ (fl g 1 = false ∧ fl g 4 = false)) (w : World) (hs : s.size ≤ 9223372036854775807) (h : Rb w b c s (midP g s) (midB g s) (midX g s)) :
    Calls Try.prog 31 #[ptr b] w fun e w' => e = .returned (.tuple #[]) ∧ Two w w' b c ∧ ∃ k br x, Rb w' b c s k br x ∧ Fin s k br x := by
  by_cases hz : sizc g ≤ s.size
  · obtain ⟨e1, e2, e3⟩ := mid_in s g hz
    rw [e1, e2, e3] at h
    by_cases h4 : fl g 4 = true
    · by_cases hl : s.size = sizc g + 2
      · have h' : Rb w b c s (sizc g) false ⟨fl g 4 && fl g 16, fl g 1, fl g 1 && fl g 2, num s 2 (wA (fl g 1) (fl g 1 && fl g 2)), true, fl g 4 && fl g 8, num s (2 + wA (fl g 1) (fl g 1 && fl g 2)) (wA (fl g 4) (fl g 4 && fl g 8)), num s (2 + wA (fl g 1) (fl g 1 && fl g 2) + wA (fl g 4) (fl g 4 && fl g 8)) (w4 (fl g 4)), (num s (2 + wA (fl g 1) (fl g 1 && fl g 2) + wA (fl g 4) (fl g 4 && fl g 8) + w4 (fl g 4)) (w2 (fl g 4)) : Int), false, 0⟩ := by
          have q : gotc g s false = ⟨fl g 4 && fl g 16, fl g 1, fl g 1 && fl g 2, num s 2 (wA (fl g 1) (fl g 1 && fl g 2)), true, fl g 4 && fl g 8, num s (2 + wA (fl g 1) (fl g 1 && fl g 2)) (wA (fl g 4) (fl g 4 && fl g 8)), num s (2 + wA (fl g 1) (fl g 1 && fl g 2) + wA (fl g 4) (fl g 4 && fl g 8)) (w4 (fl g 4)), (num s (2 + wA (fl g 1) (fl g 1 && fl g 2) + wA (fl g 4) (fl g 4 && fl g 8) + w4 (fl g 4)) (w2 (fl g 4)) : Int), false, 0⟩ := Ds.ext_ rfl rfl rfl rfl h4 rfl rfl rfl rfl rfl rfl
          rw [← q]; exact h
        refine (readSum_t b c s (sizc g) _ _ _ _ _ _ _ _ w hs hl.symm h').mono ?_
        rintro e w' ⟨he, ht, hr⟩
        refine ⟨he, ht, _, _, _, hr, ?_⟩
        have q : gotc g s true = ⟨fl g 4 && fl g 16, fl g 1, fl g 1 && fl g 2, num s 2 (wA (fl g 1) (fl g 1 && fl g 2)), true, fl g 4 && fl g 8, num s (2 + wA (fl g 1) (fl g 1 && fl g 2)) (wA (fl g 4) (fl g 4 && fl g 8)), num s (2 + wA (fl g 1) (fl g 1 && fl g 2) + wA (fl g 4) (fl g 4 && fl g 8)) (w4 (fl g 4)), (num s (2 + wA (fl g 1) (fl g 1 && fl g 2) + wA (fl g 4) (fl g 4 && fl g 8) + w4 (fl g 4)) (w2 (fl g 4)) : Int), true, num s (sizc g) 2⟩ := Ds.ext_ rfl rfl rfl rfl h4 rfl rfl rfl rfl rfl rfl
        rw [← q]
        exact fin_sum s g hg h2 hk hh h4 hl
      · have q : gotc g s false = ⟨fl g 4 && fl g 16, fl g 1, fl g 1 && fl g 2, num s 2 (wA (fl g 1) (fl g 1 && fl g 2)), true, fl g 4 && fl g 8, num s (2 + wA (fl g 1) (fl g 1 && fl g 2)) (wA (fl g 4) (fl g 4 && fl g 8)), num s (2 + wA (fl g 1) (fl g 1 && fl g 2) + wA (fl g 4) (fl g 4 && fl g 8)) (w4 (fl g 4)), (num s (2 + wA (fl g 1) (fl g 1 && fl g 2) + wA (fl g 4) (fl g 4 && fl g 8) + w4 (fl g 4)) (w2 (fl g 4)) : Int), false, 0⟩ := Ds.ext_ rfl rfl rfl rfl h4 rfl rfl rfl rfl rfl rfl
        have hf := fin_no s g hg h2 hk hh hz (fun q => hl q.2)
        rw [q] at h hf
        refine (readSum_f b c s (sizc g) _ _ _ _ _ _ _ _ w hs false (by simp [leftO]; omega) h).mono ?_
        rintro e w' ⟨he, ht, hr⟩
        exact ⟨he, ht, _, _, _, hr, hf⟩
    · have h4' : fl g 4 = false := Bool.eq_false_iff.2 h4
      have q : gotc g s false = ⟨fl g 4 && fl g 16, fl g 1, fl g 1 && fl g 2, num s 2 (wA (fl g 1) (fl g 1 && fl g 2)), false, fl g 4 && fl g 8, num s (2 + wA (fl g 1) (fl g 1 && fl g 2)) (wA (fl g 4) (fl g 4 && fl g 8)), num s (2 + wA (fl g 1) (fl g 1 && fl g 2) + wA (fl g 4) (fl g 4 && fl g 8)) (w4 (fl g 4)), (num s (2 + wA (fl g 1) (fl g 1 && fl g 2) + wA (fl g 4) (fl g 4 && fl g 8) + w4 (fl g 4)) (w2 (fl g 4)) : Int), false, 0⟩ := Ds.ext_ rfl rfl rfl rfl h4' rfl rfl rfl rfl rfl rfl
      have hf := fin_no s g hg h2 hk hh hz (fun q => h4 q.1)
      rw [q] at h hf
      refine (readSum_no b c s (sizc g) _ _ _ _ _ _ _ _ w hs false h).mono ?_
      rintro e w' ⟨he, ht, hr⟩
      exact ⟨he, ht, _, _, _, hr, hf⟩
  · obtain ⟨e1, hf⟩ := mid_out s g hg h2 hk hh (by omega)
    rw [e1] at h
    by_cases h4 : fl g 4 = true
    · have q := Ds.split (midX g s) true h4 rfl rfl
      rw [q] at h hf
      refine (readSum_f b c s _ _ _ _ _ _ _ _ _ w hs true (by simp [leftO]) h).mono ?_
      rintro e w' ⟨he, ht, hr⟩
      exact ⟨he, ht, _, _, _, hr, hf⟩
    · have q := Ds.split (midX g s) false (Bool.eq_false_iff.2 h4) rfl rfl
      rw [q] at h hf
      refine (readSum_no b c s _ _ _ _ _ _ _ _ _ w hs true h).mono ?_
      rintro e w' ⟨he, ht, hr⟩
      exact ⟨he, ht, _, _, _, hr, hf⟩
/-- What 'Decode' answers. -/
def decV (s : ByteArray) : Value := .tuple #[.agg (dsv (dec s).1), .int .i64 (dec s).2]
theorem results_row_tmp {P : Program} {fn : Func} {p t : Tmp} {ty : TypeId} (h : fn.results = #[.cell p ty, .tmp t]) (tmps : Array Value) (w : World) (g : Nat) (t' : TypeId) (cs : Array Value) (fr : Nat × Nat) (d : TypeDesc)
    (hp : tmps.getD p undef = .pointer (some ⟨g, 0, none⟩)) (hg : w.heap[g]? = some (.cells cs t' fr))
    (hu : P.underlying ty = some d) (hd : (match d with | .struct _ | .array _ _ => true | _ => false) = true) (hi : (P.info? ty).map (·.size) = some cs.size) :
    (results fn tmps).run P w = .ok (.tuple #[.agg cs, tmps.getD t undef]) w := by
  have hp' : tmps[p]?.getD undef = .pointer (some ⟨g, 0, none⟩) := by simpa using hp
  simp [results, h, hp', asAddr, run_loadVar_row w g t' ty cs fr d hg hu hd hi]
theorem dsz : (#[.bool false, .bool false, .bool false, .int .u64 0, .bool false, .bool false, .int .u64 0, .int .u32 0, .int .i64 0, .bool false, .int .u16 0] : Array Value) = dsv Ds.zero := rfl
abbrev rowR (b : Nat) : Array Value := #[.func (.func 29) #[ptr b] #[], .func (.func 30) #[ptr b] #[], .func (.func 31) #[ptr b] #[]]
/-- Where Decode stands as it reads: the answer's variable, the row of the three methods, and what else there was, are as they were. -/
structure De (w W : World) (r n b c : Nat) : Prop where
  zero : Blk W r 26 (dsv .zero)
  row : Blk W n 1 (rowR b)
  rest : Below w.heap.size w W
theorem De.two {w W W' : World} {r n b c : Nat} (h : De w W r n b c) (hr : w.heap.size = r) (hc : c = r + 1) (hb : b = r + 2) (hn : r + 2 < n) (ht : Two W W' b c) : De w W' r n b c :=
  ⟨ht.blk h.zero (by omega) (by omega), ht.blk h.row (by omega) (by omega), h.rest.trans (ht.below (by omega) (by omega) h.rest.size)⟩
def x0 (g : Nat) : Ds := ⟨fl g 4 && fl g 16, fl g 1, fl g 1 && fl g 2, 0, fl g 4, fl g 4 && fl g 8, 0, 0, 0, false, 0⟩
def x1 (g : Nat) (s : ByteArray) : Ds := ⟨fl g 4 && fl g 16, fl g 1, fl g 1 && fl g 2, numO s 2 false (wA (fl g 1) (fl g 1 && fl g 2)), fl g 4, fl g 4 && fl g 8, 0, 0, 0, false, 0⟩
set_option maxHeartbeats 4000000 in
set_option maxRecDepth 100000 in
theorem Decode_any (s : ByteArray) (w : World) (hs : s.size ≤ 9223372036854775807) :
    Calls Try.prog 13 #[.string s] w fun e w' => e = .returned (decV s) ∧ Below w.heap.size w w' := by
  have HS := Lib.hid hs
  obtain ⟨V, hV⟩ : ∃ V, V = decV s := ⟨_, rfl⟩
  rw [← hV]
  have HV := Lib.hid hV
  clear hs hV
  obtain ⟨c, hc⟩ : ∃ c, c = w.heap.size + 1 := ⟨_, rfl⟩
  obtain ⟨b, hb⟩ : ∃ b, b = w.heap.size + 1 + 1 := ⟨_, rfl⟩
  obtain ⟨U, hU⟩ : ∃ U, U = ((w.alloc (.cells (dsv .zero) 26)).alloc (.cells #[.string s, .int .i64 0, .bool false] 83)).alloc (.cells (bdv (ptr (w.heap.size + 1)) .zero ⟨#[]⟩) 53) := ⟨_, rfl⟩
  have hsz : ((w.alloc (.cells (dsv .zero) 26)).alloc (.cells #[.string s, .int .i64 0, .bool false] 83)).heap.size = w.heap.size + 1 + 1 := by simp
  have hbd : Bd U b (ptr c) .zero ⟨#[]⟩ := by
    rw [hU, hb, hc]
    have q := Blk.new ((w.alloc (.cells (dsv .zero) 26)).alloc (.cells #[.string s, .int .i64 0, .bool false] 83)) 53 (bdv (ptr (w.heap.size + 1)) .zero ⟨#[]⟩)
    rw [hsz] at q
    exact q
  have hcu : Cur U c s 0 false := by
    rw [hU, hc]
    have q := (Blk.new (w.alloc (.cells (dsv .zero) 26)) 83 #[.string s, .int .i64 0, .bool false]).alloc (.cells (bdv (ptr (w.heap.size + 1)) .zero ⟨#[]⟩) 53)
    rw [show (w.alloc (.cells (dsv .zero) 26)).heap.size = w.heap.size + 1 by simp] at q
    exact q
  have hzu : Blk U w.heap.size 26 (dsv .zero) := by rw [hU]; exact ((Blk.new w 26 (dsv .zero)).alloc _).alloc _
  have hbu : Below w.heap.size w U := by rw [hU]; exact (((Below.refl _ w).alloc (Nat.le_refl _) _).alloc (by simp) _).alloc (by rw [hsz]; omega) _
  have HRB := Lib.hid (show Rb U b c s 0 false .zero from ⟨hbd, hcu, Nat.zero_le _, by omega⟩)
  have HZU := Lib.hid hzu
  have HBU := Lib.hid hbu
  have HUE := Lib.hid hU
  have HBE0 := Lib.hid hb
  have HCE := Lib.hid hc
  clear hU hb hc hsz hbd hcu hzu hbu
  go_enter Try.func13, Try.ntmps13
  go_wp2_with fail
  refine (Read_any s _).mono ?_
  rintro e W ⟨rfl, rfl⟩
  go_wp2_with fail
  have hUE : U = ((w.alloc (.cells #[.bool false, .bool false, .bool false, .int .u64 0, .bool false, .bool false, .int .u64 0, .int .u32 0, .int .i64 0, .bool false, .int .u16 0] 26)).alloc (.cells #[.string s, .int .i64 0, .bool false] 83)).alloc (.cells #[.pointer (some ⟨w.heap.size + 1, 0, none⟩), .bool false, .bool false, .bool false, .int .u64 0, .bool false, .bool false, .int .u64 0, .int .u32 0, .int .i64 0, .bool false, .int .u16 0, .string ⟨#[]⟩] 53) := HUE.out
  rw [← hUE, ← HBE0.out, ← HCE.out]
  clear hUE HUE
  refine (readFront_any b c s U HS.out HRB.out).mono ?_
  rintro e W1 ⟨v, rfl, ht, hcase⟩
  have hne : w.heap.size ≠ b ∧ w.heap.size ≠ c ∧ w.heap.size ≤ b ∧ w.heap.size ≤ c := by have := HBE0.out; have := HCE.out; omega
  have HNE := Lib.hid hne
  have hz1 := ht.blk HZU.out hne.1 hne.2.1
  have hb1 := HBU.out.trans (ht.below hne.2.2.1 hne.2.2.2 HBU.out.size)
  have HZ1 := Lib.hid hz1
  have HB1 := Lib.hid hb1
  clear hne hz1 hb1 ht HRB HZU HBU
  rcases hcase with ⟨hv0, hd⟩ | ⟨rfl, h2, hk, hh, hrb⟩
  · have hv : (v == 0) = false := by rw [beq_eq_false_iff_ne]; exact hv0
    have HVZ := Lib.hid (show V = .tuple #[.agg (dsv .zero), .int .i64 v] by rw [HV.out, decV, hd])
    have HSE := Lib.hid (setRow_heap _ w.heap.size _ (dsv .zero) _ _ HZ1.out)
    have HBE := Lib.hid (below_setRow HB1.out (Nat.le_refl _) (dsv .zero))
    clear hv0 hd
    go_wp2_with (refine wpList_store_row rfl 26 _ _ rfl w.heap.size (dsv .zero) rfl rfl 26 _ HZ1.out ds_size rfl (ds_one _) ?_)
    exact bodyPost_ret (results_row_tmp rfl _ _ w.heap.size 26 (dsv .zero) (0, 0) _ rfl HSE.out Try.underlying26 rfl ds_size) rfl ⟨by rw [HVZ.out]; rfl, HBE.out⟩
  · have HRB := Lib.hid hrb
    have H2 := Lib.hid h2
    have HK := Lib.hid hk
    have HH := Lib.hid hh
    obtain ⟨G, hG⟩ : ∃ G, G = byteAt s 1 := ⟨_, rfl⟩
    rw [← hG, front_eq] at HRB
    rw [← hG] at HH
    have HG := Lib.hid hG
    obtain ⟨n, hn⟩ : ∃ n, n = W1.heap.size := ⟨_, rfl⟩
    obtain ⟨W2, hW2⟩ : ∃ W2, W2 = W1.alloc (.cells (rowR b) 1) := ⟨_, rfl⟩
    have HRB2 := Lib.hid (show Rb W2 b c s 2 false _ by rw [hW2]; exact HRB.out.alloc _)
    have hbn : b < n := by rw [hn]; exact HRB.out.body.lt
    have HDE := Lib.hid (show De w W2 w.heap.size n b c by
      rw [hW2, hn]
      exact ⟨HZ1.out.alloc _, Blk.new _ _ _, HB1.out.alloc HB1.out.size _⟩)
    have HTW := Lib.hid (show ∀ W W' : World, De w W w.heap.size n b c → Two W W' b c → De w W' w.heap.size n b c from fun W W' h ht => h.two rfl HCE.out HBE0.out (by have := HBE0.out; omega) ht)
    have HWE := Lib.hid hW2
    have HNEQ := Lib.hid hn
    clear h2 hk hh hrb hG hn hW2 hbn HRB HZ1 HB1 HCE HBE0
    go_wp2_with fail
    have hWE : W2 = W1.alloc (.cells #[.func (.func 29) #[.pointer (some ⟨b, 0, none⟩)] #[], .func (.func 30) #[.pointer (some ⟨b, 0, none⟩)] #[], .func (.func 31) #[.pointer (some ⟨b, 0, none⟩)] #[]] 1) := HWE.out
    rw [← hWE, ← HNEQ.out]
    clear hWE HWE HNEQ
    go_loopw [27] (fun i wr => ∃ j : Nat, j ≤ 3 ∧ i = .int .i64 (j : Int) ∧ De w wr w.heap.size n b c ∧ ∃ k br x, Rb wr b c s k br x ∧ (j = 0 → k = 2 ∧ br = false ∧ x = x0 G) ∧ (j = 1 → k = posO s 2 false (wA (fl G 1) (fl G 1 && fl G 2) : Nat) ∧ br = brO s 2 false (wA (fl G 1) (fl G 1 && fl G 2) : Nat) ∧ x = x1 G s) ∧ (j = 2 → k = midP G s ∧ br = midB G s ∧ x = midX G s) ∧ (j = 3 → Fin s k br x)) (fun i _ => (3 - intOf i).toNat)
    case atStart => exact ⟨0, by omega, rfl, HDE.out, _, _, _, HRB2.out, fun _ => ⟨rfl, rfl, rfl⟩, by omega, by omega, by omega⟩
    case round =>
      obtain ⟨j, hj, rfl, hE, k, br, x, hR, t0, t1, t2, t3⟩ := hrel
      have HE1 := Lib.hid hE
      have HR1 := Lib.hid hR
      clear HDE HRB2 hE hR
      have cases4 : j = 0 ∨ j = 1 ∨ j = 2 ∨ j = 3 := by omega
      clear hj
      rcases cases4 with rfl | rfl | rfl | rfl
      · obtain ⟨rfl, rfl, rfl⟩ := t0 rfl
        have c0 := HE1.out.row.cell 0
        simp only [List.getElem?_toArray, List.getElem?_cons_zero] at c0
        have HW := Lib.hid (readAck_any b c s 2 false _ _ _ _ _ _ 0 _ _ _ _ wr HS.out HR1.out)
        clear t0 t1 t2 t3
        go_wp2_with fail
        refine HW.out.mono ?_
        rintro e Wn ⟨rfl, ht, hr⟩
        have HE2 := Lib.hid (HTW.out _ _ HE1.out ht)
        have HR2 := Lib.hid hr
        clear ht hr HW
        go_wp2_with fail
        go_roundw
        case rel => exact ⟨1, by omega, by go_num, HE2.out, _, _, _, HR2.out, by omega, fun _ => ⟨rfl, rfl, rfl⟩, by omega, by omega⟩
        case measure => simp [intOf]
      · obtain ⟨rfl, rfl, rfl⟩ := t1 rfl
        have c1 := HE1.out.row.cell 1
        simp only [List.getElem?_toArray, List.getElem?_cons_zero, List.getElem?_cons_succ] at c1
        have HW := Lib.hid (readMap_any b c s _ _ _ _ _ _ _ _ _ _ wr HS.out HR1.out)
        clear t0 t1 t2 t3
        go_wp2_with fail
        refine HW.out.mono ?_
        rintro e Wn ⟨rfl, ht, hr⟩
        have HE2 := Lib.hid (HTW.out _ _ HE1.out ht)
        have HR2 := Lib.hid hr
        clear ht hr HW
        go_wp2_with fail
        go_roundw
        case rel => exact ⟨2, by omega, by go_num, HE2.out, _, _, _, HR2.out, by omega, by omega, fun _ => ⟨rfl, rfl, rfl⟩, by omega⟩
        case measure => simp [intOf]
      · obtain ⟨rfl, rfl, rfl⟩ := t2 rfl
        have c2 := HE1.out.row.cell 2
        simp only [List.getElem?_toArray, List.getElem?_cons_zero, List.getElem?_cons_succ] at c2
        have HW := Lib.hid (last_any b c s G HG.out.symm H2.out HK.out HH.out wr HS.out HR1.out)
        clear t0 t1 t2 t3
        go_wp2_with fail
        refine HW.out.mono ?_
        rintro e Wn ⟨rfl, ht, hr⟩
        have HE2 := Lib.hid (HTW.out _ _ HE1.out ht)
        have HR2 := Lib.hid hr
        clear ht hr HW
        go_wp2_with fail
        go_roundw
        case rel => exact ⟨3, by omega, by go_num, HE2.out, (by obtain ⟨k, br, x, q1, q2⟩ := HR2.out; exact ⟨k, br, x, q1, by omega, by omega, by omega, fun _ => q2⟩)⟩
        case measure => simp [intOf]
      · have hF := t3 rfl
        have HF := Lib.hid hF
        have c0 := HR1.out.body.cell 0
        simp only [List.getElem?_toArray, List.getElem?_cons_zero] at c0
        clear t0 t1 t2 t3 hF
        go_wp2_with fail
        refine (End_any c s k br wr HS.out HR1.out.at_ HR1.out.cur).mono ?_
        rintro e Wn ⟨rfl, m, rfl⟩
        have HE2 := Lib.hid (HTW.out _ _ HE1.out (Two.left (drawn_only wr m (some b))))
        have HR2 := Lib.hid (HR1.out.drewN m)
        obtain ⟨W3, hW3⟩ : ∃ W3, W3 = wr.drewN m := ⟨_, rfl⟩
        rw [← hW3] at HE2 HR2 ⊢
        clear hW3 HE1 HR1 c0
        obtain ⟨v, hv⟩ : ∃ v, v = endO s k br := ⟨_, rfl⟩
        unfold Fin at HF
        rw [← hv] at HF ⊢
        clear hv
        rcases HF.out with ⟨hv0, hd⟩ | ⟨hv0, hd⟩
        · have hv : (v == 0) = false := by rw [beq_eq_false_iff_ne]; exact hv0
          have HVZ := Lib.hid (show V = .tuple #[.agg (dsv .zero), .int .i64 v] by rw [HV.out, decV, hd])
          have HSE := Lib.hid (setRow_heap _ w.heap.size _ (dsv .zero) _ _ HE2.out.zero)
          have HBE := Lib.hid (below_setRow HE2.out.rest (Nat.le_refl _) (dsv .zero))
          clear hv0 hd HF
          go_wp2_with (refine wpList_store_row rfl 26 _ _ rfl w.heap.size (dsv .zero) rfl rfl 26 _ HE2.out.zero ds_size rfl (ds_one _) ?_)
          exact bodyPost_ret (results_row_tmp rfl _ _ w.heap.size 26 (dsv .zero) (0, 0) _ rfl HSE.out Try.underlying26 rfl ds_size) rfl ⟨by rw [HVZ.out]; rfl, HBE.out⟩
        · subst hv0
          have HVZ := Lib.hid (show V = .tuple #[.agg (dsv x), .int .i64 0] by rw [HV.out, decV, hd])
          have HSE := Lib.hid (setRow_heap _ w.heap.size _ (dsv x) _ _ HE2.out.zero)
          have HBE := Lib.hid (below_setRow HE2.out.rest (Nat.le_refl _) (dsv x))
          clear hd HF
          go_wp2_with (first
            | (refine load_ds rfl _ rfl b rfl (ptr c) x ⟨#[]⟩ ?_ ?_; exact HR2.out.body)
            | (refine wpList_store_row rfl 26 _ _ rfl w.heap.size (dsv x) rfl rfl 26 _ HE2.out.zero ds_size rfl (ds_one _) ?_))
          exact bodyPost_ret (results_row_tmp rfl _ _ w.heap.size 26 (dsv x) (0, 0) _ rfl HSE.out Try.underlying26 rfl ds_size) rfl ⟨by rw [HVZ.out]; rfl, HBE.out⟩
end Go.Proofs.Ytdhkjhkgjfcolaa
