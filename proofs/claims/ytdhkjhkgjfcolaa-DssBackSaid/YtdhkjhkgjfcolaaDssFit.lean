/-
  A signal that may be, near to any one (fit of plaitlaw11), by its walk.
-/
import Derived.Test.YtdhkjhkgjfcolaaDssWalks
import Derived.Laws.CopyOwn
namespace Go.Proofs.Ytdhkjhkgjfcolaa
open Go.ChangeShapes Go.WideShapes Go.ChangeAt Go.RowKit
set_option linter.unusedVariables false

def low32 (l : Bool) (n : Nat) : Nat := if l then n else n % 4294967296
def fitd (x : Ds) : Ds := if x.hm then ⟨x.fin, x.ha, x.ha && x.la, if x.ha then low32 x.la x.ack else 0, true, x.ld, low32 x.ld x.dsn, x.ssn, x.len % 65536, x.hs, if x.hs then x.sum else 0⟩ else ⟨false, true, x.la, low32 x.la x.ack, false, false, 0, 0, 0, false, 0⟩
theorem low_le (l : Bool) (n m : Nat) (h : n ≤ m) : low32 l n ≤ m := by unfold low32; split <;> omega
theorem low_may (l : Bool) (n : Nat) : l = true ∨ low32 l n ≤ 4294967295 := by
  cases l
  · right; unfold low32; simp; omega
  · exact .inl rfl
theorem fit_ok (x : Ds) (h : x.Ok) : (fitd x).Ok := by
  obtain ⟨h1, h2, h3, h4, h5⟩ := h
  have q1 := low_le x.la x.ack _ h1
  have q2 := low_le x.ld x.dsn _ h2
  unfold fitd
  cases x.hm
  · exact ⟨by simpa using q1, by simp, by simp, by simp, by simp⟩
  · refine ⟨?_, ?_, h3, ?_, ?_⟩ <;> simp only [if_true]
    · split <;> omega
    · omega
    · omega
    · split <;> omega
theorem fit_may (x : Ds) : (fitd x).May := by
  have h1 := low_may x.la x.ack
  have h2 := low_may x.ld x.dsn
  unfold fitd
  cases x.hm
  · refine ⟨.inl rfl, ⟨?_, ?_, ?_⟩, ?_, ?_, ?_, ?_⟩ <;> simp [h1]
  · refine ⟨.inr rfl, ⟨?_, ?_, ?_⟩, ?_, ?_, ?_, ?_⟩ <;> simp only [if_true]
    · intro h; rw [h]; exact ⟨rfl, rfl⟩
    · intro h; cases h
    · intro h; rw [h]; rfl
    · cases x.ha
      · exact .inr (by simp)
      · simpa using h1
    · exact h2
    · omega
    · omega
theorem fit_len (n : Int) : wrap64 ((IntKind.u64.wrap n).tmod 65536) = n % 65536 := by
  rw [IntKind.wrap_u64, Int.tmod_eq_emod_of_nonneg (by omega)]
  unfold wrap64
  omega
theorem fit_end (x : Ds) (w : World) (cs0 cs : Array Value) {a : Act} (ht : a.tmps.getD 2 undef = .pointer (some ⟨w.heap.size + 1, 0, none⟩)) (hc : cs = dsv (fitd x)) (hd : a.defers = []) (hb : ∀ o1 o2 : Obj, Below w.heap.size w ((w.alloc o1).alloc o2)) :
    bodyPost Try.prog Try.f9 (fun e w' => e = .returned (.agg (dsv (fitd x))) ∧ Below w.heap.size w w') .ret a ((w.alloc (.cells cs0 26)).alloc (.cells cs 26)) := by
  subst hc
  have hB : Blk ((w.alloc (.cells cs0 26)).alloc (.cells (dsv (fitd x)) 26)) (w.heap.size + 1) 26 (dsv (fitd x)) := by
    have := Blk.new (w.alloc (.cells cs0 26)) 26 (dsv (fitd x))
    simpa using this
  exact bodyPost_ret (results_cell_row rfl _ _ (w.heap.size + 1) 26 (dsv (fitd x)) (0, 0) _ ht hB Try.underlying26 rfl ds_size) hd ⟨rfl, hb _ _⟩
set_option maxHeartbeats 2000000 in
set_option maxRecDepth 100000 in
theorem fit_fffxx (fin : Bool) (ack : Nat) (ld : Bool) (dsn : Nat) (ssn : Nat) (len : Int) (hs : Bool) (sum : Nat) (h4 : -9223372036854775808 ≤ len ∧ len ≤ 9223372036854775807) (w : World) :
    Calls Try.prog 9 #[.agg (dsv (⟨fin, false, false, ack, false, ld, dsn, ssn, len, hs, sum⟩ : Ds))] w fun e w' => e = .returned (.agg (dsv (fitd (⟨fin, false, false, ack, false, ld, dsn, ssn, len, hs, sum⟩ : Ds)))) ∧ Below w.heap.size w w' := by
  have hb : ∀ o1 o2 : Obj, Below w.heap.size w ((w.alloc o1).alloc o2) := fun o1 o2 => ((Below.refl _ w).alloc (Nat.le_refl _) _).alloc (by simp) _
  have HB := Lib.hid hb
  clear hb
  go_enter Try.func9, Try.ntmps9
  go_wp2_with fail
  exact fit_end _ w _ _ rfl (by first | rfl | (simp [fitd, low32]; done) | (simp [fitd, low32, fit_len])) rfl HB.out
set_option maxHeartbeats 2000000 in
set_option maxRecDepth 100000 in
theorem fit_fftxx (fin : Bool) (ack : Nat) (ld : Bool) (dsn : Nat) (ssn : Nat) (len : Int) (hs : Bool) (sum : Nat) (h4 : -9223372036854775808 ≤ len ∧ len ≤ 9223372036854775807) (w : World) :
    Calls Try.prog 9 #[.agg (dsv (⟨fin, false, true, ack, false, ld, dsn, ssn, len, hs, sum⟩ : Ds))] w fun e w' => e = .returned (.agg (dsv (fitd (⟨fin, false, true, ack, false, ld, dsn, ssn, len, hs, sum⟩ : Ds)))) ∧ Below w.heap.size w w' := by
  have hb : ∀ o1 o2 : Obj, Below w.heap.size w ((w.alloc o1).alloc o2) := fun o1 o2 => ((Below.refl _ w).alloc (Nat.le_refl _) _).alloc (by simp) _
  have HB := Lib.hid hb
  clear hb
  go_enter Try.func9, Try.ntmps9
  go_wp2_with fail
  exact fit_end _ w _ _ rfl (by first | rfl | (simp [fitd, low32]; done) | (simp [fitd, low32, fit_len])) rfl HB.out
set_option maxHeartbeats 2000000 in
set_option maxRecDepth 100000 in
theorem fit_ftfxx (fin : Bool) (ack : Nat) (ld : Bool) (dsn : Nat) (ssn : Nat) (len : Int) (hs : Bool) (sum : Nat) (h4 : -9223372036854775808 ≤ len ∧ len ≤ 9223372036854775807) (w : World) :
    Calls Try.prog 9 #[.agg (dsv (⟨fin, true, false, ack, false, ld, dsn, ssn, len, hs, sum⟩ : Ds))] w fun e w' => e = .returned (.agg (dsv (fitd (⟨fin, true, false, ack, false, ld, dsn, ssn, len, hs, sum⟩ : Ds)))) ∧ Below w.heap.size w w' := by
  have hb : ∀ o1 o2 : Obj, Below w.heap.size w ((w.alloc o1).alloc o2) := fun o1 o2 => ((Below.refl _ w).alloc (Nat.le_refl _) _).alloc (by simp) _
  have HB := Lib.hid hb
  clear hb
  go_enter Try.func9, Try.ntmps9
  go_wp2_with fail
  exact fit_end _ w _ _ rfl (by first | rfl | (simp [fitd, low32]; done) | (simp [fitd, low32, fit_len])) rfl HB.out
set_option maxHeartbeats 2000000 in
set_option maxRecDepth 100000 in
theorem fit_fttxx (fin : Bool) (ack : Nat) (ld : Bool) (dsn : Nat) (ssn : Nat) (len : Int) (hs : Bool) (sum : Nat) (h4 : -9223372036854775808 ≤ len ∧ len ≤ 9223372036854775807) (w : World) :
    Calls Try.prog 9 #[.agg (dsv (⟨fin, true, true, ack, false, ld, dsn, ssn, len, hs, sum⟩ : Ds))] w fun e w' => e = .returned (.agg (dsv (fitd (⟨fin, true, true, ack, false, ld, dsn, ssn, len, hs, sum⟩ : Ds)))) ∧ Below w.heap.size w w' := by
  have hb : ∀ o1 o2 : Obj, Below w.heap.size w ((w.alloc o1).alloc o2) := fun o1 o2 => ((Below.refl _ w).alloc (Nat.le_refl _) _).alloc (by simp) _
  have HB := Lib.hid hb
  clear hb
  go_enter Try.func9, Try.ntmps9
  go_wp2_with fail
  exact fit_end _ w _ _ rfl (by first | rfl | (simp [fitd, low32]; done) | (simp [fitd, low32, fit_len])) rfl HB.out
set_option maxHeartbeats 2000000 in
set_option maxRecDepth 100000 in
theorem fit_tfxff (fin : Bool) (la : Bool) (ack : Nat) (dsn : Nat) (ssn : Nat) (len : Int) (sum : Nat) (h4 : -9223372036854775808 ≤ len ∧ len ≤ 9223372036854775807) (w : World) :
    Calls Try.prog 9 #[.agg (dsv (⟨fin, false, la, ack, true, false, dsn, ssn, len, false, sum⟩ : Ds))] w fun e w' => e = .returned (.agg (dsv (fitd (⟨fin, false, la, ack, true, false, dsn, ssn, len, false, sum⟩ : Ds)))) ∧ Below w.heap.size w w' := by
  have hb : ∀ o1 o2 : Obj, Below w.heap.size w ((w.alloc o1).alloc o2) := fun o1 o2 => ((Below.refl _ w).alloc (Nat.le_refl _) _).alloc (by simp) _
  have HB := Lib.hid hb
  clear hb
  go_enter Try.func9, Try.ntmps9
  go_wp2_with fail
  exact fit_end _ w _ _ rfl (by first | rfl | (simp [fitd, low32]; done) | (simp [fitd, low32, fit_len])) rfl HB.out
set_option maxHeartbeats 2000000 in
set_option maxRecDepth 100000 in
theorem fit_tfxft (fin : Bool) (la : Bool) (ack : Nat) (dsn : Nat) (ssn : Nat) (len : Int) (sum : Nat) (h4 : -9223372036854775808 ≤ len ∧ len ≤ 9223372036854775807) (w : World) :
    Calls Try.prog 9 #[.agg (dsv (⟨fin, false, la, ack, true, false, dsn, ssn, len, true, sum⟩ : Ds))] w fun e w' => e = .returned (.agg (dsv (fitd (⟨fin, false, la, ack, true, false, dsn, ssn, len, true, sum⟩ : Ds)))) ∧ Below w.heap.size w w' := by
  have hb : ∀ o1 o2 : Obj, Below w.heap.size w ((w.alloc o1).alloc o2) := fun o1 o2 => ((Below.refl _ w).alloc (Nat.le_refl _) _).alloc (by simp) _
  have HB := Lib.hid hb
  clear hb
  go_enter Try.func9, Try.ntmps9
  go_wp2_with fail
  exact fit_end _ w _ _ rfl (by first | rfl | (simp [fitd, low32]; done) | (simp [fitd, low32, fit_len])) rfl HB.out
set_option maxHeartbeats 2000000 in
set_option maxRecDepth 100000 in
theorem fit_tfxtf (fin : Bool) (la : Bool) (ack : Nat) (dsn : Nat) (ssn : Nat) (len : Int) (sum : Nat) (h4 : -9223372036854775808 ≤ len ∧ len ≤ 9223372036854775807) (w : World) :
    Calls Try.prog 9 #[.agg (dsv (⟨fin, false, la, ack, true, true, dsn, ssn, len, false, sum⟩ : Ds))] w fun e w' => e = .returned (.agg (dsv (fitd (⟨fin, false, la, ack, true, true, dsn, ssn, len, false, sum⟩ : Ds)))) ∧ Below w.heap.size w w' := by
  have hb : ∀ o1 o2 : Obj, Below w.heap.size w ((w.alloc o1).alloc o2) := fun o1 o2 => ((Below.refl _ w).alloc (Nat.le_refl _) _).alloc (by simp) _
  have HB := Lib.hid hb
  clear hb
  go_enter Try.func9, Try.ntmps9
  go_wp2_with fail
  exact fit_end _ w _ _ rfl (by first | rfl | (simp [fitd, low32]; done) | (simp [fitd, low32, fit_len])) rfl HB.out
set_option maxHeartbeats 2000000 in
set_option maxRecDepth 100000 in
theorem fit_tfxtt (fin : Bool) (la : Bool) (ack : Nat) (dsn : Nat) (ssn : Nat) (len : Int) (sum : Nat) (h4 : -9223372036854775808 ≤ len ∧ len ≤ 9223372036854775807) (w : World) :
    Calls Try.prog 9 #[.agg (dsv (⟨fin, false, la, ack, true, true, dsn, ssn, len, true, sum⟩ : Ds))] w fun e w' => e = .returned (.agg (dsv (fitd (⟨fin, false, la, ack, true, true, dsn, ssn, len, true, sum⟩ : Ds)))) ∧ Below w.heap.size w w' := by
  have hb : ∀ o1 o2 : Obj, Below w.heap.size w ((w.alloc o1).alloc o2) := fun o1 o2 => ((Below.refl _ w).alloc (Nat.le_refl _) _).alloc (by simp) _
  have HB := Lib.hid hb
  clear hb
  go_enter Try.func9, Try.ntmps9
  go_wp2_with fail
  exact fit_end _ w _ _ rfl (by first | rfl | (simp [fitd, low32]; done) | (simp [fitd, low32, fit_len])) rfl HB.out
set_option maxHeartbeats 2000000 in
set_option maxRecDepth 100000 in
theorem fit_ttfff (fin : Bool) (ack : Nat) (dsn : Nat) (ssn : Nat) (len : Int) (sum : Nat) (h4 : -9223372036854775808 ≤ len ∧ len ≤ 9223372036854775807) (w : World) :
    Calls Try.prog 9 #[.agg (dsv (⟨fin, true, false, ack, true, false, dsn, ssn, len, false, sum⟩ : Ds))] w fun e w' => e = .returned (.agg (dsv (fitd (⟨fin, true, false, ack, true, false, dsn, ssn, len, false, sum⟩ : Ds)))) ∧ Below w.heap.size w w' := by
  have hb : ∀ o1 o2 : Obj, Below w.heap.size w ((w.alloc o1).alloc o2) := fun o1 o2 => ((Below.refl _ w).alloc (Nat.le_refl _) _).alloc (by simp) _
  have HB := Lib.hid hb
  clear hb
  go_enter Try.func9, Try.ntmps9
  go_wp2_with fail
  exact fit_end _ w _ _ rfl (by first | rfl | (simp [fitd, low32]; done) | (simp [fitd, low32, fit_len])) rfl HB.out
set_option maxHeartbeats 2000000 in
set_option maxRecDepth 100000 in
theorem fit_ttfft (fin : Bool) (ack : Nat) (dsn : Nat) (ssn : Nat) (len : Int) (sum : Nat) (h4 : -9223372036854775808 ≤ len ∧ len ≤ 9223372036854775807) (w : World) :
    Calls Try.prog 9 #[.agg (dsv (⟨fin, true, false, ack, true, false, dsn, ssn, len, true, sum⟩ : Ds))] w fun e w' => e = .returned (.agg (dsv (fitd (⟨fin, true, false, ack, true, false, dsn, ssn, len, true, sum⟩ : Ds)))) ∧ Below w.heap.size w w' := by
  have hb : ∀ o1 o2 : Obj, Below w.heap.size w ((w.alloc o1).alloc o2) := fun o1 o2 => ((Below.refl _ w).alloc (Nat.le_refl _) _).alloc (by simp) _
  have HB := Lib.hid hb
  clear hb
  go_enter Try.func9, Try.ntmps9
  go_wp2_with fail
  exact fit_end _ w _ _ rfl (by first | rfl | (simp [fitd, low32]; done) | (simp [fitd, low32, fit_len])) rfl HB.out
set_option maxHeartbeats 2000000 in
set_option maxRecDepth 100000 in
theorem fit_ttftf (fin : Bool) (ack : Nat) (dsn : Nat) (ssn : Nat) (len : Int) (sum : Nat) (h4 : -9223372036854775808 ≤ len ∧ len ≤ 9223372036854775807) (w : World) :
    Calls Try.prog 9 #[.agg (dsv (⟨fin, true, false, ack, true, true, dsn, ssn, len, false, sum⟩ : Ds))] w fun e w' => e = .returned (.agg (dsv (fitd (⟨fin, true, false, ack, true, true, dsn, ssn, len, false, sum⟩ : Ds)))) ∧ Below w.heap.size w w' := by
  have hb : ∀ o1 o2 : Obj, Below w.heap.size w ((w.alloc o1).alloc o2) := fun o1 o2 => ((Below.refl _ w).alloc (Nat.le_refl _) _).alloc (by simp) _
  have HB := Lib.hid hb
  clear hb
  go_enter Try.func9, Try.ntmps9
  go_wp2_with fail
  exact fit_end _ w _ _ rfl (by first | rfl | (simp [fitd, low32]; done) | (simp [fitd, low32, fit_len])) rfl HB.out
set_option maxHeartbeats 2000000 in
set_option maxRecDepth 100000 in
theorem fit_ttftt (fin : Bool) (ack : Nat) (dsn : Nat) (ssn : Nat) (len : Int) (sum : Nat) (h4 : -9223372036854775808 ≤ len ∧ len ≤ 9223372036854775807) (w : World) :
    Calls Try.prog 9 #[.agg (dsv (⟨fin, true, false, ack, true, true, dsn, ssn, len, true, sum⟩ : Ds))] w fun e w' => e = .returned (.agg (dsv (fitd (⟨fin, true, false, ack, true, true, dsn, ssn, len, true, sum⟩ : Ds)))) ∧ Below w.heap.size w w' := by
  have hb : ∀ o1 o2 : Obj, Below w.heap.size w ((w.alloc o1).alloc o2) := fun o1 o2 => ((Below.refl _ w).alloc (Nat.le_refl _) _).alloc (by simp) _
  have HB := Lib.hid hb
  clear hb
  go_enter Try.func9, Try.ntmps9
  go_wp2_with fail
  exact fit_end _ w _ _ rfl (by first | rfl | (simp [fitd, low32]; done) | (simp [fitd, low32, fit_len])) rfl HB.out
set_option maxHeartbeats 2000000 in
set_option maxRecDepth 100000 in
theorem fit_tttff (fin : Bool) (ack : Nat) (dsn : Nat) (ssn : Nat) (len : Int) (sum : Nat) (h4 : -9223372036854775808 ≤ len ∧ len ≤ 9223372036854775807) (w : World) :
    Calls Try.prog 9 #[.agg (dsv (⟨fin, true, true, ack, true, false, dsn, ssn, len, false, sum⟩ : Ds))] w fun e w' => e = .returned (.agg (dsv (fitd (⟨fin, true, true, ack, true, false, dsn, ssn, len, false, sum⟩ : Ds)))) ∧ Below w.heap.size w w' := by
  have hb : ∀ o1 o2 : Obj, Below w.heap.size w ((w.alloc o1).alloc o2) := fun o1 o2 => ((Below.refl _ w).alloc (Nat.le_refl _) _).alloc (by simp) _
  have HB := Lib.hid hb
  clear hb
  go_enter Try.func9, Try.ntmps9
  go_wp2_with fail
  exact fit_end _ w _ _ rfl (by first | rfl | (simp [fitd, low32]; done) | (simp [fitd, low32, fit_len])) rfl HB.out
set_option maxHeartbeats 2000000 in
set_option maxRecDepth 100000 in
theorem fit_tttft (fin : Bool) (ack : Nat) (dsn : Nat) (ssn : Nat) (len : Int) (sum : Nat) (h4 : -9223372036854775808 ≤ len ∧ len ≤ 9223372036854775807) (w : World) :
    Calls Try.prog 9 #[.agg (dsv (⟨fin, true, true, ack, true, false, dsn, ssn, len, true, sum⟩ : Ds))] w fun e w' => e = .returned (.agg (dsv (fitd (⟨fin, true, true, ack, true, false, dsn, ssn, len, true, sum⟩ : Ds)))) ∧ Below w.heap.size w w' := by
  have hb : ∀ o1 o2 : Obj, Below w.heap.size w ((w.alloc o1).alloc o2) := fun o1 o2 => ((Below.refl _ w).alloc (Nat.le_refl _) _).alloc (by simp) _
  have HB := Lib.hid hb
  clear hb
  go_enter Try.func9, Try.ntmps9
  go_wp2_with fail
  exact fit_end _ w _ _ rfl (by first | rfl | (simp [fitd, low32]; done) | (simp [fitd, low32, fit_len])) rfl HB.out
set_option maxHeartbeats 2000000 in
set_option maxRecDepth 100000 in
theorem fit_ttttf (fin : Bool) (ack : Nat) (dsn : Nat) (ssn : Nat) (len : Int) (sum : Nat) (h4 : -9223372036854775808 ≤ len ∧ len ≤ 9223372036854775807) (w : World) :
    Calls Try.prog 9 #[.agg (dsv (⟨fin, true, true, ack, true, true, dsn, ssn, len, false, sum⟩ : Ds))] w fun e w' => e = .returned (.agg (dsv (fitd (⟨fin, true, true, ack, true, true, dsn, ssn, len, false, sum⟩ : Ds)))) ∧ Below w.heap.size w w' := by
  have hb : ∀ o1 o2 : Obj, Below w.heap.size w ((w.alloc o1).alloc o2) := fun o1 o2 => ((Below.refl _ w).alloc (Nat.le_refl _) _).alloc (by simp) _
  have HB := Lib.hid hb
  clear hb
  go_enter Try.func9, Try.ntmps9
  go_wp2_with fail
  exact fit_end _ w _ _ rfl (by first | rfl | (simp [fitd, low32]; done) | (simp [fitd, low32, fit_len])) rfl HB.out
set_option maxHeartbeats 2000000 in
set_option maxRecDepth 100000 in
theorem fit_ttttt (fin : Bool) (ack : Nat) (dsn : Nat) (ssn : Nat) (len : Int) (sum : Nat) (h4 : -9223372036854775808 ≤ len ∧ len ≤ 9223372036854775807) (w : World) :
    Calls Try.prog 9 #[.agg (dsv (⟨fin, true, true, ack, true, true, dsn, ssn, len, true, sum⟩ : Ds))] w fun e w' => e = .returned (.agg (dsv (fitd (⟨fin, true, true, ack, true, true, dsn, ssn, len, true, sum⟩ : Ds)))) ∧ Below w.heap.size w w' := by
  have hb : ∀ o1 o2 : Obj, Below w.heap.size w ((w.alloc o1).alloc o2) := fun o1 o2 => ((Below.refl _ w).alloc (Nat.le_refl _) _).alloc (by simp) _
  have HB := Lib.hid hb
  clear hb
  go_enter Try.func9, Try.ntmps9
  go_wp2_with fail
  exact fit_end _ w _ _ rfl (by first | rfl | (simp [fitd, low32]; done) | (simp [fitd, low32, fit_len])) rfl HB.out
theorem fit_any (x : Ds) (hx : x.Ok) (w : World) :
    Calls Try.prog 9 #[.agg (dsv x)] w fun e w' => e = .returned (.agg (dsv (fitd x))) ∧ Below w.heap.size w w' := by
  have h4 := hx.len
  obtain ⟨fin, ha, la, ack, hm, ld, dsn, ssn, len, hs, sum⟩ := x
  cases hm <;> cases ha
  · cases la
    · exact fit_fffxx fin ack ld dsn ssn len hs sum h4 w
    · exact fit_fftxx fin ack ld dsn ssn len hs sum h4 w
  · cases la
    · exact fit_ftfxx fin ack ld dsn ssn len hs sum h4 w
    · exact fit_fttxx fin ack ld dsn ssn len hs sum h4 w
  · cases ld <;> cases hs
    · exact fit_tfxff fin la ack dsn ssn len sum h4 w
    · exact fit_tfxft fin la ack dsn ssn len sum h4 w
    · exact fit_tfxtf fin la ack dsn ssn len sum h4 w
    · exact fit_tfxtt fin la ack dsn ssn len sum h4 w
  · cases la <;> cases ld <;> cases hs
    · exact fit_ttfff fin ack dsn ssn len sum h4 w
    · exact fit_ttfft fin ack dsn ssn len sum h4 w
    · exact fit_ttftf fin ack dsn ssn len sum h4 w
    · exact fit_ttftt fin ack dsn ssn len sum h4 w
    · exact fit_tttff fin ack dsn ssn len sum h4 w
    · exact fit_tttft fin ack dsn ssn len sum h4 w
    · exact fit_ttttf fin ack dsn ssn len sum h4 w
    · exact fit_ttttt fin ack dsn ssn len sum h4 w
end Go.Proofs.Ytdhkjhkgjfcolaa
