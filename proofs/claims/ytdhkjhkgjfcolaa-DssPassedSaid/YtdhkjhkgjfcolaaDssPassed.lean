/-
  DssPassed returns true for all signals and bits. No conditions.
-/
import Derived.Test.YtdhkjhkgjfcolaaDssWorks
import Derived.Test.YtdhkjhkgjfcolaaDssFit
import Derived.Test.YtdhkjhkgjfcolaaDssOpen
import Derived.Test.YtdhkjhkgjfcolaaByteMem
import Derived.StillTailTactics
import Derived.WalkKit
import Derived.ProofKit
import Derived.OpenShut
import Derived.ShutString
import Derived.ChangeOld
import Derived.Below
import Derived.SizedLaws
namespace Go.Proofs.Ytdhkjhkgjfcolaa.dssPassed
open Go.ChangeShapes Go.WideShapes Go.ChangeAt Go.RowKit
open Go.ChangeMaps (open_string shut_string)
set_option linter.unusedVariables false

/-- A text of bytes whose first two are told by numbers. -/
abbrev LL (a b : Nat) (R : List UInt8) : List UInt8 := UInt8.ofNat a :: UInt8.ofNat b :: R
theorem u8n (a : Nat) (h : a < 256) : (UInt8.ofNat a).toNat = a := by rw [UInt8.toNat_ofNat']; omega
section
variable {W : World} {g a b : Nat} {R : List UInt8}
theorem ll_0 (h : Bts W g (LL a b R)) (ha : a < 256) : W.cell? ⟨g, 0, none⟩ = some (.int .u8 (a : Int)) := by
  have q := Bts.cell h 0 (by simp)
  rw [q]
  show some (Value.int .u8 (((UInt8.ofNat a).toNat : Nat) : Int)) = _
  rw [u8n a ha]
theorem ll_1 (h : Bts W g (LL a b R)) (hb : b < 256) : W.cell? ⟨g, 1, none⟩ = some (.int .u8 (b : Int)) := by
  have q := Bts.cell h 1 (by simp)
  rw [q]
  show some (Value.int .u8 (((UInt8.ofNat b).toNat : Nat) : Int)) = _
  rw [u8n b hb]
theorem lf_0 (h : Bts W g (LL a b R)) : W.frozen? ⟨g, 0, none⟩ = false := Bts.frozen h 0 (by simp)
theorem lf_1 (h : Bts W g (LL a b R)) : W.frozen? ⟨g, 1, none⟩ = false := Bts.frozen h 1 (by simp)
theorem ls_0 (h : Bts W g (LL a b R)) (u : Nat) (hu : u < 256) : Bts (W.setCell ⟨g, 0, none⟩ (.int .u8 (u : Int))) g (LL u b R) := by
  have q := Bts.set_ h 0 (UInt8.ofNat u) (by simp)
  rw [u8n u hu] at q
  exact q
theorem ls_1 (h : Bts W g (LL a b R)) (u : Nat) (hu : u < 256) : Bts (W.setCell ⟨g, 1, none⟩ (.int .u8 (u : Int))) g (LL a u R) := by
  have q := Bts.set_ h 1 (UInt8.ofNat u) (by simp)
  rw [u8n u hu] at q
  exact q
end
theorem place8 (g k n cap : Nat) (hk : k < n) (hn : n < 9223372036854775808) (w : World) : (Instr.indexAt 34 (.slice (some ⟨g, 0, none⟩) n cap) (.int .i64 (k : Int))).run Try.prog w = .ok (.pointer (some ⟨g, k, none⟩)) w := by
  have e2 : (sizeOf (Try.prog.elem 34)).run Try.prog w = .ok 1 w := by kernel_rfl
  have hu : Try.prog.underlying 34 = some (.slice (Try.prog.elem 34)) := by kernel_rfl
  have e3 : (⟨g, 0, none⟩ : Addr).add k = ⟨g, k, none⟩ := by unfold Addr.add; split <;> simp_all
  rw [run_indexAt_slice w _ _ _ _ _ _ hu]
  simp [hk, go_sem]
theorem ex_index8 {P : Program} {ρ : Operand → Value} {o : Oper} {w : World} (t : TypeId) (x y : Operand) (ho : o.op = .indexAddr t x y) {n i v : Value} (hx : ρ x = n) (hy : ρ y = i) (h : (Instr.indexAt t n i).run P w = .ok v w) : (execOp ρ o).run P w = .ok (.value v) w := by
  unfold execOp
  rw [ho]
  simp [hx, hy, h]
theorem ex_or8 {ρ : Operand → Value} {o : Oper} {w : World} (t u : TypeId) (x y : Operand) (ho : o.op = .binOp .or t x y u) (a b c : Int) (hx : ρ x = .int .u8 a) (hy : ρ y = .int .u8 b) (ht : Try.prog.underlying t = some (.int .u8)) (h : bits .or .u8 a b = c) :
    (execOp ρ o).run Try.prog w = .ok (.value (.int .u8 c)) w := by
  subst h
  unfold execOp
  rw [ho]
  simp [hx, hy, go_sem]
theorem store_u8 (W : World) (g k : Nat) (x z : Int) (hc : W.cell? ⟨g, k, none⟩ = some (.int .u8 x)) (hf : W.frozen? ⟨g, k, none⟩ = false) : (storeVar 5 ⟨g, k, none⟩ (.int .u8 z)).run Try.prog W = .ok () (W.setCell ⟨g, k, none⟩ (.int .u8 z)) := by
  have hi : (Try.prog.info? 5).map (·.size) = some 1 := by kernel_rfl
  have hst : (store ((⟨g, k, none⟩ : Addr).add 0) (.int .u8 z)).run Try.prog W = .ok () (W.setCell ⟨g, k, none⟩ (.int .u8 z)) := by
    rw [show (⟨g, k, none⟩ : Addr).add 0 = ⟨g, k, none⟩ from rfl, run_store Try.prog W _ _ _ rfl, hc]
    simp [hf]
  cases hq : Try.prog.info? 5 with
  | none => rw [hq] at hi; cases hi
  | some i =>
    have hs : i.size = 1 := by simpa [hq] using hi
    simp [storeVar, sizeOf, typeInfo, hq, Value.cells, hs, storeCells, hst]
/-- A byte or'ed with some bits of another one, as a number. -/
theorem mixed (a b m : Nat) (ha : a < 256) (hb : b < 256) (hm : m = 15 ∨ m = 224 ∨ m = 2 ∨ m = 24) : bits .or .u8 (a : Int) (bits .and .u8 (b : Int) (m : Int)) = ((a ||| (b &&& m) : Nat) : Int) ∧ a ||| (b &&& m) < 256 := by
  have hl : b &&& m < 256 := Nat.lt_of_le_of_lt Nat.and_le_left hb
  have hm256 : m < 256 := by omega
  exact ⟨by rw [u8_and_nat b m hb hm256, u8_or_nat a (b &&& m) ha hl], Nat.or_lt_two_pow (n := 8) ha hl⟩
theorem kind_16 : ∀ b : _root_.Fin 256, (32 ||| (b.val &&& 15)) / 16 = 2 := by decide +kernel
/-- The second byte, as it is behind all that is done to it. -/
def last (F b : Nat) : Nat :=
  let c := F ||| (b &&& 224)
  let d := if fl F 1 then c else c ||| (b &&& 2)
  if fl F 4 then d else d ||| (b &&& 24)
theorem last_tells : ∀ (F : _root_.Fin 32) (b : _root_.Fin 256), fl (last F.val b.val) 1 = fl F.val 1 ∧ (fl (last F.val b.val) 1 && fl (last F.val b.val) 2) = (fl F.val 1 && fl F.val 2) ∧ fl (last F.val b.val) 4 = fl F.val 4 ∧ (fl (last F.val b.val) 4 && fl (last F.val b.val) 8) = (fl F.val 4 && fl F.val 8) ∧ (fl (last F.val b.val) 4 && fl (last F.val b.val) 16) = (fl F.val 4 && fl F.val 16) := by decide +kernel
theorem last_dec (y : Ds) (hy : y.Ok) (hm : y.May) (p q : Nat) (hp : p < 256) (hq : q < 256) (hl : last y.bits q < 256) : dec (txt (LL (32 ||| (p &&& 15)) (last y.bits q) y.rest)) = (y, 0) := by
  have hu : 32 ||| (p &&& 15) < 256 := (mixed 32 p 15 (by omega) hp (.inl rfl)).2
  refine dec_of y hy hm _ _ ?_ ?_
  · rw [u8n _ hu]; exact kind_16 ⟨p, hp⟩
  · rw [u8n _ hl]
    obtain ⟨t1, t2, t3, t4, t5⟩ := last_tells ⟨y.bits, y.bits_lt⟩ ⟨q, hq⟩
    obtain ⟨b1, b2, b3, b4, b5⟩ := bits_tell y hm.2.1
    exact ⟨t1.trans b1, t2.trans b2, t3.trans b3, t4.trans b4, t5.trans b5⟩
set_option maxRecDepth 100000 in
/-- Two bytes, as an argument. -/
theorem open_two {H : Type} {enc : TypeId × Value → H} {w : World} {base : Nat} {spare : Nat → Bool} {held : Bool} {r : Reach} {b0 : Nat} {v : Value} {d : DataW H} {p : List MemPlace}
    (hv : Value.okWide Try.prog w r b0 42 v) (h : DataW.Trod enc Try.prog w base spare held 42 v d p) :
    ∃ p q : Nat, v = .agg #[.int .u8 (p : Int), .int .u8 (q : Int)] ∧ p < 256 ∧ q < 256 := by
  simp only [Value.okWide, Try.underlying42] at hv
  obtain ⟨cs, rfl, hsz, _⟩ := hv
  have h2 : cs.size = 2 := hsz.trans (by kernel_rfl : Try.prog.cellsOf 42 = 2)
  obtain ⟨fuel, hf⟩ := h
  obtain ⟨xs, n, _, hx, hl, hlen, hel⟩ := DataW.trod_array Try.underlying42 hf
  obtain ⟨l⟩ := cs
  have hl2 : l.length = 2 := h2
  clear hx hl h2 hsz hf
  match l, hl2, xs, hlen, hel with
  | [c0, c1], _, [y0, y1], _, hel =>
    have q0 := hel 0 (by decide)
    have q1 := hel 1 (by decide)
    rw [show Try.prog.cellsOf 5 = 1 by kernel_rfl] at q0 q1
    obtain ⟨z0, e0, _, w0⟩ := DataW.trod_int Try.underlying5 (show DataW.trod enc Try.prog w base spare held n 5 [c0] = some y0 from q0)
    obtain ⟨z1, e1, _, w1⟩ := DataW.trod_int Try.underlying5 (show DataW.trod enc Try.prog w base spare held n 5 [c1] = some y1 from q1)
    obtain rfl : c0 = _ := by simpa using e0
    obtain rfl : c1 = _ := by simpa using e1
    obtain ⟨a0, a1⟩ := bounds_u8 w0
    obtain ⟨b0, b1⟩ := bounds_u8 w1
    obtain ⟨p, rfl⟩ := Int.eq_ofNat_of_zero_le a0
    obtain ⟨q, rfl⟩ := Int.eq_ofNat_of_zero_le b0
    exact ⟨p, q, rfl, by omega, by omega⟩
set_option maxHeartbeats 4000000 in
set_option maxRecDepth 100000 in
theorem walk (x : Ds) (hx : x.Ok) (p q : Nat) (hp : p < 256) (hq : q < 256) (w : World) :
    Calls Try.prog 6 #[.agg (dsv x), .agg #[.int .u8 (p : Int), .int .u8 (q : Int)]] w fun e w' => e = .returned (.bool true) ∧ Below w.heap.size w w' := by
  have HX := Lib.hid hx
  obtain ⟨b1, hb1⟩ : ∃ b, b = w.heap.size + 1 := ⟨_, rfl⟩
  obtain ⟨W0, hW0⟩ : ∃ W, W = (w.alloc (.cells (dsv x) 26)).alloc (.cells #[.int .u8 (p : Int), .int .u8 (q : Int)] 42) := ⟨_, rfl⟩
  have HC := Lib.hid (show Blk W0 w.heap.size 26 (dsv x) by rw [hW0]; exact (Blk.new _ _ _).alloc _)
  have HP := Lib.hid (show Blk W0 b1 42 #[.int .u8 (p : Int), .int .u8 (q : Int)] by
    rw [hW0, hb1]
    have t := Blk.new (w.alloc (.cells (dsv x) 26)) 42 #[.int .u8 (p : Int), .int .u8 (q : Int)]
    rwa [show (w.alloc (.cells (dsv x) 26)).heap.size = w.heap.size + 1 by simp] at t)
  have HB := Lib.hid (show Below w.heap.size w W0 by rw [hW0]; exact ((Below.refl _ w).alloc (Nat.le_refl _) _).alloc (by simp) _)
  have HN1 := Lib.hid (show w.heap.size ≠ b1 ∧ w.heap.size ≤ b1 by omega)
  have HW0 := Lib.hid hW0
  have HB1E := Lib.hid hb1
  have HPQ := Lib.hid (And.intro hp hq)
  clear hx hW0 hb1
  go_enter Try.func6, Try.ntmps6
  go_upto_region 1 with fail
  rw [← HW0.out, ← HB1E.out]
  clear HW0 HB1E
  go_wp2_with fail
  refine (works_t _).mono ?_
  rintro e W1 ⟨rfl, b⟩
  have HC1 := Lib.hid (HC.out.below b HC.out.lt)
  have HP1 := Lib.hid (HP.out.below b HP.out.lt)
  have HB1 := Lib.hid (HB.out.trans (b.mono HB.out.size))
  clear b HC HP HB
  go_wp2_with (refine wpList_load_row rfl 26 _ rfl w.heap.size rfl 26 (dsv x) (0, 0) _ ?_ Try.underlying26 rfl ds_size ?_; exact HC1.out)
  refine (fit_any x HX.out W1).mono ?_
  rintro e W2 ⟨rfl, b⟩
  obtain ⟨y, hy⟩ : ∃ y, y = fitd x := ⟨_, rfl⟩
  rw [← hy]
  have HYO := Lib.hid (show y.Ok by rw [hy]; exact fit_ok x HX.out)
  have HYM := Lib.hid (show y.May by rw [hy]; exact fit_may x)
  have HC2 := Lib.hid (HC1.out.below b HC1.out.lt)
  have HP2 := Lib.hid (HP1.out.below b HP1.out.lt)
  have HB2 := Lib.hid (HB1.out.trans (b.mono HB1.out.size))
  clear b hy HC1 HP1 HB1
  obtain ⟨W3, hW3⟩ : ∃ W3, W3 = W2.setRow w.heap.size (dsv y) := ⟨_, rfl⟩
  have HC3 := Lib.hid (show Blk W3 w.heap.size 26 (dsv y) by rw [hW3]; exact setRow_heap _ _ _ _ _ _ HC2.out)
  have HP3 := Lib.hid (show Blk W3 b1 42 #[.int .u8 (p : Int), .int .u8 (q : Int)] by rw [hW3]; exact HP2.out.same (setRow_other W2 w.heap.size b1 _ HN1.out.1.symm))
  have HB3 := Lib.hid (show Below w.heap.size w W3 by rw [hW3]; exact below_setRow HB2.out (Nat.le_refl _) _)
  have HW3 := Lib.hid hW3
  clear hW3
  go_wp2_with (first
    | (refine wpList_store_row rfl 26 _ _ rfl w.heap.size (dsv y) rfl rfl 26 (dsv x) ?_ ds_size rfl (ds_one _) ?_; exact HC2.out; rw [← HW3.out])
    | (refine wpList_load_row rfl 26 _ rfl w.heap.size rfl 26 (dsv y) (0, 0) _ ?_ Try.underlying26 rfl ds_size ?_; exact HC3.out))
  refine (Encode_any y HYO.out W3).mono ?_
  rintro e W4 ⟨rfl, b⟩
  rw [encV_t y HYM.out]
  obtain ⟨S, hS⟩ : ∃ S, S = txt y.body := ⟨_, rfl⟩
  rw [← hS]
  have hSs : S.size = y.size + w2 y.hs := by rw [hS, txt_size, y.body_size]
  have hb26 := y.size_le
  have hw2 := w2_le y.hs
  have n28 : S.size ≤ 28 := by omega
  have n2 : 2 ≤ S.size := by rw [hSs]; unfold Ds.size siz; omega
  have i2 : (2 : Int) ≤ (S.size : Int) := by omega
  have i0 : (0 : Int) < (S.size : Int) := by omega
  have i1 : (1 : Int) < (S.size : Int) := by omega
  have HC4 := Lib.hid (HC3.out.below b HC3.out.lt)
  have HP4 := Lib.hid (HP3.out.below b HP3.out.lt)
  have HB4 := Lib.hid (HB3.out.trans (b.mono HB3.out.size))
  have HS := Lib.hid hS
  clear b hSs hb26 hw2 HC2 HP2 HB2 HC3 HP3 HB3 HW3
  obtain ⟨cp, W5, hcv, hbt, hbl, hsz⟩ := text_bytes W4 S
  obtain ⟨g, hg⟩ : ∃ g, g = W4.heap.size := ⟨_, rfl⟩
  rw [← hg] at hcv hbt hsz
  obtain ⟨R, hR⟩ : ∃ R, R = y.rest := ⟨_, rfl⟩
  obtain ⟨F, hF⟩ : ∃ F, F = y.bits := ⟨_, rfl⟩
  have hF32 : F < 32 := by rw [hF]; exact y.bits_lt
  have hF256 : F < 256 := by omega
  have hdl : S.data.toList = LL 32 F R := by rw [hS, hF, hR]; rfl
  have hlen : (LL 32 F R).length = S.size := by rw [← hdl, len_data]
  have HLEN := Lib.hid hlen
  rw [hdl] at hbt
  have HC5 := Lib.hid (HC4.out.below hbl HC4.out.lt)
  have HP5 := Lib.hid (HP4.out.below hbl HP4.out.lt)
  have HB5 := Lib.hid (HB4.out.trans (hbl.mono HB4.out.size))
  have HT5 := Lib.hid hbt
  have HG := Lib.hid (show w.heap.size ≠ g ∧ b1 ≠ g ∧ w.heap.size ≤ g from ⟨by rw [hg]; exact Nat.ne_of_lt HC4.out.lt, by rw [hg]; exact Nat.ne_of_lt HP4.out.lt, by rw [hg]; exact HB4.out.size⟩)
  have HF := Lib.hid hF
  have HR := Lib.hid hR
  clear hbt hbl hsz hg hdl hlen hF hR hS HC4 HP4 HB4
  go_upto_region 8 with fail
  obtain ⟨U, hU⟩ : ∃ U, U = 32 ||| (p &&& 15) := ⟨_, rfl⟩
  obtain ⟨eU, hU256⟩ := mixed 32 p 15 (by omega) hp (.inl rfl)
  rw [← hU] at eU hU256
  obtain ⟨C, hC⟩ : ∃ C, C = F ||| (q &&& 224) := ⟨_, rfl⟩
  obtain ⟨eC, hC256⟩ := mixed F q 224 hF256 hq (.inr (.inl rfl))
  rw [← hC] at eC hC256
  have HEU := Lib.hid eU
  have HEC := Lib.hid eC
  have HU := Lib.hid hU
  have HCC := Lib.hid hC
  clear eU eC hU hC
  have hc0 := ll_0 HT5.out (by omega)
  have hp0 := HP5.out.cell 0
  simp only [List.getElem?_toArray, List.getElem?_cons_zero] at hp0
  have B0 : (fun W : World => Below w.heap.size w W ∧ W.heap = W5.heap ∧ W.cell? ⟨g, 0, none⟩ = some (.int .u8 (32 : Int)) ∧ W.cell? ⟨b1, 0, none⟩ = some (.int .u8 (p : Int))) W5.drew := ⟨HB5.out.drew, rfl, by simpa using hc0, by simpa using hp0⟩
  refine walk_start 8 (fun W : World => Below w.heap.size w W ∧ W.heap = W5.heap ∧ W.cell? ⟨g, 0, none⟩ = some (.int .u8 (32 : Int)) ∧ W.cell? ⟨b1, 0, none⟩ = some (.int .u8 (p : Int))) (by kernel_rfl) (n := 9) rfl ?_
  obtain ⟨D, hD⟩ : ∃ D, D = W5.drew := ⟨_, rfl⟩
  rw [← hD] at B0 ⊢
  clear hD
  refine walk_free 0 (.slice (some ⟨g, 0, none⟩) S.size cp) rfl (by kernel_rfl) (by kernel_rfl) (by kernel_rfl) (by kernel_rfl) (by kernel_rfl) (by kernel_rfl) B0 (fun _ _ => by kernel_rfl) ?_
  refine walk_free 1 (.pointer (some ⟨g, 0, none⟩)) rfl (by kernel_rfl) (by kernel_rfl) (by kernel_rfl) (by kernel_rfl) (by kernel_rfl) (by kernel_rfl) B0 (fun W _ => by exact ex_index8 34 (.tmp 28) (.const (.int .i64 0)) (by kernel_rfl) (n := .slice (some ⟨g, 0, none⟩) S.size cp) (i := .int .i64 0) (by kernel_rfl) (by kernel_rfl) (place8 g 0 S.size cp (by omega) (by omega) W)) ?_
  refine walk_free 2 (.int .u8 (32 : Int)) rfl (by kernel_rfl) (by kernel_rfl) (by kernel_rfl) (by kernel_rfl) (by kernel_rfl) (by kernel_rfl) B0 (fun W t => by exact ex_load 5 (.tmp 29) (by kernel_rfl) ⟨g, 0, none⟩ (by kernel_rfl) (by kernel_rfl) t.2.2.1) ?_
  refine walk_free 3 (.pointer (some ⟨b1, 0, none⟩)) rfl (by kernel_rfl) (by kernel_rfl) (by kernel_rfl) (by kernel_rfl) (by kernel_rfl) (by kernel_rfl) B0 (fun _ _ => by kernel_rfl) ?_
  refine walk_free 4 (.int .u8 (p : Int)) rfl (by kernel_rfl) (by kernel_rfl) (by kernel_rfl) (by kernel_rfl) (by kernel_rfl) (by kernel_rfl) B0 (fun W t => by exact ex_load 5 (.tmp 31) (by kernel_rfl) ⟨b1, 0, none⟩ (by kernel_rfl) (by kernel_rfl) t.2.2.2) ?_
  refine walk_free 5 (.int .u8 (bits .and .u8 (p : Int) 15)) rfl (by kernel_rfl) (by kernel_rfl) (by kernel_rfl) (by kernel_rfl) (by kernel_rfl) (by kernel_rfl) B0 (fun _ _ => by kernel_rfl) ?_
  refine walk_free 6 (.int .u8 (U : Int)) rfl (by kernel_rfl) (by kernel_rfl) (by kernel_rfl) (by kernel_rfl) (by kernel_rfl) (by kernel_rfl) B0 (fun _ _ => by exact ex_or8 5 5 (.tmp 30) (.tmp 33) (by kernel_rfl) (32 : Int) (bits .and .u8 (p : Int) 15) (U : Int) (by kernel_rfl) (by kernel_rfl) (by kernel_rfl) HEU.out) ?_
  refine walk_free 7 (.pointer (some ⟨g, 0, none⟩)) rfl (by kernel_rfl) (by kernel_rfl) (by kernel_rfl) (by kernel_rfl) (by kernel_rfl) (by kernel_rfl) B0 (fun W _ => by exact ex_index8 34 (.tmp 28) (.const (.int .i64 0)) (by kernel_rfl) (n := .slice (some ⟨g, 0, none⟩) S.size cp) (i := .int .i64 0) (by kernel_rfl) (by kernel_rfl) (place8 g 0 S.size cp (by omega) (by omega) W)) ?_
  have hTD : Bts D g (LL 32 F R) := HT5.out.same (by rw [B0.2.1]) (by rw [B0.2.1]; exact Nat.le_refl _)
  have hCD : Blk D w.heap.size 26 (dsv y) := HC5.out.same (by rw [B0.2.1])
  have hPD : Blk D b1 42 #[.int .u8 (p : Int), .int .u8 (q : Int)] := HP5.out.same (by rw [B0.2.1])
  refine walk_one 8 (by kernel_rfl) (do_last 8 rfl (by kernel_rfl) (ex_store_cell 5 (.tmp 35) (.tmp 34) (by kernel_rfl) ⟨g, 0, none⟩ (.int .u8 (U : Int)) (by kernel_rfl) (by kernel_rfl) (store_u8 D g 0 _ _ B0.2.2.1 (lf_0 hTD))) (by kernel_rfl) ?_)
  obtain ⟨W6, hE⟩ : ∃ W, W = D.setCell ⟨g, 0, none⟩ (.int .u8 (U : Int)) := ⟨_, rfl⟩
  have HC6 := Lib.hid (show Blk W6 w.heap.size 26 (dsv y) by rw [hE]; exact hCD.same (Below.heap_setCell D ⟨g, 0, none⟩ _ _ HG.out.1))
  have HP6 := Lib.hid (show Blk W6 b1 42 #[.int .u8 (p : Int), .int .u8 (q : Int)] by rw [hE]; exact hPD.same (Below.heap_setCell D ⟨g, 0, none⟩ _ _ HG.out.2.1))
  have HT6 := Lib.hid (show Bts W6 g (LL U F R) by rw [hE]; exact ls_0 hTD _ (by omega))
  have HB6 := Lib.hid (show Below w.heap.size w W6 by rw [hE]; exact B0.1.setCell HG.out.2.2 _)
  rw [← hE]
  clear hE B0 hTD hCD hPD hc0 hp0 HC5 HP5 HT5 HB5
  refine walk_end (by kernel_rfl) ?_
  go_upto_region 9 with fail
  have hc0 := ll_1 HT6.out (by omega)
  have hp0 := HP6.out.cell 1
  simp only [List.getElem?_toArray, List.getElem?_cons_zero, List.getElem?_cons_succ] at hp0
  have B0 : (fun W : World => Below w.heap.size w W ∧ W.heap = W6.heap ∧ W.cell? ⟨g, 1, none⟩ = some (.int .u8 (F : Int)) ∧ W.cell? ⟨b1, 1, none⟩ = some (.int .u8 (q : Int))) W6.drew := ⟨HB6.out.drew, rfl, by simpa using hc0, by simpa using hp0⟩
  refine walk_start 8 (fun W : World => Below w.heap.size w W ∧ W.heap = W6.heap ∧ W.cell? ⟨g, 1, none⟩ = some (.int .u8 (F : Int)) ∧ W.cell? ⟨b1, 1, none⟩ = some (.int .u8 (q : Int))) (by kernel_rfl) (n := 9) rfl ?_
  obtain ⟨D, hD⟩ : ∃ D, D = W6.drew := ⟨_, rfl⟩
  rw [← hD] at B0 ⊢
  clear hD
  refine walk_free 0 (.slice (some ⟨g, 0, none⟩) S.size cp) rfl (by kernel_rfl) (by kernel_rfl) (by kernel_rfl) (by kernel_rfl) (by kernel_rfl) (by kernel_rfl) B0 (fun _ _ => by kernel_rfl) ?_
  refine walk_free 1 (.pointer (some ⟨g, 1, none⟩)) rfl (by kernel_rfl) (by kernel_rfl) (by kernel_rfl) (by kernel_rfl) (by kernel_rfl) (by kernel_rfl) B0 (fun W _ => by exact ex_index8 34 (.tmp 36) (.const (.int .i64 1)) (by kernel_rfl) (n := .slice (some ⟨g, 0, none⟩) S.size cp) (i := .int .i64 1) (by kernel_rfl) (by kernel_rfl) (place8 g 1 S.size cp (by omega) (by omega) W)) ?_
  refine walk_free 2 (.int .u8 (F : Int)) rfl (by kernel_rfl) (by kernel_rfl) (by kernel_rfl) (by kernel_rfl) (by kernel_rfl) (by kernel_rfl) B0 (fun W t => by exact ex_load 5 (.tmp 37) (by kernel_rfl) ⟨g, 1, none⟩ (by kernel_rfl) (by kernel_rfl) t.2.2.1) ?_
  refine walk_free 3 (.pointer (some ⟨b1, 1, none⟩)) rfl (by kernel_rfl) (by kernel_rfl) (by kernel_rfl) (by kernel_rfl) (by kernel_rfl) (by kernel_rfl) B0 (fun _ _ => by kernel_rfl) ?_
  refine walk_free 4 (.int .u8 (q : Int)) rfl (by kernel_rfl) (by kernel_rfl) (by kernel_rfl) (by kernel_rfl) (by kernel_rfl) (by kernel_rfl) B0 (fun W t => by exact ex_load 5 (.tmp 39) (by kernel_rfl) ⟨b1, 1, none⟩ (by kernel_rfl) (by kernel_rfl) t.2.2.2) ?_
  refine walk_free 5 (.int .u8 (bits .and .u8 (q : Int) 224)) rfl (by kernel_rfl) (by kernel_rfl) (by kernel_rfl) (by kernel_rfl) (by kernel_rfl) (by kernel_rfl) B0 (fun _ _ => by kernel_rfl) ?_
  refine walk_free 6 (.int .u8 (C : Int)) rfl (by kernel_rfl) (by kernel_rfl) (by kernel_rfl) (by kernel_rfl) (by kernel_rfl) (by kernel_rfl) B0 (fun _ _ => by exact ex_or8 5 5 (.tmp 38) (.tmp 41) (by kernel_rfl) (F : Int) (bits .and .u8 (q : Int) 224) (C : Int) (by kernel_rfl) (by kernel_rfl) (by kernel_rfl) HEC.out) ?_
  refine walk_free 7 (.pointer (some ⟨g, 1, none⟩)) rfl (by kernel_rfl) (by kernel_rfl) (by kernel_rfl) (by kernel_rfl) (by kernel_rfl) (by kernel_rfl) B0 (fun W _ => by exact ex_index8 34 (.tmp 36) (.const (.int .i64 1)) (by kernel_rfl) (n := .slice (some ⟨g, 0, none⟩) S.size cp) (i := .int .i64 1) (by kernel_rfl) (by kernel_rfl) (place8 g 1 S.size cp (by omega) (by omega) W)) ?_
  have hTD : Bts D g (LL U F R) := HT6.out.same (by rw [B0.2.1]) (by rw [B0.2.1]; exact Nat.le_refl _)
  have hCD : Blk D w.heap.size 26 (dsv y) := HC6.out.same (by rw [B0.2.1])
  have hPD : Blk D b1 42 #[.int .u8 (p : Int), .int .u8 (q : Int)] := HP6.out.same (by rw [B0.2.1])
  refine walk_one 8 (by kernel_rfl) (do_last 8 rfl (by kernel_rfl) (ex_store_cell 5 (.tmp 43) (.tmp 42) (by kernel_rfl) ⟨g, 1, none⟩ (.int .u8 (C : Int)) (by kernel_rfl) (by kernel_rfl) (store_u8 D g 1 _ _ B0.2.2.1 (lf_1 hTD))) (by kernel_rfl) ?_)
  obtain ⟨W7, hE⟩ : ∃ W, W = D.setCell ⟨g, 1, none⟩ (.int .u8 (C : Int)) := ⟨_, rfl⟩
  have HC7 := Lib.hid (show Blk W7 w.heap.size 26 (dsv y) by rw [hE]; exact hCD.same (Below.heap_setCell D ⟨g, 1, none⟩ _ _ HG.out.1))
  have HP7 := Lib.hid (show Blk W7 b1 42 #[.int .u8 (p : Int), .int .u8 (q : Int)] by rw [hE]; exact hPD.same (Below.heap_setCell D ⟨g, 1, none⟩ _ _ HG.out.2.1))
  have HT7 := Lib.hid (show Bts W7 g (LL U C R) by rw [hE]; exact ls_1 hTD _ (by omega))
  have HB7 := Lib.hid (show Below w.heap.size w W7 by rw [hE]; exact B0.1.setCell HG.out.2.2 _)
  rw [← hE]
  clear hE B0 hTD hCD hPD hc0 hp0 HC6 HP6 HT6 HB6
  refine walk_end (by kernel_rfl) ?_
  go_upto_region 10 with fail
  have t1 : fl F 1 = y.ha := by rw [HF.out]; exact (bits_tell y HYM.out.2.1).1
  have t4 : fl F 4 = y.hm := by rw [HF.out]; exact (bits_tell y HYM.out.2.1).2.2.1
  have HT1 := Lib.hid t1
  have HT4 := Lib.hid t4
  clear t1 t4
  cases ea : y.ha
  · have c1 := HC7.out.cell 1
    simp only [List.getElem?_toArray, List.getElem?_cons_zero, List.getElem?_cons_succ] at c1
    rw [ea] at c1
    go_upto_region 11 with fail
    clear c1
    obtain ⟨C2, hC2⟩ : ∃ c, c = C ||| (q &&& 2) := ⟨_, rfl⟩
    obtain ⟨e2, h256⟩ := mixed C q 2 hC256 hq (.inr (.inr (.inl rfl)))
    rw [← hC2] at e2 h256
    have HE2 := Lib.hid e2
    have HC22 := Lib.hid hC2
    clear e2 hC2
    have hc0 := ll_1 HT7.out (by omega)
    have hp0 := HP7.out.cell 1
    simp only [List.getElem?_toArray, List.getElem?_cons_zero, List.getElem?_cons_succ] at hp0
    have B0 : (fun W : World => Below w.heap.size w W ∧ W.heap = W7.heap ∧ W.cell? ⟨g, 1, none⟩ = some (.int .u8 (C : Int)) ∧ W.cell? ⟨b1, 1, none⟩ = some (.int .u8 (q : Int))) W7.drew := ⟨HB7.out.drew, rfl, by simpa using hc0, by simpa using hp0⟩
    refine walk_start 8 (fun W : World => Below w.heap.size w W ∧ W.heap = W7.heap ∧ W.cell? ⟨g, 1, none⟩ = some (.int .u8 (C : Int)) ∧ W.cell? ⟨b1, 1, none⟩ = some (.int .u8 (q : Int))) (by kernel_rfl) (n := 9) rfl ?_
    obtain ⟨D, hD⟩ : ∃ D, D = W7.drew := ⟨_, rfl⟩
    rw [← hD] at B0 ⊢
    clear hD
    refine walk_free 0 (.slice (some ⟨g, 0, none⟩) S.size cp) rfl (by kernel_rfl) (by kernel_rfl) (by kernel_rfl) (by kernel_rfl) (by kernel_rfl) (by kernel_rfl) B0 (fun _ _ => by kernel_rfl) ?_
    refine walk_free 1 (.pointer (some ⟨g, 1, none⟩)) rfl (by kernel_rfl) (by kernel_rfl) (by kernel_rfl) (by kernel_rfl) (by kernel_rfl) (by kernel_rfl) B0 (fun W _ => by exact ex_index8 34 (.tmp 47) (.const (.int .i64 1)) (by kernel_rfl) (n := .slice (some ⟨g, 0, none⟩) S.size cp) (i := .int .i64 1) (by kernel_rfl) (by kernel_rfl) (place8 g 1 S.size cp (by omega) (by omega) W)) ?_
    refine walk_free 2 (.int .u8 (C : Int)) rfl (by kernel_rfl) (by kernel_rfl) (by kernel_rfl) (by kernel_rfl) (by kernel_rfl) (by kernel_rfl) B0 (fun W t => by exact ex_load 5 (.tmp 48) (by kernel_rfl) ⟨g, 1, none⟩ (by kernel_rfl) (by kernel_rfl) t.2.2.1) ?_
    refine walk_free 3 (.pointer (some ⟨b1, 1, none⟩)) rfl (by kernel_rfl) (by kernel_rfl) (by kernel_rfl) (by kernel_rfl) (by kernel_rfl) (by kernel_rfl) B0 (fun _ _ => by kernel_rfl) ?_
    refine walk_free 4 (.int .u8 (q : Int)) rfl (by kernel_rfl) (by kernel_rfl) (by kernel_rfl) (by kernel_rfl) (by kernel_rfl) (by kernel_rfl) B0 (fun W t => by exact ex_load 5 (.tmp 50) (by kernel_rfl) ⟨b1, 1, none⟩ (by kernel_rfl) (by kernel_rfl) t.2.2.2) ?_
    refine walk_free 5 (.int .u8 (bits .and .u8 (q : Int) 2)) rfl (by kernel_rfl) (by kernel_rfl) (by kernel_rfl) (by kernel_rfl) (by kernel_rfl) (by kernel_rfl) B0 (fun _ _ => by kernel_rfl) ?_
    refine walk_free 6 (.int .u8 (C2 : Int)) rfl (by kernel_rfl) (by kernel_rfl) (by kernel_rfl) (by kernel_rfl) (by kernel_rfl) (by kernel_rfl) B0 (fun _ _ => by exact ex_or8 5 5 (.tmp 49) (.tmp 52) (by kernel_rfl) (C : Int) (bits .and .u8 (q : Int) 2) (C2 : Int) (by kernel_rfl) (by kernel_rfl) (by kernel_rfl) HE2.out) ?_
    refine walk_free 7 (.pointer (some ⟨g, 1, none⟩)) rfl (by kernel_rfl) (by kernel_rfl) (by kernel_rfl) (by kernel_rfl) (by kernel_rfl) (by kernel_rfl) B0 (fun W _ => by exact ex_index8 34 (.tmp 47) (.const (.int .i64 1)) (by kernel_rfl) (n := .slice (some ⟨g, 0, none⟩) S.size cp) (i := .int .i64 1) (by kernel_rfl) (by kernel_rfl) (place8 g 1 S.size cp (by omega) (by omega) W)) ?_
    have hTD : Bts D g (LL U C R) := HT7.out.same (by rw [B0.2.1]) (by rw [B0.2.1]; exact Nat.le_refl _)
    have hCD : Blk D w.heap.size 26 (dsv y) := HC7.out.same (by rw [B0.2.1])
    have hPD : Blk D b1 42 #[.int .u8 (p : Int), .int .u8 (q : Int)] := HP7.out.same (by rw [B0.2.1])
    refine walk_one 8 (by kernel_rfl) (do_last 8 rfl (by kernel_rfl) (ex_store_cell 5 (.tmp 54) (.tmp 53) (by kernel_rfl) ⟨g, 1, none⟩ (.int .u8 (C2 : Int)) (by kernel_rfl) (by kernel_rfl) (store_u8 D g 1 _ _ B0.2.2.1 (lf_1 hTD))) (by kernel_rfl) ?_)
    obtain ⟨W8, hE⟩ : ∃ W, W = D.setCell ⟨g, 1, none⟩ (.int .u8 (C2 : Int)) := ⟨_, rfl⟩
    have HC8 := Lib.hid (show Blk W8 w.heap.size 26 (dsv y) by rw [hE]; exact hCD.same (Below.heap_setCell D ⟨g, 1, none⟩ _ _ HG.out.1))
    have HP8 := Lib.hid (show Blk W8 b1 42 #[.int .u8 (p : Int), .int .u8 (q : Int)] by rw [hE]; exact hPD.same (Below.heap_setCell D ⟨g, 1, none⟩ _ _ HG.out.2.1))
    have HT8 := Lib.hid (show Bts W8 g (LL U C2 R) by rw [hE]; exact ls_1 hTD _ (by omega))
    have HB8 := Lib.hid (show Below w.heap.size w W8 by rw [hE]; exact B0.1.setCell HG.out.2.2 _)
    rw [← hE]
    clear hE B0 hTD hCD hPD hc0 hp0 HC7 HP7 HT7 HB7
    refine walk_end (by kernel_rfl) ?_
    go_upto_region 12 with fail
    have em : y.hm = true := by
      rcases HYM.out.1 with h | h
      · rw [ea] at h; cases h
      · exact h
    have c4 := HC8.out.cell 4
    simp only [List.getElem?_toArray, List.getElem?_cons_zero, List.getElem?_cons_succ] at c4
    rw [em] at c4
    go_upto_region 14 with fail
    clear c4
    have hV256 : C2 < 256 := by omega
    have hVl : C2 = last F q := by unfold last; simp only []; rw [HT1.out, HT4.out, ea, em, HC22.out, HCC.out]; rfl
    have hDc : dec (txt (LL U C2 R)) = (y, 0) := by
      rw [hVl, HU.out, HR.out, HF.out]
      exact last_dec y HYO.out HYM.out p q hp hq (by rw [← HF.out, ← hVl]; exact hV256)
    obtain ⟨S2, hS2⟩ : ∃ S2, S2 = txt (LL U C2 R) := ⟨_, rfl⟩
    have hll : (LL U C2 R).length = S.size := by rw [← HLEN.out]; rfl
    have hcv2 := bytes_text W8 g cp S.size (LL U C2 R) HT8.out hll.symm
    have z2 : S2.size ≤ 28 := by rw [hS2, txt_size, hll]; exact n28
    rw [← hS2] at hDc hcv2
    have HDV := Lib.hid (show decV S2 = .tuple #[.agg (dsv y), .int .i64 0] by rw [decV, hDc])
    clear hS2 hll hDc hVl hV256 hcv ea em
    go_wp2_with fail
    refine (Decode_any S2 W8 (by omega)).mono ?_
    rintro e W10 ⟨rfl, b⟩
    rw [HDV.out]
    have HC10 := Lib.hid (HC8.out.below b HC8.out.lt)
    have hb10 := HB8.out.trans (b.mono HB8.out.size)
    have HH11 := Lib.hid (Blk.new W10 26 (dsv y))
    have HC11 := Lib.hid (show Blk (W10.alloc (.cells (dsv y) 26)) w.heap.size 26 (dsv y) from HC10.out.alloc _)
    have HB11 := Lib.hid (show Below w.heap.size w (W10.alloc (.cells (dsv y) 26)) from hb10.alloc hb10.size _)
    clear b hcv2 hb10 HC10
    go_wp2_with (first
      | (refine wpList_load_row_w (by rfl) 26 _ rfl W10.heap.size rfl 26 (dsv y) (0, 0) _ ?_ Try.underlying26 rfl ds_size ?_; exact HH11.out)
      | (refine wpList_load_row_w (by rfl) 26 _ rfl w.heap.size rfl 26 (dsv y) (0, 0) _ ?_ Try.underlying26 rfl ds_size ?_; exact HC11.out))
    go_ret; exact ⟨rfl, HB11.out⟩
  · have c1 := HC7.out.cell 1
    simp only [List.getElem?_toArray, List.getElem?_cons_zero, List.getElem?_cons_succ] at c1
    rw [ea] at c1
    go_upto_region 12 with fail
    clear c1
    have c4 := HC7.out.cell 4
    simp only [List.getElem?_toArray, List.getElem?_cons_zero, List.getElem?_cons_succ] at c4
    cases em : y.hm
    · rw [em] at c4
      go_upto_region 13 with fail
      clear c4
      obtain ⟨C2, hC2⟩ : ∃ c, c = C ||| (q &&& 24) := ⟨_, rfl⟩
      obtain ⟨e2, h256⟩ := mixed C q 24 hC256 hq (.inr (.inr (.inr rfl)))
      rw [← hC2] at e2 h256
      have HE2 := Lib.hid e2
      have HC22 := Lib.hid hC2
      clear e2 hC2
      have hc0 := ll_1 HT7.out (by omega)
      have hp0 := HP7.out.cell 1
      simp only [List.getElem?_toArray, List.getElem?_cons_zero, List.getElem?_cons_succ] at hp0
      have B0 : (fun W : World => Below w.heap.size w W ∧ W.heap = W7.heap ∧ W.cell? ⟨g, 1, none⟩ = some (.int .u8 (C : Int)) ∧ W.cell? ⟨b1, 1, none⟩ = some (.int .u8 (q : Int))) W7.drew := ⟨HB7.out.drew, rfl, by simpa using hc0, by simpa using hp0⟩
      refine walk_start 8 (fun W : World => Below w.heap.size w W ∧ W.heap = W7.heap ∧ W.cell? ⟨g, 1, none⟩ = some (.int .u8 (C : Int)) ∧ W.cell? ⟨b1, 1, none⟩ = some (.int .u8 (q : Int))) (by kernel_rfl) (n := 9) rfl ?_
      obtain ⟨D, hD⟩ : ∃ D, D = W7.drew := ⟨_, rfl⟩
      rw [← hD] at B0 ⊢
      clear hD
      refine walk_free 0 (.slice (some ⟨g, 0, none⟩) S.size cp) rfl (by kernel_rfl) (by kernel_rfl) (by kernel_rfl) (by kernel_rfl) (by kernel_rfl) (by kernel_rfl) B0 (fun _ _ => by kernel_rfl) ?_
      refine walk_free 1 (.pointer (some ⟨g, 1, none⟩)) rfl (by kernel_rfl) (by kernel_rfl) (by kernel_rfl) (by kernel_rfl) (by kernel_rfl) (by kernel_rfl) B0 (fun W _ => by exact ex_index8 34 (.tmp 58) (.const (.int .i64 1)) (by kernel_rfl) (n := .slice (some ⟨g, 0, none⟩) S.size cp) (i := .int .i64 1) (by kernel_rfl) (by kernel_rfl) (place8 g 1 S.size cp (by omega) (by omega) W)) ?_
      refine walk_free 2 (.int .u8 (C : Int)) rfl (by kernel_rfl) (by kernel_rfl) (by kernel_rfl) (by kernel_rfl) (by kernel_rfl) (by kernel_rfl) B0 (fun W t => by exact ex_load 5 (.tmp 59) (by kernel_rfl) ⟨g, 1, none⟩ (by kernel_rfl) (by kernel_rfl) t.2.2.1) ?_
      refine walk_free 3 (.pointer (some ⟨b1, 1, none⟩)) rfl (by kernel_rfl) (by kernel_rfl) (by kernel_rfl) (by kernel_rfl) (by kernel_rfl) (by kernel_rfl) B0 (fun _ _ => by kernel_rfl) ?_
      refine walk_free 4 (.int .u8 (q : Int)) rfl (by kernel_rfl) (by kernel_rfl) (by kernel_rfl) (by kernel_rfl) (by kernel_rfl) (by kernel_rfl) B0 (fun W t => by exact ex_load 5 (.tmp 61) (by kernel_rfl) ⟨b1, 1, none⟩ (by kernel_rfl) (by kernel_rfl) t.2.2.2) ?_
      refine walk_free 5 (.int .u8 (bits .and .u8 (q : Int) 24)) rfl (by kernel_rfl) (by kernel_rfl) (by kernel_rfl) (by kernel_rfl) (by kernel_rfl) (by kernel_rfl) B0 (fun _ _ => by kernel_rfl) ?_
      refine walk_free 6 (.int .u8 (C2 : Int)) rfl (by kernel_rfl) (by kernel_rfl) (by kernel_rfl) (by kernel_rfl) (by kernel_rfl) (by kernel_rfl) B0 (fun _ _ => by exact ex_or8 5 5 (.tmp 60) (.tmp 63) (by kernel_rfl) (C : Int) (bits .and .u8 (q : Int) 24) (C2 : Int) (by kernel_rfl) (by kernel_rfl) (by kernel_rfl) HE2.out) ?_
      refine walk_free 7 (.pointer (some ⟨g, 1, none⟩)) rfl (by kernel_rfl) (by kernel_rfl) (by kernel_rfl) (by kernel_rfl) (by kernel_rfl) (by kernel_rfl) B0 (fun W _ => by exact ex_index8 34 (.tmp 58) (.const (.int .i64 1)) (by kernel_rfl) (n := .slice (some ⟨g, 0, none⟩) S.size cp) (i := .int .i64 1) (by kernel_rfl) (by kernel_rfl) (place8 g 1 S.size cp (by omega) (by omega) W)) ?_
      have hTD : Bts D g (LL U C R) := HT7.out.same (by rw [B0.2.1]) (by rw [B0.2.1]; exact Nat.le_refl _)
      have hCD : Blk D w.heap.size 26 (dsv y) := HC7.out.same (by rw [B0.2.1])
      have hPD : Blk D b1 42 #[.int .u8 (p : Int), .int .u8 (q : Int)] := HP7.out.same (by rw [B0.2.1])
      refine walk_one 8 (by kernel_rfl) (do_last 8 rfl (by kernel_rfl) (ex_store_cell 5 (.tmp 65) (.tmp 64) (by kernel_rfl) ⟨g, 1, none⟩ (.int .u8 (C2 : Int)) (by kernel_rfl) (by kernel_rfl) (store_u8 D g 1 _ _ B0.2.2.1 (lf_1 hTD))) (by kernel_rfl) ?_)
      obtain ⟨W8, hE⟩ : ∃ W, W = D.setCell ⟨g, 1, none⟩ (.int .u8 (C2 : Int)) := ⟨_, rfl⟩
      have HC8 := Lib.hid (show Blk W8 w.heap.size 26 (dsv y) by rw [hE]; exact hCD.same (Below.heap_setCell D ⟨g, 1, none⟩ _ _ HG.out.1))
      have HP8 := Lib.hid (show Blk W8 b1 42 #[.int .u8 (p : Int), .int .u8 (q : Int)] by rw [hE]; exact hPD.same (Below.heap_setCell D ⟨g, 1, none⟩ _ _ HG.out.2.1))
      have HT8 := Lib.hid (show Bts W8 g (LL U C2 R) by rw [hE]; exact ls_1 hTD _ (by omega))
      have HB8 := Lib.hid (show Below w.heap.size w W8 by rw [hE]; exact B0.1.setCell HG.out.2.2 _)
      rw [← hE]
      clear hE B0 hTD hCD hPD hc0 hp0 HC7 HP7 HT7 HB7
      refine walk_end (by kernel_rfl) ?_
      go_upto_region 14 with fail
      have hV256 : C2 < 256 := by omega
      have hVl : C2 = last F q := by unfold last; simp only []; rw [HT1.out, HT4.out, ea, em, HC22.out, HCC.out]; rfl
      have hDc : dec (txt (LL U C2 R)) = (y, 0) := by
        rw [hVl, HU.out, HR.out, HF.out]
        exact last_dec y HYO.out HYM.out p q hp hq (by rw [← HF.out, ← hVl]; exact hV256)
      obtain ⟨S2, hS2⟩ : ∃ S2, S2 = txt (LL U C2 R) := ⟨_, rfl⟩
      have hll : (LL U C2 R).length = S.size := by rw [← HLEN.out]; rfl
      have hcv2 := bytes_text W8 g cp S.size (LL U C2 R) HT8.out hll.symm
      have z2 : S2.size ≤ 28 := by rw [hS2, txt_size, hll]; exact n28
      rw [← hS2] at hDc hcv2
      have HDV := Lib.hid (show decV S2 = .tuple #[.agg (dsv y), .int .i64 0] by rw [decV, hDc])
      clear hS2 hll hDc hVl hV256 hcv ea em
      go_wp2_with fail
      refine (Decode_any S2 W8 (by omega)).mono ?_
      rintro e W10 ⟨rfl, b⟩
      rw [HDV.out]
      have HC10 := Lib.hid (HC8.out.below b HC8.out.lt)
      have hb10 := HB8.out.trans (b.mono HB8.out.size)
      have HH11 := Lib.hid (Blk.new W10 26 (dsv y))
      have HC11 := Lib.hid (show Blk (W10.alloc (.cells (dsv y) 26)) w.heap.size 26 (dsv y) from HC10.out.alloc _)
      have HB11 := Lib.hid (show Below w.heap.size w (W10.alloc (.cells (dsv y) 26)) from hb10.alloc hb10.size _)
      clear b hcv2 hb10 HC10
      go_wp2_with (first
        | (refine wpList_load_row_w (by rfl) 26 _ rfl W10.heap.size rfl 26 (dsv y) (0, 0) _ ?_ Try.underlying26 rfl ds_size ?_; exact HH11.out)
        | (refine wpList_load_row_w (by rfl) 26 _ rfl w.heap.size rfl 26 (dsv y) (0, 0) _ ?_ Try.underlying26 rfl ds_size ?_; exact HC11.out))
      go_ret; exact ⟨rfl, HB11.out⟩
    · rw [em] at c4
      go_upto_region 14 with fail
      clear c4
      have hV256 : C < 256 := by omega
      have hVl : C = last F q := by unfold last; simp only []; rw [HT1.out, HT4.out, ea, em, HCC.out]; rfl
      have hDc : dec (txt (LL U C R)) = (y, 0) := by
        rw [hVl, HU.out, HR.out, HF.out]
        exact last_dec y HYO.out HYM.out p q hp hq (by rw [← HF.out, ← hVl]; exact hV256)
      obtain ⟨S2, hS2⟩ : ∃ S2, S2 = txt (LL U C R) := ⟨_, rfl⟩
      have hll : (LL U C R).length = S.size := by rw [← HLEN.out]; rfl
      have hcv2 := bytes_text W7 g cp S.size (LL U C R) HT7.out hll.symm
      have z2 : S2.size ≤ 28 := by rw [hS2, txt_size, hll]; exact n28
      rw [← hS2] at hDc hcv2
      have HDV := Lib.hid (show decV S2 = .tuple #[.agg (dsv y), .int .i64 0] by rw [decV, hDc])
      clear hS2 hll hDc hVl hV256 hcv ea em
      go_wp2_with fail
      refine (Decode_any S2 W7 (by omega)).mono ?_
      rintro e W10 ⟨rfl, b⟩
      rw [HDV.out]
      have HC10 := Lib.hid (HC7.out.below b HC7.out.lt)
      have hb10 := HB7.out.trans (b.mono HB7.out.size)
      have HH11 := Lib.hid (Blk.new W10 26 (dsv y))
      have HC11 := Lib.hid (show Blk (W10.alloc (.cells (dsv y) 26)) w.heap.size 26 (dsv y) from HC10.out.alloc _)
      have HB11 := Lib.hid (show Below w.heap.size w (W10.alloc (.cells (dsv y) 26)) from hb10.alloc hb10.size _)
      clear b hcv2 hb10 HC10
      go_wp2_with (first
        | (refine wpList_load_row_w (by rfl) 26 _ rfl W10.heap.size rfl 26 (dsv y) (0, 0) _ ?_ Try.underlying26 rfl ds_size ?_; exact HH11.out)
        | (refine wpList_load_row_w (by rfl) 26 _ rfl w.heap.size rfl 26 (dsv y) (0, 0) _ ?_ Try.underlying26 rfl ds_size ?_; exact HC11.out))
      go_ret; exact ⟨rfl, HB11.out⟩

theorem own : ownKnob Try.prog.godebug = none := by kernel_rfl
theorem laidOut : laidOutB Try.prog = true := by kernel_rfl

set_option maxRecDepth 100000 in
theorem lifted (os : Os) (started : os.Started) (H : Type) (enc : TypeId × Value → H) :
    ReturnsInHanded {} Try.checked os 6 .any (Rows.dssPassedSpec.pre6 enc Try.prog Try.f6 Rows.dssPassedRow.domain false) (Rows.dssPassedSpec.post enc Try.prog Try.f6 false true false false) := by
  refine returnsInHanded_of_change (C := Try.checked) own started (by kernel_rfl) Try.func6
    (ChangeSpec.witness6 (enc := enc) (C := Try.checked) false ⟨#[], #[.agg #[.bool false, .bool false, .bool false, .int .u64 0, .bool false, .bool false, .int .u64 0, .int .u32 0, .int .i64 0, .bool false, .int .u16 0], .agg #[.int .u8 0, .int .u8 0]], []⟩ 8 (by kernel_rfl) (by kernel_rfl) (by kernel_rfl) (by kernel_rfl)) ?_
  intro W base args ds gs before hval0 hW hcnd _
  have hval : ∀ (j : Nat) t v, Try.f6.params[j]? = some t → args[j]? = some v → Value.okWide Try.prog W .any base t v := hval0
  have hW' := hW
  obtain ⟨p, q, hA0, hV, rfl, hfz, hnd⟩ := hW
  have hA : DataW.TrodAll enc Try.prog W 0 (fun _ => true) true Try.f6.params.toList args.toList ds p := hA0
  rw [Try.params6] at hA hval
  obtain ⟨v0, vs0, d0, ds0, p0, q0, hargs, rfl, rfl, h0, r0⟩ := trodAll_cons hA
  obtain ⟨v1, vs1, d1, ds1, p1, q1, rfl, rfl, rfl, h1, r1⟩ := trodAll_cons r0
  obtain ⟨rfl, rfl, rfl⟩ := trodAll_nil r1
  obtain rfl : args = #[v0, v1] := by cases args; simp_all
  obtain ⟨rfl, rfl⟩ := trodVars_none hV
  have k0 := h0
  have lt0 : ∀ x ∈ p0, x.block < W.heap.size := by obtain ⟨m, hm⟩ := k0; exact DataW.trod_lt m _ _ _ hm
  obtain ⟨a0, rfl, o0⟩ := open_dss (hval 0 26 v0 rfl rfl) h0
  have k1 := h1
  have lt1 : ∀ x ∈ p1, x.block < W.heap.size := by obtain ⟨m, hm⟩ := k1; exact DataW.trod_lt m _ _ _ hm
  obtain ⟨p1, q1, rfl, l1, m1⟩ := open_two (hval 1 42 v1 rfl rfl) h1
  clear hA0 hval0
  simp only [List.append_nil] at hW'
  refine (walk a0 o0 p1 q1 l1 m1 W).mono fun e W' ⟨he, bel⟩ => ?_
  subst he
  exact ⟨_, rfl, _, _, _, [], _, [], hW', trodAll_mk1 (shut_bool Try.underlying4 _), (trodAll_cons_mk (Below.trod laidOut (by kernel_rfl) (of_decide_eq_true (by kernel_rfl)) k0 bel lt0) (trodAll_cons_mk (Below.trod laidOut (by kernel_rfl) (of_decide_eq_true (by kernel_rfl)) k1 bel lt1) trodAll_mk0)), rfl, bel.frame _, fun h => by cases h⟩

theorem over : Rows.dssPassedRow.holds Try.pinned (OpenSpec.ofChange Rows.dssPassedSpec) :=
  OpenClaim.holds_of_wide 6 Try.f6 rfl rfl rfl rfl rfl rfl rfl ⟨rfl, rfl, rfl, rfl, rfl⟩ rfl rfl rfl rfl rfl (by kernel_rfl) Try.func6 (by kernel_rfl)
    (of_decide_eq_true (by kernel_rfl)) (by unfold Func.isWrapper; first | (rw [if_pos (by decide +kernel)]; kernel_rfl) | (rw [if_neg (by decide +kernel)]; exact ⟨rfl, rfl⟩))
    (fun os started H enc _ => lifted os started H enc)

theorem proved : Rows.DssPassedSaid := over
#print axioms proved
end Go.Proofs.Ytdhkjhkgjfcolaa.dssPassed
