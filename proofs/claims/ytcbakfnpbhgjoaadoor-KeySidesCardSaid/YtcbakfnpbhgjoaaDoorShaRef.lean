/-
  The document's own answer of layer 6 (plaitref06), its small functions, each by its walk: two, add, moved, turned, bits and its three callers.
-/
import Derived.Test.YtcbakfnpbhgjoaaDoorShaBits
import Derived.Test.YtcbakfnpbhgjoaaDoorShaMem
namespace Go.Proofs.YtcbakfnpbhgjoaaDoor
open Go.ChangeShapes Go.WideShapes Go.ChangeAt Go.RowKit
set_option linter.unusedVariables false

theorem quiet_ {P : Program} {f : FuncId} {args : Array Value} {w : World} {n : Nat} {v : Value}
    (h : Calls P f args (w.drewN n) fun e w' => e = .returned v ∧ w.drewN n = w') : Calls P f args (w.drewN n) fun e w'' => e = .returned v ∧ ∃ m, w'' = w.drewN m :=
  Calls.quiet_of_same (h.mono fun _ _ x => ⟨x.1, x.2.symm⟩)
theorem quietN {P : Program} {f : FuncId} {args : Array Value} {w : World} {n : Nat} {v : Value}
    (h : Calls P f args (w.drewN n) fun e w' => e = .returned v ∧ ∃ m, w' = (w.drewN n).drewN m) : Calls P f args (w.drewN n) fun e w'' => e = .returned v ∧ ∃ m, w'' = w.drewN m :=
  h.mono fun _ _ x => ⟨x.1, let ⟨m, e⟩ := x.2; ⟨n + m, by rw [e]; simp [World.drewN, Nat.add_assoc]⟩⟩
theorem two_any (k : Nat) (hk : k ≤ 62) (w : World) :
    Calls Tryd.prog 60 #[.int .i64 (k : Int)] w fun e w' => e = .returned (.int .u64 ((2 ^ k : Nat) : Int)) ∧ w = w' := by
  go_enter Tryd.func60, Tryd.ntmps60
  go_wp2
  go_loopw [4, 3] (fun i x wr => ∃ j : Nat, j ≤ k ∧ i = .int .i64 (j : Int) ∧ x = .int .u64 ((2 ^ j : Nat) : Int) ∧ w = wr) (fun i _ _ => k - (intOf i).toNat)
  case atStart => exact ⟨0, Nat.zero_le _, rfl, rfl, rfl⟩
  case round =>
    obtain ⟨j, hj, rfl, rfl, rfl⟩ := hrel
    obtain ⟨p, hp⟩ : ∃ p, p = 2 ^ j := ⟨_, rfl⟩
    have hpl : p ≤ 4611686018427387904 := by rw [hp]; exact Nat.pow_le_pow_right (by decide) (by omega : j ≤ 62)
    have hq : 2 ^ (j + 1) = 2 * p := by rw [hp, Nat.pow_succ]; omega
    by_cases hlt : j < k
    · have HQ := Lib.hid hq
      rw [← hp]
      clear hp hq
      have wp : IntKind.u64.wrap (2 * (p : Int)) = 2 * (p : Int) := by rw [IntKind.wrap_u64]; omega
      go_wp2
      go_roundw
      case rel => exact ⟨j + 1, by omega, by go_num, by rw [HQ.out, Int.natCast_mul]; first | rfl | (rw [IntKind.wrap_u64]; congr 1; omega) | skip, by first | rfl | trivial⟩
      case measure => simp [intOf]; omega
    · obtain rfl : j = k := by omega
      have HP := Lib.hid hp
      rw [← hp]
      clear hlt hq hpl hp
      go_wp2
      go_ret; exact ⟨by rw [← HP.out]; rfl, rfl⟩

theorem div_wrap (x p : Nat) (hx : x < 2 ^ 64) : IntKind.u64.wrap ((x : Int) / (p : Int)) = ((x / p : Nat) : Int) := by
  have := Nat.div_le_self x p
  have e : (x : Int) / (p : Int) = ((x / p : Nat) : Int) := (Int.natCast_ediv x p).symm
  rw [IntKind.wrap_u64, e]
  generalize x / p = d at *
  omega
theorem moved_any (k x : Nat) (hk : k ≤ 62) (hx : x < 2 ^ 64) (w : World) :
    Calls Tryd.prog 91 #[.int .u64 (x : Int), .int .i64 (k : Int)] w fun e w' => e = .returned (.int .u64 ((x / 2 ^ k : Nat) : Int)) ∧ w = w' := by
  have hp : 2 ^ k ≠ 0 := by have := Nat.two_pow_pos k; omega
  obtain ⟨p, e⟩ : ∃ p, p = 2 ^ k := ⟨_, rfl⟩
  have HT := Lib.hid (two_any k hk)
  rw [← e] at hp HT ⊢
  have HW := Lib.hid (div_wrap x p hx)
  clear e hx
  go_enter Tryd.func91, Tryd.ntmps91
  go_wp2_with fail
  refine (HT.out w).mono ?_
  rintro e w' ⟨rfl, rfl⟩
  go_wp2_with fail
  go_ret; exact ⟨ret_int HW.out, rfl⟩

/-- Turned, by sums. -/
def trn (k x : Nat) : Nat := x / 2 ^ k + x % 2 ^ k * 2 ^ (32 - k)
theorem trn_rot (k x : Nat) (hx : x ≤ MW) (h1 : 1 ≤ k) (h2 : k ≤ 31) : trn k x = rot MW k x := by
  unfold trn rot
  rw [and_MW, show (4294967296 : Nat) = 2 ^ 32 from rfl, Nat.or_mod_two_pow, Nat.shiftRight_eq_div_pow, Nat.shiftLeft_eq]
  have hpk : 2 ^ (32 - k) * 2 ^ k = 2 ^ 32 := by rw [← Nat.pow_add]; congr 1; omega
  have e1 : x * 2 ^ (32 - k) % 2 ^ 32 = x % 2 ^ k * 2 ^ (32 - k) := by
    rw [← hpk, Nat.mul_comm x, Nat.mul_mod_mul_left, Nat.mul_comm]
  have l : x / 2 ^ k < 2 ^ (32 - k) := by
    rw [Nat.div_lt_iff_lt_mul (Nat.two_pow_pos k), hpk]; unfold MW at hx; omega
  rw [e1, Nat.mod_eq_of_lt (show x / 2 ^ k < 2 ^ 32 from Nat.lt_of_lt_of_le l (Nat.pow_le_pow_right (by decide) (by omega))), Nat.or_comm, ← Nat.shiftLeft_eq, ← Nat.shiftLeft_add_eq_or_of_lt l, Nat.add_comm]
theorem trn_le (k x : Nat) (hx : x ≤ MW) (h1 : 1 ≤ k) (h2 : k ≤ 31) : trn k x ≤ MW := by rw [trn_rot k x hx h1 h2]; exact MW_le _
theorem exec_quo {P : Program} {ρ : Operand → Value} {o : Oper} {w : World} (t u : TypeId) (x y : Operand) {a b : Nat} (ho : o.op = .binOp .quo t x y u) (hx : ρ x = .int .u64 (a : Int)) (hy : ρ y = .int .u64 (b : Int)) (hb : b ≠ 0) :
    (execOp ρ o).run P w = .ok (.value (.int .u64 (IntKind.u64.wrap ((a : Int) / (b : Int))))) w := by
  unfold execOp
  rw [ho]
  simp [hx, hy, go_sem]
  exact hb
theorem exec_rem {P : Program} {ρ : Operand → Value} {o : Oper} {w : World} (t u : TypeId) (x y : Operand) {a b : Nat} (ho : o.op = .binOp .rem t x y u) (hx : ρ x = .int .u64 (a : Int)) (hy : ρ y = .int .u64 (b : Int)) (hb : b ≠ 0) :
    (execOp ρ o).run P w = .ok (.value (.int .u64 ((a : Int) % (b : Int)))) w := by
  unfold execOp
  rw [ho]
  simp [hx, hy, go_sem]
  rw [if_neg hb, Int.tmod_eq_emod_of_nonneg (by omega)]
/-- A call that alone may come up. -/
theorem any_call {P : Program} {ops : Array Oper} {md : Region.Mode} {Q : Exit → Act → World → Prop} {i : Nat} {o : Oper} {fuel : Nat} {listed : Array Bool} {a : Act} {w : World} {f : FuncId} {args : Array Value} {v : Value} {R : World → Prop}
    (hi : ops[i]? = some o) (hr : Region.ready md ops listed = [i]) (hw : Region.wanted o (yielded ops a.tmps) = true) (he : (execOp a.eval o).run P w = .ok (.enter f args) w) (hc : Calls P f args w fun e w' => e = .returned v ∧ R w')
    (h : ∀ w', R w' → wpAny P md ops Q fuel (listed.setIfInBounds i true) (a.put o.dst v) w') : wpAny P md ops Q (fuel + 1) listed a w := by
  refine ⟨fun h0 => (by rw [hr] at h0; cases h0), fun k hk => ?_⟩
  rw [hr, List.mem_singleton] at hk
  subst hk
  unfold wpOp
  rw [hi]
  simp only [hw, if_true]
  refine .inl ?_
  unfold Oper.wp
  rw [he]
  exact hc.mono fun e w' ⟨h1, h2⟩ => by subst h1; exact h _ h2
set_option maxHeartbeats 2000000 in
theorem turned_any (k x : Nat) (h1 : 1 ≤ k) (h2 : k ≤ 31) (hx : x ≤ MW) (w : World) :
    Calls Tryd.prog 81 #[.int .u64 (x : Int), .int .i64 (k : Int)] w fun e w' => e = .returned (.int .u64 ((rot MW k x : Nat) : Int)) ∧ ∃ n, w' = w.drewN n := by
  have hp : 2 ^ k ≠ 0 := by have := Nat.two_pow_pos k; omega
  have hR := trn_rot k x hx h1 h2
  have hRl := trn_le k x hx h1 h2
  have hpl : 2 ^ k ≤ 2147483648 := Nat.pow_le_pow_right (by decide) (show k ≤ 31 from h2)
  have hql : 2 ^ (32 - k) ≤ 2147483648 := Nat.pow_le_pow_right (by decide) (show 32 - k ≤ 31 by omega)
  unfold trn at hR hRl
  have HT := Lib.hid (two_any k (by omega))
  have HT2 := Lib.hid (two_any (32 - k) (by omega))
  obtain ⟨p, e⟩ : ∃ p, p = 2 ^ k := ⟨_, rfl⟩
  obtain ⟨q, e2⟩ : ∃ q, q = 2 ^ (32 - k) := ⟨_, rfl⟩
  obtain ⟨k2, e3⟩ : ∃ k2, k2 = 32 - k := ⟨_, rfl⟩
  rw [← e] at hp HT hR hRl hpl
  rw [← e2] at HT2 hR hRl hql
  rw [← e3] at HT2
  have w4 : IntKind.i64.wrap ((32 : Int) - (k : Int)) = (k2 : Int) := by rw [show (32 : Int) - (k : Int) = (k2 : Int) by omega]; exact IntWalk.i64_in _ (by omega)
  have hxp : x % p ≤ MW := Nat.le_trans (Nat.mod_le _ _) hx
  have hpr : x % p * q ≤ 9223372036854775807 := Nat.le_trans (Nat.mul_le_mul hxp hql) (by decide)
  have w1 : IntKind.u64.wrap ((x : Int) / (p : Int)) = ((x / p : Nat) : Int) := div_wrap x p (by unfold MW at hx; omega)
  obtain ⟨d, hd⟩ : ∃ d, d = x / p := ⟨_, rfl⟩
  obtain ⟨m, hm⟩ : ∃ m, m = x % p := ⟨_, rfl⟩
  rw [← hd] at w1 hR hRl
  rw [← hm] at hpr hR hRl hxp
  have w0 : (x : Int) % (p : Int) = (m : Int) := by rw [hm, Int.natCast_emod]
  obtain ⟨y, hy⟩ : ∃ y, y = m * q := ⟨_, rfl⟩
  rw [← hy] at hpr hR hRl
  have w2 : IntKind.u64.wrap ((m : Int) * (q : Int)) = (y : Int) := by rw [IntKind.wrap_u64, hy, ← Int.natCast_mul]; omega
  have w3 : IntKind.u64.wrap ((d : Int) + (y : Int)) = ((d + y : Nat) : Int) := by rw [IntKind.wrap_u64]; unfold MW at hRl; omega
  rw [← hR]
  clear hR e e2 e3 hd hm hy hRl hpl hql hxp hpr
  go_enter Tryd.func81, Tryd.ntmps81
  go_wp2_with fail
  refine wp_region_noPanic (wp_region_any (by kernel_rfl) ?_)
  change wpAny _ _ _ _ 14 _ _ w.drew
  obtain ⟨W, hW⟩ : ∃ W, W = w.drew := ⟨_, rfl⟩
  rw [← hW]
  refine any_free (i := 0) (.int .u64 (x : Int)) rfl (by kernel_rfl) (by kernel_rfl) (by kernel_rfl) (by kernel_rfl) (fun _ => by kernel_rfl) ?_
  refine any_free (i := 1) (.int .i64 (k : Int)) rfl (by kernel_rfl) (by kernel_rfl) (by kernel_rfl) (by kernel_rfl) (fun _ => by kernel_rfl) ?_
  refine any_free (i := 4) (.int .u64 (x : Int)) rfl (by kernel_rfl) (by kernel_rfl) (by kernel_rfl) (by kernel_rfl) (fun _ => by kernel_rfl) ?_
  refine any_free (i := 5) (.int .i64 (k : Int)) rfl (by kernel_rfl) (by kernel_rfl) (by kernel_rfl) (by kernel_rfl) (fun _ => by kernel_rfl) ?_
  refine any_free (i := 8) (.int .i64 (k : Int)) rfl (by kernel_rfl) (by kernel_rfl) (by kernel_rfl) (by kernel_rfl) (fun _ => by kernel_rfl) ?_
  refine any_free (i := 9) (.int .i64 (IntKind.i64.wrap ((32 : Int) - (k : Int)))) rfl (by kernel_rfl) (by kernel_rfl) (by kernel_rfl) (by kernel_rfl) (fun _ => by kernel_rfl) ?_
  rw [w4]
  refine any_call (i := 2) rfl (by kernel_rfl) (by kernel_rfl) (by kernel_rfl) (HT.out _) ?_
  rintro w' rfl
  refine any_free (i := 3) (.int .u64 (IntKind.u64.wrap ((x : Int) / (p : Int)))) rfl (by kernel_rfl) (by kernel_rfl) (by kernel_rfl) (by kernel_rfl) (fun W => by refine exec_quo 22 22 (.tmp 5) (.tmp 7) ?_ ?_ ?_ hp <;> kernel_rfl) ?_
  rw [w1]
  refine any_call (i := 6) rfl (by kernel_rfl) (by kernel_rfl) (by kernel_rfl) (HT.out _) ?_
  rintro w' rfl
  refine any_free (i := 7) (.int .u64 ((x : Int) % (p : Int))) rfl (by kernel_rfl) (by kernel_rfl) (by kernel_rfl) (by kernel_rfl) (fun W => by refine exec_rem 22 22 (.tmp 9) (.tmp 11) ?_ ?_ ?_ hp <;> kernel_rfl) ?_
  rw [w0]
  refine any_call (i := 10) rfl (by kernel_rfl) (by kernel_rfl) (by kernel_rfl) (HT2.out _) ?_
  rintro w' rfl
  refine any_rest (k := 11) rfl (by kernel_rfl) ?_
  simp only [List.drop_succ_cons, List.drop_zero]
  change wpList _ _ (NoPanic _) _ _ W
  go_wp2_with fail
  refine NoPanic.normal ?_
  go_wp2_with fail
  go_ret; exact ⟨ret_int (by simp), 1, rfl⟩

/-- Numbers of 64 bits, as cells. -/
def u64s (l : List Nat) : Array Value := (l.map fun n : Nat => Value.int .u64 (n : Int)).toArray
theorem u64s_get (l : List Nat) (i : Nat) (h : i < l.length) : (u64s l)[i]? = some (.int .u64 ((l[i] : Nat) : Int)) := by simp [u64s, h]
def sums (l : List Nat) : Nat := l.foldl (fun n x => (n + x) % 4294967296) 0
theorem sums_take (l : List Nat) (j : Nat) (h : j < l.length) : sums (l.take (j + 1)) = (sums (l.take j) + l[j]) % 4294967296 := by
  unfold sums; rw [List.take_succ_eq_append_getElem h, List.foldl_append]; rfl
theorem sums_lt (l : List Nat) : sums l < 4294967296 := by
  rcases List.eq_nil_or_concat l with rfl | ⟨r, x, rfl⟩
  · decide
  · unfold sums; rw [List.concat_eq_append, List.foldl_append]; exact Nat.mod_lt _ (by decide)
set_option maxHeartbeats 1000000 in
theorem add_any (l : List Nat) (hl : ∀ x ∈ l, x < 9223372036854775808) (hn : l.length ≤ 16) (g n cap : Nat) (t : TypeId) (w : World) (h : Blk w g t (u64s l)) (hn' : n = l.length) :
    Calls Tryd.prog 79 #[.slice (some ⟨g, 0, none⟩) n cap] w fun e w' => e = .returned (.int .u64 ((sums l : Nat) : Int)) ∧ ∃ n, w' = w.drewN n := by
  subst hn'
  have HB := Lib.hid h
  have HL := Lib.hid hl
  clear h hl
  have ht : ∀ w, Calls Tryd.prog 60 #[.int .i64 32] w fun e w' => e = .returned (.int .u64 4294967296) ∧ w = w' := two_any 32 (by decide)
  have HT := Lib.hid ht
  clear ht
  go_enter Tryd.func79, Tryd.ntmps79
  go_wp2_with fail
  go_loopw [3, 4] (fun x i wr => ∃ j : Nat, j ≤ l.length ∧ i = .int .i64 (j : Int) ∧ x = .int .u64 ((sums (l.take j) : Nat) : Int) ∧ ∃ m, wr = w.drewN m) (fun _ i _ => l.length - (intOf i).toNat)
  case atStart => exact ⟨0, Nat.zero_le _, rfl, rfl, 0, rfl⟩
  case round =>
    obtain ⟨j, hj, rfl, rfl, m, hwr⟩ := hrel
    have HWR := Lib.hid hwr
    have HBW := Lib.hid (show Blk wr g t (u64s l) by rw [hwr]; exact HB.out.drewN m)
    clear hwr
    by_cases hlt : j < l.length
    · have c : wr.cell? ⟨g, j, none⟩ = some (.int .u64 ((l[j] : Nat) : Int)) := (HBW.out.cell j).trans (u64s_get l j hlt)
      have hx := HL.out l[j] (List.getElem_mem hlt)
      have hs := sums_lt (l.take j)
      have hst := sums_take l j hlt
      obtain ⟨x, ex⟩ : ∃ x, x = l[j] := ⟨_, rfl⟩
      obtain ⟨s, es⟩ : ∃ s, s = sums (l.take j) := ⟨_, rfl⟩
      rw [← ex] at c hx hst
      rw [← es] at hs hst ⊢
      have HST := Lib.hid hst
      clear ex es hst
      have w1 : IntKind.u64.wrap ((s : Int) + (x : Int)) = ((s + x : Nat) : Int) := by rw [IntKind.wrap_u64]; omega
      have w2 : ((s + x : Nat) : Int).tmod 4294967296 = (((s + x) % 4294967296 : Nat) : Int) := by rw [Int.tmod_eq_emod_of_nonneg (by omega)]; omega
      obtain ⟨y, ey⟩ : ∃ y, y = s + x := ⟨_, rfl⟩
      rw [← ey] at w1 w2 HST
      obtain ⟨z, ez⟩ : ∃ z, z = y % 4294967296 := ⟨_, rfl⟩
      rw [← ez] at w2 HST
      clear ey ez
      go_wp2_with fail
      go_quiet ((go_at_call 60; refine quiet_ (HT.out _)))
      go_wp2_with fail
      go_roundw
      case rel => exact ⟨j + 1, by omega, by go_num, by rw [HST.out], m + nq, by rw [HWR.out]; simp [World.drewN, Nat.add_assoc]⟩
      case measure => simp [intOf]; omega
    · obtain rfl : j = l.length := by omega
      rw [List.take_length]
      clear hlt
      go_wp2_with fail
      go_ret; exact ⟨rfl, m, HWR.out⟩

/-- What 'bits' makes of three words. -/
def trio (h a b c : Nat) : Nat := if h = 0 then a ^^^ b ^^^ c else if h = 1 then mjs a b c else chs MW a b c
def tbit (h x y z : Nat) : Nat := if h = 0 then (x + y + z) % 2 else if h = 1 then (x + y + z) / 2 else if x = 1 then y else z
theorem div_bit (x k : Nat) : x / 2 ^ k % 2 = (x.testBit k).toNat := by
  rw [Nat.testBit_eq_decide_div_mod_eq]
  have := Nat.mod_lt (x / 2 ^ k) (show 0 < 2 by decide)
  generalize x / 2 ^ k % 2 = m at *
  obtain rfl | rfl : m = 0 ∨ m = 1 := by omega
  · rfl
  · rfl
theorem trio_bit (h a b c k : Nat) (hk : k < 32) : trio h a b c / 2 ^ k % 2 = tbit h (a / 2 ^ k % 2) (b / 2 ^ k % 2) (c / 2 ^ k % 2) := by
  have hm : MW.testBit k = true := by rw [show MW = 2 ^ 32 - 1 from rfl, Nat.testBit_two_pow_sub_one]; simp [hk]
  simp only [div_bit]
  unfold trio tbit
  split
  · simp only [Nat.testBit_xor]
    cases a.testBit k <;> cases b.testBit k <;> cases c.testBit k <;> rfl
  · split
    · simp only [mjs, Nat.testBit_or, Nat.testBit_and]
      cases a.testBit k <;> cases b.testBit k <;> cases c.testBit k <;> rfl
    · simp only [chs, Nat.testBit_or, Nat.testBit_and, Nat.testBit_xor, hm]
      cases a.testBit k <;> cases b.testBit k <;> cases c.testBit k <;> rfl
theorem trio_lt (h a b c : Nat) (ha : a ≤ MW) (hb : b ≤ MW) (hc : c ≤ MW) : trio h a b c < 2 ^ 32 := by
  have la : a < 2 ^ 32 := by unfold MW at ha; omega
  have lb : b < 2 ^ 32 := by unfold MW at hb; omega
  have lc : c < 2 ^ 32 := by unfold MW at hc; omega
  unfold trio
  split
  · exact Nat.xor_lt_two_pow (Nat.xor_lt_two_pow la lb) lc
  · split
    · exact Nat.or_lt_two_pow (Nat.or_lt_two_pow (Nat.and_lt_two_pow _ lb) (Nat.and_lt_two_pow _ lc)) (Nat.and_lt_two_pow _ lc)
    · exact Nat.or_lt_two_pow (Nat.and_lt_two_pow _ lb) (Nat.and_lt_two_pow _ lc)
theorem half_step (R j : Nat) (h : j < 32) : R / 2 ^ (31 - j) = 2 * (R / 2 ^ (32 - j)) + R / 2 ^ (31 - j) % 2 := by
  rw [show 32 - j = (31 - j) + 1 by omega, Nat.pow_succ, ← Nat.div_div_eq_div_mul]; omega

set_option maxHeartbeats 2000000 in
theorem bits_any (h a b c : Nat) (hh : h ≤ 2) (ha : a ≤ MW) (hb : b ≤ MW) (hc : c ≤ MW) (w : World) :
    Calls Tryd.prog 92 #[.int .u64 (a : Int), .int .u64 (b : Int), .int .u64 (c : Int), .int .i64 (h : Int)] w fun e w' => e = .returned (.int .u64 ((trio h a b c : Nat) : Int)) ∧ ∃ n, w' = w.drewN n := by
  have HA := Lib.hid ha
  have HB := Lib.hid hb
  have HC := Lib.hid hc
  have hR := trio_lt h a b c ha hb hc
  have HK := Lib.hid (fun k (hk : k < 32) => trio_bit h a b c k hk)
  obtain ⟨R, eR⟩ : ∃ R, R = trio h a b c := ⟨_, rfl⟩
  rw [← eR] at hR HK ⊢
  have HR := Lib.hid hR
  clear ha hb hc eR hR
  go_enter Tryd.func92, Tryd.ntmps92
  go_wp2_with fail
  go_loopw [9, 10] (fun n k wr => ∃ j : Nat, j ≤ 32 ∧ k = .int .i64 (31 - (j : Int)) ∧ n = .int .u64 ((R / 2 ^ (32 - j) : Nat) : Int) ∧ ∃ m, wr = w.drewN m) (fun _ k _ => (intOf k + 1).toNat)
  case atStart => exact ⟨0, by decide, rfl, by rw [Nat.div_eq_of_lt HR.out]; rfl, 0, rfl⟩
  case round =>
    obtain ⟨j, hj, rfl, rfl, m, hwr⟩ := hrel
    have HWR := Lib.hid hwr
    clear hwr
    by_cases hlt : j < 32
    · obtain ⟨k, hk⟩ : ∃ k, k = 31 - j := ⟨_, rfl⟩
      have hki : (31 : Int) - (j : Int) = (k : Int) := by omega
      have HT := Lib.hid (two_any k (by omega))
      have hbit := HK.out k (by omega)
      have hst := half_step R j hlt
      have hpp := Nat.two_pow_pos k
      have hn : R / 2 ^ (32 - j) < 4294967296 := Nat.lt_of_le_of_lt (Nat.div_le_self _ _) HR.out
      rw [← hk] at hst
      rw [hbit] at hst
      obtain ⟨p, ep⟩ : ∃ p, p = 2 ^ k := ⟨_, rfl⟩
      rw [← ep] at HT hst hpp
      have da := div_wrap a p (by have := HA.out; unfold MW at this; omega)
      have db := div_wrap b p (by have := HB.out; unfold MW at this; omega)
      have dc := div_wrap c p (by have := HC.out; unfold MW at this; omega)
      obtain ⟨a', ea⟩ : ∃ x, x = a / p := ⟨_, rfl⟩
      obtain ⟨b', eb⟩ : ∃ x, x = b / p := ⟨_, rfl⟩
      obtain ⟨c', ec⟩ : ∃ x, x = c / p := ⟨_, rfl⟩
      rw [← ea] at da hst
      rw [← eb] at db hst
      rw [← ec] at dc hst
      have hp0 : p ≠ 0 := by omega
      obtain ⟨N, eN⟩ : ∃ N, N = R / 2 ^ (32 - j) := ⟨_, rfl⟩
      rw [← eN] at hst hn ⊢
      rw [hki]
      have HST := Lib.hid (show R / 2 ^ (32 - (j + 1)) = 2 * N + tbit h (a' % 2) (b' % 2) (c' % 2) by rw [show 32 - (j + 1) = k by omega, ← ep]; exact hst)
      have HKI := Lib.hid hk
      clear hst hbit ep ea eb ec eN hki hk hpp
      obtain ⟨x, ex, xl⟩ : ∃ x, a' % 2 = x ∧ x < 2 := ⟨_, rfl, Nat.mod_lt _ (by decide)⟩
      obtain ⟨y, ey, yl⟩ : ∃ x, b' % 2 = x ∧ x < 2 := ⟨_, rfl, Nat.mod_lt _ (by decide)⟩
      obtain ⟨z, ez, zl⟩ : ∃ x, c' % 2 = x ∧ x < 2 := ⟨_, rfl, Nat.mod_lt _ (by decide)⟩
      have ma : (a' : Int) % ((2 : Nat) : Int) = (x : Int) := by rw [← ex]; omega
      have mb : (b' : Int) % ((2 : Nat) : Int) = (y : Int) := by rw [← ey]; omega
      have mc : (c' : Int) % ((2 : Nat) : Int) = (z : Int) := by rw [← ez]; omega
      rw [ex, ey, ez] at HST
      clear ex ey ez
      go_wp2_with fail
      refine wp_region_noPanic (wp_region_any (by kernel_rfl) ?_)
      change wpAny _ _ _ _ 18 _ _ wr.drew
      obtain ⟨W, hW⟩ : ∃ W, W = wr.drew := ⟨_, rfl⟩
      have HW := Lib.hid (show W = w.drewN (m + 1) by rw [hW, HWR.out]; rfl)
      rw [← hW]
      clear hW
      refine any_free (i := 0) (.int .u64 (a : Int)) rfl (by kernel_rfl) (by kernel_rfl) (by kernel_rfl) (by kernel_rfl) (fun _ => by kernel_rfl) ?_
      refine any_free (i := 1) (.int .i64 (k : Int)) rfl (by kernel_rfl) (by kernel_rfl) (by kernel_rfl) (by kernel_rfl) (fun _ => by kernel_rfl) ?_
      refine any_free (i := 5) (.int .u64 (b : Int)) rfl (by kernel_rfl) (by kernel_rfl) (by kernel_rfl) (by kernel_rfl) (fun _ => by kernel_rfl) ?_
      refine any_free (i := 6) (.int .i64 (k : Int)) rfl (by kernel_rfl) (by kernel_rfl) (by kernel_rfl) (by kernel_rfl) (fun _ => by kernel_rfl) ?_
      refine any_free (i := 10) (.int .u64 (c : Int)) rfl (by kernel_rfl) (by kernel_rfl) (by kernel_rfl) (by kernel_rfl) (fun _ => by kernel_rfl) ?_
      refine any_free (i := 11) (.int .i64 (k : Int)) rfl (by kernel_rfl) (by kernel_rfl) (by kernel_rfl) (by kernel_rfl) (fun _ => by kernel_rfl) ?_
      refine any_call (i := 2) rfl (by kernel_rfl) (by kernel_rfl) (by kernel_rfl) (HT.out _) ?_
      rintro w' rfl
      refine any_free (i := 3) (.int .u64 (IntKind.u64.wrap ((a : Int) / (p : Int)))) rfl (by kernel_rfl) (by kernel_rfl) (by kernel_rfl) (by kernel_rfl) (fun W => by refine exec_quo 22 22 (.tmp 19) (.tmp 21) ?_ ?_ ?_ hp0 <;> kernel_rfl) ?_
      rw [da]
      refine any_free (i := 4) (.int .u64 ((a' : Int) % ((2 : Nat) : Int))) rfl (by kernel_rfl) (by kernel_rfl) (by kernel_rfl) (by kernel_rfl) (fun W => by refine exec_rem (b := 2) 22 22 (.tmp 22) (.const (.int .u64 2)) ?_ ?_ ?_ (by decide) <;> kernel_rfl) ?_
      rw [ma]
      refine any_call (i := 7) rfl (by kernel_rfl) (by kernel_rfl) (by kernel_rfl) (HT.out _) ?_
      rintro w' rfl
      refine any_free (i := 8) (.int .u64 (IntKind.u64.wrap ((b : Int) / (p : Int)))) rfl (by kernel_rfl) (by kernel_rfl) (by kernel_rfl) (by kernel_rfl) (fun W => by refine exec_quo 22 22 (.tmp 24) (.tmp 26) ?_ ?_ ?_ hp0 <;> kernel_rfl) ?_
      rw [db]
      refine any_free (i := 9) (.int .u64 ((b' : Int) % ((2 : Nat) : Int))) rfl (by kernel_rfl) (by kernel_rfl) (by kernel_rfl) (by kernel_rfl) (fun W => by refine exec_rem (b := 2) 22 22 (.tmp 27) (.const (.int .u64 2)) ?_ ?_ ?_ (by decide) <;> kernel_rfl) ?_
      rw [mb]
      refine any_call (i := 12) rfl (by kernel_rfl) (by kernel_rfl) (by kernel_rfl) (HT.out _) ?_
      rintro w' rfl
      refine any_free (i := 13) (.int .u64 (IntKind.u64.wrap ((c : Int) / (p : Int)))) rfl (by kernel_rfl) (by kernel_rfl) (by kernel_rfl) (by kernel_rfl) (fun W => by refine exec_quo 22 22 (.tmp 29) (.tmp 31) ?_ ?_ ?_ hp0 <;> kernel_rfl) ?_
      rw [dc]
      refine any_free (i := 14) (.int .u64 ((c' : Int) % ((2 : Nat) : Int))) rfl (by kernel_rfl) (by kernel_rfl) (by kernel_rfl) (by kernel_rfl) (fun W => by refine exec_rem (b := 2) 22 22 (.tmp 32) (.const (.int .u64 2)) ?_ ?_ ?_ (by decide) <;> kernel_rfl) ?_
      rw [mc]
      refine any_rest (k := 15) rfl (by kernel_rfl) ?_
      simp only [List.drop_succ_cons, List.drop_zero]
      change wpList _ _ (NoPanic _) _ _ W
      clear da db dc ma mb mc
      have wk : wrap64 ((k : Int) - 1) = (k : Int) - 1 := IntWalk.wrap64_in _ (by have := HKI.out; omega)
      go_wp2_with fail
      refine NoPanic.normal ?_
      obtain rfl | rfl | rfl : h = 0 ∨ h = 1 ∨ h = 2 := by omega
      · go_wp2_with fail
        refine ⟨⟨j + 1, by omega, by rw [wk, show (k : Int) - 1 = 31 - ((j + 1 : Nat) : Int) by have := HKI.out; omega], ?_, m + 1, HW.out⟩, by rw [wk]; simp only [intOf]; omega⟩
        rw [HST.out]
        refine congrArg (Value.int .u64) ?_
        rw [show tbit 0 x y z = (x + y + z) % 2 from rfl]; omega
      · go_wp2_with fail
        refine ⟨⟨j + 1, by omega, by rw [wk, show (k : Int) - 1 = 31 - ((j + 1 : Nat) : Int) by have := HKI.out; omega], ?_, m + 1, HW.out⟩, by rw [wk]; simp only [intOf]; omega⟩
        rw [HST.out]
        refine congrArg (Value.int .u64) ?_
        rw [show tbit 1 x y z = (x + y + z) / 2 from rfl]; omega
      · by_cases hx1 : x = 1
        · subst hx1
          go_wp2_with fail
          refine ⟨⟨j + 1, by omega, by rw [wk, show (k : Int) - 1 = 31 - ((j + 1 : Nat) : Int) by have := HKI.out; omega], ?_, m + 1, HW.out⟩, by rw [wk]; simp only [intOf]; omega⟩
          rw [HST.out]
          refine congrArg (Value.int .u64) ?_
          rw [show tbit 2 1 y z = y from rfl]; omega
        · obtain rfl : x = 0 := by omega
          go_wp2_with fail
          refine ⟨⟨j + 1, by omega, by rw [wk, show (k : Int) - 1 = 31 - ((j + 1 : Nat) : Int) by have := HKI.out; omega], ?_, m + 1, HW.out⟩, by rw [wk]; simp only [intOf]; omega⟩
          rw [HST.out]
          refine congrArg (Value.int .u64) ?_
          rw [show tbit 2 0 y z = z from rfl]; omega
    · obtain rfl : j = 32 := by omega
      clear hlt
      rw [show R / 2 ^ (32 - 32) = R by simp]
      go_wp2_with fail
      go_ret; exact ⟨rfl, m, HWR.out⟩

theorem xor_ref (a b c : Nat) (ha : a ≤ MW) (hb : b ≤ MW) (hc : c ≤ MW) (w : World) :
    Calls Tryd.prog 80 #[.int .u64 (a : Int), .int .u64 (b : Int), .int .u64 (c : Int)] w fun e w' => e = .returned (.int .u64 ((a ^^^ b ^^^ c : Nat) : Int)) ∧ ∃ n, w' = w.drewN n := by
  have HT := Lib.hid (show ∀ w, Calls Tryd.prog 92 #[.int .u64 (a : Int), .int .u64 (b : Int), .int .u64 (c : Int), .int .i64 0] w fun e w' => e = .returned (.int .u64 ((a ^^^ b ^^^ c : Nat) : Int)) ∧ ∃ n, w' = w.drewN n from bits_any 0 a b c (by decide) ha hb hc)
  obtain ⟨R, hR⟩ : ∃ R, R = a ^^^ b ^^^ c := ⟨_, rfl⟩
  rw [← hR] at HT ⊢
  clear hR
  go_enter Tryd.func80, Tryd.ntmps80
  go_wp2_with fail
  refine (HT.out _).mono ?_
  rintro e w' ⟨rfl, n, rfl⟩
  go_wp2_with fail
  go_ret; exact ⟨rfl, n, rfl⟩

theorem most_ref (a b c : Nat) (ha : a ≤ MW) (hb : b ≤ MW) (hc : c ≤ MW) (w : World) :
    Calls Tryd.prog 83 #[.int .u64 (a : Int), .int .u64 (b : Int), .int .u64 (c : Int)] w fun e w' => e = .returned (.int .u64 ((mjs a b c : Nat) : Int)) ∧ ∃ n, w' = w.drewN n := by
  have HT := Lib.hid (show ∀ w, Calls Tryd.prog 92 #[.int .u64 (a : Int), .int .u64 (b : Int), .int .u64 (c : Int), .int .i64 1] w fun e w' => e = .returned (.int .u64 ((mjs a b c : Nat) : Int)) ∧ ∃ n, w' = w.drewN n from bits_any 1 a b c (by decide) ha hb hc)
  obtain ⟨R, hR⟩ : ∃ R, R = mjs a b c := ⟨_, rfl⟩
  rw [← hR] at HT ⊢
  clear hR
  go_enter Tryd.func83, Tryd.ntmps83
  go_wp2_with fail
  refine (HT.out _).mono ?_
  rintro e w' ⟨rfl, n, rfl⟩
  go_wp2_with fail
  go_ret; exact ⟨rfl, n, rfl⟩

theorem pick_ref (a b c : Nat) (ha : a ≤ MW) (hb : b ≤ MW) (hc : c ≤ MW) (w : World) :
    Calls Tryd.prog 82 #[.int .u64 (a : Int), .int .u64 (b : Int), .int .u64 (c : Int)] w fun e w' => e = .returned (.int .u64 ((chs MW a b c : Nat) : Int)) ∧ ∃ n, w' = w.drewN n := by
  have HT := Lib.hid (show ∀ w, Calls Tryd.prog 92 #[.int .u64 (a : Int), .int .u64 (b : Int), .int .u64 (c : Int), .int .i64 2] w fun e w' => e = .returned (.int .u64 ((chs MW a b c : Nat) : Int)) ∧ ∃ n, w' = w.drewN n from bits_any 2 a b c (by decide) ha hb hc)
  obtain ⟨R, hR⟩ : ∃ R, R = chs MW a b c := ⟨_, rfl⟩
  rw [← hR] at HT ⊢
  clear hR
  go_enter Tryd.func82, Tryd.ntmps82
  go_wp2_with fail
  refine (HT.out _).mono ?_
  rintro e w' ⟨rfl, n, rfl⟩
  go_wp2_with fail
  go_ret; exact ⟨rfl, n, rfl⟩
end Go.Proofs.YtcbakfnpbhgjoaaDoor
