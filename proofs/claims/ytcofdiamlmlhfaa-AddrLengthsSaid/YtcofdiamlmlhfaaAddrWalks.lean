/-
  Adds and Removes in memory; what the small functions of package addr answer, each by its walk: macSizeOf, firstOf, portOf, checkFirst, concat, validRemove.
-/
import Derived.Test.YtcofdiamlmlhfaaAddrPlain
import Derived.Test.YtcofdiamlmlhfaaCurAny
import Derived.Test.YtcofdiamlmlhfaaCurPuts
import Derived.Test.YtcofdiamlmlhfaaStepOps
import Derived.Test.YtcofdiamlmlhfaaJoin
import Derived.Great.BuildSlice
import Derived.Laws.Rows
namespace Go.Proofs.Ytcofdiamlmlhfaa
open Go.ChangeShapes Go.WideShapes Go.ChangeAt Go.RowKit
set_option linter.unusedVariables false

/-- An Add's struct, as cells; a Remove's. -/
abbrev adv (x : Ad) : Array Value := #[.bool x.echo, .int .i64 x.id, .string x.ip, .bool x.hp, .int .i64 x.port, .string x.mac]
abbrev rmv (s : ByteArray) : Array Value := #[.string s]
theorem ad_size : (Try.prog.info? 23).map (·.size) = some 6 := by kernel_rfl
theorem ad_one (x : Ad) : (adv x).all (·.oneCell') = true := by simp [Value.oneCell']
theorem rm_size : (Try.prog.info? 29).map (·.size) = some 1 := by kernel_rfl
theorem rm_one (s : ByteArray) : (rmv s).all (·.oneCell') = true := by simp [Value.oneCell']

/-! ### Two of them compared -/
def aeq (x y : Ad) : Bool := x.echo == y.echo && (x.id == y.id && (x.ip.toList == y.ip.toList && (x.hp == y.hp && (x.port == y.port && (x.mac.toList == y.mac.toList)))))
theorem str_iff (a b : ByteArray) : a.toList = b.toList ↔ a = b := by
  rw [ByteArray.toList_eq, ByteArray.toList_eq]
  exact ⟨fun h => ByteArray.ext (Array.toList_inj.1 h), fun h => by rw [h]⟩
theorem aeq_iff (x y : Ad) : aeq x y = true ↔ x = y := by
  unfold aeq
  simp only [Bool.and_eq_true, beq_iff_eq]
  constructor
  · rintro ⟨h0, h1, h2, h3, h4, h5⟩
    exact Ad.ext_ h0 h1 ((str_iff _ _).1 h2) h3 h4 ((str_iff _ _).1 h5)
  · rintro rfl
    exact ⟨rfl, rfl, rfl, rfl, rfl, rfl⟩
theorem aeq_self (x : Ad) : aeq x x = true := (aeq_iff x x).2 rfl
theorem aeq_ne {x y : Ad} (h : x ≠ y) : aeq x y = false := by
  cases e : aeq x y
  · rfl
  · exact absurd ((aeq_iff x y).1 e) h
instance : DecidableEq Ad := fun x y => decidable_of_iff (aeq x y = true) (aeq_iff x y)
theorem aeq_dec (x y : Ad) : aeq x y = decide (x = y) := by
  by_cases h : x = y
  · rw [decide_eq_true h]; exact (aeq_iff x y).2 h
  · rw [decide_eq_false h]; exact aeq_ne h
set_option maxRecDepth 100000 in
theorem ad_equal (x y : Ad) (w : World) : (Op.equalIn 10000 23 (.agg (adv x)) (.agg (adv y))).run Try.prog w = .ok (aeq x y) w := by
  rw [show (10000 : Nat) = 9999 + 1 from rfl, run_equalIn_agg (P := Try.prog) w 9999 23 _ _ (by kernel_rfl) (by kernel_rfl)]
  rw [show (9999 : Nat) = 9998 + 1 from rfl]
  simp only [Program.fieldsOf, Try.underlying23, Op.eqFields]
  simp [go_sem]
  by_cases h0 : x.echo = y.echo <;> by_cases h1 : x.id = y.id <;> by_cases h2 : x.ip.toList = y.ip.toList <;> by_cases h3 : x.hp = y.hp <;> by_cases h4 : x.port = y.port <;> by_cases h5 : x.mac.toList = y.mac.toList <;> simp [aeq, h0, h1, h2, h3, h4, h5]
theorem ad_equal_b (x y : Ad) (B : Bool) (h : aeq x y = B) (w : World) : (Op.equalIn 10000 23 (.agg (adv x)) (.agg (adv y))).run Try.prog w = .ok B w := by subst h; exact ad_equal x y w
set_option maxRecDepth 100000 in
theorem rm_equal (x y : ByteArray) (w : World) : (Op.equalIn 10000 29 (.agg (rmv x)) (.agg (rmv y))).run Try.prog w = .ok (x.toList == y.toList) w := by
  rw [show (10000 : Nat) = 9999 + 1 from rfl, run_equalIn_agg (P := Try.prog) w 9999 29 _ _ (by kernel_rfl) (by kernel_rfl)]
  rw [show (9999 : Nat) = 9998 + 1 from rfl]
  simp only [Program.fieldsOf, Try.underlying29, Op.eqFields]
  simp [go_sem]
  by_cases h : x.toList = y.toList <;> simp [h]
theorem rm_equal_b (x y : ByteArray) (B : Bool) (h : decide (x = y) = B) (w : World) : (Op.equalIn 10000 29 (.agg (rmv x)) (.agg (rmv y))).run Try.prog w = .ok B w := by
  rw [rm_equal, ← h]
  congr 1
  rw [Bool.eq_iff_iff, beq_iff_eq, decide_eq_true_iff]; exact str_iff x y

/-! ### Small functions -/
theorem macSizeOf_any (e : Bool) (w : World) :
    Calls Try.prog 32 #[.bool e] w fun e' w' => e' = .returned (.int .i64 (macOf e : Int)) ∧ Below w.heap.size w w' := by
  cases e
  all_goals
    go_enter Try.func32, Try.ntmps32
    go_wp2
    go_ret; exact ⟨rfl, Below.refl _ _⟩
theorem firstOf_any (x : Ad) (w : World) :
    Calls Try.prog 25 #[.agg (adv x)] w fun e w' => e = .returned (.int .u8 (fst x.echo : Int)) ∧ Below w.heap.size w w' := by
  obtain ⟨echo, id, ip, hp, port, mac⟩ := x
  cases echo
  all_goals
    go_enter Try.func25, Try.ntmps25
    go_wp2
    go_ret; exact ⟨rfl, (Below.refl _ _).alloc (Nat.le_refl _) _⟩
theorem conv_i64_u16 (n : Int) (u : Nat) (h : n % 65536 = (u : Int)) (w : World) : (convert 3 32 (.int .i64 n)).run Try.prog w = .ok (.int .u16 (u : Int)) w := by
  rw [run_convert_int w 3 32 .i64 _ (by kernel_rfl) (by kernel_rfl), show Try.prog.intKind 32 = .u16 by kernel_rfl, show IntKind.u16.wrap n = n % 65536 by simp [IntKind.wrap, IntKind.bits, IntKind.signed], h]
theorem portOf_any (x : Ad) (hm : 0 ≤ x.port ∧ x.port ≤ 65535) (T : ByteArray) (hT : T = txt x.ports) (w : World) :
    Calls Try.prog 26 #[.agg (adv x)] w fun e w' => e = .returned (.string T) ∧ Below w.heap.size w w' := by
  obtain ⟨echo, id, ip, hp, port, mac⟩ := x
  have HB := Lib.hid ((Below.refl _ w).alloc (Nat.le_refl _) (.cells (adv ⟨echo, id, ip, hp, port, mac⟩) 23))
  cases hp
  · have HT := Lib.hid (show T = ⟨#[]⟩ from hT)
    clear hT
    go_enter Try.func26, Try.ntmps26
    go_wp2_with fail
    go_ret; exact ⟨by rw [HT.out]; rfl, HB.out⟩
  · obtain ⟨n, rfl⟩ := Int.eq_ofNat_of_zero_le hm.1
    have HT := Lib.hid (show (⟨#[]⟩ : ByteArray) ++ ⟨(be 2 n).toArray⟩ = T by rw [none_and, hT]; rfl)
    have hn : n ≤ 65535 := by have := hm.2; simp only at this; omega
    have hc := conv_i64_u16 (n : Int) n (by omega)
    clear hT hm
    go_enter Try.func26, Try.ntmps26
    go_wp2_with fail
    refine (answer (Put16_any ⟨#[]⟩ n _ (by decide) hn) (congrArg Value.string HT.out)).mono ?_
    rintro e w1 ⟨rfl, b1⟩
    go_wp2_with fail
    go_ret; exact ⟨rfl, bel_in HB.out b1⟩
/-- What the first byte says: whether there is one, and whose it is. -/
def chk (s : ByteArray) (k : Nat) : Int := if s.size = 0 then 4 else if byteAt s 0 / 16 = k then 0 else 7
theorem checkFirst_any (s : ByteArray) (k : Nat) (hk : k ≤ 255) (w : World) (hs : s.size ≤ 9223372036854775807) :
    Calls Try.prog 30 #[.string s, .int .u8 (k : Int)] w fun e w' => e = .returned (.int .i64 (chk s k)) ∧ Below w.heap.size w w' := by
  by_cases h0 : s.size = 0
  · rw [show chk s k = 4 by unfold chk; rw [if_pos h0]]
    go_enter Try.func30, Try.ntmps30
    go_wp2
    go_ret; exact ⟨rfl, Below.refl _ _⟩
  · have hg := byteAt_get s 0 (by omega)
    have h0' : 0 < s.size := by omega
    obtain ⟨c, hc⟩ : ∃ c : Nat, c = s[0].toNat := ⟨_, rfl⟩
    have hb : c < 256 := by rw [hc]; exact s[0].toNat_lt
    rw [← hc] at hg
    by_cases h : c / 16 = k
    · rw [show chk s k = 0 by unfold chk; rw [if_neg h0, hg, if_pos h]]
      have hq : (s[0].toNat : Int) / 16 = (k : Int) := by rw [← hc]; omega
      clear hg
      go_enter Try.func30, Try.ntmps30
      go_wp2
      go_ret; exact ⟨rfl, Below.refl _ _⟩
    · rw [show chk s k = 7 by unfold chk; rw [if_neg h0, hg, if_neg h]]
      have hq : ¬ (s[0].toNat : Int) / 16 = (k : Int) := by rw [← hc]; omega
      clear hg
      go_enter Try.func30, Try.ntmps30
      go_wp2
      go_ret; exact ⟨rfl, Below.refl _ _⟩
theorem validRemove_any (s : ByteArray) (w : World) (hs : s.size ≤ 9223372036854775807) :
    Calls Try.prog 29 #[.agg (rmv s)] w fun e w' => e = .returned (.bool (decide (1 ≤ s.size ∧ s.size ≤ 37))) ∧ Below w.heap.size w w' := by
  by_cases h1 : (1 : Int) ≤ (s.size : Int)
  · by_cases h2 : (s.size : Int) ≤ 37
    · rw [decide_eq_true (p := 1 ≤ s.size ∧ s.size ≤ 37) (by omega)]
      go_enter Try.func29, Try.ntmps29
      go_wp2
      go_ret; exact ⟨rfl, (Below.refl _ _).alloc (Nat.le_refl _) _⟩
    · rw [decide_eq_false (p := 1 ≤ s.size ∧ s.size ≤ 37) (by omega)]
      go_enter Try.func29, Try.ntmps29
      go_wp2
      go_ret; exact ⟨rfl, (Below.refl _ _).alloc (Nat.le_refl _) _⟩
  · rw [decide_eq_false (p := 1 ≤ s.size ∧ s.size ≤ 37) (by omega)]
    go_enter Try.func29, Try.ntmps29
    go_wp2
    go_ret; exact ⟨rfl, (Below.refl _ _).alloc (Nat.le_refl _) _⟩

/-! ### Parts, one behind the other -/
theorem join_none (xs : List (List UInt8)) : Lib.join xs [] = xs.flatten := by
  cases xs with
  | nil => rfl
  | cons x r => rw [Lib.join_cons, Lib.joinTail]; simp
theorem concat_any (xs : List ByteArray) (T : ByteArray) (hT : T.data.toList = (xs.map (·.data.toList)).flatten) (bk n : Nat) (hn : n = xs.length) (w : World) (hb : Blk w bk 9 (xs.map Value.string).toArray) (hx : xs.length ≤ 140737488355328) (hz : T.size ≤ 140737488355328) :
    Calls Try.prog 23 #[.slice (some ⟨bk, 0, none⟩) n n] w fun e w' => e = .returned (.string T) ∧ Below w.heap.size w w' := by
  subst hn
  have hj : Lib.join (xs.map (·.data.toList)) (⟨#[]⟩ : ByteArray).data.toList = T.data.toList := (join_none _).trans hT.symm
  have c := Try.strings_Join bk 0 xs.length xs ⟨#[]⟩ w (fun j x h => by rw [Nat.zero_add, hb.cell j]; simp [h]) hb.lt hx (Nat.le_refl _) (by rw [hj, len_data]; exact hz)
  rw [hj, show (⟨T.data.toList.toArray⟩ : ByteArray) = T by apply ByteArray.ext; simp] at c
  have HC := Lib.hid c
  clear c hb hj hT
  go_enter Try.func23, Try.ntmps23
  go_wp2_with fail
  refine HC.out.mono ?_
  rintro e w1 ⟨rfl, b1⟩
  go_wp2_with fail
  go_ret; exact ⟨rfl, b1⟩
theorem texts_built (xs : List ByteArray) (h0 : 0 < xs.length) (h1 : xs.length ≤ 100) (parts : Array (Nat × Value)) (hp : parts.toList = ((xs.map Value.string).zipIdx 0).map fun x => (x.2, x.1)) (w : World) :
    (Instr.buildSlice 76 xs.length parts).run Try.prog w = .ok (.slice (some ⟨w.heap.size, 0, none⟩) xs.length xs.length) (w.alloc (.cells (xs.map Value.string).toArray 9)) := by
  have sz : (Try.prog.info? 9).map (·.size) = some 1 := by kernel_rfl
  have ze : (Try.prog.info? 9).map (·.zero.isSome) = some true := by kernel_rfl
  obtain ⟨ie, hi⟩ : ∃ ie, Try.prog.info? 9 = some ie := (Option.map_eq_some_iff.1 sz).imp fun _ h => h.1
  rw [hi] at sz ze
  have s1 : ie.size = 1 := Option.some.inj sz
  obtain ⟨z, hz⟩ := Option.isSome_iff_exists.1 (Option.some.inj ze)
  have flat := Great.fill_flat (xs.map Value.string) ((Array.range (xs.length * 1)).map (z.cells[· % z.cells.size]!)) (fun v hv => by obtain ⟨x, _, rfl⟩ := List.mem_map.1 hv; rfl) (by simp)
  exact run_buildSlice w _ _ xs.length parts _ ie z (by kernel_rfl) hi hz (by rw [s1]; omega) (by rw [s1]; omega) (by rw [hp, s1]; exact flat)
theorem ex_build2 {ρ : Operand → Value} {o : Oper} {w : World} (x y : Operand) (ho : o.op = .buildSlice 76 2 #[(0, x), (1, y)]) (a b : ByteArray) (hx : ρ x = .string a) (hy : ρ y = .string b) :
    (execOp ρ o).run Try.prog w = .ok (.value (.slice (some ⟨w.heap.size, 0, none⟩) 2 2)) (w.alloc (.cells ([a, b].map Value.string).toArray 9)) := by
  have h := texts_built [a, b] (by simp) (by simp) #[(0, .string a), (1, .string b)] (by simp [List.zipIdx]) w
  simp only [List.length_cons, List.length_nil] at h
  unfold execOp
  rw [ho]
  simp [hx, hy, h]
theorem ex_build5 {ρ : Operand → Value} {o : Oper} {w : World} (x y z u v : Operand) (ho : o.op = .buildSlice 76 5 #[(0, x), (1, y), (2, z), (3, u), (4, v)]) (a b c d e : ByteArray) (hx : ρ x = .string a) (hy : ρ y = .string b) (hz : ρ z = .string c) (hu : ρ u = .string d) (hv : ρ v = .string e) :
    (execOp ρ o).run Try.prog w = .ok (.value (.slice (some ⟨w.heap.size, 0, none⟩) 5 5)) (w.alloc (.cells ([a, b, c, d, e].map Value.string).toArray 9)) := by
  have h := texts_built [a, b, c, d, e] (by simp) (by simp) #[(0, .string a), (1, .string b), (2, .string c), (3, .string d), (4, .string e)] (by simp [List.zipIdx]) w
  simp only [List.length_cons, List.length_nil] at h
  unfold execOp
  rw [ho]
  simp [hx, hy, hz, hu, hv, h]
end Go.Proofs.Ytcofdiamlmlhfaa
