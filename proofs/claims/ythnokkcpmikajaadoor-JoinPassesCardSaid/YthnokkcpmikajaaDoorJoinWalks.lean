/-
  Options in memory, the table of sizes; what the small functions of package join answer, each by its walk: known, foreign, firstOf, Bytes.
-/
import Derived.Test.YthnokkcpmikajaaDoorJoinPlain
import Derived.Test.YthnokkcpmikajaaDoorCurAny
import Derived.Test.YthnokkcpmikajaaDoorCurPuts
import Derived.Test.YthnokkcpmikajaaDoorStepOps
import Derived.Laws.Tables
import Derived.Laws.Rows
namespace Go.Proofs.YthnokkcpmikajaaDoor
open Go.ChangeShapes Go.WideShapes Go.ChangeAt Go.RowKit
set_option linter.unusedVariables false

/-- An option's struct, as cells. -/
abbrev jnv (x : Jn) : Array Value := #[.int .i64 x.form, .bool x.backup, .int .i64 x.id, .int .u32 (x.token : Int), .int .u32 (x.nonce : Int), .string x.mac]
theorem jn_size : (Tryd.prog.info? 24).map (·.size) = some 6 := by kernel_rfl
theorem jn_one (x : Jn) : (jnv x).all (·.oneCell') = true := by simp [Value.oneCell']

/-- The table of sizes holds what the program's text lays there. -/
structure Tbl (w : World) : Prop where
  lt : 0 < w.heap.size
  c0 : w.cell? ⟨0, 0, none⟩ = some (.int .i64 10)
  c1 : w.cell? ⟨0, 1, none⟩ = some (.int .i64 0)
  c2 : w.cell? ⟨0, 2, none⟩ = some (.int .i64 14)
  c3 : w.cell? ⟨0, 3, none⟩ = some (.int .i64 8)
  c4 : w.cell? ⟨0, 4, none⟩ = some (.int .i64 22)
  c5 : w.cell? ⟨0, 5, none⟩ = some (.int .i64 20)
theorem Tbl.under {w w' : World} {B : Nat} (h : Tbl w) (b : Below B w w') (hB : 0 < B) : Tbl w' := by
  have e : w'.heap[0]? = w.heap[0]? := b.block _ hB
  have k : ∀ i, w'.cell? ⟨0, i, none⟩ = w.cell? ⟨0, i, none⟩ := fun i => World.cell?_of_block (a := ⟨0, i, none⟩) e
  exact ⟨Nat.lt_of_lt_of_le h.lt b.size, (k 0).trans h.c0, (k 1).trans h.c1, (k 2).trans h.c2, (k 3).trans h.c3, (k 4).trans h.c4, (k 5).trans h.c5⟩
theorem Tbl.below {w w' : World} (h : Tbl w) (b : Below w.heap.size w w') : Tbl w' := h.under b h.lt
theorem Tbl.alloc {w : World} (h : Tbl w) (o : Obj) : Tbl (w.alloc o) := h.below ((Below.refl _ w).alloc (Nat.le_refl _) o)
theorem Tbl.drewN {w : World} (h : Tbl w) (n : Nat) : Tbl (w.drewN n) := h.below (below_drewN (Below.refl _ w) n)
theorem Tbl.drew {w : World} (h : Tbl w) : Tbl w.drew := h.below (Below.refl _ w).drew

/-! ### Two options compared -/
def jeq (x y : Jn) : Bool := x.form == y.form && (x.backup == y.backup && (x.id == y.id && ((x.token : Int) == (y.token : Int) && ((x.nonce : Int) == (y.nonce : Int) && (x.mac.toList == y.mac.toList)))))
theorem jeq_iff (x y : Jn) : jeq x y = true ↔ x = y := by
  unfold jeq
  simp only [Bool.and_eq_true, beq_iff_eq]
  constructor
  · rintro ⟨h0, h1, h2, h3, h4, h5⟩
    refine Jn.ext_ h0 h1 h2 (by omega) (by omega) ?_
    rw [ByteArray.toList_eq, ByteArray.toList_eq] at h5
    exact ByteArray.ext (Array.toList_inj.1 h5)
  · rintro rfl
    exact ⟨rfl, rfl, rfl, rfl, rfl, rfl⟩
theorem jeq_self (x : Jn) : jeq x x = true := (jeq_iff x x).2 rfl
theorem jeq_ne {x y : Jn} (h : x ≠ y) : jeq x y = false := by
  cases e : jeq x y
  · rfl
  · exact absurd ((jeq_iff x y).1 e) h
set_option maxRecDepth 100000 in
theorem jn_equal (x y : Jn) (w : World) : (Op.equalIn 10000 24 (.agg (jnv x)) (.agg (jnv y))).run Tryd.prog w = .ok (jeq x y) w := by
  rw [show (10000 : Nat) = 9999 + 1 from rfl, run_equalIn_agg (P := Tryd.prog) w 9999 24 _ _ (by kernel_rfl) (by kernel_rfl)]
  rw [show (9999 : Nat) = 9998 + 1 from rfl]
  simp only [Program.fieldsOf, Tryd.underlying24, Op.eqFields]
  simp [go_sem]
  by_cases h0 : x.form = y.form <;> by_cases h1 : x.backup = y.backup <;> by_cases h2 : x.id = y.id <;> by_cases h3 : (x.token : Int) = (y.token : Int) <;> by_cases h4 : (x.nonce : Int) = (y.nonce : Int) <;> by_cases h5 : x.mac.toList = y.mac.toList <;> simp [jeq, h0, h1, h2, h3, h4, h5]

theorem known_any (f : Int) (w : World) :
    Calls Tryd.prog 22 #[.int .i64 f] w fun e w' => e = .returned (.bool (decide (0 ≤ f ∧ f < 3))) ∧ ∃ n, w' = w.drewN n := by
  by_cases h0 : 0 ≤ f
  · by_cases h3 : f < 3
    · rw [decide_eq_true ⟨h0, h3⟩]
      go_enter Tryd.func22, Tryd.ntmps22
      go_wp2
      go_ret; exact ⟨rfl, 0, rfl⟩
    · rw [decide_eq_false (fun h => h3 h.2)]
      go_enter Tryd.func22, Tryd.ntmps22
      go_wp2
      go_ret; exact ⟨rfl, 0, rfl⟩
  · rw [decide_eq_false (fun h => h0 h.1)]
    go_enter Tryd.func22, Tryd.ntmps22
    go_wp2
    go_ret; exact ⟨rfl, 0, rfl⟩
theorem firstOf_any (x : Jn) (w : World) :
    Calls Tryd.prog 29 #[.agg (jnv x)] w fun e w' => e = .returned (.int .u8 (Jn.first x.backup : Int)) ∧ Below w.heap.size w w' := by
  obtain ⟨form, backup, id, token, nonce, mac⟩ := x
  cases backup
  all_goals
    go_enter Tryd.func29, Tryd.ntmps29
    go_wp2
    go_ret; exact ⟨rfl, (Below.refl _ _).alloc (Nat.le_refl _) _⟩
/-- The fields that an option's form does not have. -/
def frn (x : Jn) : Jn := if x.form = 1 then ⟨0, false, 0, x.token, 0, ⟨#[]⟩⟩ else if x.form = 2 then ⟨0, x.backup, x.id, x.token, x.nonce, ⟨#[]⟩⟩ else .zero
theorem frn_end (x : Jn) (w : World) (cs0 cs : Array Value) {a : Act} (ht : a.tmps.getD 2 undef = .pointer (some ⟨w.heap.size + 1, 0, none⟩)) (hc : cs = jnv (frn x)) (hd : a.defers = []) (hb : ∀ o1 o2 : Obj, Below w.heap.size w ((w.alloc o1).alloc o2)) :
    bodyPost Tryd.prog Tryd.f27 (fun e w' => e = .returned (.agg (jnv (frn x))) ∧ Below w.heap.size w w') .ret a ((w.alloc (.cells cs0 24)).alloc (.cells cs 24)) := by
  subst hc
  have hB : Blk ((w.alloc (.cells cs0 24)).alloc (.cells (jnv (frn x)) 24)) (w.heap.size + 1) 24 (jnv (frn x)) := by
    have := Blk.new (w.alloc (.cells cs0 24)) 24 (jnv (frn x))
    simpa using this
  exact bodyPost_ret (results_cell_row rfl _ _ (w.heap.size + 1) 24 (jnv (frn x)) (0, 0) _ ht hB Tryd.underlying24 rfl jn_size) hd ⟨rfl, hb _ _⟩
theorem foreign_any (x : Jn) (w : World) :
    Calls Tryd.prog 27 #[.agg (jnv x)] w fun e w' => e = .returned (.agg (jnv (frn x))) ∧ Below w.heap.size w w' := by
  have hb : ∀ o1 o2 : Obj, Below w.heap.size w ((w.alloc o1).alloc o2) := fun o1 o2 => ((Below.refl _ w).alloc (Nat.le_refl _) _).alloc (by simp) _
  have HB := Lib.hid hb
  clear hb
  obtain ⟨form, backup, id, token, nonce, mac⟩ := x
  by_cases h1 : form = 1
  · subst h1
    go_enter Tryd.func27, Tryd.ntmps27
    go_wp2_with fail
    exact frn_end _ w _ _ rfl (by rw [frn, if_pos rfl]; rfl) rfl HB.out
  · by_cases h2 : form = 2
    · subst h2
      go_enter Tryd.func27, Tryd.ntmps27
      go_wp2_with fail
      exact frn_end _ w _ _ rfl (by rw [frn, if_neg (by show ¬ ((2 : Int) = 1); decide), if_pos rfl]) rfl HB.out
    · have e1 : (form == 1) = false := by rw [beq_eq_false_iff_ne]; exact h1
      have e2 : (form == 2) = false := by rw [beq_eq_false_iff_ne]; exact h2
      go_enter Tryd.func27, Tryd.ntmps27
      go_wp2_with fail
      exact frn_end _ w _ _ rfl (by rw [frn, if_neg h1, if_neg h2]; rfl) rfl HB.out
theorem Bytes_any (f : Int) (w : World) (ht : Tbl w) :
    Calls Tryd.prog 11 #[.int .i64 f] w fun e w' => e = .returned (.int .i64 (Jn.bodySize f : Int)) ∧ Below w.heap.size w w' := by
  by_cases h : 0 ≤ f ∧ f < 3
  · have c0 := (fun n => (ht.drewN n).c0)
    have c2 := (fun n => (ht.drewN n).c2)
    have c4 := (fun n => (ht.drewN n).c4)
    have cases3 : f = 0 ∨ f = 1 ∨ f = 2 := by omega
    rcases cases3 with rfl | rfl | rfl
    all_goals
      go_enter Tryd.func11, Tryd.ntmps11
      go_wp2_with fail
      refine (known_any _ _).mono ?_
      rintro e w' ⟨rfl, n, rfl⟩
      have c0' := c0 n
      have c2' := c2 n
      have c4' := c4 n
      go_wp2_with fail
      go_ret; exact ⟨rfl, below_drewN (Below.refl _ _) n⟩
  · have hz : Jn.bodySize f = 0 := by unfold Jn.bodySize; rw [if_neg (by omega), if_neg (by omega), if_neg (by omega)]
    rw [hz]
    go_enter Tryd.func11, Tryd.ntmps11
    go_wp2_with fail
    refine (known_any _ _).mono ?_
    rintro e w' ⟨rfl, n, rfl⟩
    rw [decide_eq_false h]
    go_wp2_with fail
    go_ret; exact ⟨rfl, below_drewN (Below.refl _ _) n⟩
theorem jn_equal_b (x y : Jn) (B : Bool) (h : jeq x y = B) (w : World) : (Op.equalIn 10000 24 (.agg (jnv x)) (.agg (jnv y))).run Tryd.prog w = .ok B w := by subst h; exact jn_equal x y w
theorem known_b (f : Int) (B : Bool) (h : decide (0 ≤ f ∧ f < 3) = B) (w : World) :
    Calls Tryd.prog 22 #[.int .i64 f] w fun e w' => e = .returned (.bool B) ∧ Below w.heap.size w w' := by
  subst h
  exact (known_any f w).mono fun e w' ⟨h1, n, h2⟩ => ⟨h1, by rw [h2]; exact below_drewN (Below.refl _ _) n⟩
theorem frn_zero (x : Jn) (h : x.form = 0 ∨ x.form = 1 ∨ x.form = 2) : frn x = Jn.zero ↔ ((x.form = 1 → x.token = 0) ∧ (x.form = 2 → x.backup = false ∧ x.id = 0 ∧ x.token = 0 ∧ x.nonce = 0)) := by
  obtain ⟨form, backup, id, token, nonce, mac⟩ := x
  rcases h with h | h | h
  all_goals (have h : form = _ := h; subst h; simp [frn, Jn.zero])
end Go.Proofs.YthnokkcpmikajaaDoor
