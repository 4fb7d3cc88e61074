/-
  The map that package addr lays anew at each call: what it holds, what is found in it. By the walk of partsBySize.
-/
import Derived.Test.YtcofdiamlmlhfaaAddrWalks
import Derived.Maps.OwnSet
namespace Go.Proofs.Ytcofdiamlmlhfaa
open Go.ChangeShapes Go.WideShapes Go.ChangeAt Go.RowKit Go.Maps
set_option linter.unusedVariables false

/-- An entry of a map's literal is stored as any other one. -/
theorem insert_as {P : Program} {w : World} {ops : Array Oper} {rest : List Oper} {o : Oper} {a : Act} {Q : Exit → Act → World → Prop} (t : TypeId) (m x v : Operand) (hop : o.op = Op.insert t m x v) (h : wpList P ops Q ({ o with op := Op.mapUpdate t m x v } :: rest) a w) : wpList P ops Q (o :: rest) a w := by
  obtain ⟨dst, op, type, pos, after, guard⟩ := o
  have hop : op = Op.insert t m x v := hop
  subst hop
  exact h
/-- The sizes of a body's parts, as a struct; how that reads. -/
abbrev part (a p m : Int) : Value := .agg #[.int .i64 a, .int .i64 p, .int .i64 m]
abbrev partD (a p m : Int) : DataW Unit := .agg [.lit (.int .i64 a), .lit (.int .i64 p), .lit (.int .i64 m)]
def partR : Value → Option (DataW Unit × List MemPlace)
  | .agg ⟨[.int .i64 a, .int .i64 p, .int .i64 m]⟩ => some (partD a p m, [])
  | _ => none
theorem partR_mk (a p m : Int) : partR (part a p m) = some (partD a p m, []) := rfl
theorem partR_inv {v : Value} {z : DataW Unit × List MemPlace} (h : partR v = some z) : ∃ a p m, v = part a p m ∧ z = (partD a p m, []) := by
  unfold partR at h
  split at h
  · rename_i a p m
    cases h; exact ⟨a, p, m, rfl, rfl⟩
  · cases h
theorem keys_int : Keyed Try.prog 3 := int_keyed Try.underlying3
theorem zero_parts (w : World) : (zeroValue 61).run Try.prog w = .ok (part 0 0 0) w := by kernel_rfl
abbrev ent (n a p m : Int) (D : DataW Unit) : DataW Unit := D.put (.int .i64 n) (partD a p m)
/-- All that the map holds. -/
def tableD : DataW Unit := ent 28 16 2 8 (ent 26 16 0 8 (ent 20 16 2 0 (ent 18 16 0 0 (ent 16 4 2 8 (ent 14 4 0 8 (ent 8 4 2 0 (ent 6 4 0 0 (.map []))))))))
/-- The sizes of the Ip, the Port and the Mac, by a body's, and whether there are such. -/
def sizes (n : Nat) : (Nat × Nat × Nat) × Bool := if n = 6 then ((4, 0, 0), true) else if n = 8 then ((4, 2, 0), true) else if n = 14 then ((4, 0, 8), true) else if n = 16 then ((4, 2, 8), true) else if n = 18 then ((16, 0, 0), true) else if n = 20 then ((16, 2, 0), true) else if n = 26 then ((16, 0, 8), true) else if n = 28 then ((16, 2, 8), true) else ((0, 0, 0), false)
theorem table_at (n : Nat) : tableD.atKey (.int .i64 (n : Int)) (partD 0 0 0) = partD ((sizes n).1.1 : Int) ((sizes n).1.2.1 : Int) ((sizes n).1.2.2 : Int) ∧ Maps.has tableD (.int .i64 (n : Int)) = (sizes n).2 := by
  by_cases h6 : n = 6
  · subst h6; exact ⟨rfl, rfl⟩
  by_cases h8 : n = 8
  · subst h8; exact ⟨rfl, rfl⟩
  by_cases h14 : n = 14
  · subst h14; exact ⟨rfl, rfl⟩
  by_cases h16 : n = 16
  · subst h16; exact ⟨rfl, rfl⟩
  by_cases h18 : n = 18
  · subst h18; exact ⟨rfl, rfl⟩
  by_cases h20 : n = 20
  · subst h20; exact ⟨rfl, rfl⟩
  by_cases h26 : n = 26
  · subst h26; exact ⟨rfl, rfl⟩
  by_cases h28 : n = 28
  · subst h28; exact ⟨rfl, rfl⟩
  have hs : sizes n = ((0, 0, 0), false) := by unfold sizes; simp only [h6, h8, h14, h16, h18, h20, h26, h28, if_false]
  have ne : ∀ k : Int, (n : Int) ≠ k → (Lit.int .i64 (n : Int)) ≠ .int .i64 k := fun k h e => by
    injection e with _ e; exact h e
  rw [hs]
  unfold tableD ent
  constructor
  · rw [atKey_put_other (ne 28 (by omega)), atKey_put_other (ne 26 (by omega)), atKey_put_other (ne 20 (by omega)), atKey_put_other (ne 18 (by omega)), atKey_put_other (ne 16 (by omega)), atKey_put_other (ne 14 (by omega)), atKey_put_other (ne 8 (by omega)), atKey_put_other (ne 6 (by omega))]; rfl
  · rw [has_put_other (ne 28 (by omega)), has_put_other (ne 26 (by omega)), has_put_other (ne 20 (by omega)), has_put_other (ne 18 (by omega)), has_put_other (ne 16 (by omega)), has_put_other (ne 14 (by omega)), has_put_other (ne 8 (by omega)), has_put_other (ne 6 (by omega))]; rfl
/-- Block b is the map. -/
def TabB (w : World) (b : Nat) : Prop := w.ownsMap Try.prog 3 partR b 8 tableD
/-- What is found there. -/
theorem TabB.look {w : World} {b : Nat} (h : TabB w b) (n : Nat) (hn : n ≤ 9223372036854775807) :
    (Instr.lookup 63 (.map (some b)) (.int .i64 (n : Int)) true).run Try.prog w = .ok (.tuple #[part ((sizes n).1.1 : Int) ((sizes n).1.2.1 : Int) ((sizes n).1.2.2 : Int), .bool (sizes n).2]) w := by
  obtain ⟨v, ps, hrun, hv⟩ := World.ownsMap.look_ok h keys_int Try.underlying63 (zero_parts w) (partR_mk 0 0 0) (keyOf_int_mk Try.underlying3 (a := (n : Int)) (WalkArith.wf_i64 (by omega)))
  obtain ⟨a, p, m, rfl, hz⟩ := partR_inv hv
  obtain ⟨t1, t2⟩ := table_at n
  rw [t1] at hz
  rw [hrun, t2]
  simp only [Prod.mk.injEq, DataW.agg.injEq, List.cons.injEq, DataW.lit.injEq, Lit.int.injEq, true_and, and_true] at hz
  obtain ⟨⟨e0, e1, e2⟩, _⟩ := hz
  rw [e0, e1, e2]
set_option maxHeartbeats 1000000 in
set_option maxRecDepth 100000 in
theorem partsBySize_any (w : World) :
    Calls Try.prog 31 #[] w fun e w' => e = .returned (.map (some w.heap.size)) ∧ TabB w' w.heap.size ∧ Below w.heap.size w w' := by
  have hmm := @run_makeMap Try.prog
  have keys := keys_int
  have hown := World.ownsMap_made w Try.prog 3 partR
  have hbel := (Below.refl _ w).alloc (Nat.le_refl _) (.map #[] 0)
  go_enter Try.func31, Try.ntmps31
  go_wp2_with (refine insert_as _ _ _ _ rfl ?_; refine wpList_mapUpdate_own _ rfl _ _ _ 63 rfl 3 61 keys Try.underlying63 partR w.heap.size _ _ rfl hown (by unfold maxLen; omega) _ _ _ rfl rfl (keyOf_int_mk Try.underlying3 (by decide)) _ [] (partR_mk _ _ _) ?_; intro w1 hown1 hgrow1; replace hbel := hbel.grown hgrow1 hbel.size (fun j hj => by cases hj; exact Nat.le_refl _); replace hown := hown1; clear hown1 hgrow1)
  go_ret
  exact ⟨rfl, hown, hbel⟩
end Go.Proofs.Ytcofdiamlmlhfaa
