/-
  What Walk answers, of any text.
-/
import Derived.Test.YtlmbccgldigihaaAreaIter
import Derived.Maps.AppendAt
import Derived.RegionTactic
import Derived.WalkMore
import Derived.Deep.AppendLies
namespace Go.Proofs.Ytlmbccgldigihaa
open Go.RowKit Go.Shelf
set_option linter.unusedVariables false
attribute [local go_sem] Oper.semAt_some

/-- The items among what was handed over. -/
def sel (l : List Ev) : List It := (l.filter fun e => decide (e.1.1 ≠ 1)).map (·.1)
/-- Nothing of it is an end, or a fault. -/
def Clean (l : List Ev) : Prop := ∀ e ∈ l, e.2 = (0, 0) ∧ e.1.1 ≠ 0
theorem fold_clean : ∀ (p : List Ev) (acc : List It) (r : List Ev), Clean p → fold acc (p ++ r) = fold (acc ++ sel p) r
  | [], acc, r, _ => by simp [sel]
  | e :: p, acc, r, h => by
    obtain ⟨h1, h2⟩ := h e (by simp)
    have hp : Clean p := fun x hx => h x (by simp [hx])
    rw [List.cons_append, fold, if_neg (by simp [h1]), if_neg h2]
    by_cases h3 : e.1.1 = 1
    · rw [if_pos h3, fold_clean p _ _ hp]; simp [sel, h3]
    · rw [if_neg h3, fold_clean p _ _ hp]; simp [sel, h3]
theorem sel_snoc (p : List Ev) (x : Ev) (h : x.1.1 ≠ 1) : sel (p ++ [x]) = sel p ++ [x.1] := by simp [sel, h]
theorem sel_skip (p : List Ev) (x : Ev) (h : x.1.1 = 1) : sel (p ++ [x]) = sel p := by simp [sel, h]
theorem sel_length (p : List Ev) : (sel p).length ≤ p.length := by simp [sel]; exact List.length_filter_le _ _
theorem Clean.snoc {p : List Ev} {x : Ev} (h : Clean p) (h1 : x.2 = (0, 0)) (h2 : x.1.1 ≠ 0) : Clean (p ++ [x]) := fun e he => by
  simp at he
  rcases he with he | rfl
  · exact h e he
  · exact ⟨h1, h2⟩

/-- Inside the widest fence a scope and a label go as they go without one. -/
theorem wide_scope {n : Nat} {P : Program} {c : Code} {Q : Exit → Act → World → Prop} {a : Act} {w : World} (h : c.wpIn Fence.wide n P (Exit.noGoto Q) a w) : (Code.scope c).wpIn Fence.wide n P Q a w := wpIn_wide.2 (wp_scope_straight (wpIn_wide.1 h))
theorem wide_label {n : Nat} {P : Program} {l : Nat} {Q : Exit → Act → World → Prop} {a : Act} {w : World} (h : Q .normal a w) : (Code.label l).wpIn Fence.wide n P Q a w := wpIn_wide.2 (wp_label h)

theorem info24 : (Try.prog.info? 24).map (fun i => (i.zero, i.size, i.bytes)) = some (some (.agg #[.int .i64 0, .string ⟨#[]⟩]), 2, 24) := by kernel_rfl

/-- What Walk gives back. -/
def Walked (R : List It × Int) (w : World) (e : Ending) (w' : World) : Prop := ∃ v, e = .returned (.tuple #[v, .int .i64 R.2]) ∧ Row w' v R.1 ∧ Below w.heap.size w w'

theorem Walk_bad (s : ByteArray) (c : Int) (w : World) (hs : s.size ≤ 140737488355328) (h : read s = ([], c)) (hc : 40 < s.size ∨ s.size % 4 ≠ 0) :
    Calls Try.prog 13 #[.string s] w (Walked ([], c) w) := by
  have hB : Below w.heap.size w ((w.alloc (.cells #[.slice none 0 0] 22)).alloc (.cells #[.int .i64 c] 25)) := below_more (below_more (Below.refl _ _) _) _
  by_cases h40 : 40 < s.size
  · have e : c = 6 := by unfold read at h; rw [if_pos h40] at h; simpa using h.symm
    subst e
    have HB := Lib.hid hB
    clear h hc hB
    go_enter Try.func13, Try.ntmps13
    go_wp2
    go_step3
    go_wp2
    rw [Exit.noGoto_ret]
    exact bodyPost_ret (v := .tuple #[.slice none 0 0, .int .i64 6]) (by simp [results, Try.results13, go_sem]) rfl ⟨_, rfl, Row.nil _ _, HB.out⟩
  · have h4 : s.size % 4 ≠ 0 := by omega
    have e : c = 5 := by unfold read at h; rw [if_neg h40, if_pos h4] at h; simpa using h.symm
    subst e
    have HB := Lib.hid hB
    have h4' : ((s.size : Int) % 4 != 0) = true := by simp; omega
    clear h hc hB h4
    go_enter Try.func13, Try.ntmps13
    go_wp2
    go_step3
    go_wp2
    rw [Exit.noGoto_ret]
    exact bodyPost_ret (v := .tuple #[.slice none 0 0, .int .i64 5]) (by simp [results, Try.results13, go_sem]) rfl ⟨_, rfl, Row.nil _ _, HB.out⟩

/-- What holds between two rounds: the items so far, in the slice in block n + 2; the results as they were; the text in block n + 3. -/
def Mid (w : World) (s : ByteArray) (pre : List Ev) (W : World) : Prop :=
  (∃ v, Boxed W (w.heap.size + 1 + 1) 22 v ∧ W.ownsRow w.heap.size 24 2 v (sel pre).length (cellsOf (sel pre)) ∧ True) ∧
  ((Boxed W w.heap.size 22 (.slice none 0 0) ∧ Boxed W (w.heap.size + 1) 25 (.int .i64 0)) ∧ Boxed W (w.heap.size + 1 + 1 + 1) 9 (.string s)) ∧ (Below w.heap.size w W ∧ Clean pre)
def errOf (c : Code) (pre : List Ev) : Value := match c with
  | .ret => .int .i64 ((pre.getLast?.map (·.2.1)).getD 0)
  | _ => .int .i64 0
def Bad (c : Code) (pre : List Ev) : Prop := match c with
  | .ret => ∃ p x, pre = p ++ [x] ∧ Clean p ∧ x.2 ≠ (0, 0)
  | .exit id => id = 0 ∧ ∃ p x, pre = p ++ [x] ∧ Clean p ∧ x.2 = (0, 0) ∧ x.1.1 = 0
  | _ => False
/-- What holds where a round has left the loop. -/
def Out (w : World) (c : Code) (pre : List Ev) (W : World) : Prop :=
  (∃ v, Boxed W (w.heap.size + 1 + 1) 22 v ∧ W.ownsRow w.heap.size 24 2 v (sel pre.dropLast).length (cellsOf (sel pre.dropLast)) ∧ True) ∧
  (Boxed W w.heap.size 22 (.slice none 0 0) ∧ Boxed W (w.heap.size + 1) 25 (errOf c pre)) ∧ (Below w.heap.size w W ∧ Bad c pre)
theorem mid_own (w : World) (s : ByteArray) (B : Nat) (hB : w.heap.size ≤ B) : OwnFrom B (Mid w s) :=
  OwnFrom.and (Own.from (holdsRow_own w.heap.size (w.heap.size + 1 + 1) 22 24 2 (fun (pre : List Ev) => (sel pre).length) (fun (pre : List Ev) => cellsOf (sel pre)) (fun _ _ => True)) _)
    (OwnFrom.and (OwnFrom.and (OwnFrom.and (Own.from (boxed_own _ _ _) _) (Own.from (boxed_own _ _ _) _)) (Own.from (boxed_own _ _ _) _)) (OwnFrom.and (ownFrom_below (Nat.le_refl _) hB) (ownFrom_pure _ _)))
theorem out_own (w : World) (c : Code) (B : Nat) (hB : w.heap.size ≤ B) : OwnFrom B (Out w c) :=
  OwnFrom.and (Own.from (holdsRow_own w.heap.size (w.heap.size + 1 + 1) 22 24 2 (fun (pre : List Ev) => (sel pre.dropLast).length) (fun (pre : List Ev) => cellsOf (sel pre.dropLast)) (fun _ _ => True)) _)
    (OwnFrom.and (OwnFrom.and (Own.from (boxed_own _ _ _) _) (Own.from (boxed_own _ _ (fun pre => errOf c pre)) _)) (OwnFrom.and (ownFrom_below (Nat.le_refl _) hB) (ownFrom_pure _ _)))
theorem blk_own {B : Nat} {X Y : World} {row : Option Nat} {g : Nat} {t : TypeId} {cs : Array Value} (h : Blk X g t cs) (hg : X.grownBy Y row) (hr : ∀ r, row = some r → B ≤ r ∧ ∃ o : Obj, X.heap[r]? = some o ∧ o.isCells = false) : Blk Y g t cs :=
  h.grown hg fun e => by
    obtain ⟨_, o, ho, hc⟩ := hr g e.symm
    rw [show X.heap[g]? = _ from h] at ho; cases ho; cases hc
theorem Mid.alloc {w : World} {s : ByteArray} {pre : List Ev} {W : World} (h : Mid w s pre W) (o : Obj) : Mid w s pre (W.alloc o) := OwnFrom.alloc (mid_own w s _ (Nat.le_refl _)) o h
theorem Kpt.of {b : Nat} {t : TypeId} {v : Value} {W W' : World} (h : Boxed W b t v) (h' : Boxed W' b t v) : Kpt b W W' := (show W'.heap[b]? = _ from h').trans (show W.heap[b]? = _ from h).symm
/-- A fault: the results are set, and the loop is left. -/
theorem out_ret {w : World} {s : ByteArray} {pre : List Ev} {W : World} (x : Ev) (h : Mid w s pre W) (hx : x.2 ≠ (0, 0)) (B : Nat) :
    KeepsFrom B W ((W.setCell ⟨w.heap.size, 0, none⟩ (.slice none 0 0)).setCell ⟨w.heap.size + 1, 0, none⟩ (.int .i64 x.2.1)).drew ∧ Out w .ret (pre ++ [x]) ((W.setCell ⟨w.heap.size, 0, none⟩ (.slice none 0 0)).setCell ⟨w.heap.size + 1, 0, none⟩ (.int .i64 x.2.1)).drew := by
  obtain ⟨⟨v, bL, hO, _⟩, ⟨⟨bR, bE⟩, bS⟩, hB, hC⟩ := h
  have bE1 := bE.other (B' := w.heap.size) (by omega) (.slice none 0 0)
  have o1 := hO.kept (grownBy_setCell' W w.heap.size (.slice none 0 0)) (.inr (bR.not_row (by decide) hO).symm)
  have o2 := o1.kept (grownBy_setCell' _ (w.heap.size + 1) (.int .i64 x.2.1)) (.inr (bE1.not_row (by decide) o1).symm)
  refine ⟨((((KeepsOthers.setCell _ _ _).trans (KeepsOthers.setCell _ _ _)).trans (KeepsOthers.drew _)).from _), ⟨v, (bL.other (by omega) _).other (by omega) _, ?_, trivial⟩, ⟨(bR.set _).other (by omega) _, ?_⟩, ((hB.setCell (p := ⟨w.heap.size, 0, none⟩) (Nat.le_refl _) _).setCell (p := ⟨w.heap.size + 1, 0, none⟩) (by simp) _).drew, pre, x, rfl, hC, hx⟩
  · rw [List.dropLast_concat]; exact o2
  · have e : errOf .ret (pre ++ [x]) = .int .i64 x.2.1 := by simp [errOf]
    rw [e]; exact bE1.set _
theorem own_slice {w : World} {base : Nat} {e : TypeId} {size : Nat} {v : Value} {n : Nat} {xs : List Value} (h : w.ownsRow base e size v n xs) : ∃ p cap, v = .slice p n cap := by
  rcases h.2 with ⟨rfl, rfl⟩ | ⟨g, cap, _, rfl, _⟩
  · exact ⟨none, 0, rfl⟩
  · exact ⟨_, cap, rfl⟩
/-- The results, out of their cells. -/
theorem two_results (W : World) (tm : Array Value) (b : Nat) (v u : Value) (h2 : tm[2]?.getD undef = .pointer (some ⟨b, 0, none⟩)) (h3 : tm[3]?.getD undef = .pointer (some ⟨b + 1, 0, none⟩)) (c0 : Boxed W b 22 v) (c1 : Boxed W (b + 1) 25 u) :
    (results Try.f13 tm).run Try.prog W = .ok (.tuple #[v, u]) W := by
  have k0 := c0.cell
  have k1 := c1.cell
  simp [results, Try.results13, go_sem, h2, h3, k0, k1]

/-- The function's return, behind the loop. -/
theorem finish (w W : World) (D : Nat) (v : Value) (c : Int) (l : List It) (R : List It × Int) (hR : R = (l, c)) (hD : w.heap.size + 4 ≤ D) (bR : Boxed W w.heap.size 22 v) (bE : Boxed W (w.heap.size + 1) 25 (.int .i64 c)) (hO : W.ownsRow w.heap.size 24 2 v l.length (cellsOf l))
    (hB : Below w.heap.size w W) (hK : W.heap[D]? = some (.deferred (some []))) (tm : Array Value) (h2 : tm[2]?.getD undef = .pointer (some ⟨w.heap.size, 0, none⟩)) (h3 : tm[3]?.getD undef = .pointer (some ⟨w.heap.size + 1, 0, none⟩)) :
    Exit.noGoto (bodyPostM Fence.wide 8 Try.prog Try.f13 (Walked R w)) .ret { tmps := tm, defers := [{ target := .collected D, args := #[] }] } W := by
  subst hR
  rw [Exit.noGoto_ret]
  refine ⟨by simp, .inl ⟨_, _, rfl, run_takeDeferred hK, ?_⟩⟩
  refine ⟨_, two_results _ tm w.heap.size v (.int .i64 c) h2 h3 (bR.kept (grownBy_putObj' _ _ _) (fun e => by injection e; omega)) (bE.kept (grownBy_putObj' _ _ _) (fun e => by injection e; omega)), ?_⟩
  exact ⟨v, rfl, Row.of_own (ownsRow_putObj hO _ hK rfl) rfl, hB.trans (belowK_b (w := w) (Nat.le_refl _) W D _ _ (by omega) hK rfl rfl)⟩
/-- The results are set behind the loop. -/
theorem finish_set (w W : World) (D : Nat) (v : Value) (l : List It) (R : List It × Int) (hR : R = (l, 0)) (hD : w.heap.size + 4 ≤ D) (bR : Boxed W w.heap.size 22 (.slice none 0 0)) (bE : Boxed W (w.heap.size + 1) 25 (.int .i64 0)) (hO : W.ownsRow w.heap.size 24 2 v l.length (cellsOf l))
    (hB : Below w.heap.size w W) (hK : W.heap[D]? = some (.deferred (some []))) (tm : Array Value) (h2 : tm[2]?.getD undef = .pointer (some ⟨w.heap.size, 0, none⟩)) (h3 : tm[3]?.getD undef = .pointer (some ⟨w.heap.size + 1, 0, none⟩)) :
    Exit.noGoto (bodyPostM Fence.wide 8 Try.prog Try.f13 (Walked R w)) .ret { tmps := tm, defers := [{ target := .collected D, args := #[] }] } ((W.setCell ⟨w.heap.size, 0, none⟩ v).setCell ⟨w.heap.size + 1, 0, none⟩ (.int .i64 0)) := by
  have bE1 := bE.other (B' := w.heap.size) (by omega) v
  have o1 := hO.kept (grownBy_setCell' W w.heap.size v) (.inr (bR.not_row (by decide) hO).symm)
  have o2 := o1.kept (grownBy_setCell' _ (w.heap.size + 1) (.int .i64 0)) (.inr (bE1.not_row (by decide) o1).symm)
  exact finish w _ D v 0 l R hR hD ((bR.set _).other (by omega) _) (bE1.set _) o2 ((hB.setCell (p := ⟨w.heap.size, 0, none⟩) (Nat.le_refl _) _).setCell (p := ⟨w.heap.size + 1, 0, none⟩) (by simp) _) (((KeepsOthers.setCell _ _ _).trans (KeepsOthers.setCell _ _ _)).same D _ hK rfl) tm h2 h3

set_option maxHeartbeats 4000000 in
set_option maxRecDepth 100000 in
theorem Walk_in (s : ByteArray) (R : List It × Int) (w : World) (hs : s.size ≤ 40) (h4 : s.size % 4 = 0) (h : fold [] (evs 41 0 s.data.toList) = R) :
    CallsIn Fence.wide 8 Try.prog 13 #[.string s] w (Walked R w) := by
  have HH := Lib.hid h
  clear h
  have h4' : ((s.size : Int) % 4 != 0) = false := by simp; omega
  refine callsIn_of_wp_marks Try.func13 rfl trivial ?_ rfl
  simp only [Try.ntmps13, List.size_toArray, List.length_cons, List.length_nil, Nat.reduceAdd, Nat.reduceSub, Array.replicate_succ, Array.replicate_zero, List.push_toArray, List.append_toArray, List.nil_append, List.cons_append]
  gi_wp2
  refine wide_scope ?_
  gi_wp2
  refine wide_label ?_
  gi_wp2_with (refine ⟨trivial, ?_⟩; gi_at_call 22; refine (callsIn_wide.2 (items_any s _)).mono ?_; rintro e w' ⟨rfl, rfl⟩)
  have bR : Boxed ((((w.alloc (.cells #[.slice none 0 0] 22)).alloc (.cells #[.int .i64 0] 25)).alloc (.cells #[.slice none 0 0] 22)).alloc (.cells #[.string s] 9)) w.heap.size 22 (.slice none 0 0) := (((Boxed.new w 22 (.slice none 0 0)).alloc _).alloc _).alloc _
  have bE := ((Boxed.new (w.alloc (.cells #[.slice none 0 0] 22)) 25 (.int .i64 0)).alloc (.cells #[.slice none 0 0] 22)).alloc (.cells #[.string s] 9)
  have bL := (Boxed.new ((w.alloc (.cells #[.slice none 0 0] 22)).alloc (.cells #[.int .i64 0] 25)) 22 (.slice none 0 0)).alloc (.cells #[.string s] 9)
  have bS := Boxed.new (((w.alloc (.cells #[.slice none 0 0] 22)).alloc (.cells #[.int .i64 0] 25)).alloc (.cells #[.slice none 0 0] 22)) 9 (.string s)
  simp only [World.size_alloc] at bE bL bS
  have hB0 : Below w.heap.size w ((((w.alloc (.cells #[.slice none 0 0] 22)).alloc (.cells #[.int .i64 0] 25)).alloc (.cells #[.slice none 0 0] 22)).alloc (.cells #[.string s] 9)) := below_more (below_more (below_more (below_more (Below.refl _ _) _) _) _) _
  have hsz : ((((w.alloc (.cells #[.slice none 0 0] 22)).alloc (.cells #[.int .i64 0] 25)).alloc (.cells #[.slice none 0 0] 22)).alloc (.cells #[.string s] 9)).heap.size = w.heap.size + 4 := by simp
  obtain ⟨W0, hW0⟩ : ∃ W0, (((w.alloc (.cells #[.slice none 0 0] 22)).alloc (.cells #[.int .i64 0] 25)).alloc (.cells #[.slice none 0 0] 22)).alloc (.cells #[.string s] 9) = W0 := ⟨_, rfl⟩
  rw [hW0] at bR bE bL bS hB0 hsz ⊢
  clear hW0
  obtain ⟨E, hE⟩ : ∃ E, E = evs 41 0 s.data.toList := ⟨_, rfl⟩
  have HE := Lib.hid hE
  have HF : Hid (fold [] E = R) := Lib.hid (by rw [hE]; exact HH.out)
  clear hE HH
  obtain ⟨i0, hi, hz0, hz1, hz2⟩ := info_parts info24
  have HI := Lib.hid hi
  have HZ0 := Lib.hid hz0
  have HZ1 := Lib.hid hz1
  have HZ2 := Lib.hid hz2
  clear hi hz0 hz1 hz2
  have m0 : Mid w s [] W0 := ⟨⟨_, bL, World.ownsRow_nil _ _ _ _, trivial⟩, ⟨⟨bR, bE⟩, bS⟩, hB0, fun e he => by simp at he⟩
  have hcs := bS.cell
  refine wpIn_rangeFunc_ownH (α := Ev) (F := Fence.wide) (n := 8) rfl (by decide) (gf := 24) (lb := #[.pointer (some ⟨w.heap.size + 1 + 1 + 1, 0, none⟩)]) rfl trivial (enters_of Try.func24 (by kernel_rfl) rfl)
    (encs := encs) (Kp := Kpt (w.heap.size + 1 + 1 + 1)) (S := fun xs => xs = E) (Sp := fun pre => pre <+: E) (N := 41) (w0 := W0)
    (fun l J Jx W hW hJ hJx hY h0 => by
      rw [HE.out]
      exact items1_in 6 l (w.heap.size + 1 + 1 + 1) s hs J Jx W (fun pre V V' h g => hJ pre V V' none h g (fun r e => by cases e)) (fun pre V V' h g => hJx pre V V' none h g (fun r e => by cases e)) hY ((hW.cell (p := ⟨w.heap.size + 1 + 1 + 1, 0, none⟩) (by simp; omega)).trans hcs) h0)
    (fun h k => k.trans h) (fun W l o o' hl _ _ _ => World.putObj_heap_other (by omega)) (Below.refl _ _) (fun _ => rfl)
    (Mid w s) (Out w) (mid_own w s _ (by omega)) (fun c => out_own w c _ (by omega)) m0
    (fun x a' W => ∃ Bx, w.heap.size + 3 < Bx ∧ Blk W Bx 24 #[.int .i64 x.1.1, .string x.1.2] ∧ Blk W (Bx + 1) 54 #[.int .i64 x.2.1, .int .i64 x.2.2] ∧ a' = { tmps := #[Value.string s, undef, Value.pointer (some { block := w.heap.size, off := 0 }), Value.pointer (some { block := w.heap.size + 1, off := 0 }), Value.pointer (some { block := w.heap.size + 1 + 1, off := 0 }), .pointer (some ⟨Bx, 0, none⟩), .pointer (some ⟨Bx + 1, 0, none⟩), Value.string s, Value.int IntKind.i64 ↑s.size, Value.bool (decide ((40 : Int) < ↑s.size)), Value.string s, Value.int IntKind.i64 ↑s.size, Value.int IntKind.i64 (↑s.size % 4), Value.bool false, Value.string s, Value.func (Fn.func 24) #[] #[Value.pointer (some { block := w.heap.size + 1 + 1 + 1, off := 0 })], .agg #[.int .i64 x.1.1, .string x.1.2], .agg #[.int .i64 x.2.1, .int .i64 x.2.2], undef, undef, undef, undef, undef, undef, undef, undef, undef, undef, undef, undef, undef, undef, undef, undef, undef, undef, undef], defers := [] })
    (fun x a' _ X Y row hs' hg hr => by obtain ⟨Bx, h1, h2, h3, h4⟩ := hs'; exact ⟨Bx, h1, blk_own h2 hg hr, blk_own h3 hg hr, h4⟩)
    ?assign ?body ?done ?stop
  case assign =>
    clear bR bE bL bS hB0 m0 hcs
    rintro l pre x W K hi hK
    obtain ⟨⟨k, b⟩, c, n⟩ := x
    have HM := Lib.hid hi
    have HK := Lib.hid hK
    have hlt : w.heap.size + 3 < W.heap.size := hi.2.1.2.lt
    clear hi hK
    gi_wp2
    refine HK.out _ _ (((KeepsOthers.alloc _ _).trans (KeepsOthers.alloc _ _)).from _) ?_ ((HM.out.alloc _).alloc _) ⟨W.heap.size, hlt, (Blk.new W _ _).alloc _, ?_, rfl⟩
    · exact Kpt.of HM.out.2.1.2 ((HM.out.2.1.2.alloc _).alloc _)
    · have := Blk.new (W.alloc (.cells #[.int .i64 k, .string b] 24)) 54 #[.int .i64 c, .int .i64 n]
      rwa [World.size_alloc] at this
  case body =>
    clear bR bE bL bS hB0 m0 hcs
    rintro l pre x a' W hl ⟨r, hr⟩ hi ⟨Bx, hBx, bX, bY, rfl⟩ hlt
    obtain ⟨⟨k, b⟩, c, n⟩ := x
    simp only at bX bY ⊢
    have x0 := bX.cell 0
    have x1 := bX.cell 1
    have y0 := bY.cell 0
    have y1 := bY.cell 1
    have HM := Lib.hid hi
    have HX := Lib.hid bX
    have HY := Lib.hid bY
    have HR := Lib.hid hr
    obtain ⟨⟨v, bL, hO, _⟩, ⟨⟨bR, bE⟩, bS⟩, hB, hC⟩ := hi
    have HO := Lib.hid hO
    have HB := Lib.hid hB
    have HC := Lib.hid hC
    have HL := Lib.hid bL
    have HS := Lib.hid bS
    have hsl := sel_length pre
    have hlt' : W.heap.size ≥ w.heap.size := hB.size
    clear bX bY hr hO hB hC
    by_cases hf : c = 0 ∧ n = 0
    · obtain ⟨rfl, rfl⟩ := hf
      by_cases hk0 : k = 0
      · subst hk0
        gi_wp2
        exact ⟨KeepsFrom.refl _ _, ⟨v, bL, by rw [List.dropLast_concat]; exact HO.out, trivial⟩, ⟨bR, bE⟩, HB.out, rfl, pre, _, rfl, HC.out, rfl, rfl⟩
      · have kb : (k == 0) = false := by simpa using hk0
        by_cases hk1 : k = 1
        · subst hk1
          gi_wp2
          exact ⟨KeepsFrom.refl _ _, rfl, ⟨v, bL, by rw [sel_skip _ _ rfl]; exact HO.out, trivial⟩, ⟨⟨bR, bE⟩, bS⟩, HB.out, HC.out.snoc rfl hk0⟩
        · have kb1 : (k != 1) = true := by simpa using hk1
          have cL := bL.cell
          have hn24 : Hid (((sel pre).length + 1) * 24 ≤ 140737488355328) := Lib.hid (by omega)
          have HRE := Lib.hid (And.intro bR bE)
          clear bR bE
          gi_wp2_with (gi_at_builtin; refine wpListIn_append_own _ rfl _ _ 22 rfl w.heap.size 24 i0 (.agg #[.int .i64 0, .string ⟨#[]⟩]) 2 24 Try.underlying22 HI.out HZ0.out HZ1.out HZ2.out rfl (by decide) _ _ _ rfl (HO.out.alloc _) ⟨W.heap.size, 0, none⟩ 1 1 [.int .i64 k, .string b] rfl rfl (World.news_of_block (cs := #[.int .i64 k, .string b]) (t := 24) (fr := (0, 0)) (heap_alloc_new _ _)) (by simp [Value.oneCell']) (by unfold maxLen; omega) hn24.out (by simp; omega) ?_; intro v' w1 hown' hgrow _; obtain ⟨g', cap', rfl⟩ := ownsRow_succ hown'; have HA := Lib.hid (Boxed.appended HL.out (by decide) HO.out hlt' (by omega) hown' hgrow); have hc1 := HA.out.1.cell; have hf1 := HA.out.1.frozen; have HG := Lib.hid hgrow; clear hown' hgrow)
          have hkr : Boxed w1 (w.heap.size + 1 + 1 + 1) 9 (.string s) := (HS.out.alloc _).kept HG.out (HS.out.not_row (by decide) HO.out)
          have hke : Boxed w1 (w.heap.size + 1) 25 (.int .i64 0) := (HRE.out.2.alloc _).kept HG.out (HRE.out.2.not_row (by decide) HO.out)
          have hkl : Boxed w1 w.heap.size 22 (.slice none 0 0) := (HRE.out.1.alloc _).kept HG.out (HRE.out.1.not_row (by decide) HO.out)
          obtain ⟨q1, q2, q3, q4, q5⟩ := HA.out
          have hS2 := hkr.other (B' := w.heap.size + 1 + 1) (by omega) (.slice (some ⟨g', 0, none⟩) ((sel pre).length + 1) cap')
          exact ⟨q4.from _, Kpt.of HS.out hS2, ⟨_, q2, by rw [sel_snoc _ _ hk1, cellsOf_append, List.length_append]; exact q3, trivial⟩, ⟨⟨hkl.other (by omega) _, hke.other (by omega) _⟩, hS2⟩, HB.out.trans q5, HC.out.snoc rfl hk0⟩
    · have e0 := bR.cell
      have e1 := bE.cell
      have f0 := bR.frozen
      have f1 := bE.frozen
      have fo : Try.prog.follows Departure.mixedOrders = true := by kernel_rfl
      have hne : ((k, b), c, n).2 ≠ (0, 0) := fun e => hf (by simpa using e)
      have HN := Lib.hid hne
      clear hne bS bL
      by_cases hc0 : c = 0
      · subst hc0
        have hn0 : ¬ n = 0 := fun e => hf ⟨rfl, e⟩
        clear hf
        gi_wp2
        gi_region_o
        all_goals gi_wp2
        all_goals exact out_ret ((k, b), 0, n) HM.out HN.out _
      · clear hf
        gi_wp2
        gi_region_o
        all_goals gi_wp2
        all_goals exact out_ret ((k, b), c, n) HM.out HN.out _
  case done =>
    clear bR bE bL bS hB0 m0 hcs
    rintro D xs W hD hxs hi hK
    have HM := Lib.hid hi
    have HK := Lib.hid hK
    have HXS := Lib.hid hxs
    obtain ⟨⟨v, bL, hO, _⟩, ⟨⟨bR, bE⟩, bS⟩, hB, hC⟩ := hi
    obtain ⟨vp, vc, rfl⟩ := own_slice hO
    have cL := bL.cell
    have c0 := bR.cell
    have f0 := bR.frozen
    have c1 := bE.cell
    have f1 := bE.frozen
    clear bL hO bR bE bS hB hC hK hxs
    gi_wp2
    obtain ⟨⟨v, bL, hO, _⟩, ⟨⟨bR, bE⟩, bS⟩, hB, hC⟩ := HM.out
    have ev := Option.some.inj (cL.symm.trans bL.cell)
    subst ev
    have er : R = (sel xs, 0) := by
      have := fold_clean xs [] [] hC
      rw [List.append_nil, HXS.out, HF.out] at this
      rw [this, ← HXS.out]; rfl
    exact finish_set w W D _ (sel xs) R er (by omega) bR bE hO hB HK.out _ rfl rfl
  case stop =>
    clear bR bE bL bS hB0 m0 hcs
    rintro D c pre W hD hSp hx hK
    have HM := Lib.hid hx
    have HK := Lib.hid hK
    have HSP := Lib.hid hSp
    obtain ⟨⟨v, bL, hO, _⟩, ⟨bR, bE⟩, hB, hC⟩ := hx
    clear hK hSp
    cases c with
    | ret =>
      obtain ⟨p, x, rfl, hp, hx⟩ := hC
      have er : R = ([], x.2.1) := by
        obtain ⟨t, ht⟩ := HSP.out
        have := fold_clean p [] (x :: t) hp
        rw [show p ++ x :: t = E by rw [← ht]; simp, HF.out] at this
        rw [this, fold, if_pos hx]
      have e1 : errOf .ret (p ++ [x]) = .int .i64 x.2.1 := by simp [errOf]
      rw [e1] at bE
      have HBR := Lib.hid bR
      have HBE := Lib.hid bE
      have HB := Lib.hid hB
      have HER := Lib.hid er
      clear bR bE hB er hO bL e1 hx hp
      gi_wp2
      exact finish w W D _ x.2.1 [] R HER.out (by omega) HBR.out HBE.out (World.ownsRow_nil _ _ _ _) HB.out HK.out _ rfl rfl
    | exit id =>
      obtain ⟨rfl, p, x, rfl, hp, hx, hx0⟩ := hC
      rw [List.dropLast_concat] at hO
      have er : R = (sel p, 0) := by
        obtain ⟨t, ht⟩ := HSP.out
        have := fold_clean p [] (x :: t) hp
        rw [show p ++ x :: t = E by rw [← ht]; simp, HF.out] at this
        rw [this, fold, if_neg (by simp [hx]), if_pos hx0]; rfl
      obtain ⟨vp, vc, rfl⟩ := own_slice hO
      have cL := bL.cell
      have c0 := bR.cell
      have f0 := bR.frozen
      have c1 : W.cell? ⟨w.heap.size + 1, 0, none⟩ = some (.int .i64 0) := bE.cell
      have f1 := bE.frozen
      have HO := Lib.hid hO
      have HBR := Lib.hid bR
      have HBE := Lib.hid bE
      have HB := Lib.hid hB
      have HER := Lib.hid er
      clear bR bE hB er hO bL hx hp hx0 HM
      gi_wp2
      exact finish_set w W D _ (sel p) R HER.out (by omega) HBR.out HBE.out HO.out HB.out HK.out _ rfl rfl
    | _ => exact hC.elim

theorem Walk_any (s : ByteArray) (R : List It × Int) (w : World) (hs : s.size ≤ 140737488355328) (h : read s = R) : Calls Try.prog 13 #[.string s] w (Walked R w) := by
  by_cases hc : 40 < s.size ∨ s.size % 4 ≠ 0
  · obtain ⟨c, hr⟩ : ∃ c, read s = ([], c) := by
      unfold read
      by_cases h40 : 40 < s.size
      · rw [if_pos h40]; exact ⟨_, rfl⟩
      · rw [if_neg h40, if_pos (by omega)]; exact ⟨_, rfl⟩
    rw [← h, hr]; exact Walk_bad s c w hs hr hc
  · refine callsIn_wide.1 (Walk_in s R w (by omega) (by omega) ?_)
    rw [fold_evs, ← read_ok s (by omega) (by omega), h]
end Go.Proofs.Ytlmbccgldigihaa
