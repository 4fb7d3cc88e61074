/-
  AllOpt1, put together of OptAll, OptVar, OptSame, OptWorks, OptDraft, OptDraftO, OptOpen, OptShort.
-/
import Derived.Test.YtnlhhjhidkjlbaaGreatDoorAllOpt0
import Derived.Test.YtnlhhjhidkjlbaaGreatDoorAllArea
import Derived.Test.YtnlhhjhidkjlbaaGreatDoorAllBase
import Derived.Laws.IdiomArrays
import Derived.Laws.Slices
import Derived.Laws.IdiomStrings
import Derived.Laws.CopyOwn
import Derived.Test.YtnlhhjhidkjlbaaGreatDoorTie
import Derived.Test.YtnlhhjhidkjlbaaGreatDoorCards
import Derived.SevenTiedAt
import Derived.LaidMore
import Derived.LaidHandle
import Derived.Lib.LaidTab
import Derived.ProofKit
import Derived.OpenShut
import Derived.ShutString
import Derived.ChangeOld
import Derived.Below
import Derived.SizedLaws
import Derived.Stop.Joined
namespace Go.Proofs.YtnlhhjhidkjlbaaGreatDoor.L14
open Go Go.RowKit Go.ChangeAt
set_option linter.unusedVariables false
set_option linter.unusedSimpArgs false

/-- What an area's items are: few, and short. -/
theorem read_few (s : ByteArray) : (L4.read s).1.length ≤ 20 ∧ (∀ y ∈ (L4.read s).1, y.2.size ≤ 253) ∧ ((L4.read s).2 ≠ 0 → (L4.read s).1 = []) := by
  unfold L4.read
  split
  · exact ⟨Nat.zero_le _, fun y hy => absurd hy (by simp), fun _ => rfl⟩
  rename_i h40
  split
  · exact ⟨Nat.zero_le _, fun y hy => absurd hy (by simp), fun _ => rfl⟩
  cases e : L4.go 41 [] s.data.toList with
  | mk m c =>
    by_cases hc : c = 0
    · subst hc
      obtain ⟨l, hm, ha, hw⟩ := L4.go_back 41 [] m s.data.toList e
      rw [List.nil_append] at hm
      subst hm
      have := L4.length_le_wide m
      rw [len_data] at hw
      exact ⟨by show m.length ≤ 20; omega, fun y hy => ((L4.may_iff y).1 (List.all_eq_true.1 ha y hy)).2.2, fun h => absurd rfl h⟩
    · obtain ⟨hm, _⟩ := L4.go_bad 41 [] m s.data.toList c e hc
      subst hm
      exact ⟨Nat.zero_le _, fun y hy => absurd hy (by simp), fun _ => rfl⟩
theorem one_row (y : Op) : (cellsO [y]).toArray = ov y := by rw [cellsO_one, Array.toArray_toList]
theorem one_blk {U V : World} {X : Nat} (y : Op) (hX : X = V.heap.size) (hU : U = V.alloc (.cells (cellsO [y]).toArray 44)) : Blk U X 44 (ov y) := by
  rw [one_row] at hU
  subst hX; subst hU
  exact Blk.new _ _ _
theorem own_alloc {w V U : World} {v : Value} {l : List Op} {B : Nat} {o : Obj} (h : OwnO B V v l) (hU : U = V.alloc o) : OwnO B U v l := by subst hU; exact own_below h ((Below.refl _ V).alloc (Nat.le_refl _) _)
theorem bel_alloc {w V U : World} {o : Obj} (h : Below w.heap.size w V) (hU : U = V.alloc o) : Below w.heap.size w U := by subst hU; exact h.alloc h.size _
/-- What All gives back. -/
def Alls (R : List Op × Int) (w : World) (e : Ending) (w' : World) : Prop := ∃ v, e = .returned (.tuple #[v, .int .i64 R.2]) ∧ Rows_ w' v R.1 ∧ Below w.heap.size w w'
theorem row_at {w : World} {p : Option Addr} {len cap : Nat} {l : List L4.It} (h : L4.Row w (.slice p len cap) l) (j : Nat) (x : L4.It) (hx : l[j]? = some x) : ∃ ad, p = some ad ∧ w.cell? (ad.add (j * 2)) = some (.int .i64 x.1) ∧ w.cell? ⟨(ad.add (j * 2)).block, (ad.add (j * 2)).off + 1, none⟩ = some (.string x.2) := by
  obtain ⟨p', cap', hv, _, _, hc⟩ := h
  injection hv with e1 e2 e3
  subst e1
  obtain ⟨ad, hp, _, c0, c1⟩ := hc j x hx
  exact ⟨ad, hp, c0, c1⟩
set_option maxHeartbeats 2000000 in
set_option maxRecDepth 100000 in
theorem All_any (s : ByteArray) (hs : s.size ≤ 140737488355328) (R : List Op × Int) (hR : allO s = R) (w : World) (ht : L10.Tbl w) (hh : Hnd w) : Calls Tryz.prog 22 #[.string s] w (Alls R w) := by
  have HT := Lib.hid ht
  have HH := Lib.hid hh
  obtain ⟨⟨its, c0⟩, hI⟩ : ∃ q, q = L4.read s := ⟨_, rfl⟩
  obtain ⟨f1, f2, f3⟩ := read_few s
  rw [← hI] at f1 f2 f3
  have HF2 := Lib.hid f2
  have HF3 : Hid (c0 ≠ 0 → its = []) := Lib.hid f3
  have hl : its.length ≤ 20 := f1
  have HR := Lib.hid (show R = if c0 = 0 then keep its [] else ([], c0) by rw [← hR]; unfold allO; rw [← hI])
  have HI := Lib.hid hI.symm
  clear ht hh hI f1 f2 f3 hR
  go_enter Tryz.func22, Tryz.ntmps22
  go_wp2_with fail
  refine wp_scope_straight ?_
  go_wp2_with fail
  refine (L4.Walk_any s (its, c0) w hs HI.out).mono ?_
  rintro e W ⟨vi, rfl, hrow, b⟩
  have HB := Lib.hid b
  have HRW := Lib.hid hrow
  have HON := Lib.hid (show OwnO W.heap.size W (.slice none 0 0) [] from World.ownsRow_nil _ _ _ _)
  obtain ⟨p, cap, hv, hlc0, hcap, hrest⟩ := id hrow
  have hv : vi = .slice p its.length cap := hv
  have hlc : its.length ≤ cap := hlc0
  subst hv
  clear b hrow hrest hlc0
  have hl2 : (its.length : Int) ≤ 20 := by omega
  go_wp2_with fail
  refine wp_label ?_
  go_wp2_with fail
  go_loopw [5, 6, 18] (fun c z i wr => ∃ (j : Nat) (acc : List Op), j ≤ its.length ∧ acc.length ≤ j ∧ i = .int .i64 (j : Int) ∧ c = .int .i64 c0 ∧ keep (its.drop j) acc = keep its [] ∧ OwnO W.heap.size wr z acc ∧ Below W.heap.size W wr) (fun _ _ i _ => its.length - (intOf i).toNat)
  case atStart => exact ⟨0, [], Nat.zero_le _, Nat.zero_le _, rfl, rfl, rfl, HON.out, Below.refl _ _⟩
  case round =>
    obtain ⟨j, acc, hj, hac, rfl, rfl, hk, hz, hB2⟩ := hrel
    have hB := HB.out.trans (hB2.mono HB.out.size)
    have HZ2 := Lib.hid hz
    have HB2 := Lib.hid hB
    have HW2 := Lib.hid hB2
    have HK := Lib.hid hk
    clear hz hB hB2 hk HON
    by_cases hlt : j < its.length
    · obtain ⟨x, hx⟩ : ∃ x, its[j]? = some x := ⟨_, List.getElem?_eq_getElem hlt⟩
      have HX := Lib.hid hx
      obtain ⟨ad, hp, q0, q1⟩ := row_at (L4.Row.below HRW.out HW2.out) j x hx
      subst hp
      have g1 : (0 : Int) ≤ (j : Int) := by omega
      have g2 : (j : Int) < (its.length : Int) := by omega
      have HT2 := Lib.hid (HT.out.below HB2.out)
      have HH2 := Lib.hid (HH.out.below HB2.out)
      have HXS := Lib.hid (show x.2.size ≤ 9223372036854775807 from Nat.le_trans (HF2.out x (List.mem_of_getElem? HX.out)) (by decide))
      have HDR := Lib.hid (show its.drop j = x :: its.drop (j + 1) from by obtain ⟨_, h⟩ := List.getElem?_eq_some_iff.1 HX.out; rw [← h]; exact List.drop_eq_getElem_cons _)
      have HC0 := Lib.hid (show c0 = 0 from Classical.byContradiction fun n => by have := HF3.out n; rw [this] at hlt; exact absurd hlt (Nat.not_lt_zero _))
      clear hx
      obtain ⟨k, t⟩ := x
      simp only at q0 q1
      obtain ⟨⟨y, c⟩, hy⟩ : ∃ q, q = decO k t := ⟨_, rfl⟩
      have HY := Lib.hid hy.symm
      have HE := Lib.hid (show dcV k t = .tuple #[.agg (ov y), .int .i64 c] by unfold dcV; rw [← hy])
      clear hy
      go_upto_region 6 with (first
        | (refine wp_new rfl 53 rfl (itv (0, ⟨#[]⟩)) it_zero ?_; intro U X hX hU; have HN := Lib.hid (show Blk U X 53 (itv (0, ⟨#[]⟩)) ∧ Below wr.heap.size wr U ∧ wr.heap.size ≤ X by subst hX; subst hU; exact ⟨Blk.new _ _ _, (Below.refl _ wr).alloc (Nat.le_refl _) _, Nat.le_refl _⟩); clear hX hU)
        | (refine st_row rfl 53 _ _ rfl X rfl 53 (itv (0, ⟨#[]⟩)) (itv (k, t)) (by kernel_rfl) ?_ rfl (it_info _) (it_one _) ?_; exact HN.out.1; intro V g3 n3; have HM := Lib.hid n3; have HBV := Lib.hid (HN.out.2.1.trans (below_of_only g3 HN.out.2.2 HN.out.2.1.size)); clear g3 n3 HN))
      clear q0 q1
      go_wp2_with (refine wpList_load_row rfl 53 _ rfl X rfl 53 (itv (k, t)) (0, 0) _ ?_ Tryz.underlying53 rfl (it_info _) ?_; exact HM.out)
      refine (answer (Decode_any k t HXS.out V (HT2.out.below HBV.out) (HH2.out.below HBV.out)) HE.out).mono ?_
      rintro e W2 ⟨rfl, q⟩
      have HBW := Lib.hid (HBV.out.trans (q.mono HBV.out.size))
      clear q HBV HM
      go_upto_region 7 with (first
        | (refine wp_new rfl 44 rfl (ov (.none 0)) opt_zero ?_; intro U2 Y hX hU; have HN := Lib.hid (show Blk U2 Y 44 (ov (.none 0)) ∧ Below wr.heap.size wr U2 ∧ wr.heap.size ≤ Y by subst hX; subst hU; exact ⟨Blk.new _ _ _, HBW.out.alloc HBW.out.size _, HBW.out.size⟩); clear hX hU HBW)
        | (refine st_row rfl 44 _ _ rfl Y rfl 44 (ov (.none 0)) (ov y) rfl ?_ ((ov_size _).trans (ov_size _).symm) (ov_info _) (ov_one _) ?_; exact HN.out.1; intro V2 g3 n3; have HM := Lib.hid n3; have HBV := Lib.hid (HN.out.2.1.trans (below_of_only g3 HN.out.2.2 HN.out.2.1.size)); clear g3 n3 HN))
      have hb3 := HB2.out.trans (HBV.out.mono HB2.out.size)
      have hw3 := HW2.out.trans (HBV.out.mono HW2.out.size)
      have HB3 := Lib.hid hb3
      have HW3 := Lib.hid hw3
      have HO3 := Lib.hid (own_below HZ2.out HBV.out)
      clear hb3 hw3
      by_cases hc0 : c = 0
      · subst hc0
        have HK2 := Lib.hid (show keep (its.drop (j + 1)) (acc ++ [y]) = keep its [] from by rw [← HK.out, HDR.out]; exact (keep_0 (y := (k, t)) _ _ HY.out).symm)
        have hal : acc.length ≤ 100000 := by omega
        go_upto_region 10 with fail
        go_wp2_with (first
          | (refine ld_blk rfl _ rfl Y (by kernel_rfl) y HM.out ?_)
          | (refine wp_opts rfl 1 _ rfl [y] Nat.one_pos (Nat.le_of_ble_eq_true rfl) rfl (by kernel_rfl) ?_; intro U4 X4 hX hU; have HN4 := Lib.hid (And.intro (one_blk y hX hU) (And.intro (own_alloc (w := w) HO3.out hU) (bel_alloc HW3.out hU))); clear hX hU)
          | (at_builtin; refine app_opt rfl _ _ rfl W u6 acc y rfl HN4.out.2.1 HN4.out.2.2 X4 HN4.out.1 rfl hal ?_; intro v5 w5 o5 b5; have HO5 := Lib.hid o5; have HB5 := Lib.hid b5; clear o5 b5))
        exact ⟨⟨j + 1, acc ++ [y], by omega, by rw [List.length_append]; show acc.length + 1 ≤ j + 1; omega, by go_num, rfl, HK2.out, HO5.out, HB5.out⟩, by simp [intOf]; omega⟩
      · by_cases hc7 : c = 7
        · subst hc7
          have HK2 := Lib.hid (show keep (its.drop (j + 1)) acc = keep its [] from by rw [← HK.out, HDR.out]; exact (keep_7 (y := (k, t)) _ _ (congrArg Prod.snd HY.out)).symm)
          go_wp2_with fail
          go_roundw
          case rel => exact ⟨j + 1, acc, by omega, by omega, by go_num, rfl, HK2.out, HO3.out, HW3.out⟩
          case measure => simp [intOf]; omega
        · have HK2 := Lib.hid (show keep its [] = ([], c) from by rw [← HK.out, HDR.out]; exact keep_c (y := (k, t)) _ _ (congrArg Prod.snd HY.out) hc0 hc7)
          have HRR := Lib.hid (show R = ([], c) by rw [HR.out, if_pos HC0.out, HK2.out])
          go_wp2_with fail
          rw [Exit.noGoto_ret]
          refine L13.ret_two 2 3 _ _ rfl rfl rfl rfl ?_
          exact ⟨_, by rw [HRR.out]; rfl, by rw [HRR.out]; exact Rows_.nil _, HB3.out⟩
    · have hjl : j = its.length := by omega
      subst hjl
      have HKK := Lib.hid (show keep its [] = (acc, 0) from by rw [← HK.out, List.drop_of_length_le (Nat.le_refl _)]; rfl)
      have HRR := Lib.hid (show R = (acc, c0) by
        rw [HR.out]
        by_cases e : c0 = 0
        · rw [if_pos e, HKK.out, e]
        · have e2 := HF3.out e
          rw [if_neg e]
          have := HKK.out
          rw [e2] at this
          have e3 : [] = acc := congrArg Prod.fst this
          rw [e3])
      clear hlt
      go_wp2_with fail
      rw [Exit.noGoto_ret]
      refine L13.ret_two 2 3 _ _ rfl rfl rfl rfl ?_
      exact ⟨_, by rw [HRR.out]; rfl, by rw [HRR.out]; exact Rows_.of_own HZ2.out, HB2.out⟩
end Go.Proofs.YtnlhhjhidkjlbaaGreatDoor.L14
namespace Go.Proofs.YtnlhhjhidkjlbaaGreatDoor.L14
open Go Go.RowKit Go.ChangeAt
set_option linter.unusedVariables false
set_option linter.unusedSimpArgs false

section
variable {ops : Array Oper} {rest : List Oper} {op op2 : Oper} {a : Act} {w : World} {Q : Exit → Act → World → Prop}
theorem wpl_w {P : Program} (hw : Region.wanted op (yielded ops a.tmps) = true) (h : ∀ K : Act → World → Prop, (∀ a w, wpList P ops Q rest a w → K a w) → op.wp P a w K Q) : wpList P ops Q (op :: rest) a w :=
  wpList_step fun K hK => by rw [if_pos hw]; exact h K hK
theorem wpv {P : Program} (hw : Region.wanted op (yielded ops a.tmps) = true) (v : Value) (he : (execOp a.eval op).run P w = .ok (.value v) w) (h : wpList P ops Q rest (a.put op.dst v) w) : wpList P ops Q (op :: rest) a w :=
  wpl_w hw fun K hK => by unfold Oper.wp; rw [he]; exact hK _ _ h
/-- A variable made and laid at once. -/
theorem wp_var (T : TypeId) (h1 : op.guard = none) (ho : op.op = .alloc T) (t : Nat) (hd : op.dst = some t) (h2 : op2.guard = none) (y : Operand) (ho2 : op2.op = .store T (.tmp t) y) (zs cs : Array Value) (hz : ∀ w, (zeroValue T).run Tryz.prog w = .ok (.agg zs) w) (hx : ∀ p, (a.put (some t) p).eval (.tmp t) = p) (hy : ∀ p, (a.put (some t) p).eval y = .agg cs) (hs : cs.size = zs.size)
    (hi : (Tryz.prog.info? T).map (·.size) = some cs.size) (h1c : cs.all (·.oneCell') = true)
    (h : ∀ U X, Blk U X T cs → Below w.heap.size w U → w.heap.size ≤ X → wpList Tryz.prog ops Q rest ((a.put op.dst (.pointer (some ⟨X, 0, none⟩))).put op2.dst undef) U) : wpList Tryz.prog ops Q (op :: op2 :: rest) a w := by
  refine wp_new h1 T ho zs hz fun U X hX hU => ?_
  refine st_row h2 T _ y ho2 X (by rw [hd]; exact hx _) T zs cs (by rw [hd]; exact hy _) (by subst hX; subst hU; exact Blk.new _ _ _) hs hi h1c fun W' g n => ?_
  refine h W' X n ?_ (by omega)
  subst hX; subst hU
  exact ((Below.refl _ w).alloc (Nat.le_refl _) _).trans (below_of_only g (Nat.le_refl _) (by rw [World.size_alloc]; omega))
theorem wp_varO (h1 : op.guard = none) (ho : op.op = .alloc 44) (t : Nat) (hd : op.dst = some t) (h2 : op2.guard = none) (y : Operand) (ho2 : op2.op = .store 44 (.tmp t) y) (x : Op) (hx : ∀ p, (a.put (some t) p).eval (.tmp t) = p) (hy : ∀ p, (a.put (some t) p).eval y = .agg (ov x))
    (h : ∀ U X, Blk U X 44 (ov x) → Below w.heap.size w U → w.heap.size ≤ X → wpList Tryz.prog ops Q rest ((a.put op.dst (.pointer (some ⟨X, 0, none⟩))).put op2.dst undef) U) : wpList Tryz.prog ops Q (op :: op2 :: rest) a w :=
  wp_var _ h1 ho t hd h2 y ho2 (ov (.none 0)) (ov x) opt_zero hx hy ((ov_size _).trans (ov_size _).symm) (ov_info _) (ov_one _) h
theorem wp_varI (h1 : op.guard = none) (ho : op.op = .alloc 53) (t : Nat) (hd : op.dst = some t) (h2 : op2.guard = none) (y : Operand) (ho2 : op2.op = .store 53 (.tmp t) y) (x : L4.It) (hx : ∀ p, (a.put (some t) p).eval (.tmp t) = p) (hy : ∀ p, (a.put (some t) p).eval y = .agg (itv x))
    (h : ∀ U X, Blk U X 53 (itv x) → Below w.heap.size w U → w.heap.size ≤ X → wpList Tryz.prog ops Q rest ((a.put op.dst (.pointer (some ⟨X, 0, none⟩))).put op2.dst undef) U) : wpList Tryz.prog ops Q (op :: op2 :: rest) a w :=
  wp_var _ h1 ho t hd h2 y ho2 (itv (0, ⟨#[]⟩)) (itv x) it_zero hx hy rfl (it_info _) (it_one _) h
theorem ldO (hw : Region.wanted op (yielded ops a.tmps) = true) (x : Operand) (ho : op.op = .load 44 x) (g : Nat) (hx : a.eval x = .pointer (some ⟨g, 0, none⟩)) (y : Op) (hb : Blk w g 44 (ov y)) (h : wpList Tryz.prog ops Q rest (a.put op.dst (.agg (ov y))) w) : wpList Tryz.prog ops Q (op :: rest) a w :=
  wpv hw _ (exec_row_ 44 x ho g hx 44 (ov y) (0, 0) _ hb Tryz.underlying44 rfl (ov_info y)) h
theorem ldI (hw : Region.wanted op (yielded ops a.tmps) = true) (x : Operand) (ho : op.op = .load 53 x) (g : Nat) (hx : a.eval x = .pointer (some ⟨g, 0, none⟩)) (y : L4.It) (hb : Blk w g 53 (itv y)) (h : wpList Tryz.prog ops Q rest (a.put op.dst (.agg (itv y))) w) : wpList Tryz.prog ops Q (op :: rest) a w :=
  wpv hw _ (exec_row_ 53 x ho g hx 53 (itv y) (0, 0) _ hb Tryz.underlying53 rfl (it_info y)) h
theorem eqO (hw : Region.wanted op (yielded ops a.tmps) = true) (u : TypeId) (x y : Operand) (ho : op.op = .binOp .eql 44 x y u) (p q : Op) (hx : a.eval x = .agg (ov p)) (hy : a.eval y = .agg (ov q)) (B : Bool) (hB : B = true ↔ p = q) (h : wpList Tryz.prog ops Q rest (a.put op.dst (.bool B)) w) : wpList Tryz.prog ops Q (op :: rest) a w :=
  wpv hw _ (ex_aggeq 44 u x y ho (ov p) (ov q) hx hy (by kernel_rfl) B (opt_equal p q B hB w)) h
theorem neO (hw : Region.wanted op (yielded ops a.tmps) = true) (u : TypeId) (x y : Operand) (ho : op.op = .binOp .neq 44 x y u) (p q : Op) (hx : a.eval x = .agg (ov p)) (hy : a.eval y = .agg (ov q)) (B : Bool) (hB : B = true ↔ p = q) (h : wpList Tryz.prog ops Q rest (a.put op.dst (.bool (!B))) w) : wpList Tryz.prog ops Q (op :: rest) a w :=
  wpv hw _ (ex_aggne 44 u x y ho (ov p) (ov q) hx hy (by kernel_rfl) B (opt_equal p q B hB w)) h
theorem eqI (hw : Region.wanted op (yielded ops a.tmps) = true) (u : TypeId) (x y : Operand) (ho : op.op = .binOp .eql 53 x y u) (p q : L4.It) (hx : a.eval x = .agg (itv p)) (hy : a.eval y = .agg (itv q)) (B : Bool) (hB : B = true ↔ p = q) (h : wpList Tryz.prog ops Q rest (a.put op.dst (.bool B)) w) : wpList Tryz.prog ops Q (op :: rest) a w :=
  wpv hw _ (ex_aggeq 53 u x y ho (itv p) (itv q) hx hy (by kernel_rfl) B (item_equal p q B hB w)) h
theorem buildO (hw : Region.wanted op (yielded ops a.tmps) = true) (fs : Array (Nat × Operand)) (ho : op.op = .build 44 fs) (x : Op) (he : ∀ w, (execOp a.eval op).run Tryz.prog w = .ok (.value (.agg (ov x))) w) (h : wpList Tryz.prog ops Q rest (a.put op.dst (.agg (ov x))) w) : wpList Tryz.prog ops Q (op :: rest) a w := wpv hw _ (he w) h
theorem optsW (hw : Region.wanted op (yielded ops a.tmps) = true) (n : Nat) (parts : Array (Nat × Operand)) (ho : op.op = .buildSlice 67 n parts) (l : List Op) (h0 : 0 < l.length) (h1 : l.length ≤ 1000) (hn : n = l.length)
    (hp : (parts.map fun (i, x) => (i, a.eval x)).toList = ((l.map fun x => Value.agg (ov x)).zipIdx 0).map fun x => (x.2, x.1)) (h : ∀ U X, Rows_ U (.slice (some ⟨X, 0, none⟩) n n) l → Below w.heap.size w U → wpList Tryz.prog ops Q rest (a.put op.dst (.slice (some ⟨X, 0, none⟩) n n)) U) : wpList Tryz.prog ops Q (op :: rest) a w :=
  wpl_w hw fun K hK => by
    subst hn
    have he : (execOp a.eval op).run Tryz.prog w = .ok (.value (.slice (some ⟨w.heap.size, 0, none⟩) l.length l.length)) (w.alloc (.cells (cellsO l).toArray 44)) := by
      unfold execOp
      simp only [ho, Sem.run_bind, opts_built l h0 h1 _ hp w, Result.andThen_ok]
      rfl
    unfold Oper.wp; rw [he]
    exact hK _ _ (h _ _ (Rows_.of_blk _ _ rfl (Nat.le_refl _) (by omega) (Blk.new _ _ _)) ((Below.refl _ w).alloc (Nat.le_refl _) _))
end
set_option maxRecDepth 100000 in
theorem prio_any (b : Bool) (w : World) : Calls Tryz.prog 27 #[.bool b] w fun e w' => e = .returned (.agg (ov (Op.pr_ b))) ∧ Below w.heap.size w w' := by
  go_enter Tryz.func27, Tryz.ntmps27
  go_wp2_with (first
    | (refine wp_new rfl 44 rfl (ov (.none 0)) opt_zero ?_; intro U r hr hU; have HA := Lib.hid (show Blk U r 44 (ov (.none 0)) ∧ Below w.heap.size w U ∧ w.heap.size ≤ r by subst hr; subst hU; exact ⟨Blk.new _ _ _, (Below.refl _ w).alloc (Nat.le_refl _) _, Nat.le_refl _⟩); clear hr hU)
    | (refine buildO rfl _ rfl (Op.pr_ b) (by intro w; kernel_rfl) ?_)
    | (refine st_row rfl 44 _ _ rfl r rfl 44 (ov (.none 0)) (ov (Op.pr_ b)) rfl ?_ ((ov_size _).trans (ov_size _).symm) (ov_info _) (ov_one _) ?_; exact HA.out.1; intro W3 g3 n3; have H3 := Lib.hid n3; have B3 := Lib.hid (HA.out.2.1.trans (below_of_only g3 HA.out.2.2 HA.out.2.1.size)); clear g3 n3))
  exact ret_opt 2 (Op.pr_ b) rfl r rfl H3.out rfl ⟨rfl, B3.out⟩
set_option maxRecDepth 100000 in
theorem rst_any (f r0 : Int) (w : World) : Calls Tryz.prog 28 #[.int .i64 f, .int .i64 r0] w fun e w' => e = .returned (.agg (ov (Op.rs_ f r0))) ∧ Below w.heap.size w w' := by
  go_enter Tryz.func28, Tryz.ntmps28
  go_wp2_with (first
    | (refine wp_new rfl 44 rfl (ov (.none 0)) opt_zero ?_; intro U r hr hU; have HA := Lib.hid (show Blk U r 44 (ov (.none 0)) ∧ Below w.heap.size w U ∧ w.heap.size ≤ r by subst hr; subst hU; exact ⟨Blk.new _ _ _, (Below.refl _ w).alloc (Nat.le_refl _) _, Nat.le_refl _⟩); clear hr hU)
    | (refine buildO rfl _ rfl (Op.rs_ f r0) (by intro w; kernel_rfl) ?_)
    | (refine st_row rfl 44 _ _ rfl r rfl 44 (ov (.none 0)) (ov (Op.rs_ f r0)) rfl ?_ ((ov_size _).trans (ov_size _).symm) (ov_info _) (ov_one _) ?_; exact HA.out.1; intro W3 g3 n3; have H3 := Lib.hid n3; have B3 := Lib.hid (HA.out.2.1.trans (below_of_only g3 HA.out.2.2 HA.out.2.1.size)); clear g3 n3))
  exact ret_opt 4 (Op.rs_ f r0) rfl r rfl H3.out rfl ⟨rfl, B3.out⟩
/-- An item that is none of ours, for that. -/
theorem refused_t (k : Int) (s : ByteArray) (c : Int) (hs : s.size ≤ 9223372036854775807) (h : decO k s = (.zero, c)) (w : World) (ht : L10.Tbl w) (hh : Hnd w) : Calls Tryz.prog 38 #[.agg (itv (k, s)), .int .i64 c] w fun e w' => e = .returned (.bool true) ∧ Below w.heap.size w w' := by
  have HT := Lib.hid ht
  have HH := Lib.hid hh
  have HE := Lib.hid (show dcV k s = .tuple #[.agg (ov (.none 0)), .int .i64 c] by unfold dcV; rw [h]; rfl)
  clear ht hh h
  go_enter Tryz.func38, Tryz.ntmps38
  go_upto_region 1 with (refine wp_box rfl 53 _ rfl (itv (k, s)) rfl ?_; intro V b hb hU; have HA := Lib.hid (show Blk V b 53 (itv (k, s)) ∧ Below w.heap.size w V by subst hb; subst hU; exact ⟨Blk.new _ _ _, (Below.refl _ w).alloc (Nat.le_refl _) _⟩); clear hb hU)
  go_wp2_with (refine ldI rfl _ rfl b rfl (k, s) HA.out.1 ?_)
  refine (answer (Decode_any k s hs V (HT.out.below HA.out.2) (HH.out.below HA.out.2)) HE.out).mono ?_
  rintro e W ⟨rfl, q⟩
  have HB := Lib.hid (HA.out.2.trans (q.mono HA.out.2.size))
  clear q HA
  go_wp2_with (first
    | (refine wp_varO rfl rfl 5 rfl rfl _ rfl (.none 0) (fun _ => by kernel_rfl) (fun _ => by kernel_rfl) ?_; intro U X hb hB hx; have HX := Lib.hid hb; have HB2 := Lib.hid (HB.out.trans (hB.mono HB.out.size)); clear hb hB hx)
    | (refine ldO rfl _ rfl X rfl (.none 0) HX.out ?_)
    | (refine buildO rfl _ rfl (.none 0) (by intro w; kernel_rfl) ?_)
    | (refine eqO rfl _ _ _ rfl (.none 0) (.none 0) rfl rfl true ⟨fun _ => rfl, fun _ => rfl⟩ ?_))
  go_ret
  exact ⟨rfl, HB2.out⟩
end Go.Proofs.YtnlhhjhidkjlbaaGreatDoor.L14
namespace Go.Proofs.YtnlhhjhidkjlbaaGreatDoor.L14
open Go Go.RowKit Go.ChangeAt
set_option linter.unusedVariables false
set_option linter.unusedSimpArgs false

theorem place_o (g j n cap : Nat) (hj : j < n) (hn : n ≤ 100000) (w : World) : (Instr.indexAt 67 (.slice (some ⟨g, 0, none⟩) n cap) (.int .i64 (j : Int))).run Tryz.prog w = .ok (.pointer (some ⟨g, j * 38, none⟩)) w := by
  have e2 : (sizeOf (Tryz.prog.elem 67)).run Tryz.prog w = .ok 38 w := by kernel_rfl
  have hu : Tryz.prog.underlying 67 = some (.slice (Tryz.prog.elem 67)) := by kernel_rfl
  have e3 : (⟨g, 0, none⟩ : Addr).add (j * 38) = ⟨g, j * 38, none⟩ := L4.add_flat _ _
  rw [run_indexAt_slice w _ _ _ _ _ _ hu]
  simp [hj, go_sem, e2, e3, Result.andThen]
theorem ex_at {ρ : Operand → Value} {o : Oper} {w : World} (T : TypeId) (x y : Operand) (v u r : Value) (h : (Instr.indexAt T v u).run Tryz.prog w = .ok r w) (ho : o.op = .indexAddr T x y := by kernel_rfl) (hx : ρ x = v := by kernel_rfl) (hy : ρ y = u := by kernel_rfl) : (execOp ρ o).run Tryz.prog w = .ok (.value r) w := by
  unfold execOp
  rw [ho]
  simp [hx, hy, h]
theorem ex_ldo {ρ : Operand → Value} {o : Oper} {w : World} (x : Operand) (g k : Nat) (y : Op) (hr : w.rangeAt g k (ov y).toList) (ho : o.op = .load 44 x := by kernel_rfl) (hx : ρ x = .pointer (some ⟨g, k, none⟩) := by kernel_rfl) : (execOp ρ o).run Tryz.prog w = .ok (.value (.agg (ov y))) w := by
  have h := run_loadAt_mid (P := Tryz.prog) w g k 44 (ov y).toList _ hr Tryz.underlying44 rfl (by rw [Array.length_toList]; exact ov_info y)
  unfold execOp
  simp only [ho, hx, h, Sem.run_bind, Result.andThen_ok]
  simp
set_option maxHeartbeats 2000000 in
set_option maxRecDepth 100000 in
theorem Same_any (v u : Value) (l m : List Op) (hl : l.length ≤ 1000) (B : Bool) (hBB : B = true ↔ l = m) (w : World) (hr : Rows_ w v l) (hq : Rows_ w u m) : Calls Tryz.prog 24 #[v, u] w fun e w' => e = .returned (.bool B) ∧ Below w.heap.size w w' := by
  have HR := Lib.hid hr
  have HQ := Lib.hid hq
  have HBB := Lib.hid hBB
  obtain ⟨p, cap, hv, hlc, hcap, hc⟩ := hr
  obtain ⟨p', cap', hu, hlc', hcap', hc'⟩ := hq
  subst hv; subst hu
  clear hc hc' hBB
  by_cases hn : l.length = m.length
  · have hn1 : ((l.length : Int) != (m.length : Int)) = false := by simp; omega
    have HN := Lib.hid hn
    have hm1 : l.length ≤ m.length := by omega
    have hm2 : m.length ≤ 1000 := by omega
    clear hn
    go_enter Tryz.func24, Tryz.ntmps24
    go_wp2_with fail
    go_loopw [5] (fun i wr => ∃ j : Nat, j ≤ l.length ∧ i = .int .i64 (j : Int) ∧ l.take j = m.take j ∧ Below w.heap.size w wr) (fun i _ => l.length - (intOf i).toNat)
    case atStart => exact ⟨0, Nat.zero_le _, rfl, rfl, Below.refl _ _⟩
    case round =>
      obtain ⟨j, hj, rfl, ht, hW⟩ := hrel
      have HW := Lib.hid hW
      have HTK := Lib.hid ht
      clear hW ht
      by_cases hlt : j < l.length
      · obtain ⟨x, hx⟩ : ∃ x, l[j]? = some x := ⟨_, List.getElem?_eq_getElem hlt⟩
        obtain ⟨y, hy⟩ : ∃ y, m[j]? = some y := ⟨_, List.getElem?_eq_getElem (by omega)⟩
        have R1 := HR.out.below HW.out
        have R2 := HQ.out.below HW.out
        obtain ⟨g, rfl, hg, hra⟩ := R1.at j x hx
        obtain ⟨g', rfl, hg', hra'⟩ := R2.at j y hy
        have HRA := Lib.hid hra
        have HRB := Lib.hid hra'
        have HG := Lib.hid hg
        have HG' := Lib.hid hg'
        have HX := Lib.hid hx
        have HY := Lib.hid hy
        have HP := Lib.hid (show ∀ W : World, (Instr.indexAt 67 (.slice (some ⟨g, 0, none⟩) l.length cap) (.int .i64 (j : Int))).run Tryz.prog W = .ok (.pointer (some ⟨g, j * 38, none⟩)) W from fun W => place_o g j _ cap hlt (by omega) W)
        have HP' := Lib.hid (show ∀ W : World, (Instr.indexAt 67 (.slice (some ⟨g', 0, none⟩) m.length cap') (.int .i64 (j : Int))).run Tryz.prog W = .ok (.pointer (some ⟨g', j * 38, none⟩)) W from fun W => place_o g' j _ cap' (by omega) (by omega) W)
        have g2 : (j : Int) < (l.length : Int) := by omega
        clear hra hra' hg hg' hx hy R1 R2
        obtain ⟨E, hE⟩ : ∃ E : Bool, E = true ↔ x = y := ⟨@decide (x = y) (Classical.propDecidable _), by simp⟩
        have HE := Lib.hid hE
        clear hE
        go_upto_region 6 with fail
        refine hStart (n := 9) rfl ?_
        intro W0 B0
        refine stF 0 (.slice (some ⟨g, 0, none⟩) l.length cap) rfl B0 (stF 1 (.int .i64 (j : Int)) rfl B0 (stG 2 (.pointer (some ⟨g, j * 38, none⟩)) rfl B0 (fun W _ => ex_at 67 (.tmp 17) (.tmp 18) _ _ _ (HP.out W)) (stG 3 (.agg (ov x)) rfl B0 (fun W q => ex_ldo (.tmp 19) g (j * 38) x (fun i z hz => (World.cell?_of_block (a := ⟨g, j * 38 + i, none⟩) (q.block g HG.out)).trans (HRA.out i z hz))) (stF 4 (.slice (some ⟨g', 0, none⟩) m.length cap') rfl B0 (stF 5 (.int .i64 (j : Int)) rfl B0 (stG 6 (.pointer (some ⟨g', j * 38, none⟩)) rfl B0 (fun W _ => ex_at 67 (.tmp 21) (.tmp 22) _ _ _ (HP'.out W)) (stG 7 (.agg (ov y)) rfl B0 (fun W q => ex_ldo (.tmp 23) g' (j * 38) y (fun i z hz => (World.cell?_of_block (a := ⟨g', j * 38 + i, none⟩) (q.block g' HG'.out)).trans (HRB.out i z hz))) (stG 8 (.bool (!E)) rfl B0 (fun W _ => ex_aggne 44 44 (.tmp 20) (.tmp 24) (by kernel_rfl) (ov x) (ov y) (by kernel_rfl) (by kernel_rfl) (by kernel_rfl) E (opt_equal x y E HE.out W)) ?_))))))))
        have HW2 := Lib.hid (HW.out.trans (B0.mono HW.out.size))
        cases E with
        | true =>
          have hxy : x = y := HE.out.1 rfl
          refine held_end_at ⟨List.toArray (Value.slice (some ⟨g, 0, none⟩) l.length cap :: Value.slice (some ⟨g', 0, none⟩) m.length cap' :: undef :: undef :: u4 :: Value.int .i64 (j : Int) :: Value.slice (some ⟨g, 0, none⟩) l.length cap :: Value.int .i64 (l.length : Int) :: Value.slice (some ⟨g', 0, none⟩) m.length cap' :: Value.int .i64 (m.length : Int) :: Value.bool false :: Value.int .i64 (j : Int) :: Value.slice (some ⟨g, 0, none⟩) l.length cap :: Value.int .i64 (l.length : Int) :: Value.bool true :: u15 :: u16 :: Value.slice (some ⟨g, 0, none⟩) l.length cap :: Value.int .i64 (j : Int) :: Value.pointer (some ⟨g, j * 38, none⟩) :: Value.agg (ov x) :: Value.slice (some ⟨g', 0, none⟩) m.length cap' :: Value.int .i64 (j : Int) :: Value.pointer (some ⟨g', j * 38, none⟩) :: Value.agg (ov y) :: Value.bool false :: []), []⟩ (by kernel_rfl) (by kernel_rfl) ?_
          have HT2 := Lib.hid (show l.take (j + 1) = m.take (j + 1) by rw [L4.take_snoc_of l j x HX.out, L4.take_snoc_of m j y HY.out, HTK.out, hxy])
          clear hxy B0
          go_wp2_with fail
          go_roundw
          case rel => exact ⟨j + 1, by omega, by go_num, HT2.out, HW2.out⟩
          case measure => simp [intOf]; omega
        | false =>
          have hxy : ¬ x = y := fun h => absurd (HE.out.2 h) (by decide)
          refine held_end_at ⟨List.toArray (Value.slice (some ⟨g, 0, none⟩) l.length cap :: Value.slice (some ⟨g', 0, none⟩) m.length cap' :: undef :: undef :: u4 :: Value.int .i64 (j : Int) :: Value.slice (some ⟨g, 0, none⟩) l.length cap :: Value.int .i64 (l.length : Int) :: Value.slice (some ⟨g', 0, none⟩) m.length cap' :: Value.int .i64 (m.length : Int) :: Value.bool false :: Value.int .i64 (j : Int) :: Value.slice (some ⟨g, 0, none⟩) l.length cap :: Value.int .i64 (l.length : Int) :: Value.bool true :: u15 :: u16 :: Value.slice (some ⟨g, 0, none⟩) l.length cap :: Value.int .i64 (j : Int) :: Value.pointer (some ⟨g, j * 38, none⟩) :: Value.agg (ov x) :: Value.slice (some ⟨g', 0, none⟩) m.length cap' :: Value.int .i64 (j : Int) :: Value.pointer (some ⟨g', j * 38, none⟩) :: Value.agg (ov y) :: Value.bool true :: []), []⟩ (by kernel_rfl) (by kernel_rfl) ?_
          have HLM := Lib.hid (show B = false by
            cases B with
            | false => rfl
            | true =>
              have e := HBB.out.1 rfl
              have e1 := HX.out
              rw [e, HY.out] at e1
              exact absurd (Option.some.inj e1).symm hxy)
          clear hxy B0
          go_wp2_with fail
          go_ret
          exact ⟨by rw [HLM.out]; rfl, HW2.out⟩
      · obtain rfl : j = l.length := by omega
        have HLM := Lib.hid (show B = true from HBB.out.2 (by have := HTK.out; rw [List.take_length, HN.out, List.take_length] at this; exact this))
        go_wp2_with fail
        go_ret
        exact ⟨by rw [HLM.out]; rfl, HW.out⟩
  · have hn1 : ((l.length : Int) != (m.length : Int)) = true := by simp; omega
    have HLM := Lib.hid (show B = false by
      cases B with
      | false => rfl
      | true => exact absurd (congrArg List.length (HBB.out.1 rfl)) hn)
    clear hn
    go_enter Tryz.func24, Tryz.ntmps24
    go_wp2_with fail
    go_ret
    exact ⟨by rw [HLM.out]; rfl, Below.refl _ _⟩
end Go.Proofs.YtnlhhjhidkjlbaaGreatDoor.L14
namespace Go.Proofs.YtnlhhjhidkjlbaaGreatDoor.L14
open Go Go.RowKit Go.ChangeAt
set_option linter.unusedVariables false
set_option linter.unusedSimpArgs false

def oddO : Op := { Op.pr_ false with fa := 1 }
theorem odd_not : ¬ MayO oddO := fun m => absurd (congrArg Op.fa m.2) (show ¬ (0 : Nat) = 1 by decide)
theorem odd_ok : oddO.Ok := by
  have z := Op.zero_ok
  exact ⟨sb 5 (by decide), z.cap, z.jn, z.ds, z.ad, z.rm, by decide, z.fs, z.rf, z.rr⟩
theorem pr_ok (b : Bool) : (Op.pr_ b).Ok := by
  have z := Op.zero_ok
  exact ⟨sb 5 (by decide), z.cap, z.jn, z.ds, z.ad, z.rm, z.fa, z.fs, z.rf, z.rr⟩
theorem rs_ok : (Op.rs_ 1 2).Ok := by
  have z := Op.zero_ok
  exact ⟨sb 8 (by decide), z.cap, z.jn, z.ds, z.ad, z.rm, z.fa, z.fs, by decide, by decide⟩
theorem pr_may (b : Bool) : MayO (Op.pr_ b) := ⟨rfl, rfl⟩
theorem rs_may : MayO (Op.rs_ 1 2) := ⟨rfl, rfl⟩
theorem encE_pr (b : Bool) : encV (Op.pr_ b) = .tuple #[.agg (itv (30, L13.prioT b)), .int .i64 0] := by unfold encV; rw [encO_t (pr_may b)]; rfl
theorem enc_odd : encV oddO = .tuple #[.agg (itv (0, ⟨#[]⟩)), .int .i64 2] := by unfold encV; rw [encO_f odd_not]
theorem decE_pr (b : Bool) : dcV 30 (L13.prioT b) = .tuple #[.agg (ov (Op.pr_ b)), .int .i64 0] := by
  unfold dcV
  rw [show decO 30 (L13.prioT b) = (Op.pr_ b, 0) from may_dec (pr_ok b) (pr_may b)]
theorem pr_text : L13.prioT true = ⟨#[81]⟩ := rfl
theorem lay_two : layO [Op.pr_ false, Op.rs_ 1 2] = (⟨#[30, 3, 80, 30, 4, 129, 2, 0]⟩, 0) := by
  rw [layO_t (fun x hx => by
    rcases List.mem_cons.1 hx with h | hx
    · rw [h]; exact pr_may false
    · rw [List.mem_singleton.1 hx]; exact rs_may)]
  kernel_rfl
theorem all_one : allO ⟨#[30, 3, 144, 30, 3, 81, 1, 0]⟩ = ([Op.pr_ true], 0) := by kernel_rfl
theorem all_none : allO ⟨#[30, 4, 80, 0]⟩ = ([], 5) := by kernel_rfl
theorem two_ok : ∀ x ∈ [Op.pr_ false, Op.rs_ 1 2], x.Ok := fun x hx => by
  rcases List.mem_cons.1 hx with h | hx
  · rw [h]; exact pr_ok false
  · rw [List.mem_singleton.1 hx]; exact rs_ok
theorem ref_31 : decO 31 ⟨#[81]⟩ = (.zero, 7) := by kernel_rfl
theorem ref_none : decO 30 ⟨#[]⟩ = (.zero, 4) := by kernel_rfl
theorem ref_144 : decO 30 ⟨#[144]⟩ = (.zero, 7) := by kernel_rfl
set_option maxHeartbeats 2000000 in
set_option maxRecDepth 100000 in
theorem works_t (w : World) (ht : L10.Tbl w) (hh : Hnd w) : Calls Tryz.prog 16 #[] w fun e w' => e = .returned (.bool true) ∧ Below w.heap.size w w' := by
  have HT := Lib.hid ht
  have HH := Lib.hid hh
  clear ht hh
  go_enter Tryz.func16, Tryz.ntmps16
  go_wp2_with fail
  refine (prio_any true w).mono ?_
  rintro e U1 ⟨rfl, q⟩
  have HB_1 := Lib.hid (q)
  clear q
  go_wp2_with fail
  refine (answer (Encode_any _ (pr_ok true) U1 (HT.out.below HB_1.out) (HH.out.below HB_1.out)) (v' := .tuple #[.agg (itv (30, L13.prioT true)), .int .i64 0]) (encE_pr true)).mono ?_
  rintro e U2 ⟨rfl, q⟩
  have HB_2 := Lib.hid (HB_1.out.trans (q.mono HB_1.out.size))
  clear q
  go_upto_region 2 with (refine wp_varI rfl rfl 1 rfl rfl _ rfl (30, L13.prioT true) (fun _ => by kernel_rfl) (fun _ => by kernel_rfl) ?_; intro V3 Xi1 hb hB hx; have Hi1_3 := Lib.hid hb; have Gi1 := Lib.hid (Nat.le_trans HB_2.out.size hx); have HB_3 := Lib.hid (HB_2.out.trans (hB.mono HB_2.out.size)); clear hb hB hx)
  go_wp2_with fail
  refine (prio_any false V3).mono ?_
  rintro e U4 ⟨rfl, q⟩
  have HB_4 := Lib.hid (HB_3.out.trans (q.mono HB_3.out.size))
  have Hi1_4 := Lib.hid (Hi1_3.out.below q Hi1_3.out.lt)
  clear q
  go_upto_region 3 with (refine wp_varO rfl rfl 3 rfl rfl _ rfl (Op.pr_ false) (fun _ => by kernel_rfl) (fun _ => by kernel_rfl) ?_; intro V5 Xo3 hb hB hx; have Ho3_5 := Lib.hid hb; have Go3 := Lib.hid (Nat.le_trans HB_4.out.size hx); have HB_5 := Lib.hid (HB_4.out.trans (hB.mono HB_4.out.size)); have Hi1_5 := Lib.hid (Hi1_4.out.below hB Hi1_4.out.lt); clear hb hB hx)
  have c34 : V5.cell? ⟨Xo3, 34, none⟩ = some (.int .u64 0) := (Ho3_5.out.cell 34).trans (by kernel_rfl)
  have f34 := Ho3_5.out.frozen 34
  obtain ⟨Y3, hY⟩ : ∃ Y, Y = V5.setCell ⟨Xo3, 34, none⟩ (.int .u64 1) := ⟨_, rfl⟩
  have HYE := Lib.hid hY
  have HNE := Lib.hid (Blk.ne_ Hi1_5.out Ho3_5.out (by decide))
  have HO := Lib.hid (show Blk Y3 Xo3 44 (ov oddO) by rw [hY, show ov oddO = (ov (Op.pr_ false)).setIfInBounds 34 (.int .u64 1) from by kernel_rfl]; exact Ho3_5.out.set_ 34 _)
  have HB3 := Lib.hid (show Below w.heap.size w Y3 by rw [hY]; exact HB_5.out.setCell (p := ⟨Xo3, 34, none⟩) Go3.out _)
  have HI3 := Lib.hid (show Blk Y3 Xi1 53 (itv (30, L13.prioT true)) by rw [hY]; exact Hi1_5.out.same (Below.heap_setCell _ ⟨Xo3, 34, none⟩ _ _ (by exact HNE.out)))
  clear hY
  go_upto_region 4 with fail
  rw [← HYE.out]
  clear HYE c34 f34
  go_wp2_with (refine ldO rfl _ rfl Xo3 (by kernel_rfl) oddO HO.out ?_)
  refine (answer (Encode_any _ odd_ok Y3 (HT.out.below HB3.out) (HH.out.below HB3.out)) (v' := .tuple #[.agg (itv (0, ⟨#[]⟩)), .int .i64 2]) enc_odd).mono ?_
  rintro e U6 ⟨rfl, q⟩
  have HB_6 := Lib.hid (HB3.out.trans (q.mono HB3.out.size))
  have Hi1_6 := Lib.hid (HI3.out.below q HI3.out.lt)
  have Ho3_6 := Lib.hid (HO.out.below q HO.out.lt)
  clear q
  go_upto_region 5 with (refine wp_varI rfl rfl 4 rfl rfl _ rfl (0, ⟨#[]⟩) (fun _ => by kernel_rfl) (fun _ => by kernel_rfl) ?_; intro V7 Xi4 hb hB hx; have Hi4_7 := Lib.hid hb; have Gi4 := Lib.hid (Nat.le_trans HB_6.out.size hx); have HB_7 := Lib.hid (HB_6.out.trans (hB.mono HB_6.out.size)); have Hi1_7 := Lib.hid (Hi1_6.out.below hB Hi1_6.out.lt); clear hb hB hx)
  go_wp2_with fail
  refine (answer (Decode_any 30 (L13.prioT true) (by decide) V7 (HT.out.below HB_7.out) (HH.out.below HB_7.out)) (v' := .tuple #[.agg (ov (Op.pr_ true)), .int .i64 0]) (decE_pr true)).mono ?_
  rintro e U8 ⟨rfl, q⟩
  have HB_8 := Lib.hid (HB_7.out.trans (q.mono HB_7.out.size))
  have Hi1_8 := Lib.hid (Hi1_7.out.below q Hi1_7.out.lt)
  clear q
  go_upto_region 6 with (refine wp_varO rfl rfl 6 rfl rfl _ rfl (Op.pr_ true) (fun _ => by kernel_rfl) (fun _ => by kernel_rfl) ?_; intro V9 Xo6 hb hB hx; have Ho6_9 := Lib.hid hb; have Go6 := Lib.hid (Nat.le_trans HB_8.out.size hx); have HB_9 := Lib.hid (HB_8.out.trans (hB.mono HB_8.out.size)); have Hi1_9 := Lib.hid (Hi1_8.out.below hB Hi1_8.out.lt); clear hb hB hx)
  go_wp2_with fail
  refine (prio_any false V9).mono ?_
  rintro e U10 ⟨rfl, q⟩
  have HB_10 := Lib.hid (HB_9.out.trans (q.mono HB_9.out.size))
  have Hi1_10 := Lib.hid (Hi1_9.out.below q Hi1_9.out.lt)
  have Ho6_10 := Lib.hid (Ho6_9.out.below q Ho6_9.out.lt)
  clear q
  go_wp2_with fail
  refine (rst_any 1 2 U10).mono ?_
  rintro e U11 ⟨rfl, q⟩
  have HB_11 := Lib.hid (HB_10.out.trans (q.mono HB_10.out.size))
  have Hi1_11 := Lib.hid (Hi1_10.out.below q Hi1_10.out.lt)
  have Ho6_11 := Lib.hid (Ho6_10.out.below q Ho6_10.out.lt)
  clear q
  go_wp2_with (refine optsW rfl 2 _ rfl [Op.pr_ false, Op.rs_ 1 2] (Nat.le_of_ble_eq_true rfl) (Nat.le_of_ble_eq_true rfl) rfl (by kernel_rfl) ?_; intro V12 XR hr hB; have HR_12 := Lib.hid hr; have HB_12 := Lib.hid (HB_11.out.trans (hB.mono HB_11.out.size)); have Hi1_12 := Lib.hid (Hi1_11.out.below hB Hi1_11.out.lt); have Ho6_12 := Lib.hid (Ho6_11.out.below hB Ho6_11.out.lt); clear hr hB)
  refine (answer (Lay_any _ _ (Nat.le_of_ble_eq_true rfl) two_ok V12 HR_12.out (HT.out.below HB_12.out) (HH.out.below HB_12.out)) (v' := .tuple #[.string ⟨#[30, 3, 80, 30, 4, 129, 2, 0]⟩, .int .i64 0]) (by rw [lay_two])).mono ?_
  rintro e U13 ⟨rfl, q⟩
  have HB_13 := Lib.hid (HB_12.out.trans (q.mono HB_12.out.size))
  have Hi1_13 := Lib.hid (Hi1_12.out.below q Hi1_12.out.lt)
  have Ho6_13 := Lib.hid (Ho6_12.out.below q Ho6_12.out.lt)
  clear q
  go_wp2_with fail
  refine (All_any ⟨#[30, 3, 144, 30, 3, 81, 1, 0]⟩ (by decide) _ all_one U13 (HT.out.below HB_13.out) (HH.out.below HB_13.out)).mono ?_
  rintro e U14 ⟨v10, rfl, hr, q⟩
  have HR10 := Lib.hid hr
  clear hr
  have HB_14 := Lib.hid (HB_13.out.trans (q.mono HB_13.out.size))
  have Hi1_14 := Lib.hid (Hi1_13.out.below q Hi1_13.out.lt)
  have Ho6_14 := Lib.hid (Ho6_13.out.below q Ho6_13.out.lt)
  clear q
  go_wp2_with fail
  refine (All_any ⟨#[30, 4, 80, 0]⟩ (by decide) _ all_none U14 (HT.out.below HB_14.out) (HH.out.below HB_14.out)).mono ?_
  rintro e U15 ⟨v12, rfl, hr, q⟩
  obtain ⟨p12, c12, hv12, -, -, -⟩ := hr
  have hv12 : v12 = .slice p12 0 c12 := hv12
  subst hv12
  have HB_15 := Lib.hid (HB_14.out.trans (q.mono HB_14.out.size))
  have Hi1_15 := Lib.hid (Hi1_14.out.below q Hi1_14.out.lt)
  have Ho6_15 := Lib.hid (Ho6_14.out.below q Ho6_14.out.lt)
  have Hr10_15 := Lib.hid (HR10.out.below q)
  clear q
  go_upto_region 9 with fail
  have HSI := Lib.hid Hi1_15.out
  have HSO := Lib.hid Ho6_15.out
  refine hStart (n := 21) rfl ?_
  intro W0 B0
  refine stF 0 (.int .i64 0) rfl B0 (stF 1 (.bool true) rfl B0 (stF 2 (.bool true) rfl B0 (stG 3 (.agg (itv (30, L13.prioT true))) rfl B0 (fun W q => xRw 53 (.tmp 1) Xi1 (HSI.out.below q HSI.out.lt) Tryz.underlying53 (it_info _)) (stF 4 (.agg (itv (30, ⟨#[81]⟩))) rfl B0 (stG 5 (.bool true) rfl B0 (fun W _ => xAb 53 53 (.tmp 52) (.tmp 53) (itv (30, L13.prioT true)) (itv (30, ⟨#[81]⟩)) true (item_equal (30, L13.prioT true) (30, ⟨#[81]⟩) true ⟨fun _ => rfl, fun _ => rfl⟩ W)) (stF 6 (.bool true) rfl B0 (stF 7 (.bool true) rfl B0 (stF 8 (.int .i64 2) rfl B0 (stF 9 (.bool true) rfl B0 ?_)))))))))
  refine stF 10 (.bool true) rfl B0 (stF 11 (.bool true) rfl B0 (stF 12 (.int .i64 0) rfl B0 (stF 13 (.bool true) rfl B0 (stF 14 (.bool true) rfl B0 (stF 15 (.bool true) rfl B0 (stG 16 (.agg (ov (Op.pr_ true))) rfl B0 (fun W q => xRw 44 (.tmp 6) Xo6 (HSO.out.below q HSO.out.lt) Tryz.underlying44 (ov_info _)) ?_))))))
  refine stB 17 rfl (prio_any true W0) B0 ?_
  intro W9 B1
  clear B0
  refine stG 18 (.bool true) rfl B1 (fun W _ => xAb 44 44 (.tmp 65) (.tmp 66) (ov (Op.pr_ true)) (ov (Op.pr_ true)) true (opt_equal _ _ true ⟨fun _ => rfl, fun _ => rfl⟩ W)) (stF 19 (.bool true) rfl B1 (stF 20 (.bool true) rfl B1 ?_))
  refine held_end_at ⟨List.toArray (α := Value) (Value.bool false :: Value.pointer (some { block := Xi1, off := 0 }) :: Value.int IntKind.i64 0 :: Value.pointer (some { block := Xo3, off := 0 }) :: Value.pointer (some { block := Xi4, off := 0 }) :: Value.int IntKind.i64 2 :: Value.pointer (some { block := Xo6, off := 0 }) :: Value.int IntKind.i64 0 :: Value.string { data := #[30, 3, 80, 30, 4, 129, 2, 0] } :: Value.int IntKind.i64 0 :: v10 :: Value.int IntKind.i64 0 :: Value.slice p12 0 c12 :: Value.int IntKind.i64 5 :: Value.bool true :: undef :: Value.tuple #[Value.agg (itv (30, L13.prioT true)), Value.int IntKind.i64 0] :: Value.agg (ov (Op.pr_ true)) :: Value.tuple #[Value.agg (itv (30, L13.prioT true)), Value.int IntKind.i64 0] :: Value.agg (itv (30, L13.prioT true)) :: Value.int IntKind.i64 0 :: Value.agg (ov (Op.pr_ false)) :: Value.pointer (some { block := Xo3, off := 34 }) :: Value.pointer (some { block := Xo3, off := 34 }) :: Value.tuple #[Value.agg (itv (0, { data := #[] })), Value.int IntKind.i64 2] :: Value.agg (ov oddO) :: Value.tuple #[Value.agg (itv (0, { data := #[] })), Value.int IntKind.i64 2] :: Value.agg (itv (0, { data := #[] })) :: Value.int IntKind.i64 2 :: Value.tuple #[Value.agg (ov (Op.pr_ true)), Value.int IntKind.i64 0] :: Value.agg #[Value.int IntKind.i64 30, Value.string { data := #[81] }] :: Value.tuple #[Value.agg (ov (Op.pr_ true)), Value.int IntKind.i64 0] :: Value.agg (ov (Op.pr_ true)) :: Value.int IntKind.i64 0 :: Value.tuple #[Value.string { data := #[30, 3, 80, 30, 4, 129, 2, 0] }, Value.int IntKind.i64 0] :: Value.agg (ov (Op.pr_ false)) :: Value.agg (ov (Op.rs_ 1 2)) :: Value.slice (some { block := XR, off := 0 }) 2 2 :: Value.tuple #[Value.string { data := #[30, 3, 80, 30, 4, 129, 2, 0] }, Value.int IntKind.i64 0] :: Value.string { data := #[30, 3, 80, 30, 4, 129, 2, 0] } :: Value.int IntKind.i64 0 :: Value.tuple #[v10, Value.int IntKind.i64 0] :: Value.tuple #[v10, Value.int IntKind.i64 0] :: v10 :: Value.int IntKind.i64 0 :: Value.tuple #[Value.slice p12 0 c12, Value.int IntKind.i64 5] :: Value.tuple #[Value.slice p12 0 c12, Value.int IntKind.i64 5] :: Value.slice p12 0 c12 :: Value.int IntKind.i64 5 :: Value.int IntKind.i64 0 :: Value.bool true :: Value.bool true :: Value.agg (itv (30, L13.prioT true)) :: Value.agg (itv (30, ⟨#[81]⟩)) :: Value.bool true :: Value.bool true :: Value.bool true :: Value.int IntKind.i64 2 :: Value.bool true :: Value.bool true :: Value.bool true :: Value.int IntKind.i64 0 :: Value.bool true :: Value.bool true :: Value.bool true :: Value.agg (ov (Op.pr_ true)) :: Value.agg (ov (Op.pr_ true)) :: Value.bool true :: Value.bool true :: undef :: undef :: undef :: undef :: undef :: undef :: undef :: undef :: undef :: undef :: undef :: undef :: undef :: undef :: undef :: undef :: undef :: undef :: undef :: undef :: undef :: undef :: undef :: undef :: undef :: undef :: undef :: undef :: undef :: undef :: undef :: undef :: undef :: undef :: undef :: undef :: undef :: undef :: undef :: undef :: undef :: []), []⟩ (by kernel_rfl) (by kernel_rfl) ?_
  have HB_16 := Lib.hid (HB_15.out.trans (B1.mono HB_15.out.size))
  have Hr10_16 := Lib.hid (Hr10_15.out.below B1)
  clear B1 HSI HSO
  go_wp2_with fail
  refine (refused_t 31 ⟨#[81]⟩ 7 (by decide) ref_31 W9 (HT.out.below HB_16.out) (HH.out.below HB_16.out)).mono ?_
  rintro e U17 ⟨rfl, q⟩
  have HB_17 := Lib.hid (HB_16.out.trans (q.mono HB_16.out.size))
  have Hr10_17 := Lib.hid (Hr10_16.out.below q)
  clear q
  go_wp2_with fail
  refine (refused_t 30 ⟨#[]⟩ 4 (by decide) ref_none U17 (HT.out.below HB_17.out) (HH.out.below HB_17.out)).mono ?_
  rintro e U18 ⟨rfl, q⟩
  have HB_18 := Lib.hid (HB_17.out.trans (q.mono HB_17.out.size))
  have Hr10_18 := Lib.hid (Hr10_17.out.below q)
  clear q
  go_wp2_with fail
  refine (refused_t 30 ⟨#[144]⟩ 7 (by decide) ref_144 U18 (HT.out.below HB_18.out) (HH.out.below HB_18.out)).mono ?_
  rintro e U19 ⟨rfl, q⟩
  have HB_19 := Lib.hid (HB_18.out.trans (q.mono HB_18.out.size))
  have Hr10_19 := Lib.hid (Hr10_18.out.below q)
  clear q
  go_wp2_with fail
  refine (prio_any true U19).mono ?_
  rintro e U20 ⟨rfl, q⟩
  have HB_20 := Lib.hid (HB_19.out.trans (q.mono HB_19.out.size))
  have Hr10_20 := Lib.hid (Hr10_19.out.below q)
  clear q
  go_wp2_with (refine optsW rfl 1 _ rfl [Op.pr_ true] (Nat.le_of_ble_eq_true rfl) (Nat.le_of_ble_eq_true rfl) rfl (by kernel_rfl) ?_; intro V21 XS hr hB; have HR_21 := Lib.hid hr; have HB_21 := Lib.hid (HB_20.out.trans (hB.mono HB_20.out.size)); have Hr10_21 := Lib.hid (Hr10_20.out.below hB); clear hr hB)
  refine (Same_any v10 _ [Op.pr_ true] [Op.pr_ true] (Nat.le_of_ble_eq_true rfl) true ⟨fun _ => rfl, fun _ => rfl⟩ V21 Hr10_21.out HR_21.out).mono ?_
  rintro e U22 ⟨rfl, q⟩
  have HB_22 := Lib.hid (HB_21.out.trans (q.mono HB_21.out.size))
  have Hr10_22 := Lib.hid (Hr10_21.out.below q)
  clear q
  go_wp2_with fail
  go_ret
  exact ⟨rfl, HB_22.out⟩
end Go.Proofs.YtnlhhjhidkjlbaaGreatDoor.L14
namespace Go.Proofs.YtnlhhjhidkjlbaaGreatDoor.L14
open Go Go.RowKit Go.ChangeAt
set_option linter.unusedVariables false
set_option linter.unusedSimpArgs false

theorem dr_0 (d : Dr) : (drv d)[0]? = some (.int .u8 (d.sub : Int)) := rfl
theorem dr_1 (d : Dr) : (drv d)[1]? = some (.int .u8 (d.what : Int)) := rfl
theorem dr_2 (d : Dr) : (drv d)[2]? = some (.int .u8 (d.id : Int)) := rfl
theorem dr_3 (d : Dr) : (drv d)[3]? = some (.bool d.f0) := rfl
theorem dr_4 (d : Dr) : (drv d)[4]? = some (.bool d.f1) := rfl
theorem dr_5 (d : Dr) : (drv d)[5]? = some (.bool d.f2) := rfl
theorem dr_6 (d : Dr) : (drv d)[6]? = some (.int .u64 (d.a : Int)) := rfl
theorem dr_7 (d : Dr) : (drv d)[7]? = some (.int .u64 (d.b : Int)) := rfl
theorem dr_8 (d : Dr) : (drv d)[8]? = some (.int .u16 (d.n : Int)) := rfl
theorem dr_9 (d : Dr) : (drv d)[9]? = some (.int .u16 (d.m : Int)) := rfl
theorem dr_b (d : Dr) (j : Nat) (hj : j < d.bs.length) : (drv d)[10 + j]? = some (.int .u8 (d.bs[j].toNat : Int)) := by
  unfold drv
  rw [List.getElem?_toArray, Nat.add_comm 10 j]
  show (d.bs.map fun b => Value.int .u8 (b.toNat : Int))[j]? = _
  simp [hj]
theorem arr_len : Tryz.prog.arrayLen 46 = 24 := by kernel_rfl
theorem arr_elem (w : World) : (sizeOf (Tryz.prog.elem 46)).run Tryz.prog w = .ok 1 w := by kernel_rfl
theorem arr_under : Tryz.prog.underlying 46 = some (.array (Tryz.prog.arrayLen 46) (Tryz.prog.elem 46)) := by kernel_rfl
theorem sl_front (w : World) (g n : Nat) (k : IntKind) (hn : n ≤ 24) : (Instr.sliceAt 46 (.pointer (some ⟨g, 10, none⟩)) none (some (.int k (n : Int))) none).run Tryz.prog w = .ok (.slice (some ⟨g, 10, none⟩) n 24) w := by
  have h := run_sliceAt_array_h (P := Tryz.prog) w 46 ⟨g, 10, none⟩ arr_under k n (by omega) (by rw [arr_len]; omega)
  rw [h, arr_elem]
  simp only [Result.andThen_ok, slicedAt, arr_len]
  rfl
theorem sl_back (w : World) (g : Nat) : (Instr.sliceAt 46 (.pointer (some ⟨g, 10, none⟩)) (some (.int .i64 16)) none none).run Tryz.prog w = .ok (.slice (some ⟨g, 26, none⟩) 8 8) w := by
  have h := run_sliceAt_array_l (P := Tryz.prog) w 46 ⟨g, 10, none⟩ arr_under .i64 16 (by omega) (by rw [arr_len]; omega)
  rw [h, arr_elem]
  simp only [Result.andThen_ok, slicedAt, arr_len]
  rfl
theorem off_add (g o j : Nat) : (⟨g, o, none⟩ : Addr).add j = ⟨g, o + j, none⟩ := by unfold Addr.add; split <;> simp_all
theorem sl_text (w : World) (g : Nat) (d : Dr) (n cap : Nat) (hn : n ≤ d.bs.length) (h : Blk w g 48 (drv d)) : (convert 61 9 (.slice (some ⟨g, 10, none⟩) n cap)).run Tryz.prog w = .ok (.string (txt (d.bs.take n))) w := by
  have q := run_convert_bytes_back (P := Tryz.prog) w 61 9 5 ⟨g, 10, none⟩ cap (d.bs.take n) Tryz.underlying61 Tryz.underlying5 Tryz.underlying9 (fun j hj => by
    have hj' : j < n ∧ j < d.bs.length := by rw [List.length_take] at hj; omega
    rw [off_add, h.cell, dr_b d j hj'.2, List.getElem_take])
  rw [List.length_take, Nat.min_eq_left hn] at q
  exact q
theorem sl_tail (w : World) (g : Nat) (d : Dr) (hd : d.bs.length = 24) (h : Blk w g 48 (drv d)) : (convert 61 9 (.slice (some ⟨g, 26, none⟩) 8 8)).run Tryz.prog w = .ok (.string (txt (d.bs.drop 16))) w := by
  have hl : (d.bs.drop 16).length = 8 := by rw [List.length_drop]; omega
  have q := run_convert_bytes_back (P := Tryz.prog) w 61 9 5 ⟨g, 26, none⟩ 8 (d.bs.drop 16) Tryz.underlying61 Tryz.underlying5 Tryz.underlying9 (fun j hj => by
    have hj' : 16 + j < d.bs.length := by omega
    rw [off_add, h.cell, show 26 + j = 10 + (16 + j) by omega, dr_b d (16 + j) hj', List.getElem_drop])
  rw [hl] at q
  exact q
/-- Where the walk stands: the draft in b, the result's variable r, what is made in X. -/
structure Da (T : TypeId) (w W : World) (d : Dr) (b r X : Nat) (zs cs : Array Value) : Prop where
  src : Blk W b 48 (drv d)
  res : Blk W r T zs
  new : Blk W X T cs
  bel : Below w.heap.size w W
  le : w.heap.size ≤ r ∧ w.heap.size ≤ X
  ne : b ≠ X ∧ r ≠ X
theorem Da.set {T : TypeId} {w W : World} {d : Dr} {b r X : Nat} {zs cs : Array Value} (h : Da T w W d b r X zs cs) (i : Nat) (v : Value) : Da T w (W.setCell ⟨X, i, none⟩ v) d b r X zs (cs.setIfInBounds i v) :=
  ⟨h.src.same (Below.heap_setCell W ⟨X, i, none⟩ v b h.ne.1), h.res.same (Below.heap_setCell W ⟨X, i, none⟩ v r h.ne.2), h.new.set_ i v, h.bel.setCell h.le.2 _, h.le, h.ne⟩
theorem Da.turn {T : TypeId} {w W W' : World} {d : Dr} {b r X : Nat} {zs cs cs' : Array Value} (h : Da T w W d b r X zs cs) (g : W.grownBy W' (some X)) (n : Blk W' X T cs') : Da T w W' d b r X zs cs' :=
  ⟨h.src.grown g (by simp; exact h.ne.1), h.res.grown g (by simp; exact h.ne.2), n, h.bel.trans (below_of_only g h.le.2 h.bel.size), h.le, h.ne⟩
/-- Ahead of it: the draft boxed, the result's variable. -/
structure Db (T : TypeId) (w W : World) (d : Dr) (b r : Nat) (zs : Array Value) : Prop where
  src : Blk W b 48 (drv d)
  res : Blk W r T zs
  bel : Below w.heap.size w W
  le : w.heap.size ≤ r
theorem Db.of {T : TypeId} {w U W : World} {d : Dr} {b r : Nat} {zs : Array Value} (hb : b = w.heap.size) (hU : U = w.alloc (.cells (drv d) 48)) (hr : r = U.heap.size) (hW : W = U.alloc (.cells zs T)) : Db T w W d b r zs := by
  subst hb; subst hU; subst hr; subst hW
  exact ⟨(Blk.new _ _ _).alloc _, Blk.new _ _ _, ((Below.refl _ w).alloc (Nat.le_refl _) _).alloc (by simp) _, by simp⟩
theorem Db.made {T : TypeId} {w W U : World} {d : Dr} {b r X : Nat} {zs cs : Array Value} (h : Db T w W d b r zs) (hX : X = W.heap.size) (hU : U = W.alloc (.cells cs T)) : Da T w U d b r X zs cs := by
  subst hX; subst hU
  have h1 := h.src.lt
  have h2 := h.res.lt
  exact ⟨h.src.alloc _, h.res.alloc _, Blk.new _ _ _, h.bel.alloc h.bel.size _, ⟨h.le, h.bel.size⟩, ⟨by omega, by omega⟩⟩
set_option maxHeartbeats 1000000 in
set_option maxRecDepth 100000 in
theorem capable_0 (d : Dr) (hd : d.Ok) (hf : d.what % 5 = 0) (w : World) : Calls Tryz.prog 29 #[.agg (drv d)] w fun e w' => e = .returned (.agg (L9.capv d.cap)) ∧ Below w.heap.size w w' := by
  obtain ⟨-, l1, l2, l3, l4, l5, l6, l7⟩ := hd
  have hq : (d.what : Int) % 5 = 0 := by omega
  go_enter Tryz.func29, Tryz.ntmps29
  go_upto_region 1 with (first
    | (refine wp_box rfl 48 _ rfl (drv d) rfl ?_; intro U0 b hb hU)
    | (refine wp_new rfl 25 rfl (L9.capv L9.Cap.zero) (fun _ => by kernel_rfl) ?_; intro U1 r hr hU1; have H0 := Lib.hid (Db.of hb hU hr hU1); clear hb hU hr hU1))
  have c1 := (H0.out.src.cell 1).trans (dr_1 d)
  have c2 := (H0.out.src.cell 2).trans (dr_2 d)
  have c3 := (H0.out.src.cell 3).trans (dr_3 d)
  have c4 := (H0.out.src.cell 4).trans (dr_4 d)
  obtain ⟨X, hX⟩ := eqx U1.heap.size
  obtain ⟨W0, hW⟩ : ∃ W, W = U1.alloc (.cells #[.int .i64 0, .int .i64 ((d.id : Int) % 16), .bool d.f0, .bool d.f1, .int .u64 0, .int .u64 0, .int .i64 0, .int .u16 0] 25) := ⟨_, rfl⟩
  have D0 := Lib.hid (H0.out.made hX hW)
  have HX := Lib.hid hX
  have HW := Lib.hid hW
  clear hX hW
  go_upto_region 2 with fail
  rw [← HW.out, ← HX.out]
  clear HX HW c1 c2 c3 c4
  have x0 : W0.cell? ⟨X, 0, none⟩ = some (.int .i64 0) := (D0.out.new.cell 0).trans (by kernel_rfl)
  have e : #[.int .i64 0, .int .i64 ((d.id : Int) % 16), .bool d.f0, .bool d.f1, .int .u64 0, .int .u64 0, .int .i64 0, .int .u16 0] = L9.capv d.cap := by unfold Dr.cap L9.capv; simp [hf]
  have HF := Lib.hid (show Da 25 w W0 d b r X (L9.capv L9.Cap.zero) (L9.capv d.cap) by rw [← e]; exact D0.out)
  clear e D0
  go_wp2_with (first
    | (refine wpList_load_row rfl 25 _ rfl X rfl 25 (L9.capv d.cap) (0, 0) _ ?_ Tryz.underlying25 rfl L9.cap_size ?_; exact HF.out.new)
    | (refine st_row rfl 25 _ _ rfl r rfl 25 (L9.capv L9.Cap.zero) (L9.capv d.cap) rfl ?_ rfl L9.cap_size (by kernel_rfl) ?_; exact HF.out.res; intro W3 g3 n3; have H3 := Lib.hid n3; have B3 := Lib.hid (HF.out.bel.trans (below_of_only g3 HF.out.le.1 HF.out.bel.size)); clear g3 n3))
  exact bodyPost_ret (results_cell_row rfl _ _ r 25 (L9.capv d.cap) (0, 0) _ rfl H3.out Tryz.underlying25 rfl L9.cap_size) rfl ⟨rfl, B3.out⟩
set_option maxHeartbeats 1000000 in
set_option maxRecDepth 100000 in
theorem capable_1 (d : Dr) (hd : d.Ok) (hf : d.what % 5 = 1) (w : World) : Calls Tryz.prog 29 #[.agg (drv d)] w fun e w' => e = .returned (.agg (L9.capv d.cap)) ∧ Below w.heap.size w w' := by
  obtain ⟨-, l1, l2, l3, l4, l5, l6, l7⟩ := hd
  have hq : (d.what : Int) % 5 = 1 := by omega
  go_enter Tryz.func29, Tryz.ntmps29
  go_upto_region 1 with (first
    | (refine wp_box rfl 48 _ rfl (drv d) rfl ?_; intro U0 b hb hU)
    | (refine wp_new rfl 25 rfl (L9.capv L9.Cap.zero) (fun _ => by kernel_rfl) ?_; intro U1 r hr hU1; have H0 := Lib.hid (Db.of hb hU hr hU1); clear hb hU hr hU1))
  have c1 := (H0.out.src.cell 1).trans (dr_1 d)
  have c2 := (H0.out.src.cell 2).trans (dr_2 d)
  have c3 := (H0.out.src.cell 3).trans (dr_3 d)
  have c4 := (H0.out.src.cell 4).trans (dr_4 d)
  obtain ⟨X, hX⟩ := eqx U1.heap.size
  obtain ⟨W0, hW⟩ : ∃ W, W = U1.alloc (.cells #[.int .i64 1, .int .i64 ((d.id : Int) % 16), .bool d.f0, .bool d.f1, .int .u64 0, .int .u64 0, .int .i64 0, .int .u16 0] 25) := ⟨_, rfl⟩
  have D0 := Lib.hid (H0.out.made hX hW)
  have HX := Lib.hid hX
  have HW := Lib.hid hW
  clear hX hW
  go_upto_region 2 with fail
  rw [← HW.out, ← HX.out]
  clear HX HW c1 c2 c3 c4
  have c6 := (D0.out.src.cell 6).trans (dr_6 d)
  have x0 : W0.cell? ⟨X, 0, none⟩ = some (.int .i64 1) := (D0.out.new.cell 0).trans (by kernel_rfl)
  have xk := (D0.out.new.cell 4).trans (show _ = some (.int .u64 0) by kernel_rfl)
  have fz := D0.out.new.frozen 4
  obtain ⟨Y1, hY⟩ : ∃ U, U = W0.setCell ⟨X, 4, none⟩ (.int .u64 (d.a : Int)) := ⟨_, rfl⟩
  have D1 := Lib.hid (by have := D0.out.set 4 (.int .u64 (d.a : Int)); rw [← hY] at this; exact this)
  have HY := Lib.hid hY
  clear hY
  go_upto_region 4 with fail
  rw [← HY.out]
  clear HY xk fz D0 c6 x0
  have x0 : Y1.cell? ⟨X, 0, none⟩ = some (.int .i64 1) := (D1.out.new.cell 0).trans (by kernel_rfl)
  have e : #[.int .i64 1, .int .i64 ((d.id : Int) % 16), .bool d.f0, .bool d.f1, .int .u64 (d.a : Int), .int .u64 0, .int .i64 0, .int .u16 0] = L9.capv d.cap := by unfold Dr.cap L9.capv; simp [hf]
  have HF := Lib.hid (show Da 25 w Y1 d b r X (L9.capv L9.Cap.zero) (L9.capv d.cap) by rw [← e]; exact D1.out)
  clear e D1
  go_wp2_with (first
    | (refine wpList_load_row rfl 25 _ rfl X rfl 25 (L9.capv d.cap) (0, 0) _ ?_ Tryz.underlying25 rfl L9.cap_size ?_; exact HF.out.new)
    | (refine st_row rfl 25 _ _ rfl r rfl 25 (L9.capv L9.Cap.zero) (L9.capv d.cap) rfl ?_ rfl L9.cap_size (by kernel_rfl) ?_; exact HF.out.res; intro W3 g3 n3; have H3 := Lib.hid n3; have B3 := Lib.hid (HF.out.bel.trans (below_of_only g3 HF.out.le.1 HF.out.bel.size)); clear g3 n3))
  exact bodyPost_ret (results_cell_row rfl _ _ r 25 (L9.capv d.cap) (0, 0) _ rfl H3.out Tryz.underlying25 rfl L9.cap_size) rfl ⟨rfl, B3.out⟩
set_option maxHeartbeats 1000000 in
set_option maxRecDepth 100000 in
theorem capable_2 (d : Dr) (hd : d.Ok) (hf : d.what % 5 = 2) (w : World) : Calls Tryz.prog 29 #[.agg (drv d)] w fun e w' => e = .returned (.agg (L9.capv d.cap)) ∧ Below w.heap.size w w' := by
  obtain ⟨-, l1, l2, l3, l4, l5, l6, l7⟩ := hd
  have hq : (d.what : Int) % 5 = 2 := by omega
  go_enter Tryz.func29, Tryz.ntmps29
  go_upto_region 1 with (first
    | (refine wp_box rfl 48 _ rfl (drv d) rfl ?_; intro U0 b hb hU)
    | (refine wp_new rfl 25 rfl (L9.capv L9.Cap.zero) (fun _ => by kernel_rfl) ?_; intro U1 r hr hU1; have H0 := Lib.hid (Db.of hb hU hr hU1); clear hb hU hr hU1))
  have c1 := (H0.out.src.cell 1).trans (dr_1 d)
  have c2 := (H0.out.src.cell 2).trans (dr_2 d)
  have c3 := (H0.out.src.cell 3).trans (dr_3 d)
  have c4 := (H0.out.src.cell 4).trans (dr_4 d)
  obtain ⟨X, hX⟩ := eqx U1.heap.size
  obtain ⟨W0, hW⟩ : ∃ W, W = U1.alloc (.cells #[.int .i64 2, .int .i64 ((d.id : Int) % 16), .bool d.f0, .bool d.f1, .int .u64 0, .int .u64 0, .int .i64 0, .int .u16 0] 25) := ⟨_, rfl⟩
  have D0 := Lib.hid (H0.out.made hX hW)
  have HX := Lib.hid hX
  have HW := Lib.hid hW
  clear hX hW
  go_upto_region 2 with fail
  rw [← HW.out, ← HX.out]
  clear HX HW c1 c2 c3 c4
  have c6 := (D0.out.src.cell 6).trans (dr_6 d)
  have x0 : W0.cell? ⟨X, 0, none⟩ = some (.int .i64 2) := (D0.out.new.cell 0).trans (by kernel_rfl)
  have xk := (D0.out.new.cell 4).trans (show _ = some (.int .u64 0) by kernel_rfl)
  have fz := D0.out.new.frozen 4
  obtain ⟨Y1, hY⟩ : ∃ U, U = W0.setCell ⟨X, 4, none⟩ (.int .u64 (d.a : Int)) := ⟨_, rfl⟩
  have D1 := Lib.hid (by have := D0.out.set 4 (.int .u64 (d.a : Int)); rw [← hY] at this; exact this)
  have HY := Lib.hid hY
  clear hY
  go_upto_region 4 with fail
  rw [← HY.out]
  clear HY xk fz D0 c6 x0
  have c7 := (D1.out.src.cell 7).trans (dr_7 d)
  have x0 : Y1.cell? ⟨X, 0, none⟩ = some (.int .i64 2) := (D1.out.new.cell 0).trans (by kernel_rfl)
  have xk := (D1.out.new.cell 5).trans (show _ = some (.int .u64 0) by kernel_rfl)
  have fz := D1.out.new.frozen 5
  obtain ⟨Y2, hY⟩ : ∃ U, U = Y1.setCell ⟨X, 5, none⟩ (.int .u64 (d.b : Int)) := ⟨_, rfl⟩
  have D2 := Lib.hid (by have := D1.out.set 5 (.int .u64 (d.b : Int)); rw [← hY] at this; exact this)
  have HY := Lib.hid hY
  clear hY
  go_upto_region 6 with fail
  rw [← HY.out]
  clear HY xk fz D1 c7 x0
  have x0 : Y2.cell? ⟨X, 0, none⟩ = some (.int .i64 2) := (D2.out.new.cell 0).trans (by kernel_rfl)
  have e : #[.int .i64 2, .int .i64 ((d.id : Int) % 16), .bool d.f0, .bool d.f1, .int .u64 (d.a : Int), .int .u64 (d.b : Int), .int .i64 0, .int .u16 0] = L9.capv d.cap := by unfold Dr.cap L9.capv; simp [hf]
  have HF := Lib.hid (show Da 25 w Y2 d b r X (L9.capv L9.Cap.zero) (L9.capv d.cap) by rw [← e]; exact D2.out)
  clear e D2
  go_wp2_with (first
    | (refine wpList_load_row rfl 25 _ rfl X rfl 25 (L9.capv d.cap) (0, 0) _ ?_ Tryz.underlying25 rfl L9.cap_size ?_; exact HF.out.new)
    | (refine st_row rfl 25 _ _ rfl r rfl 25 (L9.capv L9.Cap.zero) (L9.capv d.cap) rfl ?_ rfl L9.cap_size (by kernel_rfl) ?_; exact HF.out.res; intro W3 g3 n3; have H3 := Lib.hid n3; have B3 := Lib.hid (HF.out.bel.trans (below_of_only g3 HF.out.le.1 HF.out.bel.size)); clear g3 n3))
  exact bodyPost_ret (results_cell_row rfl _ _ r 25 (L9.capv d.cap) (0, 0) _ rfl H3.out Tryz.underlying25 rfl L9.cap_size) rfl ⟨rfl, B3.out⟩
set_option maxHeartbeats 1000000 in
set_option maxRecDepth 100000 in
theorem capable_3 (d : Dr) (hd : d.Ok) (hf : d.what % 5 = 3) (w : World) : Calls Tryz.prog 29 #[.agg (drv d)] w fun e w' => e = .returned (.agg (L9.capv d.cap)) ∧ Below w.heap.size w w' := by
  obtain ⟨-, l1, l2, l3, l4, l5, l6, l7⟩ := hd
  have hq : (d.what : Int) % 5 = 3 := by omega
  go_enter Tryz.func29, Tryz.ntmps29
  go_upto_region 1 with (first
    | (refine wp_box rfl 48 _ rfl (drv d) rfl ?_; intro U0 b hb hU)
    | (refine wp_new rfl 25 rfl (L9.capv L9.Cap.zero) (fun _ => by kernel_rfl) ?_; intro U1 r hr hU1; have H0 := Lib.hid (Db.of hb hU hr hU1); clear hb hU hr hU1))
  have c1 := (H0.out.src.cell 1).trans (dr_1 d)
  have c2 := (H0.out.src.cell 2).trans (dr_2 d)
  have c3 := (H0.out.src.cell 3).trans (dr_3 d)
  have c4 := (H0.out.src.cell 4).trans (dr_4 d)
  obtain ⟨X, hX⟩ := eqx U1.heap.size
  obtain ⟨W0, hW⟩ : ∃ W, W = U1.alloc (.cells #[.int .i64 3, .int .i64 ((d.id : Int) % 16), .bool d.f0, .bool d.f1, .int .u64 0, .int .u64 0, .int .i64 0, .int .u16 0] 25) := ⟨_, rfl⟩
  have D0 := Lib.hid (H0.out.made hX hW)
  have HX := Lib.hid hX
  have HW := Lib.hid hW
  clear hX hW
  go_upto_region 2 with fail
  rw [← HW.out, ← HX.out]
  clear HX HW c1 c2 c3 c4
  have c6 := (D0.out.src.cell 6).trans (dr_6 d)
  have x0 : W0.cell? ⟨X, 0, none⟩ = some (.int .i64 3) := (D0.out.new.cell 0).trans (by kernel_rfl)
  have xk := (D0.out.new.cell 4).trans (show _ = some (.int .u64 0) by kernel_rfl)
  have fz := D0.out.new.frozen 4
  obtain ⟨Y1, hY⟩ : ∃ U, U = W0.setCell ⟨X, 4, none⟩ (.int .u64 (d.a : Int)) := ⟨_, rfl⟩
  have D1 := Lib.hid (by have := D0.out.set 4 (.int .u64 (d.a : Int)); rw [← hY] at this; exact this)
  have HY := Lib.hid hY
  clear hY
  go_upto_region 4 with fail
  rw [← HY.out]
  clear HY xk fz D0 c6 x0
  have c7 := (D1.out.src.cell 7).trans (dr_7 d)
  have x0 : Y1.cell? ⟨X, 0, none⟩ = some (.int .i64 3) := (D1.out.new.cell 0).trans (by kernel_rfl)
  have xk := (D1.out.new.cell 5).trans (show _ = some (.int .u64 0) by kernel_rfl)
  have fz := D1.out.new.frozen 5
  obtain ⟨Y2, hY⟩ : ∃ U, U = Y1.setCell ⟨X, 5, none⟩ (.int .u64 (d.b : Int)) := ⟨_, rfl⟩
  have D2 := Lib.hid (by have := D1.out.set 5 (.int .u64 (d.b : Int)); rw [← hY] at this; exact this)
  have HY := Lib.hid hY
  clear hY
  go_upto_region 6 with fail
  rw [← HY.out]
  clear HY xk fz D1 c7 x0
  have c8 := (D2.out.src.cell 8).trans (dr_8 d)
  have x0 : Y2.cell? ⟨X, 0, none⟩ = some (.int .i64 3) := (D2.out.new.cell 0).trans (by kernel_rfl)
  have xk := (D2.out.new.cell 6).trans (show _ = some (.int .i64 0) by kernel_rfl)
  have fz := D2.out.new.frozen 6
  obtain ⟨Y3, hY⟩ : ∃ U, U = Y2.setCell ⟨X, 6, none⟩ (.int .i64 (d.n : Int)) := ⟨_, rfl⟩
  have D3 := Lib.hid (by have := D2.out.set 6 (.int .i64 (d.n : Int)); rw [← hY] at this; exact this)
  have HY := Lib.hid hY
  clear hY
  go_upto_region 8 with fail
  rw [← HY.out]
  clear HY xk fz D2 c8 x0
  have x0 : Y3.cell? ⟨X, 0, none⟩ = some (.int .i64 3) := (D3.out.new.cell 0).trans (by kernel_rfl)
  have e : #[.int .i64 3, .int .i64 ((d.id : Int) % 16), .bool d.f0, .bool d.f1, .int .u64 (d.a : Int), .int .u64 (d.b : Int), .int .i64 (d.n : Int), .int .u16 0] = L9.capv d.cap := by unfold Dr.cap L9.capv; simp [hf]
  have HF := Lib.hid (show Da 25 w Y3 d b r X (L9.capv L9.Cap.zero) (L9.capv d.cap) by rw [← e]; exact D3.out)
  clear e D3
  go_wp2_with (first
    | (refine wpList_load_row rfl 25 _ rfl X rfl 25 (L9.capv d.cap) (0, 0) _ ?_ Tryz.underlying25 rfl L9.cap_size ?_; exact HF.out.new)
    | (refine st_row rfl 25 _ _ rfl r rfl 25 (L9.capv L9.Cap.zero) (L9.capv d.cap) rfl ?_ rfl L9.cap_size (by kernel_rfl) ?_; exact HF.out.res; intro W3 g3 n3; have H3 := Lib.hid n3; have B3 := Lib.hid (HF.out.bel.trans (below_of_only g3 HF.out.le.1 HF.out.bel.size)); clear g3 n3))
  exact bodyPost_ret (results_cell_row rfl _ _ r 25 (L9.capv d.cap) (0, 0) _ rfl H3.out Tryz.underlying25 rfl L9.cap_size) rfl ⟨rfl, B3.out⟩
set_option maxHeartbeats 1000000 in
set_option maxRecDepth 100000 in
theorem capable_4 (d : Dr) (hd : d.Ok) (hf : d.what % 5 = 4) (w : World) : Calls Tryz.prog 29 #[.agg (drv d)] w fun e w' => e = .returned (.agg (L9.capv d.cap)) ∧ Below w.heap.size w w' := by
  obtain ⟨-, l1, l2, l3, l4, l5, l6, l7⟩ := hd
  have hq : (d.what : Int) % 5 = 4 := by omega
  go_enter Tryz.func29, Tryz.ntmps29
  go_upto_region 1 with (first
    | (refine wp_box rfl 48 _ rfl (drv d) rfl ?_; intro U0 b hb hU)
    | (refine wp_new rfl 25 rfl (L9.capv L9.Cap.zero) (fun _ => by kernel_rfl) ?_; intro U1 r hr hU1; have H0 := Lib.hid (Db.of hb hU hr hU1); clear hb hU hr hU1))
  have c1 := (H0.out.src.cell 1).trans (dr_1 d)
  have c2 := (H0.out.src.cell 2).trans (dr_2 d)
  have c3 := (H0.out.src.cell 3).trans (dr_3 d)
  have c4 := (H0.out.src.cell 4).trans (dr_4 d)
  obtain ⟨X, hX⟩ := eqx U1.heap.size
  obtain ⟨W0, hW⟩ : ∃ W, W = U1.alloc (.cells #[.int .i64 4, .int .i64 ((d.id : Int) % 16), .bool d.f0, .bool d.f1, .int .u64 0, .int .u64 0, .int .i64 0, .int .u16 0] 25) := ⟨_, rfl⟩
  have D0 := Lib.hid (H0.out.made hX hW)
  have HX := Lib.hid hX
  have HW := Lib.hid hW
  clear hX hW
  go_upto_region 2 with fail
  rw [← HW.out, ← HX.out]
  clear HX HW c1 c2 c3 c4
  have c6 := (D0.out.src.cell 6).trans (dr_6 d)
  have x0 : W0.cell? ⟨X, 0, none⟩ = some (.int .i64 4) := (D0.out.new.cell 0).trans (by kernel_rfl)
  have xk := (D0.out.new.cell 4).trans (show _ = some (.int .u64 0) by kernel_rfl)
  have fz := D0.out.new.frozen 4
  obtain ⟨Y1, hY⟩ : ∃ U, U = W0.setCell ⟨X, 4, none⟩ (.int .u64 (d.a : Int)) := ⟨_, rfl⟩
  have D1 := Lib.hid (by have := D0.out.set 4 (.int .u64 (d.a : Int)); rw [← hY] at this; exact this)
  have HY := Lib.hid hY
  clear hY
  go_upto_region 4 with fail
  rw [← HY.out]
  clear HY xk fz D0 c6 x0
  have c7 := (D1.out.src.cell 7).trans (dr_7 d)
  have x0 : Y1.cell? ⟨X, 0, none⟩ = some (.int .i64 4) := (D1.out.new.cell 0).trans (by kernel_rfl)
  have xk := (D1.out.new.cell 5).trans (show _ = some (.int .u64 0) by kernel_rfl)
  have fz := D1.out.new.frozen 5
  obtain ⟨Y2, hY⟩ : ∃ U, U = Y1.setCell ⟨X, 5, none⟩ (.int .u64 (d.b : Int)) := ⟨_, rfl⟩
  have D2 := Lib.hid (by have := D1.out.set 5 (.int .u64 (d.b : Int)); rw [← hY] at this; exact this)
  have HY := Lib.hid hY
  clear hY
  go_upto_region 6 with fail
  rw [← HY.out]
  clear HY xk fz D1 c7 x0
  have c8 := (D2.out.src.cell 8).trans (dr_8 d)
  have x0 : Y2.cell? ⟨X, 0, none⟩ = some (.int .i64 4) := (D2.out.new.cell 0).trans (by kernel_rfl)
  have xk := (D2.out.new.cell 6).trans (show _ = some (.int .i64 0) by kernel_rfl)
  have fz := D2.out.new.frozen 6
  obtain ⟨Y3, hY⟩ : ∃ U, U = Y2.setCell ⟨X, 6, none⟩ (.int .i64 (d.n : Int)) := ⟨_, rfl⟩
  have D3 := Lib.hid (by have := D2.out.set 6 (.int .i64 (d.n : Int)); rw [← hY] at this; exact this)
  have HY := Lib.hid hY
  clear hY
  go_upto_region 8 with fail
  rw [← HY.out]
  clear HY xk fz D2 c8 x0
  have c9 := (D3.out.src.cell 9).trans (dr_9 d)
  have x0 : Y3.cell? ⟨X, 0, none⟩ = some (.int .i64 4) := (D3.out.new.cell 0).trans (by kernel_rfl)
  have xk := (D3.out.new.cell 7).trans (show _ = some (.int .u16 0) by kernel_rfl)
  have fz := D3.out.new.frozen 7
  obtain ⟨Y4, hY⟩ : ∃ U, U = Y3.setCell ⟨X, 7, none⟩ (.int .u16 (d.m : Int)) := ⟨_, rfl⟩
  have D4 := Lib.hid (by have := D3.out.set 7 (.int .u16 (d.m : Int)); rw [← hY] at this; exact this)
  have HY := Lib.hid hY
  clear hY
  go_upto_region 10 with fail
  rw [← HY.out]
  clear HY xk fz D3 c9 x0
  have e : #[.int .i64 4, .int .i64 ((d.id : Int) % 16), .bool d.f0, .bool d.f1, .int .u64 (d.a : Int), .int .u64 (d.b : Int), .int .i64 (d.n : Int), .int .u16 (d.m : Int)] = L9.capv d.cap := by unfold Dr.cap L9.capv; simp [hf]
  have HF := Lib.hid (show Da 25 w Y4 d b r X (L9.capv L9.Cap.zero) (L9.capv d.cap) by rw [← e]; exact D4.out)
  clear e D4
  go_wp2_with (first
    | (refine wpList_load_row rfl 25 _ rfl X rfl 25 (L9.capv d.cap) (0, 0) _ ?_ Tryz.underlying25 rfl L9.cap_size ?_; exact HF.out.new)
    | (refine st_row rfl 25 _ _ rfl r rfl 25 (L9.capv L9.Cap.zero) (L9.capv d.cap) rfl ?_ rfl L9.cap_size (by kernel_rfl) ?_; exact HF.out.res; intro W3 g3 n3; have H3 := Lib.hid n3; have B3 := Lib.hid (HF.out.bel.trans (below_of_only g3 HF.out.le.1 HF.out.bel.size)); clear g3 n3))
  exact bodyPost_ret (results_cell_row rfl _ _ r 25 (L9.capv d.cap) (0, 0) _ rfl H3.out Tryz.underlying25 rfl L9.cap_size) rfl ⟨rfl, B3.out⟩
theorem capable_any (d : Dr) (hd : d.Ok) (w : World) : Calls Tryz.prog 29 #[.agg (drv d)] w fun e w' => e = .returned (.agg (L9.capv d.cap)) ∧ Below w.heap.size w w' := by
  have : d.what % 5 = 0 ∨ d.what % 5 = 1 ∨ d.what % 5 = 2 ∨ d.what % 5 = 3 ∨ d.what % 5 = 4 := by omega
  rcases this with h | h | h | h | h
  · exact capable_0 d hd h w
  · exact capable_1 d hd h w
  · exact capable_2 d hd h w
  · exact capable_3 d hd h w
  · exact capable_4 d hd h w
theorem conv8 (u : Nat) (h : u ≤ 255) (w : World) : (convert 5 3 (.int .u8 (u : Int))).run Tryz.prog w = .ok (.int .i64 (u : Int)) w := by
  rw [run_convert_int w 5 3 .u8 _ (by kernel_rfl) (by kernel_rfl), show Tryz.prog.intKind 3 = .i64 by kernel_rfl, IntWalk.i64_in _ (by omega)]
theorem conv64 (u : Nat) (w : World) : (convert 22 26 (.int .u64 (u : Int))).run Tryz.prog w = .ok (.int .u32 ((u : Int) % 4294967296)) w := by
  rw [run_convert_int w 22 26 .u64 _ (by kernel_rfl) (by kernel_rfl), show Tryz.prog.intKind 26 = .u32 by kernel_rfl, IntKind.wrap_u32]
theorem conv16 (u : Nat) (h : u ≤ 65535) (w : World) : (convert 23 3 (.int .u16 (u : Int))).run Tryz.prog w = .ok (.int .i64 (u : Int)) w := by
  rw [run_convert_int w 23 3 .u16 _ (by kernel_rfl) (by kernel_rfl), show Tryz.prog.intKind 3 = .i64 by kernel_rfl, IntWalk.i64_in _ (by omega)]
set_option maxHeartbeats 1000000 in
set_option maxRecDepth 100000 in
theorem add_any (d : Dr) (hd : d.Ok) (w : World) : Calls Tryz.prog 32 #[.agg (drv d)] w fun e w' => e = .returned (.agg (L12.adv d.ad)) ∧ Below w.heap.size w w' := by
  obtain ⟨-, l1, l2, l3, l4, l5, l6, l7⟩ := hd
  go_enter Tryz.func32, Tryz.ntmps32
  go_upto_region 1 with (first
    | (refine wp_box rfl 48 _ rfl (drv d) rfl ?_; intro U0 b hb hU)
    | (refine wp_new rfl 32 rfl (L12.adv L12.Ad.zero) (fun _ => by kernel_rfl) ?_; intro U1 r hr hU1; have H0 := Lib.hid (Db.of hb hU hr hU1); clear hb hU hr hU1))
  have HSR := Lib.hid H0.out.src
  have B0 : Below U1.heap.size U1 U1.drew := (Below.refl _ U1).drew
  refine walk_start 14 (fun W => Below U1.heap.size U1 W) (by kernel_rfl) (n := 15) rfl ?_
  obtain ⟨W0, hW0⟩ := eqx U1.drew
  rw [← hW0] at B0 ⊢
  clear hW0
  refine wkF 0 (.pointer (some ⟨b, 3, none⟩)) rfl B0 (wkF 1 (.pointer (some ⟨b, 3, none⟩)) rfl B0 (wkG 2 (.bool d.f0) rfl B0 (fun W q => xLd 4 (.tmp 5) ⟨b, 3, none⟩ (((HSR.out.below q HSR.out.lt).cell 3).trans (dr_3 d))) (wkF 3 (.pointer (some ⟨b, 2, none⟩)) rfl B0 (wkG 4 (.int .u8 (d.id : Int)) rfl B0 (fun W q => xLd 5 (.tmp 7) ⟨b, 2, none⟩ (((HSR.out.below q HSR.out.lt).cell 2).trans (dr_2 d))) (wkG 5 (.int .i64 (d.id : Int)) rfl B0 (fun W _ => ex_convert_to (v := .int .u8 (d.id : Int)) 5 3 (.tmp 8) (by kernel_rfl) (by kernel_rfl) (conv8 d.id l2 W)) (wkF 6 (.pointer (some ⟨b, 10, none⟩)) rfl B0 (wkG 7 (.slice (some ⟨b, 10, none⟩) 4 24) rfl B0 (fun W _ => ex_slice_front (v := .pointer (some ⟨b, 10, none⟩)) (hv := .int .i64 4) 46 (.tmp 10) (.const (.int .i64 4)) (by kernel_rfl) (by kernel_rfl) (by kernel_rfl) (sl_front W b 4 .i64 (by decide))) (wkG 8 (.string (txt (d.bs.take 4))) rfl B0 (fun W q => ex_convert_to (v := .slice (some ⟨b, 10, none⟩) 4 24) 61 9 (.tmp 11) (by kernel_rfl) (by kernel_rfl) (sl_text W b d 4 24 (by rw [l7]; decide) (HSR.out.below q HSR.out.lt))) (wkF 9 (.pointer (some ⟨b, 3, none⟩)) rfl B0 ?_)))))))))
  refine wkF 10 (.pointer (some ⟨b, 5, none⟩)) rfl B0 (wkG 11 (.bool d.f2) rfl B0 (fun W q => xLd 4 (.tmp 14) ⟨b, 5, none⟩ (((HSR.out.below q HSR.out.lt).cell 5).trans (dr_5 d))) (wkF 12 (.agg #[.bool d.f0, .int .i64 (d.id : Int), .string (txt (d.bs.take 4)), .bool d.f2, .int .i64 0, .string ⟨#[]⟩]) rfl B0 ?_))
  obtain ⟨W1, hW1⟩ : ∃ w', w' = W0.alloc (.cells (L12.adv L12.Ad.zero) 32) := ⟨_, rfl⟩
  obtain ⟨X, hX⟩ := eqx W0.heap.size
  have N1 : Blk W1 X 32 (L12.adv L12.Ad.zero) := by rw [hW1, hX]; exact Blk.new _ _ _
  have B1 : Below U1.heap.size U1 W1 := by rw [hW1]; exact B0.alloc B0.size _
  have L1 : U1.heap.size ≤ X := by rw [hX]; exact B0.size
  refine walk_one 13 (by kernel_rfl) (do_lone (v := .pointer (some ⟨X, 0, none⟩)) (w' := W1) 13 rfl (by kernel_rfl) (by rw [hW1, hX]; exact ex_alloc 32 (L12.adv L12.Ad.zero) (by kernel_rfl) (fun _ => by kernel_rfl)) B1 ?_)
  clear hW1 hX B0
  refine walk_one 14 (by kernel_rfl) (do_last 14 rfl (by kernel_rfl) (by exact ex_store_row 32 (.tmp 3) (.tmp 16) (by kernel_rfl) X #[.bool d.f0, .int .i64 (d.id : Int), .string (txt (d.bs.take 4)), .bool d.f2, .int .i64 0, .string ⟨#[]⟩] (by kernel_rfl) (by kernel_rfl) 32 (L12.adv L12.Ad.zero) N1 L12.ad_size rfl (by kernel_rfl)) (by kernel_rfl) ?_)
  refine walk_end_at ⟨List.toArray (Value.agg (drv d) :: Value.pointer (some ⟨b, 0, none⟩) :: Value.pointer (some ⟨r, 0, none⟩) :: Value.pointer (some ⟨X, 0, none⟩) :: Value.pointer (some ⟨b, 3, none⟩) :: Value.pointer (some ⟨b, 3, none⟩) :: Value.bool d.f0 :: Value.pointer (some ⟨b, 2, none⟩) :: Value.int .u8 (d.id : Int) :: Value.int .i64 (d.id : Int) :: Value.pointer (some ⟨b, 10, none⟩) :: Value.slice (some ⟨b, 10, none⟩) 4 24 :: Value.string (txt (d.bs.take 4)) :: Value.pointer (some ⟨b, 3, none⟩) :: Value.pointer (some ⟨b, 5, none⟩) :: Value.bool d.f2 :: Value.agg #[.bool d.f0, .int .i64 (d.id : Int), .string (txt (d.bs.take 4)), .bool d.f2, .int .i64 0, .string ⟨#[]⟩] :: undef :: undef :: undef :: undef :: undef :: undef :: undef :: undef :: undef :: undef :: undef :: undef :: undef :: undef :: undef :: undef :: undef :: undef :: undef :: undef :: undef :: []), []⟩ (by kernel_rfl) (by kernel_rfl) ?_
  obtain ⟨Y0, hY0⟩ : ∃ Y, Y = W1.setRow X #[.bool d.f0, .int .i64 (d.id : Int), .string (txt (d.bs.take 4)), .bool d.f2, .int .i64 0, .string ⟨#[]⟩] := ⟨_, rfl⟩
  have D0 := Lib.hid (show Da 32 w Y0 d b r X (L12.adv L12.Ad.zero) #[.bool d.f0, .int .i64 (d.id : Int), .string (txt (d.bs.take 4)), .bool d.f2, .int .i64 0, .string ⟨#[]⟩] by
    have q1 := H0.out.src.lt
    have q2 := H0.out.res.lt
    have q3 := H0.out.bel.size
    have q4 := H0.out.le
    rw [hY0]
    exact ⟨(H0.out.src.below B1 q1).same (setRow_other _ _ _ _ (by omega)), (H0.out.res.below B1 q2).same (setRow_other _ _ _ _ (by omega)), setRow_heap _ _ _ _ _ _ N1, L12.below_setRow (H0.out.bel.trans (B1.mono q3)) (by omega) _, ⟨by omega, by omega⟩, ⟨by omega, by omega⟩⟩)
  rw [← hY0]
  clear hY0 N1 B1 L1 H0 HSR
  rcases Bool.eq_false_or_eq_true d.f1 with hf1 | hf1
  · skip
    -- f1
    have c4 := (D0.out.src.cell 4).trans ((dr_4 d).trans (by rw [hf1]))
    have hsl := fun W => sl_front W b 16 .i64 (by decide)
    have hcv := sl_text Y0 b d 16 24 (by rw [l7]; decide) D0.out.src
    have xk := (D0.out.new.cell 2).trans (show _ = some (.string (txt (d.bs.take 4))) by kernel_rfl)
    have fz := D0.out.new.frozen 2
    obtain ⟨Y1, hY⟩ : ∃ U, U = Y0.setCell ⟨X, 2, none⟩ (.string (txt (d.bs.take 16))) := ⟨_, rfl⟩
    have D1 := Lib.hid (by have := D0.out.set 2 (.string (txt (d.bs.take 16))); rw [← hY] at this; exact this)
    have HY := Lib.hid hY
    clear hY
    go_upto_region 4 with fail
    rw [← HY.out]
    clear HY xk fz D0 c4 hsl hcv
    rcases Bool.eq_false_or_eq_true d.f2 with hf2 | hf2
    · skip
      -- f2
      have x3 : Y1.cell? ⟨X, 3, none⟩ = some (.bool true) := (D1.out.new.cell 3).trans ((show _ = some (Value.bool d.f2) by kernel_rfl).trans (by rw [hf2]))
      have hcv := conv16 d.n l5
      have c8 := (D1.out.src.cell 8).trans (dr_8 d)
      have xk := (D1.out.new.cell 4).trans (show _ = some (.int .i64 0) by kernel_rfl)
      have fz := D1.out.new.frozen 4
      obtain ⟨Y2, hY⟩ : ∃ U, U = Y1.setCell ⟨X, 4, none⟩ (.int .i64 (d.n : Int)) := ⟨_, rfl⟩
      have D2 := Lib.hid (by have := D1.out.set 4 (.int .i64 (d.n : Int)); rw [← hY] at this; exact this)
      have HY := Lib.hid hY
      clear hY
      go_upto_region 6 with fail
      rw [← HY.out]
      clear HY xk fz D1 c8 x3 hcv
      rcases Bool.eq_false_or_eq_true d.f0 with hf0 | hf0
      · skip
        -- f0
        have x0 : Y2.cell? ⟨X, 0, none⟩ = some (.bool true) := (D2.out.new.cell 0).trans ((show _ = some (Value.bool d.f0) by kernel_rfl).trans (by rw [hf0]))
        go_upto_region 8 with fail
        clear x0
        have e : #[.bool d.f0, .int .i64 (d.id : Int), .string (txt (d.bs.take 16)), .bool d.f2, .int .i64 (d.n : Int), .string ⟨#[]⟩] = L12.adv d.ad := by unfold Dr.ad L12.adv; simp [hf0, hf1, hf2]
        have HF := Lib.hid (show Da 32 w Y2 d b r X (L12.adv L12.Ad.zero) (L12.adv d.ad) by rw [← e]; exact D2.out)
        clear e D2
        go_wp2_with (first
    | (refine wpList_load_row rfl 32 _ rfl X rfl 32 (L12.adv d.ad) (0, 0) _ ?_ Tryz.underlying32 rfl L12.ad_size ?_; exact HF.out.new)
    | (refine st_row rfl 32 _ _ rfl r rfl 32 (L12.adv L12.Ad.zero) (L12.adv d.ad) rfl ?_ rfl L12.ad_size (by kernel_rfl) ?_; exact HF.out.res; intro W3 g3 n3; have H3 := Lib.hid n3; have B3 := Lib.hid (HF.out.bel.trans (below_of_only g3 HF.out.le.1 HF.out.bel.size)); clear g3 n3))
        exact bodyPost_ret (results_cell_row rfl _ _ r 32 (L12.adv d.ad) (0, 0) _ rfl H3.out Tryz.underlying32 rfl L12.ad_size) rfl ⟨rfl, B3.out⟩
      · skip
        -- f0
        have x0 : Y2.cell? ⟨X, 0, none⟩ = some (.bool false) := (D2.out.new.cell 0).trans ((show _ = some (Value.bool d.f0) by kernel_rfl).trans (by rw [hf0]))
        have hsl := fun W => sl_back W b
        have hcv := sl_tail Y2 b d l7 D2.out.src
        have xk := (D2.out.new.cell 5).trans (show _ = some (.string ⟨#[]⟩) by kernel_rfl)
        have fz := D2.out.new.frozen 5
        obtain ⟨Y3, hY⟩ : ∃ U, U = Y2.setCell ⟨X, 5, none⟩ (.string (txt (d.bs.drop 16))) := ⟨_, rfl⟩
        have D3 := Lib.hid (by have := D2.out.set 5 (.string (txt (d.bs.drop 16))); rw [← hY] at this; exact this)
        have HY := Lib.hid hY
        clear hY
        go_upto_region 8 with fail
        rw [← HY.out]
        clear HY xk fz D2 x0 hsl hcv
        have e : #[.bool d.f0, .int .i64 (d.id : Int), .string (txt (d.bs.take 16)), .bool d.f2, .int .i64 (d.n : Int), .string (txt (d.bs.drop 16))] = L12.adv d.ad := by unfold Dr.ad L12.adv; simp [hf0, hf1, hf2]
        have HF := Lib.hid (show Da 32 w Y3 d b r X (L12.adv L12.Ad.zero) (L12.adv d.ad) by rw [← e]; exact D3.out)
        clear e D3
        go_wp2_with (first
    | (refine wpList_load_row rfl 32 _ rfl X rfl 32 (L12.adv d.ad) (0, 0) _ ?_ Tryz.underlying32 rfl L12.ad_size ?_; exact HF.out.new)
    | (refine st_row rfl 32 _ _ rfl r rfl 32 (L12.adv L12.Ad.zero) (L12.adv d.ad) rfl ?_ rfl L12.ad_size (by kernel_rfl) ?_; exact HF.out.res; intro W3 g3 n3; have H3 := Lib.hid n3; have B3 := Lib.hid (HF.out.bel.trans (below_of_only g3 HF.out.le.1 HF.out.bel.size)); clear g3 n3))
        exact bodyPost_ret (results_cell_row rfl _ _ r 32 (L12.adv d.ad) (0, 0) _ rfl H3.out Tryz.underlying32 rfl L12.ad_size) rfl ⟨rfl, B3.out⟩
    · skip
      -- f2
      have x3 : Y1.cell? ⟨X, 3, none⟩ = some (.bool false) := (D1.out.new.cell 3).trans ((show _ = some (Value.bool d.f2) by kernel_rfl).trans (by rw [hf2]))
      go_upto_region 6 with fail
      clear x3
      rcases Bool.eq_false_or_eq_true d.f0 with hf0 | hf0
      · skip
        -- f0
        have x0 : Y1.cell? ⟨X, 0, none⟩ = some (.bool true) := (D1.out.new.cell 0).trans ((show _ = some (Value.bool d.f0) by kernel_rfl).trans (by rw [hf0]))
        go_upto_region 8 with fail
        clear x0
        have e : #[.bool d.f0, .int .i64 (d.id : Int), .string (txt (d.bs.take 16)), .bool d.f2, .int .i64 0, .string ⟨#[]⟩] = L12.adv d.ad := by unfold Dr.ad L12.adv; simp [hf0, hf1, hf2]
        have HF := Lib.hid (show Da 32 w Y1 d b r X (L12.adv L12.Ad.zero) (L12.adv d.ad) by rw [← e]; exact D1.out)
        clear e D1
        go_wp2_with (first
    | (refine wpList_load_row rfl 32 _ rfl X rfl 32 (L12.adv d.ad) (0, 0) _ ?_ Tryz.underlying32 rfl L12.ad_size ?_; exact HF.out.new)
    | (refine st_row rfl 32 _ _ rfl r rfl 32 (L12.adv L12.Ad.zero) (L12.adv d.ad) rfl ?_ rfl L12.ad_size (by kernel_rfl) ?_; exact HF.out.res; intro W3 g3 n3; have H3 := Lib.hid n3; have B3 := Lib.hid (HF.out.bel.trans (below_of_only g3 HF.out.le.1 HF.out.bel.size)); clear g3 n3))
        exact bodyPost_ret (results_cell_row rfl _ _ r 32 (L12.adv d.ad) (0, 0) _ rfl H3.out Tryz.underlying32 rfl L12.ad_size) rfl ⟨rfl, B3.out⟩
      · skip
        -- f0
        have x0 : Y1.cell? ⟨X, 0, none⟩ = some (.bool false) := (D1.out.new.cell 0).trans ((show _ = some (Value.bool d.f0) by kernel_rfl).trans (by rw [hf0]))
        have hsl := fun W => sl_back W b
        have hcv := sl_tail Y1 b d l7 D1.out.src
        have xk := (D1.out.new.cell 5).trans (show _ = some (.string ⟨#[]⟩) by kernel_rfl)
        have fz := D1.out.new.frozen 5
        obtain ⟨Y2, hY⟩ : ∃ U, U = Y1.setCell ⟨X, 5, none⟩ (.string (txt (d.bs.drop 16))) := ⟨_, rfl⟩
        have D2 := Lib.hid (by have := D1.out.set 5 (.string (txt (d.bs.drop 16))); rw [← hY] at this; exact this)
        have HY := Lib.hid hY
        clear hY
        go_upto_region 8 with fail
        rw [← HY.out]
        clear HY xk fz D1 x0 hsl hcv
        have e : #[.bool d.f0, .int .i64 (d.id : Int), .string (txt (d.bs.take 16)), .bool d.f2, .int .i64 0, .string (txt (d.bs.drop 16))] = L12.adv d.ad := by unfold Dr.ad L12.adv; simp [hf0, hf1, hf2]
        have HF := Lib.hid (show Da 32 w Y2 d b r X (L12.adv L12.Ad.zero) (L12.adv d.ad) by rw [← e]; exact D2.out)
        clear e D2
        go_wp2_with (first
    | (refine wpList_load_row rfl 32 _ rfl X rfl 32 (L12.adv d.ad) (0, 0) _ ?_ Tryz.underlying32 rfl L12.ad_size ?_; exact HF.out.new)
    | (refine st_row rfl 32 _ _ rfl r rfl 32 (L12.adv L12.Ad.zero) (L12.adv d.ad) rfl ?_ rfl L12.ad_size (by kernel_rfl) ?_; exact HF.out.res; intro W3 g3 n3; have H3 := Lib.hid n3; have B3 := Lib.hid (HF.out.bel.trans (below_of_only g3 HF.out.le.1 HF.out.bel.size)); clear g3 n3))
        exact bodyPost_ret (results_cell_row rfl _ _ r 32 (L12.adv d.ad) (0, 0) _ rfl H3.out Tryz.underlying32 rfl L12.ad_size) rfl ⟨rfl, B3.out⟩
  · skip
    -- f1
    have c4 := (D0.out.src.cell 4).trans ((dr_4 d).trans (by rw [hf1]))
    go_upto_region 4 with fail
    clear c4
    rcases Bool.eq_false_or_eq_true d.f2 with hf2 | hf2
    · skip
      -- f2
      have x3 : Y0.cell? ⟨X, 3, none⟩ = some (.bool true) := (D0.out.new.cell 3).trans ((show _ = some (Value.bool d.f2) by kernel_rfl).trans (by rw [hf2]))
      have hcv := conv16 d.n l5
      have c8 := (D0.out.src.cell 8).trans (dr_8 d)
      have xk := (D0.out.new.cell 4).trans (show _ = some (.int .i64 0) by kernel_rfl)
      have fz := D0.out.new.frozen 4
      obtain ⟨Y1, hY⟩ : ∃ U, U = Y0.setCell ⟨X, 4, none⟩ (.int .i64 (d.n : Int)) := ⟨_, rfl⟩
      have D1 := Lib.hid (by have := D0.out.set 4 (.int .i64 (d.n : Int)); rw [← hY] at this; exact this)
      have HY := Lib.hid hY
      clear hY
      go_upto_region 6 with fail
      rw [← HY.out]
      clear HY xk fz D0 c8 x3 hcv
      rcases Bool.eq_false_or_eq_true d.f0 with hf0 | hf0
      · skip
        -- f0
        have x0 : Y1.cell? ⟨X, 0, none⟩ = some (.bool true) := (D1.out.new.cell 0).trans ((show _ = some (Value.bool d.f0) by kernel_rfl).trans (by rw [hf0]))
        go_upto_region 8 with fail
        clear x0
        have e : #[.bool d.f0, .int .i64 (d.id : Int), .string (txt (d.bs.take 4)), .bool d.f2, .int .i64 (d.n : Int), .string ⟨#[]⟩] = L12.adv d.ad := by unfold Dr.ad L12.adv; simp [hf0, hf1, hf2]
        have HF := Lib.hid (show Da 32 w Y1 d b r X (L12.adv L12.Ad.zero) (L12.adv d.ad) by rw [← e]; exact D1.out)
        clear e D1
        go_wp2_with (first
    | (refine wpList_load_row rfl 32 _ rfl X rfl 32 (L12.adv d.ad) (0, 0) _ ?_ Tryz.underlying32 rfl L12.ad_size ?_; exact HF.out.new)
    | (refine st_row rfl 32 _ _ rfl r rfl 32 (L12.adv L12.Ad.zero) (L12.adv d.ad) rfl ?_ rfl L12.ad_size (by kernel_rfl) ?_; exact HF.out.res; intro W3 g3 n3; have H3 := Lib.hid n3; have B3 := Lib.hid (HF.out.bel.trans (below_of_only g3 HF.out.le.1 HF.out.bel.size)); clear g3 n3))
        exact bodyPost_ret (results_cell_row rfl _ _ r 32 (L12.adv d.ad) (0, 0) _ rfl H3.out Tryz.underlying32 rfl L12.ad_size) rfl ⟨rfl, B3.out⟩
      · skip
        -- f0
        have x0 : Y1.cell? ⟨X, 0, none⟩ = some (.bool false) := (D1.out.new.cell 0).trans ((show _ = some (Value.bool d.f0) by kernel_rfl).trans (by rw [hf0]))
        have hsl := fun W => sl_back W b
        have hcv := sl_tail Y1 b d l7 D1.out.src
        have xk := (D1.out.new.cell 5).trans (show _ = some (.string ⟨#[]⟩) by kernel_rfl)
        have fz := D1.out.new.frozen 5
        obtain ⟨Y2, hY⟩ : ∃ U, U = Y1.setCell ⟨X, 5, none⟩ (.string (txt (d.bs.drop 16))) := ⟨_, rfl⟩
        have D2 := Lib.hid (by have := D1.out.set 5 (.string (txt (d.bs.drop 16))); rw [← hY] at this; exact this)
        have HY := Lib.hid hY
        clear hY
        go_upto_region 8 with fail
        rw [← HY.out]
        clear HY xk fz D1 x0 hsl hcv
        have e : #[.bool d.f0, .int .i64 (d.id : Int), .string (txt (d.bs.take 4)), .bool d.f2, .int .i64 (d.n : Int), .string (txt (d.bs.drop 16))] = L12.adv d.ad := by unfold Dr.ad L12.adv; simp [hf0, hf1, hf2]
        have HF := Lib.hid (show Da 32 w Y2 d b r X (L12.adv L12.Ad.zero) (L12.adv d.ad) by rw [← e]; exact D2.out)
        clear e D2
        go_wp2_with (first
    | (refine wpList_load_row rfl 32 _ rfl X rfl 32 (L12.adv d.ad) (0, 0) _ ?_ Tryz.underlying32 rfl L12.ad_size ?_; exact HF.out.new)
    | (refine st_row rfl 32 _ _ rfl r rfl 32 (L12.adv L12.Ad.zero) (L12.adv d.ad) rfl ?_ rfl L12.ad_size (by kernel_rfl) ?_; exact HF.out.res; intro W3 g3 n3; have H3 := Lib.hid n3; have B3 := Lib.hid (HF.out.bel.trans (below_of_only g3 HF.out.le.1 HF.out.bel.size)); clear g3 n3))
        exact bodyPost_ret (results_cell_row rfl _ _ r 32 (L12.adv d.ad) (0, 0) _ rfl H3.out Tryz.underlying32 rfl L12.ad_size) rfl ⟨rfl, B3.out⟩
    · skip
      -- f2
      have x3 : Y0.cell? ⟨X, 3, none⟩ = some (.bool false) := (D0.out.new.cell 3).trans ((show _ = some (Value.bool d.f2) by kernel_rfl).trans (by rw [hf2]))
      go_upto_region 6 with fail
      clear x3
      rcases Bool.eq_false_or_eq_true d.f0 with hf0 | hf0
      · skip
        -- f0
        have x0 : Y0.cell? ⟨X, 0, none⟩ = some (.bool true) := (D0.out.new.cell 0).trans ((show _ = some (Value.bool d.f0) by kernel_rfl).trans (by rw [hf0]))
        go_upto_region 8 with fail
        clear x0
        have e : #[.bool d.f0, .int .i64 (d.id : Int), .string (txt (d.bs.take 4)), .bool d.f2, .int .i64 0, .string ⟨#[]⟩] = L12.adv d.ad := by unfold Dr.ad L12.adv; simp [hf0, hf1, hf2]
        have HF := Lib.hid (show Da 32 w Y0 d b r X (L12.adv L12.Ad.zero) (L12.adv d.ad) by rw [← e]; exact D0.out)
        clear e D0
        go_wp2_with (first
    | (refine wpList_load_row rfl 32 _ rfl X rfl 32 (L12.adv d.ad) (0, 0) _ ?_ Tryz.underlying32 rfl L12.ad_size ?_; exact HF.out.new)
    | (refine st_row rfl 32 _ _ rfl r rfl 32 (L12.adv L12.Ad.zero) (L12.adv d.ad) rfl ?_ rfl L12.ad_size (by kernel_rfl) ?_; exact HF.out.res; intro W3 g3 n3; have H3 := Lib.hid n3; have B3 := Lib.hid (HF.out.bel.trans (below_of_only g3 HF.out.le.1 HF.out.bel.size)); clear g3 n3))
        exact bodyPost_ret (results_cell_row rfl _ _ r 32 (L12.adv d.ad) (0, 0) _ rfl H3.out Tryz.underlying32 rfl L12.ad_size) rfl ⟨rfl, B3.out⟩
      · skip
        -- f0
        have x0 : Y0.cell? ⟨X, 0, none⟩ = some (.bool false) := (D0.out.new.cell 0).trans ((show _ = some (Value.bool d.f0) by kernel_rfl).trans (by rw [hf0]))
        have hsl := fun W => sl_back W b
        have hcv := sl_tail Y0 b d l7 D0.out.src
        have xk := (D0.out.new.cell 5).trans (show _ = some (.string ⟨#[]⟩) by kernel_rfl)
        have fz := D0.out.new.frozen 5
        obtain ⟨Y1, hY⟩ : ∃ U, U = Y0.setCell ⟨X, 5, none⟩ (.string (txt (d.bs.drop 16))) := ⟨_, rfl⟩
        have D1 := Lib.hid (by have := D0.out.set 5 (.string (txt (d.bs.drop 16))); rw [← hY] at this; exact this)
        have HY := Lib.hid hY
        clear hY
        go_upto_region 8 with fail
        rw [← HY.out]
        clear HY xk fz D0 x0 hsl hcv
        have e : #[.bool d.f0, .int .i64 (d.id : Int), .string (txt (d.bs.take 4)), .bool d.f2, .int .i64 0, .string (txt (d.bs.drop 16))] = L12.adv d.ad := by unfold Dr.ad L12.adv; simp [hf0, hf1, hf2]
        have HF := Lib.hid (show Da 32 w Y1 d b r X (L12.adv L12.Ad.zero) (L12.adv d.ad) by rw [← e]; exact D1.out)
        clear e D1
        go_wp2_with (first
    | (refine wpList_load_row rfl 32 _ rfl X rfl 32 (L12.adv d.ad) (0, 0) _ ?_ Tryz.underlying32 rfl L12.ad_size ?_; exact HF.out.new)
    | (refine st_row rfl 32 _ _ rfl r rfl 32 (L12.adv L12.Ad.zero) (L12.adv d.ad) rfl ?_ rfl L12.ad_size (by kernel_rfl) ?_; exact HF.out.res; intro W3 g3 n3; have H3 := Lib.hid n3; have B3 := Lib.hid (HF.out.bel.trans (below_of_only g3 HF.out.le.1 HF.out.bel.size)); clear g3 n3))
        exact bodyPost_ret (results_cell_row rfl _ _ r 32 (L12.adv d.ad) (0, 0) _ rfl H3.out Tryz.underlying32 rfl L12.ad_size) rfl ⟨rfl, B3.out⟩
set_option maxHeartbeats 1000000 in
set_option maxRecDepth 100000 in
theorem join_0 (d : Dr) (hd : d.Ok) (hf : d.what % 3 = 0) (w : World) : Calls Tryz.prog 30 #[.agg (drv d)] w fun e w' => e = .returned (.agg (L10.jnv d.jn)) ∧ Below w.heap.size w w' := by
  obtain ⟨-, l1, l2, l3, l4, l5, l6, l7⟩ := hd
  have hq : (d.what : Int) % 3 = 0 := by omega
  go_enter Tryz.func30, Tryz.ntmps30
  go_upto_region 1 with (first
    | (refine wp_box rfl 48 _ rfl (drv d) rfl ?_; intro U0 b hb hU)
    | (refine wp_new rfl 28 rfl (L10.jnv L10.Jn.zero) (fun _ => by kernel_rfl) ?_; intro U1 r hr hU1; have H0 := Lib.hid (Db.of hb hU hr hU1); clear hb hU hr hU1))
  have e : #[.int .i64 0, .bool d.f0, .int .i64 (d.id : Int), .int .u32 ((d.a : Int) % 4294967296), .int .u32 ((d.b : Int) % 4294967296), .string ⟨#[]⟩] = L10.jnv d.jn := by unfold Dr.jn L10.jnv; simp [hf]
  have HEE := Lib.hid e
  clear e
  have c1 := (H0.out.src.cell 1).trans (dr_1 d)
  have c2 := (H0.out.src.cell 2).trans (dr_2 d)
  have c3 := (H0.out.src.cell 3).trans (dr_3 d)
  have c6 := (H0.out.src.cell 6).trans (dr_6 d)
  have c7 := (H0.out.src.cell 7).trans (dr_7 d)
  go_wp2_with (refine st_row rfl 28 _ _ rfl r rfl 28 (L10.jnv L10.Jn.zero) (#[.int .i64 0, .bool d.f0, .int .i64 (d.id : Int), .int .u32 ((d.a : Int) % 4294967296), .int .u32 ((d.b : Int) % 4294967296), .string ⟨#[]⟩]) (by kernel_rfl) ?_ rfl L10.jn_size (by kernel_rfl) ?_; exact H0.out.res; intro W3 g3 n3; have H3 := Lib.hid (show Blk W3 r 28 (L10.jnv d.jn) by rw [← HEE.out]; exact n3); have B3 := Lib.hid (H0.out.bel.trans (below_of_only g3 H0.out.le H0.out.bel.size)); clear g3 n3)
  exact bodyPost_ret (results_cell_row rfl _ _ r 28 (L10.jnv d.jn) (0, 0) _ rfl H3.out Tryz.underlying28 rfl L10.jn_size) rfl ⟨rfl, B3.out⟩
set_option maxHeartbeats 1000000 in
set_option maxRecDepth 100000 in
theorem join_1 (d : Dr) (hd : d.Ok) (hf : d.what % 3 = 1) (w : World) : Calls Tryz.prog 30 #[.agg (drv d)] w fun e w' => e = .returned (.agg (L10.jnv d.jn)) ∧ Below w.heap.size w w' := by
  obtain ⟨-, l1, l2, l3, l4, l5, l6, l7⟩ := hd
  have hq : (d.what : Int) % 3 = 1 := by omega
  go_enter Tryz.func30, Tryz.ntmps30
  go_upto_region 1 with (first
    | (refine wp_box rfl 48 _ rfl (drv d) rfl ?_; intro U0 b hb hU)
    | (refine wp_new rfl 28 rfl (L10.jnv L10.Jn.zero) (fun _ => by kernel_rfl) ?_; intro U1 r hr hU1; have H0 := Lib.hid (Db.of hb hU hr hU1); clear hb hU hr hU1))
  have e : #[.int .i64 1, .bool d.f0, .int .i64 (d.id : Int), .int .u32 0, .int .u32 ((d.b : Int) % 4294967296), .string (txt (d.bs.take 8))] = L10.jnv d.jn := by unfold Dr.jn L10.jnv; simp [hf]
  have HEE := Lib.hid e
  clear e
  have c1 := (H0.out.src.cell 1).trans (dr_1 d)
  go_upto_region 5 with fail
  have HSR := Lib.hid H0.out.src
  have B0 : Below U1.heap.size U1 U1.drew := (Below.refl _ U1).drew
  refine walk_start 13 (fun W => Below U1.heap.size U1 W) (by kernel_rfl) (n := 14) rfl ?_
  obtain ⟨W0, hW0⟩ := eqx U1.drew
  rw [← hW0] at B0 ⊢
  clear hW0
  refine wkF 0 (.pointer (some ⟨b, 3, none⟩)) rfl B0 (wkF 1 (.pointer (some ⟨b, 3, none⟩)) rfl B0 (wkG 2 (.bool d.f0) rfl B0 (fun W q => xLd 4 (.tmp 24) ⟨b, 3, none⟩ (((HSR.out.below q HSR.out.lt).cell 3).trans (dr_3 d))) (wkF 3 (.pointer (some ⟨b, 2, none⟩)) rfl B0 (wkG 4 (.int .u8 (d.id : Int)) rfl B0 (fun W q => xLd 5 (.tmp 26) ⟨b, 2, none⟩ (((HSR.out.below q HSR.out.lt).cell 2).trans (dr_2 d))) (wkG 5 (.int .i64 (d.id : Int)) rfl B0 (fun W _ => ex_convert_to (v := .int .u8 (d.id : Int)) 5 3 (.tmp 27) (by kernel_rfl) (by kernel_rfl) (conv8 d.id l2 W)) (wkF 6 (.pointer (some ⟨b, 7, none⟩)) rfl B0 (wkG 7 (.int .u64 (d.b : Int)) rfl B0 (fun W q => xLd 22 (.tmp 29) ⟨b, 7, none⟩ (((HSR.out.below q HSR.out.lt).cell 7).trans (dr_7 d))) (wkG 8 (.int .u32 ((d.b : Int) % 4294967296)) rfl B0 (fun W _ => ex_convert_to (v := .int .u64 (d.b : Int)) 22 26 (.tmp 30) (by kernel_rfl) (by kernel_rfl) (conv64 d.b W)) (wkF 9 (.pointer (some ⟨b, 10, none⟩)) rfl B0 ?_)))))))))
  refine wkG 10 (.slice (some ⟨b, 10, none⟩) 8 24) rfl B0 (fun W _ => ex_slice_front (v := .pointer (some ⟨b, 10, none⟩)) (hv := .int .i64 8) 46 (.tmp 32) (.const (.int .i64 8)) (by kernel_rfl) (by kernel_rfl) (by kernel_rfl) (sl_front W b 8 .i64 (by decide))) (wkG 11 (.string (txt (d.bs.take 8))) rfl B0 (fun W q => ex_convert_to (v := .slice (some ⟨b, 10, none⟩) 8 24) 61 9 (.tmp 33) (by kernel_rfl) (by kernel_rfl) (sl_text W b d 8 24 (by rw [l7]; decide) (HSR.out.below q HSR.out.lt))) (wkF 12 (.agg #[.int .i64 1, .bool d.f0, .int .i64 (d.id : Int), .int .u32 0, .int .u32 ((d.b : Int) % 4294967296), .string (txt (d.bs.take 8))]) rfl B0 ?_))
  have N0 := H0.out.res.below B0 H0.out.res.lt
  refine walk_one 13 (by kernel_rfl) (do_last 13 rfl (by kernel_rfl) (by exact ex_store_row 28 (.tmp 2) (.tmp 35) (by kernel_rfl) r #[.int .i64 1, .bool d.f0, .int .i64 (d.id : Int), .int .u32 0, .int .u32 ((d.b : Int) % 4294967296), .string (txt (d.bs.take 8))] (by kernel_rfl) (by kernel_rfl) 28 (L10.jnv L10.Jn.zero) N0 L10.jn_size rfl (by kernel_rfl)) (by kernel_rfl) ?_)
  refine walk_end_at ⟨List.toArray (Value.agg (drv d) :: Value.pointer (some ⟨b, 0, none⟩) :: Value.pointer (some ⟨r, 0, none⟩) :: Value.pointer (some ⟨b, 1, none⟩) :: Value.int .u8 (d.what : Int) :: Value.int .u8 ((d.what : Int) % 3) :: Value.bool false :: Value.bool false :: undef :: undef :: undef :: undef :: undef :: undef :: undef :: undef :: undef :: undef :: undef :: undef :: undef :: Value.bool true :: Value.bool true :: Value.pointer (some ⟨b, 3, none⟩) :: Value.pointer (some ⟨b, 3, none⟩) :: Value.bool d.f0 :: Value.pointer (some ⟨b, 2, none⟩) :: Value.int .u8 (d.id : Int) :: Value.int .i64 (d.id : Int) :: Value.pointer (some ⟨b, 7, none⟩) :: Value.int .u64 (d.b : Int) :: Value.int .u32 ((d.b : Int) % 4294967296) :: Value.pointer (some ⟨b, 10, none⟩) :: Value.slice (some ⟨b, 10, none⟩) 8 24 :: Value.string (txt (d.bs.take 8)) :: Value.agg #[.int .i64 1, .bool d.f0, .int .i64 (d.id : Int), .int .u32 0, .int .u32 ((d.b : Int) % 4294967296), .string (txt (d.bs.take 8))] :: undef :: undef :: undef :: undef :: []), []⟩ (by kernel_rfl) (by kernel_rfl) ?_
  have H3 := Lib.hid (show Blk (W0.setRow r #[.int .i64 1, .bool d.f0, .int .i64 (d.id : Int), .int .u32 0, .int .u32 ((d.b : Int) % 4294967296), .string (txt (d.bs.take 8))]) r 28 (L10.jnv d.jn) by rw [← HEE.out]; exact setRow_heap _ _ _ _ _ _ N0)
  have B3 := Lib.hid (show Below w.heap.size w (W0.setRow r #[.int .i64 1, .bool d.f0, .int .i64 (d.id : Int), .int .u32 0, .int .u32 ((d.b : Int) % 4294967296), .string (txt (d.bs.take 8))]) from L12.below_setRow (H0.out.bel.trans (B0.mono H0.out.bel.size)) H0.out.le _)
  obtain ⟨W3, hW3⟩ : ∃ W, W = W0.setRow r #[.int .i64 1, .bool d.f0, .int .i64 (d.id : Int), .int .u32 0, .int .u32 ((d.b : Int) % 4294967296), .string (txt (d.bs.take 8))] := ⟨_, rfl⟩
  rw [← hW3] at H3 B3 ⊢
  clear hW3 N0 B0
  go_wp2_with fail
  exact bodyPost_ret (results_cell_row rfl _ _ r 28 (L10.jnv d.jn) (0, 0) _ (by kernel_rfl) H3.out Tryz.underlying28 rfl L10.jn_size) (by kernel_rfl) ⟨rfl, B3.out⟩
set_option maxHeartbeats 1000000 in
set_option maxRecDepth 100000 in
theorem join_2 (d : Dr) (hd : d.Ok) (hf : d.what % 3 = 2) (w : World) : Calls Tryz.prog 30 #[.agg (drv d)] w fun e w' => e = .returned (.agg (L10.jnv d.jn)) ∧ Below w.heap.size w w' := by
  obtain ⟨-, l1, l2, l3, l4, l5, l6, l7⟩ := hd
  have hq : (d.what : Int) % 3 = 2 := by omega
  go_enter Tryz.func30, Tryz.ntmps30
  go_upto_region 1 with (first
    | (refine wp_box rfl 48 _ rfl (drv d) rfl ?_; intro U0 b hb hU)
    | (refine wp_new rfl 28 rfl (L10.jnv L10.Jn.zero) (fun _ => by kernel_rfl) ?_; intro U1 r hr hU1; have H0 := Lib.hid (Db.of hb hU hr hU1); clear hb hU hr hU1))
  have e : #[.int .i64 2, .bool false, .int .i64 0, .int .u32 0, .int .u32 0, .string (txt (d.bs.take 20))] = L10.jnv d.jn := by unfold Dr.jn L10.jnv; simp [hf]
  have HEE := Lib.hid e
  clear e
  have c1 := (H0.out.src.cell 1).trans (dr_1 d)
  have hsl := fun W => sl_front W b 20 .i64 (by decide)
  have hcv := sl_text U1 b d 20 24 (by rw [l7]; decide) H0.out.src
  go_wp2_with (refine st_row rfl 28 _ _ rfl r rfl 28 (L10.jnv L10.Jn.zero) (#[.int .i64 2, .bool false, .int .i64 0, .int .u32 0, .int .u32 0, .string (txt (d.bs.take 20))]) (by kernel_rfl) ?_ rfl L10.jn_size (by kernel_rfl) ?_; exact H0.out.res; intro W3 g3 n3; have H3 := Lib.hid (show Blk W3 r 28 (L10.jnv d.jn) by rw [← HEE.out]; exact n3); have B3 := Lib.hid (H0.out.bel.trans (below_of_only g3 H0.out.le H0.out.bel.size)); clear g3 n3)
  exact bodyPost_ret (results_cell_row rfl _ _ r 28 (L10.jnv d.jn) (0, 0) _ rfl H3.out Tryz.underlying28 rfl L10.jn_size) rfl ⟨rfl, B3.out⟩
theorem join_any (d : Dr) (hd : d.Ok) (w : World) : Calls Tryz.prog 30 #[.agg (drv d)] w fun e w' => e = .returned (.agg (L10.jnv d.jn)) ∧ Below w.heap.size w w' := by
  have : d.what % 3 = 0 ∨ d.what % 3 = 1 ∨ d.what % 3 = 2 := by omega
  rcases this with h | h | h
  · exact join_0 d hd h w
  · exact join_1 d hd h w
  · exact join_2 d hd h w
theorem ex_shr32 {ρ : Operand → Value} {o : Oper} {w : World} (t u : TypeId) (x y : Operand) (ho : o.op = .binOp .shr t x y u) (a : Nat) (hx : ρ x = .int .u64 (a : Int)) (hy : ρ y = .int .u64 32) : (execOp ρ o).run Tryz.prog w = .ok (.value (.int .u64 ((a / 4294967296 : Nat) : Int))) w := by
  unfold execOp
  rw [ho]
  simp [hx, hy, go_sem]
theorem ex_rem8 {ρ : Operand → Value} {o : Oper} {w : World} (t u : TypeId) (x y : Operand) (ho : o.op = .binOp .rem t x y u) (a b c : Nat) (hx : ρ x = .int .u8 (a : Int)) (hy : ρ y = .int .u8 (b : Int)) (ht : Tryz.prog.underlying t = some (.int .u8)) (hb : b ≠ 0) (h : a % b = c) : (execOp ρ o).run Tryz.prog w = .ok (.value (.int .u8 (c : Int))) w := by
  subst h
  unfold execOp
  rw [ho]
  have e : (a : Int).tmod (b : Int) = (a : Int) % (b : Int) := Int.tmod_eq_emod_of_nonneg (by omega)
  simp [hx, hy, go_sem, hb, e]
theorem conv32 (u : Nat) (h : u ≤ 4294967295) (w : World) : (convert 22 26 (.int .u64 (u : Int))).run Tryz.prog w = .ok (.int .u32 (u : Int)) w := by
  rw [conv64, Int.emod_eq_of_lt (by omega) (by omega)]
theorem Da.drew {T : TypeId} {w W : World} {d : Dr} {b r X : Nat} {zs cs : Array Value} (h : Da T w W d b r X zs cs) : Da T w W.drew d b r X zs cs := ⟨h.src.drew, h.res.drew, h.new.drew, h.bel.drew, h.le, h.ne⟩
theorem one_skip {P : Program} {ops : Array Oper} {S : World → Prop} {Q : Exit → Act → World → Prop} {md : Region.Mode} {fuel : Nat} {listed : Array Bool} {a : Act} {w : World} (i : Nat) {o : Oper} {w' : World} (hi : ops[i]? = some o) (hr : Region.ready md ops listed = [i]) (hw : Region.wanted o (yielded ops a.tmps) = true) (he : (execOp a.eval o).run P w = .ok .skip w') (hS : S w')
    (h : wpAnyH P md ops Q S fuel (listed.setIfInBounds i true) (a.put o.dst undef) w') : wpAnyH P md ops Q S (fuel + 1) listed a w := by
  refine held_op hi hr hw ?_
  unfold Oper.wp
  rw [he]
  exact ⟨hS, h⟩
theorem blk_store {W : World} {g i : Nat} {t' : TypeId} {cs : Array Value} (h : Blk W g t' cs) (hi : i < cs.size) (t : TypeId) (v : Value) (ht : (Tryz.prog.info? t).map (·.size) = some 1) (hv : v.cells = #[v]) (h1 : v.oneCell' = true) : (storeVar t ⟨g, i, none⟩ v).run Tryz.prog W = .ok () (W.setCell ⟨g, i, none⟩ v) := by
  have hst : (store ((⟨g, i, none⟩ : Addr).add 0) v).run Tryz.prog W = .ok () (W.setCell ⟨g, i, none⟩ v) := by
    rw [show (⟨g, i, none⟩ : Addr).add 0 = ⟨g, i, none⟩ from rfl, run_store Tryz.prog W _ _ _ h1, h.cell i, Array.getElem?_eq_getElem hi]
    simp [h.frozen i]
  cases hq : Tryz.prog.info? t with
  | none => rw [hq] at ht; cases ht
  | some k =>
    have hs : k.size = 1 := by simpa [hq] using ht
    simp [storeVar, sizeOf, typeInfo, hq, hv, hs, storeCells, hst]
/-- A store into what is made, in a region that draws its order. -/
theorem stD {T : TypeId} {ops : Array Oper} {Q : Exit → Act → World → Prop} {md : Region.Mode} {fuel : Nat} {listed : Array Bool} {ac : Act} {w W : World} {d : Dr} {b r X : Nat} {zs cs : Array Value} (i j : Nat) {o : Oper} (v : Value) (t : TypeId) (p q : Operand) (hi : ops[i]? = some o) (D : Hid (Da T w W d b r X zs cs))
    (h : ∀ W', Hid (Da T w W' d b r X zs (cs.setIfInBounds j v)) → wpAnyH Tryz.prog md ops Q (fun W => Blk W b 48 (drv d)) fuel (listed.setIfInBounds i true) (ac.put o.dst undef) W')
    (hr : Region.ready md ops listed = [i] := by kernel_rfl) (hw : Region.wanted o (yielded ops ac.tmps) = true := by kernel_rfl) (ho : o.op = .store t p q := by kernel_rfl) (hp : ac.eval p = .pointer (some ⟨X, j, none⟩) := by kernel_rfl) (hq : ac.eval q = v := by kernel_rfl) (hj : j < cs.size := by (simp)) (ht : (Tryz.prog.info? t).map (·.size) = some 1 := by kernel_rfl)
    (hv : v.cells = #[v] := by rfl) (h1 : v.oneCell' = true := by rfl) : wpAnyH Tryz.prog md ops Q (fun W => Blk W b 48 (drv d)) (fuel + 1) listed ac W :=
  one_skip i hi hr hw (ex_store_cell t p q ho ⟨X, j, none⟩ v hp hq (blk_store D.out.new hj t v ht hv h1)) (D.out.set j v).src (h _ (Lib.hid (D.out.set j v)))
set_option maxHeartbeats 1000000 in
set_option maxRecDepth 100000 in
theorem dss_0 (d : Dr) (hd : d.Ok) (hf : d.what % 3 = 0) (w : World) : Calls Tryz.prog 31 #[.agg (drv d)] w fun e w' => e = .returned (.agg (L11.dsv d.ds)) ∧ Below w.heap.size w w' := by
  obtain ⟨-, l1, l2, l3, l4, l5, l6, l7⟩ := hd
  have hq : (d.what : Int) % 3 = 0 := by omega
  have HAQ := Lib.hid (show d.ha = true by unfold Dr.ha; simp [hf])
  have HMQ := Lib.hid (show d.hm = false by unfold Dr.hm; simp [hf])
  have hsb := Lib.hid (show decide (((d.id % 2 : Nat) : Int) = 1) = d.hs from by unfold Dr.hs; exact decide_eq_decide.2 (by omega))
  have hsh := Lib.hid (show d.a / 4294967296 ≤ 4294967295 by omega)
  go_enter Tryz.func31, Tryz.ntmps31
  go_upto_region 1 with (first
    | (refine wp_box rfl 48 _ rfl (drv d) rfl ?_; intro U0 b hb hU)
    | (refine wp_new rfl 30 rfl (L11.dsv L11.Ds.zero) (fun _ => by kernel_rfl) ?_; intro U1 r hr hU1; have H0 := Lib.hid (Db.of hb hU hr hU1); clear hb hU hr hU1))
  have c1 := (H0.out.src.cell 1).trans (dr_1 d)
  obtain ⟨X, hX⟩ := eqx U1.heap.size
  obtain ⟨W0, hW⟩ : ∃ W, W = U1.alloc (.cells #[.bool false, .bool true, .bool false, .int .u64 0, .bool false, .bool false, .int .u64 0, .int .u32 0, .int .i64 0, .bool false, .int .u16 0] 30) := ⟨_, rfl⟩
  have D0 := Lib.hid (H0.out.made hX hW)
  have HX := Lib.hid hX
  have HW := Lib.hid hW
  clear hX hW
  go_upto_region 2 with fail
  rw [← HW.out, ← HX.out]
  clear HX HW c1
  have x1 := (D0.out.new.cell 1).trans (show _ = some (Value.bool true) by kernel_rfl)
  go_upto_region 3 with fail
  clear x1
  rcases Bool.eq_false_or_eq_true d.f0 with hf0 | hf0
  · skip
    have c3 := (D0.out.src.cell 3).trans (dr_3 d)
    have xk := (D0.out.new.cell 2).trans (show _ = some (.bool false) by kernel_rfl)
    have fz := D0.out.new.frozen 2
    obtain ⟨Y1, hY⟩ : ∃ U, U = W0.setCell ⟨X, 2, none⟩ (.bool true) := ⟨_, rfl⟩
    have D1 := Lib.hid (by have := D0.out.set 2 (.bool true); rw [← hY] at this; exact this)
    have HY := Lib.hid hY
    clear hY
    go_upto_region 4 with fail
    rw [← HY.out]
    clear HY xk fz D0 c3
    have c6 := (D1.out.src.cell 6).trans (dr_6 d)
    have xk := (D1.out.new.cell 3).trans (show _ = some (.int .u64 0) by kernel_rfl)
    have fz := D1.out.new.frozen 3
    obtain ⟨Y2, hY⟩ : ∃ U, U = Y1.setCell ⟨X, 3, none⟩ (.int .u64 (d.a : Int)) := ⟨_, rfl⟩
    have D2 := Lib.hid (by have := D1.out.set 3 (.int .u64 (d.a : Int)); rw [← hY] at this; exact this)
    have HY := Lib.hid hY
    clear hY
    go_upto_region 5 with fail
    rw [← HY.out]
    clear HY xk fz D1 c6
    have x2 : Y2.cell? ⟨X, 2, none⟩ = some (.bool true) := (D2.out.new.cell 2).trans (by kernel_rfl)
    go_upto_region 7 with fail
    clear x2
    have x4 := (D2.out.new.cell 4).trans (show _ = some (Value.bool false) by kernel_rfl)
    go_upto_region 14 with fail
    clear x4
    have e : #[.bool false, .bool true, .bool true, .int .u64 (d.a : Int), .bool false, .bool false, .int .u64 0, .int .u32 0, .int .i64 0, .bool false, .int .u16 0] = L11.dsv d.ds := by unfold Dr.ds L11.dsv; simp [HAQ.out, HMQ.out, hf0]
    have HF := Lib.hid (show Da 30 w Y2 d b r X (L11.dsv L11.Ds.zero) (L11.dsv d.ds) by rw [← e]; exact D2.out)
    clear e D2
    go_wp2_with (first
    | (refine wpList_load_row rfl 30 _ rfl X rfl 30 (L11.dsv d.ds) (0, 0) _ ?_ Tryz.underlying30 rfl L11.ds_size ?_; exact HF.out.new)
    | (refine st_row rfl 30 _ _ rfl r rfl 30 (L11.dsv L11.Ds.zero) (L11.dsv d.ds) rfl ?_ rfl L11.ds_size (by kernel_rfl) ?_; exact HF.out.res; intro W3 g3 n3; have H3 := Lib.hid n3; have B3 := Lib.hid (HF.out.bel.trans (below_of_only g3 HF.out.le.1 HF.out.bel.size)); clear g3 n3))
    exact bodyPost_ret (results_cell_row rfl _ _ r 30 (L11.dsv d.ds) (0, 0) _ rfl H3.out Tryz.underlying30 rfl L11.ds_size) rfl ⟨rfl, B3.out⟩
  · skip
    have c3 := (D0.out.src.cell 3).trans (dr_3 d)
    have xk := (D0.out.new.cell 2).trans (show _ = some (.bool false) by kernel_rfl)
    have fz := D0.out.new.frozen 2
    obtain ⟨Y1, hY⟩ : ∃ U, U = W0.setCell ⟨X, 2, none⟩ (.bool false) := ⟨_, rfl⟩
    have D1 := Lib.hid (by have := D0.out.set 2 (.bool false); rw [← hY] at this; exact this)
    have HY := Lib.hid hY
    clear hY
    go_upto_region 4 with fail
    rw [← HY.out]
    clear HY xk fz D0 c3
    have c6 := (D1.out.src.cell 6).trans (dr_6 d)
    have xk := (D1.out.new.cell 3).trans (show _ = some (.int .u64 0) by kernel_rfl)
    have fz := D1.out.new.frozen 3
    obtain ⟨Y2, hY⟩ : ∃ U, U = Y1.setCell ⟨X, 3, none⟩ (.int .u64 (d.a : Int)) := ⟨_, rfl⟩
    have D2 := Lib.hid (by have := D1.out.set 3 (.int .u64 (d.a : Int)); rw [← hY] at this; exact this)
    have HY := Lib.hid hY
    clear hY
    go_upto_region 5 with fail
    rw [← HY.out]
    clear HY xk fz D1 c6
    have x2 : Y2.cell? ⟨X, 2, none⟩ = some (.bool false) := (D2.out.new.cell 2).trans (by kernel_rfl)
    have c6 := (D2.out.src.cell 6).trans (dr_6 d)
    have xk := (D2.out.new.cell 3).trans (show _ = some (.int .u64 (d.a : Int)) by kernel_rfl)
    have fz := D2.out.new.frozen 3
    obtain ⟨Y3, hY⟩ : ∃ U, U = Y2.setCell ⟨X, 3, none⟩ (.int .u64 ((d.a : Int) % 4294967296)) := ⟨_, rfl⟩
    have D3 := Lib.hid (by have := D2.out.set 3 (.int .u64 ((d.a : Int) % 4294967296)); rw [← hY] at this; exact this)
    have HY := Lib.hid hY
    clear hY
    go_upto_region 7 with fail
    rw [← HY.out]
    clear HY xk fz D2 c6 x2
    have x4 := (D3.out.new.cell 4).trans (show _ = some (Value.bool false) by kernel_rfl)
    go_upto_region 14 with fail
    clear x4
    have e : #[.bool false, .bool true, .bool false, .int .u64 ((d.a : Int) % 4294967296), .bool false, .bool false, .int .u64 0, .int .u32 0, .int .i64 0, .bool false, .int .u16 0] = L11.dsv d.ds := by unfold Dr.ds L11.dsv; simp [HAQ.out, HMQ.out, hf0]
    have HF := Lib.hid (show Da 30 w Y3 d b r X (L11.dsv L11.Ds.zero) (L11.dsv d.ds) by rw [← e]; exact D3.out)
    clear e D3
    go_wp2_with (first
    | (refine wpList_load_row rfl 30 _ rfl X rfl 30 (L11.dsv d.ds) (0, 0) _ ?_ Tryz.underlying30 rfl L11.ds_size ?_; exact HF.out.new)
    | (refine st_row rfl 30 _ _ rfl r rfl 30 (L11.dsv L11.Ds.zero) (L11.dsv d.ds) rfl ?_ rfl L11.ds_size (by kernel_rfl) ?_; exact HF.out.res; intro W3 g3 n3; have H3 := Lib.hid n3; have B3 := Lib.hid (HF.out.bel.trans (below_of_only g3 HF.out.le.1 HF.out.bel.size)); clear g3 n3))
    exact bodyPost_ret (results_cell_row rfl _ _ r 30 (L11.dsv d.ds) (0, 0) _ rfl H3.out Tryz.underlying30 rfl L11.ds_size) rfl ⟨rfl, B3.out⟩
set_option maxHeartbeats 1000000 in
set_option maxRecDepth 100000 in
theorem dss_1 (d : Dr) (hd : d.Ok) (hf : d.what % 3 = 1) (w : World) : Calls Tryz.prog 31 #[.agg (drv d)] w fun e w' => e = .returned (.agg (L11.dsv d.ds)) ∧ Below w.heap.size w w' := by
  obtain ⟨-, l1, l2, l3, l4, l5, l6, l7⟩ := hd
  have hq : (d.what : Int) % 3 = 1 := by omega
  have HAQ := Lib.hid (show d.ha = false by unfold Dr.ha; simp [hf])
  have HMQ := Lib.hid (show d.hm = true by unfold Dr.hm; simp [hf])
  have hsb := Lib.hid (show decide (((d.id % 2 : Nat) : Int) = 1) = d.hs from by unfold Dr.hs; exact decide_eq_decide.2 (by omega))
  have hsh := Lib.hid (show d.a / 4294967296 ≤ 4294967295 by omega)
  go_enter Tryz.func31, Tryz.ntmps31
  go_upto_region 1 with (first
    | (refine wp_box rfl 48 _ rfl (drv d) rfl ?_; intro U0 b hb hU)
    | (refine wp_new rfl 30 rfl (L11.dsv L11.Ds.zero) (fun _ => by kernel_rfl) ?_; intro U1 r hr hU1; have H0 := Lib.hid (Db.of hb hU hr hU1); clear hb hU hr hU1))
  have c1 := (H0.out.src.cell 1).trans (dr_1 d)
  obtain ⟨X, hX⟩ := eqx U1.heap.size
  obtain ⟨W0, hW⟩ : ∃ W, W = U1.alloc (.cells #[.bool false, .bool false, .bool false, .int .u64 0, .bool true, .bool false, .int .u64 0, .int .u32 0, .int .i64 0, .bool false, .int .u16 0] 30) := ⟨_, rfl⟩
  have D0 := Lib.hid (H0.out.made hX hW)
  have HX := Lib.hid hX
  have HW := Lib.hid hW
  clear hX hW
  go_upto_region 2 with fail
  rw [← HW.out, ← HX.out]
  clear HX HW c1
  have x1 := (D0.out.new.cell 1).trans (show _ = some (Value.bool false) by kernel_rfl)
  go_upto_region 7 with fail
  clear x1
  have x4 := (D0.out.new.cell 4).trans (show _ = some (Value.bool true) by kernel_rfl)
  go_upto_region 8 with fail
  clear x4
  have A1 := Lib.hid D0.out.drew
  refine held_start (fun W => Blk W b 48 (drv d)) (by kernel_rfl) (n := 16) rfl ?_
  obtain ⟨V1, hV⟩ : ∃ V, V = W0.drew := ⟨_, rfl⟩
  rw [← hV] at A1 ⊢
  clear hV D0
  refine stF 0 (.pointer (some ⟨b, 3, none⟩)) rfl A1.out.src (stF 1 (.pointer (some ⟨b, 4, none⟩)) rfl A1.out.src (stG 2 (.bool d.f1) rfl A1.out.src (fun W q => xLd 4 (.tmp 32) ⟨b, 4, none⟩ ((q.cell 4).trans (dr_4 d))) (stF 3 (.pointer (some ⟨b, 3, none⟩)) rfl A1.out.src (stF 4 (.pointer (some ⟨b, 5, none⟩)) rfl A1.out.src (stG 5 (.bool d.f2) rfl A1.out.src (fun W q => xLd 4 (.tmp 35) ⟨b, 5, none⟩ ((q.cell 5).trans (dr_5 d))) (stF 6 (.pointer (some ⟨b, 2, none⟩)) rfl A1.out.src (stG 7 (.int .u8 (d.id : Int)) rfl A1.out.src (fun W q => xLd 5 (.tmp 37) ⟨b, 2, none⟩ ((q.cell 2).trans (dr_2 d))) (stG 8 (.int .u8 ((d.id % 2 : Nat) : Int)) rfl A1.out.src (fun _ _ => ex_rem8 5 5 (.tmp 38) (.const (.int .u8 2)) (by kernel_rfl) d.id 2 (d.id % 2) (by kernel_rfl) (by kernel_rfl) (by kernel_rfl) (by decide) rfl) (stG 9 (.bool d.hs) rfl A1.out.src (fun _ _ => xEb .u8 5 5 (.tmp 39) (.const (.int .u8 1)) ((d.id % 2 : Nat) : Int) 1 d.hs hsb.out) ?_)))))))))
  refine stF 10 (.pointer (some ⟨X, 0, none⟩)) rfl A1.out.src ?_
  refine stD 11 0 (.bool d.f1) 4 (.tmp 41) (.tmp 33) rfl A1 ?_
  intro V2 A2
  clear A1
  refine stF 12 (.pointer (some ⟨X, 5, none⟩)) rfl A2.out.src ?_
  refine stD 13 5 (.bool d.f2) 4 (.tmp 42) (.tmp 36) rfl A2 ?_
  intro V3 A3
  clear A2
  refine stF 14 (.pointer (some ⟨X, 9, none⟩)) rfl A3.out.src ?_
  refine stD 15 9 (.bool d.hs) 4 (.tmp 43) (.tmp 40) rfl A3 ?_
  intro V4 A4
  clear A3
  refine held_end_at ⟨List.toArray (Value.agg (drv d) :: Value.pointer (some ⟨b, 0, none⟩) :: Value.pointer (some ⟨r, 0, none⟩) :: Value.pointer (some ⟨X, 0, none⟩) :: Value.pointer (some ⟨b, 1, none⟩) :: Value.int .u8 (d.what : Int) :: Value.int .u8 ((d.what : Int) % 3) :: Value.bool false :: Value.pointer (some ⟨b, 1, none⟩) :: Value.int .u8 (d.what : Int) :: Value.int .u8 ((d.what : Int) % 3) :: Value.bool true :: Value.agg #[.bool false, .bool false, .bool false, .int .u64 0, .bool true, .bool false, .int .u64 0, .int .u32 0, .int .i64 0, .bool false, .int .u16 0] :: Value.pointer (some ⟨X, 1, none⟩) :: Value.bool false :: undef :: undef :: undef :: undef :: undef :: undef :: undef :: undef :: undef :: undef :: undef :: undef :: undef :: undef :: Value.pointer (some ⟨X, 4, none⟩) :: Value.bool true :: Value.pointer (some ⟨b, 3, none⟩) :: Value.pointer (some ⟨b, 4, none⟩) :: Value.bool d.f1 :: Value.pointer (some ⟨b, 3, none⟩) :: Value.pointer (some ⟨b, 5, none⟩) :: Value.bool d.f2 :: Value.pointer (some ⟨b, 2, none⟩) :: Value.int .u8 (d.id : Int) :: Value.int .u8 ((d.id % 2 : Nat) : Int) :: Value.bool d.hs :: Value.pointer (some ⟨X, 0, none⟩) :: Value.pointer (some ⟨X, 5, none⟩) :: Value.pointer (some ⟨X, 9, none⟩) :: undef :: undef :: undef :: undef :: undef :: undef :: undef :: undef :: undef :: undef :: undef :: undef :: undef :: undef :: undef :: undef :: undef :: undef :: undef :: undef :: undef :: undef :: undef :: undef :: undef :: []), []⟩ (by kernel_rfl) (by kernel_rfl) ?_
  have A4b := Lib.hid (show Da 30 w V4 d b r X (L11.dsv L11.Ds.zero) #[.bool d.f1, .bool false, .bool false, .int .u64 0, .bool true, .bool d.f2, .int .u64 0, .int .u32 0, .int .i64 0, .bool d.hs, .int .u16 0] from A4.out)
  clear A4
  go_upto_region 9 with fail
  have A5 := Lib.hid A4b.out.drew
  refine held_start (fun W => Blk W b 48 (drv d)) (by kernel_rfl) (n := 15) rfl ?_
  obtain ⟨V5, hV⟩ : ∃ V, V = V4.drew := ⟨_, rfl⟩
  rw [← hV] at A5 ⊢
  clear hV A4b
  refine stF 0 (.pointer (some ⟨b, 7, none⟩)) rfl A5.out.src (stG 1 (.int .u64 (d.b : Int)) rfl A5.out.src (fun W q => xLd 22 (.tmp 44) ⟨b, 7, none⟩ ((q.cell 7).trans (dr_7 d))) (stF 2 (.pointer (some ⟨b, 6, none⟩)) rfl A5.out.src (stG 3 (.int .u64 (d.a : Int)) rfl A5.out.src (fun W q => xLd 22 (.tmp 46) ⟨b, 6, none⟩ ((q.cell 6).trans (dr_6 d))) (stG 4 (.int .u64 ((d.a / 4294967296 : Nat) : Int)) rfl A5.out.src (fun _ _ => ex_shr32 22 _ (.tmp 47) (.const (.int .u64 32)) rfl d.a (by kernel_rfl) (by kernel_rfl)) (stG 5 (.int .u32 ((d.a / 4294967296 : Nat) : Int)) rfl A5.out.src (fun W _ => ex_convert_to (v := .int .u64 ((d.a / 4294967296 : Nat) : Int)) 22 26 (.tmp 48) (by kernel_rfl) (by kernel_rfl) (conv32 _ hsh.out W)) (stF 6 (.pointer (some ⟨b, 8, none⟩)) rfl A5.out.src (stG 7 (.int .u16 (d.n : Int)) rfl A5.out.src (fun W q => xLd 23 (.tmp 50) ⟨b, 8, none⟩ ((q.cell 8).trans (dr_8 d))) (stG 8 (.int .i64 (d.n : Int)) rfl A5.out.src (fun W _ => ex_convert_to (v := .int .u16 (d.n : Int)) 23 3 (.tmp 51) (by kernel_rfl) (by kernel_rfl) (conv16 d.n l5 W)) (stF 9 (.pointer (some ⟨X, 6, none⟩)) rfl A5.out.src ?_)))))))))
  refine stD 10 6 (.int .u64 (d.b : Int)) 22 (.tmp 53) (.tmp 45) rfl A5 ?_
  intro V6 A6
  clear A5
  refine stF 11 (.pointer (some ⟨X, 7, none⟩)) rfl A6.out.src ?_
  refine stD 12 7 (.int .u32 ((d.a / 4294967296 : Nat) : Int)) 26 (.tmp 54) (.tmp 49) rfl A6 ?_
  intro V7 A7
  clear A6
  refine stF 13 (.pointer (some ⟨X, 8, none⟩)) rfl A7.out.src ?_
  refine stD 14 8 (.int .i64 (d.n : Int)) 3 (.tmp 55) (.tmp 52) rfl A7 ?_
  intro V8 A8
  clear A7
  refine held_end_at ⟨List.toArray (Value.agg (drv d) :: Value.pointer (some ⟨b, 0, none⟩) :: Value.pointer (some ⟨r, 0, none⟩) :: Value.pointer (some ⟨X, 0, none⟩) :: Value.pointer (some ⟨b, 1, none⟩) :: Value.int .u8 (d.what : Int) :: Value.int .u8 ((d.what : Int) % 3) :: Value.bool false :: Value.pointer (some ⟨b, 1, none⟩) :: Value.int .u8 (d.what : Int) :: Value.int .u8 ((d.what : Int) % 3) :: Value.bool true :: Value.agg #[.bool false, .bool false, .bool false, .int .u64 0, .bool true, .bool false, .int .u64 0, .int .u32 0, .int .i64 0, .bool false, .int .u16 0] :: Value.pointer (some ⟨X, 1, none⟩) :: Value.bool false :: undef :: undef :: undef :: undef :: undef :: undef :: undef :: undef :: undef :: undef :: undef :: undef :: undef :: undef :: Value.pointer (some ⟨X, 4, none⟩) :: Value.bool true :: Value.pointer (some ⟨b, 3, none⟩) :: Value.pointer (some ⟨b, 4, none⟩) :: Value.bool d.f1 :: Value.pointer (some ⟨b, 3, none⟩) :: Value.pointer (some ⟨b, 5, none⟩) :: Value.bool d.f2 :: Value.pointer (some ⟨b, 2, none⟩) :: Value.int .u8 (d.id : Int) :: Value.int .u8 ((d.id % 2 : Nat) : Int) :: Value.bool d.hs :: Value.pointer (some ⟨X, 0, none⟩) :: Value.pointer (some ⟨X, 5, none⟩) :: Value.pointer (some ⟨X, 9, none⟩) :: Value.pointer (some ⟨b, 7, none⟩) :: Value.int .u64 (d.b : Int) :: Value.pointer (some ⟨b, 6, none⟩) :: Value.int .u64 (d.a : Int) :: Value.int .u64 ((d.a / 4294967296 : Nat) : Int) :: Value.int .u32 ((d.a / 4294967296 : Nat) : Int) :: Value.pointer (some ⟨b, 8, none⟩) :: Value.int .u16 (d.n : Int) :: Value.int .i64 (d.n : Int) :: Value.pointer (some ⟨X, 6, none⟩) :: Value.pointer (some ⟨X, 7, none⟩) :: Value.pointer (some ⟨X, 8, none⟩) :: undef :: undef :: undef :: undef :: undef :: undef :: undef :: undef :: undef :: undef :: undef :: undef :: undef :: []), []⟩ (by kernel_rfl) (by kernel_rfl) ?_
  have A8b := Lib.hid (show Da 30 w V8 d b r X (L11.dsv L11.Ds.zero) #[.bool d.f1, .bool false, .bool false, .int .u64 0, .bool true, .bool d.f2, .int .u64 (d.b : Int), .int .u32 ((d.a / 4294967296 : Nat) : Int), .int .i64 (d.n : Int), .bool d.hs, .int .u16 0] from A8.out)
  clear A8
  go_upto_region 10 with fail
  rcases Bool.eq_false_or_eq_true d.f2 with hf2 | hf2
  · skip
    have x5 : V8.cell? ⟨X, 5, none⟩ = some (.bool true) := (A8b.out.new.cell 5).trans ((show _ = some (Value.bool d.f2) by kernel_rfl).trans (by rw [hf2]))
    go_upto_region 12 with fail
    clear x5
    rcases Bool.eq_false_or_eq_true d.hs with hhs | hhs
    · skip
      have x9 : V8.cell? ⟨X, 9, none⟩ = some (.bool true) := (A8b.out.new.cell 9).trans ((show _ = some (Value.bool d.hs) by kernel_rfl).trans (by rw [hhs]))
      have c9 := (A8b.out.src.cell 9).trans (dr_9 d)
      have xk := (A8b.out.new.cell 10).trans (show _ = some (.int .u16 0) by kernel_rfl)
      have fz := A8b.out.new.frozen 10
      obtain ⟨Y1, hY⟩ : ∃ U, U = V8.setCell ⟨X, 10, none⟩ (.int .u16 (d.m : Int)) := ⟨_, rfl⟩
      have D1 := Lib.hid (by have := A8b.out.set 10 (.int .u16 (d.m : Int)); rw [← hY] at this; exact this)
      have HY := Lib.hid hY
      clear hY
      go_upto_region 14 with fail
      rw [← HY.out]
      clear HY xk fz A8b c9 x9
      have e : #[.bool d.f1, .bool false, .bool false, .int .u64 0, .bool true, .bool d.f2, .int .u64 (d.b : Int), .int .u32 ((d.a / 4294967296 : Nat) : Int), .int .i64 (d.n : Int), .bool d.hs, .int .u16 (d.m : Int)] = L11.dsv d.ds := by unfold Dr.ds L11.dsv; simp [HAQ.out, HMQ.out, hf2, hhs]
      have HF := Lib.hid (show Da 30 w Y1 d b r X (L11.dsv L11.Ds.zero) (L11.dsv d.ds) by rw [← e]; exact D1.out)
      clear e D1
      go_wp2_with (first
    | (refine wpList_load_row rfl 30 _ rfl X rfl 30 (L11.dsv d.ds) (0, 0) _ ?_ Tryz.underlying30 rfl L11.ds_size ?_; exact HF.out.new)
    | (refine st_row rfl 30 _ _ rfl r rfl 30 (L11.dsv L11.Ds.zero) (L11.dsv d.ds) rfl ?_ rfl L11.ds_size (by kernel_rfl) ?_; exact HF.out.res; intro W3 g3 n3; have H3 := Lib.hid n3; have B3 := Lib.hid (HF.out.bel.trans (below_of_only g3 HF.out.le.1 HF.out.bel.size)); clear g3 n3))
      exact bodyPost_ret (results_cell_row rfl _ _ r 30 (L11.dsv d.ds) (0, 0) _ rfl H3.out Tryz.underlying30 rfl L11.ds_size) rfl ⟨rfl, B3.out⟩
    · skip
      have x9 : V8.cell? ⟨X, 9, none⟩ = some (.bool false) := (A8b.out.new.cell 9).trans ((show _ = some (Value.bool d.hs) by kernel_rfl).trans (by rw [hhs]))
      go_upto_region 14 with fail
      clear x9
      have e : #[.bool d.f1, .bool false, .bool false, .int .u64 0, .bool true, .bool d.f2, .int .u64 (d.b : Int), .int .u32 ((d.a / 4294967296 : Nat) : Int), .int .i64 (d.n : Int), .bool d.hs, .int .u16 0] = L11.dsv d.ds := by unfold Dr.ds L11.dsv; simp [HAQ.out, HMQ.out, hf2, hhs]
      have HF := Lib.hid (show Da 30 w V8 d b r X (L11.dsv L11.Ds.zero) (L11.dsv d.ds) by rw [← e]; exact A8b.out)
      clear e A8b
      go_wp2_with (first
    | (refine wpList_load_row rfl 30 _ rfl X rfl 30 (L11.dsv d.ds) (0, 0) _ ?_ Tryz.underlying30 rfl L11.ds_size ?_; exact HF.out.new)
    | (refine st_row rfl 30 _ _ rfl r rfl 30 (L11.dsv L11.Ds.zero) (L11.dsv d.ds) rfl ?_ rfl L11.ds_size (by kernel_rfl) ?_; exact HF.out.res; intro W3 g3 n3; have H3 := Lib.hid n3; have B3 := Lib.hid (HF.out.bel.trans (below_of_only g3 HF.out.le.1 HF.out.bel.size)); clear g3 n3))
      exact bodyPost_ret (results_cell_row rfl _ _ r 30 (L11.dsv d.ds) (0, 0) _ rfl H3.out Tryz.underlying30 rfl L11.ds_size) rfl ⟨rfl, B3.out⟩
  · skip
    have x5 : V8.cell? ⟨X, 5, none⟩ = some (.bool false) := (A8b.out.new.cell 5).trans ((show _ = some (Value.bool d.f2) by kernel_rfl).trans (by rw [hf2]))
    have c7 := (A8b.out.src.cell 7).trans (dr_7 d)
    have xk := (A8b.out.new.cell 6).trans (show _ = some (.int .u64 (d.b : Int)) by kernel_rfl)
    have fz := A8b.out.new.frozen 6
    obtain ⟨Y1, hY⟩ : ∃ U, U = V8.setCell ⟨X, 6, none⟩ (.int .u64 ((d.b : Int) % 4294967296)) := ⟨_, rfl⟩
    have D1 := Lib.hid (by have := A8b.out.set 6 (.int .u64 ((d.b : Int) % 4294967296)); rw [← hY] at this; exact this)
    have HY := Lib.hid hY
    clear hY
    go_upto_region 12 with fail
    rw [← HY.out]
    clear HY xk fz A8b c7 x5
    rcases Bool.eq_false_or_eq_true d.hs with hhs | hhs
    · skip
      have x9 : Y1.cell? ⟨X, 9, none⟩ = some (.bool true) := (D1.out.new.cell 9).trans ((show _ = some (Value.bool d.hs) by kernel_rfl).trans (by rw [hhs]))
      have c9 := (D1.out.src.cell 9).trans (dr_9 d)
      have xk := (D1.out.new.cell 10).trans (show _ = some (.int .u16 0) by kernel_rfl)
      have fz := D1.out.new.frozen 10
      obtain ⟨Y2, hY⟩ : ∃ U, U = Y1.setCell ⟨X, 10, none⟩ (.int .u16 (d.m : Int)) := ⟨_, rfl⟩
      have D2 := Lib.hid (by have := D1.out.set 10 (.int .u16 (d.m : Int)); rw [← hY] at this; exact this)
      have HY := Lib.hid hY
      clear hY
      go_upto_region 14 with fail
      rw [← HY.out]
      clear HY xk fz D1 c9 x9
      have e : #[.bool d.f1, .bool false, .bool false, .int .u64 0, .bool true, .bool d.f2, .int .u64 ((d.b : Int) % 4294967296), .int .u32 ((d.a / 4294967296 : Nat) : Int), .int .i64 (d.n : Int), .bool d.hs, .int .u16 (d.m : Int)] = L11.dsv d.ds := by unfold Dr.ds L11.dsv; simp [HAQ.out, HMQ.out, hf2, hhs]
      have HF := Lib.hid (show Da 30 w Y2 d b r X (L11.dsv L11.Ds.zero) (L11.dsv d.ds) by rw [← e]; exact D2.out)
      clear e D2
      go_wp2_with (first
    | (refine wpList_load_row rfl 30 _ rfl X rfl 30 (L11.dsv d.ds) (0, 0) _ ?_ Tryz.underlying30 rfl L11.ds_size ?_; exact HF.out.new)
    | (refine st_row rfl 30 _ _ rfl r rfl 30 (L11.dsv L11.Ds.zero) (L11.dsv d.ds) rfl ?_ rfl L11.ds_size (by kernel_rfl) ?_; exact HF.out.res; intro W3 g3 n3; have H3 := Lib.hid n3; have B3 := Lib.hid (HF.out.bel.trans (below_of_only g3 HF.out.le.1 HF.out.bel.size)); clear g3 n3))
      exact bodyPost_ret (results_cell_row rfl _ _ r 30 (L11.dsv d.ds) (0, 0) _ rfl H3.out Tryz.underlying30 rfl L11.ds_size) rfl ⟨rfl, B3.out⟩
    · skip
      have x9 : Y1.cell? ⟨X, 9, none⟩ = some (.bool false) := (D1.out.new.cell 9).trans ((show _ = some (Value.bool d.hs) by kernel_rfl).trans (by rw [hhs]))
      go_upto_region 14 with fail
      clear x9
      have e : #[.bool d.f1, .bool false, .bool false, .int .u64 0, .bool true, .bool d.f2, .int .u64 ((d.b : Int) % 4294967296), .int .u32 ((d.a / 4294967296 : Nat) : Int), .int .i64 (d.n : Int), .bool d.hs, .int .u16 0] = L11.dsv d.ds := by unfold Dr.ds L11.dsv; simp [HAQ.out, HMQ.out, hf2, hhs]
      have HF := Lib.hid (show Da 30 w Y1 d b r X (L11.dsv L11.Ds.zero) (L11.dsv d.ds) by rw [← e]; exact D1.out)
      clear e D1
      go_wp2_with (first
    | (refine wpList_load_row rfl 30 _ rfl X rfl 30 (L11.dsv d.ds) (0, 0) _ ?_ Tryz.underlying30 rfl L11.ds_size ?_; exact HF.out.new)
    | (refine st_row rfl 30 _ _ rfl r rfl 30 (L11.dsv L11.Ds.zero) (L11.dsv d.ds) rfl ?_ rfl L11.ds_size (by kernel_rfl) ?_; exact HF.out.res; intro W3 g3 n3; have H3 := Lib.hid n3; have B3 := Lib.hid (HF.out.bel.trans (below_of_only g3 HF.out.le.1 HF.out.bel.size)); clear g3 n3))
      exact bodyPost_ret (results_cell_row rfl _ _ r 30 (L11.dsv d.ds) (0, 0) _ rfl H3.out Tryz.underlying30 rfl L11.ds_size) rfl ⟨rfl, B3.out⟩
set_option maxHeartbeats 1000000 in
set_option maxRecDepth 100000 in
theorem dss_2 (d : Dr) (hd : d.Ok) (hf : d.what % 3 = 2) (w : World) : Calls Tryz.prog 31 #[.agg (drv d)] w fun e w' => e = .returned (.agg (L11.dsv d.ds)) ∧ Below w.heap.size w w' := by
  obtain ⟨-, l1, l2, l3, l4, l5, l6, l7⟩ := hd
  have hq : (d.what : Int) % 3 = 2 := by omega
  have HAQ := Lib.hid (show d.ha = true by unfold Dr.ha; simp [hf])
  have HMQ := Lib.hid (show d.hm = true by unfold Dr.hm; simp [hf])
  have hsb := Lib.hid (show decide (((d.id % 2 : Nat) : Int) = 1) = d.hs from by unfold Dr.hs; exact decide_eq_decide.2 (by omega))
  have hsh := Lib.hid (show d.a / 4294967296 ≤ 4294967295 by omega)
  go_enter Tryz.func31, Tryz.ntmps31
  go_upto_region 1 with (first
    | (refine wp_box rfl 48 _ rfl (drv d) rfl ?_; intro U0 b hb hU)
    | (refine wp_new rfl 30 rfl (L11.dsv L11.Ds.zero) (fun _ => by kernel_rfl) ?_; intro U1 r hr hU1; have H0 := Lib.hid (Db.of hb hU hr hU1); clear hb hU hr hU1))
  have c1 := (H0.out.src.cell 1).trans (dr_1 d)
  obtain ⟨X, hX⟩ := eqx U1.heap.size
  obtain ⟨W0, hW⟩ : ∃ W, W = U1.alloc (.cells #[.bool false, .bool true, .bool false, .int .u64 0, .bool true, .bool false, .int .u64 0, .int .u32 0, .int .i64 0, .bool false, .int .u16 0] 30) := ⟨_, rfl⟩
  have D0 := Lib.hid (H0.out.made hX hW)
  have HX := Lib.hid hX
  have HW := Lib.hid hW
  clear hX hW
  go_upto_region 2 with fail
  rw [← HW.out, ← HX.out]
  clear HX HW c1
  have x1 := (D0.out.new.cell 1).trans (show _ = some (Value.bool true) by kernel_rfl)
  go_upto_region 3 with fail
  clear x1
  rcases Bool.eq_false_or_eq_true d.f0 with hf0 | hf0
  · skip
    have c3 := (D0.out.src.cell 3).trans (dr_3 d)
    have xk := (D0.out.new.cell 2).trans (show _ = some (.bool false) by kernel_rfl)
    have fz := D0.out.new.frozen 2
    obtain ⟨Y1, hY⟩ : ∃ U, U = W0.setCell ⟨X, 2, none⟩ (.bool true) := ⟨_, rfl⟩
    have D1 := Lib.hid (by have := D0.out.set 2 (.bool true); rw [← hY] at this; exact this)
    have HY := Lib.hid hY
    clear hY
    go_upto_region 4 with fail
    rw [← HY.out]
    clear HY xk fz D0 c3
    have c6 := (D1.out.src.cell 6).trans (dr_6 d)
    have xk := (D1.out.new.cell 3).trans (show _ = some (.int .u64 0) by kernel_rfl)
    have fz := D1.out.new.frozen 3
    obtain ⟨Y2, hY⟩ : ∃ U, U = Y1.setCell ⟨X, 3, none⟩ (.int .u64 (d.a : Int)) := ⟨_, rfl⟩
    have D2 := Lib.hid (by have := D1.out.set 3 (.int .u64 (d.a : Int)); rw [← hY] at this; exact this)
    have HY := Lib.hid hY
    clear hY
    go_upto_region 5 with fail
    rw [← HY.out]
    clear HY xk fz D1 c6
    have x2 : Y2.cell? ⟨X, 2, none⟩ = some (.bool true) := (D2.out.new.cell 2).trans (by kernel_rfl)
    go_upto_region 7 with fail
    clear x2
    have x4 := (D2.out.new.cell 4).trans (show _ = some (Value.bool true) by kernel_rfl)
    go_upto_region 8 with fail
    clear x4
    have A1 := Lib.hid D2.out.drew
    refine held_start (fun W => Blk W b 48 (drv d)) (by kernel_rfl) (n := 16) rfl ?_
    obtain ⟨V1, hV⟩ : ∃ V, V = Y2.drew := ⟨_, rfl⟩
    rw [← hV] at A1 ⊢
    clear hV D2
    refine stF 0 (.pointer (some ⟨b, 3, none⟩)) rfl A1.out.src (stF 1 (.pointer (some ⟨b, 4, none⟩)) rfl A1.out.src (stG 2 (.bool d.f1) rfl A1.out.src (fun W q => xLd 4 (.tmp 32) ⟨b, 4, none⟩ ((q.cell 4).trans (dr_4 d))) (stF 3 (.pointer (some ⟨b, 3, none⟩)) rfl A1.out.src (stF 4 (.pointer (some ⟨b, 5, none⟩)) rfl A1.out.src (stG 5 (.bool d.f2) rfl A1.out.src (fun W q => xLd 4 (.tmp 35) ⟨b, 5, none⟩ ((q.cell 5).trans (dr_5 d))) (stF 6 (.pointer (some ⟨b, 2, none⟩)) rfl A1.out.src (stG 7 (.int .u8 (d.id : Int)) rfl A1.out.src (fun W q => xLd 5 (.tmp 37) ⟨b, 2, none⟩ ((q.cell 2).trans (dr_2 d))) (stG 8 (.int .u8 ((d.id % 2 : Nat) : Int)) rfl A1.out.src (fun _ _ => ex_rem8 5 5 (.tmp 38) (.const (.int .u8 2)) (by kernel_rfl) d.id 2 (d.id % 2) (by kernel_rfl) (by kernel_rfl) (by kernel_rfl) (by decide) rfl) (stG 9 (.bool d.hs) rfl A1.out.src (fun _ _ => xEb .u8 5 5 (.tmp 39) (.const (.int .u8 1)) ((d.id % 2 : Nat) : Int) 1 d.hs hsb.out) ?_)))))))))
    refine stF 10 (.pointer (some ⟨X, 0, none⟩)) rfl A1.out.src ?_
    refine stD 11 0 (.bool d.f1) 4 (.tmp 41) (.tmp 33) rfl A1 ?_
    intro V2 A2
    clear A1
    refine stF 12 (.pointer (some ⟨X, 5, none⟩)) rfl A2.out.src ?_
    refine stD 13 5 (.bool d.f2) 4 (.tmp 42) (.tmp 36) rfl A2 ?_
    intro V3 A3
    clear A2
    refine stF 14 (.pointer (some ⟨X, 9, none⟩)) rfl A3.out.src ?_
    refine stD 15 9 (.bool d.hs) 4 (.tmp 43) (.tmp 40) rfl A3 ?_
    intro V4 A4
    clear A3
    refine held_end_at ⟨List.toArray (Value.agg (drv d) :: Value.pointer (some ⟨b, 0, none⟩) :: Value.pointer (some ⟨r, 0, none⟩) :: Value.pointer (some ⟨X, 0, none⟩) :: Value.pointer (some ⟨b, 1, none⟩) :: Value.int .u8 (d.what : Int) :: Value.int .u8 ((d.what : Int) % 3) :: Value.bool true :: Value.pointer (some ⟨b, 1, none⟩) :: Value.int .u8 (d.what : Int) :: Value.int .u8 ((d.what : Int) % 3) :: Value.bool true :: Value.agg #[.bool false, .bool true, .bool false, .int .u64 0, .bool true, .bool false, .int .u64 0, .int .u32 0, .int .i64 0, .bool false, .int .u16 0] :: Value.pointer (some ⟨X, 1, none⟩) :: Value.bool true :: Value.pointer (some ⟨b, 3, none⟩) :: Value.pointer (some ⟨b, 3, none⟩) :: Value.bool true :: Value.pointer (some ⟨X, 2, none⟩) :: Value.pointer (some ⟨b, 6, none⟩) :: Value.int .u64 (d.a : Int) :: Value.pointer (some ⟨X, 3, none⟩) :: Value.pointer (some ⟨X, 2, none⟩) :: Value.bool true :: Value.bool false :: undef :: undef :: undef :: undef :: Value.pointer (some ⟨X, 4, none⟩) :: Value.bool true :: Value.pointer (some ⟨b, 3, none⟩) :: Value.pointer (some ⟨b, 4, none⟩) :: Value.bool d.f1 :: Value.pointer (some ⟨b, 3, none⟩) :: Value.pointer (some ⟨b, 5, none⟩) :: Value.bool d.f2 :: Value.pointer (some ⟨b, 2, none⟩) :: Value.int .u8 (d.id : Int) :: Value.int .u8 ((d.id % 2 : Nat) : Int) :: Value.bool d.hs :: Value.pointer (some ⟨X, 0, none⟩) :: Value.pointer (some ⟨X, 5, none⟩) :: Value.pointer (some ⟨X, 9, none⟩) :: undef :: undef :: undef :: undef :: undef :: undef :: undef :: undef :: undef :: undef :: undef :: undef :: undef :: undef :: undef :: undef :: undef :: undef :: undef :: undef :: undef :: undef :: undef :: undef :: undef :: []), []⟩ (by kernel_rfl) (by kernel_rfl) ?_
    have A4b := Lib.hid (show Da 30 w V4 d b r X (L11.dsv L11.Ds.zero) #[.bool d.f1, .bool true, .bool true, .int .u64 (d.a : Int), .bool true, .bool d.f2, .int .u64 0, .int .u32 0, .int .i64 0, .bool d.hs, .int .u16 0] from A4.out)
    clear A4
    go_upto_region 9 with fail
    have A5 := Lib.hid A4b.out.drew
    refine held_start (fun W => Blk W b 48 (drv d)) (by kernel_rfl) (n := 15) rfl ?_
    obtain ⟨V5, hV⟩ : ∃ V, V = V4.drew := ⟨_, rfl⟩
    rw [← hV] at A5 ⊢
    clear hV A4b
    refine stF 0 (.pointer (some ⟨b, 7, none⟩)) rfl A5.out.src (stG 1 (.int .u64 (d.b : Int)) rfl A5.out.src (fun W q => xLd 22 (.tmp 44) ⟨b, 7, none⟩ ((q.cell 7).trans (dr_7 d))) (stF 2 (.pointer (some ⟨b, 6, none⟩)) rfl A5.out.src (stG 3 (.int .u64 (d.a : Int)) rfl A5.out.src (fun W q => xLd 22 (.tmp 46) ⟨b, 6, none⟩ ((q.cell 6).trans (dr_6 d))) (stG 4 (.int .u64 ((d.a / 4294967296 : Nat) : Int)) rfl A5.out.src (fun _ _ => ex_shr32 22 _ (.tmp 47) (.const (.int .u64 32)) rfl d.a (by kernel_rfl) (by kernel_rfl)) (stG 5 (.int .u32 ((d.a / 4294967296 : Nat) : Int)) rfl A5.out.src (fun W _ => ex_convert_to (v := .int .u64 ((d.a / 4294967296 : Nat) : Int)) 22 26 (.tmp 48) (by kernel_rfl) (by kernel_rfl) (conv32 _ hsh.out W)) (stF 6 (.pointer (some ⟨b, 8, none⟩)) rfl A5.out.src (stG 7 (.int .u16 (d.n : Int)) rfl A5.out.src (fun W q => xLd 23 (.tmp 50) ⟨b, 8, none⟩ ((q.cell 8).trans (dr_8 d))) (stG 8 (.int .i64 (d.n : Int)) rfl A5.out.src (fun W _ => ex_convert_to (v := .int .u16 (d.n : Int)) 23 3 (.tmp 51) (by kernel_rfl) (by kernel_rfl) (conv16 d.n l5 W)) (stF 9 (.pointer (some ⟨X, 6, none⟩)) rfl A5.out.src ?_)))))))))
    refine stD 10 6 (.int .u64 (d.b : Int)) 22 (.tmp 53) (.tmp 45) rfl A5 ?_
    intro V6 A6
    clear A5
    refine stF 11 (.pointer (some ⟨X, 7, none⟩)) rfl A6.out.src ?_
    refine stD 12 7 (.int .u32 ((d.a / 4294967296 : Nat) : Int)) 26 (.tmp 54) (.tmp 49) rfl A6 ?_
    intro V7 A7
    clear A6
    refine stF 13 (.pointer (some ⟨X, 8, none⟩)) rfl A7.out.src ?_
    refine stD 14 8 (.int .i64 (d.n : Int)) 3 (.tmp 55) (.tmp 52) rfl A7 ?_
    intro V8 A8
    clear A7
    refine held_end_at ⟨List.toArray (Value.agg (drv d) :: Value.pointer (some ⟨b, 0, none⟩) :: Value.pointer (some ⟨r, 0, none⟩) :: Value.pointer (some ⟨X, 0, none⟩) :: Value.pointer (some ⟨b, 1, none⟩) :: Value.int .u8 (d.what : Int) :: Value.int .u8 ((d.what : Int) % 3) :: Value.bool true :: Value.pointer (some ⟨b, 1, none⟩) :: Value.int .u8 (d.what : Int) :: Value.int .u8 ((d.what : Int) % 3) :: Value.bool true :: Value.agg #[.bool false, .bool true, .bool false, .int .u64 0, .bool true, .bool false, .int .u64 0, .int .u32 0, .int .i64 0, .bool false, .int .u16 0] :: Value.pointer (some ⟨X, 1, none⟩) :: Value.bool true :: Value.pointer (some ⟨b, 3, none⟩) :: Value.pointer (some ⟨b, 3, none⟩) :: Value.bool true :: Value.pointer (some ⟨X, 2, none⟩) :: Value.pointer (some ⟨b, 6, none⟩) :: Value.int .u64 (d.a : Int) :: Value.pointer (some ⟨X, 3, none⟩) :: Value.pointer (some ⟨X, 2, none⟩) :: Value.bool true :: Value.bool false :: undef :: undef :: undef :: undef :: Value.pointer (some ⟨X, 4, none⟩) :: Value.bool true :: Value.pointer (some ⟨b, 3, none⟩) :: Value.pointer (some ⟨b, 4, none⟩) :: Value.bool d.f1 :: Value.pointer (some ⟨b, 3, none⟩) :: Value.pointer (some ⟨b, 5, none⟩) :: Value.bool d.f2 :: Value.pointer (some ⟨b, 2, none⟩) :: Value.int .u8 (d.id : Int) :: Value.int .u8 ((d.id % 2 : Nat) : Int) :: Value.bool d.hs :: Value.pointer (some ⟨X, 0, none⟩) :: Value.pointer (some ⟨X, 5, none⟩) :: Value.pointer (some ⟨X, 9, none⟩) :: Value.pointer (some ⟨b, 7, none⟩) :: Value.int .u64 (d.b : Int) :: Value.pointer (some ⟨b, 6, none⟩) :: Value.int .u64 (d.a : Int) :: Value.int .u64 ((d.a / 4294967296 : Nat) : Int) :: Value.int .u32 ((d.a / 4294967296 : Nat) : Int) :: Value.pointer (some ⟨b, 8, none⟩) :: Value.int .u16 (d.n : Int) :: Value.int .i64 (d.n : Int) :: Value.pointer (some ⟨X, 6, none⟩) :: Value.pointer (some ⟨X, 7, none⟩) :: Value.pointer (some ⟨X, 8, none⟩) :: undef :: undef :: undef :: undef :: undef :: undef :: undef :: undef :: undef :: undef :: undef :: undef :: undef :: []), []⟩ (by kernel_rfl) (by kernel_rfl) ?_
    have A8b := Lib.hid (show Da 30 w V8 d b r X (L11.dsv L11.Ds.zero) #[.bool d.f1, .bool true, .bool true, .int .u64 (d.a : Int), .bool true, .bool d.f2, .int .u64 (d.b : Int), .int .u32 ((d.a / 4294967296 : Nat) : Int), .int .i64 (d.n : Int), .bool d.hs, .int .u16 0] from A8.out)
    clear A8
    go_upto_region 10 with fail
    rcases Bool.eq_false_or_eq_true d.f2 with hf2 | hf2
    · skip
      have x5 : V8.cell? ⟨X, 5, none⟩ = some (.bool true) := (A8b.out.new.cell 5).trans ((show _ = some (Value.bool d.f2) by kernel_rfl).trans (by rw [hf2]))
      go_upto_region 12 with fail
      clear x5
      rcases Bool.eq_false_or_eq_true d.hs with hhs | hhs
      · skip
        have x9 : V8.cell? ⟨X, 9, none⟩ = some (.bool true) := (A8b.out.new.cell 9).trans ((show _ = some (Value.bool d.hs) by kernel_rfl).trans (by rw [hhs]))
        have c9 := (A8b.out.src.cell 9).trans (dr_9 d)
        have xk := (A8b.out.new.cell 10).trans (show _ = some (.int .u16 0) by kernel_rfl)
        have fz := A8b.out.new.frozen 10
        obtain ⟨Y3, hY⟩ : ∃ U, U = V8.setCell ⟨X, 10, none⟩ (.int .u16 (d.m : Int)) := ⟨_, rfl⟩
        have D3 := Lib.hid (by have := A8b.out.set 10 (.int .u16 (d.m : Int)); rw [← hY] at this; exact this)
        have HY := Lib.hid hY
        clear hY
        go_upto_region 14 with fail
        rw [← HY.out]
        clear HY xk fz A8b c9 x9
        have e : #[.bool d.f1, .bool true, .bool true, .int .u64 (d.a : Int), .bool true, .bool d.f2, .int .u64 (d.b : Int), .int .u32 ((d.a / 4294967296 : Nat) : Int), .int .i64 (d.n : Int), .bool d.hs, .int .u16 (d.m : Int)] = L11.dsv d.ds := by unfold Dr.ds L11.dsv; simp [HAQ.out, HMQ.out, hf0, hf2, hhs]
        have HF := Lib.hid (show Da 30 w Y3 d b r X (L11.dsv L11.Ds.zero) (L11.dsv d.ds) by rw [← e]; exact D3.out)
        clear e D3
        go_wp2_with (first
    | (refine wpList_load_row rfl 30 _ rfl X rfl 30 (L11.dsv d.ds) (0, 0) _ ?_ Tryz.underlying30 rfl L11.ds_size ?_; exact HF.out.new)
    | (refine st_row rfl 30 _ _ rfl r rfl 30 (L11.dsv L11.Ds.zero) (L11.dsv d.ds) rfl ?_ rfl L11.ds_size (by kernel_rfl) ?_; exact HF.out.res; intro W3 g3 n3; have H3 := Lib.hid n3; have B3 := Lib.hid (HF.out.bel.trans (below_of_only g3 HF.out.le.1 HF.out.bel.size)); clear g3 n3))
        exact bodyPost_ret (results_cell_row rfl _ _ r 30 (L11.dsv d.ds) (0, 0) _ rfl H3.out Tryz.underlying30 rfl L11.ds_size) rfl ⟨rfl, B3.out⟩
      · skip
        have x9 : V8.cell? ⟨X, 9, none⟩ = some (.bool false) := (A8b.out.new.cell 9).trans ((show _ = some (Value.bool d.hs) by kernel_rfl).trans (by rw [hhs]))
        go_upto_region 14 with fail
        clear x9
        have e : #[.bool d.f1, .bool true, .bool true, .int .u64 (d.a : Int), .bool true, .bool d.f2, .int .u64 (d.b : Int), .int .u32 ((d.a / 4294967296 : Nat) : Int), .int .i64 (d.n : Int), .bool d.hs, .int .u16 0] = L11.dsv d.ds := by unfold Dr.ds L11.dsv; simp [HAQ.out, HMQ.out, hf0, hf2, hhs]
        have HF := Lib.hid (show Da 30 w V8 d b r X (L11.dsv L11.Ds.zero) (L11.dsv d.ds) by rw [← e]; exact A8b.out)
        clear e A8b
        go_wp2_with (first
    | (refine wpList_load_row rfl 30 _ rfl X rfl 30 (L11.dsv d.ds) (0, 0) _ ?_ Tryz.underlying30 rfl L11.ds_size ?_; exact HF.out.new)
    | (refine st_row rfl 30 _ _ rfl r rfl 30 (L11.dsv L11.Ds.zero) (L11.dsv d.ds) rfl ?_ rfl L11.ds_size (by kernel_rfl) ?_; exact HF.out.res; intro W3 g3 n3; have H3 := Lib.hid n3; have B3 := Lib.hid (HF.out.bel.trans (below_of_only g3 HF.out.le.1 HF.out.bel.size)); clear g3 n3))
        exact bodyPost_ret (results_cell_row rfl _ _ r 30 (L11.dsv d.ds) (0, 0) _ rfl H3.out Tryz.underlying30 rfl L11.ds_size) rfl ⟨rfl, B3.out⟩
    · skip
      have x5 : V8.cell? ⟨X, 5, none⟩ = some (.bool false) := (A8b.out.new.cell 5).trans ((show _ = some (Value.bool d.f2) by kernel_rfl).trans (by rw [hf2]))
      have c7 := (A8b.out.src.cell 7).trans (dr_7 d)
      have xk := (A8b.out.new.cell 6).trans (show _ = some (.int .u64 (d.b : Int)) by kernel_rfl)
      have fz := A8b.out.new.frozen 6
      obtain ⟨Y3, hY⟩ : ∃ U, U = V8.setCell ⟨X, 6, none⟩ (.int .u64 ((d.b : Int) % 4294967296)) := ⟨_, rfl⟩
      have D3 := Lib.hid (by have := A8b.out.set 6 (.int .u64 ((d.b : Int) % 4294967296)); rw [← hY] at this; exact this)
      have HY := Lib.hid hY
      clear hY
      go_upto_region 12 with fail
      rw [← HY.out]
      clear HY xk fz A8b c7 x5
      rcases Bool.eq_false_or_eq_true d.hs with hhs | hhs
      · skip
        have x9 : Y3.cell? ⟨X, 9, none⟩ = some (.bool true) := (D3.out.new.cell 9).trans ((show _ = some (Value.bool d.hs) by kernel_rfl).trans (by rw [hhs]))
        have c9 := (D3.out.src.cell 9).trans (dr_9 d)
        have xk := (D3.out.new.cell 10).trans (show _ = some (.int .u16 0) by kernel_rfl)
        have fz := D3.out.new.frozen 10
        obtain ⟨Y4, hY⟩ : ∃ U, U = Y3.setCell ⟨X, 10, none⟩ (.int .u16 (d.m : Int)) := ⟨_, rfl⟩
        have D4 := Lib.hid (by have := D3.out.set 10 (.int .u16 (d.m : Int)); rw [← hY] at this; exact this)
        have HY := Lib.hid hY
        clear hY
        go_upto_region 14 with fail
        rw [← HY.out]
        clear HY xk fz D3 c9 x9
        have e : #[.bool d.f1, .bool true, .bool true, .int .u64 (d.a : Int), .bool true, .bool d.f2, .int .u64 ((d.b : Int) % 4294967296), .int .u32 ((d.a / 4294967296 : Nat) : Int), .int .i64 (d.n : Int), .bool d.hs, .int .u16 (d.m : Int)] = L11.dsv d.ds := by unfold Dr.ds L11.dsv; simp [HAQ.out, HMQ.out, hf0, hf2, hhs]
        have HF := Lib.hid (show Da 30 w Y4 d b r X (L11.dsv L11.Ds.zero) (L11.dsv d.ds) by rw [← e]; exact D4.out)
        clear e D4
        go_wp2_with (first
    | (refine wpList_load_row rfl 30 _ rfl X rfl 30 (L11.dsv d.ds) (0, 0) _ ?_ Tryz.underlying30 rfl L11.ds_size ?_; exact HF.out.new)
    | (refine st_row rfl 30 _ _ rfl r rfl 30 (L11.dsv L11.Ds.zero) (L11.dsv d.ds) rfl ?_ rfl L11.ds_size (by kernel_rfl) ?_; exact HF.out.res; intro W3 g3 n3; have H3 := Lib.hid n3; have B3 := Lib.hid (HF.out.bel.trans (below_of_only g3 HF.out.le.1 HF.out.bel.size)); clear g3 n3))
        exact bodyPost_ret (results_cell_row rfl _ _ r 30 (L11.dsv d.ds) (0, 0) _ rfl H3.out Tryz.underlying30 rfl L11.ds_size) rfl ⟨rfl, B3.out⟩
      · skip
        have x9 : Y3.cell? ⟨X, 9, none⟩ = some (.bool false) := (D3.out.new.cell 9).trans ((show _ = some (Value.bool d.hs) by kernel_rfl).trans (by rw [hhs]))
        go_upto_region 14 with fail
        clear x9
        have e : #[.bool d.f1, .bool true, .bool true, .int .u64 (d.a : Int), .bool true, .bool d.f2, .int .u64 ((d.b : Int) % 4294967296), .int .u32 ((d.a / 4294967296 : Nat) : Int), .int .i64 (d.n : Int), .bool d.hs, .int .u16 0] = L11.dsv d.ds := by unfold Dr.ds L11.dsv; simp [HAQ.out, HMQ.out, hf0, hf2, hhs]
        have HF := Lib.hid (show Da 30 w Y3 d b r X (L11.dsv L11.Ds.zero) (L11.dsv d.ds) by rw [← e]; exact D3.out)
        clear e D3
        go_wp2_with (first
    | (refine wpList_load_row rfl 30 _ rfl X rfl 30 (L11.dsv d.ds) (0, 0) _ ?_ Tryz.underlying30 rfl L11.ds_size ?_; exact HF.out.new)
    | (refine st_row rfl 30 _ _ rfl r rfl 30 (L11.dsv L11.Ds.zero) (L11.dsv d.ds) rfl ?_ rfl L11.ds_size (by kernel_rfl) ?_; exact HF.out.res; intro W3 g3 n3; have H3 := Lib.hid n3; have B3 := Lib.hid (HF.out.bel.trans (below_of_only g3 HF.out.le.1 HF.out.bel.size)); clear g3 n3))
        exact bodyPost_ret (results_cell_row rfl _ _ r 30 (L11.dsv d.ds) (0, 0) _ rfl H3.out Tryz.underlying30 rfl L11.ds_size) rfl ⟨rfl, B3.out⟩
  · skip
    have c3 := (D0.out.src.cell 3).trans (dr_3 d)
    have xk := (D0.out.new.cell 2).trans (show _ = some (.bool false) by kernel_rfl)
    have fz := D0.out.new.frozen 2
    obtain ⟨Y1, hY⟩ : ∃ U, U = W0.setCell ⟨X, 2, none⟩ (.bool false) := ⟨_, rfl⟩
    have D1 := Lib.hid (by have := D0.out.set 2 (.bool false); rw [← hY] at this; exact this)
    have HY := Lib.hid hY
    clear hY
    go_upto_region 4 with fail
    rw [← HY.out]
    clear HY xk fz D0 c3
    have c6 := (D1.out.src.cell 6).trans (dr_6 d)
    have xk := (D1.out.new.cell 3).trans (show _ = some (.int .u64 0) by kernel_rfl)
    have fz := D1.out.new.frozen 3
    obtain ⟨Y2, hY⟩ : ∃ U, U = Y1.setCell ⟨X, 3, none⟩ (.int .u64 (d.a : Int)) := ⟨_, rfl⟩
    have D2 := Lib.hid (by have := D1.out.set 3 (.int .u64 (d.a : Int)); rw [← hY] at this; exact this)
    have HY := Lib.hid hY
    clear hY
    go_upto_region 5 with fail
    rw [← HY.out]
    clear HY xk fz D1 c6
    have x2 : Y2.cell? ⟨X, 2, none⟩ = some (.bool false) := (D2.out.new.cell 2).trans (by kernel_rfl)
    have c6 := (D2.out.src.cell 6).trans (dr_6 d)
    have xk := (D2.out.new.cell 3).trans (show _ = some (.int .u64 (d.a : Int)) by kernel_rfl)
    have fz := D2.out.new.frozen 3
    obtain ⟨Y3, hY⟩ : ∃ U, U = Y2.setCell ⟨X, 3, none⟩ (.int .u64 ((d.a : Int) % 4294967296)) := ⟨_, rfl⟩
    have D3 := Lib.hid (by have := D2.out.set 3 (.int .u64 ((d.a : Int) % 4294967296)); rw [← hY] at this; exact this)
    have HY := Lib.hid hY
    clear hY
    go_upto_region 7 with fail
    rw [← HY.out]
    clear HY xk fz D2 c6 x2
    have x4 := (D3.out.new.cell 4).trans (show _ = some (Value.bool true) by kernel_rfl)
    go_upto_region 8 with fail
    clear x4
    have A1 := Lib.hid D3.out.drew
    refine held_start (fun W => Blk W b 48 (drv d)) (by kernel_rfl) (n := 16) rfl ?_
    obtain ⟨V1, hV⟩ : ∃ V, V = Y3.drew := ⟨_, rfl⟩
    rw [← hV] at A1 ⊢
    clear hV D3
    refine stF 0 (.pointer (some ⟨b, 3, none⟩)) rfl A1.out.src (stF 1 (.pointer (some ⟨b, 4, none⟩)) rfl A1.out.src (stG 2 (.bool d.f1) rfl A1.out.src (fun W q => xLd 4 (.tmp 32) ⟨b, 4, none⟩ ((q.cell 4).trans (dr_4 d))) (stF 3 (.pointer (some ⟨b, 3, none⟩)) rfl A1.out.src (stF 4 (.pointer (some ⟨b, 5, none⟩)) rfl A1.out.src (stG 5 (.bool d.f2) rfl A1.out.src (fun W q => xLd 4 (.tmp 35) ⟨b, 5, none⟩ ((q.cell 5).trans (dr_5 d))) (stF 6 (.pointer (some ⟨b, 2, none⟩)) rfl A1.out.src (stG 7 (.int .u8 (d.id : Int)) rfl A1.out.src (fun W q => xLd 5 (.tmp 37) ⟨b, 2, none⟩ ((q.cell 2).trans (dr_2 d))) (stG 8 (.int .u8 ((d.id % 2 : Nat) : Int)) rfl A1.out.src (fun _ _ => ex_rem8 5 5 (.tmp 38) (.const (.int .u8 2)) (by kernel_rfl) d.id 2 (d.id % 2) (by kernel_rfl) (by kernel_rfl) (by kernel_rfl) (by decide) rfl) (stG 9 (.bool d.hs) rfl A1.out.src (fun _ _ => xEb .u8 5 5 (.tmp 39) (.const (.int .u8 1)) ((d.id % 2 : Nat) : Int) 1 d.hs hsb.out) ?_)))))))))
    refine stF 10 (.pointer (some ⟨X, 0, none⟩)) rfl A1.out.src ?_
    refine stD 11 0 (.bool d.f1) 4 (.tmp 41) (.tmp 33) rfl A1 ?_
    intro V2 A2
    clear A1
    refine stF 12 (.pointer (some ⟨X, 5, none⟩)) rfl A2.out.src ?_
    refine stD 13 5 (.bool d.f2) 4 (.tmp 42) (.tmp 36) rfl A2 ?_
    intro V3 A3
    clear A2
    refine stF 14 (.pointer (some ⟨X, 9, none⟩)) rfl A3.out.src ?_
    refine stD 15 9 (.bool d.hs) 4 (.tmp 43) (.tmp 40) rfl A3 ?_
    intro V4 A4
    clear A3
    refine held_end_at ⟨List.toArray (Value.agg (drv d) :: Value.pointer (some ⟨b, 0, none⟩) :: Value.pointer (some ⟨r, 0, none⟩) :: Value.pointer (some ⟨X, 0, none⟩) :: Value.pointer (some ⟨b, 1, none⟩) :: Value.int .u8 (d.what : Int) :: Value.int .u8 ((d.what : Int) % 3) :: Value.bool true :: Value.pointer (some ⟨b, 1, none⟩) :: Value.int .u8 (d.what : Int) :: Value.int .u8 ((d.what : Int) % 3) :: Value.bool true :: Value.agg #[.bool false, .bool true, .bool false, .int .u64 0, .bool true, .bool false, .int .u64 0, .int .u32 0, .int .i64 0, .bool false, .int .u16 0] :: Value.pointer (some ⟨X, 1, none⟩) :: Value.bool true :: Value.pointer (some ⟨b, 3, none⟩) :: Value.pointer (some ⟨b, 3, none⟩) :: Value.bool false :: Value.pointer (some ⟨X, 2, none⟩) :: Value.pointer (some ⟨b, 6, none⟩) :: Value.int .u64 (d.a : Int) :: Value.pointer (some ⟨X, 3, none⟩) :: Value.pointer (some ⟨X, 2, none⟩) :: Value.bool false :: Value.bool true :: Value.pointer (some ⟨b, 6, none⟩) :: Value.int .u64 (d.a : Int) :: Value.int .u64 ((d.a : Int) % 4294967296) :: Value.pointer (some ⟨X, 3, none⟩) :: Value.pointer (some ⟨X, 4, none⟩) :: Value.bool true :: Value.pointer (some ⟨b, 3, none⟩) :: Value.pointer (some ⟨b, 4, none⟩) :: Value.bool d.f1 :: Value.pointer (some ⟨b, 3, none⟩) :: Value.pointer (some ⟨b, 5, none⟩) :: Value.bool d.f2 :: Value.pointer (some ⟨b, 2, none⟩) :: Value.int .u8 (d.id : Int) :: Value.int .u8 ((d.id % 2 : Nat) : Int) :: Value.bool d.hs :: Value.pointer (some ⟨X, 0, none⟩) :: Value.pointer (some ⟨X, 5, none⟩) :: Value.pointer (some ⟨X, 9, none⟩) :: undef :: undef :: undef :: undef :: undef :: undef :: undef :: undef :: undef :: undef :: undef :: undef :: undef :: undef :: undef :: undef :: undef :: undef :: undef :: undef :: undef :: undef :: undef :: undef :: undef :: []), []⟩ (by kernel_rfl) (by kernel_rfl) ?_
    have A4b := Lib.hid (show Da 30 w V4 d b r X (L11.dsv L11.Ds.zero) #[.bool d.f1, .bool true, .bool false, .int .u64 ((d.a : Int) % 4294967296), .bool true, .bool d.f2, .int .u64 0, .int .u32 0, .int .i64 0, .bool d.hs, .int .u16 0] from A4.out)
    clear A4
    go_upto_region 9 with fail
    have A5 := Lib.hid A4b.out.drew
    refine held_start (fun W => Blk W b 48 (drv d)) (by kernel_rfl) (n := 15) rfl ?_
    obtain ⟨V5, hV⟩ : ∃ V, V = V4.drew := ⟨_, rfl⟩
    rw [← hV] at A5 ⊢
    clear hV A4b
    refine stF 0 (.pointer (some ⟨b, 7, none⟩)) rfl A5.out.src (stG 1 (.int .u64 (d.b : Int)) rfl A5.out.src (fun W q => xLd 22 (.tmp 44) ⟨b, 7, none⟩ ((q.cell 7).trans (dr_7 d))) (stF 2 (.pointer (some ⟨b, 6, none⟩)) rfl A5.out.src (stG 3 (.int .u64 (d.a : Int)) rfl A5.out.src (fun W q => xLd 22 (.tmp 46) ⟨b, 6, none⟩ ((q.cell 6).trans (dr_6 d))) (stG 4 (.int .u64 ((d.a / 4294967296 : Nat) : Int)) rfl A5.out.src (fun _ _ => ex_shr32 22 _ (.tmp 47) (.const (.int .u64 32)) rfl d.a (by kernel_rfl) (by kernel_rfl)) (stG 5 (.int .u32 ((d.a / 4294967296 : Nat) : Int)) rfl A5.out.src (fun W _ => ex_convert_to (v := .int .u64 ((d.a / 4294967296 : Nat) : Int)) 22 26 (.tmp 48) (by kernel_rfl) (by kernel_rfl) (conv32 _ hsh.out W)) (stF 6 (.pointer (some ⟨b, 8, none⟩)) rfl A5.out.src (stG 7 (.int .u16 (d.n : Int)) rfl A5.out.src (fun W q => xLd 23 (.tmp 50) ⟨b, 8, none⟩ ((q.cell 8).trans (dr_8 d))) (stG 8 (.int .i64 (d.n : Int)) rfl A5.out.src (fun W _ => ex_convert_to (v := .int .u16 (d.n : Int)) 23 3 (.tmp 51) (by kernel_rfl) (by kernel_rfl) (conv16 d.n l5 W)) (stF 9 (.pointer (some ⟨X, 6, none⟩)) rfl A5.out.src ?_)))))))))
    refine stD 10 6 (.int .u64 (d.b : Int)) 22 (.tmp 53) (.tmp 45) rfl A5 ?_
    intro V6 A6
    clear A5
    refine stF 11 (.pointer (some ⟨X, 7, none⟩)) rfl A6.out.src ?_
    refine stD 12 7 (.int .u32 ((d.a / 4294967296 : Nat) : Int)) 26 (.tmp 54) (.tmp 49) rfl A6 ?_
    intro V7 A7
    clear A6
    refine stF 13 (.pointer (some ⟨X, 8, none⟩)) rfl A7.out.src ?_
    refine stD 14 8 (.int .i64 (d.n : Int)) 3 (.tmp 55) (.tmp 52) rfl A7 ?_
    intro V8 A8
    clear A7
    refine held_end_at ⟨List.toArray (Value.agg (drv d) :: Value.pointer (some ⟨b, 0, none⟩) :: Value.pointer (some ⟨r, 0, none⟩) :: Value.pointer (some ⟨X, 0, none⟩) :: Value.pointer (some ⟨b, 1, none⟩) :: Value.int .u8 (d.what : Int) :: Value.int .u8 ((d.what : Int) % 3) :: Value.bool true :: Value.pointer (some ⟨b, 1, none⟩) :: Value.int .u8 (d.what : Int) :: Value.int .u8 ((d.what : Int) % 3) :: Value.bool true :: Value.agg #[.bool false, .bool true, .bool false, .int .u64 0, .bool true, .bool false, .int .u64 0, .int .u32 0, .int .i64 0, .bool false, .int .u16 0] :: Value.pointer (some ⟨X, 1, none⟩) :: Value.bool true :: Value.pointer (some ⟨b, 3, none⟩) :: Value.pointer (some ⟨b, 3, none⟩) :: Value.bool false :: Value.pointer (some ⟨X, 2, none⟩) :: Value.pointer (some ⟨b, 6, none⟩) :: Value.int .u64 (d.a : Int) :: Value.pointer (some ⟨X, 3, none⟩) :: Value.pointer (some ⟨X, 2, none⟩) :: Value.bool false :: Value.bool true :: Value.pointer (some ⟨b, 6, none⟩) :: Value.int .u64 (d.a : Int) :: Value.int .u64 ((d.a : Int) % 4294967296) :: Value.pointer (some ⟨X, 3, none⟩) :: Value.pointer (some ⟨X, 4, none⟩) :: Value.bool true :: Value.pointer (some ⟨b, 3, none⟩) :: Value.pointer (some ⟨b, 4, none⟩) :: Value.bool d.f1 :: Value.pointer (some ⟨b, 3, none⟩) :: Value.pointer (some ⟨b, 5, none⟩) :: Value.bool d.f2 :: Value.pointer (some ⟨b, 2, none⟩) :: Value.int .u8 (d.id : Int) :: Value.int .u8 ((d.id % 2 : Nat) : Int) :: Value.bool d.hs :: Value.pointer (some ⟨X, 0, none⟩) :: Value.pointer (some ⟨X, 5, none⟩) :: Value.pointer (some ⟨X, 9, none⟩) :: Value.pointer (some ⟨b, 7, none⟩) :: Value.int .u64 (d.b : Int) :: Value.pointer (some ⟨b, 6, none⟩) :: Value.int .u64 (d.a : Int) :: Value.int .u64 ((d.a / 4294967296 : Nat) : Int) :: Value.int .u32 ((d.a / 4294967296 : Nat) : Int) :: Value.pointer (some ⟨b, 8, none⟩) :: Value.int .u16 (d.n : Int) :: Value.int .i64 (d.n : Int) :: Value.pointer (some ⟨X, 6, none⟩) :: Value.pointer (some ⟨X, 7, none⟩) :: Value.pointer (some ⟨X, 8, none⟩) :: undef :: undef :: undef :: undef :: undef :: undef :: undef :: undef :: undef :: undef :: undef :: undef :: undef :: []), []⟩ (by kernel_rfl) (by kernel_rfl) ?_
    have A8b := Lib.hid (show Da 30 w V8 d b r X (L11.dsv L11.Ds.zero) #[.bool d.f1, .bool true, .bool false, .int .u64 ((d.a : Int) % 4294967296), .bool true, .bool d.f2, .int .u64 (d.b : Int), .int .u32 ((d.a / 4294967296 : Nat) : Int), .int .i64 (d.n : Int), .bool d.hs, .int .u16 0] from A8.out)
    clear A8
    go_upto_region 10 with fail
    rcases Bool.eq_false_or_eq_true d.f2 with hf2 | hf2
    · skip
      have x5 : V8.cell? ⟨X, 5, none⟩ = some (.bool true) := (A8b.out.new.cell 5).trans ((show _ = some (Value.bool d.f2) by kernel_rfl).trans (by rw [hf2]))
      go_upto_region 12 with fail
      clear x5
      rcases Bool.eq_false_or_eq_true d.hs with hhs | hhs
      · skip
        have x9 : V8.cell? ⟨X, 9, none⟩ = some (.bool true) := (A8b.out.new.cell 9).trans ((show _ = some (Value.bool d.hs) by kernel_rfl).trans (by rw [hhs]))
        have c9 := (A8b.out.src.cell 9).trans (dr_9 d)
        have xk := (A8b.out.new.cell 10).trans (show _ = some (.int .u16 0) by kernel_rfl)
        have fz := A8b.out.new.frozen 10
        obtain ⟨Y4, hY⟩ : ∃ U, U = V8.setCell ⟨X, 10, none⟩ (.int .u16 (d.m : Int)) := ⟨_, rfl⟩
        have D4 := Lib.hid (by have := A8b.out.set 10 (.int .u16 (d.m : Int)); rw [← hY] at this; exact this)
        have HY := Lib.hid hY
        clear hY
        go_upto_region 14 with fail
        rw [← HY.out]
        clear HY xk fz A8b c9 x9
        have e : #[.bool d.f1, .bool true, .bool false, .int .u64 ((d.a : Int) % 4294967296), .bool true, .bool d.f2, .int .u64 (d.b : Int), .int .u32 ((d.a / 4294967296 : Nat) : Int), .int .i64 (d.n : Int), .bool d.hs, .int .u16 (d.m : Int)] = L11.dsv d.ds := by unfold Dr.ds L11.dsv; simp [HAQ.out, HMQ.out, hf0, hf2, hhs]
        have HF := Lib.hid (show Da 30 w Y4 d b r X (L11.dsv L11.Ds.zero) (L11.dsv d.ds) by rw [← e]; exact D4.out)
        clear e D4
        go_wp2_with (first
    | (refine wpList_load_row rfl 30 _ rfl X rfl 30 (L11.dsv d.ds) (0, 0) _ ?_ Tryz.underlying30 rfl L11.ds_size ?_; exact HF.out.new)
    | (refine st_row rfl 30 _ _ rfl r rfl 30 (L11.dsv L11.Ds.zero) (L11.dsv d.ds) rfl ?_ rfl L11.ds_size (by kernel_rfl) ?_; exact HF.out.res; intro W3 g3 n3; have H3 := Lib.hid n3; have B3 := Lib.hid (HF.out.bel.trans (below_of_only g3 HF.out.le.1 HF.out.bel.size)); clear g3 n3))
        exact bodyPost_ret (results_cell_row rfl _ _ r 30 (L11.dsv d.ds) (0, 0) _ rfl H3.out Tryz.underlying30 rfl L11.ds_size) rfl ⟨rfl, B3.out⟩
      · skip
        have x9 : V8.cell? ⟨X, 9, none⟩ = some (.bool false) := (A8b.out.new.cell 9).trans ((show _ = some (Value.bool d.hs) by kernel_rfl).trans (by rw [hhs]))
        go_upto_region 14 with fail
        clear x9
        have e : #[.bool d.f1, .bool true, .bool false, .int .u64 ((d.a : Int) % 4294967296), .bool true, .bool d.f2, .int .u64 (d.b : Int), .int .u32 ((d.a / 4294967296 : Nat) : Int), .int .i64 (d.n : Int), .bool d.hs, .int .u16 0] = L11.dsv d.ds := by unfold Dr.ds L11.dsv; simp [HAQ.out, HMQ.out, hf0, hf2, hhs]
        have HF := Lib.hid (show Da 30 w V8 d b r X (L11.dsv L11.Ds.zero) (L11.dsv d.ds) by rw [← e]; exact A8b.out)
        clear e A8b
        go_wp2_with (first
    | (refine wpList_load_row rfl 30 _ rfl X rfl 30 (L11.dsv d.ds) (0, 0) _ ?_ Tryz.underlying30 rfl L11.ds_size ?_; exact HF.out.new)
    | (refine st_row rfl 30 _ _ rfl r rfl 30 (L11.dsv L11.Ds.zero) (L11.dsv d.ds) rfl ?_ rfl L11.ds_size (by kernel_rfl) ?_; exact HF.out.res; intro W3 g3 n3; have H3 := Lib.hid n3; have B3 := Lib.hid (HF.out.bel.trans (below_of_only g3 HF.out.le.1 HF.out.bel.size)); clear g3 n3))
        exact bodyPost_ret (results_cell_row rfl _ _ r 30 (L11.dsv d.ds) (0, 0) _ rfl H3.out Tryz.underlying30 rfl L11.ds_size) rfl ⟨rfl, B3.out⟩
    · skip
      have x5 : V8.cell? ⟨X, 5, none⟩ = some (.bool false) := (A8b.out.new.cell 5).trans ((show _ = some (Value.bool d.f2) by kernel_rfl).trans (by rw [hf2]))
      have c7 := (A8b.out.src.cell 7).trans (dr_7 d)
      have xk := (A8b.out.new.cell 6).trans (show _ = some (.int .u64 (d.b : Int)) by kernel_rfl)
      have fz := A8b.out.new.frozen 6
      obtain ⟨Y4, hY⟩ : ∃ U, U = V8.setCell ⟨X, 6, none⟩ (.int .u64 ((d.b : Int) % 4294967296)) := ⟨_, rfl⟩
      have D4 := Lib.hid (by have := A8b.out.set 6 (.int .u64 ((d.b : Int) % 4294967296)); rw [← hY] at this; exact this)
      have HY := Lib.hid hY
      clear hY
      go_upto_region 12 with fail
      rw [← HY.out]
      clear HY xk fz A8b c7 x5
      rcases Bool.eq_false_or_eq_true d.hs with hhs | hhs
      · skip
        have x9 : Y4.cell? ⟨X, 9, none⟩ = some (.bool true) := (D4.out.new.cell 9).trans ((show _ = some (Value.bool d.hs) by kernel_rfl).trans (by rw [hhs]))
        have c9 := (D4.out.src.cell 9).trans (dr_9 d)
        have xk := (D4.out.new.cell 10).trans (show _ = some (.int .u16 0) by kernel_rfl)
        have fz := D4.out.new.frozen 10
        obtain ⟨Y5, hY⟩ : ∃ U, U = Y4.setCell ⟨X, 10, none⟩ (.int .u16 (d.m : Int)) := ⟨_, rfl⟩
        have D5 := Lib.hid (by have := D4.out.set 10 (.int .u16 (d.m : Int)); rw [← hY] at this; exact this)
        have HY := Lib.hid hY
        clear hY
        go_upto_region 14 with fail
        rw [← HY.out]
        clear HY xk fz D4 c9 x9
        have e : #[.bool d.f1, .bool true, .bool false, .int .u64 ((d.a : Int) % 4294967296), .bool true, .bool d.f2, .int .u64 ((d.b : Int) % 4294967296), .int .u32 ((d.a / 4294967296 : Nat) : Int), .int .i64 (d.n : Int), .bool d.hs, .int .u16 (d.m : Int)] = L11.dsv d.ds := by unfold Dr.ds L11.dsv; simp [HAQ.out, HMQ.out, hf0, hf2, hhs]
        have HF := Lib.hid (show Da 30 w Y5 d b r X (L11.dsv L11.Ds.zero) (L11.dsv d.ds) by rw [← e]; exact D5.out)
        clear e D5
        go_wp2_with (first
    | (refine wpList_load_row rfl 30 _ rfl X rfl 30 (L11.dsv d.ds) (0, 0) _ ?_ Tryz.underlying30 rfl L11.ds_size ?_; exact HF.out.new)
    | (refine st_row rfl 30 _ _ rfl r rfl 30 (L11.dsv L11.Ds.zero) (L11.dsv d.ds) rfl ?_ rfl L11.ds_size (by kernel_rfl) ?_; exact HF.out.res; intro W3 g3 n3; have H3 := Lib.hid n3; have B3 := Lib.hid (HF.out.bel.trans (below_of_only g3 HF.out.le.1 HF.out.bel.size)); clear g3 n3))
        exact bodyPost_ret (results_cell_row rfl _ _ r 30 (L11.dsv d.ds) (0, 0) _ rfl H3.out Tryz.underlying30 rfl L11.ds_size) rfl ⟨rfl, B3.out⟩
      · skip
        have x9 : Y4.cell? ⟨X, 9, none⟩ = some (.bool false) := (D4.out.new.cell 9).trans ((show _ = some (Value.bool d.hs) by kernel_rfl).trans (by rw [hhs]))
        go_upto_region 14 with fail
        clear x9
        have e : #[.bool d.f1, .bool true, .bool false, .int .u64 ((d.a : Int) % 4294967296), .bool true, .bool d.f2, .int .u64 ((d.b : Int) % 4294967296), .int .u32 ((d.a / 4294967296 : Nat) : Int), .int .i64 (d.n : Int), .bool d.hs, .int .u16 0] = L11.dsv d.ds := by unfold Dr.ds L11.dsv; simp [HAQ.out, HMQ.out, hf0, hf2, hhs]
        have HF := Lib.hid (show Da 30 w Y4 d b r X (L11.dsv L11.Ds.zero) (L11.dsv d.ds) by rw [← e]; exact D4.out)
        clear e D4
        go_wp2_with (first
    | (refine wpList_load_row rfl 30 _ rfl X rfl 30 (L11.dsv d.ds) (0, 0) _ ?_ Tryz.underlying30 rfl L11.ds_size ?_; exact HF.out.new)
    | (refine st_row rfl 30 _ _ rfl r rfl 30 (L11.dsv L11.Ds.zero) (L11.dsv d.ds) rfl ?_ rfl L11.ds_size (by kernel_rfl) ?_; exact HF.out.res; intro W3 g3 n3; have H3 := Lib.hid n3; have B3 := Lib.hid (HF.out.bel.trans (below_of_only g3 HF.out.le.1 HF.out.bel.size)); clear g3 n3))
        exact bodyPost_ret (results_cell_row rfl _ _ r 30 (L11.dsv d.ds) (0, 0) _ rfl H3.out Tryz.underlying30 rfl L11.ds_size) rfl ⟨rfl, B3.out⟩
theorem dss_any (d : Dr) (hd : d.Ok) (w : World) : Calls Tryz.prog 31 #[.agg (drv d)] w fun e w' => e = .returned (.agg (L11.dsv d.ds)) ∧ Below w.heap.size w w' := by
  have : d.what % 3 = 0 ∨ d.what % 3 = 1 ∨ d.what % 3 = 2 := by omega
  rcases this with h | h | h
  · exact dss_0 d hd h w
  · exact dss_1 d hd h w
  · exact dss_2 d hd h w
end Go.Proofs.YtnlhhjhidkjlbaaGreatDoor.L14
namespace Go.Proofs.YtnlhhjhidkjlbaaGreatDoor.L14
open Go Go.RowKit Go.ChangeAt
set_option linter.unusedVariables false
set_option linter.unusedSimpArgs false

theorem dr_size (d : Dr) (h : d.bs.length = 24) : (Tryz.prog.info? 48).map (·.size) = some (drv d).size := by
  rw [show (drv d).size = 34 by unfold drv; simp [h]]; kernel_rfl
theorem Da.after {T : TypeId} {w W W' : World} {d : Dr} {b r X : Nat} {zs cs : Array Value} (h : Da T w W d b r X zs cs) (B : Below W.heap.size W W') : Da T w W' d b r X zs cs :=
  ⟨h.src.below B h.src.lt, h.res.below B h.res.lt, h.new.below B h.new.lt, h.bel.trans (B.mono h.bel.size), h.le, h.ne⟩
theorem add8 {ρ : Operand → Value} {o : Oper} {w : World} (t u : TypeId) (x y : Operand) (ho : o.op = .binOp .add t x y u) (a b : Nat) (hx : ρ x = .int .u8 (a : Int)) (hy : ρ y = .int .u8 (b : Int)) (h : a + b ≤ 255) : (execOp ρ o).run Tryz.prog w = .ok (.value (.int .u8 ((a + b : Nat) : Int))) w := by
  unfold execOp
  rw [ho]
  have e : (IntKind.u8).wrap ((a : Int) + (b : Int)) = (a : Int) + (b : Int) := by rw [IntKind.wrap_u8]; omega
  simp [hx, hy, go_sem, e]
set_option maxHeartbeats 1000000 in
set_option maxRecDepth 100000 in
theorem opt_0 (d : Dr) (hd : d.Ok) (hf : d.sub % 9 = 0) (w : World) : Calls Tryz.prog 11 #[.agg (drv d)] w fun e w' => e = .returned (.agg (ov (Op.cap_ d.cap))) ∧ Below w.heap.size w w' := by
  have HD := Lib.hid hd
  obtain ⟨l0, l1, l2, l3, l4, l5, l6, l7⟩ := hd
  have hq : (d.sub : Int) % 9 = 0 := by omega
  go_enter Tryz.func11, Tryz.ntmps11
  go_upto_region 1 with (first
    | (refine wp_box rfl 48 _ rfl (drv d) rfl ?_; intro U0 b hb hU)
    | (refine wp_new rfl 44 rfl (ov (.none 0)) opt_zero ?_; intro U1 r hr hU1; have H0 := Lib.hid (Db.of hb hU hr hU1); clear hb hU hr hU1))
  have c0 := (H0.out.src.cell 0).trans (dr_0 d)
  go_upto_region 2 with (first
    | (refine wp_build rfl 44 _ rfl (.agg (ov (.none 0))) (by kernel_rfl) ?_)
    | (refine wp_new rfl 44 rfl (ov (.none 0)) opt_zero ?_; intro U2 X hX hU; have HA2 := Lib.hid (H0.out.made hX hU); clear hX hU H0 c0)
    | (refine st_row rfl 44 _ _ rfl X rfl 44 (ov (.none 0)) (ov (.none 0)) rfl ?_ ((ov_size _).trans (ov_size _).symm) (ov_info _) (ov_one _) ?_; exact HA2.out.new; intro U g n; have HU := Lib.hid (HA2.out.turn g n); clear g n HA2))
  have x0 : U.cell? ⟨X, 0, none⟩ = some (.int .i64 0) := (HU.out.new.cell 0).trans (ov_0 (.none 0))
  go_wp2_with (first
    | (refine wpList_load_row rfl 48 _ rfl b rfl 48 (drv d) (0, 0) _ ?_ Tryz.underlying48 rfl (dr_size d l7) ?_; exact HU.out.src))
  refine (capable_any d HD.out U).mono ?_
  rintro e V ⟨rfl, B⟩
  have HV := Lib.hid (HU.out.after B)
  clear B HU x0
  have HU := HV
  clear HV
  go_wp2_with (first
    | (refine st_part rfl 25 _ _ rfl X 1 rfl 44 (ov (.none 0)) (L9.capv d.cap) (ov (Op.cap_ d.cap)) (by kernel_rfl) ?_ (by rw [ov_size]; exact Nat.le_of_ble_eq_true rfl) L9.cap_size (L9.cap_one _) (by kernel_rfl) ?_; exact HU.out.new; intro W2 g2 n2; have H2 := Lib.hid (HU.out.turn g2 n2); clear g2 n2 HU)
    | (refine wpList_load_row rfl 44 _ rfl X rfl 44 (ov (Op.cap_ d.cap)) (0, 0) _ ?_ Tryz.underlying44 rfl (ov_info _) ?_; exact H2.out.new)
    | (refine st_row rfl 44 _ _ rfl r rfl 44 (ov (.none 0)) (ov (Op.cap_ d.cap)) rfl ?_ ((ov_size _).trans (ov_size _).symm) (ov_info _) (ov_one _) ?_; exact H2.out.res; intro W3 g3 n3; have H3 := Lib.hid n3; have B3 := Lib.hid (H2.out.bel.trans (below_of_only g3 H2.out.le.1 H2.out.bel.size)); clear g3 n3 H2))
  exact ret_opt 2 (Op.cap_ d.cap) rfl r rfl H3.out rfl ⟨rfl, B3.out⟩
set_option maxHeartbeats 1000000 in
set_option maxRecDepth 100000 in
theorem opt_1 (d : Dr) (hd : d.Ok) (hf : d.sub % 9 = 1) (w : World) : Calls Tryz.prog 11 #[.agg (drv d)] w fun e w' => e = .returned (.agg (ov (Op.jn_ d.jn))) ∧ Below w.heap.size w w' := by
  have HD := Lib.hid hd
  obtain ⟨l0, l1, l2, l3, l4, l5, l6, l7⟩ := hd
  have hq : (d.sub : Int) % 9 = 1 := by omega
  go_enter Tryz.func11, Tryz.ntmps11
  go_upto_region 1 with (first
    | (refine wp_box rfl 48 _ rfl (drv d) rfl ?_; intro U0 b hb hU)
    | (refine wp_new rfl 44 rfl (ov (.none 0)) opt_zero ?_; intro U1 r hr hU1; have H0 := Lib.hid (Db.of hb hU hr hU1); clear hb hU hr hU1))
  have c0 := (H0.out.src.cell 0).trans (dr_0 d)
  go_upto_region 2 with (first
    | (refine wp_build rfl 44 _ rfl (.agg (ov (.none 1))) (by kernel_rfl) ?_)
    | (refine wp_new rfl 44 rfl (ov (.none 0)) opt_zero ?_; intro U2 X hX hU; have HA2 := Lib.hid (H0.out.made hX hU); clear hX hU H0 c0)
    | (refine st_row rfl 44 _ _ rfl X rfl 44 (ov (.none 0)) (ov (.none 1)) rfl ?_ ((ov_size _).trans (ov_size _).symm) (ov_info _) (ov_one _) ?_; exact HA2.out.new; intro U g n; have HU := Lib.hid (HA2.out.turn g n); clear g n HA2))
  have x0 : U.cell? ⟨X, 0, none⟩ = some (.int .i64 1) := (HU.out.new.cell 0).trans (ov_0 (.none 1))
  go_wp2_with (first
    | (refine wpList_load_row rfl 48 _ rfl b rfl 48 (drv d) (0, 0) _ ?_ Tryz.underlying48 rfl (dr_size d l7) ?_; exact HU.out.src))
  refine (join_any d HD.out U).mono ?_
  rintro e V ⟨rfl, B⟩
  have HV := Lib.hid (HU.out.after B)
  clear B HU x0
  have HU := HV
  clear HV
  go_wp2_with (first
    | (refine st_part rfl 28 _ _ rfl X 9 rfl 44 (ov (.none 1)) (L10.jnv d.jn) (ov (Op.jn_ d.jn)) (by kernel_rfl) ?_ (by rw [ov_size]; exact Nat.le_of_ble_eq_true rfl) L10.jn_size (L10.jn_one _) (by kernel_rfl) ?_; exact HU.out.new; intro W2 g2 n2; have H2 := Lib.hid (HU.out.turn g2 n2); clear g2 n2 HU)
    | (refine wpList_load_row rfl 44 _ rfl X rfl 44 (ov (Op.jn_ d.jn)) (0, 0) _ ?_ Tryz.underlying44 rfl (ov_info _) ?_; exact H2.out.new)
    | (refine st_row rfl 44 _ _ rfl r rfl 44 (ov (.none 0)) (ov (Op.jn_ d.jn)) rfl ?_ ((ov_size _).trans (ov_size _).symm) (ov_info _) (ov_one _) ?_; exact H2.out.res; intro W3 g3 n3; have H3 := Lib.hid n3; have B3 := Lib.hid (H2.out.bel.trans (below_of_only g3 H2.out.le.1 H2.out.bel.size)); clear g3 n3 H2))
  exact ret_opt 2 (Op.jn_ d.jn) rfl r rfl H3.out rfl ⟨rfl, B3.out⟩
set_option maxHeartbeats 1000000 in
set_option maxRecDepth 100000 in
theorem opt_2 (d : Dr) (hd : d.Ok) (hf : d.sub % 9 = 2) (w : World) : Calls Tryz.prog 11 #[.agg (drv d)] w fun e w' => e = .returned (.agg (ov (Op.ds_ d.ds))) ∧ Below w.heap.size w w' := by
  have HD := Lib.hid hd
  obtain ⟨l0, l1, l2, l3, l4, l5, l6, l7⟩ := hd
  have hq : (d.sub : Int) % 9 = 2 := by omega
  go_enter Tryz.func11, Tryz.ntmps11
  go_upto_region 1 with (first
    | (refine wp_box rfl 48 _ rfl (drv d) rfl ?_; intro U0 b hb hU)
    | (refine wp_new rfl 44 rfl (ov (.none 0)) opt_zero ?_; intro U1 r hr hU1; have H0 := Lib.hid (Db.of hb hU hr hU1); clear hb hU hr hU1))
  have c0 := (H0.out.src.cell 0).trans (dr_0 d)
  go_upto_region 2 with (first
    | (refine wp_build rfl 44 _ rfl (.agg (ov (.none 2))) (by kernel_rfl) ?_)
    | (refine wp_new rfl 44 rfl (ov (.none 0)) opt_zero ?_; intro U2 X hX hU; have HA2 := Lib.hid (H0.out.made hX hU); clear hX hU H0 c0)
    | (refine st_row rfl 44 _ _ rfl X rfl 44 (ov (.none 0)) (ov (.none 2)) rfl ?_ ((ov_size _).trans (ov_size _).symm) (ov_info _) (ov_one _) ?_; exact HA2.out.new; intro U g n; have HU := Lib.hid (HA2.out.turn g n); clear g n HA2))
  have x0 : U.cell? ⟨X, 0, none⟩ = some (.int .i64 2) := (HU.out.new.cell 0).trans (ov_0 (.none 2))
  go_wp2_with (first
    | (refine wpList_load_row rfl 48 _ rfl b rfl 48 (drv d) (0, 0) _ ?_ Tryz.underlying48 rfl (dr_size d l7) ?_; exact HU.out.src))
  refine (dss_any d HD.out U).mono ?_
  rintro e V ⟨rfl, B⟩
  have HV := Lib.hid (HU.out.after B)
  clear B HU x0
  have HU := HV
  clear HV
  go_wp2_with (first
    | (refine st_part rfl 30 _ _ rfl X 15 rfl 44 (ov (.none 2)) (L11.dsv d.ds) (ov (Op.ds_ d.ds)) (by kernel_rfl) ?_ (by rw [ov_size]; exact Nat.le_of_ble_eq_true rfl) L11.ds_size (L11.ds_one _) (by kernel_rfl) ?_; exact HU.out.new; intro W2 g2 n2; have H2 := Lib.hid (HU.out.turn g2 n2); clear g2 n2 HU)
    | (refine wpList_load_row rfl 44 _ rfl X rfl 44 (ov (Op.ds_ d.ds)) (0, 0) _ ?_ Tryz.underlying44 rfl (ov_info _) ?_; exact H2.out.new)
    | (refine st_row rfl 44 _ _ rfl r rfl 44 (ov (.none 0)) (ov (Op.ds_ d.ds)) rfl ?_ ((ov_size _).trans (ov_size _).symm) (ov_info _) (ov_one _) ?_; exact H2.out.res; intro W3 g3 n3; have H3 := Lib.hid n3; have B3 := Lib.hid (H2.out.bel.trans (below_of_only g3 H2.out.le.1 H2.out.bel.size)); clear g3 n3 H2))
  exact ret_opt 2 (Op.ds_ d.ds) rfl r rfl H3.out rfl ⟨rfl, B3.out⟩
set_option maxHeartbeats 1000000 in
set_option maxRecDepth 100000 in
theorem opt_3 (d : Dr) (hd : d.Ok) (hf : d.sub % 9 = 3) (w : World) : Calls Tryz.prog 11 #[.agg (drv d)] w fun e w' => e = .returned (.agg (ov (Op.ad_ d.ad))) ∧ Below w.heap.size w w' := by
  have HD := Lib.hid hd
  obtain ⟨l0, l1, l2, l3, l4, l5, l6, l7⟩ := hd
  have hq : (d.sub : Int) % 9 = 3 := by omega
  go_enter Tryz.func11, Tryz.ntmps11
  go_upto_region 1 with (first
    | (refine wp_box rfl 48 _ rfl (drv d) rfl ?_; intro U0 b hb hU)
    | (refine wp_new rfl 44 rfl (ov (.none 0)) opt_zero ?_; intro U1 r hr hU1; have H0 := Lib.hid (Db.of hb hU hr hU1); clear hb hU hr hU1))
  have c0 := (H0.out.src.cell 0).trans (dr_0 d)
  go_upto_region 2 with (first
    | (refine wp_build rfl 44 _ rfl (.agg (ov (.none 3))) (by kernel_rfl) ?_)
    | (refine wp_new rfl 44 rfl (ov (.none 0)) opt_zero ?_; intro U2 X hX hU; have HA2 := Lib.hid (H0.out.made hX hU); clear hX hU H0 c0)
    | (refine st_row rfl 44 _ _ rfl X rfl 44 (ov (.none 0)) (ov (.none 3)) rfl ?_ ((ov_size _).trans (ov_size _).symm) (ov_info _) (ov_one _) ?_; exact HA2.out.new; intro U g n; have HU := Lib.hid (HA2.out.turn g n); clear g n HA2))
  have x0 : U.cell? ⟨X, 0, none⟩ = some (.int .i64 3) := (HU.out.new.cell 0).trans (ov_0 (.none 3))
  go_wp2_with (first
    | (refine wpList_load_row rfl 48 _ rfl b rfl 48 (drv d) (0, 0) _ ?_ Tryz.underlying48 rfl (dr_size d l7) ?_; exact HU.out.src))
  refine (add_any d HD.out U).mono ?_
  rintro e V ⟨rfl, B⟩
  have HV := Lib.hid (HU.out.after B)
  clear B HU x0
  have HU := HV
  clear HV
  go_wp2_with (first
    | (refine st_part rfl 32 _ _ rfl X 26 rfl 44 (ov (.none 3)) (L12.adv d.ad) (ov (Op.ad_ d.ad)) (by kernel_rfl) ?_ (by rw [ov_size]; exact Nat.le_of_ble_eq_true rfl) L12.ad_size (L12.ad_one _) (by kernel_rfl) ?_; exact HU.out.new; intro W2 g2 n2; have H2 := Lib.hid (HU.out.turn g2 n2); clear g2 n2 HU)
    | (refine wpList_load_row rfl 44 _ rfl X rfl 44 (ov (Op.ad_ d.ad)) (0, 0) _ ?_ Tryz.underlying44 rfl (ov_info _) ?_; exact H2.out.new)
    | (refine st_row rfl 44 _ _ rfl r rfl 44 (ov (.none 0)) (ov (Op.ad_ d.ad)) rfl ?_ ((ov_size _).trans (ov_size _).symm) (ov_info _) (ov_one _) ?_; exact H2.out.res; intro W3 g3 n3; have H3 := Lib.hid n3; have B3 := Lib.hid (H2.out.bel.trans (below_of_only g3 H2.out.le.1 H2.out.bel.size)); clear g3 n3 H2))
  exact ret_opt 2 (Op.ad_ d.ad) rfl r rfl H3.out rfl ⟨rfl, B3.out⟩
set_option maxHeartbeats 1000000 in
set_option maxRecDepth 100000 in
theorem opt_4 (d : Dr) (hd : d.Ok) (hf : d.sub % 9 = 4) (w : World) : Calls Tryz.prog 11 #[.agg (drv d)] w fun e w' => e = .returned (.agg (ov (Op.rm_ d.rm))) ∧ Below w.heap.size w w' := by
  have HD := Lib.hid hd
  obtain ⟨l0, l1, l2, l3, l4, l5, l6, l7⟩ := hd
  have hq : (d.sub : Int) % 9 = 4 := by omega
  go_enter Tryz.func11, Tryz.ntmps11
  go_upto_region 1 with (first
    | (refine wp_box rfl 48 _ rfl (drv d) rfl ?_; intro U0 b hb hU)
    | (refine wp_new rfl 44 rfl (ov (.none 0)) opt_zero ?_; intro U1 r hr hU1; have H0 := Lib.hid (Db.of hb hU hr hU1); clear hb hU hr hU1))
  have c0 := (H0.out.src.cell 0).trans (dr_0 d)
  go_upto_region 2 with (first
    | (refine wp_build rfl 44 _ rfl (.agg (ov (.none 4))) (by kernel_rfl) ?_)
    | (refine wp_new rfl 44 rfl (ov (.none 0)) opt_zero ?_; intro U2 X hX hU; have HA2 := Lib.hid (H0.out.made hX hU); clear hX hU H0 c0)
    | (refine st_row rfl 44 _ _ rfl X rfl 44 (ov (.none 0)) (ov (.none 4)) rfl ?_ ((ov_size _).trans (ov_size _).symm) (ov_info _) (ov_one _) ?_; exact HA2.out.new; intro U g n; have HU := Lib.hid (HA2.out.turn g n); clear g n HA2))
  have x0 : U.cell? ⟨X, 0, none⟩ = some (.int .i64 4) := (HU.out.new.cell 0).trans (ov_0 (.none 4))
  have HN := Lib.hid (show 1 + d.what % 24 ≤ 24 by omega)
  have c1 := (HU.out.src.cell 1).trans (dr_1 d)
  go_wp2_with (first
    | (refine wp_val rfl (.int .u8 ((d.what % 24 : Nat) : Int)) (ex_rem8 5 5 (.tmp 44) (.const (.int .u8 24)) rfl d.what 24 (d.what % 24) (by kernel_rfl) (by kernel_rfl) (by kernel_rfl) (by decide) rfl) ?_)
    | (refine wp_val rfl (.int .u8 ((1 + d.what % 24 : Nat) : Int)) (add8 5 5 (.const (.int .u8 1)) (.tmp 45) rfl 1 (d.what % 24) (by kernel_rfl) (by kernel_rfl) (by have := HN.out; omega)) ?_)
    | (refine wp_val rfl (.slice (some ⟨b, 10, none⟩) (1 + d.what % 24) 24) (ex_slice_front (v := .pointer (some ⟨b, 10, none⟩)) (hv := .int .u8 ((1 + d.what % 24 : Nat) : Int)) 46 (.tmp 42) (.tmp 46) rfl (by kernel_rfl) (by kernel_rfl) (sl_front _ b (1 + d.what % 24) .u8 HN.out)) ?_)
    | (refine wp_val rfl (.string (txt (d.bs.take (1 + d.what % 24)))) (ex_convert_to (v := .slice (some ⟨b, 10, none⟩) (1 + d.what % 24) 24) 61 9 (.tmp 47) rfl (by kernel_rfl) (sl_text _ b d (1 + d.what % 24) 24 (by rw [l7]; exact HN.out) HU.out.src)) ?_)
    | (refine wp_build rfl 34 _ rfl (.agg (L12.rmv d.rm)) (by kernel_rfl) ?_)
    | (refine st_part rfl 34 _ _ rfl X 32 rfl 44 (ov (.none 4)) (L12.rmv d.rm) (ov (Op.rm_ d.rm)) (by kernel_rfl) ?_ (by rw [ov_size]; exact Nat.le_of_ble_eq_true rfl) L12.rm_size (L12.rm_one _) (by kernel_rfl) ?_; exact HU.out.new; intro W2 g2 n2; have H2 := Lib.hid (HU.out.turn g2 n2); clear g2 n2 HU)
    | (refine wpList_load_row rfl 44 _ rfl X rfl 44 (ov (Op.rm_ d.rm)) (0, 0) _ ?_ Tryz.underlying44 rfl (ov_info _) ?_; exact H2.out.new)
    | (refine st_row rfl 44 _ _ rfl r rfl 44 (ov (.none 0)) (ov (Op.rm_ d.rm)) rfl ?_ ((ov_size _).trans (ov_size _).symm) (ov_info _) (ov_one _) ?_; exact H2.out.res; intro W3 g3 n3; have H3 := Lib.hid n3; have B3 := Lib.hid (H2.out.bel.trans (below_of_only g3 H2.out.le.1 H2.out.bel.size)); clear g3 n3 H2))
  exact ret_opt 2 (Op.rm_ d.rm) rfl r rfl H3.out rfl ⟨rfl, B3.out⟩
set_option maxHeartbeats 1000000 in
set_option maxRecDepth 100000 in
theorem opt_5 (d : Dr) (hd : d.Ok) (hf : d.sub % 9 = 5) (w : World) : Calls Tryz.prog 11 #[.agg (drv d)] w fun e w' => e = .returned (.agg (ov (Op.pr_ d.f0))) ∧ Below w.heap.size w w' := by
  have HD := Lib.hid hd
  obtain ⟨l0, l1, l2, l3, l4, l5, l6, l7⟩ := hd
  have hq : (d.sub : Int) % 9 = 5 := by omega
  go_enter Tryz.func11, Tryz.ntmps11
  go_upto_region 1 with (first
    | (refine wp_box rfl 48 _ rfl (drv d) rfl ?_; intro U0 b hb hU)
    | (refine wp_new rfl 44 rfl (ov (.none 0)) opt_zero ?_; intro U1 r hr hU1; have H0 := Lib.hid (Db.of hb hU hr hU1); clear hb hU hr hU1))
  have c0 := (H0.out.src.cell 0).trans (dr_0 d)
  go_upto_region 2 with (first
    | (refine wp_build rfl 44 _ rfl (.agg (ov (.none 5))) (by kernel_rfl) ?_)
    | (refine wp_new rfl 44 rfl (ov (.none 0)) opt_zero ?_; intro U2 X hX hU; have HA2 := Lib.hid (H0.out.made hX hU); clear hX hU H0 c0)
    | (refine st_row rfl 44 _ _ rfl X rfl 44 (ov (.none 0)) (ov (.none 5)) rfl ?_ ((ov_size _).trans (ov_size _).symm) (ov_info _) (ov_one _) ?_; exact HA2.out.new; intro U g n; have HU := Lib.hid (HA2.out.turn g n); clear g n HA2))
  have x0 : U.cell? ⟨X, 0, none⟩ = some (.int .i64 5) := (HU.out.new.cell 0).trans (ov_0 (.none 5))
  have c3 := (HU.out.src.cell 3).trans (dr_3 d)
  go_wp2_with (first
    | (refine wp_build rfl 36 _ rfl (.agg (L13.prv d.f0)) (by kernel_rfl) ?_)
    | (refine st_part rfl 36 _ _ rfl X 33 rfl 44 (ov (.none 5)) (L13.prv d.f0) (ov (Op.pr_ d.f0)) (by kernel_rfl) ?_ (by rw [ov_size]; exact Nat.le_of_ble_eq_true rfl) L13.pr_size (by kernel_rfl) (by kernel_rfl) ?_; exact HU.out.new; intro W2 g2 n2; have H2 := Lib.hid (HU.out.turn g2 n2); clear g2 n2 HU)
    | (refine wpList_load_row rfl 44 _ rfl X rfl 44 (ov (Op.pr_ d.f0)) (0, 0) _ ?_ Tryz.underlying44 rfl (ov_info _) ?_; exact H2.out.new)
    | (refine st_row rfl 44 _ _ rfl r rfl 44 (ov (.none 0)) (ov (Op.pr_ d.f0)) rfl ?_ ((ov_size _).trans (ov_size _).symm) (ov_info _) (ov_one _) ?_; exact H2.out.res; intro W3 g3 n3; have H3 := Lib.hid n3; have B3 := Lib.hid (H2.out.bel.trans (below_of_only g3 H2.out.le.1 H2.out.bel.size)); clear g3 n3 H2))
  exact ret_opt 2 (Op.pr_ d.f0) rfl r rfl H3.out rfl ⟨rfl, B3.out⟩
set_option maxHeartbeats 1000000 in
set_option maxRecDepth 100000 in
theorem opt_6 (d : Dr) (hd : d.Ok) (hf : d.sub % 9 = 6) (w : World) : Calls Tryz.prog 11 #[.agg (drv d)] w fun e w' => e = .returned (.agg (ov (Op.fa_ d.a))) ∧ Below w.heap.size w w' := by
  have HD := Lib.hid hd
  obtain ⟨l0, l1, l2, l3, l4, l5, l6, l7⟩ := hd
  have hq : (d.sub : Int) % 9 = 6 := by omega
  go_enter Tryz.func11, Tryz.ntmps11
  go_upto_region 1 with (first
    | (refine wp_box rfl 48 _ rfl (drv d) rfl ?_; intro U0 b hb hU)
    | (refine wp_new rfl 44 rfl (ov (.none 0)) opt_zero ?_; intro U1 r hr hU1; have H0 := Lib.hid (Db.of hb hU hr hU1); clear hb hU hr hU1))
  have c0 := (H0.out.src.cell 0).trans (dr_0 d)
  go_upto_region 2 with (first
    | (refine wp_build rfl 44 _ rfl (.agg (ov (.none 6))) (by kernel_rfl) ?_)
    | (refine wp_new rfl 44 rfl (ov (.none 0)) opt_zero ?_; intro U2 X hX hU; have HA2 := Lib.hid (H0.out.made hX hU); clear hX hU H0 c0)
    | (refine st_row rfl 44 _ _ rfl X rfl 44 (ov (.none 0)) (ov (.none 6)) rfl ?_ ((ov_size _).trans (ov_size _).symm) (ov_info _) (ov_one _) ?_; exact HA2.out.new; intro U g n; have HU := Lib.hid (HA2.out.turn g n); clear g n HA2))
  have x0 : U.cell? ⟨X, 0, none⟩ = some (.int .i64 6) := (HU.out.new.cell 0).trans (ov_0 (.none 6))
  have c6 := (HU.out.src.cell 6).trans (dr_6 d)
  go_wp2_with (first
    | (refine wp_build rfl 38 _ rfl (.agg (L13.nuv d.a)) (by kernel_rfl) ?_)
    | (refine st_part rfl 38 _ _ rfl X 34 rfl 44 (ov (.none 6)) (L13.nuv d.a) (ov (Op.fa_ d.a)) (by kernel_rfl) ?_ (by rw [ov_size]; exact Nat.le_of_ble_eq_true rfl) L13.fa_size (by kernel_rfl) (by kernel_rfl) ?_; exact HU.out.new; intro W2 g2 n2; have H2 := Lib.hid (HU.out.turn g2 n2); clear g2 n2 HU)
    | (refine wpList_load_row rfl 44 _ rfl X rfl 44 (ov (Op.fa_ d.a)) (0, 0) _ ?_ Tryz.underlying44 rfl (ov_info _) ?_; exact H2.out.new)
    | (refine st_row rfl 44 _ _ rfl r rfl 44 (ov (.none 0)) (ov (Op.fa_ d.a)) rfl ?_ ((ov_size _).trans (ov_size _).symm) (ov_info _) (ov_one _) ?_; exact H2.out.res; intro W3 g3 n3; have H3 := Lib.hid n3; have B3 := Lib.hid (H2.out.bel.trans (below_of_only g3 H2.out.le.1 H2.out.bel.size)); clear g3 n3 H2))
  exact ret_opt 2 (Op.fa_ d.a) rfl r rfl H3.out rfl ⟨rfl, B3.out⟩
set_option maxHeartbeats 1000000 in
set_option maxRecDepth 100000 in
theorem opt_7 (d : Dr) (hd : d.Ok) (hf : d.sub % 9 = 7) (w : World) : Calls Tryz.prog 11 #[.agg (drv d)] w fun e w' => e = .returned (.agg (ov (Op.fs_ d.a))) ∧ Below w.heap.size w w' := by
  have HD := Lib.hid hd
  obtain ⟨l0, l1, l2, l3, l4, l5, l6, l7⟩ := hd
  have hq : (d.sub : Int) % 9 = 7 := by omega
  go_enter Tryz.func11, Tryz.ntmps11
  go_upto_region 1 with (first
    | (refine wp_box rfl 48 _ rfl (drv d) rfl ?_; intro U0 b hb hU)
    | (refine wp_new rfl 44 rfl (ov (.none 0)) opt_zero ?_; intro U1 r hr hU1; have H0 := Lib.hid (Db.of hb hU hr hU1); clear hb hU hr hU1))
  have c0 := (H0.out.src.cell 0).trans (dr_0 d)
  go_upto_region 2 with (first
    | (refine wp_build rfl 44 _ rfl (.agg (ov (.none 7))) (by kernel_rfl) ?_)
    | (refine wp_new rfl 44 rfl (ov (.none 0)) opt_zero ?_; intro U2 X hX hU; have HA2 := Lib.hid (H0.out.made hX hU); clear hX hU H0 c0)
    | (refine st_row rfl 44 _ _ rfl X rfl 44 (ov (.none 0)) (ov (.none 7)) rfl ?_ ((ov_size _).trans (ov_size _).symm) (ov_info _) (ov_one _) ?_; exact HA2.out.new; intro U g n; have HU := Lib.hid (HA2.out.turn g n); clear g n HA2))
  have x0 : U.cell? ⟨X, 0, none⟩ = some (.int .i64 7) := (HU.out.new.cell 0).trans (ov_0 (.none 7))
  have c6 := (HU.out.src.cell 6).trans (dr_6 d)
  go_wp2_with (first
    | (refine wp_build rfl 40 _ rfl (.agg (L13.nuv d.a)) (by kernel_rfl) ?_)
    | (refine st_part rfl 40 _ _ rfl X 35 rfl 44 (ov (.none 7)) (L13.nuv d.a) (ov (Op.fs_ d.a)) (by kernel_rfl) ?_ (by rw [ov_size]; exact Nat.le_of_ble_eq_true rfl) L13.fs_size (by kernel_rfl) (by kernel_rfl) ?_; exact HU.out.new; intro W2 g2 n2; have H2 := Lib.hid (HU.out.turn g2 n2); clear g2 n2 HU)
    | (refine wpList_load_row rfl 44 _ rfl X rfl 44 (ov (Op.fs_ d.a)) (0, 0) _ ?_ Tryz.underlying44 rfl (ov_info _) ?_; exact H2.out.new)
    | (refine st_row rfl 44 _ _ rfl r rfl 44 (ov (.none 0)) (ov (Op.fs_ d.a)) rfl ?_ ((ov_size _).trans (ov_size _).symm) (ov_info _) (ov_one _) ?_; exact H2.out.res; intro W3 g3 n3; have H3 := Lib.hid n3; have B3 := Lib.hid (H2.out.bel.trans (below_of_only g3 H2.out.le.1 H2.out.bel.size)); clear g3 n3 H2))
  exact ret_opt 2 (Op.fs_ d.a) rfl r rfl H3.out rfl ⟨rfl, B3.out⟩
set_option maxHeartbeats 1000000 in
set_option maxRecDepth 100000 in
theorem opt_8 (d : Dr) (hd : d.Ok) (hf : d.sub % 9 = 8) (w : World) : Calls Tryz.prog 11 #[.agg (drv d)] w fun e w' => e = .returned (.agg (ov (Op.rs_ ((d.id % 16 : Nat) : Int) (d.what : Int)))) ∧ Below w.heap.size w w' := by
  have HD := Lib.hid hd
  obtain ⟨l0, l1, l2, l3, l4, l5, l6, l7⟩ := hd
  have hq : (d.sub : Int) % 9 = 8 := by omega
  go_enter Tryz.func11, Tryz.ntmps11
  go_upto_region 1 with (first
    | (refine wp_box rfl 48 _ rfl (drv d) rfl ?_; intro U0 b hb hU)
    | (refine wp_new rfl 44 rfl (ov (.none 0)) opt_zero ?_; intro U1 r hr hU1; have H0 := Lib.hid (Db.of hb hU hr hU1); clear hb hU hr hU1))
  have c0 := (H0.out.src.cell 0).trans (dr_0 d)
  go_upto_region 2 with (first
    | (refine wp_build rfl 44 _ rfl (.agg (ov (.none 8))) (by kernel_rfl) ?_)
    | (refine wp_new rfl 44 rfl (ov (.none 0)) opt_zero ?_; intro U2 X hX hU; have HA2 := Lib.hid (H0.out.made hX hU); clear hX hU H0 c0)
    | (refine st_row rfl 44 _ _ rfl X rfl 44 (ov (.none 0)) (ov (.none 8)) rfl ?_ ((ov_size _).trans (ov_size _).symm) (ov_info _) (ov_one _) ?_; exact HA2.out.new; intro U g n; have HU := Lib.hid (HA2.out.turn g n); clear g n HA2))
  have x0 : U.cell? ⟨X, 0, none⟩ = some (.int .i64 8) := (HU.out.new.cell 0).trans (ov_0 (.none 8))
  have c1 := (HU.out.src.cell 1).trans (dr_1 d)
  have c2 := (HU.out.src.cell 2).trans (dr_2 d)
  go_wp2_with (first
    | (refine wp_build rfl 42 _ rfl (.agg (L13.rsv ((d.id % 16 : Nat) : Int) (d.what : Int))) (by kernel_rfl) ?_)
    | (refine st_part rfl 42 _ _ rfl X 36 rfl 44 (ov (.none 8)) (L13.rsv ((d.id % 16 : Nat) : Int) (d.what : Int)) (ov (Op.rs_ ((d.id % 16 : Nat) : Int) (d.what : Int))) (by kernel_rfl) ?_ (by rw [ov_size]; exact Nat.le_of_ble_eq_true rfl) L13.rs_size (by kernel_rfl) (by kernel_rfl) ?_; exact HU.out.new; intro W2 g2 n2; have H2 := Lib.hid (HU.out.turn g2 n2); clear g2 n2 HU)
    | (refine wpList_load_row rfl 44 _ rfl X rfl 44 (ov (Op.rs_ ((d.id % 16 : Nat) : Int) (d.what : Int))) (0, 0) _ ?_ Tryz.underlying44 rfl (ov_info _) ?_; exact H2.out.new)
    | (refine st_row rfl 44 _ _ rfl r rfl 44 (ov (.none 0)) (ov (Op.rs_ ((d.id % 16 : Nat) : Int) (d.what : Int))) rfl ?_ ((ov_size _).trans (ov_size _).symm) (ov_info _) (ov_one _) ?_; exact H2.out.res; intro W3 g3 n3; have H3 := Lib.hid n3; have B3 := Lib.hid (H2.out.bel.trans (below_of_only g3 H2.out.le.1 H2.out.bel.size)); clear g3 n3 H2))
  exact ret_opt 2 (Op.rs_ ((d.id % 16 : Nat) : Int) (d.what : Int)) rfl r rfl H3.out rfl ⟨rfl, B3.out⟩
theorem Opt_any (d : Dr) (hd : d.Ok) (w : World) : Calls Tryz.prog 11 #[.agg (drv d)] w fun e w' => e = .returned (.agg (ov d.op)) ∧ Below w.heap.size w w' := by
  by_cases h0 : d.sub % 9 = 0
  · rw [show d.op = Op.cap_ d.cap from by unfold Dr.op; rw [if_pos h0]]; exact opt_0 d hd h0 w
  by_cases h1 : d.sub % 9 = 1
  · rw [show d.op = Op.jn_ d.jn from by unfold Dr.op; rw [if_neg h0, if_pos h1]]; exact opt_1 d hd h1 w
  by_cases h2 : d.sub % 9 = 2
  · rw [show d.op = Op.ds_ d.ds from by unfold Dr.op; rw [if_neg h0, if_neg h1, if_pos h2]]; exact opt_2 d hd h2 w
  by_cases h3 : d.sub % 9 = 3
  · rw [show d.op = Op.ad_ d.ad from by unfold Dr.op; rw [if_neg h0, if_neg h1, if_neg h2, if_pos h3]]; exact opt_3 d hd h3 w
  by_cases h4 : d.sub % 9 = 4
  · rw [show d.op = Op.rm_ d.rm from by unfold Dr.op; rw [if_neg h0, if_neg h1, if_neg h2, if_neg h3, if_pos h4]]; exact opt_4 d hd h4 w
  by_cases h5 : d.sub % 9 = 5
  · rw [show d.op = Op.pr_ d.f0 from by unfold Dr.op; rw [if_neg h0, if_neg h1, if_neg h2, if_neg h3, if_neg h4, if_pos h5]]; exact opt_5 d hd h5 w
  by_cases h6 : d.sub % 9 = 6
  · rw [show d.op = Op.fa_ d.a from by unfold Dr.op; rw [if_neg h0, if_neg h1, if_neg h2, if_neg h3, if_neg h4, if_neg h5, if_pos h6]]; exact opt_6 d hd h6 w
  by_cases h7 : d.sub % 9 = 7
  · rw [show d.op = Op.fs_ d.a from by unfold Dr.op; rw [if_neg h0, if_neg h1, if_neg h2, if_neg h3, if_neg h4, if_neg h5, if_neg h6, if_pos h7]]; exact opt_7 d hd h7 w
  rw [show d.op = Op.rs_ ((d.id % 16 : Nat) : Int) (d.what : Int) from by unfold Dr.op; rw [if_neg h0, if_neg h1, if_neg h2, if_neg h3, if_neg h4, if_neg h5, if_neg h6, if_neg h7]]; exact opt_8 d hd (by omega) w
end Go.Proofs.YtnlhhjhidkjlbaaGreatDoor.L14
namespace Go.Proofs.YtnlhhjhidkjlbaaGreatDoor.L14
open Go Go.ChangeShapes Go.WideShapes Go.ChangeAt Go.RowKit
set_option linter.unusedVariables false

theorem own : ownKnob Tryz.prog.godebug = none := by kernel_rfl
theorem laidOut : laidOutB Tryz.prog = true := by kernel_rfl
abbrev laid1 : List (String × DataW Unit) := [("errors.errorType", Rows.laid_errors_errorType), ("plait/join.sizes", Rows.laid_plait_join_sizes)]
theorem door_met (os : Os) (args : Array Value) : laidMetH Tryz.prog laid1 ((World.doorLaid Tryz.prog 400 os).forCall (fun _ _ => 0) ⟨#[], args, []⟩).memory :=
  laidMetH_of_parts3 (fuel := 8) (laidMet_of_run' 8 (by kernel_rfl) (by kernel_rfl)) (by kernel_rfl) (by kernel_rfl)
/-- Two numbers, one behind the other. -/
theorem size_cells {H : Type} {enc : TypeId × Value → H} {w : World} {base : Nat} {sp : Nat → Bool} {held : Bool} {fuel : Nat} {c0 c1 : Value} {x : DataW H × List MemPlace}
    (h : DataW.trod enc Tryz.prog w base sp held fuel 232 [c0, c1] = some x) : ∃ a b : Int, c0 = .int .i64 a ∧ c1 = .int .i64 b ∧ x.1 = .agg [.lit (.int .i64 a), .lit (.int .i64 b)] := by
  obtain ⟨y0, y1, n, rfl, _, h0, h1⟩ := trod_struct2 Tryz.underlying232 h
  have q0 : DataW.trod enc Tryz.prog w base sp held n 3 (([c0, c1].drop 0).take (Tryz.prog.cellsOf 3)) = some y0 := h0
  have q1 : DataW.trod enc Tryz.prog w base sp held n 3 (([c0, c1].drop 1).take (Tryz.prog.cellsOf 3)) = some y1 := h1
  rw [show Tryz.prog.cellsOf 3 = 1 by kernel_rfl] at q0 q1
  obtain ⟨z0, e0, d0, _⟩ := DataW.trod_int Tryz.underlying3 q0
  obtain ⟨z1, e1, d1, _⟩ := DataW.trod_int Tryz.underlying3 q1
  exact ⟨z0, z1, by simpa using e0, by simpa using e1, by rw [d0, d1]⟩
theorem row_error : ((List.range Tryz.prog.types.size).filter fun t => Tryz.prog.rowNamed t [101, 114, 114, 111, 114]) = [93] := by kernel_rfl
set_option maxRecDepth 100000 in
theorem table_of {W : World} (h : laidMetH Tryz.prog laid1 W) : L10.Tbl W ∧ Hnd W := by
  have h' : laidMet Tryz.prog [("plait/join.sizes", Rows.laid_plait_join_sizes)] W ∧ handlesMet Tryz.prog [("errors.errorType", Rows.laid_errors_errorType)] W := h
  refine ⟨?_, ?_⟩
  · obtain ⟨ps, ⟨g', t', cs, fuel, p, q, hg', ht', hvar, hd, _, _⟩, _⟩ := h'.1
    have hg : Tryz.prog.globalNamed "plait/join.sizes" = some 1 := by kernel_rfl
    have hty : (Tryz.prog.globals[1]?).map (·.type) = some 233 := by kernel_rfl
    obtain rfl := Option.some.inj (hg.symm.trans hg')
    obtain rfl := Option.some.inj (hty.symm.trans ht')
    obtain ⟨xs, m, _, hx, hl, hlen, hi⟩ := DataW.trod_array Tryz.underlying233 hd
    rw [show Tryz.prog.cellsOf 232 = 2 by kernel_rfl] at hi
    rw [show Tryz.prog.cellsOf 233 = 6 by kernel_rfl] at hl
    have hx' : Rows.laid_plait_join_sizes = DataW.agg (xs.map (·.1)) := congrArg Prod.fst hx
    obtain ⟨l⟩ := cs
    match l, hl, xs, hlen, hi, hx', hvar with
    | [c0, c1, c2, c3, c4, c5], _, [x0, x1, x2], _, hi, hx', hvar =>
      obtain ⟨a0, b0, rfl, rfl, e0⟩ := size_cells (show _ = some x0 from hi 0 (by decide))
      obtain ⟨a1, b1, rfl, rfl, e1⟩ := size_cells (show _ = some x1 from hi 1 (by decide))
      obtain ⟨a2, b2, rfl, rfl, e2⟩ := size_cells (show _ = some x2 from hi 2 (by decide))
      simp only [List.map_cons, List.map_nil, e0, e1, e2, Rows.laid_plait_join_sizes, DataW.agg.injEq, List.cons.injEq, DataW.lit.injEq, Lit.int.injEq, and_true, true_and] at hx'
      obtain ⟨⟨rfl, rfl⟩, ⟨rfl, rfl⟩, ⟨rfl, rfl⟩⟩ := hx'
      have hc : ∀ i, W.cell? ⟨1, i, none⟩ = _ := fun i => World.var?_cell hg hvar i
      have k0 := hc 0
      exact ⟨World.block_lt_of_cell? W _ k0, k0, hc 1, hc 2, hc 3, hc 4, hc 5⟩
  · obtain ⟨name, u, ty, e1, e2, e3, e4, e5⟩ := h'.2 _ (List.mem_singleton.2 rfl)
    have en : name = [101, 114, 114, 111, 114] := (Option.some.inj e1).symm
    subst en
    have rt : (Tryz.prog.cutTypes.find? (·.1 == "internal/reflectlite.rtype")).map (·.2) = some 261 := by kernel_rfl
    obtain rfl := Option.some.inj (rt.symm.trans e2)
    have hm : ty ∈ (List.range Tryz.prog.types.size).filter fun t => Tryz.prog.rowNamed t [101, 114, 114, 111, 114] := List.mem_filter.2 ⟨List.mem_range.2 e3, e4⟩
    rw [row_error] at hm
    obtain rfl := List.mem_singleton.1 hm
    have et : Tryz.prog.globalNamed "errors.errorType" = some 0 := by kernel_rfl
    have k := World.var?_cell et e5 0
    have hc : W.cell? ⟨0, 0, none⟩ = some (rty 93) := k.trans (by kernel_rfl)
    exact ⟨World.block_lt_of_cell? W _ hc, hc⟩
theorem cut {α : Type} (l : List α) (a b c : Nat) (h : a + b = c) : l.drop a = (l.drop a).take b ++ l.drop c := by
  subst h
  rw [← List.drop_drop, List.take_append_drop]
/-- An array of bytes. -/
theorem bytes_of {H : Type} {enc : TypeId × Value → H} {w : World} {base : Nat} {spare : Nat → Bool} {held : Bool} {fuel : Nat} {t : TypeId} {cs : List Value} {y : DataW H × List MemPlace} (N : Nat) (ht : Tryz.prog.underlying t = some (.array N 5)) (hct : Tryz.prog.cellsOf t = N)
    (h : DataW.trod enc Tryz.prog w base spare held fuel t cs = some y) : ∃ m : List UInt8, m.length = N ∧ cs = m.map fun b => Value.int .u8 (b.toNat : Int) := by
  obtain ⟨xs, m, _, hx, hl, hlen, hi⟩ := DataW.trod_array ht h
  rw [show Tryz.prog.cellsOf 5 = 1 by kernel_rfl] at hi
  rw [hct] at hl
  have hc : ∀ i (hi' : i < N), ∃ b : UInt8, cs[i]? = some (.int .u8 (b.toNat : Int)) := fun i hi' => by
    have q := hi i hi'
    have hcell : (cs.drop i).take 1 = [cs[i]'(by omega)] := by rw [List.drop_eq_getElem_cons (by omega : i < cs.length)]; rfl
    rw [Nat.mul_one, hcell, List.getElem?_eq_getElem (show i < xs.length by omega)] at q
    obtain ⟨b, hb, _, wf⟩ := DataW.trod_int Tryz.underlying5 q
    have e : cs[i]'(by omega) = .int .u8 b := by simpa using hb
    have hbd := bounds_u8 wf
    exact ⟨UInt8.ofNat b.toNat, by rw [List.getElem?_eq_getElem (by omega), e]; simp; omega⟩
  refine ⟨(List.range N).map fun i => if h : i < N then (hc i h).choose else 0, by simp, ?_⟩
  apply List.ext_getElem?
  intro i
  by_cases h : i < N
  · rw [(hc i h).choose_spec]
    simp [h]
  · rw [List.getElem?_eq_none (by omega), List.getElem?_eq_none (by simp; omega)]
theorem bools_of {H : Type} {enc : TypeId × Value → H} {w : World} {base : Nat} {spare : Nat → Bool} {held : Bool} {fuel : Nat} {l : List Value} {y : DataW H × List MemPlace} (h : DataW.trod enc Tryz.prog w base spare held fuel 45 l = some y) : ∃ a b c : Bool, l = [.bool a, .bool b, .bool c] := by
  obtain ⟨xs, m, _, hx, hl, hlen, hi⟩ := DataW.trod_array Tryz.underlying45 h
  rw [show Tryz.prog.cellsOf 4 = 1 by kernel_rfl] at hi
  rw [show Tryz.prog.cellsOf 45 = 3 by kernel_rfl] at hl
  clear hx
  match l, hl, xs, hlen, hi with
  | [c0, c1, c2], _, [x0, x1, x2], _, hi =>
    have t0 : DataW.trod enc Tryz.prog w base spare held m 4 [c0] = some x0 := hi 0 (by decide)
    have t1 : DataW.trod enc Tryz.prog w base spare held m 4 [c1] = some x1 := hi 1 (by decide)
    have t2 : DataW.trod enc Tryz.prog w base spare held m 4 [c2] = some x2 := hi 2 (by decide)
    obtain ⟨z0, e0, -⟩ := DataW.trod_bool Tryz.underlying4 t0
    obtain ⟨z1, e1, -⟩ := DataW.trod_bool Tryz.underlying4 t1
    obtain ⟨z2, e2, -⟩ := DataW.trod_bool Tryz.underlying4 t2
    obtain rfl : c0 = _ := by simpa using e0
    obtain rfl : c1 = _ := by simpa using e1
    obtain rfl : c2 = _ := by simpa using e2
    exact ⟨z0, z1, z2, rfl⟩
set_option maxRecDepth 100000 in
theorem tr_cap {H : Type} {enc : TypeId × Value → H} {w : World} {base : Nat} {spare : Nat → Bool} {held : Bool} {fuel : Nat} {l : List Value} {x : DataW H × List MemPlace} (h : DataW.trod enc Tryz.prog w base spare held fuel 25 l = some x) : ∃ y : L9.Cap, l = (L9.capv y).toList ∧ y.Ok := by
  obtain ⟨xs, n, _, hx, hl, hlen, hfld⟩ := DataW.trod_struct Tryz.underlying25 h
  have hln : l.length = 8 := hl.trans (by kernel_rfl)
  have hxn : xs.length = 8 := hlen
  clear hx hl hlen
  match l, hln, xs, hxn, hfld with
  | [c0, c1, c2, c3, c4, c5, c6, c7], hln, [y0, y1, y2, y3, y4, y5, y6, y7], _, hfld =>
    have t0 : DataW.trod enc Tryz.prog w base spare held n 3 [c0] = some y0 := by
      have q : DataW.trod enc Tryz.prog w base spare held n 3 (([c0, c1, c2, c3, c4, c5, c6, c7].drop 0).take (Tryz.prog.cellsOf 3)) = some y0 := hfld 0 _ rfl
      rw [show Tryz.prog.cellsOf 3 = 1 by kernel_rfl] at q
      exact q
    have t1 : DataW.trod enc Tryz.prog w base spare held n 3 [c1] = some y1 := by
      have q : DataW.trod enc Tryz.prog w base spare held n 3 (([c0, c1, c2, c3, c4, c5, c6, c7].drop 1).take (Tryz.prog.cellsOf 3)) = some y1 := hfld 1 _ rfl
      rw [show Tryz.prog.cellsOf 3 = 1 by kernel_rfl] at q
      exact q
    have t2 : DataW.trod enc Tryz.prog w base spare held n 4 [c2] = some y2 := by
      have q : DataW.trod enc Tryz.prog w base spare held n 4 (([c0, c1, c2, c3, c4, c5, c6, c7].drop 2).take (Tryz.prog.cellsOf 4)) = some y2 := hfld 2 _ rfl
      rw [show Tryz.prog.cellsOf 4 = 1 by kernel_rfl] at q
      exact q
    have t3 : DataW.trod enc Tryz.prog w base spare held n 4 [c3] = some y3 := by
      have q : DataW.trod enc Tryz.prog w base spare held n 4 (([c0, c1, c2, c3, c4, c5, c6, c7].drop 3).take (Tryz.prog.cellsOf 4)) = some y3 := hfld 3 _ rfl
      rw [show Tryz.prog.cellsOf 4 = 1 by kernel_rfl] at q
      exact q
    have t4 : DataW.trod enc Tryz.prog w base spare held n 22 [c4] = some y4 := by
      have q : DataW.trod enc Tryz.prog w base spare held n 22 (([c0, c1, c2, c3, c4, c5, c6, c7].drop 4).take (Tryz.prog.cellsOf 22)) = some y4 := hfld 4 _ rfl
      rw [show Tryz.prog.cellsOf 22 = 1 by kernel_rfl] at q
      exact q
    have t5 : DataW.trod enc Tryz.prog w base spare held n 22 [c5] = some y5 := by
      have q : DataW.trod enc Tryz.prog w base spare held n 22 (([c0, c1, c2, c3, c4, c5, c6, c7].drop 5).take (Tryz.prog.cellsOf 22)) = some y5 := hfld 5 _ rfl
      rw [show Tryz.prog.cellsOf 22 = 1 by kernel_rfl] at q
      exact q
    have t6 : DataW.trod enc Tryz.prog w base spare held n 3 [c6] = some y6 := by
      have q : DataW.trod enc Tryz.prog w base spare held n 3 (([c0, c1, c2, c3, c4, c5, c6, c7].drop 6).take (Tryz.prog.cellsOf 3)) = some y6 := hfld 6 _ rfl
      rw [show Tryz.prog.cellsOf 3 = 1 by kernel_rfl] at q
      exact q
    have t7 : DataW.trod enc Tryz.prog w base spare held n 23 [c7] = some y7 := by
      have q : DataW.trod enc Tryz.prog w base spare held n 23 (([c0, c1, c2, c3, c4, c5, c6, c7].drop 7).take (Tryz.prog.cellsOf 23)) = some y7 := hfld 7 _ rfl
      rw [show Tryz.prog.cellsOf 23 = 1 by kernel_rfl] at q
      exact q
    obtain ⟨z0, e0, -, w0⟩ := DataW.trod_int Tryz.underlying3 t0
    obtain rfl : c0 = _ := by simpa using e0
    obtain ⟨l0, u0⟩ := bounds_i64 w0
    obtain ⟨z1, e1, -, w1⟩ := DataW.trod_int Tryz.underlying3 t1
    obtain rfl : c1 = _ := by simpa using e1
    obtain ⟨l1, u1⟩ := bounds_i64 w1
    obtain ⟨z2, e2, -⟩ := DataW.trod_bool Tryz.underlying4 t2
    obtain rfl : c2 = _ := by simpa using e2
    obtain ⟨z3, e3, -⟩ := DataW.trod_bool Tryz.underlying4 t3
    obtain rfl : c3 = _ := by simpa using e3
    obtain ⟨z4, e4, -, w4⟩ := DataW.trod_int Tryz.underlying22 t4
    obtain rfl : c4 = _ := by simpa using e4
    obtain ⟨l4, u4⟩ := bounds_u64 w4
    obtain ⟨m4, rfl⟩ := Int.eq_ofNat_of_zero_le l4
    obtain ⟨z5, e5, -, w5⟩ := DataW.trod_int Tryz.underlying22 t5
    obtain rfl : c5 = _ := by simpa using e5
    obtain ⟨l5, u5⟩ := bounds_u64 w5
    obtain ⟨m5, rfl⟩ := Int.eq_ofNat_of_zero_le l5
    obtain ⟨z6, e6, -, w6⟩ := DataW.trod_int Tryz.underlying3 t6
    obtain rfl : c6 = _ := by simpa using e6
    obtain ⟨l6, u6⟩ := bounds_i64 w6
    obtain ⟨z7, e7, -, w7⟩ := DataW.trod_int Tryz.underlying23 t7
    obtain rfl : c7 = _ := by simpa using e7
    obtain ⟨l7, u7⟩ := bounds_u16 w7
    obtain ⟨m7, rfl⟩ := Int.eq_ofNat_of_zero_le l7
    exact ⟨⟨z0, z1, z2, z3, m4, m5, z6, m7⟩, rfl, ⟨l0, u0⟩, ⟨l1, u1⟩, ⟨l6, u6⟩, show m4 ≤ 18446744073709551615 by omega, show m5 ≤ 18446744073709551615 by omega, show m7 ≤ 65535 by omega⟩
set_option maxRecDepth 100000 in
theorem tr_jn {H : Type} {enc : TypeId × Value → H} {w : World} {base : Nat} {spare : Nat → Bool} {held : Bool} {fuel : Nat} {l : List Value} {x : DataW H × List MemPlace} (h : DataW.trod enc Tryz.prog w base spare held fuel 28 l = some x) : ∃ y : L10.Jn, l = (L10.jnv y).toList ∧ ∀ m : ByteArray, m.size ≤ 1000 → L10.Jn.Ok { y with mac := m } := by
  obtain ⟨xs, n, _, hx, hl, hlen, hfld⟩ := DataW.trod_struct Tryz.underlying28 h
  have hln : l.length = 6 := hl.trans (by kernel_rfl)
  have hxn : xs.length = 6 := hlen
  clear hx hl hlen
  match l, hln, xs, hxn, hfld with
  | [c0, c1, c2, c3, c4, c5], hln, [y0, y1, y2, y3, y4, y5], _, hfld =>
    have t0 : DataW.trod enc Tryz.prog w base spare held n 3 [c0] = some y0 := by
      have q : DataW.trod enc Tryz.prog w base spare held n 3 (([c0, c1, c2, c3, c4, c5].drop 0).take (Tryz.prog.cellsOf 3)) = some y0 := hfld 0 _ rfl
      rw [show Tryz.prog.cellsOf 3 = 1 by kernel_rfl] at q
      exact q
    have t1 : DataW.trod enc Tryz.prog w base spare held n 4 [c1] = some y1 := by
      have q : DataW.trod enc Tryz.prog w base spare held n 4 (([c0, c1, c2, c3, c4, c5].drop 1).take (Tryz.prog.cellsOf 4)) = some y1 := hfld 1 _ rfl
      rw [show Tryz.prog.cellsOf 4 = 1 by kernel_rfl] at q
      exact q
    have t2 : DataW.trod enc Tryz.prog w base spare held n 3 [c2] = some y2 := by
      have q : DataW.trod enc Tryz.prog w base spare held n 3 (([c0, c1, c2, c3, c4, c5].drop 2).take (Tryz.prog.cellsOf 3)) = some y2 := hfld 2 _ rfl
      rw [show Tryz.prog.cellsOf 3 = 1 by kernel_rfl] at q
      exact q
    have t3 : DataW.trod enc Tryz.prog w base spare held n 26 [c3] = some y3 := by
      have q : DataW.trod enc Tryz.prog w base spare held n 26 (([c0, c1, c2, c3, c4, c5].drop 3).take (Tryz.prog.cellsOf 26)) = some y3 := hfld 3 _ rfl
      rw [show Tryz.prog.cellsOf 26 = 1 by kernel_rfl] at q
      exact q
    have t4 : DataW.trod enc Tryz.prog w base spare held n 26 [c4] = some y4 := by
      have q : DataW.trod enc Tryz.prog w base spare held n 26 (([c0, c1, c2, c3, c4, c5].drop 4).take (Tryz.prog.cellsOf 26)) = some y4 := hfld 4 _ rfl
      rw [show Tryz.prog.cellsOf 26 = 1 by kernel_rfl] at q
      exact q
    have t5 : DataW.trod enc Tryz.prog w base spare held n 9 [c5] = some y5 := by
      have q : DataW.trod enc Tryz.prog w base spare held n 9 (([c0, c1, c2, c3, c4, c5].drop 5).take (Tryz.prog.cellsOf 9)) = some y5 := hfld 5 _ rfl
      rw [show Tryz.prog.cellsOf 9 = 1 by kernel_rfl] at q
      exact q
    obtain ⟨z0, e0, -, w0⟩ := DataW.trod_int Tryz.underlying3 t0
    obtain rfl : c0 = _ := by simpa using e0
    obtain ⟨l0, u0⟩ := bounds_i64 w0
    obtain ⟨z1, e1, -⟩ := DataW.trod_bool Tryz.underlying4 t1
    obtain rfl : c1 = _ := by simpa using e1
    obtain ⟨z2, e2, -, w2⟩ := DataW.trod_int Tryz.underlying3 t2
    obtain rfl : c2 = _ := by simpa using e2
    obtain ⟨l2, u2⟩ := bounds_i64 w2
    obtain ⟨z3, e3, -, w3⟩ := DataW.trod_int Tryz.underlying26 t3
    obtain rfl : c3 = _ := by simpa using e3
    obtain ⟨l3, u3⟩ := bounds_u32 w3
    obtain ⟨m3, rfl⟩ := Int.eq_ofNat_of_zero_le l3
    obtain ⟨z4, e4, -, w4⟩ := DataW.trod_int Tryz.underlying26 t4
    obtain rfl : c4 = _ := by simpa using e4
    obtain ⟨l4, u4⟩ := bounds_u32 w4
    obtain ⟨m4, rfl⟩ := Int.eq_ofNat_of_zero_le l4
    obtain ⟨z5, e5, -, -⟩ := DataW.trod_string Tryz.underlying9 t5
    obtain rfl : c5 = _ := by simpa using e5
    exact ⟨⟨z0, z1, z2, m3, m4, z5⟩, rfl, fun m hm => ⟨⟨l0, u0⟩, ⟨l2, u2⟩, show m3 ≤ 4294967295 by omega, show m4 ≤ 4294967295 by omega, show m.size ≤ _ by omega⟩⟩
set_option maxRecDepth 100000 in
theorem tr_ds {H : Type} {enc : TypeId × Value → H} {w : World} {base : Nat} {spare : Nat → Bool} {held : Bool} {fuel : Nat} {l : List Value} {x : DataW H × List MemPlace} (h : DataW.trod enc Tryz.prog w base spare held fuel 30 l = some x) : ∃ y : L11.Ds, l = (L11.dsv y).toList ∧ y.Ok := by
  obtain ⟨xs, n, _, hx, hl, hlen, hfld⟩ := DataW.trod_struct Tryz.underlying30 h
  have hln : l.length = 11 := hl.trans (by kernel_rfl)
  have hxn : xs.length = 11 := hlen
  clear hx hl hlen
  match l, hln, xs, hxn, hfld with
  | [c0, c1, c2, c3, c4, c5, c6, c7, c8, c9, c10], hln, [y0, y1, y2, y3, y4, y5, y6, y7, y8, y9, y10], _, hfld =>
    have t0 : DataW.trod enc Tryz.prog w base spare held n 4 [c0] = some y0 := by
      have q : DataW.trod enc Tryz.prog w base spare held n 4 (([c0, c1, c2, c3, c4, c5, c6, c7, c8, c9, c10].drop 0).take (Tryz.prog.cellsOf 4)) = some y0 := hfld 0 _ rfl
      rw [show Tryz.prog.cellsOf 4 = 1 by kernel_rfl] at q
      exact q
    have t1 : DataW.trod enc Tryz.prog w base spare held n 4 [c1] = some y1 := by
      have q : DataW.trod enc Tryz.prog w base spare held n 4 (([c0, c1, c2, c3, c4, c5, c6, c7, c8, c9, c10].drop 1).take (Tryz.prog.cellsOf 4)) = some y1 := hfld 1 _ rfl
      rw [show Tryz.prog.cellsOf 4 = 1 by kernel_rfl] at q
      exact q
    have t2 : DataW.trod enc Tryz.prog w base spare held n 4 [c2] = some y2 := by
      have q : DataW.trod enc Tryz.prog w base spare held n 4 (([c0, c1, c2, c3, c4, c5, c6, c7, c8, c9, c10].drop 2).take (Tryz.prog.cellsOf 4)) = some y2 := hfld 2 _ rfl
      rw [show Tryz.prog.cellsOf 4 = 1 by kernel_rfl] at q
      exact q
    have t3 : DataW.trod enc Tryz.prog w base spare held n 22 [c3] = some y3 := by
      have q : DataW.trod enc Tryz.prog w base spare held n 22 (([c0, c1, c2, c3, c4, c5, c6, c7, c8, c9, c10].drop 3).take (Tryz.prog.cellsOf 22)) = some y3 := hfld 3 _ rfl
      rw [show Tryz.prog.cellsOf 22 = 1 by kernel_rfl] at q
      exact q
    have t4 : DataW.trod enc Tryz.prog w base spare held n 4 [c4] = some y4 := by
      have q : DataW.trod enc Tryz.prog w base spare held n 4 (([c0, c1, c2, c3, c4, c5, c6, c7, c8, c9, c10].drop 4).take (Tryz.prog.cellsOf 4)) = some y4 := hfld 4 _ rfl
      rw [show Tryz.prog.cellsOf 4 = 1 by kernel_rfl] at q
      exact q
    have t5 : DataW.trod enc Tryz.prog w base spare held n 4 [c5] = some y5 := by
      have q : DataW.trod enc Tryz.prog w base spare held n 4 (([c0, c1, c2, c3, c4, c5, c6, c7, c8, c9, c10].drop 5).take (Tryz.prog.cellsOf 4)) = some y5 := hfld 5 _ rfl
      rw [show Tryz.prog.cellsOf 4 = 1 by kernel_rfl] at q
      exact q
    have t6 : DataW.trod enc Tryz.prog w base spare held n 22 [c6] = some y6 := by
      have q : DataW.trod enc Tryz.prog w base spare held n 22 (([c0, c1, c2, c3, c4, c5, c6, c7, c8, c9, c10].drop 6).take (Tryz.prog.cellsOf 22)) = some y6 := hfld 6 _ rfl
      rw [show Tryz.prog.cellsOf 22 = 1 by kernel_rfl] at q
      exact q
    have t7 : DataW.trod enc Tryz.prog w base spare held n 26 [c7] = some y7 := by
      have q : DataW.trod enc Tryz.prog w base spare held n 26 (([c0, c1, c2, c3, c4, c5, c6, c7, c8, c9, c10].drop 7).take (Tryz.prog.cellsOf 26)) = some y7 := hfld 7 _ rfl
      rw [show Tryz.prog.cellsOf 26 = 1 by kernel_rfl] at q
      exact q
    have t8 : DataW.trod enc Tryz.prog w base spare held n 3 [c8] = some y8 := by
      have q : DataW.trod enc Tryz.prog w base spare held n 3 (([c0, c1, c2, c3, c4, c5, c6, c7, c8, c9, c10].drop 8).take (Tryz.prog.cellsOf 3)) = some y8 := hfld 8 _ rfl
      rw [show Tryz.prog.cellsOf 3 = 1 by kernel_rfl] at q
      exact q
    have t9 : DataW.trod enc Tryz.prog w base spare held n 4 [c9] = some y9 := by
      have q : DataW.trod enc Tryz.prog w base spare held n 4 (([c0, c1, c2, c3, c4, c5, c6, c7, c8, c9, c10].drop 9).take (Tryz.prog.cellsOf 4)) = some y9 := hfld 9 _ rfl
      rw [show Tryz.prog.cellsOf 4 = 1 by kernel_rfl] at q
      exact q
    have t10 : DataW.trod enc Tryz.prog w base spare held n 23 [c10] = some y10 := by
      have q : DataW.trod enc Tryz.prog w base spare held n 23 (([c0, c1, c2, c3, c4, c5, c6, c7, c8, c9, c10].drop 10).take (Tryz.prog.cellsOf 23)) = some y10 := hfld 10 _ rfl
      rw [show Tryz.prog.cellsOf 23 = 1 by kernel_rfl] at q
      exact q
    obtain ⟨z0, e0, -⟩ := DataW.trod_bool Tryz.underlying4 t0
    obtain rfl : c0 = _ := by simpa using e0
    obtain ⟨z1, e1, -⟩ := DataW.trod_bool Tryz.underlying4 t1
    obtain rfl : c1 = _ := by simpa using e1
    obtain ⟨z2, e2, -⟩ := DataW.trod_bool Tryz.underlying4 t2
    obtain rfl : c2 = _ := by simpa using e2
    obtain ⟨z3, e3, -, w3⟩ := DataW.trod_int Tryz.underlying22 t3
    obtain rfl : c3 = _ := by simpa using e3
    obtain ⟨l3, u3⟩ := bounds_u64 w3
    obtain ⟨m3, rfl⟩ := Int.eq_ofNat_of_zero_le l3
    obtain ⟨z4, e4, -⟩ := DataW.trod_bool Tryz.underlying4 t4
    obtain rfl : c4 = _ := by simpa using e4
    obtain ⟨z5, e5, -⟩ := DataW.trod_bool Tryz.underlying4 t5
    obtain rfl : c5 = _ := by simpa using e5
    obtain ⟨z6, e6, -, w6⟩ := DataW.trod_int Tryz.underlying22 t6
    obtain rfl : c6 = _ := by simpa using e6
    obtain ⟨l6, u6⟩ := bounds_u64 w6
    obtain ⟨m6, rfl⟩ := Int.eq_ofNat_of_zero_le l6
    obtain ⟨z7, e7, -, w7⟩ := DataW.trod_int Tryz.underlying26 t7
    obtain rfl : c7 = _ := by simpa using e7
    obtain ⟨l7, u7⟩ := bounds_u32 w7
    obtain ⟨m7, rfl⟩ := Int.eq_ofNat_of_zero_le l7
    obtain ⟨z8, e8, -, w8⟩ := DataW.trod_int Tryz.underlying3 t8
    obtain rfl : c8 = _ := by simpa using e8
    obtain ⟨l8, u8⟩ := bounds_i64 w8
    obtain ⟨z9, e9, -⟩ := DataW.trod_bool Tryz.underlying4 t9
    obtain rfl : c9 = _ := by simpa using e9
    obtain ⟨z10, e10, -, w10⟩ := DataW.trod_int Tryz.underlying23 t10
    obtain rfl : c10 = _ := by simpa using e10
    obtain ⟨l10, u10⟩ := bounds_u16 w10
    obtain ⟨m10, rfl⟩ := Int.eq_ofNat_of_zero_le l10
    exact ⟨⟨z0, z1, z2, m3, z4, z5, m6, m7, z8, z9, m10⟩, rfl, show m3 ≤ 18446744073709551615 by omega, show m6 ≤ 18446744073709551615 by omega, show m7 ≤ 4294967295 by omega, ⟨l8, u8⟩, show m10 ≤ 65535 by omega⟩
set_option maxRecDepth 100000 in
theorem tr_ad {H : Type} {enc : TypeId × Value → H} {w : World} {base : Nat} {spare : Nat → Bool} {held : Bool} {fuel : Nat} {l : List Value} {x : DataW H × List MemPlace} (h : DataW.trod enc Tryz.prog w base spare held fuel 32 l = some x) : ∃ y : L12.Ad, l = (L12.adv y).toList ∧ ∀ i m : ByteArray, i.size ≤ 1000 → m.size ≤ 1000 → L12.Ad.Ok { y with ip := i, mac := m } := by
  obtain ⟨xs, n, _, hx, hl, hlen, hfld⟩ := DataW.trod_struct Tryz.underlying32 h
  have hln : l.length = 6 := hl.trans (by kernel_rfl)
  have hxn : xs.length = 6 := hlen
  clear hx hl hlen
  match l, hln, xs, hxn, hfld with
  | [c0, c1, c2, c3, c4, c5], hln, [y0, y1, y2, y3, y4, y5], _, hfld =>
    have t0 : DataW.trod enc Tryz.prog w base spare held n 4 [c0] = some y0 := by
      have q : DataW.trod enc Tryz.prog w base spare held n 4 (([c0, c1, c2, c3, c4, c5].drop 0).take (Tryz.prog.cellsOf 4)) = some y0 := hfld 0 _ rfl
      rw [show Tryz.prog.cellsOf 4 = 1 by kernel_rfl] at q
      exact q
    have t1 : DataW.trod enc Tryz.prog w base spare held n 3 [c1] = some y1 := by
      have q : DataW.trod enc Tryz.prog w base spare held n 3 (([c0, c1, c2, c3, c4, c5].drop 1).take (Tryz.prog.cellsOf 3)) = some y1 := hfld 1 _ rfl
      rw [show Tryz.prog.cellsOf 3 = 1 by kernel_rfl] at q
      exact q
    have t2 : DataW.trod enc Tryz.prog w base spare held n 9 [c2] = some y2 := by
      have q : DataW.trod enc Tryz.prog w base spare held n 9 (([c0, c1, c2, c3, c4, c5].drop 2).take (Tryz.prog.cellsOf 9)) = some y2 := hfld 2 _ rfl
      rw [show Tryz.prog.cellsOf 9 = 1 by kernel_rfl] at q
      exact q
    have t3 : DataW.trod enc Tryz.prog w base spare held n 4 [c3] = some y3 := by
      have q : DataW.trod enc Tryz.prog w base spare held n 4 (([c0, c1, c2, c3, c4, c5].drop 3).take (Tryz.prog.cellsOf 4)) = some y3 := hfld 3 _ rfl
      rw [show Tryz.prog.cellsOf 4 = 1 by kernel_rfl] at q
      exact q
    have t4 : DataW.trod enc Tryz.prog w base spare held n 3 [c4] = some y4 := by
      have q : DataW.trod enc Tryz.prog w base spare held n 3 (([c0, c1, c2, c3, c4, c5].drop 4).take (Tryz.prog.cellsOf 3)) = some y4 := hfld 4 _ rfl
      rw [show Tryz.prog.cellsOf 3 = 1 by kernel_rfl] at q
      exact q
    have t5 : DataW.trod enc Tryz.prog w base spare held n 9 [c5] = some y5 := by
      have q : DataW.trod enc Tryz.prog w base spare held n 9 (([c0, c1, c2, c3, c4, c5].drop 5).take (Tryz.prog.cellsOf 9)) = some y5 := hfld 5 _ rfl
      rw [show Tryz.prog.cellsOf 9 = 1 by kernel_rfl] at q
      exact q
    obtain ⟨z0, e0, -⟩ := DataW.trod_bool Tryz.underlying4 t0
    obtain rfl : c0 = _ := by simpa using e0
    obtain ⟨z1, e1, -, w1⟩ := DataW.trod_int Tryz.underlying3 t1
    obtain rfl : c1 = _ := by simpa using e1
    obtain ⟨l1, u1⟩ := bounds_i64 w1
    obtain ⟨z2, e2, -, -⟩ := DataW.trod_string Tryz.underlying9 t2
    obtain rfl : c2 = _ := by simpa using e2
    obtain ⟨z3, e3, -⟩ := DataW.trod_bool Tryz.underlying4 t3
    obtain rfl : c3 = _ := by simpa using e3
    obtain ⟨z4, e4, -, w4⟩ := DataW.trod_int Tryz.underlying3 t4
    obtain rfl : c4 = _ := by simpa using e4
    obtain ⟨l4, u4⟩ := bounds_i64 w4
    obtain ⟨z5, e5, -, -⟩ := DataW.trod_string Tryz.underlying9 t5
    obtain rfl : c5 = _ := by simpa using e5
    exact ⟨⟨z0, z1, z2, z3, z4, z5⟩, rfl, fun i m hi hm => ⟨⟨l1, u1⟩, show i.size ≤ _ by omega, ⟨l4, u4⟩, show m.size ≤ _ by omega⟩⟩
set_option maxRecDepth 100000 in
theorem tr_rm {H : Type} {enc : TypeId × Value → H} {w : World} {base : Nat} {spare : Nat → Bool} {held : Bool} {fuel : Nat} {l : List Value} {x : DataW H × List MemPlace} (h : DataW.trod enc Tryz.prog w base spare held fuel 34 l = some x) : ∃ y : ByteArray, l = (L12.rmv y).toList := by
  obtain ⟨xs, n, _, hx, hl, hlen, hfld⟩ := DataW.trod_struct Tryz.underlying34 h
  have hln : l.length = 1 := hl.trans (by kernel_rfl)
  have hxn : xs.length = 1 := hlen
  clear hx hl hlen
  match l, hln, xs, hxn, hfld with
  | [c0], hln, [y0], _, hfld =>
    have t0 : DataW.trod enc Tryz.prog w base spare held n 9 [c0] = some y0 := by
      have q : DataW.trod enc Tryz.prog w base spare held n 9 (([c0].drop 0).take (Tryz.prog.cellsOf 9)) = some y0 := hfld 0 _ rfl
      rw [show Tryz.prog.cellsOf 9 = 1 by kernel_rfl] at q
      exact q
    obtain ⟨z0, e0, -, -⟩ := DataW.trod_string Tryz.underlying9 t0
    obtain rfl : c0 = _ := by simpa using e0
    exact ⟨z0, rfl⟩
set_option maxRecDepth 100000 in
theorem tr_pr {H : Type} {enc : TypeId × Value → H} {w : World} {base : Nat} {spare : Nat → Bool} {held : Bool} {fuel : Nat} {l : List Value} {x : DataW H × List MemPlace} (h : DataW.trod enc Tryz.prog w base spare held fuel 36 l = some x) : ∃ y : Bool, l = (L13.prv y).toList := by
  obtain ⟨xs, n, _, hx, hl, hlen, hfld⟩ := DataW.trod_struct Tryz.underlying36 h
  have hln : l.length = 1 := hl.trans (by kernel_rfl)
  have hxn : xs.length = 1 := hlen
  clear hx hl hlen
  match l, hln, xs, hxn, hfld with
  | [c0], hln, [y0], _, hfld =>
    have t0 : DataW.trod enc Tryz.prog w base spare held n 4 [c0] = some y0 := by
      have q : DataW.trod enc Tryz.prog w base spare held n 4 (([c0].drop 0).take (Tryz.prog.cellsOf 4)) = some y0 := hfld 0 _ rfl
      rw [show Tryz.prog.cellsOf 4 = 1 by kernel_rfl] at q
      exact q
    obtain ⟨z0, e0, -⟩ := DataW.trod_bool Tryz.underlying4 t0
    obtain rfl : c0 = _ := by simpa using e0
    exact ⟨z0, rfl⟩
set_option maxRecDepth 100000 in
theorem tr_fa {H : Type} {enc : TypeId × Value → H} {w : World} {base : Nat} {spare : Nat → Bool} {held : Bool} {fuel : Nat} {l : List Value} {x : DataW H × List MemPlace} (h : DataW.trod enc Tryz.prog w base spare held fuel 38 l = some x) : ∃ y : Nat, l = (L13.nuv y).toList ∧ y ≤ 18446744073709551615 := by
  obtain ⟨xs, n, _, hx, hl, hlen, hfld⟩ := DataW.trod_struct Tryz.underlying38 h
  have hln : l.length = 1 := hl.trans (by kernel_rfl)
  have hxn : xs.length = 1 := hlen
  clear hx hl hlen
  match l, hln, xs, hxn, hfld with
  | [c0], hln, [y0], _, hfld =>
    have t0 : DataW.trod enc Tryz.prog w base spare held n 22 [c0] = some y0 := by
      have q : DataW.trod enc Tryz.prog w base spare held n 22 (([c0].drop 0).take (Tryz.prog.cellsOf 22)) = some y0 := hfld 0 _ rfl
      rw [show Tryz.prog.cellsOf 22 = 1 by kernel_rfl] at q
      exact q
    obtain ⟨z0, e0, -, w0⟩ := DataW.trod_int Tryz.underlying22 t0
    obtain rfl : c0 = _ := by simpa using e0
    obtain ⟨l0, u0⟩ := bounds_u64 w0
    obtain ⟨m0, rfl⟩ := Int.eq_ofNat_of_zero_le l0
    exact ⟨m0, rfl, by omega⟩
set_option maxRecDepth 100000 in
theorem tr_fs {H : Type} {enc : TypeId × Value → H} {w : World} {base : Nat} {spare : Nat → Bool} {held : Bool} {fuel : Nat} {l : List Value} {x : DataW H × List MemPlace} (h : DataW.trod enc Tryz.prog w base spare held fuel 40 l = some x) : ∃ y : Nat, l = (L13.nuv y).toList ∧ y ≤ 18446744073709551615 := by
  obtain ⟨xs, n, _, hx, hl, hlen, hfld⟩ := DataW.trod_struct Tryz.underlying40 h
  have hln : l.length = 1 := hl.trans (by kernel_rfl)
  have hxn : xs.length = 1 := hlen
  clear hx hl hlen
  match l, hln, xs, hxn, hfld with
  | [c0], hln, [y0], _, hfld =>
    have t0 : DataW.trod enc Tryz.prog w base spare held n 22 [c0] = some y0 := by
      have q : DataW.trod enc Tryz.prog w base spare held n 22 (([c0].drop 0).take (Tryz.prog.cellsOf 22)) = some y0 := hfld 0 _ rfl
      rw [show Tryz.prog.cellsOf 22 = 1 by kernel_rfl] at q
      exact q
    obtain ⟨z0, e0, -, w0⟩ := DataW.trod_int Tryz.underlying22 t0
    obtain rfl : c0 = _ := by simpa using e0
    obtain ⟨l0, u0⟩ := bounds_u64 w0
    obtain ⟨m0, rfl⟩ := Int.eq_ofNat_of_zero_le l0
    exact ⟨m0, rfl, by omega⟩
set_option maxRecDepth 100000 in
theorem tr_rs {H : Type} {enc : TypeId × Value → H} {w : World} {base : Nat} {spare : Nat → Bool} {held : Bool} {fuel : Nat} {l : List Value} {x : DataW H × List MemPlace} (h : DataW.trod enc Tryz.prog w base spare held fuel 42 l = some x) : ∃ a b : Int, l = (L13.rsv a b).toList ∧ (-9223372036854775808 ≤ a ∧ a ≤ 9223372036854775807) ∧ (-9223372036854775808 ≤ b ∧ b ≤ 9223372036854775807) := by
  obtain ⟨xs, n, _, hx, hl, hlen, hfld⟩ := DataW.trod_struct Tryz.underlying42 h
  have hln : l.length = 2 := hl.trans (by kernel_rfl)
  have hxn : xs.length = 2 := hlen
  clear hx hl hlen
  match l, hln, xs, hxn, hfld with
  | [c0, c1], hln, [y0, y1], _, hfld =>
    have t0 : DataW.trod enc Tryz.prog w base spare held n 3 [c0] = some y0 := by
      have q : DataW.trod enc Tryz.prog w base spare held n 3 (([c0, c1].drop 0).take (Tryz.prog.cellsOf 3)) = some y0 := hfld 0 _ rfl
      rw [show Tryz.prog.cellsOf 3 = 1 by kernel_rfl] at q
      exact q
    have t1 : DataW.trod enc Tryz.prog w base spare held n 3 [c1] = some y1 := by
      have q : DataW.trod enc Tryz.prog w base spare held n 3 (([c0, c1].drop 1).take (Tryz.prog.cellsOf 3)) = some y1 := hfld 1 _ rfl
      rw [show Tryz.prog.cellsOf 3 = 1 by kernel_rfl] at q
      exact q
    obtain ⟨z0, e0, -, w0⟩ := DataW.trod_int Tryz.underlying3 t0
    obtain rfl : c0 = _ := by simpa using e0
    obtain ⟨l0, u0⟩ := bounds_i64 w0
    obtain ⟨z1, e1, -, w1⟩ := DataW.trod_int Tryz.underlying3 t1
    obtain rfl : c1 = _ := by simpa using e1
    obtain ⟨l1, u1⟩ := bounds_i64 w1
    exact ⟨z0, z1, rfl, ⟨l0, u0⟩, ⟨l1, u1⟩⟩
/-- An option with its texts changed. -/
def Op.texts (x : Op) (m i a r : ByteArray) : Op := { x with jn := { x.jn with mac := m }, ad := { x.ad with ip := i, mac := a }, rm := r }
/-- Its numbers fit their types. -/
def Op.Fit (x : Op) : Prop := ∀ m i a r : ByteArray, m.size ≤ 1000 → i.size ≤ 1000 → a.size ≤ 1000 → r.size ≤ 1000 → (x.texts m i a r).Ok
set_option maxRecDepth 100000 in
theorem tr_opt {H : Type} {enc : TypeId × Value → H} {w : World} {base : Nat} {spare : Nat → Bool} {held : Bool} {fuel : Nat} {l : List Value} {x : DataW H × List MemPlace} (h : DataW.trod enc Tryz.prog w base spare held fuel 44 l = some x) : ∃ y : Op, l = (ov y).toList ∧ y.Fit := by
  obtain ⟨xs, n, _, hx, hl, hlen, hfld⟩ := DataW.trod_struct Tryz.underlying44 h
  have hln : l.length = 38 := hl.trans (by kernel_rfl)
  have hxn : xs.length = 10 := hlen
  clear hx hl hlen
  match xs, hxn, hfld with
  | [y0, y1, y2, y3, y4, y5, y6, y7, y8, y9], _, hfld =>
    have q0 : DataW.trod enc Tryz.prog w base spare held n 3 ((l.drop 0).take 1) = some y0 := by
      have q : DataW.trod enc Tryz.prog w base spare held n 3 ((l.drop 0).take (Tryz.prog.cellsOf 3)) = some y0 := hfld 0 _ rfl
      rw [show Tryz.prog.cellsOf 3 = 1 by kernel_rfl] at q
      exact q
    have q1 : DataW.trod enc Tryz.prog w base spare held n 25 ((l.drop 1).take 8) = some y1 := by
      have q : DataW.trod enc Tryz.prog w base spare held n 25 ((l.drop 1).take (Tryz.prog.cellsOf 25)) = some y1 := hfld 1 _ rfl
      rw [show Tryz.prog.cellsOf 25 = 8 by kernel_rfl] at q
      exact q
    have q2 : DataW.trod enc Tryz.prog w base spare held n 28 ((l.drop 9).take 6) = some y2 := by
      have q : DataW.trod enc Tryz.prog w base spare held n 28 ((l.drop 9).take (Tryz.prog.cellsOf 28)) = some y2 := hfld 2 _ rfl
      rw [show Tryz.prog.cellsOf 28 = 6 by kernel_rfl] at q
      exact q
    have q3 : DataW.trod enc Tryz.prog w base spare held n 30 ((l.drop 15).take 11) = some y3 := by
      have q : DataW.trod enc Tryz.prog w base spare held n 30 ((l.drop 15).take (Tryz.prog.cellsOf 30)) = some y3 := hfld 3 _ rfl
      rw [show Tryz.prog.cellsOf 30 = 11 by kernel_rfl] at q
      exact q
    have q4 : DataW.trod enc Tryz.prog w base spare held n 32 ((l.drop 26).take 6) = some y4 := by
      have q : DataW.trod enc Tryz.prog w base spare held n 32 ((l.drop 26).take (Tryz.prog.cellsOf 32)) = some y4 := hfld 4 _ rfl
      rw [show Tryz.prog.cellsOf 32 = 6 by kernel_rfl] at q
      exact q
    have q5 : DataW.trod enc Tryz.prog w base spare held n 34 ((l.drop 32).take 1) = some y5 := by
      have q : DataW.trod enc Tryz.prog w base spare held n 34 ((l.drop 32).take (Tryz.prog.cellsOf 34)) = some y5 := hfld 5 _ rfl
      rw [show Tryz.prog.cellsOf 34 = 1 by kernel_rfl] at q
      exact q
    have q6 : DataW.trod enc Tryz.prog w base spare held n 36 ((l.drop 33).take 1) = some y6 := by
      have q : DataW.trod enc Tryz.prog w base spare held n 36 ((l.drop 33).take (Tryz.prog.cellsOf 36)) = some y6 := hfld 6 _ rfl
      rw [show Tryz.prog.cellsOf 36 = 1 by kernel_rfl] at q
      exact q
    have q7 : DataW.trod enc Tryz.prog w base spare held n 38 ((l.drop 34).take 1) = some y7 := by
      have q : DataW.trod enc Tryz.prog w base spare held n 38 ((l.drop 34).take (Tryz.prog.cellsOf 38)) = some y7 := hfld 7 _ rfl
      rw [show Tryz.prog.cellsOf 38 = 1 by kernel_rfl] at q
      exact q
    have q8 : DataW.trod enc Tryz.prog w base spare held n 40 ((l.drop 35).take 1) = some y8 := by
      have q : DataW.trod enc Tryz.prog w base spare held n 40 ((l.drop 35).take (Tryz.prog.cellsOf 40)) = some y8 := hfld 8 _ rfl
      rw [show Tryz.prog.cellsOf 40 = 1 by kernel_rfl] at q
      exact q
    have q9 : DataW.trod enc Tryz.prog w base spare held n 42 ((l.drop 36).take 2) = some y9 := by
      have q : DataW.trod enc Tryz.prog w base spare held n 42 ((l.drop 36).take (Tryz.prog.cellsOf 42)) = some y9 := hfld 9 _ rfl
      rw [show Tryz.prog.cellsOf 42 = 2 by kernel_rfl] at q
      exact q
    obtain ⟨z0, e0, -, w0⟩ := DataW.trod_int Tryz.underlying3 q0
    obtain ⟨l0, u0⟩ := bounds_i64 w0
    obtain ⟨cap, e1, k1⟩ := tr_cap q1
    obtain ⟨jn, e2, k2⟩ := tr_jn q2
    obtain ⟨ds, e3, k3⟩ := tr_ds q3
    obtain ⟨ad, e4, k4⟩ := tr_ad q4
    obtain ⟨rm, e5⟩ := tr_rm q5
    obtain ⟨pr, e6⟩ := tr_pr q6
    obtain ⟨fa, e7, k7⟩ := tr_fa q7
    obtain ⟨fs, e8, k8⟩ := tr_fs q8
    obtain ⟨rf, rr, e9, k9, k10⟩ := tr_rs q9
    refine ⟨⟨z0, cap, jn, ds, ad, rm, pr, fa, fs, rf, rr⟩, ?_, fun m i a r hm hi ha hr => ⟨⟨l0, u0⟩, k1, k2 m hm, k3, k4 i a hi ha, show r.size ≤ _ by omega, k7, k8, k9, k10⟩⟩
    have e : l.drop 0 = (ov ⟨z0, cap, jn, ds, ad, rm, pr, fa, fs, rf, rr⟩).toList := by
      rw [cut l 0 1 1 rfl, cut l 1 8 9 rfl, cut l 9 6 15 rfl, cut l 15 11 26 rfl, cut l 26 6 32 rfl, cut l 32 1 33 rfl, cut l 33 1 34 rfl, cut l 34 1 35 rfl, cut l 35 1 36 rfl, cut l 36 2 38 rfl, List.drop_eq_nil_of_le (show l.length ≤ 38 by omega), e0, e1, e2, e3, e4, e5, e6, e7, e8, e9]
      kernel_rfl
    exact e
set_option maxRecDepth 100000 in
theorem open_opt {H : Type} {enc : TypeId × Value → H} {w : World} {base : Nat} {spare : Nat → Bool} {held : Bool} {r : Reach} {b0 : Nat} {v : Value} {d : DataW H} {p : List MemPlace}
    (hv : Value.okWide Tryz.prog w r b0 44 v) (h : DataW.Trod enc Tryz.prog w base spare held 44 v d p) : ∃ x : Op, v = .agg (ov x) ∧ x.Fit := by
  obtain ⟨cs, rfl, hcs⟩ := okWide_struct Tryz.underlying44 hv
  obtain ⟨fuel, hf⟩ := h
  obtain ⟨x, e, k⟩ := tr_opt (l := cs.toList) hf
  exact ⟨x, by rw [show cs = ov x from Array.ext' e], k⟩
set_option maxRecDepth 100000 in
theorem tr_draft {H : Type} {enc : TypeId × Value → H} {w : World} {base : Nat} {spare : Nat → Bool} {held : Bool} {fuel : Nat} {l : List Value} {x : DataW H × List MemPlace} (h : DataW.trod enc Tryz.prog w base spare held fuel 48 l = some x) : ∃ y : Dr, l = (drv y).toList ∧ y.Ok := by
  obtain ⟨xs, n, _, hx, hl, hlen, hfld⟩ := DataW.trod_struct Tryz.underlying48 h
  have hln : l.length = 34 := hl.trans (by kernel_rfl)
  have hxn : xs.length = 9 := hlen
  clear hx hl hlen
  match xs, hxn, hfld with
  | [y0, y1, y2, y3, y4, y5, y6, y7, y8], _, hfld =>
    have q0 : DataW.trod enc Tryz.prog w base spare held n 5 ((l.drop 0).take 1) = some y0 := by
      have q : DataW.trod enc Tryz.prog w base spare held n 5 ((l.drop 0).take (Tryz.prog.cellsOf 5)) = some y0 := hfld 0 _ rfl
      rw [show Tryz.prog.cellsOf 5 = 1 by kernel_rfl] at q
      exact q
    have q1 : DataW.trod enc Tryz.prog w base spare held n 5 ((l.drop 1).take 1) = some y1 := by
      have q : DataW.trod enc Tryz.prog w base spare held n 5 ((l.drop 1).take (Tryz.prog.cellsOf 5)) = some y1 := hfld 1 _ rfl
      rw [show Tryz.prog.cellsOf 5 = 1 by kernel_rfl] at q
      exact q
    have q2 : DataW.trod enc Tryz.prog w base spare held n 5 ((l.drop 2).take 1) = some y2 := by
      have q : DataW.trod enc Tryz.prog w base spare held n 5 ((l.drop 2).take (Tryz.prog.cellsOf 5)) = some y2 := hfld 2 _ rfl
      rw [show Tryz.prog.cellsOf 5 = 1 by kernel_rfl] at q
      exact q
    have q3 : DataW.trod enc Tryz.prog w base spare held n 45 ((l.drop 3).take 3) = some y3 := by
      have q : DataW.trod enc Tryz.prog w base spare held n 45 ((l.drop 3).take (Tryz.prog.cellsOf 45)) = some y3 := hfld 3 _ rfl
      rw [show Tryz.prog.cellsOf 45 = 3 by kernel_rfl] at q
      exact q
    have q4 : DataW.trod enc Tryz.prog w base spare held n 22 ((l.drop 6).take 1) = some y4 := by
      have q : DataW.trod enc Tryz.prog w base spare held n 22 ((l.drop 6).take (Tryz.prog.cellsOf 22)) = some y4 := hfld 4 _ rfl
      rw [show Tryz.prog.cellsOf 22 = 1 by kernel_rfl] at q
      exact q
    have q5 : DataW.trod enc Tryz.prog w base spare held n 22 ((l.drop 7).take 1) = some y5 := by
      have q : DataW.trod enc Tryz.prog w base spare held n 22 ((l.drop 7).take (Tryz.prog.cellsOf 22)) = some y5 := hfld 5 _ rfl
      rw [show Tryz.prog.cellsOf 22 = 1 by kernel_rfl] at q
      exact q
    have q6 : DataW.trod enc Tryz.prog w base spare held n 23 ((l.drop 8).take 1) = some y6 := by
      have q : DataW.trod enc Tryz.prog w base spare held n 23 ((l.drop 8).take (Tryz.prog.cellsOf 23)) = some y6 := hfld 6 _ rfl
      rw [show Tryz.prog.cellsOf 23 = 1 by kernel_rfl] at q
      exact q
    have q7 : DataW.trod enc Tryz.prog w base spare held n 23 ((l.drop 9).take 1) = some y7 := by
      have q : DataW.trod enc Tryz.prog w base spare held n 23 ((l.drop 9).take (Tryz.prog.cellsOf 23)) = some y7 := hfld 7 _ rfl
      rw [show Tryz.prog.cellsOf 23 = 1 by kernel_rfl] at q
      exact q
    have q8 : DataW.trod enc Tryz.prog w base spare held n 46 ((l.drop 10).take 24) = some y8 := by
      have q : DataW.trod enc Tryz.prog w base spare held n 46 ((l.drop 10).take (Tryz.prog.cellsOf 46)) = some y8 := hfld 8 _ rfl
      rw [show Tryz.prog.cellsOf 46 = 24 by kernel_rfl] at q
      exact q
    obtain ⟨z0, e0, -, w0⟩ := DataW.trod_int Tryz.underlying5 q0
    obtain ⟨l0, u0⟩ := bounds_u8 w0
    obtain ⟨m0, rfl⟩ := Int.eq_ofNat_of_zero_le l0
    obtain ⟨z1, e1, -, w1⟩ := DataW.trod_int Tryz.underlying5 q1
    obtain ⟨l1, u1⟩ := bounds_u8 w1
    obtain ⟨m1, rfl⟩ := Int.eq_ofNat_of_zero_le l1
    obtain ⟨z2, e2, -, w2⟩ := DataW.trod_int Tryz.underlying5 q2
    obtain ⟨l2, u2⟩ := bounds_u8 w2
    obtain ⟨m2, rfl⟩ := Int.eq_ofNat_of_zero_le l2
    obtain ⟨z4, e4, -, w4⟩ := DataW.trod_int Tryz.underlying22 q4
    obtain ⟨l4, u4⟩ := bounds_u64 w4
    obtain ⟨m4, rfl⟩ := Int.eq_ofNat_of_zero_le l4
    obtain ⟨z5, e5, -, w5⟩ := DataW.trod_int Tryz.underlying22 q5
    obtain ⟨l5, u5⟩ := bounds_u64 w5
    obtain ⟨m5, rfl⟩ := Int.eq_ofNat_of_zero_le l5
    obtain ⟨z6, e6, -, w6⟩ := DataW.trod_int Tryz.underlying23 q6
    obtain ⟨l6, u6⟩ := bounds_u16 w6
    obtain ⟨m6, rfl⟩ := Int.eq_ofNat_of_zero_le l6
    obtain ⟨z7, e7, -, w7⟩ := DataW.trod_int Tryz.underlying23 q7
    obtain ⟨l7, u7⟩ := bounds_u16 w7
    obtain ⟨m7, rfl⟩ := Int.eq_ofNat_of_zero_le l7
    obtain ⟨a, b, c, e3⟩ := bools_of q3
    obtain ⟨m, hm, e8⟩ := bytes_of 24 Tryz.underlying46 (by kernel_rfl) q8
    refine ⟨⟨m0, m1, m2, a, b, c, m4, m5, m6, m7, m⟩, ?_, ⟨show m0 ≤ 255 by omega, show m1 ≤ 255 by omega, show m2 ≤ 255 by omega, show m4 ≤ _ by omega, show m5 ≤ _ by omega, show m6 ≤ 65535 by omega, show m7 ≤ 65535 by omega, hm⟩⟩
    have e : l.drop 0 = (drv ⟨m0, m1, m2, a, b, c, m4, m5, m6, m7, m⟩).toList := by
      rw [cut l 0 1 1 rfl, cut l 1 1 2 rfl, cut l 2 1 3 rfl, cut l 3 3 6 rfl, cut l 6 1 7 rfl, cut l 7 1 8 rfl, cut l 8 1 9 rfl, cut l 9 1 10 rfl, cut l 10 24 34 rfl, List.drop_eq_nil_of_le (show l.length ≤ 34 by omega), e0, e1, e2, e3, e4, e5, e6, e7, e8, List.append_nil]
      kernel_rfl
    exact e
set_option maxRecDepth 100000 in
theorem open_draft {H : Type} {enc : TypeId × Value → H} {w : World} {base : Nat} {spare : Nat → Bool} {held : Bool} {r : Reach} {b0 : Nat} {v : Value} {d : DataW H} {p : List MemPlace}
    (hv : Value.okWide Tryz.prog w r b0 48 v) (h : DataW.Trod enc Tryz.prog w base spare held 48 v d p) : ∃ x : Dr, v = .agg (drv x) ∧ x.Ok := by
  obtain ⟨cs, rfl, hcs⟩ := okWide_struct Tryz.underlying48 hv
  obtain ⟨fuel, hf⟩ := h
  obtain ⟨x, e, k⟩ := tr_draft (l := cs.toList) hf
  exact ⟨x, by rw [show cs = drv x from Array.ext' e], k⟩
set_option maxRecDepth 100000 in
/-- Two bytes. -/
theorem open_two {H : Type} {enc : TypeId × Value → H} {w : World} {base : Nat} {spare : Nat → Bool} {held : Bool} {r : Reach} {b0 : Nat} {v : Value} {d : DataW H} {p : List MemPlace}
    (hv : Value.okWide Tryz.prog w r b0 60 v) (h : DataW.Trod enc Tryz.prog w base spare held 60 v d p) : ∃ a b : Nat, a ≤ 255 ∧ b ≤ 255 ∧ v = .agg #[.int .u8 (a : Int), .int .u8 (b : Int)] := by
  simp only [Value.okWide, Tryz.underlying60] at hv
  obtain ⟨cs, rfl, hsz', _⟩ := hv
  obtain ⟨fuel, hf⟩ := h
  obtain ⟨m, hm, he⟩ := bytes_of 2 Tryz.underlying60 (by kernel_rfl) hf
  have he : cs.toList = _ := he
  match m, hm, he with
  | [x, y], _, he =>
    have hx := x.toNat_lt
    have hy := y.toNat_lt
    exact ⟨x.toNat, y.toNat, by omega, by omega, by rw [← Array.toArray_toList (xs := cs), he]; rfl⟩
end Go.Proofs.YtnlhhjhidkjlbaaGreatDoor.L14
namespace Go.Proofs.YtnlhhjhidkjlbaaGreatDoor.L14
open Go Go.RowKit Go.ChangeAt
set_option linter.unusedVariables false
set_option linter.unusedSimpArgs false

def c60 (s : ByteArray) : ByteArray := s.extract 0 (min s.size 60)
theorem c60_size (s : ByteArray) : (c60 s).size ≤ 60 := by unfold c60; rw [ByteArray.size_extract]; omega
theorem front60 (s : ByteArray) : ∃ (m : Nat) (F : ByteArray), F = c60 s ∧ s.extract 0 m = F ∧ min (s.size : Int) 60 = (m : Int) ∧ (m : Int) ≤ s.size ∧ F.size = m :=
  ⟨min s.size 60, _, rfl, rfl, by omega, by omega, by unfold c60; rw [ByteArray.size_extract]; omega⟩
def Op.sh (x : Op) : Op := x.texts (c60 x.jn.mac) (c60 x.ad.ip) (c60 x.ad.mac) (c60 x.rm)
theorem Op.sh_ok (x : Op) (h : x.Fit) : x.sh.Ok := h _ _ _ _ (by have := c60_size x.jn.mac; omega) (by have := c60_size x.ad.ip; omega) (by have := c60_size x.ad.mac; omega) (by have := c60_size x.rm; omega)
/-- Where the walk stands: the option in b, the result's variable r. -/
structure Sh (w W : World) (b r : Nat) (x : Op) : Prop where
  src : Blk W b 44 (ov x)
  res : Blk W r 44 (ov (.none 0))
  bel : Below w.heap.size w W
  le : w.heap.size ≤ r ∧ w.heap.size ≤ b
  ne : r ≠ b
theorem Sh.set {w W : World} {b r : Nat} {x y : Op} (h : Sh w W b r x) (i : Nat) (v : Value) (e : (ov x).setIfInBounds i v = ov y) : Sh w (W.setCell ⟨b, i, none⟩ v) b r y :=
  ⟨by rw [← e]; exact h.src.set_ i v, h.res.same (Below.heap_setCell W ⟨b, i, none⟩ v r h.ne), h.bel.setCell h.le.2 _, h.le, h.ne⟩
theorem Sh.of {w U W : World} {x : Op} {b r : Nat} (hb : b = w.heap.size) (hU : U = w.alloc (.cells (ov x) 44)) (hr : r = U.heap.size) (hW : W = U.alloc (.cells (ov (.none 0)) 44)) : Sh w W b r x := by
  subst hb; subst hU; subst hr; subst hW
  exact ⟨(Blk.new _ _ _).alloc _, Blk.new _ _ _, ((Below.refl _ w).alloc (Nat.le_refl _) _).alloc (by simp) _, ⟨by simp, Nat.le_refl _⟩, by simp⟩
set_option maxHeartbeats 1000000 in
set_option maxRecDepth 100000 in
theorem short_any (x : Op) (w : World) : Calls Tryz.prog 10 #[.agg (ov x)] w fun e w' => e = .returned (.agg (ov x.sh)) ∧ Below w.heap.size w w' := by
  obtain ⟨m0, F0, hF0, eF0, mF0, lF0, zF0⟩ := front60 x.jn.mac
  obtain ⟨m1, F1, hF1, eF1, mF1, lF1, zF1⟩ := front60 x.ad.ip
  obtain ⟨m2, F2, hF2, eF2, mF2, lF2, zF2⟩ := front60 x.ad.mac
  obtain ⟨m3, F3, hF3, eF3, mF3, lF3, zF3⟩ := front60 x.rm
  have HR := Lib.hid (show x.sh = x.texts F0 F1 F2 F3 by rw [hF0, hF1, hF2, hF3]; rfl)
  clear hF0 hF1 hF2 hF3 zF0 zF1 zF2 zF3
  have EF0 := Lib.hid eF0
  have MF0 := Lib.hid mF0
  have LF0 := Lib.hid lF0
  clear eF0 mF0 lF0
  have EF1 := Lib.hid eF1
  have MF1 := Lib.hid mF1
  have LF1 := Lib.hid lF1
  clear eF1 mF1 lF1
  have EF2 := Lib.hid eF2
  have MF2 := Lib.hid mF2
  have LF2 := Lib.hid lF2
  clear eF2 mF2 lF2
  have EF3 := Lib.hid eF3
  have MF3 := Lib.hid mF3
  have LF3 := Lib.hid lF3
  clear eF3 mF3 lF3
  go_enter Tryz.func10, Tryz.ntmps10
  go_upto_region 1 with (first
    | (refine wp_box rfl 44 _ rfl (ov x) rfl ?_; intro U0 b hb hU)
    | (refine wp_new rfl 44 rfl (ov (.none 0)) opt_zero ?_; intro W0 r hr hU1; have H0 := Lib.hid (Sh.of hb hU hr hU1); clear hb hU hr hU1))
  have ck := (H0.out.src.cell 14).trans (show _ = some (Value.string x.jn.mac) by kernel_rfl)
  have fz := H0.out.src.frozen 14
  have eF := EF0.out
  have mF := MF0.out
  have lF := LF0.out
  obtain ⟨W1, hY⟩ : ∃ U, U = W0.setCell ⟨b, 14, none⟩ (.string F0) := ⟨_, rfl⟩
  have H1 := Lib.hid (show Sh w W1 b r (x.texts F0 x.ad.ip x.ad.mac x.rm) by rw [hY]; exact H0.out.set 14 (.string F0) (by kernel_rfl))
  have HY := Lib.hid hY
  clear hY
  go_upto_region 2 with fail
  rw [← HY.out]
  clear HY ck fz eF mF lF H0
  have ck := (H1.out.src.cell 28).trans (show _ = some (Value.string x.ad.ip) by kernel_rfl)
  have fz := H1.out.src.frozen 28
  have eF := EF1.out
  have mF := MF1.out
  have lF := LF1.out
  obtain ⟨W2, hY⟩ : ∃ U, U = W1.setCell ⟨b, 28, none⟩ (.string F1) := ⟨_, rfl⟩
  have H2 := Lib.hid (show Sh w W2 b r (x.texts F0 F1 x.ad.mac x.rm) by rw [hY]; exact H1.out.set 28 (.string F1) (by kernel_rfl))
  have HY := Lib.hid hY
  clear hY
  go_upto_region 3 with fail
  rw [← HY.out]
  clear HY ck fz eF mF lF H1
  have ck := (H2.out.src.cell 31).trans (show _ = some (Value.string x.ad.mac) by kernel_rfl)
  have fz := H2.out.src.frozen 31
  have eF := EF2.out
  have mF := MF2.out
  have lF := LF2.out
  obtain ⟨W3, hY⟩ : ∃ U, U = W2.setCell ⟨b, 31, none⟩ (.string F2) := ⟨_, rfl⟩
  have H3 := Lib.hid (show Sh w W3 b r (x.texts F0 F1 F2 x.rm) by rw [hY]; exact H2.out.set 31 (.string F2) (by kernel_rfl))
  have HY := Lib.hid hY
  clear hY
  go_upto_region 4 with fail
  rw [← HY.out]
  clear HY ck fz eF mF lF H2
  have ck := (H3.out.src.cell 32).trans (show _ = some (Value.string x.rm) by kernel_rfl)
  have fz := H3.out.src.frozen 32
  have eF := EF3.out
  have mF := MF3.out
  have lF := LF3.out
  obtain ⟨W4, hY⟩ : ∃ U, U = W3.setCell ⟨b, 32, none⟩ (.string F3) := ⟨_, rfl⟩
  have H4 := Lib.hid (show Sh w W4 b r (x.texts F0 F1 F2 F3) by rw [hY]; exact H3.out.set 32 (.string F3) (by kernel_rfl))
  have HY := Lib.hid hY
  clear hY
  go_upto_region 5 with fail
  rw [← HY.out]
  clear HY ck fz eF mF lF H3
  go_wp2_with (first
    | (refine wpList_load_row rfl 44 _ rfl b rfl 44 (ov (x.texts F0 F1 F2 F3)) (0, 0) _ ?_ Tryz.underlying44 rfl (ov_info _) ?_; exact H4.out.src)
    | (refine st_row rfl 44 _ _ rfl r rfl 44 (ov (.none 0)) (ov (x.texts F0 F1 F2 F3)) rfl ?_ ((ov_size _).trans (ov_size _).symm) (ov_info _) (ov_one _) ?_; exact H4.out.res; intro W5 g3 n3; have H5 := Lib.hid n3; have B5 := Lib.hid (H4.out.bel.trans (below_of_only g3 H4.out.le.1 H4.out.bel.size)); clear g3 n3 H4))
  rw [HR.out]
  exact ret_opt 2 (x.texts F0 F1 F2 F3) rfl r rfl H5.out rfl ⟨rfl, B5.out⟩
end Go.Proofs.YtnlhhjhidkjlbaaGreatDoor.L14
