/-
  A region that draws its order, in a round of a loop over a function: it goes as it goes outside, where it defers nothing and its way out is never 'outgrown'. And the regions that read, and end in operations of one order. Nothing of the program is here: fills for every seat.
-/
import Derived.Test.YtcbakfnpbhgjoaaDoorSumWords
import Derived.Laws.Rows
import Derived.Deep.RegionHeld3
import Derived.Laws.Tables
import Derived.RangeFuncCalls
import Derived.OrdersIn
import Derived.StillTail
import Derived.StillTailTactics
import Derived.OwnWalkIn
namespace Go.Proofs.YtcbakfnpbhgjoaaDoor
set_option linter.unusedVariables false

section
variable {P : Program} {ops : Array Oper} {Q : Exit → Act → World → Prop} {md : Region.Mode} {n l : Nat}

theorem rowsIn_of {row : String} {args : Array Value} {w : World} {R : Value → World → Prop} (h : Rows P row args w R) : RowsIn (Fence.wide.inRound l) n P row args w R :=
  fun c cs _ => let ⟨v, w', r, s⟩ := h c cs; ⟨v, w', r, stepsIn_wide.2 s⟩

/-- One operation, in a round as outside. -/
theorem oper_round {o : Oper} {a : Act} {w : World} {K K' : Act → World → Prop} (hk : ∀ a w, K a w → K' a w) (hd : ∀ c, o.op ≠ .defer c) (h : o.wp P a w K Q) : o.wpIn (Fence.wide.inRound l) n P a w K' Q := by
  unfold Oper.wpIn
  refine ⟨fun _ _ => trivial, ?_⟩
  rw [Oper.semAt_plain _ _ _ hd]
  unfold Oper.wp at h
  generalize (execOp a.eval o).run P w = r at h
  match r, h with
  | .ok (.value v) w', h => exact hk _ _ h
  | .ok .skip w', h => exact hk _ _ h
  | .ok (.defer d) w', h => exact hk _ _ h
  | .ok (.enter f args) w', h => exact ⟨fun hd => (by cases hd), CallsIn.inRound l (callsIn_wide.2 (Calls.mono h fun e w'' he => by cases e <;> first | exact hk _ _ he | exact he))⟩
  | .ok (.row row args) w', h => exact ⟨fun hd => (by cases hd), rowsIn_of (Rows.mono h fun v w'' hv => hk _ _ hv)⟩
  | .halt (.panic v) w', h => exact h

theorem any_round (hd : ∀ (i : Nat) (o : Oper) c, ops[i]? = some o → o.op ≠ .defer c) (ho : ¬ LetsOut Q) : ∀ (fuel : Nat) (listed : Array Bool) (a : Act) (w : World),
    wpAny P md ops Q fuel listed a w → wpAnyIn (Fence.wide.inRound l) n P md ops Q fuel listed a w
  | 0, _, _, _, h => h
  | fuel + 1, listed, a, w, h => by
    refine ⟨h.1, fun i hi => ?_⟩
    have hw := h.2 i hi
    unfold wpOp at hw
    unfold wpOpIn
    cases hop : ops[i]? with
    | none => rw [hop] at hw; exact any_round hd ho fuel _ _ _ hw
    | some o =>
      rw [hop] at hw
      simp only at hw ⊢
      split
      · rename_i hwant
        rw [if_pos hwant] at hw
        rcases hw with hw | hw
        · exact oper_round (fun a' w' h' => any_round hd ho fuel _ _ _ h') (fun c => hd i o c hop) hw
        · exact absurd hw.2 ho
      · rename_i hwant
        rw [if_neg hwant] at hw
        exact ⟨fun _ _ => trivial, any_round hd ho fuel _ _ _ hw⟩

/-- The operations ahead of the n-th one read alone; the others come up in one order. -/
theorem any_tail {a : Act} {w : World} {s : List Oper} (k : Nat) (hB : Region.lexTailB .any s.toArray k = true)
    (h : wpStill P s.toArray w (fun a' => wpList P s.toArray Q (s.drop k) a' w) (s.take k) a) : wpAny P .any s.toArray Q s.length (Array.replicate s.length false) a w := by
  simp only [Region.lexTailB, Bool.and_eq_true, decide_eq_true_eq] at hB
  obtain ⟨⟨⟨⟨h1, h2⟩, h3⟩, h4⟩, h5⟩ := hB
  have hk : k < s.length := by simpa using h2
  have lt : (s.take k).length = k := by rw [List.length_take]; omega
  have ld : (s.drop k).length = s.length - k := List.length_drop
  have start : HeadInv .any s.toArray k (Array.replicate s.length false) :=
    { size := by simp
      closed := fun j oj _ hl => absurd hl (by rw [getD_replicate_false]; decide)
      tail := fun t _ ht => getD_in (by simpa using ht) (getD_replicate_false _ _) }
  have whole := wpAnyL_lex (P := P) (w := w) (md := .any) (g := s.length - k) h1 h3 h4 h2 (s.take k) 0 _ a (fun j hj => by
    have : j < k := by omega
    simp [this]) (by omega) start (by rw [lt]; simpa using h5) h
  have out := wpAny_of_head (Q' := Q) (g := s.length - k) (fun listed a' hL => by
    have := wpAny_of_seq (P := P) (md := .any) (Q' := Q) (s.drop k) k listed a' w (fun j => by simp [List.getElem?_drop]) (by rw [ld]; exact hL.1) hL.2
    rwa [ld] at this) _ _ _ whole
  rwa [lt, show k + (s.length - k) = s.length by omega] at out

/-- Such a region, in a round. -/
theorem round_tail {id : Nat} {a : Act} {w : World} {s : List Oper} (k : Nat) (hm : P.follows .mixedOrders = true) (hB : Region.lexTailB .any s.toArray k = true) (hd : (s.all fun o => match o.op with | .defer _ => false | _ => true) = true) (ho : ¬ LetsOut Q)
    (h : wpStill P s.toArray w.drew (fun a' => wpList P s.toArray Q (s.drop k) a' w.drew) (s.take k) a) : (Code.region id s.toArray true).wpIn (Fence.wide.inRound l) n P Q a w := by
  refine wpIn_region_any hm (any_round (fun i o c hi hc => ?_) ho _ _ _ _ ?_)
  · have hmem : o ∈ s := List.mem_of_getElem? (by simpa using hi)
    have := List.all_eq_true.1 hd o hmem
    rw [hc] at this
    cases this
  · have := any_tail (P := P) (Q := Q) k hB h
    simpa using this
/-- A whole row is read: the operation alone. -/
theorem exec_row {o : Oper} {a : Act} {w : World} (ty : TypeId) (x : Operand) (ho : o.op = .load ty x) (g : Nat) (hx : a.eval x = .pointer (some ⟨g, 0, none⟩)) (t : TypeId) (cs : Array Value) (d : TypeDesc) (hg : Blk w g t cs)
    (hu : P.underlying ty = some d) (hd : (match d with | .struct _ | .array _ _ => true | _ => false) = true) (hi : (P.info? ty).map (·.size) = some cs.size) : (execOp a.eval o).run P w = .ok (.value (.agg cs)) w := by
  unfold execOp
  simp only [ho, hx, Instr.loadAt, Instr.sureAddr, Sem.run_bind, Sem.run_pure, Result.andThen_ok, run_loadVar_row w g t ty cs (0, 0) d hg hu hd hi]
/-- A whole row is read, among operations that read alone. -/
theorem still_row {Q : Act → Prop} {rest : List Oper} {o : Oper} {a : Act} {w : World} (hgd : o.guard = none) (ty : TypeId) (x : Operand) (ho : o.op = .load ty x) (g : Nat) (hx : a.eval x = .pointer (some ⟨g, 0, none⟩)) (t : TypeId) (cs : Array Value) (d : TypeDesc) (hg : Blk w g t cs)
    (hu : P.underlying ty = some d) (hd : (match d with | .struct _ | .array _ _ => true | _ => false) = true) (hi : (P.info? ty).map (·.size) = some cs.size) (h : wpStill P ops w Q rest (a.put o.dst (.agg cs))) : wpStill P ops w Q (o :: rest) a := by
  refine wpStill_step fun K hK => ?_
  simp only [Region.wanted, hgd, if_true]
  unfold Oper.still
  rw [exec_row ty x ho g hx t cs d hg hu hd hi, Oper.stillUpon_value]
  exact hK _ h
/-- A whole row is read, inside a fence. -/
theorem wpListIn_row {F : Fence} {Q : Exit → Act → World → Prop} {rest : List Oper} {o : Oper} {a : Act} {w : World} (hgd : o.guard = none) (ty : TypeId) (x : Operand) (ho : o.op = .load ty x)
    (g : Nat) (hx : a.eval x = .pointer (some ⟨g, 0, none⟩)) (t : TypeId) (cs : Array Value) (d : TypeDesc) (hg : Blk w g t cs)
    (hu : P.underlying ty = some d) (hd : (match d with | .struct _ | .array _ _ => true | _ => false) = true) (hi : (P.info? ty).map (·.size) = some cs.size)
    (h : wpListIn F n P ops Q rest (a.put o.dst (.agg cs)) w) : wpListIn F n P ops Q (o :: rest) a w := by
  refine wpListIn_plain hgd fun K hK => ?_
  unfold Oper.wpIn
  refine ⟨by simp [Oper.about, ho], ?_⟩
  rw [Oper.semAt_plain F _ _ (by rw [ho]; intro c hc; cases hc), exec_row ty x ho g hx t cs d hg hu hd hi]
  exact hK _ _ h
/-- A whole row is laid over another one, inside a fence. -/
theorem wpListIn_put {F : Fence} {Q : Exit → Act → World → Prop} {rest : List Oper} {o : Oper} {a : Act} {w : World} (hgd : o.guard = none) (ty : TypeId) (x y : Operand) (ho : o.op = .store ty x y)
    (g : Nat) (cs : Array Value) (hx : a.eval x = .pointer (some ⟨g, 0, none⟩)) (hy : a.eval y = .agg cs) (t : TypeId) (old : Array Value) (hg : Blk w g t old) (hi : (P.info? ty).map (·.size) = some cs.size)
    (hz : old.size = cs.size) (h1 : cs.all (·.oneCell') = true) (h : wpListIn F n P ops Q rest (a.put o.dst undef) (w.setRow g cs)) : wpListIn F n P ops Q (o :: rest) a w := by
  have hr : (execOp a.eval o).run P w = .ok .skip (w.setRow g cs) := by
    unfold execOp
    simp only [ho, hx, hy, Instr.storeAt, Instr.sureAddr, Sem.run_bind, Sem.run_pure, Result.andThen_ok, run_storeVar_row w g t ty old cs hg hi hz h1]
  refine wpListIn_plain hgd fun K hK => ?_
  unfold Oper.wpIn
  refine ⟨by simp [Oper.about, ho], ?_⟩
  rw [Oper.semAt_plain F _ _ (by rw [ho]; intro c hc; cases hc), hr]
  exact hK _ _ h
/-- An operation that yields in whatever world, taken first. -/
theorem any_free {i : Nat} {o : Oper} {fuel : Nat} {listed : Array Bool} {a : Act} {w : World} (v : Value) (hi : ops[i]? = some o) (hs : Region.noSelect ops = true) (hf : Region.free md ops listed i = true) (hr : (Region.ready md ops listed).contains i = true)
    (hw : Region.wanted o (yielded ops a.tmps) = true) (hv : ∀ w, (execOp a.eval o).run P w = .ok (.value v) w) (h : wpAny P md ops (NoPanic Q) fuel (listed.setIfInBounds i true) (a.put o.dst v) w) : wpAny P md ops (NoPanic Q) (fuel + 1) listed a w :=
  wpAny_take hi hs hf hr (fun c a w h => h) (.inl ⟨hw, hv⟩) h
/-- One operation alone may come up, and it reads. -/
theorem any_one {i : Nat} {o : Oper} {fuel : Nat} {listed : Array Bool} {a : Act} {w : World} (v : Value) (hi : ops[i]? = some o) (hr : Region.ready md ops listed = [i])
    (hw : Region.wanted o (yielded ops a.tmps) = true) (hv : (execOp a.eval o).run P w = .ok (.value v) w) (h : wpAny P md ops Q fuel (listed.setIfInBounds i true) (a.put o.dst v) w) : wpAny P md ops Q (fuel + 1) listed a w := by
  refine ⟨fun h0 => (by rw [hr] at h0; cases h0), fun j hj => ?_⟩
  rw [hr, List.mem_singleton] at hj
  subst hj
  unfold wpOp
  rw [hi]
  simp only [hw, if_true]
  refine .inl ?_
  unfold Oper.wp
  rw [hv]
  exact h
/-- Two operations may come up, and both read. -/
theorem any_two {i j : Nat} {o u : Oper} {fuel : Nat} {listed : Array Bool} {a : Act} {w : World} (v x : Value) (hi : ops[i]? = some o) (hj : ops[j]? = some u) (hne : i ≠ j) (hr : Region.ready md ops listed = [i, j])
    (hri : Region.ready md ops (listed.setIfInBounds i true) = [j]) (hrj : Region.ready md ops (listed.setIfInBounds j true) = [i])
    (hw : Region.wanted o (yielded ops a.tmps) = true) (hwu : Region.wanted u (yielded ops a.tmps) = true) (hw' : Region.wanted o (yielded ops (a.put u.dst x).tmps) = true) (hwu' : Region.wanted u (yielded ops (a.put o.dst v).tmps) = true)
    (hv : (execOp a.eval o).run P w = .ok (.value v) w) (hx : (execOp a.eval u).run P w = .ok (.value x) w) (hv' : (execOp (a.put u.dst x).eval o).run P w = .ok (.value v) w) (hx' : (execOp (a.put o.dst v).eval u).run P w = .ok (.value x) w)
    (hc : (a.put u.dst x).put o.dst v = (a.put o.dst v).put u.dst x)
    (h : wpAny P md ops Q fuel ((listed.setIfInBounds i true).setIfInBounds j true) ((a.put o.dst v).put u.dst x) w) : wpAny P md ops Q (fuel + 1 + 1) listed a w := by
  have e : (listed.setIfInBounds j true).setIfInBounds i true = (listed.setIfInBounds i true).setIfInBounds j true := by
    apply Array.toList_inj.1
    simp only [Array.toList_setIfInBounds]
    exact List.set_comm _ _ (Ne.symm hne)
  have A := any_one (P := P) (Q := Q) x hj hri hwu' hx' h
  have B : wpAny P md ops Q (fuel + 1) (listed.setIfInBounds j true) (a.put u.dst x) w := any_one (P := P) (Q := Q) v hi hrj hw' hv' (by rw [e, hc]; exact h)
  refine ⟨fun h0 => (by rw [hr] at h0; cases h0), fun q hq => ?_⟩
  rw [hr, List.mem_cons, List.mem_singleton] at hq
  unfold wpOp
  rcases hq with rfl | rfl
  · rw [hi]
    simp only [hw, if_true]
    refine .inl ?_
    unfold Oper.wp
    rw [hv]
    exact A
  · rw [hj]
    simp only [hwu, if_true]
    refine .inl ?_
    unfold Oper.wp
    rw [hx]
    exact B
/-- What is left comes up in one order. -/
theorem any_rest {k fuel : Nat} {listed : Array Bool} {a : Act} {w : World} (hf : fuel = ops.size - k) (hB : Region.seqB md ops fuel k listed = true) (h : wpList P ops Q (ops.toList.drop k) a w) : wpAny P md ops Q fuel listed a w := by
  have hl : (ops.toList.drop k).length = fuel := by rw [hf, List.length_drop, Array.length_toList]
  have := wpAny_of_seq (P := P) (md := md) (Q' := Q) (ops.toList.drop k) k listed a w (fun j => by rw [List.getElem?_drop, Array.getElem?_toList]) (by rw [hl]; exact hB) h
  rwa [hl] at this
end
end Go.Proofs.YtcbakfnpbhgjoaaDoor
