/-
  The deferred function that catches, decode, and the four decoders of package ctrl, each by its walk.
-/
import Derived.Test.YtbimdlcgjpeheaaCtrlRead
import Derived.Test.YtbimdlcgjpeheaaRecSteps
import Derived.WalkLawsBesides
namespace Go.Proofs.Ytbimdlcgjpeheaa
open Go.ChangeShapes Go.WideShapes Go.ChangeAt Go.RowKit
set_option linter.unusedVariables false

theorem assert_errno (v : Value) (w : World) : (Instr.typeAssert (.iface 27 v) 20 27 true).run Try.prog w = .ok (.tuple #[v, .bool true]) w := by kernel_rfl
theorem assert_none (w : World) : (Instr.typeAssert .nilIface 20 27 true).run Try.prog w = .ok (.tuple #[.int .i64 0, .bool false]) w := by kernel_rfl
theorem ex_assert {P : Program} {ρ : Operand → Value} {o : Oper} {w : World} (x : Operand) (t u : TypeId) (c : Bool) (ho : o.op = .typeAssert x t u c) {v r : Value} (hx : ρ x = v) (he : (Instr.typeAssert v t u c).run P w = .ok r w) : (execOp ρ o).run P w = .ok (.value r) w := by
  unfold execOp
  rw [ho]
  simp [hx, he]
theorem errno_store (w : World) (p : Addr) (x z : Int) (hc : w.cell? p = some (.int .i64 x)) (hz : w.frozen? p = false) : (storeVar 27 p (.int .i64 z)).run Try.prog w = .ok () (w.setCell p (.int .i64 z)) := by
  simp [go_sem, hc, hz]
theorem errno_load (w : World) (p : Addr) (z : Int) (hc : w.cell? p = some (.int .i64 z)) : (loadVar 27 p).run Try.prog w = .ok (.int .i64 z) w := by
  simp [go_sem, hc]
theorem results_row_cell {P : Program} {fn : Func} {p t : Tmp} {ty ty2 : TypeId} (h : fn.results = #[.cell p ty, .cell t ty2]) (tmps : Array Value) (w : World) (g : Nat) (t' : TypeId) (cs : Array Value) (fr : Nat × Nat) (d : TypeDesc)
    (hp : tmps.getD p undef = .pointer (some ⟨g, 0, none⟩)) (hg : w.heap[g]? = some (.cells cs t' fr))
    (hu : P.underlying ty = some d) (hd : (match d with | .struct _ | .array _ _ => true | _ => false) = true) (hi : (P.info? ty).map (·.size) = some cs.size)
    (q : Nat) (v : Value) (hq : tmps.getD t undef = .pointer (some ⟨q, 0, none⟩)) (hv : (loadVar ty2 ⟨q, 0, none⟩).run P w = .ok v w) :
    (results fn tmps).run P w = .ok (.tuple #[.agg cs, v]) w := by
  have hp' : tmps[p]?.getD undef = .pointer (some ⟨g, 0, none⟩) := by simpa using hp
  have hq' : tmps[t]?.getD undef = .pointer (some ⟨q, 0, none⟩) := by simpa using hq
  simp [results, h, hp', hq', asAddr, run_loadVar_row w g t' ty cs fr d hg hu hd hi, hv]
theorem results_row_tmp {P : Program} {fn : Func} {p t : Tmp} {ty : TypeId} (h : fn.results = #[.cell p ty, .tmp t]) (tmps : Array Value) (w : World) (g : Nat) (t' : TypeId) (cs : Array Value) (fr : Nat × Nat) (d : TypeDesc)
    (hp : tmps.getD p undef = .pointer (some ⟨g, 0, none⟩)) (hg : w.heap[g]? = some (.cells cs t' fr))
    (hu : P.underlying ty = some d) (hd : (match d with | .struct _ | .array _ _ => true | _ => false) = true) (hi : (P.info? ty).map (·.size) = some cs.size) :
    (results fn tmps).run P w = .ok (.tuple #[.agg cs, tmps.getD t undef]) w := by
  have hp' : tmps[p]?.getD undef = .pointer (some ⟨g, 0, none⟩) := by simpa using hp
  simp [results, h, hp', asAddr, run_loadVar_row w g t' ty cs fr d hg hu hd hi]
/-- Where decode stands: its two results' variables, the cursor; nothing else that was there has turned. -/
structure St (b : Nat) (s : ByteArray) (r q : Nat) (T : TypeId) (zs : Array Value) (w W : World) (k : Nat) (br : Bool) : Prop where
  ret : Blk W r T zs
  err : Blk W q 27 #[.int .i64 0]
  cur : Cur W b s k br
  grown : w.grownBy W (some b)
  ne : r ≠ q
  nb : r ≠ b ∧ q ≠ b
  le : w.heap.size ≤ r ∧ w.heap.size ≤ q
namespace St
variable {b : Nat} {s : ByteArray} {r q : Nat} {T : TypeId} {zs : Array Value} {w W W' : World} {k k' : Nat} {br br' : Bool}
theorem start (w : World) (b : Nat) (s : ByteArray) (k : Nat) (br : Bool) (h : Cur w b s k br) (T : TypeId) (zs : Array Value) : St b s w.heap.size (w.heap.size + 1) T zs w ((w.alloc (.cells zs T)).alloc (.cells #[.int .i64 0] 27)) k br := by
  have hl := Blk.lt h
  refine ⟨(Blk.new w T zs).alloc _, ?_, Blk.alloc (Blk.alloc h _) _, only_alloc (only_alloc (.refl _ _) _) _, by omega, by omega, by omega⟩
  have := Blk.new (w.alloc (.cells zs T)) 27 #[.int .i64 0]
  simpa using this
theorem drewN (h : St b s r q T zs w W k br) (n : Nat) : St b s r q T zs w (W.drewN n) k br := ⟨h.ret.drewN n, h.err.drewN n, Blk.drewN h.cur n, only_drewN h.grown n, h.ne, h.nb, h.le⟩
theorem alloc (h : St b s r q T zs w W k br) (o : Obj) : St b s r q T zs w (W.alloc o) k br := ⟨h.ret.alloc o, h.err.alloc o, Blk.alloc h.cur o, only_alloc h.grown o, h.ne, h.nb, h.le⟩
theorem moved (h : St b s r q T zs w W k br) (m : Moved W W' b s k' br') : St b s r q T zs w W' k' br' :=
  ⟨h.ret.grown m.1 (by intro e; injection e with e; exact h.nb.1 e), h.err.grown m.1 (by intro e; injection e with e; exact h.nb.2 e), m.2, h.grown.trans m.1, h.ne, h.nb, h.le⟩
theorem only_new {a W : World} {b g : Nat} (h : a.grownBy W (some b)) (hg : a.heap.size ≤ g) (W' : World) (ho : W'.os = W.os) (ht : W'.tape = W.tape) (hu : W'.output = W.output) (hz : W'.heap.size = W.heap.size) (hb : ∀ i, i ≠ g → W'.heap[i]? = W.heap[i]?) : a.grownBy W' (some b) :=
  { os := ho.trans h.os, tape := ht.trans h.tape, output := hu.trans h.output, size := by rw [hz]; exact h.size, block := fun i hi hn => (hb i (by omega)).trans (h.block i hi hn) }
theorem setE (h : St b s r q T zs w W k br) (v : Value) : w.grownBy (W.setCell ⟨q, 0, none⟩ v) (some b) :=
  only_new h.grown h.le.2 _ rfl rfl rfl (by simp [World.setCell]) fun i hi => Below.heap_setCell W ⟨q, 0, none⟩ v i hi
theorem setR (h : St b s r q T zs w W k br) (cs : Array Value) : St b s r q T cs w (W.setRow r cs) k br :=
  ⟨setRow_heap _ _ _ _ _ _ h.ret, h.err.same (setRow_other W r q cs h.ne.symm), Blk.same h.cur (setRow_other W r b cs h.nb.1.symm), only_new h.grown h.le.1 _ rfl rfl rfl (by simp) fun i hi => setRow_other W r i cs hi, h.ne, h.nb, h.le⟩
end St

set_option maxRecDepth 100000 in
theorem catchP_in (p : Addr) (x z : Int) (older : List PanicEntry) (w : World) (hc : w.cell? p = some (.int .i64 x)) (hz : w.frozen? p = false) :
    CallsD Try.prog 53 #[.pointer (some p)] (.panicking ({ v := .iface 27 (.int .i64 z), recovered := false } :: older)) w fun e u' w' =>
      e = .returned (.tuple #[]) ∧ u' = .panicking ({ v := .iface 27 (.int .i64 z), recovered := true } :: older) ∧ w' = w.setCell p (.int .i64 z) := by
  refine callsD_S Try.func53 rfl ⟨#[.pointer (some p), undef, undef, undef, undef, undef, undef, undef, undef, undef], []⟩ (by kernel_rfl) fun c₀ cs hu => ?_
  have hr := recoverD_in (rest := cs) hu
  apply wpS_seq
  refine region_S [0, 1, 2, 3, 4, 5, 6] (by kernel_rfl) ?_
  refine opsS_recover 0 rfl (by kernel_rfl) (by kernel_rfl) hr ?_
  refine opsS_value 1 (.tuple #[.int .i64 z, .bool true]) rfl (by kernel_rfl) (ex_assert (.tmp 4) 20 27 true (by kernel_rfl) (v := .iface 27 (.int .i64 z)) (by kernel_rfl) (assert_errno _ _)) ?_
  refine opsS_value 2 (.tuple #[.int .i64 z, .bool true]) rfl (by kernel_rfl) (by kernel_rfl) ?_
  refine opsS_value 3 (.int .i64 z) rfl (by kernel_rfl) (by kernel_rfl) ?_
  refine opsS_value 4 (.bool true) rfl (by kernel_rfl) (by kernel_rfl) ?_
  refine opsS_value 5 (.int .i64 z) rfl (by kernel_rfl) (by kernel_rfl) ?_
  refine opsS_value 6 (.bool true) rfl (by kernel_rfl) (by kernel_rfl) ?_
  refine opsS_end ⟨#[.pointer (some p), .int .i64 z, .bool true, .tuple #[.int .i64 z, .bool true], .iface 27 (.int .i64 z), .tuple #[.int .i64 z, .bool true], .int .i64 z, .bool true, undef, undef], []⟩ (by kernel_rfl) ?_
  refine wpS_seq ?_
  refine region_S [0] (by kernel_rfl) ?_
  refine opsS_value 0 (.bool true) rfl (by kernel_rfl) (by kernel_rfl) ?_
  refine opsS_end ⟨#[.pointer (some p), .int .i64 z, .bool true, .tuple #[.int .i64 z, .bool true], .iface 27 (.int .i64 z), .tuple #[.int .i64 z, .bool true], .int .i64 z, .bool true, .bool true, undef], []⟩ (by kernel_rfl) ?_
  refine wpS_cond (t := true) (by kernel_rfl) ?_
  refine region_S [0, 1] (by kernel_rfl) ?_
  refine opsS_value 0 (.int .i64 z) rfl (by kernel_rfl) (by kernel_rfl) ?_
  refine opsS_skip 1 rfl (by kernel_rfl) (ex_store_cell 27 (.tmp 0) (.tmp 9) (by kernel_rfl) p (.int .i64 z) (by kernel_rfl) (by kernel_rfl) (errno_store w p x z hc hz)) ?_
  refine opsS_end ⟨#[.pointer (some p), .int .i64 z, .bool true, .tuple #[.int .i64 z, .bool true], .iface 27 (.int .i64 z), .tuple #[.int .i64 z, .bool true], .int .i64 z, .bool true, .bool true, .int .i64 z], []⟩ (by kernel_rfl) ?_
  exact ⟨rfl, _, rfl, _, by kernel_rfl, rfl, rfl, rfl⟩
set_option maxRecDepth 100000 in
theorem catchP_idle (p : Addr) (w : World) :
    CallsD Try.prog 53 #[.pointer (some p)] .returning w fun e u' w' => e = .returned (.tuple #[]) ∧ u' = .returning ∧ w' = w := by
  refine callsD_S Try.func53 rfl ⟨#[.pointer (some p), undef, undef, undef, undef, undef, undef, undef, undef, undef], []⟩ (by kernel_rfl) fun c₀ cs hu => ?_
  have hr := recoverD_idle (rest := cs) hu
  apply wpS_seq
  refine region_S [0, 1, 2, 3, 4, 5, 6] (by kernel_rfl) ?_
  refine opsS_idle 0 rfl (by kernel_rfl) (by kernel_rfl) hr ?_
  refine opsS_value 1 (.tuple #[.int .i64 0, .bool false]) rfl (by kernel_rfl) (ex_assert (.tmp 4) 20 27 true (by kernel_rfl) (v := .nilIface) (by kernel_rfl) (assert_none _)) ?_
  refine opsS_value 2 (.tuple #[.int .i64 0, .bool false]) rfl (by kernel_rfl) (by kernel_rfl) ?_
  refine opsS_value 3 (.int .i64 0) rfl (by kernel_rfl) (by kernel_rfl) ?_
  refine opsS_value 4 (.bool false) rfl (by kernel_rfl) (by kernel_rfl) ?_
  refine opsS_value 5 (.int .i64 0) rfl (by kernel_rfl) (by kernel_rfl) ?_
  refine opsS_value 6 (.bool false) rfl (by kernel_rfl) (by kernel_rfl) ?_
  refine opsS_end ⟨#[.pointer (some p), .int .i64 0, .bool false, .tuple #[.int .i64 0, .bool false], .nilIface, .tuple #[.int .i64 0, .bool false], .int .i64 0, .bool false, undef, undef], []⟩ (by kernel_rfl) ?_
  refine wpS_seq ?_
  refine region_S [0] (by kernel_rfl) ?_
  refine opsS_value 0 (.bool false) rfl (by kernel_rfl) (by kernel_rfl) ?_
  refine opsS_end ⟨#[.pointer (some p), .int .i64 0, .bool false, .tuple #[.int .i64 0, .bool false], .nilIface, .tuple #[.int .i64 0, .bool false], .int .i64 0, .bool false, .bool false, undef], []⟩ (by kernel_rfl) ?_
  refine wpS_cond (t := false) (by kernel_rfl) ?_
  refine wpS_of_wp (wp_skip ?_)
  refine ⟨rfl, .returning, ?_, _, by kernel_rfl, rfl, rfl, rfl⟩
  cases c₀
  simp_all
/-- What 'DecodePrio' answers. -/
def decPV (s : ByteArray) : Value := .tuple #[.agg (prv (decP s)), .int .i64 (wrong 5 1 s)]
theorem decPV_no (s : ByteArray) (z : Int) (hz : wrong 5 1 s = z) (h0 : z ≠ 0) : decPV s = .tuple #[.agg (prv false), .int .i64 z] := by
  have h : ¬ wrong 5 1 s = 0 := by rw [hz]; exact h0
  unfold decPV
  rw [hz]
  unfold decP
  rw [if_neg h]
  try rfl
theorem decPV_ok (s : ByteArray) (h : wrong 5 1 s = 0) : decPV s = .tuple #[.agg (prv (byteAt s 0 % 2 == 1)), .int .i64 0] := by
  unfold decPV
  rw [h]
  unfold decP
  rw [if_pos h]
  try rfl
set_option maxRecDepth 100000 in
theorem doorP_panic (r q : Nat) (z : Int) (tmps : Array Value) (R : Ending → World → Prop) (W : World) (h6 : tmps.getD 6 undef = .pointer (some ⟨r, 0, none⟩)) (h7 : tmps.getD 7 undef = .pointer (some ⟨q, 0, none⟩)) (hr : Blk W r 23 (prv false)) (he : Blk W q 27 #[.int .i64 0]) (hne : r ≠ q) (hR : R (.returned (.tuple #[.agg (prv false), .int .i64 z])) (W.setCell ⟨q, 0, none⟩ (.int .i64 z))) :
    bodyPostD Try.prog Try.f31 R (Exit.panic [{ v := .iface 27 (.int .i64 z), recovered := false }]) ⟨tmps, [{ target := .fn (.func 53) #[.pointer (some ⟨q, 0, none⟩)], args := #[] }]⟩ W := by
  have c0 := he.cell 0
  simp only [List.getElem?_toArray, List.getElem?_cons_zero] at c0
  show Leaves Try.prog Try.f31 tmps R _ _ W
  refine leaves_cons (f := 53) (args := #[.pointer (some ⟨q, 0, none⟩)]) (by simp) (by simp [go_sem]) ?_
  refine (catchP_in ⟨q, 0, none⟩ 0 z [] W c0 (he.frozen 0)).mono ?_
  rintro e u' w'' ⟨rfl, rfl, rfl⟩
  have hq := (he.set_ 0 (.int .i64 z)).cell 0
  have hr2 : Blk (W.setCell ⟨q, 0, none⟩ (.int .i64 z)) r 23 (prv false) := hr.same (Below.heap_setCell W ⟨q, 0, none⟩ _ r hne)
  exact ⟨_, results_row_cell rfl tmps _ r 23 (prv false) (0, 0) _ h6 hr2 Try.underlying23 rfl pr_size q (.int .i64 z) h7 (errno_load _ _ z hq), hR⟩
set_option maxRecDepth 100000 in
theorem doorP_ret (r q : Nat) (z : Int) (cs : Array Value) (hcs : (Try.prog.info? 23).map (·.size) = some cs.size) (tmps : Array Value) (R : Ending → World → Prop) (W : World) (h6 : tmps.getD 6 undef = .pointer (some ⟨r, 0, none⟩)) (h7 : tmps.getD 7 undef = .pointer (some ⟨q, 0, none⟩)) (hr : Blk W r 23 cs) (he : Blk W q 27 #[.int .i64 z]) (hR : R (.returned (.tuple #[.agg cs, .int .i64 z])) W) :
    bodyPostD Try.prog Try.f31 R Exit.ret ⟨tmps, [{ target := .fn (.func 53) #[.pointer (some ⟨q, 0, none⟩)], args := #[] }]⟩ W := by
  have c0 := he.cell 0
  simp only [List.getElem?_toArray, List.getElem?_cons_zero] at c0
  show Leaves Try.prog Try.f31 tmps R _ _ W
  refine leaves_cons (f := 53) (args := #[.pointer (some ⟨q, 0, none⟩)]) (by simp) (by simp [go_sem]) ?_
  refine (catchP_idle ⟨q, 0, none⟩ W).mono ?_
  rintro e u' w'' ⟨rfl, rfl, rfl⟩
  exact ⟨_, results_row_cell rfl tmps _ r 23 cs (0, 0) _ h6 hr Try.underlying23 rfl hcs q (.int .i64 z) h7 (errno_load _ _ z c0), hR⟩
set_option maxHeartbeats 1000000 in
set_option maxRecDepth 100000 in
theorem decP_none (b : Nat) (s : ByteArray) (w : World) (hs : s.size ≤ 9223372036854775807) (h : Cur w b s 0 false) (h0 : s.size = 0) :
    Calls Try.prog 31 #[.pointer (some ⟨b, 0, none⟩), .int .u8 5, (.func (.func 33) #[] #[])] w fun e w' => e = .returned (decPV s) ∧ w.grownBy w' (some b) := by
  have HV := Lib.hid (show decPV s = .tuple #[.agg (prv false), .int .i64 4] from decPV_no s 4 (wrong_0 _ _ s h0) (by decide))
  have HL := Lib.hid (show leftO s 0 false = 0 by unfold leftO; rw [if_neg (by decide), h0]; rfl)
  obtain ⟨r, hr⟩ : ∃ r, r = w.heap.size := ⟨_, rfl⟩
  obtain ⟨q, hq⟩ : ∃ q, q = w.heap.size + 1 := ⟨_, rfl⟩
  obtain ⟨w0, hw0⟩ : ∃ w0, w0 = (w.alloc (.cells (prv false) 23)).alloc (.cells #[.int .i64 0] 27) := ⟨_, rfl⟩
  have st : St b s r q 23 (prv false) w w0 0 false := by rw [hw0, hr, hq]; exact St.start w b s 0 false h 23 (prv false)
  have HS := Lib.hid hs
  have HST := Lib.hid st
  have HR := Lib.hid hr
  have HQ := Lib.hid hq
  have HW := Lib.hid hw0
  have hmf : ∀ (fn : Fn) (first cap : Array Value) (w : World), (Instr.makeFunc fn first cap).run Try.prog w = .ok (.func fn first cap) w := fun _ _ _ _ => rfl
  clear h hr hq hw0 st h0 hs
  go_enter_defers Try.func31, Try.ntmps31
  go_wp2_with fail
  rw [← HW.out, ← HQ.out, ← HR.out]
  refine (answer (LeftC_any b s 0 false w0 HS.out (Nat.zero_le _) HST.out.cur) (congrArg (Value.int .i64) HL.out)).mono ?_
  rintro e W1 ⟨rfl, n1, rfl⟩
  have HST1 := Lib.hid (HST.out.drewN n1)
  go_wp2_with fail
  rw [HV.out]
  exact doorP_panic r q 4 _ _ _ (by kernel_rfl) (by kernel_rfl) HST1.out.ret HST1.out.err HST1.out.ne ⟨rfl, HST1.out.setE _⟩
set_option maxHeartbeats 1000000 in
set_option maxRecDepth 100000 in
theorem decP_kind (b : Nat) (s : ByteArray) (w : World) (hs : s.size ≤ 9223372036854775807) (h : Cur w b s 0 false) (h0 : s.size ≠ 0) (hk : byteAt s 0 / 16 ≠ 5) :
    Calls Try.prog 31 #[.pointer (some ⟨b, 0, none⟩), .int .u8 5, (.func (.func 33) #[] #[])] w fun e w' => e = .returned (decPV s) ∧ w.grownBy w' (some b) := by
  have HV := Lib.hid (show decPV s = .tuple #[.agg (prv false), .int .i64 7] from decPV_no s 7 (wrong_7 _ _ s h0 hk) (by decide))
  obtain ⟨m, hm⟩ : ∃ m, m = s.size := ⟨_, rfl⟩
  have HL := Lib.hid (show leftO s 0 false = (m : Int) by unfold leftO; rw [if_neg (by decide), hm]; omega)
  have hm0 : ¬ (m : Int) = 0 := by omega
  obtain ⟨c, hc⟩ : ∃ c, c = byteAt s 0 := ⟨_, rfl⟩
  have hc2 : c < 256 := by rw [hc]; exact byteAt_lt s 0
  have H1 := Lib.hid (fun w1 (h1 : Cur w1 b s 0 false) => U8_first b s w1 hs h0 h1)
  rw [← hc] at H1
  obtain ⟨r, hr⟩ : ∃ r, r = w.heap.size := ⟨_, rfl⟩
  obtain ⟨q, hq⟩ : ∃ q, q = w.heap.size + 1 := ⟨_, rfl⟩
  obtain ⟨w0, hw0⟩ : ∃ w0, w0 = (w.alloc (.cells (prv false) 23)).alloc (.cells #[.int .i64 0] 27) := ⟨_, rfl⟩
  have st : St b s r q 23 (prv false) w w0 0 false := by rw [hw0, hr, hq]; exact St.start w b s 0 false h 23 (prv false)
  have HS := Lib.hid hs
  have HST := Lib.hid st
  have HR := Lib.hid hr
  have HQ := Lib.hid hq
  have HW := Lib.hid hw0
  have hmf : ∀ (fn : Fn) (first cap : Array Value) (w : World), (Instr.makeFunc fn first cap).run Try.prog w = .ok (.func fn first cap) w := fun _ _ _ _ => rfl
  have hq7 : ¬ (c : Int) / 16 % 256 = 5 := by rw [← hc] at hk; omega
  clear h hr hq hw0 st h0 hs hm hc hk hc2
  go_enter_defers Try.func31, Try.ntmps31
  go_wp2_with fail
  rw [← HW.out, ← HQ.out, ← HR.out]
  refine (answer (LeftC_any b s 0 false w0 HS.out (Nat.zero_le _) HST.out.cur) (congrArg (Value.int .i64) HL.out)).mono ?_
  rintro e W1 ⟨rfl, n1, rfl⟩
  have HST1 := Lib.hid (HST.out.drewN n1)
  go_wp2_with fail
  refine (H1.out _ HST1.out.cur).mono ?_
  rintro e W2 ⟨rfl, m2⟩
  have HST2 := Lib.hid (HST1.out.moved m2)
  clear m2
  go_wp2_with fail
  rw [HV.out]
  exact doorP_panic r q 7 _ _ _ (by kernel_rfl) (by kernel_rfl) HST2.out.ret HST2.out.err HST2.out.ne ⟨rfl, HST2.out.setE _⟩
set_option maxHeartbeats 1000000 in
set_option maxRecDepth 100000 in
theorem decP_bad (b : Nat) (s : ByteArray) (w : World) (hs : s.size ≤ 9223372036854775807) (h : Cur w b s 0 false) (h0 : s.size ≠ 0) (hk : byteAt s 0 / 16 = 5) (hz : fit 1 s.size ≠ 0) :
    Calls Try.prog 31 #[.pointer (some ⟨b, 0, none⟩), .int .u8 5, (.func (.func 33) #[] #[])] w fun e w' => e = .returned (decPV s) ∧ w.grownBy w' (some b) := by
  obtain ⟨z, hzz⟩ : ∃ z, z = fit 1 s.size := ⟨_, rfl⟩
  have HV := Lib.hid (show decPV s = .tuple #[.agg (prv false), .int .i64 z] from decPV_no s z ((wrong_in _ _ s h0 hk).trans hzz.symm) (by rw [hzz]; exact hz))
  have hz0 : ¬ z = 0 := by rw [hzz]; exact hz
  obtain ⟨m, hm⟩ : ∃ m, m = s.size := ⟨_, rfl⟩
  have HL := Lib.hid (show leftO s 0 false = (m : Int) by unfold leftO; rw [if_neg (by decide), hm]; omega)
  have hm0 : ¬ (m : Int) = 0 := by omega
  obtain ⟨c, hc⟩ : ∃ c, c = byteAt s 0 := ⟨_, rfl⟩
  have hc2 : c < 256 := by rw [hc]; exact byteAt_lt s 0
  have H1 := Lib.hid (fun w1 (h1 : Cur w1 b s 0 false) => U8_first b s w1 hs h0 h1)
  rw [← hc] at H1
  obtain ⟨r, hr⟩ : ∃ r, r = w.heap.size := ⟨_, rfl⟩
  obtain ⟨q, hq⟩ : ∃ q, q = w.heap.size + 1 := ⟨_, rfl⟩
  obtain ⟨w0, hw0⟩ : ∃ w0, w0 = (w.alloc (.cells (prv false) 23)).alloc (.cells #[.int .i64 0] 27) := ⟨_, rfl⟩
  have st : St b s r q 23 (prv false) w w0 0 false := by rw [hw0, hr, hq]; exact St.start w b s 0 false h 23 (prv false)
  have HS := Lib.hid hs
  have HST := Lib.hid st
  have HR := Lib.hid hr
  have HQ := Lib.hid hq
  have HW := Lib.hid hw0
  have hmf : ∀ (fn : Fn) (first cap : Array Value) (w : World), (Instr.makeFunc fn first cap).run Try.prog w = .ok (.func fn first cap) w := fun _ _ _ _ => rfl
  have hq7 : (c : Int) / 16 % 256 = 5 := by rw [← hc] at hk; omega
  have HC := Lib.hid hc
  have HC2 := Lib.hid hc2
  have H0 := Lib.hid h0
  have HZ := Lib.hid hz
  have HZZ := Lib.hid hzz
  have HZ0 := Lib.hid hz0
  clear h hr hq hw0 st h0 hs hm hc hk hz hzz
  go_enter_defers Try.func31, Try.ntmps31
  go_wp2_with fail
  rw [← HW.out, ← HQ.out, ← HR.out]
  refine (answer (LeftC_any b s 0 false w0 HS.out (Nat.zero_le _) HST.out.cur) (congrArg (Value.int .i64) HL.out)).mono ?_
  rintro e W1 ⟨rfl, n1, rfl⟩
  have HST1 := Lib.hid (HST.out.drewN n1)
  go_wp2_with fail
  refine (H1.out _ HST1.out.cur).mono ?_
  rintro e W2 ⟨rfl, m2⟩
  have HST2 := Lib.hid (HST1.out.moved m2)
  clear m2
  go_wp2_with fail
  refine (closP_any c b s _ HC2.out H0.out HST2.out.cur).mono ?_
  rintro e W3 ⟨rfl, m3⟩
  have HST3 := Lib.hid (HST2.out.moved m3)
  clear m3
  have HF := Lib.hid (fin_one s H0.out)
  obtain ⟨X, hX⟩ : ∃ X, X = W3.heap.size := ⟨_, rfl⟩
  obtain ⟨W4, hW4⟩ : ∃ W4, W4 = W3.alloc (.cells (prv (c % 2 == 1)) 23) := ⟨_, rfl⟩
  have HST4 := Lib.hid (show St b s r q 23 (prv false) w W4 1 false by rw [hW4]; exact HST3.out.alloc _)
  have HX4 := Lib.hid (show Blk W4 X 23 (prv (c % 2 == 1)) by rw [hW4, hX]; exact Blk.new _ _ _)
  have HXX := Lib.hid hX
  have HW4 := Lib.hid hW4
  clear hX hW4
  go_wp2_with fail
  rw [← HW4.out, ← HXX.out]
  refine (answer (End_any b s 1 false W4 HS.out HF.out.1 HST4.out.cur) (congrArg (Value.int .i64) (HF.out.2.trans HZZ.out.symm))).mono ?_
  rintro e W5 ⟨rfl, n5, rfl⟩
  have HST5 := Lib.hid (HST4.out.drewN n5)
  have HX5 := Lib.hid (HX4.out.drewN n5)
  go_wp2_with fail
  rw [HV.out]
  exact doorP_panic r q z _ _ _ (by kernel_rfl) (by kernel_rfl) HST5.out.ret HST5.out.err HST5.out.ne ⟨rfl, HST5.out.setE _⟩
set_option maxHeartbeats 1000000 in
set_option maxRecDepth 100000 in
theorem decP_ok (b : Nat) (s : ByteArray) (w : World) (hs : s.size ≤ 9223372036854775807) (h : Cur w b s 0 false) (h0 : s.size ≠ 0) (hk : byteAt s 0 / 16 = 5) (hz : fit 1 s.size = 0) :
    Calls Try.prog 31 #[.pointer (some ⟨b, 0, none⟩), .int .u8 5, (.func (.func 33) #[] #[])] w fun e w' => e = .returned (decPV s) ∧ w.grownBy w' (some b) := by
  obtain ⟨z, hzz⟩ : ∃ z, z = fit 1 s.size := ⟨_, rfl⟩
  have HV := Lib.hid (show decPV s = .tuple #[.agg (prv (byteAt s 0 % 2 == 1)), .int .i64 0] from decPV_ok s ((wrong_in _ _ s h0 hk).trans hz))
  have hz0 : z = 0 := by rw [hzz]; exact hz
  obtain ⟨m, hm⟩ : ∃ m, m = s.size := ⟨_, rfl⟩
  have HL := Lib.hid (show leftO s 0 false = (m : Int) by unfold leftO; rw [if_neg (by decide), hm]; omega)
  have hm0 : ¬ (m : Int) = 0 := by omega
  obtain ⟨c, hc⟩ : ∃ c, c = byteAt s 0 := ⟨_, rfl⟩
  have hc2 : c < 256 := by rw [hc]; exact byteAt_lt s 0
  have H1 := Lib.hid (fun w1 (h1 : Cur w1 b s 0 false) => U8_first b s w1 hs h0 h1)
  rw [← hc] at H1
  obtain ⟨r, hr⟩ : ∃ r, r = w.heap.size := ⟨_, rfl⟩
  obtain ⟨q, hq⟩ : ∃ q, q = w.heap.size + 1 := ⟨_, rfl⟩
  obtain ⟨w0, hw0⟩ : ∃ w0, w0 = (w.alloc (.cells (prv false) 23)).alloc (.cells #[.int .i64 0] 27) := ⟨_, rfl⟩
  have st : St b s r q 23 (prv false) w w0 0 false := by rw [hw0, hr, hq]; exact St.start w b s 0 false h 23 (prv false)
  have HS := Lib.hid hs
  have HST := Lib.hid st
  have HR := Lib.hid hr
  have HQ := Lib.hid hq
  have HW := Lib.hid hw0
  have hmf : ∀ (fn : Fn) (first cap : Array Value) (w : World), (Instr.makeFunc fn first cap).run Try.prog w = .ok (.func fn first cap) w := fun _ _ _ _ => rfl
  have hq7 : (c : Int) / 16 % 256 = 5 := by rw [← hc] at hk; omega
  have HC := Lib.hid hc
  have HC2 := Lib.hid hc2
  have H0 := Lib.hid h0
  have HZ := Lib.hid hz
  have HZZ := Lib.hid hzz
  have HZ0 := Lib.hid hz0
  clear h hr hq hw0 st h0 hs hm hc hk hz hzz
  go_enter_defers Try.func31, Try.ntmps31
  go_wp2_with fail
  rw [← HW.out, ← HQ.out, ← HR.out]
  refine (answer (LeftC_any b s 0 false w0 HS.out (Nat.zero_le _) HST.out.cur) (congrArg (Value.int .i64) HL.out)).mono ?_
  rintro e W1 ⟨rfl, n1, rfl⟩
  have HST1 := Lib.hid (HST.out.drewN n1)
  go_wp2_with fail
  refine (H1.out _ HST1.out.cur).mono ?_
  rintro e W2 ⟨rfl, m2⟩
  have HST2 := Lib.hid (HST1.out.moved m2)
  clear m2
  go_wp2_with fail
  refine (closP_any c b s _ HC2.out H0.out HST2.out.cur).mono ?_
  rintro e W3 ⟨rfl, m3⟩
  have HST3 := Lib.hid (HST2.out.moved m3)
  clear m3
  have HF := Lib.hid (fin_one s H0.out)
  obtain ⟨X, hX⟩ : ∃ X, X = W3.heap.size := ⟨_, rfl⟩
  obtain ⟨W4, hW4⟩ : ∃ W4, W4 = W3.alloc (.cells (prv (c % 2 == 1)) 23) := ⟨_, rfl⟩
  have HST4 := Lib.hid (show St b s r q 23 (prv false) w W4 1 false by rw [hW4]; exact HST3.out.alloc _)
  have HX4 := Lib.hid (show Blk W4 X 23 (prv (c % 2 == 1)) by rw [hW4, hX]; exact Blk.new _ _ _)
  have HXX := Lib.hid hX
  have HW4 := Lib.hid hW4
  clear hX hW4
  go_wp2_with fail
  rw [← HW4.out, ← HXX.out]
  refine (answer (End_any b s 1 false W4 HS.out HF.out.1 HST4.out.cur) (congrArg (Value.int .i64) (HF.out.2.trans HZZ.out.symm))).mono ?_
  rintro e W5 ⟨rfl, n5, rfl⟩
  have HST5 := Lib.hid (HST4.out.drewN n5)
  have HX5 := Lib.hid (HX4.out.drewN n5)
  have st6 := HST5.out.setR (prv (c % 2 == 1))
  have HST6 := Lib.hid st6
  have c0 := st6.err.cell 0
  have f0 := st6.err.frozen 0
  simp only [List.getElem?_toArray, List.getElem?_cons_zero] at c0
  clear st6
  go_wp2_with (first | (refine wpList_load_row rfl 23 _ rfl X rfl 23 (prv (c % 2 == 1)) (0, 0) _ ?_ Try.underlying23 rfl pr_size ?_; exact HX5.out) | (refine wpList_store_row rfl 23 _ _ rfl r (prv (c % 2 == 1)) rfl rfl 23 (prv false) ?_ pr_size rfl (pr_one _) ?_; exact HST5.out.ret))
  refine doorP_ret r q 0 (prv (c % 2 == 1)) pr_size _ _ _ (by kernel_rfl) (by kernel_rfl) (HST6.out.ret.same (Below.heap_setCell _ ⟨q, 0, none⟩ _ r HST6.out.ne)) (HST6.out.err.set_ 0 (.int .i64 0)) ⟨?_, HST6.out.setE _⟩
  rw [HV.out]
  rw [HC.out]
theorem decP_any (b : Nat) (s : ByteArray) (w : World) (hs : s.size ≤ 9223372036854775807) (h : Cur w b s 0 false) :
    Calls Try.prog 31 #[.pointer (some ⟨b, 0, none⟩), .int .u8 5, (.func (.func 33) #[] #[])] w fun e w' => e = .returned (decPV s) ∧ w.grownBy w' (some b) := by
  by_cases h0 : s.size = 0
  · exact decP_none b s w hs h h0
  by_cases hk : byteAt s 0 / 16 = 5
  · by_cases hz : fit 1 s.size = 0
    · exact decP_ok b s w hs h h0 hk hz
    · exact decP_bad b s w hs h h0 hk hz
  · exact decP_kind b s w hs h h0 hk
set_option maxHeartbeats 1000000 in
set_option maxRecDepth 100000 in
theorem DecodePrio_any (s : ByteArray) (hs : s.size ≤ 9223372036854775807) (w : World) :
    Calls Try.prog 18 #[.string s] w fun e w' => e = .returned (decPV s) ∧ Below w.heap.size w w' := by
  obtain ⟨P, hP⟩ : ∃ P, P = decP s := ⟨_, rfl⟩
  obtain ⟨z, hz⟩ : ∃ z, z = wrong 5 1 s := ⟨_, rfl⟩
  have HV := Lib.hid (show decPV s = .tuple #[.agg (prv P), .int .i64 z] by rw [hP, hz]; rfl)
  obtain ⟨r, hr⟩ : ∃ r, r = w.heap.size := ⟨_, rfl⟩
  obtain ⟨w0, hw0⟩ : ∃ w0, w0 = w.alloc (.cells (prv false) 23) := ⟨_, rfl⟩
  have HZ0 := Lib.hid (show Blk w0 r 23 (prv false) by rw [hw0, hr]; exact Blk.new _ _ _)
  have HB0 := Lib.hid (show Below w.heap.size w w0 by rw [hw0]; exact (Below.refl _ w).alloc (Nat.le_refl _) _)
  have HS := Lib.hid hs
  have HR := Lib.hid hr
  have HW := Lib.hid hw0
  have hmf : ∀ (fn : Fn) (first cap : Array Value) (w : World), (Instr.makeFunc fn first cap).run Try.prog w = .ok (.func fn first cap) w := fun _ _ _ _ => rfl
  clear hs hP hz hr hw0
  go_enter Try.func18, Try.ntmps18
  go_wp2_with fail
  rw [← HW.out, ← HR.out]
  refine (Read_new s w0).mono ?_
  rintro e w1 ⟨b, rfl, hb, b1, hc⟩
  have HC1 := Lib.hid hc
  have HBL := Lib.hid (show w.heap.size ≤ b from Nat.le_trans HB0.out.size hb)
  have HRB := Lib.hid (show r ≠ b from Nat.ne_of_lt (Nat.lt_of_lt_of_le HZ0.out.lt hb))
  have HZ1 := Lib.hid (HZ0.out.below b1 HZ0.out.lt)
  have HB1 := Lib.hid (HB0.out.trans (b1.mono HB0.out.size))
  clear hc hb b1
  go_wp2_with fail
  refine (decP_any b s w1 HS.out HC1.out).mono ?_
  rintro e W ⟨rfl, hgr⟩
  rw [HV.out]
  have HZ3 := Lib.hid (HZ1.out.grown hgr (by intro e; injection e with e; exact HRB.out e))
  have HB3 := Lib.hid (HB1.out.trans (below_of_only hgr HBL.out HB1.out.size))
  clear hgr
  go_wp2_with (refine wpList_store_row rfl 23 _ _ rfl r (prv P) rfl rfl 23 (prv false) ?_ pr_size rfl (pr_one _) ?_; exact HZ3.out)
  exact bodyPost_ret (results_row_tmp (p := 2) (t := 3) rfl _ _ r 23 (prv P) (0, 0) _ (by kernel_rfl) (setRow_heap _ _ _ _ _ _ HZ3.out) Try.underlying23 rfl pr_size) rfl ⟨by rw [HV.out]; rfl, below_setRow HB3.out (by rw [HR.out]; exact Nat.le_refl _) _⟩
set_option maxRecDepth 100000 in
theorem catchF_in (p : Addr) (x z : Int) (older : List PanicEntry) (w : World) (hc : w.cell? p = some (.int .i64 x)) (hz : w.frozen? p = false) :
    CallsD Try.prog 56 #[.pointer (some p)] (.panicking ({ v := .iface 27 (.int .i64 z), recovered := false } :: older)) w fun e u' w' =>
      e = .returned (.tuple #[]) ∧ u' = .panicking ({ v := .iface 27 (.int .i64 z), recovered := true } :: older) ∧ w' = w.setCell p (.int .i64 z) := by
  refine callsD_S Try.func56 rfl ⟨#[.pointer (some p), undef, undef, undef, undef, undef, undef, undef, undef, undef], []⟩ (by kernel_rfl) fun c₀ cs hu => ?_
  have hr := recoverD_in (rest := cs) hu
  apply wpS_seq
  refine region_S [0, 1, 2, 3, 4, 5, 6] (by kernel_rfl) ?_
  refine opsS_recover 0 rfl (by kernel_rfl) (by kernel_rfl) hr ?_
  refine opsS_value 1 (.tuple #[.int .i64 z, .bool true]) rfl (by kernel_rfl) (ex_assert (.tmp 4) 20 27 true (by kernel_rfl) (v := .iface 27 (.int .i64 z)) (by kernel_rfl) (assert_errno _ _)) ?_
  refine opsS_value 2 (.tuple #[.int .i64 z, .bool true]) rfl (by kernel_rfl) (by kernel_rfl) ?_
  refine opsS_value 3 (.int .i64 z) rfl (by kernel_rfl) (by kernel_rfl) ?_
  refine opsS_value 4 (.bool true) rfl (by kernel_rfl) (by kernel_rfl) ?_
  refine opsS_value 5 (.int .i64 z) rfl (by kernel_rfl) (by kernel_rfl) ?_
  refine opsS_value 6 (.bool true) rfl (by kernel_rfl) (by kernel_rfl) ?_
  refine opsS_end ⟨#[.pointer (some p), .int .i64 z, .bool true, .tuple #[.int .i64 z, .bool true], .iface 27 (.int .i64 z), .tuple #[.int .i64 z, .bool true], .int .i64 z, .bool true, undef, undef], []⟩ (by kernel_rfl) ?_
  refine wpS_seq ?_
  refine region_S [0] (by kernel_rfl) ?_
  refine opsS_value 0 (.bool true) rfl (by kernel_rfl) (by kernel_rfl) ?_
  refine opsS_end ⟨#[.pointer (some p), .int .i64 z, .bool true, .tuple #[.int .i64 z, .bool true], .iface 27 (.int .i64 z), .tuple #[.int .i64 z, .bool true], .int .i64 z, .bool true, .bool true, undef], []⟩ (by kernel_rfl) ?_
  refine wpS_cond (t := true) (by kernel_rfl) ?_
  refine region_S [0, 1] (by kernel_rfl) ?_
  refine opsS_value 0 (.int .i64 z) rfl (by kernel_rfl) (by kernel_rfl) ?_
  refine opsS_skip 1 rfl (by kernel_rfl) (ex_store_cell 27 (.tmp 0) (.tmp 9) (by kernel_rfl) p (.int .i64 z) (by kernel_rfl) (by kernel_rfl) (errno_store w p x z hc hz)) ?_
  refine opsS_end ⟨#[.pointer (some p), .int .i64 z, .bool true, .tuple #[.int .i64 z, .bool true], .iface 27 (.int .i64 z), .tuple #[.int .i64 z, .bool true], .int .i64 z, .bool true, .bool true, .int .i64 z], []⟩ (by kernel_rfl) ?_
  exact ⟨rfl, _, rfl, _, by kernel_rfl, rfl, rfl, rfl⟩
set_option maxRecDepth 100000 in
theorem catchF_idle (p : Addr) (w : World) :
    CallsD Try.prog 56 #[.pointer (some p)] .returning w fun e u' w' => e = .returned (.tuple #[]) ∧ u' = .returning ∧ w' = w := by
  refine callsD_S Try.func56 rfl ⟨#[.pointer (some p), undef, undef, undef, undef, undef, undef, undef, undef, undef], []⟩ (by kernel_rfl) fun c₀ cs hu => ?_
  have hr := recoverD_idle (rest := cs) hu
  apply wpS_seq
  refine region_S [0, 1, 2, 3, 4, 5, 6] (by kernel_rfl) ?_
  refine opsS_idle 0 rfl (by kernel_rfl) (by kernel_rfl) hr ?_
  refine opsS_value 1 (.tuple #[.int .i64 0, .bool false]) rfl (by kernel_rfl) (ex_assert (.tmp 4) 20 27 true (by kernel_rfl) (v := .nilIface) (by kernel_rfl) (assert_none _)) ?_
  refine opsS_value 2 (.tuple #[.int .i64 0, .bool false]) rfl (by kernel_rfl) (by kernel_rfl) ?_
  refine opsS_value 3 (.int .i64 0) rfl (by kernel_rfl) (by kernel_rfl) ?_
  refine opsS_value 4 (.bool false) rfl (by kernel_rfl) (by kernel_rfl) ?_
  refine opsS_value 5 (.int .i64 0) rfl (by kernel_rfl) (by kernel_rfl) ?_
  refine opsS_value 6 (.bool false) rfl (by kernel_rfl) (by kernel_rfl) ?_
  refine opsS_end ⟨#[.pointer (some p), .int .i64 0, .bool false, .tuple #[.int .i64 0, .bool false], .nilIface, .tuple #[.int .i64 0, .bool false], .int .i64 0, .bool false, undef, undef], []⟩ (by kernel_rfl) ?_
  refine wpS_seq ?_
  refine region_S [0] (by kernel_rfl) ?_
  refine opsS_value 0 (.bool false) rfl (by kernel_rfl) (by kernel_rfl) ?_
  refine opsS_end ⟨#[.pointer (some p), .int .i64 0, .bool false, .tuple #[.int .i64 0, .bool false], .nilIface, .tuple #[.int .i64 0, .bool false], .int .i64 0, .bool false, .bool false, undef], []⟩ (by kernel_rfl) ?_
  refine wpS_cond (t := false) (by kernel_rfl) ?_
  refine wpS_of_wp (wp_skip ?_)
  refine ⟨rfl, .returning, ?_, _, by kernel_rfl, rfl, rfl, rfl⟩
  cases c₀
  simp_all
/-- What 'DecodeFail' answers. -/
def decFV (s : ByteArray) : Value := .tuple #[.agg (nuv (decN 6 s)), .int .i64 (wrong 6 10 s)]
theorem decFV_no (s : ByteArray) (z : Int) (hz : wrong 6 10 s = z) (h0 : z ≠ 0) : decFV s = .tuple #[.agg #[.int .u64 0], .int .i64 z] := by
  have h : ¬ wrong 6 10 s = 0 := by rw [hz]; exact h0
  unfold decFV
  rw [hz]
  unfold decN
  rw [if_neg h]
  try rfl
theorem decFV_ok (s : ByteArray) (h : wrong 6 10 s = 0) : decFV s = .tuple #[.agg (nuv (num s 2 8)), .int .i64 0] := by
  unfold decFV
  rw [h]
  unfold decN
  rw [if_pos h]
  try rfl
set_option maxRecDepth 100000 in
theorem doorF_panic (r q : Nat) (z : Int) (tmps : Array Value) (R : Ending → World → Prop) (W : World) (h6 : tmps.getD 6 undef = .pointer (some ⟨r, 0, none⟩)) (h7 : tmps.getD 7 undef = .pointer (some ⟨q, 0, none⟩)) (hr : Blk W r 32 #[.int .u64 0]) (he : Blk W q 27 #[.int .i64 0]) (hne : r ≠ q) (hR : R (.returned (.tuple #[.agg #[.int .u64 0], .int .i64 z])) (W.setCell ⟨q, 0, none⟩ (.int .i64 z))) :
    bodyPostD Try.prog Try.f34 R (Exit.panic [{ v := .iface 27 (.int .i64 z), recovered := false }]) ⟨tmps, [{ target := .fn (.func 56) #[.pointer (some ⟨q, 0, none⟩)], args := #[] }]⟩ W := by
  have c0 := he.cell 0
  simp only [List.getElem?_toArray, List.getElem?_cons_zero] at c0
  show Leaves Try.prog Try.f34 tmps R _ _ W
  refine leaves_cons (f := 56) (args := #[.pointer (some ⟨q, 0, none⟩)]) (by simp) (by simp [go_sem]) ?_
  refine (catchF_in ⟨q, 0, none⟩ 0 z [] W c0 (he.frozen 0)).mono ?_
  rintro e u' w'' ⟨rfl, rfl, rfl⟩
  have hq := (he.set_ 0 (.int .i64 z)).cell 0
  have hr2 : Blk (W.setCell ⟨q, 0, none⟩ (.int .i64 z)) r 32 #[.int .u64 0] := hr.same (Below.heap_setCell W ⟨q, 0, none⟩ _ r hne)
  exact ⟨_, results_row_cell rfl tmps _ r 32 #[.int .u64 0] (0, 0) _ h6 hr2 Try.underlying32 rfl fa_size q (.int .i64 z) h7 (errno_load _ _ z hq), hR⟩
set_option maxRecDepth 100000 in
theorem doorF_ret (r q : Nat) (z : Int) (cs : Array Value) (hcs : (Try.prog.info? 32).map (·.size) = some cs.size) (tmps : Array Value) (R : Ending → World → Prop) (W : World) (h6 : tmps.getD 6 undef = .pointer (some ⟨r, 0, none⟩)) (h7 : tmps.getD 7 undef = .pointer (some ⟨q, 0, none⟩)) (hr : Blk W r 32 cs) (he : Blk W q 27 #[.int .i64 z]) (hR : R (.returned (.tuple #[.agg cs, .int .i64 z])) W) :
    bodyPostD Try.prog Try.f34 R Exit.ret ⟨tmps, [{ target := .fn (.func 56) #[.pointer (some ⟨q, 0, none⟩)], args := #[] }]⟩ W := by
  have c0 := he.cell 0
  simp only [List.getElem?_toArray, List.getElem?_cons_zero] at c0
  show Leaves Try.prog Try.f34 tmps R _ _ W
  refine leaves_cons (f := 56) (args := #[.pointer (some ⟨q, 0, none⟩)]) (by simp) (by simp [go_sem]) ?_
  refine (catchF_idle ⟨q, 0, none⟩ W).mono ?_
  rintro e u' w'' ⟨rfl, rfl, rfl⟩
  exact ⟨_, results_row_cell rfl tmps _ r 32 cs (0, 0) _ h6 hr Try.underlying32 rfl hcs q (.int .i64 z) h7 (errno_load _ _ z c0), hR⟩
set_option maxHeartbeats 1000000 in
set_option maxRecDepth 100000 in
theorem decF_none (b g : Nat) (s : ByteArray) (w : World) (hs : s.size ≤ 9223372036854775807) (h : Cur w b s 0 false) (hg : Blk w g 67 #[.pointer (some ⟨b, 0, none⟩)]) (h0 : s.size = 0) :
    Calls Try.prog 34 #[.pointer (some ⟨b, 0, none⟩), .int .u8 6, (.func (.func 35) #[] #[.pointer (some ⟨g, 0, none⟩)])] w fun e w' => e = .returned (decFV s) ∧ w.grownBy w' (some b) := by
  have HV := Lib.hid (show decFV s = .tuple #[.agg #[.int .u64 0], .int .i64 4] from decFV_no s 4 (wrong_0 _ _ s h0) (by decide))
  have HL := Lib.hid (show leftO s 0 false = 0 by unfold leftO; rw [if_neg (by decide), h0]; rfl)
  obtain ⟨r, hr⟩ : ∃ r, r = w.heap.size := ⟨_, rfl⟩
  obtain ⟨q, hq⟩ : ∃ q, q = w.heap.size + 1 := ⟨_, rfl⟩
  obtain ⟨w0, hw0⟩ : ∃ w0, w0 = (w.alloc (.cells #[.int .u64 0] 32)).alloc (.cells #[.int .i64 0] 27) := ⟨_, rfl⟩
  have st : St b s r q 32 #[.int .u64 0] w w0 0 false := by rw [hw0, hr, hq]; exact St.start w b s 0 false h 32 #[.int .u64 0]
  have HS := Lib.hid hs
  have HST := Lib.hid st
  have HR := Lib.hid hr
  have HQ := Lib.hid hq
  have HW := Lib.hid hw0
  have hmf : ∀ (fn : Fn) (first cap : Array Value) (w : World), (Instr.makeFunc fn first cap).run Try.prog w = .ok (.func fn first cap) w := fun _ _ _ _ => rfl
  clear h hr hq hw0 st h0 hs hg
  go_enter_defers Try.func34, Try.ntmps34
  go_wp2_with fail
  rw [← HW.out, ← HQ.out, ← HR.out]
  refine (answer (LeftC_any b s 0 false w0 HS.out (Nat.zero_le _) HST.out.cur) (congrArg (Value.int .i64) HL.out)).mono ?_
  rintro e W1 ⟨rfl, n1, rfl⟩
  have HST1 := Lib.hid (HST.out.drewN n1)
  go_wp2_with fail
  rw [HV.out]
  exact doorF_panic r q 4 _ _ _ (by kernel_rfl) (by kernel_rfl) HST1.out.ret HST1.out.err HST1.out.ne ⟨rfl, HST1.out.setE _⟩
set_option maxHeartbeats 1000000 in
set_option maxRecDepth 100000 in
theorem decF_kind (b g : Nat) (s : ByteArray) (w : World) (hs : s.size ≤ 9223372036854775807) (h : Cur w b s 0 false) (hg : Blk w g 67 #[.pointer (some ⟨b, 0, none⟩)]) (h0 : s.size ≠ 0) (hk : byteAt s 0 / 16 ≠ 6) :
    Calls Try.prog 34 #[.pointer (some ⟨b, 0, none⟩), .int .u8 6, (.func (.func 35) #[] #[.pointer (some ⟨g, 0, none⟩)])] w fun e w' => e = .returned (decFV s) ∧ w.grownBy w' (some b) := by
  have HV := Lib.hid (show decFV s = .tuple #[.agg #[.int .u64 0], .int .i64 7] from decFV_no s 7 (wrong_7 _ _ s h0 hk) (by decide))
  obtain ⟨m, hm⟩ : ∃ m, m = s.size := ⟨_, rfl⟩
  have HL := Lib.hid (show leftO s 0 false = (m : Int) by unfold leftO; rw [if_neg (by decide), hm]; omega)
  have hm0 : ¬ (m : Int) = 0 := by omega
  obtain ⟨c, hc⟩ : ∃ c, c = byteAt s 0 := ⟨_, rfl⟩
  have hc2 : c < 256 := by rw [hc]; exact byteAt_lt s 0
  have H1 := Lib.hid (fun w1 (h1 : Cur w1 b s 0 false) => U8_first b s w1 hs h0 h1)
  rw [← hc] at H1
  obtain ⟨r, hr⟩ : ∃ r, r = w.heap.size := ⟨_, rfl⟩
  obtain ⟨q, hq⟩ : ∃ q, q = w.heap.size + 1 := ⟨_, rfl⟩
  obtain ⟨w0, hw0⟩ : ∃ w0, w0 = (w.alloc (.cells #[.int .u64 0] 32)).alloc (.cells #[.int .i64 0] 27) := ⟨_, rfl⟩
  have st : St b s r q 32 #[.int .u64 0] w w0 0 false := by rw [hw0, hr, hq]; exact St.start w b s 0 false h 32 #[.int .u64 0]
  have HS := Lib.hid hs
  have HST := Lib.hid st
  have HR := Lib.hid hr
  have HQ := Lib.hid hq
  have HW := Lib.hid hw0
  have hmf : ∀ (fn : Fn) (first cap : Array Value) (w : World), (Instr.makeFunc fn first cap).run Try.prog w = .ok (.func fn first cap) w := fun _ _ _ _ => rfl
  have hq7 : ¬ (c : Int) / 16 % 256 = 6 := by rw [← hc] at hk; omega
  clear h hr hq hw0 st h0 hs hm hc hk hc2 hg
  go_enter_defers Try.func34, Try.ntmps34
  go_wp2_with fail
  rw [← HW.out, ← HQ.out, ← HR.out]
  refine (answer (LeftC_any b s 0 false w0 HS.out (Nat.zero_le _) HST.out.cur) (congrArg (Value.int .i64) HL.out)).mono ?_
  rintro e W1 ⟨rfl, n1, rfl⟩
  have HST1 := Lib.hid (HST.out.drewN n1)
  go_wp2_with fail
  refine (H1.out _ HST1.out.cur).mono ?_
  rintro e W2 ⟨rfl, m2⟩
  have HST2 := Lib.hid (HST1.out.moved m2)
  clear m2
  go_wp2_with fail
  rw [HV.out]
  exact doorF_panic r q 7 _ _ _ (by kernel_rfl) (by kernel_rfl) HST2.out.ret HST2.out.err HST2.out.ne ⟨rfl, HST2.out.setE _⟩
set_option maxHeartbeats 1000000 in
set_option maxRecDepth 100000 in
theorem decF_bad (b g : Nat) (s : ByteArray) (w : World) (hs : s.size ≤ 9223372036854775807) (h : Cur w b s 0 false) (hg : Blk w g 67 #[.pointer (some ⟨b, 0, none⟩)]) (h0 : s.size ≠ 0) (hk : byteAt s 0 / 16 = 6) (hz : fit 10 s.size ≠ 0) :
    Calls Try.prog 34 #[.pointer (some ⟨b, 0, none⟩), .int .u8 6, (.func (.func 35) #[] #[.pointer (some ⟨g, 0, none⟩)])] w fun e w' => e = .returned (decFV s) ∧ w.grownBy w' (some b) := by
  obtain ⟨z, hzz⟩ : ∃ z, z = fit 10 s.size := ⟨_, rfl⟩
  have HV := Lib.hid (show decFV s = .tuple #[.agg #[.int .u64 0], .int .i64 z] from decFV_no s z ((wrong_in _ _ s h0 hk).trans hzz.symm) (by rw [hzz]; exact hz))
  have hz0 : ¬ z = 0 := by rw [hzz]; exact hz
  obtain ⟨m, hm⟩ : ∃ m, m = s.size := ⟨_, rfl⟩
  have HL := Lib.hid (show leftO s 0 false = (m : Int) by unfold leftO; rw [if_neg (by decide), hm]; omega)
  have hm0 : ¬ (m : Int) = 0 := by omega
  obtain ⟨c, hc⟩ : ∃ c, c = byteAt s 0 := ⟨_, rfl⟩
  have hc2 : c < 256 := by rw [hc]; exact byteAt_lt s 0
  have H1 := Lib.hid (fun w1 (h1 : Cur w1 b s 0 false) => U8_first b s w1 hs h0 h1)
  rw [← hc] at H1
  obtain ⟨r, hr⟩ : ∃ r, r = w.heap.size := ⟨_, rfl⟩
  obtain ⟨q, hq⟩ : ∃ q, q = w.heap.size + 1 := ⟨_, rfl⟩
  obtain ⟨w0, hw0⟩ : ∃ w0, w0 = (w.alloc (.cells #[.int .u64 0] 32)).alloc (.cells #[.int .i64 0] 27) := ⟨_, rfl⟩
  have st : St b s r q 32 #[.int .u64 0] w w0 0 false := by rw [hw0, hr, hq]; exact St.start w b s 0 false h 32 #[.int .u64 0]
  have HS := Lib.hid hs
  have HST := Lib.hid st
  have HR := Lib.hid hr
  have HQ := Lib.hid hq
  have HW := Lib.hid hw0
  have hmf : ∀ (fn : Fn) (first cap : Array Value) (w : World), (Instr.makeFunc fn first cap).run Try.prog w = .ok (.func fn first cap) w := fun _ _ _ _ => rfl
  have hq7 : (c : Int) / 16 % 256 = 6 := by rw [← hc] at hk; omega
  have HC := Lib.hid hc
  have HC2 := Lib.hid hc2
  have H0 := Lib.hid h0
  have HZ := Lib.hid hz
  have HZZ := Lib.hid hzz
  have HZ0 := Lib.hid hz0
  have HG0 := Lib.hid (show Blk w0 g 67 #[.pointer (some ⟨b, 0, none⟩)] by rw [hw0]; exact (hg.alloc _).alloc _)
  have HGB := Lib.hid (show g ≠ b from hg.ne_ h (by decide))
  clear h hr hq hw0 st h0 hs hm hc hk hz hzz hg
  go_enter_defers Try.func34, Try.ntmps34
  go_wp2_with fail
  rw [← HW.out, ← HQ.out, ← HR.out]
  refine (answer (LeftC_any b s 0 false w0 HS.out (Nat.zero_le _) HST.out.cur) (congrArg (Value.int .i64) HL.out)).mono ?_
  rintro e W1 ⟨rfl, n1, rfl⟩
  have HST1 := Lib.hid (HST.out.drewN n1)
  have HG1 := Lib.hid (Blk.drewN HG0.out n1)
  go_wp2_with fail
  refine (H1.out _ HST1.out.cur).mono ?_
  rintro e W2 ⟨rfl, m2⟩
  have HST2 := Lib.hid (HST1.out.moved m2)
  have HG2 := Lib.hid (show Blk W2 g 67 #[.pointer (some ⟨b, 0, none⟩)] from HG1.out.grown m2.1 (by intro e; injection e with e; exact HGB.out e))
  clear m2
  go_wp2_with fail
  refine (closF_any c g b s _ HS.out H0.out HST2.out.cur HG2.out).mono ?_
  rintro e W3 ⟨n, k, br, rfl, m3, hf, hn⟩
  have HST3 := Lib.hid (HST2.out.moved m3)
  clear m3
  have HF := Lib.hid hf
  have HN := Lib.hid hn
  clear hf hn
  obtain ⟨X, hX⟩ : ∃ X, X = W3.heap.size := ⟨_, rfl⟩
  obtain ⟨W4, hW4⟩ : ∃ W4, W4 = W3.alloc (.cells (nuv n) 32) := ⟨_, rfl⟩
  have HST4 := Lib.hid (show St b s r q 32 #[.int .u64 0] w W4 k br by rw [hW4]; exact HST3.out.alloc _)
  have HX4 := Lib.hid (show Blk W4 X 32 (nuv n) by rw [hW4, hX]; exact Blk.new _ _ _)
  have HXX := Lib.hid hX
  have HW4 := Lib.hid hW4
  clear hX hW4
  go_wp2_with fail
  rw [← HW4.out, ← HXX.out]
  refine (answer (End_any b s k br W4 HS.out HF.out.1 HST4.out.cur) (congrArg (Value.int .i64) (HF.out.2.trans HZZ.out.symm))).mono ?_
  rintro e W5 ⟨rfl, n5, rfl⟩
  have HST5 := Lib.hid (HST4.out.drewN n5)
  have HX5 := Lib.hid (HX4.out.drewN n5)
  go_wp2_with fail
  rw [HV.out]
  exact doorF_panic r q z _ _ _ (by kernel_rfl) (by kernel_rfl) HST5.out.ret HST5.out.err HST5.out.ne ⟨rfl, HST5.out.setE _⟩
set_option maxHeartbeats 1000000 in
set_option maxRecDepth 100000 in
theorem decF_ok (b g : Nat) (s : ByteArray) (w : World) (hs : s.size ≤ 9223372036854775807) (h : Cur w b s 0 false) (hg : Blk w g 67 #[.pointer (some ⟨b, 0, none⟩)]) (h0 : s.size ≠ 0) (hk : byteAt s 0 / 16 = 6) (hz : fit 10 s.size = 0) :
    Calls Try.prog 34 #[.pointer (some ⟨b, 0, none⟩), .int .u8 6, (.func (.func 35) #[] #[.pointer (some ⟨g, 0, none⟩)])] w fun e w' => e = .returned (decFV s) ∧ w.grownBy w' (some b) := by
  obtain ⟨z, hzz⟩ : ∃ z, z = fit 10 s.size := ⟨_, rfl⟩
  have HV := Lib.hid (show decFV s = .tuple #[.agg (nuv (num s 2 8)), .int .i64 0] from decFV_ok s ((wrong_in _ _ s h0 hk).trans hz))
  have hz0 : z = 0 := by rw [hzz]; exact hz
  obtain ⟨m, hm⟩ : ∃ m, m = s.size := ⟨_, rfl⟩
  have HL := Lib.hid (show leftO s 0 false = (m : Int) by unfold leftO; rw [if_neg (by decide), hm]; omega)
  have hm0 : ¬ (m : Int) = 0 := by omega
  obtain ⟨c, hc⟩ : ∃ c, c = byteAt s 0 := ⟨_, rfl⟩
  have hc2 : c < 256 := by rw [hc]; exact byteAt_lt s 0
  have H1 := Lib.hid (fun w1 (h1 : Cur w1 b s 0 false) => U8_first b s w1 hs h0 h1)
  rw [← hc] at H1
  obtain ⟨r, hr⟩ : ∃ r, r = w.heap.size := ⟨_, rfl⟩
  obtain ⟨q, hq⟩ : ∃ q, q = w.heap.size + 1 := ⟨_, rfl⟩
  obtain ⟨w0, hw0⟩ : ∃ w0, w0 = (w.alloc (.cells #[.int .u64 0] 32)).alloc (.cells #[.int .i64 0] 27) := ⟨_, rfl⟩
  have st : St b s r q 32 #[.int .u64 0] w w0 0 false := by rw [hw0, hr, hq]; exact St.start w b s 0 false h 32 #[.int .u64 0]
  have HS := Lib.hid hs
  have HST := Lib.hid st
  have HR := Lib.hid hr
  have HQ := Lib.hid hq
  have HW := Lib.hid hw0
  have hmf : ∀ (fn : Fn) (first cap : Array Value) (w : World), (Instr.makeFunc fn first cap).run Try.prog w = .ok (.func fn first cap) w := fun _ _ _ _ => rfl
  have hq7 : (c : Int) / 16 % 256 = 6 := by rw [← hc] at hk; omega
  have HC := Lib.hid hc
  have HC2 := Lib.hid hc2
  have H0 := Lib.hid h0
  have HZ := Lib.hid hz
  have HZZ := Lib.hid hzz
  have HZ0 := Lib.hid hz0
  have HG0 := Lib.hid (show Blk w0 g 67 #[.pointer (some ⟨b, 0, none⟩)] by rw [hw0]; exact (hg.alloc _).alloc _)
  have HGB := Lib.hid (show g ≠ b from hg.ne_ h (by decide))
  clear h hr hq hw0 st h0 hs hm hc hk hz hzz hg
  go_enter_defers Try.func34, Try.ntmps34
  go_wp2_with fail
  rw [← HW.out, ← HQ.out, ← HR.out]
  refine (answer (LeftC_any b s 0 false w0 HS.out (Nat.zero_le _) HST.out.cur) (congrArg (Value.int .i64) HL.out)).mono ?_
  rintro e W1 ⟨rfl, n1, rfl⟩
  have HST1 := Lib.hid (HST.out.drewN n1)
  have HG1 := Lib.hid (Blk.drewN HG0.out n1)
  go_wp2_with fail
  refine (H1.out _ HST1.out.cur).mono ?_
  rintro e W2 ⟨rfl, m2⟩
  have HST2 := Lib.hid (HST1.out.moved m2)
  have HG2 := Lib.hid (show Blk W2 g 67 #[.pointer (some ⟨b, 0, none⟩)] from HG1.out.grown m2.1 (by intro e; injection e with e; exact HGB.out e))
  clear m2
  go_wp2_with fail
  refine (closF_any c g b s _ HS.out H0.out HST2.out.cur HG2.out).mono ?_
  rintro e W3 ⟨n, k, br, rfl, m3, hf, hn⟩
  have HST3 := Lib.hid (HST2.out.moved m3)
  clear m3
  have HF := Lib.hid hf
  have HN := Lib.hid hn
  clear hf hn
  obtain ⟨X, hX⟩ : ∃ X, X = W3.heap.size := ⟨_, rfl⟩
  obtain ⟨W4, hW4⟩ : ∃ W4, W4 = W3.alloc (.cells (nuv n) 32) := ⟨_, rfl⟩
  have HST4 := Lib.hid (show St b s r q 32 #[.int .u64 0] w W4 k br by rw [hW4]; exact HST3.out.alloc _)
  have HX4 := Lib.hid (show Blk W4 X 32 (nuv n) by rw [hW4, hX]; exact Blk.new _ _ _)
  have HXX := Lib.hid hX
  have HW4 := Lib.hid hW4
  clear hX hW4
  go_wp2_with fail
  rw [← HW4.out, ← HXX.out]
  refine (answer (End_any b s k br W4 HS.out HF.out.1 HST4.out.cur) (congrArg (Value.int .i64) (HF.out.2.trans HZZ.out.symm))).mono ?_
  rintro e W5 ⟨rfl, n5, rfl⟩
  have HST5 := Lib.hid (HST4.out.drewN n5)
  have HX5 := Lib.hid (HX4.out.drewN n5)
  have st6 := HST5.out.setR (nuv n)
  have HST6 := Lib.hid st6
  have c0 := st6.err.cell 0
  have f0 := st6.err.frozen 0
  simp only [List.getElem?_toArray, List.getElem?_cons_zero] at c0
  clear st6
  go_wp2_with (first | (refine wpList_load_row rfl 32 _ rfl X rfl 32 (nuv n) (0, 0) _ ?_ Try.underlying32 rfl fa_size ?_; exact HX5.out) | (refine wpList_store_row rfl 32 _ _ rfl r (nuv n) rfl rfl 32 #[.int .u64 0] ?_ fa_size rfl (nu_one _) ?_; exact HST5.out.ret))
  refine doorF_ret r q 0 (nuv n) fa_size _ _ _ (by kernel_rfl) (by kernel_rfl) (HST6.out.ret.same (Below.heap_setCell _ ⟨q, 0, none⟩ _ r HST6.out.ne)) (HST6.out.err.set_ 0 (.int .i64 0)) ⟨?_, HST6.out.setE _⟩
  rw [HV.out]
  rw [HN.out HZ.out]
theorem decF_any (b : Nat) (g : Nat) (s : ByteArray) (w : World) (hs : s.size ≤ 9223372036854775807) (h : Cur w b s 0 false) (hg : Blk w g 67 #[.pointer (some ⟨b, 0, none⟩)]) :
    Calls Try.prog 34 #[.pointer (some ⟨b, 0, none⟩), .int .u8 6, (.func (.func 35) #[] #[.pointer (some ⟨g, 0, none⟩)])] w fun e w' => e = .returned (decFV s) ∧ w.grownBy w' (some b) := by
  by_cases h0 : s.size = 0
  · exact decF_none b g s w hs h hg h0
  by_cases hk : byteAt s 0 / 16 = 6
  · by_cases hz : fit 10 s.size = 0
    · exact decF_ok b g s w hs h hg h0 hk hz
    · exact decF_bad b g s w hs h hg h0 hk hz
  · exact decF_kind b g s w hs h hg h0 hk
set_option maxHeartbeats 1000000 in
set_option maxRecDepth 100000 in
theorem DecodeFail_any (s : ByteArray) (hs : s.size ≤ 9223372036854775807) (w : World) :
    Calls Try.prog 19 #[.string s] w fun e w' => e = .returned (decFV s) ∧ Below w.heap.size w w' := by
  obtain ⟨N, hN⟩ : ∃ N, N = decN 6 s := ⟨_, rfl⟩
  obtain ⟨z, hz⟩ : ∃ z, z = wrong 6 10 s := ⟨_, rfl⟩
  have HV := Lib.hid (show decFV s = .tuple #[.agg (nuv N), .int .i64 z] by rw [hN, hz]; rfl)
  obtain ⟨r, hr⟩ : ∃ r, r = w.heap.size := ⟨_, rfl⟩
  obtain ⟨w0, hw0⟩ : ∃ w0, w0 = w.alloc (.cells #[.int .u64 0] 32) := ⟨_, rfl⟩
  have HZ0 := Lib.hid (show Blk w0 r 32 #[.int .u64 0] by rw [hw0, hr]; exact Blk.new _ _ _)
  have HB0 := Lib.hid (show Below w.heap.size w w0 by rw [hw0]; exact (Below.refl _ w).alloc (Nat.le_refl _) _)
  have HS := Lib.hid hs
  have HR := Lib.hid hr
  have HW := Lib.hid hw0
  have hmf : ∀ (fn : Fn) (first cap : Array Value) (w : World), (Instr.makeFunc fn first cap).run Try.prog w = .ok (.func fn first cap) w := fun _ _ _ _ => rfl
  clear hs hN hz hr hw0
  go_enter Try.func19, Try.ntmps19
  go_wp2_with fail
  rw [← HW.out, ← HR.out]
  refine (Read_new s w0).mono ?_
  rintro e w1 ⟨b, rfl, hb, b1, hc⟩
  have HC1 := Lib.hid hc
  have HBL := Lib.hid (show w.heap.size ≤ b from Nat.le_trans HB0.out.size hb)
  have HRB := Lib.hid (show r ≠ b from Nat.ne_of_lt (Nat.lt_of_lt_of_le HZ0.out.lt hb))
  have HZ1 := Lib.hid (HZ0.out.below b1 HZ0.out.lt)
  have HB1 := Lib.hid (HB0.out.trans (b1.mono HB0.out.size))
  clear hc hb b1
  obtain ⟨g, hg⟩ : ∃ g, g = w1.heap.size := ⟨_, rfl⟩
  obtain ⟨w2, hw2⟩ : ∃ w2, w2 = w1.alloc (.cells #[.pointer (some ⟨b, 0, none⟩)] 67) := ⟨_, rfl⟩
  have HC2 := Lib.hid (show Cur w2 b s 0 false by rw [hw2]; exact Blk.alloc HC1.out _)
  have hg2 : Blk w2 g 67 #[.pointer (some ⟨b, 0, none⟩)] := by rw [hw2, hg]; exact Blk.new _ _ _
  have HG2 := Lib.hid hg2
  have HZ2 := Lib.hid (show Blk w2 r 32 #[.int .u64 0] by rw [hw2]; exact HZ1.out.alloc _)
  have HB2 := Lib.hid (show Below w.heap.size w w2 by rw [hw2]; exact HB1.out.alloc HB1.out.size _)
  have HG := Lib.hid hg
  have HW2 := Lib.hid hw2
  have c0 := hg2.cell 0
  simp only [List.getElem?_toArray, List.getElem?_cons_zero] at c0
  rw [hw2, hg] at c0
  clear hg hw2 hg2
  go_wp2_with fail
  rw [← HW2.out, ← HG.out]
  refine (decF_any b g s w2 HS.out HC2.out HG2.out).mono ?_
  rintro e W ⟨rfl, hgr⟩
  rw [HV.out]
  have HZ3 := Lib.hid (HZ2.out.grown hgr (by intro e; injection e with e; exact HRB.out e))
  have HB3 := Lib.hid (HB2.out.trans (below_of_only hgr HBL.out HB2.out.size))
  clear hgr c0
  go_wp2_with (refine wpList_store_row rfl 32 _ _ rfl r (nuv N) rfl rfl 32 #[.int .u64 0] ?_ fa_size rfl (nu_one _) ?_; exact HZ3.out)
  exact bodyPost_ret (results_row_tmp (p := 2) (t := 3) rfl _ _ r 32 (nuv N) (0, 0) _ (by kernel_rfl) (setRow_heap _ _ _ _ _ _ HZ3.out) Try.underlying32 rfl fa_size) rfl ⟨by rw [HV.out]; rfl, below_setRow HB3.out (by rw [HR.out]; exact Nat.le_refl _) _⟩
set_option maxRecDepth 100000 in
theorem catchS_in (p : Addr) (x z : Int) (older : List PanicEntry) (w : World) (hc : w.cell? p = some (.int .i64 x)) (hz : w.frozen? p = false) :
    CallsD Try.prog 58 #[.pointer (some p)] (.panicking ({ v := .iface 27 (.int .i64 z), recovered := false } :: older)) w fun e u' w' =>
      e = .returned (.tuple #[]) ∧ u' = .panicking ({ v := .iface 27 (.int .i64 z), recovered := true } :: older) ∧ w' = w.setCell p (.int .i64 z) := by
  refine callsD_S Try.func58 rfl ⟨#[.pointer (some p), undef, undef, undef, undef, undef, undef, undef, undef, undef], []⟩ (by kernel_rfl) fun c₀ cs hu => ?_
  have hr := recoverD_in (rest := cs) hu
  apply wpS_seq
  refine region_S [0, 1, 2, 3, 4, 5, 6] (by kernel_rfl) ?_
  refine opsS_recover 0 rfl (by kernel_rfl) (by kernel_rfl) hr ?_
  refine opsS_value 1 (.tuple #[.int .i64 z, .bool true]) rfl (by kernel_rfl) (ex_assert (.tmp 4) 20 27 true (by kernel_rfl) (v := .iface 27 (.int .i64 z)) (by kernel_rfl) (assert_errno _ _)) ?_
  refine opsS_value 2 (.tuple #[.int .i64 z, .bool true]) rfl (by kernel_rfl) (by kernel_rfl) ?_
  refine opsS_value 3 (.int .i64 z) rfl (by kernel_rfl) (by kernel_rfl) ?_
  refine opsS_value 4 (.bool true) rfl (by kernel_rfl) (by kernel_rfl) ?_
  refine opsS_value 5 (.int .i64 z) rfl (by kernel_rfl) (by kernel_rfl) ?_
  refine opsS_value 6 (.bool true) rfl (by kernel_rfl) (by kernel_rfl) ?_
  refine opsS_end ⟨#[.pointer (some p), .int .i64 z, .bool true, .tuple #[.int .i64 z, .bool true], .iface 27 (.int .i64 z), .tuple #[.int .i64 z, .bool true], .int .i64 z, .bool true, undef, undef], []⟩ (by kernel_rfl) ?_
  refine wpS_seq ?_
  refine region_S [0] (by kernel_rfl) ?_
  refine opsS_value 0 (.bool true) rfl (by kernel_rfl) (by kernel_rfl) ?_
  refine opsS_end ⟨#[.pointer (some p), .int .i64 z, .bool true, .tuple #[.int .i64 z, .bool true], .iface 27 (.int .i64 z), .tuple #[.int .i64 z, .bool true], .int .i64 z, .bool true, .bool true, undef], []⟩ (by kernel_rfl) ?_
  refine wpS_cond (t := true) (by kernel_rfl) ?_
  refine region_S [0, 1] (by kernel_rfl) ?_
  refine opsS_value 0 (.int .i64 z) rfl (by kernel_rfl) (by kernel_rfl) ?_
  refine opsS_skip 1 rfl (by kernel_rfl) (ex_store_cell 27 (.tmp 0) (.tmp 9) (by kernel_rfl) p (.int .i64 z) (by kernel_rfl) (by kernel_rfl) (errno_store w p x z hc hz)) ?_
  refine opsS_end ⟨#[.pointer (some p), .int .i64 z, .bool true, .tuple #[.int .i64 z, .bool true], .iface 27 (.int .i64 z), .tuple #[.int .i64 z, .bool true], .int .i64 z, .bool true, .bool true, .int .i64 z], []⟩ (by kernel_rfl) ?_
  exact ⟨rfl, _, rfl, _, by kernel_rfl, rfl, rfl, rfl⟩
set_option maxRecDepth 100000 in
theorem catchS_idle (p : Addr) (w : World) :
    CallsD Try.prog 58 #[.pointer (some p)] .returning w fun e u' w' => e = .returned (.tuple #[]) ∧ u' = .returning ∧ w' = w := by
  refine callsD_S Try.func58 rfl ⟨#[.pointer (some p), undef, undef, undef, undef, undef, undef, undef, undef, undef], []⟩ (by kernel_rfl) fun c₀ cs hu => ?_
  have hr := recoverD_idle (rest := cs) hu
  apply wpS_seq
  refine region_S [0, 1, 2, 3, 4, 5, 6] (by kernel_rfl) ?_
  refine opsS_idle 0 rfl (by kernel_rfl) (by kernel_rfl) hr ?_
  refine opsS_value 1 (.tuple #[.int .i64 0, .bool false]) rfl (by kernel_rfl) (ex_assert (.tmp 4) 20 27 true (by kernel_rfl) (v := .nilIface) (by kernel_rfl) (assert_none _)) ?_
  refine opsS_value 2 (.tuple #[.int .i64 0, .bool false]) rfl (by kernel_rfl) (by kernel_rfl) ?_
  refine opsS_value 3 (.int .i64 0) rfl (by kernel_rfl) (by kernel_rfl) ?_
  refine opsS_value 4 (.bool false) rfl (by kernel_rfl) (by kernel_rfl) ?_
  refine opsS_value 5 (.int .i64 0) rfl (by kernel_rfl) (by kernel_rfl) ?_
  refine opsS_value 6 (.bool false) rfl (by kernel_rfl) (by kernel_rfl) ?_
  refine opsS_end ⟨#[.pointer (some p), .int .i64 0, .bool false, .tuple #[.int .i64 0, .bool false], .nilIface, .tuple #[.int .i64 0, .bool false], .int .i64 0, .bool false, undef, undef], []⟩ (by kernel_rfl) ?_
  refine wpS_seq ?_
  refine region_S [0] (by kernel_rfl) ?_
  refine opsS_value 0 (.bool false) rfl (by kernel_rfl) (by kernel_rfl) ?_
  refine opsS_end ⟨#[.pointer (some p), .int .i64 0, .bool false, .tuple #[.int .i64 0, .bool false], .nilIface, .tuple #[.int .i64 0, .bool false], .int .i64 0, .bool false, .bool false, undef], []⟩ (by kernel_rfl) ?_
  refine wpS_cond (t := false) (by kernel_rfl) ?_
  refine wpS_of_wp (wp_skip ?_)
  refine ⟨rfl, .returning, ?_, _, by kernel_rfl, rfl, rfl, rfl⟩
  cases c₀
  simp_all
/-- What 'DecodeFast' answers. -/
def decSV (s : ByteArray) : Value := .tuple #[.agg (nuv (decN 7 s)), .int .i64 (wrong 7 10 s)]
theorem decSV_no (s : ByteArray) (z : Int) (hz : wrong 7 10 s = z) (h0 : z ≠ 0) : decSV s = .tuple #[.agg #[.int .u64 0], .int .i64 z] := by
  have h : ¬ wrong 7 10 s = 0 := by rw [hz]; exact h0
  unfold decSV
  rw [hz]
  unfold decN
  rw [if_neg h]
  try rfl
theorem decSV_ok (s : ByteArray) (h : wrong 7 10 s = 0) : decSV s = .tuple #[.agg (nuv (num s 2 8)), .int .i64 0] := by
  unfold decSV
  rw [h]
  unfold decN
  rw [if_pos h]
  try rfl
set_option maxRecDepth 100000 in
theorem doorS_panic (r q : Nat) (z : Int) (tmps : Array Value) (R : Ending → World → Prop) (W : World) (h6 : tmps.getD 6 undef = .pointer (some ⟨r, 0, none⟩)) (h7 : tmps.getD 7 undef = .pointer (some ⟨q, 0, none⟩)) (hr : Blk W r 35 #[.int .u64 0]) (he : Blk W q 27 #[.int .i64 0]) (hne : r ≠ q) (hR : R (.returned (.tuple #[.agg #[.int .u64 0], .int .i64 z])) (W.setCell ⟨q, 0, none⟩ (.int .i64 z))) :
    bodyPostD Try.prog Try.f37 R (Exit.panic [{ v := .iface 27 (.int .i64 z), recovered := false }]) ⟨tmps, [{ target := .fn (.func 58) #[.pointer (some ⟨q, 0, none⟩)], args := #[] }]⟩ W := by
  have c0 := he.cell 0
  simp only [List.getElem?_toArray, List.getElem?_cons_zero] at c0
  show Leaves Try.prog Try.f37 tmps R _ _ W
  refine leaves_cons (f := 58) (args := #[.pointer (some ⟨q, 0, none⟩)]) (by simp) (by simp [go_sem]) ?_
  refine (catchS_in ⟨q, 0, none⟩ 0 z [] W c0 (he.frozen 0)).mono ?_
  rintro e u' w'' ⟨rfl, rfl, rfl⟩
  have hq := (he.set_ 0 (.int .i64 z)).cell 0
  have hr2 : Blk (W.setCell ⟨q, 0, none⟩ (.int .i64 z)) r 35 #[.int .u64 0] := hr.same (Below.heap_setCell W ⟨q, 0, none⟩ _ r hne)
  exact ⟨_, results_row_cell rfl tmps _ r 35 #[.int .u64 0] (0, 0) _ h6 hr2 Try.underlying35 rfl fs_size q (.int .i64 z) h7 (errno_load _ _ z hq), hR⟩
set_option maxRecDepth 100000 in
theorem doorS_ret (r q : Nat) (z : Int) (cs : Array Value) (hcs : (Try.prog.info? 35).map (·.size) = some cs.size) (tmps : Array Value) (R : Ending → World → Prop) (W : World) (h6 : tmps.getD 6 undef = .pointer (some ⟨r, 0, none⟩)) (h7 : tmps.getD 7 undef = .pointer (some ⟨q, 0, none⟩)) (hr : Blk W r 35 cs) (he : Blk W q 27 #[.int .i64 z]) (hR : R (.returned (.tuple #[.agg cs, .int .i64 z])) W) :
    bodyPostD Try.prog Try.f37 R Exit.ret ⟨tmps, [{ target := .fn (.func 58) #[.pointer (some ⟨q, 0, none⟩)], args := #[] }]⟩ W := by
  have c0 := he.cell 0
  simp only [List.getElem?_toArray, List.getElem?_cons_zero] at c0
  show Leaves Try.prog Try.f37 tmps R _ _ W
  refine leaves_cons (f := 58) (args := #[.pointer (some ⟨q, 0, none⟩)]) (by simp) (by simp [go_sem]) ?_
  refine (catchS_idle ⟨q, 0, none⟩ W).mono ?_
  rintro e u' w'' ⟨rfl, rfl, rfl⟩
  exact ⟨_, results_row_cell rfl tmps _ r 35 cs (0, 0) _ h6 hr Try.underlying35 rfl hcs q (.int .i64 z) h7 (errno_load _ _ z c0), hR⟩
set_option maxHeartbeats 1000000 in
set_option maxRecDepth 100000 in
theorem decS_none (b g : Nat) (s : ByteArray) (w : World) (hs : s.size ≤ 9223372036854775807) (h : Cur w b s 0 false) (hg : Blk w g 67 #[.pointer (some ⟨b, 0, none⟩)]) (h0 : s.size = 0) :
    Calls Try.prog 37 #[.pointer (some ⟨b, 0, none⟩), .int .u8 7, (.func (.func 38) #[] #[.pointer (some ⟨g, 0, none⟩)])] w fun e w' => e = .returned (decSV s) ∧ w.grownBy w' (some b) := by
  have HV := Lib.hid (show decSV s = .tuple #[.agg #[.int .u64 0], .int .i64 4] from decSV_no s 4 (wrong_0 _ _ s h0) (by decide))
  have HL := Lib.hid (show leftO s 0 false = 0 by unfold leftO; rw [if_neg (by decide), h0]; rfl)
  obtain ⟨r, hr⟩ : ∃ r, r = w.heap.size := ⟨_, rfl⟩
  obtain ⟨q, hq⟩ : ∃ q, q = w.heap.size + 1 := ⟨_, rfl⟩
  obtain ⟨w0, hw0⟩ : ∃ w0, w0 = (w.alloc (.cells #[.int .u64 0] 35)).alloc (.cells #[.int .i64 0] 27) := ⟨_, rfl⟩
  have st : St b s r q 35 #[.int .u64 0] w w0 0 false := by rw [hw0, hr, hq]; exact St.start w b s 0 false h 35 #[.int .u64 0]
  have HS := Lib.hid hs
  have HST := Lib.hid st
  have HR := Lib.hid hr
  have HQ := Lib.hid hq
  have HW := Lib.hid hw0
  have hmf : ∀ (fn : Fn) (first cap : Array Value) (w : World), (Instr.makeFunc fn first cap).run Try.prog w = .ok (.func fn first cap) w := fun _ _ _ _ => rfl
  clear h hr hq hw0 st h0 hs hg
  go_enter_defers Try.func37, Try.ntmps37
  go_wp2_with fail
  rw [← HW.out, ← HQ.out, ← HR.out]
  refine (answer (LeftC_any b s 0 false w0 HS.out (Nat.zero_le _) HST.out.cur) (congrArg (Value.int .i64) HL.out)).mono ?_
  rintro e W1 ⟨rfl, n1, rfl⟩
  have HST1 := Lib.hid (HST.out.drewN n1)
  go_wp2_with fail
  rw [HV.out]
  exact doorS_panic r q 4 _ _ _ (by kernel_rfl) (by kernel_rfl) HST1.out.ret HST1.out.err HST1.out.ne ⟨rfl, HST1.out.setE _⟩
set_option maxHeartbeats 1000000 in
set_option maxRecDepth 100000 in
theorem decS_kind (b g : Nat) (s : ByteArray) (w : World) (hs : s.size ≤ 9223372036854775807) (h : Cur w b s 0 false) (hg : Blk w g 67 #[.pointer (some ⟨b, 0, none⟩)]) (h0 : s.size ≠ 0) (hk : byteAt s 0 / 16 ≠ 7) :
    Calls Try.prog 37 #[.pointer (some ⟨b, 0, none⟩), .int .u8 7, (.func (.func 38) #[] #[.pointer (some ⟨g, 0, none⟩)])] w fun e w' => e = .returned (decSV s) ∧ w.grownBy w' (some b) := by
  have HV := Lib.hid (show decSV s = .tuple #[.agg #[.int .u64 0], .int .i64 7] from decSV_no s 7 (wrong_7 _ _ s h0 hk) (by decide))
  obtain ⟨m, hm⟩ : ∃ m, m = s.size := ⟨_, rfl⟩
  have HL := Lib.hid (show leftO s 0 false = (m : Int) by unfold leftO; rw [if_neg (by decide), hm]; omega)
  have hm0 : ¬ (m : Int) = 0 := by omega
  obtain ⟨c, hc⟩ : ∃ c, c = byteAt s 0 := ⟨_, rfl⟩
  have hc2 : c < 256 := by rw [hc]; exact byteAt_lt s 0
  have H1 := Lib.hid (fun w1 (h1 : Cur w1 b s 0 false) => U8_first b s w1 hs h0 h1)
  rw [← hc] at H1
  obtain ⟨r, hr⟩ : ∃ r, r = w.heap.size := ⟨_, rfl⟩
  obtain ⟨q, hq⟩ : ∃ q, q = w.heap.size + 1 := ⟨_, rfl⟩
  obtain ⟨w0, hw0⟩ : ∃ w0, w0 = (w.alloc (.cells #[.int .u64 0] 35)).alloc (.cells #[.int .i64 0] 27) := ⟨_, rfl⟩
  have st : St b s r q 35 #[.int .u64 0] w w0 0 false := by rw [hw0, hr, hq]; exact St.start w b s 0 false h 35 #[.int .u64 0]
  have HS := Lib.hid hs
  have HST := Lib.hid st
  have HR := Lib.hid hr
  have HQ := Lib.hid hq
  have HW := Lib.hid hw0
  have hmf : ∀ (fn : Fn) (first cap : Array Value) (w : World), (Instr.makeFunc fn first cap).run Try.prog w = .ok (.func fn first cap) w := fun _ _ _ _ => rfl
  have hq7 : ¬ (c : Int) / 16 % 256 = 7 := by rw [← hc] at hk; omega
  clear h hr hq hw0 st h0 hs hm hc hk hc2 hg
  go_enter_defers Try.func37, Try.ntmps37
  go_wp2_with fail
  rw [← HW.out, ← HQ.out, ← HR.out]
  refine (answer (LeftC_any b s 0 false w0 HS.out (Nat.zero_le _) HST.out.cur) (congrArg (Value.int .i64) HL.out)).mono ?_
  rintro e W1 ⟨rfl, n1, rfl⟩
  have HST1 := Lib.hid (HST.out.drewN n1)
  go_wp2_with fail
  refine (H1.out _ HST1.out.cur).mono ?_
  rintro e W2 ⟨rfl, m2⟩
  have HST2 := Lib.hid (HST1.out.moved m2)
  clear m2
  go_wp2_with fail
  rw [HV.out]
  exact doorS_panic r q 7 _ _ _ (by kernel_rfl) (by kernel_rfl) HST2.out.ret HST2.out.err HST2.out.ne ⟨rfl, HST2.out.setE _⟩
set_option maxHeartbeats 1000000 in
set_option maxRecDepth 100000 in
theorem decS_bad (b g : Nat) (s : ByteArray) (w : World) (hs : s.size ≤ 9223372036854775807) (h : Cur w b s 0 false) (hg : Blk w g 67 #[.pointer (some ⟨b, 0, none⟩)]) (h0 : s.size ≠ 0) (hk : byteAt s 0 / 16 = 7) (hz : fit 10 s.size ≠ 0) :
    Calls Try.prog 37 #[.pointer (some ⟨b, 0, none⟩), .int .u8 7, (.func (.func 38) #[] #[.pointer (some ⟨g, 0, none⟩)])] w fun e w' => e = .returned (decSV s) ∧ w.grownBy w' (some b) := by
  obtain ⟨z, hzz⟩ : ∃ z, z = fit 10 s.size := ⟨_, rfl⟩
  have HV := Lib.hid (show decSV s = .tuple #[.agg #[.int .u64 0], .int .i64 z] from decSV_no s z ((wrong_in _ _ s h0 hk).trans hzz.symm) (by rw [hzz]; exact hz))
  have hz0 : ¬ z = 0 := by rw [hzz]; exact hz
  obtain ⟨m, hm⟩ : ∃ m, m = s.size := ⟨_, rfl⟩
  have HL := Lib.hid (show leftO s 0 false = (m : Int) by unfold leftO; rw [if_neg (by decide), hm]; omega)
  have hm0 : ¬ (m : Int) = 0 := by omega
  obtain ⟨c, hc⟩ : ∃ c, c = byteAt s 0 := ⟨_, rfl⟩
  have hc2 : c < 256 := by rw [hc]; exact byteAt_lt s 0
  have H1 := Lib.hid (fun w1 (h1 : Cur w1 b s 0 false) => U8_first b s w1 hs h0 h1)
  rw [← hc] at H1
  obtain ⟨r, hr⟩ : ∃ r, r = w.heap.size := ⟨_, rfl⟩
  obtain ⟨q, hq⟩ : ∃ q, q = w.heap.size + 1 := ⟨_, rfl⟩
  obtain ⟨w0, hw0⟩ : ∃ w0, w0 = (w.alloc (.cells #[.int .u64 0] 35)).alloc (.cells #[.int .i64 0] 27) := ⟨_, rfl⟩
  have st : St b s r q 35 #[.int .u64 0] w w0 0 false := by rw [hw0, hr, hq]; exact St.start w b s 0 false h 35 #[.int .u64 0]
  have HS := Lib.hid hs
  have HST := Lib.hid st
  have HR := Lib.hid hr
  have HQ := Lib.hid hq
  have HW := Lib.hid hw0
  have hmf : ∀ (fn : Fn) (first cap : Array Value) (w : World), (Instr.makeFunc fn first cap).run Try.prog w = .ok (.func fn first cap) w := fun _ _ _ _ => rfl
  have hq7 : (c : Int) / 16 % 256 = 7 := by rw [← hc] at hk; omega
  have HC := Lib.hid hc
  have HC2 := Lib.hid hc2
  have H0 := Lib.hid h0
  have HZ := Lib.hid hz
  have HZZ := Lib.hid hzz
  have HZ0 := Lib.hid hz0
  have HG0 := Lib.hid (show Blk w0 g 67 #[.pointer (some ⟨b, 0, none⟩)] by rw [hw0]; exact (hg.alloc _).alloc _)
  have HGB := Lib.hid (show g ≠ b from hg.ne_ h (by decide))
  clear h hr hq hw0 st h0 hs hm hc hk hz hzz hg
  go_enter_defers Try.func37, Try.ntmps37
  go_wp2_with fail
  rw [← HW.out, ← HQ.out, ← HR.out]
  refine (answer (LeftC_any b s 0 false w0 HS.out (Nat.zero_le _) HST.out.cur) (congrArg (Value.int .i64) HL.out)).mono ?_
  rintro e W1 ⟨rfl, n1, rfl⟩
  have HST1 := Lib.hid (HST.out.drewN n1)
  have HG1 := Lib.hid (Blk.drewN HG0.out n1)
  go_wp2_with fail
  refine (H1.out _ HST1.out.cur).mono ?_
  rintro e W2 ⟨rfl, m2⟩
  have HST2 := Lib.hid (HST1.out.moved m2)
  have HG2 := Lib.hid (show Blk W2 g 67 #[.pointer (some ⟨b, 0, none⟩)] from HG1.out.grown m2.1 (by intro e; injection e with e; exact HGB.out e))
  clear m2
  go_wp2_with fail
  refine (closS_any c g b s _ HS.out H0.out HST2.out.cur HG2.out).mono ?_
  rintro e W3 ⟨n, k, br, rfl, m3, hf, hn⟩
  have HST3 := Lib.hid (HST2.out.moved m3)
  clear m3
  have HF := Lib.hid hf
  have HN := Lib.hid hn
  clear hf hn
  obtain ⟨X, hX⟩ : ∃ X, X = W3.heap.size := ⟨_, rfl⟩
  obtain ⟨W4, hW4⟩ : ∃ W4, W4 = W3.alloc (.cells (nuv n) 35) := ⟨_, rfl⟩
  have HST4 := Lib.hid (show St b s r q 35 #[.int .u64 0] w W4 k br by rw [hW4]; exact HST3.out.alloc _)
  have HX4 := Lib.hid (show Blk W4 X 35 (nuv n) by rw [hW4, hX]; exact Blk.new _ _ _)
  have HXX := Lib.hid hX
  have HW4 := Lib.hid hW4
  clear hX hW4
  go_wp2_with fail
  rw [← HW4.out, ← HXX.out]
  refine (answer (End_any b s k br W4 HS.out HF.out.1 HST4.out.cur) (congrArg (Value.int .i64) (HF.out.2.trans HZZ.out.symm))).mono ?_
  rintro e W5 ⟨rfl, n5, rfl⟩
  have HST5 := Lib.hid (HST4.out.drewN n5)
  have HX5 := Lib.hid (HX4.out.drewN n5)
  go_wp2_with fail
  rw [HV.out]
  exact doorS_panic r q z _ _ _ (by kernel_rfl) (by kernel_rfl) HST5.out.ret HST5.out.err HST5.out.ne ⟨rfl, HST5.out.setE _⟩
set_option maxHeartbeats 1000000 in
set_option maxRecDepth 100000 in
theorem decS_ok (b g : Nat) (s : ByteArray) (w : World) (hs : s.size ≤ 9223372036854775807) (h : Cur w b s 0 false) (hg : Blk w g 67 #[.pointer (some ⟨b, 0, none⟩)]) (h0 : s.size ≠ 0) (hk : byteAt s 0 / 16 = 7) (hz : fit 10 s.size = 0) :
    Calls Try.prog 37 #[.pointer (some ⟨b, 0, none⟩), .int .u8 7, (.func (.func 38) #[] #[.pointer (some ⟨g, 0, none⟩)])] w fun e w' => e = .returned (decSV s) ∧ w.grownBy w' (some b) := by
  obtain ⟨z, hzz⟩ : ∃ z, z = fit 10 s.size := ⟨_, rfl⟩
  have HV := Lib.hid (show decSV s = .tuple #[.agg (nuv (num s 2 8)), .int .i64 0] from decSV_ok s ((wrong_in _ _ s h0 hk).trans hz))
  have hz0 : z = 0 := by rw [hzz]; exact hz
  obtain ⟨m, hm⟩ : ∃ m, m = s.size := ⟨_, rfl⟩
  have HL := Lib.hid (show leftO s 0 false = (m : Int) by unfold leftO; rw [if_neg (by decide), hm]; omega)
  have hm0 : ¬ (m : Int) = 0 := by omega
  obtain ⟨c, hc⟩ : ∃ c, c = byteAt s 0 := ⟨_, rfl⟩
  have hc2 : c < 256 := by rw [hc]; exact byteAt_lt s 0
  have H1 := Lib.hid (fun w1 (h1 : Cur w1 b s 0 false) => U8_first b s w1 hs h0 h1)
  rw [← hc] at H1
  obtain ⟨r, hr⟩ : ∃ r, r = w.heap.size := ⟨_, rfl⟩
  obtain ⟨q, hq⟩ : ∃ q, q = w.heap.size + 1 := ⟨_, rfl⟩
  obtain ⟨w0, hw0⟩ : ∃ w0, w0 = (w.alloc (.cells #[.int .u64 0] 35)).alloc (.cells #[.int .i64 0] 27) := ⟨_, rfl⟩
  have st : St b s r q 35 #[.int .u64 0] w w0 0 false := by rw [hw0, hr, hq]; exact St.start w b s 0 false h 35 #[.int .u64 0]
  have HS := Lib.hid hs
  have HST := Lib.hid st
  have HR := Lib.hid hr
  have HQ := Lib.hid hq
  have HW := Lib.hid hw0
  have hmf : ∀ (fn : Fn) (first cap : Array Value) (w : World), (Instr.makeFunc fn first cap).run Try.prog w = .ok (.func fn first cap) w := fun _ _ _ _ => rfl
  have hq7 : (c : Int) / 16 % 256 = 7 := by rw [← hc] at hk; omega
  have HC := Lib.hid hc
  have HC2 := Lib.hid hc2
  have H0 := Lib.hid h0
  have HZ := Lib.hid hz
  have HZZ := Lib.hid hzz
  have HZ0 := Lib.hid hz0
  have HG0 := Lib.hid (show Blk w0 g 67 #[.pointer (some ⟨b, 0, none⟩)] by rw [hw0]; exact (hg.alloc _).alloc _)
  have HGB := Lib.hid (show g ≠ b from hg.ne_ h (by decide))
  clear h hr hq hw0 st h0 hs hm hc hk hz hzz hg
  go_enter_defers Try.func37, Try.ntmps37
  go_wp2_with fail
  rw [← HW.out, ← HQ.out, ← HR.out]
  refine (answer (LeftC_any b s 0 false w0 HS.out (Nat.zero_le _) HST.out.cur) (congrArg (Value.int .i64) HL.out)).mono ?_
  rintro e W1 ⟨rfl, n1, rfl⟩
  have HST1 := Lib.hid (HST.out.drewN n1)
  have HG1 := Lib.hid (Blk.drewN HG0.out n1)
  go_wp2_with fail
  refine (H1.out _ HST1.out.cur).mono ?_
  rintro e W2 ⟨rfl, m2⟩
  have HST2 := Lib.hid (HST1.out.moved m2)
  have HG2 := Lib.hid (show Blk W2 g 67 #[.pointer (some ⟨b, 0, none⟩)] from HG1.out.grown m2.1 (by intro e; injection e with e; exact HGB.out e))
  clear m2
  go_wp2_with fail
  refine (closS_any c g b s _ HS.out H0.out HST2.out.cur HG2.out).mono ?_
  rintro e W3 ⟨n, k, br, rfl, m3, hf, hn⟩
  have HST3 := Lib.hid (HST2.out.moved m3)
  clear m3
  have HF := Lib.hid hf
  have HN := Lib.hid hn
  clear hf hn
  obtain ⟨X, hX⟩ : ∃ X, X = W3.heap.size := ⟨_, rfl⟩
  obtain ⟨W4, hW4⟩ : ∃ W4, W4 = W3.alloc (.cells (nuv n) 35) := ⟨_, rfl⟩
  have HST4 := Lib.hid (show St b s r q 35 #[.int .u64 0] w W4 k br by rw [hW4]; exact HST3.out.alloc _)
  have HX4 := Lib.hid (show Blk W4 X 35 (nuv n) by rw [hW4, hX]; exact Blk.new _ _ _)
  have HXX := Lib.hid hX
  have HW4 := Lib.hid hW4
  clear hX hW4
  go_wp2_with fail
  rw [← HW4.out, ← HXX.out]
  refine (answer (End_any b s k br W4 HS.out HF.out.1 HST4.out.cur) (congrArg (Value.int .i64) (HF.out.2.trans HZZ.out.symm))).mono ?_
  rintro e W5 ⟨rfl, n5, rfl⟩
  have HST5 := Lib.hid (HST4.out.drewN n5)
  have HX5 := Lib.hid (HX4.out.drewN n5)
  have st6 := HST5.out.setR (nuv n)
  have HST6 := Lib.hid st6
  have c0 := st6.err.cell 0
  have f0 := st6.err.frozen 0
  simp only [List.getElem?_toArray, List.getElem?_cons_zero] at c0
  clear st6
  go_wp2_with (first | (refine wpList_load_row rfl 35 _ rfl X rfl 35 (nuv n) (0, 0) _ ?_ Try.underlying35 rfl fs_size ?_; exact HX5.out) | (refine wpList_store_row rfl 35 _ _ rfl r (nuv n) rfl rfl 35 #[.int .u64 0] ?_ fs_size rfl (nu_one _) ?_; exact HST5.out.ret))
  refine doorS_ret r q 0 (nuv n) fs_size _ _ _ (by kernel_rfl) (by kernel_rfl) (HST6.out.ret.same (Below.heap_setCell _ ⟨q, 0, none⟩ _ r HST6.out.ne)) (HST6.out.err.set_ 0 (.int .i64 0)) ⟨?_, HST6.out.setE _⟩
  rw [HV.out]
  rw [HN.out HZ.out]
theorem decS_any (b : Nat) (g : Nat) (s : ByteArray) (w : World) (hs : s.size ≤ 9223372036854775807) (h : Cur w b s 0 false) (hg : Blk w g 67 #[.pointer (some ⟨b, 0, none⟩)]) :
    Calls Try.prog 37 #[.pointer (some ⟨b, 0, none⟩), .int .u8 7, (.func (.func 38) #[] #[.pointer (some ⟨g, 0, none⟩)])] w fun e w' => e = .returned (decSV s) ∧ w.grownBy w' (some b) := by
  by_cases h0 : s.size = 0
  · exact decS_none b g s w hs h hg h0
  by_cases hk : byteAt s 0 / 16 = 7
  · by_cases hz : fit 10 s.size = 0
    · exact decS_ok b g s w hs h hg h0 hk hz
    · exact decS_bad b g s w hs h hg h0 hk hz
  · exact decS_kind b g s w hs h hg h0 hk
set_option maxHeartbeats 1000000 in
set_option maxRecDepth 100000 in
theorem DecodeFast_any (s : ByteArray) (hs : s.size ≤ 9223372036854775807) (w : World) :
    Calls Try.prog 20 #[.string s] w fun e w' => e = .returned (decSV s) ∧ Below w.heap.size w w' := by
  obtain ⟨N, hN⟩ : ∃ N, N = decN 7 s := ⟨_, rfl⟩
  obtain ⟨z, hz⟩ : ∃ z, z = wrong 7 10 s := ⟨_, rfl⟩
  have HV := Lib.hid (show decSV s = .tuple #[.agg (nuv N), .int .i64 z] by rw [hN, hz]; rfl)
  obtain ⟨r, hr⟩ : ∃ r, r = w.heap.size := ⟨_, rfl⟩
  obtain ⟨w0, hw0⟩ : ∃ w0, w0 = w.alloc (.cells #[.int .u64 0] 35) := ⟨_, rfl⟩
  have HZ0 := Lib.hid (show Blk w0 r 35 #[.int .u64 0] by rw [hw0, hr]; exact Blk.new _ _ _)
  have HB0 := Lib.hid (show Below w.heap.size w w0 by rw [hw0]; exact (Below.refl _ w).alloc (Nat.le_refl _) _)
  have HS := Lib.hid hs
  have HR := Lib.hid hr
  have HW := Lib.hid hw0
  have hmf : ∀ (fn : Fn) (first cap : Array Value) (w : World), (Instr.makeFunc fn first cap).run Try.prog w = .ok (.func fn first cap) w := fun _ _ _ _ => rfl
  clear hs hN hz hr hw0
  go_enter Try.func20, Try.ntmps20
  go_wp2_with fail
  rw [← HW.out, ← HR.out]
  refine (Read_new s w0).mono ?_
  rintro e w1 ⟨b, rfl, hb, b1, hc⟩
  have HC1 := Lib.hid hc
  have HBL := Lib.hid (show w.heap.size ≤ b from Nat.le_trans HB0.out.size hb)
  have HRB := Lib.hid (show r ≠ b from Nat.ne_of_lt (Nat.lt_of_lt_of_le HZ0.out.lt hb))
  have HZ1 := Lib.hid (HZ0.out.below b1 HZ0.out.lt)
  have HB1 := Lib.hid (HB0.out.trans (b1.mono HB0.out.size))
  clear hc hb b1
  obtain ⟨g, hg⟩ : ∃ g, g = w1.heap.size := ⟨_, rfl⟩
  obtain ⟨w2, hw2⟩ : ∃ w2, w2 = w1.alloc (.cells #[.pointer (some ⟨b, 0, none⟩)] 67) := ⟨_, rfl⟩
  have HC2 := Lib.hid (show Cur w2 b s 0 false by rw [hw2]; exact Blk.alloc HC1.out _)
  have hg2 : Blk w2 g 67 #[.pointer (some ⟨b, 0, none⟩)] := by rw [hw2, hg]; exact Blk.new _ _ _
  have HG2 := Lib.hid hg2
  have HZ2 := Lib.hid (show Blk w2 r 35 #[.int .u64 0] by rw [hw2]; exact HZ1.out.alloc _)
  have HB2 := Lib.hid (show Below w.heap.size w w2 by rw [hw2]; exact HB1.out.alloc HB1.out.size _)
  have HG := Lib.hid hg
  have HW2 := Lib.hid hw2
  have c0 := hg2.cell 0
  simp only [List.getElem?_toArray, List.getElem?_cons_zero] at c0
  rw [hw2, hg] at c0
  clear hg hw2 hg2
  go_wp2_with fail
  rw [← HW2.out, ← HG.out]
  refine (decS_any b g s w2 HS.out HC2.out HG2.out).mono ?_
  rintro e W ⟨rfl, hgr⟩
  rw [HV.out]
  have HZ3 := Lib.hid (HZ2.out.grown hgr (by intro e; injection e with e; exact HRB.out e))
  have HB3 := Lib.hid (HB2.out.trans (below_of_only hgr HBL.out HB2.out.size))
  clear hgr c0
  go_wp2_with (refine wpList_store_row rfl 35 _ _ rfl r (nuv N) rfl rfl 35 #[.int .u64 0] ?_ fs_size rfl (nu_one _) ?_; exact HZ3.out)
  exact bodyPost_ret (results_row_tmp (p := 2) (t := 3) rfl _ _ r 35 (nuv N) (0, 0) _ (by kernel_rfl) (setRow_heap _ _ _ _ _ _ HZ3.out) Try.underlying35 rfl fs_size) rfl ⟨by rw [HV.out]; rfl, below_setRow HB3.out (by rw [HR.out]; exact Nat.le_refl _) _⟩
set_option maxRecDepth 100000 in
theorem catchR_in (p : Addr) (x z : Int) (older : List PanicEntry) (w : World) (hc : w.cell? p = some (.int .i64 x)) (hz : w.frozen? p = false) :
    CallsD Try.prog 59 #[.pointer (some p)] (.panicking ({ v := .iface 27 (.int .i64 z), recovered := false } :: older)) w fun e u' w' =>
      e = .returned (.tuple #[]) ∧ u' = .panicking ({ v := .iface 27 (.int .i64 z), recovered := true } :: older) ∧ w' = w.setCell p (.int .i64 z) := by
  refine callsD_S Try.func59 rfl ⟨#[.pointer (some p), undef, undef, undef, undef, undef, undef, undef, undef, undef], []⟩ (by kernel_rfl) fun c₀ cs hu => ?_
  have hr := recoverD_in (rest := cs) hu
  apply wpS_seq
  refine region_S [0, 1, 2, 3, 4, 5, 6] (by kernel_rfl) ?_
  refine opsS_recover 0 rfl (by kernel_rfl) (by kernel_rfl) hr ?_
  refine opsS_value 1 (.tuple #[.int .i64 z, .bool true]) rfl (by kernel_rfl) (ex_assert (.tmp 4) 20 27 true (by kernel_rfl) (v := .iface 27 (.int .i64 z)) (by kernel_rfl) (assert_errno _ _)) ?_
  refine opsS_value 2 (.tuple #[.int .i64 z, .bool true]) rfl (by kernel_rfl) (by kernel_rfl) ?_
  refine opsS_value 3 (.int .i64 z) rfl (by kernel_rfl) (by kernel_rfl) ?_
  refine opsS_value 4 (.bool true) rfl (by kernel_rfl) (by kernel_rfl) ?_
  refine opsS_value 5 (.int .i64 z) rfl (by kernel_rfl) (by kernel_rfl) ?_
  refine opsS_value 6 (.bool true) rfl (by kernel_rfl) (by kernel_rfl) ?_
  refine opsS_end ⟨#[.pointer (some p), .int .i64 z, .bool true, .tuple #[.int .i64 z, .bool true], .iface 27 (.int .i64 z), .tuple #[.int .i64 z, .bool true], .int .i64 z, .bool true, undef, undef], []⟩ (by kernel_rfl) ?_
  refine wpS_seq ?_
  refine region_S [0] (by kernel_rfl) ?_
  refine opsS_value 0 (.bool true) rfl (by kernel_rfl) (by kernel_rfl) ?_
  refine opsS_end ⟨#[.pointer (some p), .int .i64 z, .bool true, .tuple #[.int .i64 z, .bool true], .iface 27 (.int .i64 z), .tuple #[.int .i64 z, .bool true], .int .i64 z, .bool true, .bool true, undef], []⟩ (by kernel_rfl) ?_
  refine wpS_cond (t := true) (by kernel_rfl) ?_
  refine region_S [0, 1] (by kernel_rfl) ?_
  refine opsS_value 0 (.int .i64 z) rfl (by kernel_rfl) (by kernel_rfl) ?_
  refine opsS_skip 1 rfl (by kernel_rfl) (ex_store_cell 27 (.tmp 0) (.tmp 9) (by kernel_rfl) p (.int .i64 z) (by kernel_rfl) (by kernel_rfl) (errno_store w p x z hc hz)) ?_
  refine opsS_end ⟨#[.pointer (some p), .int .i64 z, .bool true, .tuple #[.int .i64 z, .bool true], .iface 27 (.int .i64 z), .tuple #[.int .i64 z, .bool true], .int .i64 z, .bool true, .bool true, .int .i64 z], []⟩ (by kernel_rfl) ?_
  exact ⟨rfl, _, rfl, _, by kernel_rfl, rfl, rfl, rfl⟩
set_option maxRecDepth 100000 in
theorem catchR_idle (p : Addr) (w : World) :
    CallsD Try.prog 59 #[.pointer (some p)] .returning w fun e u' w' => e = .returned (.tuple #[]) ∧ u' = .returning ∧ w' = w := by
  refine callsD_S Try.func59 rfl ⟨#[.pointer (some p), undef, undef, undef, undef, undef, undef, undef, undef, undef], []⟩ (by kernel_rfl) fun c₀ cs hu => ?_
  have hr := recoverD_idle (rest := cs) hu
  apply wpS_seq
  refine region_S [0, 1, 2, 3, 4, 5, 6] (by kernel_rfl) ?_
  refine opsS_idle 0 rfl (by kernel_rfl) (by kernel_rfl) hr ?_
  refine opsS_value 1 (.tuple #[.int .i64 0, .bool false]) rfl (by kernel_rfl) (ex_assert (.tmp 4) 20 27 true (by kernel_rfl) (v := .nilIface) (by kernel_rfl) (assert_none _)) ?_
  refine opsS_value 2 (.tuple #[.int .i64 0, .bool false]) rfl (by kernel_rfl) (by kernel_rfl) ?_
  refine opsS_value 3 (.int .i64 0) rfl (by kernel_rfl) (by kernel_rfl) ?_
  refine opsS_value 4 (.bool false) rfl (by kernel_rfl) (by kernel_rfl) ?_
  refine opsS_value 5 (.int .i64 0) rfl (by kernel_rfl) (by kernel_rfl) ?_
  refine opsS_value 6 (.bool false) rfl (by kernel_rfl) (by kernel_rfl) ?_
  refine opsS_end ⟨#[.pointer (some p), .int .i64 0, .bool false, .tuple #[.int .i64 0, .bool false], .nilIface, .tuple #[.int .i64 0, .bool false], .int .i64 0, .bool false, undef, undef], []⟩ (by kernel_rfl) ?_
  refine wpS_seq ?_
  refine region_S [0] (by kernel_rfl) ?_
  refine opsS_value 0 (.bool false) rfl (by kernel_rfl) (by kernel_rfl) ?_
  refine opsS_end ⟨#[.pointer (some p), .int .i64 0, .bool false, .tuple #[.int .i64 0, .bool false], .nilIface, .tuple #[.int .i64 0, .bool false], .int .i64 0, .bool false, .bool false, undef], []⟩ (by kernel_rfl) ?_
  refine wpS_cond (t := false) (by kernel_rfl) ?_
  refine wpS_of_wp (wp_skip ?_)
  refine ⟨rfl, .returning, ?_, _, by kernel_rfl, rfl, rfl, rfl⟩
  cases c₀
  simp_all
/-- What 'DecodeRst' answers. -/
def decRV (s : ByteArray) : Value := .tuple #[.agg (rsv (decF s : Int) (decR s : Int)), .int .i64 (wrong 8 2 s)]
theorem decRV_no (s : ByteArray) (z : Int) (hz : wrong 8 2 s = z) (h0 : z ≠ 0) : decRV s = .tuple #[.agg (rsv 0 0), .int .i64 z] := by
  have h : ¬ wrong 8 2 s = 0 := by rw [hz]; exact h0
  unfold decRV
  rw [hz]
  unfold decF decR
  rw [if_neg h, if_neg h]
  try rfl
theorem decRV_ok (s : ByteArray) (h : wrong 8 2 s = 0) : decRV s = .tuple #[.agg (rsv ((byteAt s 0 % 16 : Nat) : Int) (byteAt s 1 : Int)), .int .i64 0] := by
  unfold decRV
  rw [h]
  unfold decF decR
  rw [if_pos h, if_pos h]
  try rfl
set_option maxRecDepth 100000 in
theorem doorR_panic (r q : Nat) (z : Int) (tmps : Array Value) (R : Ending → World → Prop) (W : World) (h6 : tmps.getD 6 undef = .pointer (some ⟨r, 0, none⟩)) (h7 : tmps.getD 7 undef = .pointer (some ⟨q, 0, none⟩)) (hr : Blk W r 26 (rsv 0 0)) (he : Blk W q 27 #[.int .i64 0]) (hne : r ≠ q) (hR : R (.returned (.tuple #[.agg (rsv 0 0), .int .i64 z])) (W.setCell ⟨q, 0, none⟩ (.int .i64 z))) :
    bodyPostD Try.prog Try.f39 R (Exit.panic [{ v := .iface 27 (.int .i64 z), recovered := false }]) ⟨tmps, [{ target := .fn (.func 59) #[.pointer (some ⟨q, 0, none⟩)], args := #[] }]⟩ W := by
  have c0 := he.cell 0
  simp only [List.getElem?_toArray, List.getElem?_cons_zero] at c0
  show Leaves Try.prog Try.f39 tmps R _ _ W
  refine leaves_cons (f := 59) (args := #[.pointer (some ⟨q, 0, none⟩)]) (by simp) (by simp [go_sem]) ?_
  refine (catchR_in ⟨q, 0, none⟩ 0 z [] W c0 (he.frozen 0)).mono ?_
  rintro e u' w'' ⟨rfl, rfl, rfl⟩
  have hq := (he.set_ 0 (.int .i64 z)).cell 0
  have hr2 : Blk (W.setCell ⟨q, 0, none⟩ (.int .i64 z)) r 26 (rsv 0 0) := hr.same (Below.heap_setCell W ⟨q, 0, none⟩ _ r hne)
  exact ⟨_, results_row_cell rfl tmps _ r 26 (rsv 0 0) (0, 0) _ h6 hr2 Try.underlying26 rfl rs_size q (.int .i64 z) h7 (errno_load _ _ z hq), hR⟩
set_option maxRecDepth 100000 in
theorem doorR_ret (r q : Nat) (z : Int) (cs : Array Value) (hcs : (Try.prog.info? 26).map (·.size) = some cs.size) (tmps : Array Value) (R : Ending → World → Prop) (W : World) (h6 : tmps.getD 6 undef = .pointer (some ⟨r, 0, none⟩)) (h7 : tmps.getD 7 undef = .pointer (some ⟨q, 0, none⟩)) (hr : Blk W r 26 cs) (he : Blk W q 27 #[.int .i64 z]) (hR : R (.returned (.tuple #[.agg cs, .int .i64 z])) W) :
    bodyPostD Try.prog Try.f39 R Exit.ret ⟨tmps, [{ target := .fn (.func 59) #[.pointer (some ⟨q, 0, none⟩)], args := #[] }]⟩ W := by
  have c0 := he.cell 0
  simp only [List.getElem?_toArray, List.getElem?_cons_zero] at c0
  show Leaves Try.prog Try.f39 tmps R _ _ W
  refine leaves_cons (f := 59) (args := #[.pointer (some ⟨q, 0, none⟩)]) (by simp) (by simp [go_sem]) ?_
  refine (catchR_idle ⟨q, 0, none⟩ W).mono ?_
  rintro e u' w'' ⟨rfl, rfl, rfl⟩
  exact ⟨_, results_row_cell rfl tmps _ r 26 cs (0, 0) _ h6 hr Try.underlying26 rfl hcs q (.int .i64 z) h7 (errno_load _ _ z c0), hR⟩
set_option maxHeartbeats 1000000 in
set_option maxRecDepth 100000 in
theorem decR_none (b g : Nat) (s : ByteArray) (w : World) (hs : s.size ≤ 9223372036854775807) (h : Cur w b s 0 false) (hg : Blk w g 67 #[.pointer (some ⟨b, 0, none⟩)]) (h0 : s.size = 0) :
    Calls Try.prog 39 #[.pointer (some ⟨b, 0, none⟩), .int .u8 8, (.func (.func 40) #[] #[.pointer (some ⟨g, 0, none⟩)])] w fun e w' => e = .returned (decRV s) ∧ w.grownBy w' (some b) := by
  have HV := Lib.hid (show decRV s = .tuple #[.agg (rsv 0 0), .int .i64 4] from decRV_no s 4 (wrong_0 _ _ s h0) (by decide))
  have HL := Lib.hid (show leftO s 0 false = 0 by unfold leftO; rw [if_neg (by decide), h0]; rfl)
  obtain ⟨r, hr⟩ : ∃ r, r = w.heap.size := ⟨_, rfl⟩
  obtain ⟨q, hq⟩ : ∃ q, q = w.heap.size + 1 := ⟨_, rfl⟩
  obtain ⟨w0, hw0⟩ : ∃ w0, w0 = (w.alloc (.cells (rsv 0 0) 26)).alloc (.cells #[.int .i64 0] 27) := ⟨_, rfl⟩
  have st : St b s r q 26 (rsv 0 0) w w0 0 false := by rw [hw0, hr, hq]; exact St.start w b s 0 false h 26 (rsv 0 0)
  have HS := Lib.hid hs
  have HST := Lib.hid st
  have HR := Lib.hid hr
  have HQ := Lib.hid hq
  have HW := Lib.hid hw0
  have hmf : ∀ (fn : Fn) (first cap : Array Value) (w : World), (Instr.makeFunc fn first cap).run Try.prog w = .ok (.func fn first cap) w := fun _ _ _ _ => rfl
  clear h hr hq hw0 st h0 hs hg
  go_enter_defers Try.func39, Try.ntmps39
  go_wp2_with fail
  rw [← HW.out, ← HQ.out, ← HR.out]
  refine (answer (LeftC_any b s 0 false w0 HS.out (Nat.zero_le _) HST.out.cur) (congrArg (Value.int .i64) HL.out)).mono ?_
  rintro e W1 ⟨rfl, n1, rfl⟩
  have HST1 := Lib.hid (HST.out.drewN n1)
  go_wp2_with fail
  rw [HV.out]
  exact doorR_panic r q 4 _ _ _ (by kernel_rfl) (by kernel_rfl) HST1.out.ret HST1.out.err HST1.out.ne ⟨rfl, HST1.out.setE _⟩
set_option maxHeartbeats 1000000 in
set_option maxRecDepth 100000 in
theorem decR_kind (b g : Nat) (s : ByteArray) (w : World) (hs : s.size ≤ 9223372036854775807) (h : Cur w b s 0 false) (hg : Blk w g 67 #[.pointer (some ⟨b, 0, none⟩)]) (h0 : s.size ≠ 0) (hk : byteAt s 0 / 16 ≠ 8) :
    Calls Try.prog 39 #[.pointer (some ⟨b, 0, none⟩), .int .u8 8, (.func (.func 40) #[] #[.pointer (some ⟨g, 0, none⟩)])] w fun e w' => e = .returned (decRV s) ∧ w.grownBy w' (some b) := by
  have HV := Lib.hid (show decRV s = .tuple #[.agg (rsv 0 0), .int .i64 7] from decRV_no s 7 (wrong_7 _ _ s h0 hk) (by decide))
  obtain ⟨m, hm⟩ : ∃ m, m = s.size := ⟨_, rfl⟩
  have HL := Lib.hid (show leftO s 0 false = (m : Int) by unfold leftO; rw [if_neg (by decide), hm]; omega)
  have hm0 : ¬ (m : Int) = 0 := by omega
  obtain ⟨c, hc⟩ : ∃ c, c = byteAt s 0 := ⟨_, rfl⟩
  have hc2 : c < 256 := by rw [hc]; exact byteAt_lt s 0
  have H1 := Lib.hid (fun w1 (h1 : Cur w1 b s 0 false) => U8_first b s w1 hs h0 h1)
  rw [← hc] at H1
  obtain ⟨r, hr⟩ : ∃ r, r = w.heap.size := ⟨_, rfl⟩
  obtain ⟨q, hq⟩ : ∃ q, q = w.heap.size + 1 := ⟨_, rfl⟩
  obtain ⟨w0, hw0⟩ : ∃ w0, w0 = (w.alloc (.cells (rsv 0 0) 26)).alloc (.cells #[.int .i64 0] 27) := ⟨_, rfl⟩
  have st : St b s r q 26 (rsv 0 0) w w0 0 false := by rw [hw0, hr, hq]; exact St.start w b s 0 false h 26 (rsv 0 0)
  have HS := Lib.hid hs
  have HST := Lib.hid st
  have HR := Lib.hid hr
  have HQ := Lib.hid hq
  have HW := Lib.hid hw0
  have hmf : ∀ (fn : Fn) (first cap : Array Value) (w : World), (Instr.makeFunc fn first cap).run Try.prog w = .ok (.func fn first cap) w := fun _ _ _ _ => rfl
  have hq7 : ¬ (c : Int) / 16 % 256 = 8 := by rw [← hc] at hk; omega
  clear h hr hq hw0 st h0 hs hm hc hk hc2 hg
  go_enter_defers Try.func39, Try.ntmps39
  go_wp2_with fail
  rw [← HW.out, ← HQ.out, ← HR.out]
  refine (answer (LeftC_any b s 0 false w0 HS.out (Nat.zero_le _) HST.out.cur) (congrArg (Value.int .i64) HL.out)).mono ?_
  rintro e W1 ⟨rfl, n1, rfl⟩
  have HST1 := Lib.hid (HST.out.drewN n1)
  go_wp2_with fail
  refine (H1.out _ HST1.out.cur).mono ?_
  rintro e W2 ⟨rfl, m2⟩
  have HST2 := Lib.hid (HST1.out.moved m2)
  clear m2
  go_wp2_with fail
  rw [HV.out]
  exact doorR_panic r q 7 _ _ _ (by kernel_rfl) (by kernel_rfl) HST2.out.ret HST2.out.err HST2.out.ne ⟨rfl, HST2.out.setE _⟩
set_option maxHeartbeats 1000000 in
set_option maxRecDepth 100000 in
theorem decR_bad (b g : Nat) (s : ByteArray) (w : World) (hs : s.size ≤ 9223372036854775807) (h : Cur w b s 0 false) (hg : Blk w g 67 #[.pointer (some ⟨b, 0, none⟩)]) (h0 : s.size ≠ 0) (hk : byteAt s 0 / 16 = 8) (hz : fit 2 s.size ≠ 0) :
    Calls Try.prog 39 #[.pointer (some ⟨b, 0, none⟩), .int .u8 8, (.func (.func 40) #[] #[.pointer (some ⟨g, 0, none⟩)])] w fun e w' => e = .returned (decRV s) ∧ w.grownBy w' (some b) := by
  obtain ⟨z, hzz⟩ : ∃ z, z = fit 2 s.size := ⟨_, rfl⟩
  have HV := Lib.hid (show decRV s = .tuple #[.agg (rsv 0 0), .int .i64 z] from decRV_no s z ((wrong_in _ _ s h0 hk).trans hzz.symm) (by rw [hzz]; exact hz))
  have hz0 : ¬ z = 0 := by rw [hzz]; exact hz
  obtain ⟨m, hm⟩ : ∃ m, m = s.size := ⟨_, rfl⟩
  have HL := Lib.hid (show leftO s 0 false = (m : Int) by unfold leftO; rw [if_neg (by decide), hm]; omega)
  have hm0 : ¬ (m : Int) = 0 := by omega
  obtain ⟨c, hc⟩ : ∃ c, c = byteAt s 0 := ⟨_, rfl⟩
  have hc2 : c < 256 := by rw [hc]; exact byteAt_lt s 0
  have H1 := Lib.hid (fun w1 (h1 : Cur w1 b s 0 false) => U8_first b s w1 hs h0 h1)
  rw [← hc] at H1
  obtain ⟨r, hr⟩ : ∃ r, r = w.heap.size := ⟨_, rfl⟩
  obtain ⟨q, hq⟩ : ∃ q, q = w.heap.size + 1 := ⟨_, rfl⟩
  obtain ⟨w0, hw0⟩ : ∃ w0, w0 = (w.alloc (.cells (rsv 0 0) 26)).alloc (.cells #[.int .i64 0] 27) := ⟨_, rfl⟩
  have st : St b s r q 26 (rsv 0 0) w w0 0 false := by rw [hw0, hr, hq]; exact St.start w b s 0 false h 26 (rsv 0 0)
  have HS := Lib.hid hs
  have HST := Lib.hid st
  have HR := Lib.hid hr
  have HQ := Lib.hid hq
  have HW := Lib.hid hw0
  have hmf : ∀ (fn : Fn) (first cap : Array Value) (w : World), (Instr.makeFunc fn first cap).run Try.prog w = .ok (.func fn first cap) w := fun _ _ _ _ => rfl
  have hq7 : (c : Int) / 16 % 256 = 8 := by rw [← hc] at hk; omega
  have HC := Lib.hid hc
  have HC2 := Lib.hid hc2
  have H0 := Lib.hid h0
  have HZ := Lib.hid hz
  have HZZ := Lib.hid hzz
  have HZ0 := Lib.hid hz0
  have HG0 := Lib.hid (show Blk w0 g 67 #[.pointer (some ⟨b, 0, none⟩)] by rw [hw0]; exact (hg.alloc _).alloc _)
  have HGB := Lib.hid (show g ≠ b from hg.ne_ h (by decide))
  clear h hr hq hw0 st h0 hs hm hc hk hz hzz hg
  go_enter_defers Try.func39, Try.ntmps39
  go_wp2_with fail
  rw [← HW.out, ← HQ.out, ← HR.out]
  refine (answer (LeftC_any b s 0 false w0 HS.out (Nat.zero_le _) HST.out.cur) (congrArg (Value.int .i64) HL.out)).mono ?_
  rintro e W1 ⟨rfl, n1, rfl⟩
  have HST1 := Lib.hid (HST.out.drewN n1)
  have HG1 := Lib.hid (Blk.drewN HG0.out n1)
  go_wp2_with fail
  refine (H1.out _ HST1.out.cur).mono ?_
  rintro e W2 ⟨rfl, m2⟩
  have HST2 := Lib.hid (HST1.out.moved m2)
  have HG2 := Lib.hid (show Blk W2 g 67 #[.pointer (some ⟨b, 0, none⟩)] from HG1.out.grown m2.1 (by intro e; injection e with e; exact HGB.out e))
  clear m2
  go_wp2_with fail
  refine (closR_any c g b s _ HC2.out HS.out H0.out HST2.out.cur HG2.out).mono ?_
  rintro e W3 ⟨f, n, k, br, rfl, m3, hf, hn⟩
  have HST3 := Lib.hid (HST2.out.moved m3)
  clear m3
  have HF := Lib.hid hf
  have HN := Lib.hid hn
  clear hf hn
  obtain ⟨X, hX⟩ : ∃ X, X = W3.heap.size := ⟨_, rfl⟩
  obtain ⟨W4, hW4⟩ : ∃ W4, W4 = W3.alloc (.cells (rsv (f : Int) (n : Int)) 26) := ⟨_, rfl⟩
  have HST4 := Lib.hid (show St b s r q 26 (rsv 0 0) w W4 k br by rw [hW4]; exact HST3.out.alloc _)
  have HX4 := Lib.hid (show Blk W4 X 26 (rsv (f : Int) (n : Int)) by rw [hW4, hX]; exact Blk.new _ _ _)
  have HXX := Lib.hid hX
  have HW4 := Lib.hid hW4
  clear hX hW4
  go_wp2_with fail
  rw [← HW4.out, ← HXX.out]
  refine (answer (End_any b s k br W4 HS.out HF.out.1 HST4.out.cur) (congrArg (Value.int .i64) (HF.out.2.trans HZZ.out.symm))).mono ?_
  rintro e W5 ⟨rfl, n5, rfl⟩
  have HST5 := Lib.hid (HST4.out.drewN n5)
  have HX5 := Lib.hid (HX4.out.drewN n5)
  go_wp2_with fail
  rw [HV.out]
  exact doorR_panic r q z _ _ _ (by kernel_rfl) (by kernel_rfl) HST5.out.ret HST5.out.err HST5.out.ne ⟨rfl, HST5.out.setE _⟩
set_option maxHeartbeats 1000000 in
set_option maxRecDepth 100000 in
theorem decR_ok (b g : Nat) (s : ByteArray) (w : World) (hs : s.size ≤ 9223372036854775807) (h : Cur w b s 0 false) (hg : Blk w g 67 #[.pointer (some ⟨b, 0, none⟩)]) (h0 : s.size ≠ 0) (hk : byteAt s 0 / 16 = 8) (hz : fit 2 s.size = 0) :
    Calls Try.prog 39 #[.pointer (some ⟨b, 0, none⟩), .int .u8 8, (.func (.func 40) #[] #[.pointer (some ⟨g, 0, none⟩)])] w fun e w' => e = .returned (decRV s) ∧ w.grownBy w' (some b) := by
  obtain ⟨z, hzz⟩ : ∃ z, z = fit 2 s.size := ⟨_, rfl⟩
  have HV := Lib.hid (show decRV s = .tuple #[.agg (rsv ((byteAt s 0 % 16 : Nat) : Int) (byteAt s 1 : Int)), .int .i64 0] from decRV_ok s ((wrong_in _ _ s h0 hk).trans hz))
  have hz0 : z = 0 := by rw [hzz]; exact hz
  obtain ⟨m, hm⟩ : ∃ m, m = s.size := ⟨_, rfl⟩
  have HL := Lib.hid (show leftO s 0 false = (m : Int) by unfold leftO; rw [if_neg (by decide), hm]; omega)
  have hm0 : ¬ (m : Int) = 0 := by omega
  obtain ⟨c, hc⟩ : ∃ c, c = byteAt s 0 := ⟨_, rfl⟩
  have hc2 : c < 256 := by rw [hc]; exact byteAt_lt s 0
  have H1 := Lib.hid (fun w1 (h1 : Cur w1 b s 0 false) => U8_first b s w1 hs h0 h1)
  rw [← hc] at H1
  obtain ⟨r, hr⟩ : ∃ r, r = w.heap.size := ⟨_, rfl⟩
  obtain ⟨q, hq⟩ : ∃ q, q = w.heap.size + 1 := ⟨_, rfl⟩
  obtain ⟨w0, hw0⟩ : ∃ w0, w0 = (w.alloc (.cells (rsv 0 0) 26)).alloc (.cells #[.int .i64 0] 27) := ⟨_, rfl⟩
  have st : St b s r q 26 (rsv 0 0) w w0 0 false := by rw [hw0, hr, hq]; exact St.start w b s 0 false h 26 (rsv 0 0)
  have HS := Lib.hid hs
  have HST := Lib.hid st
  have HR := Lib.hid hr
  have HQ := Lib.hid hq
  have HW := Lib.hid hw0
  have hmf : ∀ (fn : Fn) (first cap : Array Value) (w : World), (Instr.makeFunc fn first cap).run Try.prog w = .ok (.func fn first cap) w := fun _ _ _ _ => rfl
  have hq7 : (c : Int) / 16 % 256 = 8 := by rw [← hc] at hk; omega
  have HC := Lib.hid hc
  have HC2 := Lib.hid hc2
  have H0 := Lib.hid h0
  have HZ := Lib.hid hz
  have HZZ := Lib.hid hzz
  have HZ0 := Lib.hid hz0
  have HG0 := Lib.hid (show Blk w0 g 67 #[.pointer (some ⟨b, 0, none⟩)] by rw [hw0]; exact (hg.alloc _).alloc _)
  have HGB := Lib.hid (show g ≠ b from hg.ne_ h (by decide))
  clear h hr hq hw0 st h0 hs hm hc hk hz hzz hg
  go_enter_defers Try.func39, Try.ntmps39
  go_wp2_with fail
  rw [← HW.out, ← HQ.out, ← HR.out]
  refine (answer (LeftC_any b s 0 false w0 HS.out (Nat.zero_le _) HST.out.cur) (congrArg (Value.int .i64) HL.out)).mono ?_
  rintro e W1 ⟨rfl, n1, rfl⟩
  have HST1 := Lib.hid (HST.out.drewN n1)
  have HG1 := Lib.hid (Blk.drewN HG0.out n1)
  go_wp2_with fail
  refine (H1.out _ HST1.out.cur).mono ?_
  rintro e W2 ⟨rfl, m2⟩
  have HST2 := Lib.hid (HST1.out.moved m2)
  have HG2 := Lib.hid (show Blk W2 g 67 #[.pointer (some ⟨b, 0, none⟩)] from HG1.out.grown m2.1 (by intro e; injection e with e; exact HGB.out e))
  clear m2
  go_wp2_with fail
  refine (closR_any c g b s _ HC2.out HS.out H0.out HST2.out.cur HG2.out).mono ?_
  rintro e W3 ⟨f, n, k, br, rfl, m3, hf, hn⟩
  have HST3 := Lib.hid (HST2.out.moved m3)
  clear m3
  have HF := Lib.hid hf
  have HN := Lib.hid hn
  clear hf hn
  obtain ⟨X, hX⟩ : ∃ X, X = W3.heap.size := ⟨_, rfl⟩
  obtain ⟨W4, hW4⟩ : ∃ W4, W4 = W3.alloc (.cells (rsv (f : Int) (n : Int)) 26) := ⟨_, rfl⟩
  have HST4 := Lib.hid (show St b s r q 26 (rsv 0 0) w W4 k br by rw [hW4]; exact HST3.out.alloc _)
  have HX4 := Lib.hid (show Blk W4 X 26 (rsv (f : Int) (n : Int)) by rw [hW4, hX]; exact Blk.new _ _ _)
  have HXX := Lib.hid hX
  have HW4 := Lib.hid hW4
  clear hX hW4
  go_wp2_with fail
  rw [← HW4.out, ← HXX.out]
  refine (answer (End_any b s k br W4 HS.out HF.out.1 HST4.out.cur) (congrArg (Value.int .i64) (HF.out.2.trans HZZ.out.symm))).mono ?_
  rintro e W5 ⟨rfl, n5, rfl⟩
  have HST5 := Lib.hid (HST4.out.drewN n5)
  have HX5 := Lib.hid (HX4.out.drewN n5)
  have st6 := HST5.out.setR (rsv (f : Int) (n : Int))
  have HST6 := Lib.hid st6
  have c0 := st6.err.cell 0
  have f0 := st6.err.frozen 0
  simp only [List.getElem?_toArray, List.getElem?_cons_zero] at c0
  clear st6
  go_wp2_with (first | (refine wpList_load_row rfl 26 _ rfl X rfl 26 (rsv (f : Int) (n : Int)) (0, 0) _ ?_ Try.underlying26 rfl rs_size ?_; exact HX5.out) | (refine wpList_store_row rfl 26 _ _ rfl r (rsv (f : Int) (n : Int)) rfl rfl 26 (rsv 0 0) ?_ rs_size rfl (rs_one _ _) ?_; exact HST5.out.ret))
  refine doorR_ret r q 0 (rsv (f : Int) (n : Int)) rs_size _ _ _ (by kernel_rfl) (by kernel_rfl) (HST6.out.ret.same (Below.heap_setCell _ ⟨q, 0, none⟩ _ r HST6.out.ne)) (HST6.out.err.set_ 0 (.int .i64 0)) ⟨?_, HST6.out.setE _⟩
  rw [HV.out]
  rw [(HN.out HZ.out).1, (HN.out HZ.out).2, HC.out]
theorem decR_any (b : Nat) (g : Nat) (s : ByteArray) (w : World) (hs : s.size ≤ 9223372036854775807) (h : Cur w b s 0 false) (hg : Blk w g 67 #[.pointer (some ⟨b, 0, none⟩)]) :
    Calls Try.prog 39 #[.pointer (some ⟨b, 0, none⟩), .int .u8 8, (.func (.func 40) #[] #[.pointer (some ⟨g, 0, none⟩)])] w fun e w' => e = .returned (decRV s) ∧ w.grownBy w' (some b) := by
  by_cases h0 : s.size = 0
  · exact decR_none b g s w hs h hg h0
  by_cases hk : byteAt s 0 / 16 = 8
  · by_cases hz : fit 2 s.size = 0
    · exact decR_ok b g s w hs h hg h0 hk hz
    · exact decR_bad b g s w hs h hg h0 hk hz
  · exact decR_kind b g s w hs h hg h0 hk
set_option maxHeartbeats 1000000 in
set_option maxRecDepth 100000 in
theorem DecodeRst_any (s : ByteArray) (hs : s.size ≤ 9223372036854775807) (w : World) :
    Calls Try.prog 21 #[.string s] w fun e w' => e = .returned (decRV s) ∧ Below w.heap.size w w' := by
  obtain ⟨F, hF⟩ : ∃ F, F = decF s := ⟨_, rfl⟩
  obtain ⟨R, hR⟩ : ∃ R, R = decR s := ⟨_, rfl⟩
  obtain ⟨z, hz⟩ : ∃ z, z = wrong 8 2 s := ⟨_, rfl⟩
  have HV := Lib.hid (show decRV s = .tuple #[.agg (rsv (F : Int) (R : Int)), .int .i64 z] by rw [hF, hR, hz]; rfl)
  obtain ⟨r, hr⟩ : ∃ r, r = w.heap.size := ⟨_, rfl⟩
  obtain ⟨w0, hw0⟩ : ∃ w0, w0 = w.alloc (.cells (rsv 0 0) 26) := ⟨_, rfl⟩
  have HZ0 := Lib.hid (show Blk w0 r 26 (rsv 0 0) by rw [hw0, hr]; exact Blk.new _ _ _)
  have HB0 := Lib.hid (show Below w.heap.size w w0 by rw [hw0]; exact (Below.refl _ w).alloc (Nat.le_refl _) _)
  have HS := Lib.hid hs
  have HR := Lib.hid hr
  have HW := Lib.hid hw0
  have hmf : ∀ (fn : Fn) (first cap : Array Value) (w : World), (Instr.makeFunc fn first cap).run Try.prog w = .ok (.func fn first cap) w := fun _ _ _ _ => rfl
  clear hs hF hR hz hr hw0
  go_enter Try.func21, Try.ntmps21
  go_wp2_with fail
  rw [← HW.out, ← HR.out]
  refine (Read_new s w0).mono ?_
  rintro e w1 ⟨b, rfl, hb, b1, hc⟩
  have HC1 := Lib.hid hc
  have HBL := Lib.hid (show w.heap.size ≤ b from Nat.le_trans HB0.out.size hb)
  have HRB := Lib.hid (show r ≠ b from Nat.ne_of_lt (Nat.lt_of_lt_of_le HZ0.out.lt hb))
  have HZ1 := Lib.hid (HZ0.out.below b1 HZ0.out.lt)
  have HB1 := Lib.hid (HB0.out.trans (b1.mono HB0.out.size))
  clear hc hb b1
  obtain ⟨g, hg⟩ : ∃ g, g = w1.heap.size := ⟨_, rfl⟩
  obtain ⟨w2, hw2⟩ : ∃ w2, w2 = w1.alloc (.cells #[.pointer (some ⟨b, 0, none⟩)] 67) := ⟨_, rfl⟩
  have HC2 := Lib.hid (show Cur w2 b s 0 false by rw [hw2]; exact Blk.alloc HC1.out _)
  have hg2 : Blk w2 g 67 #[.pointer (some ⟨b, 0, none⟩)] := by rw [hw2, hg]; exact Blk.new _ _ _
  have HG2 := Lib.hid hg2
  have HZ2 := Lib.hid (show Blk w2 r 26 (rsv 0 0) by rw [hw2]; exact HZ1.out.alloc _)
  have HB2 := Lib.hid (show Below w.heap.size w w2 by rw [hw2]; exact HB1.out.alloc HB1.out.size _)
  have HG := Lib.hid hg
  have HW2 := Lib.hid hw2
  have c0 := hg2.cell 0
  simp only [List.getElem?_toArray, List.getElem?_cons_zero] at c0
  rw [hw2, hg] at c0
  clear hg hw2 hg2
  go_wp2_with fail
  rw [← HW2.out, ← HG.out]
  refine (decR_any b g s w2 HS.out HC2.out HG2.out).mono ?_
  rintro e W ⟨rfl, hgr⟩
  rw [HV.out]
  have HZ3 := Lib.hid (HZ2.out.grown hgr (by intro e; injection e with e; exact HRB.out e))
  have HB3 := Lib.hid (HB2.out.trans (below_of_only hgr HBL.out HB2.out.size))
  clear hgr c0
  go_wp2_with (refine wpList_store_row rfl 26 _ _ rfl r (rsv (F : Int) (R : Int)) rfl rfl 26 (rsv 0 0) ?_ rs_size rfl (rs_one _ _) ?_; exact HZ3.out)
  exact bodyPost_ret (results_row_tmp (p := 2) (t := 3) rfl _ _ r 26 (rsv (F : Int) (R : Int)) (0, 0) _ (by kernel_rfl) (setRow_heap _ _ _ _ _ _ HZ3.out) Try.underlying26 rfl rs_size) rfl ⟨by rw [HV.out]; rfl, below_setRow HB3.out (by rw [HR.out]; exact Nat.le_refl _) _⟩
end Go.Proofs.Ytbimdlcgjpeheaa
