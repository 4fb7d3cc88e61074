/-
  A hash in memory: its eight words, the bytes that wait, its size; a part of a row is read, and laid; a text is copied into a row. No statement of the document is here.
-/
import Derived.Test.YtcbakfnpbhgjoaaDoorShaProc
import Derived.Laws.CopyRow
namespace Go.Proofs.YtcbakfnpbhgjoaaDoor
open Go.RowKit
set_option linter.unusedVariables false

theorem txt_ext {a b : ByteArray} (h : a.data.toList = b.data.toList) : a = b := by apply ByteArray.ext; exact Array.toList_inj.1 h
theorem len_data (s : ByteArray) : s.data.toList.length = s.size := by simp

section
variable {P : Program}
theorem add_at (b o q : Nat) : (⟨b, o, none⟩ : Addr).add q = ⟨b, o + q, none⟩ := by unfold Addr.add; split <;> simp_all
/-- A part of a row is read: the operation alone. -/
theorem exec_part {o : Oper} {a : Act} {w : World} (ty : TypeId) (x : Operand) (ho : o.op = .load ty x) (g p : Nat) (hx : a.eval x = .pointer (some ⟨g, p, none⟩)) (t : TypeId) (row cs : Array Value) (d : TypeDesc) (hg : Blk w g t row)
    (hc : ∀ j, j < cs.size → row[p + j]? = cs[j]?) (hu : P.underlying ty = some d) (hd : (match d with | .struct _ | .array _ _ => true | _ => false) = true) (hi : (P.info? ty).map (·.size) = some cs.size) : (execOp a.eval o).run P w = .ok (.value (.agg cs)) w := by
  have hl : (loadCells ⟨g, p, none⟩ cs.toList.length).run P w = .ok cs.toList.toArray w :=
    run_loadCells_list (P := P) w ⟨g, p, none⟩ cs.toList (fun j v hv => by
      have hj : j < cs.size := by have := (List.getElem?_eq_some_iff.1 hv).1; simpa using this
      rw [add_at, hg.cell, hc j hj]; simpa using hv)
  have hv : (loadVar ty ⟨g, p, none⟩).run P w = .ok (.agg cs) w := by
    cases hq : P.info? ty with
    | none => simp [hq] at hi
    | some i =>
      have hs : i.size = cs.size := by simpa [hq] using hi
      have hagg : (isAgg ty).run P w = .ok true w := by
        unfold isAgg
        rw [Sem.run_bind, run_underlying hu w]
        cases d <;> simp_all
      simp only [Array.length_toList, Array.toArray_toList] at hl
      simp [loadVar, Sem.run_bind, hagg, sizeOf, typeInfo, hq, hs, hl]
  unfold execOp
  simp only [ho, hx, Instr.loadAt, Instr.sureAddr, Sem.run_bind, Sem.run_pure, Result.andThen_ok, hv]
theorem still_part {ops : Array Oper} {Q : Act → Prop} {rest : List Oper} {o : Oper} {a : Act} {w : World} (hgd : o.guard = none) (ty : TypeId) (x : Operand) (ho : o.op = .load ty x) (g p : Nat) (hx : a.eval x = .pointer (some ⟨g, p, none⟩)) (t : TypeId) (row cs : Array Value) (d : TypeDesc) (hg : Blk w g t row)
    (hc : ∀ j, j < cs.size → row[p + j]? = cs[j]?) (hu : P.underlying ty = some d) (hd : (match d with | .struct _ | .array _ _ => true | _ => false) = true) (hi : (P.info? ty).map (·.size) = some cs.size) (h : wpStill P ops w Q rest (a.put o.dst (.agg cs))) : wpStill P ops w Q (o :: rest) a := by
  refine wpStill_step fun K hK => ?_
  simp only [Region.wanted, hgd, if_true]
  unfold Oper.still
  rw [exec_part ty x ho g p hx t row cs d hg hc hu hd hi, Oper.stillUpon_value]
  exact hK _ h
theorem wpList_part {ops : Array Oper} {Q : Exit → Act → World → Prop} {rest : List Oper} {o : Oper} {a : Act} {w : World} (hgd : o.guard = none) (ty : TypeId) (x : Operand) (ho : o.op = .load ty x) (g p : Nat) (hx : a.eval x = .pointer (some ⟨g, p, none⟩)) (t : TypeId) (row cs : Array Value) (d : TypeDesc) (hg : Blk w g t row)
    (hc : ∀ j, j < cs.size → row[p + j]? = cs[j]?) (hu : P.underlying ty = some d) (hd : (match d with | .struct _ | .array _ _ => true | _ => false) = true) (hi : (P.info? ty).map (·.size) = some cs.size) (h : wpList P ops Q rest (a.put o.dst (.agg cs)) w) : wpList P ops Q (o :: rest) a w := by
  refine wpList_plain hgd fun K hK => ?_
  unfold Oper.wp
  rw [exec_part ty x ho g p hx t row cs d hg hc hu hd hi]
  exact hK _ _ h
/-- A part of a row is laid anew. -/
theorem wpList_put_part {ops : Array Oper} {Q : Exit → Act → World → Prop} {rest : List Oper} {o : Oper} {a : Act} {w : World} (hgd : o.guard = none) (ty : TypeId) (x y : Operand) (ho : o.op = .store ty x y) (g p : Nat) (cs : Array Value) (hx : a.eval x = .pointer (some ⟨g, p, none⟩)) (hy : a.eval y = .agg cs)
    (t : TypeId) (row new : Array Value) (hg : Blk w g t row) (hi : (P.info? ty).map (·.size) = some cs.size) (hz : p + cs.size ≤ row.size) (h1 : cs.all (·.oneCell') = true) (hn : new = (row.toList.take p ++ cs.toList ++ row.toList.drop (p + cs.size)).toArray)
    (h : wpList P ops Q rest (a.put o.dst undef) (w.setRow g new)) : wpList P ops Q (o :: rest) a w := by
  have := run_storeCells_at P g p t cs.toList 0 row w hg (by simpa using hz) (fun v hv => (Array.all_eq_true_iff_forall_mem.1 h1) v (by simpa using hv))
  have hv : (storeVar ty ⟨g, p, none⟩ (.agg cs)).run P w = .ok () (w.setRow g new) := by
    cases hq : P.info? ty with
    | none => simp [hq] at hi
    | some i =>
      have hs : cs.size = i.size := by simp [hq] at hi; omega
      simp only [Nat.add_zero, Array.length_toList] at this
      simp [storeVar, sizeOf, typeInfo, hq, Value.cells, hs]
      rw [hs] at this hn
      rw [this, hn]
  refine wpList_plain hgd fun K hK => ?_
  unfold Oper.wp execOp
  simp only [ho, hx, hy, Instr.storeAt, Instr.sureAddr, Sem.run_bind, Sem.run_pure, Result.andThen_ok, hv]
  exact hK _ _ h
/-- An operation that yields a value and leaves the world. -/
theorem wpList_yields {ops : Array Oper} {Q : Exit → Act → World → Prop} {rest : List Oper} {o : Oper} {a : Act} {w : World} (hgd : o.guard = none) (op : Op) (ho : o.op = op) (v : Value) (he : (execOp a.eval o).run P w = .ok (.value v) w) (h : wpList P ops Q rest (a.put o.dst v) w) : wpList P ops Q (o :: rest) a w := by
  refine wpList_plain hgd fun K hK => ?_
  unfold Oper.wp
  rw [he]
  exact hK _ _ h
/-- 'copy', by what it does. -/
theorem wpList_copy_to {ops : Array Oper} {Q : Exit → Act → World → Prop} {rest : List Oper} {o : Oper} {a : Act} {w w' : World} (hgd : o.guard = none) (x y : Operand) (dT sT ty : TypeId) (ho : o.op = .call { callee := .builtin .copy, args := #[x, y], argTypes := #[dT, sT] }) (hty : o.type = ty) (d s v : Value)
    (hx : a.eval x = d) (hy : a.eval y = s) (hr : (Builtin.copy_ #[dT, sT] ty #[d, s]).run P w = .ok v w') (h : wpList P ops Q rest (a.put o.dst v) w') : wpList P ops Q (o :: rest) a w := by
  refine wpList_plain hgd fun K hK => ?_
  unfold Oper.wp
  simp [execOp, ho, hty, resolve, invoke, builtin, hx, hy, hr, Result.andThen]
  exact hK _ _ h
/-- A text is copied into a row, as far as there is room. -/
theorem copy_str (w : World) (dT sT ty elem : TypeId) (g o dLen dCap m : Nat) (s : ByteArray) (row : Array Value) (t : TypeId) (hu : P.underlying dT = some (.slice elem)) (hs : (P.info? elem).map (·.size) = some 1) (hg : Blk w g t row)
    (hm : m = min s.size dLen) (hfit : o + m ≤ row.size) :
    (Builtin.copy_ #[dT, sT] ty #[.slice (some ⟨g, o, none⟩) dLen dCap, .string s]).run P w = .ok (goInt m) (w.setRow g (row.toList.take o ++ (byv (s.data.toList.take m)).toList ++ row.toList.drop (o + m)).toArray) := by
  have hlen : (byv (s.data.toList.take m)).toList.length = m := by simp [byv]; omega
  have hst := run_storeCells_at P g o t (byv (s.data.toList.take m)).toList 0 row w hg (by rw [hlen]; simpa using hfit) (fun v hv => (Array.all_eq_true_iff_forall_mem.1 (byv_one _)) v (by simpa using hv))
  have hmin : Nat.min s.size dLen = m := hm.symm
  have htk : List.take m (List.map (fun b : UInt8 => Value.int IntKind.u8 (b.toNat : Int)) s.data.toList) = (byv (s.data.toList.take m)).toList := by rw [byv, List.map_take]
  rw [hlen] at hst
  simp only [Nat.add_zero] at hst
  cases hq : P.info? elem with
  | none => simp [hq] at hs
  | some i =>
    simp [Builtin.copy_, run_underlying hu, Builtin.lenOf, Builtin.firstCells, sizeOf, typeInfo, hq, hmin]
    rw [htk, hst]
    simp [Result.andThen]
end

/-- A hash's cells. -/
def hcs (s : Ws) (rest : List UInt8) (n : Nat) : Array Value := ((wsv s).toList ++ (byv rest).toList ++ [Value.int .u64 (n : Int)]).toArray
theorem byv_len (l : List UInt8) : (byv l).toList.length = l.length := by simp [byv]
theorem hcs_size (s : Ws) (rest : List UInt8) (n : Nat) : (hcs s rest n).size = rest.length + 9 := by simp [hcs, byv]
theorem wsv_get (s : Ws) (A : List Value) (hA : (wsv s).toList = A) (j : Nat) : (wsv s)[j]? = A[j]? := by rw [← hA]; simp
theorem hcs_words (s : Ws) (rest : List UInt8) (n j : Nat) (hj : j < (wsv s).size) : (hcs s rest n)[0 + j]? = (wsv s)[j]? := by
  have hj8 : j < 8 := hj
  unfold hcs
  generalize hA : (wsv s).toList = A
  have h8 : A.length = 8 := by rw [← hA]; rfl
  rw [wsv_get s A hA, List.getElem?_toArray, Nat.zero_add, List.append_assoc, List.getElem?_append_left (by omega)]
theorem hcs_rest (s : Ws) (rest : List UInt8) (n j : Nat) (hj : j < (byv rest).size) : (hcs s rest n)[8 + j]? = (byv rest)[j]? := by
  unfold hcs
  generalize hA : (wsv s).toList = A
  have h8 : A.length = 8 := by rw [← hA]; rfl
  rw [List.getElem?_toArray, List.append_assoc, List.getElem?_append_right (by omega), h8, show 8 + j - 8 = j by omega, List.getElem?_append_left (by simpa using hj)]; simp
theorem hcs_cell (s : Ws) (rest : List UInt8) (n : Nat) (hl : rest.length = 64) : (hcs s rest n)[72]? = some (.int .u64 (n : Int)) := by
  have h64 : (byv rest).toList.length = 64 := by rw [byv_len, hl]
  unfold hcs
  generalize hA : (wsv s).toList = A
  have h8 : A.length = 8 := by rw [← hA]; rfl
  rw [List.getElem?_toArray, List.append_assoc, List.getElem?_append_right (by omega), List.getElem?_append_right (by omega), h8, h64]; rfl
theorem hcs_setSize (s : Ws) (rest : List UInt8) (n m : Nat) (hl : rest.length = 64) : (hcs s rest n).setIfInBounds 72 (.int .u64 (m : Int)) = hcs s rest m := by
  have h64 : (byv rest).toList.length = 64 := by rw [byv_len, hl]
  unfold hcs
  generalize hA : (wsv s).toList = A
  have h8 : A.length = 8 := by rw [← hA]; rfl
  rw [List.setIfInBounds_toArray, List.append_assoc, List.append_assoc, List.set_append_right _ _ (by omega), List.set_append_right _ _ (by omega), h8, h64]; rfl
theorem hcs_setRest (s : Ws) (rest bs : List UInt8) (n k m : Nat) (hl : rest.length = 64) (hk : k + m ≤ 64) (hb : bs.length = m) :
    ((hcs s rest n).toList.take (8 + k) ++ (byv bs).toList ++ (hcs s rest n).toList.drop (8 + k + m)).toArray = hcs s (rest.take k ++ bs ++ rest.drop (k + m)) n := by
  have h64 : (byv rest).toList.length = 64 := by rw [byv_len, hl]
  unfold hcs
  generalize hA : (wsv s).toList = A
  have h8 : A.length = 8 := by rw [← hA]; rfl
  have t1 : (A ++ (byv rest).toList ++ [Value.int .u64 (n : Int)]).take (8 + k) = A ++ (byv rest).toList.take k := by
    rw [List.append_assoc, List.take_append, h8, List.take_of_length_le (by omega), show 8 + k - 8 = k by omega, List.take_append_of_le_length (by omega)]
  have t2 : (A ++ (byv rest).toList ++ [Value.int .u64 (n : Int)]).drop (8 + k + m) = (byv rest).toList.drop (k + m) ++ [Value.int .u64 (n : Int)] := by
    rw [List.append_assoc, List.drop_append, h8, List.drop_of_length_le (by omega), show 8 + k + m - 8 = k + m by omega, List.drop_append_of_le_length (by omega), List.nil_append]
  rw [List.toList_toArray, t1, t2]
  simp only [byv, List.map_append, List.map_take, List.map_drop, List.append_assoc]
theorem hcs_setWords (s s' : Ws) (rest : List UInt8) (n : Nat) : ((hcs s rest n).toList.take 0 ++ (wsv s').toList ++ (hcs s rest n).toList.drop (0 + (wsv s').size)).toArray = hcs s' rest n := by
  rfl

/-- In block g lies a hash to which a text was written. -/
def Hsh (w : World) (g : Nat) (text : List UInt8) : Prop :=
  ∃ rest : List UInt8, rest.length = 64 ∧ rest.take (text.length % 64) = text.drop (64 * (text.length / 64)) ∧ Blk w g 97 (hcs (blks (text.length / 64) ws0 text) rest text.length)
theorem Hsh.same {w w' : World} {g : Nat} {l : List UInt8} (h : Hsh w g l) (e : w'.heap[g]? = w.heap[g]?) : Hsh w' g l := let ⟨r, a, b, c⟩ := h; ⟨r, a, b, c.same e⟩
theorem Hsh.lt {w : World} {g : Nat} {l : List UInt8} (h : Hsh w g l) : g < w.heap.size := let ⟨_, _, _, c⟩ := h; c.lt
theorem Hsh.below {w w' : World} {g : Nat} {l : List UInt8} {B : Nat} (h : Hsh w g l) (b : Below B w w') (hg : g < B) : Hsh w' g l := h.same (b.block g hg)
theorem Hsh.grown {w w' : World} {g : Nat} {l : List UInt8} {row : Option Nat} (h : Hsh w g l) (b : w.grownBy w' row) (hg : some g ≠ row) : Hsh w' g l := h.same (b.block g h.lt hg)
theorem Tbl.grown {w w' : World} {g : Nat} (h : Tbl w) (b : w.grownBy w' (some g)) (hg : 1 < g) : Tbl w' :=
  ⟨Nat.lt_of_lt_of_le h.lt b.size, fun i hi => (World.cell?_of_block (a := ⟨1, i, none⟩) (b.block 1 (by have := h.lt; omega) (by simp; omega))).trans (h.rw i hi), fun i hi => (World.cell?_of_block (a := ⟨0, i, none⟩) (b.block 0 (by have := h.lt; omega) (by simp; omega))).trans (h.iw i hi)⟩

/-- What the bytes of a piece make of a hash, as far as they fill the block. -/
theorem fill_more (cur p : List UInt8) (rest : List UInt8) (hl : rest.length = 64) (hr : rest.take (cur.length % 64) = cur.drop (64 * (cur.length / 64))) (hm : cur.length % 64 + p.length < 64) :
    (rest.take (cur.length % 64) ++ p ++ rest.drop (cur.length % 64 + p.length)).length = 64 ∧ (rest.take (cur.length % 64) ++ p ++ rest.drop (cur.length % 64 + p.length)).take ((cur ++ p).length % 64) = (cur ++ p).drop (64 * ((cur ++ p).length / 64)) ∧ (cur ++ p).length / 64 = cur.length / 64 ∧ blks ((cur ++ p).length / 64) ws0 (cur ++ p) = blks (cur.length / 64) ws0 cur := by
  have e1 : (cur ++ p).length = cur.length + p.length := List.length_append
  have e2 : (cur ++ p).length / 64 = cur.length / 64 := by omega
  have e3 : (cur ++ p).length % 64 = cur.length % 64 + p.length := by omega
  have e4 : (rest.take (cur.length % 64) ++ p).length = cur.length % 64 + p.length := by simp [hl]; omega
  refine ⟨by simp [hl]; omega, ?_, e2, ?_⟩
  · rw [e3, e2, List.take_left' e4, hr, List.drop_append_of_le_length (by omega)]
  · rw [e2, blks_app _ _ _ _ (by omega)]
theorem fill_whole (cur p : List UInt8) (rest : List UInt8) (hl : rest.length = 64) (hr : rest.take (cur.length % 64) = cur.drop (64 * (cur.length / 64))) (hm : cur.length % 64 + p.length = 64) :
    (rest.take (cur.length % 64) ++ p ++ rest.drop (cur.length % 64 + p.length)).length = 64 ∧ (rest.take (cur.length % 64) ++ p ++ rest.drop (cur.length % 64 + p.length)).take ((cur ++ p).length % 64) = (cur ++ p).drop (64 * ((cur ++ p).length / 64)) ∧ blks ((cur ++ p).length / 64) ws0 (cur ++ p) = cmp (blks (cur.length / 64) ws0 cur) (rest.take (cur.length % 64) ++ p ++ rest.drop (cur.length % 64 + p.length)) := by
  have e1 : (cur ++ p).length = cur.length + p.length := List.length_append
  have e2 : (cur ++ p).length / 64 = cur.length / 64 + 1 := by omega
  have e3 : (cur ++ p).length % 64 = 0 := by omega
  have e5 : rest.drop (cur.length % 64 + p.length) = [] := List.drop_of_length_le (by omega)
  refine ⟨by simp [hl]; omega, ?_, ?_⟩
  · rw [e3, List.take_zero, List.drop_of_length_le (by omega)]
  · rw [e2, blks_snoc, blks_app _ _ _ _ (by omega), e5, List.append_nil, hr, List.drop_append_of_le_length (by omega), List.take_of_length_le (by simp; omega)]
end Go.Proofs.YtcbakfnpbhgjoaaDoor
