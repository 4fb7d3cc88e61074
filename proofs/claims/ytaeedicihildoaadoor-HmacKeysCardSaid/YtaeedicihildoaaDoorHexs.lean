/-
  A text in hexadecimal digits (the law's own 'digits'), by its walk.
-/
import Derived.Test.YtaeedicihildoaaDoorHmacBegun
import Derived.Test.YtaeedicihildoaaDoorHeldSteps
namespace Go.Proofs.YtaeedicihildoaaDoor
open Go.ChangeShapes Go.WideShapes Go.ChangeAt Go.RowKit
set_option linter.unusedVariables false

/-- A digit. -/
def hexd (n : Nat) : UInt8 := ([48, 49, 50, 51, 52, 53, 54, 55, 56, 57, 97, 98, 99, 100, 101, 102] : List UInt8).getD n 0
def hexs (l : List UInt8) : List UInt8 := l.flatMap fun b => [hexd (b.toNat / 16), hexd (b.toNat % 16)]
theorem hexs_length (l : List UInt8) : (hexs l).length = 2 * l.length := by
  induction l with
  | nil => rfl
  | cons b l ih => simp [hexs] at ih ⊢; omega
theorem hexs_take (l : List UInt8) (j : Nat) (h : j < l.length) : hexs (l.take (j + 1)) = hexs (l.take j) ++ [hexd (l[j].toNat / 16), hexd (l[j].toNat % 16)] := by
  rw [List.take_succ_eq_append_getElem h, hexs, List.flatMap_append]; rfl
/-- A digit out of the text of digits. -/
theorem hex_at (n : Nat) (h : n < 16) (w : World) : (Instr.index 9 (.string ⟨#[48, 49, 50, 51, 52, 53, 54, 55, 56, 57, 97, 98, 99, 100, 101, 102]⟩) (.int .u8 (n : Int))).run Tryd.prog w = .ok (.int .u8 ((hexd n).toNat : Int)) w := by
  have all : ∀ m : _root_.Fin 16, ((⟨#[48, 49, 50, 51, 52, 53, 54, 55, 56, 57, 97, 98, 99, 100, 101, 102]⟩ : ByteArray)[m.val]'(m.isLt)) = hexd m.val := by decide +kernel
  rw [run_index_string w _ _ _ _ Tryd.underlying9, dif_pos ⟨by omega, by show (n : Int) < 16; omega⟩]
  have := all ⟨n, h⟩
  simp only [Int.toNat_natCast] at this ⊢
  rw [this]
theorem exec_index {P : Program} {ρ : Operand → Value} {o : Oper} {w : World} {t : TypeId} {x y : Operand} {n i v : Value} (ho : o.op = .index t x y) (hx : ρ x = n) (hy : ρ y = i) (h : (Instr.index t n i).run P w = .ok v w) : (execOp ρ o).run P w = .ok (.value v) w := by
  unfold execOp
  rw [ho]
  simp [hx, hy, h]
/-- A byte of a text. -/
theorem byte_at (s : ByteArray) (k : Nat) (h : k < s.size) (w : World) : (Instr.index 9 (.string s) (.int .i64 (k : Int))).run Tryd.prog w = .ok (.int .u8 ((s.data.toList[k]'(by rw [len_data]; exact h)).toNat : Int)) w := by
  rw [run_index_string w _ _ _ _ Tryd.underlying9, dif_pos ⟨by omega, by omega⟩]
  simp only [Int.toNat_natCast, Array.getElem_toList]
  rfl

set_option maxRecDepth 100000 in
set_option maxHeartbeats 1000000 in
theorem digits_any (s : ByteArray) (hs : s.size ≤ 1000) (w : World) :
    Calls Tryd.prog 22 #[.string s] w fun e w' => e = .returned (.string (txt (hexs s.data.toList))) ∧ Below w.heap.size w w' := by
  go_enter Tryd.func22, Tryd.ntmps22
  go_wp2_with fail
  go_loopw [3, 4] (fun v i wr => ∃ k : Nat, k ≤ s.size ∧ i = .int .i64 (k : Int) ∧ OwnB w.heap.size wr v (hexs (s.data.toList.take k)) ∧ Below w.heap.size w wr) (fun _ i _ => s.size - (intOf i).toNat)
  case atStart => exact ⟨0, Nat.zero_le _, rfl, OwnB.nil _ _, Below.refl _ _⟩
  case round =>
    obtain ⟨k, hk, rfl, ho, hbl⟩ := hrel
    have HO := Lib.hid ho
    have HBL := Lib.hid hbl
    clear ho hbl
    by_cases hlt : k < s.size
    · have hkd : k < s.data.toList.length := by rw [len_data]; exact hlt
      have hex := hexs_take s.data.toList k hkd
      have ik := byte_at s k hlt
      have hbl := (s.data.toList[k]'hkd).toNat_lt
      obtain ⟨b, hb⟩ : ∃ b, b = (s.data.toList[k]'hkd).toNat := ⟨_, rfl⟩
      rw [← hb] at hex ik hbl
      obtain ⟨q, hq⟩ : ∃ q, q = b / 16 := ⟨_, rfl⟩
      obtain ⟨r, hr⟩ : ∃ r, r = b % 16 := ⟨_, rfl⟩
      rw [← hq, ← hr] at hex
      have HEX := Lib.hid hex
      have wq : IntKind.u8.wrap ((b : Int).tdiv 16) = (q : Int) := by rw [IntKind.wrap_u8, Int.tdiv_eq_ediv_of_nonneg (by omega)]; omega
      have wr1 : (b : Int).tmod 16 = (r : Int) := by rw [Int.tmod_eq_emod_of_nonneg (by omega)]; omega
      have iq := hex_at q (by omega)
      have ir := hex_at r (by omega)
      clear hb hex hq hr
      go_wp2_with fail
      refine wp_region_noPanic (wp_region_any (by kernel_rfl) ?_)
      change wpAny _ _ _ _ 14 _ _ wr.drew
      refine any_free (i := 0) (u3) rfl (by kernel_rfl) (by kernel_rfl) (by kernel_rfl) (by kernel_rfl) (fun _ => by kernel_rfl) ?_
      refine any_free (i := 1) (.string s) rfl (by kernel_rfl) (by kernel_rfl) (by kernel_rfl) (by kernel_rfl) (fun _ => by kernel_rfl) ?_
      refine any_free (i := 2) (.int .i64 (k : Int)) rfl (by kernel_rfl) (by kernel_rfl) (by kernel_rfl) (by kernel_rfl) (fun _ => by kernel_rfl) ?_
      refine any_free (i := 3) (.int .u8 (b : Int)) rfl (by kernel_rfl) (by kernel_rfl) (by kernel_rfl) (by kernel_rfl) (fun W => by refine exec_index rfl ?_ ?_ (ik W) <;> kernel_rfl) ?_
      refine any_free (i := 4) (.int .u8 (IntKind.u8.wrap ((b : Int).tdiv 16))) rfl (by kernel_rfl) (by kernel_rfl) (by kernel_rfl) (by kernel_rfl) (fun _ => by kernel_rfl) ?_
      rw [wq]
      refine any_free (i := 5) (.int .u8 ((hexd q).toNat : Int)) rfl (by kernel_rfl) (by kernel_rfl) (by kernel_rfl) (by kernel_rfl) (fun W => by refine exec_index rfl ?_ ?_ (iq W) <;> kernel_rfl) ?_
      refine any_free (i := 6) (.string s) rfl (by kernel_rfl) (by kernel_rfl) (by kernel_rfl) (by kernel_rfl) (fun _ => by kernel_rfl) ?_
      refine any_free (i := 7) (.int .i64 (k : Int)) rfl (by kernel_rfl) (by kernel_rfl) (by kernel_rfl) (by kernel_rfl) (fun _ => by kernel_rfl) ?_
      refine any_free (i := 8) (.int .u8 (b : Int)) rfl (by kernel_rfl) (by kernel_rfl) (by kernel_rfl) (by kernel_rfl) (fun W => by refine exec_index rfl ?_ ?_ (ik W) <;> kernel_rfl) ?_
      refine any_free (i := 9) (.int .u8 ((b : Int).tmod 16)) rfl (by kernel_rfl) (by kernel_rfl) (by kernel_rfl) (by kernel_rfl) (fun _ => by kernel_rfl) ?_
      rw [wr1]
      refine any_free (i := 10) (.int .u8 ((hexd r).toNat : Int)) rfl (by kernel_rfl) (by kernel_rfl) (by kernel_rfl) (by kernel_rfl) (fun W => by refine exec_index rfl ?_ ?_ (ir W) <;> kernel_rfl) ?_
      refine any_rest (k := 11) rfl (by kernel_rfl) ?_
      simp only [List.drop_succ_cons, List.drop_zero]
      change wpList _ _ (NoPanic _) _ _ wr.drew
      have HO2 := Lib.hid (show OwnB w.heap.size wr.drew u3 (hexs (s.data.toList.take k)) from HO.out.drew)
      obtain ⟨Wd, hWd⟩ : ∃ W, W = wr.drew := ⟨_, rfl⟩
      have HBD := Lib.hid (show Below w.heap.size w Wd by rw [hWd]; exact HBL.out.drew)
      rw [← hWd] at HO2 ⊢
      clear iq ir ik hWd
      have hbs := HBD.out.size
      have hn : (hexs (s.data.toList.take k)).length ≤ 2000 := by rw [hexs_length, List.length_take, len_data]; omega
      go_wp2_with (at_builtin; refine app_bytes rfl (.tmp 11) (.tmp 22) rfl w.heap.size u3 _ [hexd q, hexd r] _ rfl rfl HO2.out hbs (by simp; omega) 2 rfl rfl ?_)
      intro v' w2 own2 b2
      have HN := Lib.hid (show OwnB w.heap.size w2 v' (hexs (s.data.toList.take (k + 1))) by rw [HEX.out]; exact own2)
      have HB2 := Lib.hid (HBD.out.trans b2)
      clear own2 b2
      go_wp2_with fail
      refine NoPanic.normal ?_
      go_wp2_with fail
      go_roundw
      case rel => exact ⟨k + 1, by omega, by go_num, HN.out, HB2.out⟩
      case measure => simp [intOf]; omega
    · obtain rfl : k = s.size := by omega
      clear hlt
      have HO1 := HO.out
      rw [List.take_of_length_le (by rw [len_data]; exact Nat.le_refl _)] at HO1
      have hcv := own_text wr _ u3 _ HO1 wr rfl
      obtain ⟨T, hT⟩ : ∃ T, T = txt (hexs s.data.toList) := ⟨_, rfl⟩
      rw [← hT] at hcv
      have HT := Lib.hid hT
      clear hT HO1
      go_wp2_with fail
      obtain rfl := HT.out
      go_ret; exact ⟨rfl, HBL.out⟩
end Go.Proofs.YtaeedicihildoaaDoor
