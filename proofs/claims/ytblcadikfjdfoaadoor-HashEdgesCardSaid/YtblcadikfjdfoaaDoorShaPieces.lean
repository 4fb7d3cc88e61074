/-
  A text, cut into pieces (plaitlaw06.pieces).
-/
import Derived.Test.YtblcadikfjdfoaaDoorShaOpen
import Derived.Laws.AppendOwn
import Derived.OwnWalk
import Derived.SliceStrings
import Derived.ChangeSlices
namespace Go.Proofs.YtblcadikfjdfoaaDoor
open Go.ChangeShapes Go.WideShapes Go.ChangeAt Go.RowKit
set_option linter.unusedVariables false

/-- Pieces, one behind the other. -/
def cats (ss : List ByteArray) : List UInt8 := ss.flatMap fun s => s.data.toList
theorem cats_snoc (ss : List ByteArray) (s : ByteArray) : cats (ss ++ [s]) = cats ss ++ s.data.toList := by simp [cats]
theorem cats_take (ss : List ByteArray) (j : Nat) (s : ByteArray) (h : ss[j]? = some s) : cats (ss.take (j + 1)) = cats (ss.take j) ++ s.data.toList := by
  rw [List.take_add_one, h]; simp [cats]
theorem info_str : (Tryd.prog.info? 9).map (fun i => (i.zero, i.size, i.bytes)) = some (some (.string ByteArray.empty), 1, 16) := by kernel_rfl

/-- A slice of texts in memory, in no block ahead of the B-th. -/
def Rw (B : Nat) (w : World) (v : Value) (ss : List ByteArray) : Prop :=
  ∃ (p : Option Addr) (cap : Nat), v = .slice p ss.length cap ∧ ∀ (i : Nat) (s : ByteArray), ss[i]? = some s → ∃ g, p = some ⟨g, 0, none⟩ ∧ B ≤ g ∧ g < w.heap.size ∧ w.cell? ⟨g, i, none⟩ = some (.string s)
theorem Rw.kept {B : Nat} {w w' : World} {v : Value} {ss : List ByteArray} (h : Rw B w v ss) (hs : w.heap.size ≤ w'.heap.size) (b : ∀ k, B ≤ k → k < w.heap.size → w'.heap[k]? = w.heap[k]?) : Rw B w' v ss := by
  obtain ⟨p, cap, hv, hc⟩ := h
  refine ⟨p, cap, hv, fun i s hs' => ?_⟩
  obtain ⟨g, hp, hB, hg, hi⟩ := hc i s hs'
  exact ⟨g, hp, hB, Nat.lt_of_lt_of_le hg hs, (World.cell?_of_block (a := ⟨g, i, none⟩) (b g hB hg)).trans hi⟩
theorem Rw.below {B : Nat} {w w' : World} {v : Value} {ss : List ByteArray} (h : Rw B w v ss) (b : Below w.heap.size w w') : Rw B w' v ss := h.kept b.size fun k _ hk => b.block k hk
theorem Rw.grown {B g : Nat} {w w' : World} {v : Value} {ss : List ByteArray} (h : Rw B w v ss) (b : w.grownBy w' (some g)) (hg : g < B) : Rw B w' v ss := h.kept b.size fun k hB hk => b.block k hk (by simp; omega)
theorem Rw.of_owned {w : World} {base : Nat} {e : TypeId} {v : Value} {n : Nat} {ss : List ByteArray} (h : w.ownsRow base e 1 v n (ss.map Value.string)) : Rw base w v ss := by
  obtain ⟨hl, h⟩ := h
  have hn : n = ss.length := by simpa using hl.symm
  subst hn
  rcases h with ⟨rfl, h0⟩ | ⟨g, cap, cur, rfl, hb, hg, h1, h2, h3, h4⟩
  · obtain rfl : ss = [] := List.eq_nil_of_length_eq_zero h0
    exact ⟨none, 0, rfl, fun i s h => by simp at h⟩
  · refine ⟨_, cap, rfl, fun i s hs => ⟨g, rfl, hb, (Array.getElem?_eq_some_iff.1 hg).1, ?_⟩⟩
    have hi : i < ss.length := (List.getElem?_eq_some_iff.1 hs).1
    have e1 : (cur.toList.take (ss.length * 1))[i]? = (ss.map Value.string)[i]? := by rw [h4]
    rw [List.getElem?_take_of_lt (by omega)] at e1
    rw [cell_of_row w g i cur e (0, 0) hg, ← Array.getElem?_toList, e1]
    simp [hs]

theorem new_lies (wr : World) (v : Value) (t : TypeId) : ∀ i u, [v][i]? = some u → (wr.alloc (.cells #[v] t)).cell? ((⟨wr.heap.size, 0, none⟩ : Addr).add i) = some u := by
  intro i u hu
  obtain rfl : i = 0 := by
    rcases Nat.eq_zero_or_pos i with h | h
    · exact h
    · rw [List.getElem?_eq_none (by simp; omega)] at hu; cases hu
  injection hu with hu
  subst hu
  exact (Blk.new wr t #[v]).cell 0
theorem one_str (s : ByteArray) : ∀ u ∈ [Value.string s], u.oneCell' = true := by intro u hu; obtain rfl := List.mem_singleton.1 hu; rfl
/-- Bytes as they came. -/
def Lens (w : World) (A : Option Addr) (len : Nat) : Prop := ∀ i, i < len → ∃ (ad : Addr) (b : Int), A = some ad ∧ w.cell? (ad.add i) = some (.int .u8 b) ∧ 0 ≤ b ∧ b ≤ 255
theorem Lens.below {w w' : World} {A : Option Addr} {len : Nat} (h : Lens w A len) (hb : Below w.heap.size w w') : Lens w' A len := by
  intro i hi
  obtain ⟨ad, b, rfl, c, r⟩ := h i hi
  exact ⟨ad, b, rfl, (hb.cell (World.block_lt_of_cell? w _ c)).trans c, r⟩

/-- So far: the pieces, and the rest. -/
def PcAt (w : World) (t : List UInt8) (x v i : Value) (W : World) : Prop :=
  ∃ (j : Nat) (r : ByteArray) (ss : List ByteArray), x = .string r ∧ i = .int .i64 (j : Int) ∧ j ≤ 400 ∧ cats ss ++ r.data.toList = t ∧ W.ownsRow w.heap.size 9 1 v j (ss.map .string) ∧ Below w.heap.size w W
theorem rest_split (r : ByteArray) (n : Nat) (hn : n ≤ r.size) : (r.extract 0 n).data.toList ++ (r.extract n r.size).data.toList = r.data.toList := by
  rw [ByteArray.data_extract, ByteArray.data_extract, Array.toList_extract, Array.toList_extract, List.extract, List.extract, List.drop_zero, Nat.sub_zero, show (List.drop n r.data.toList).take (r.size - n) = List.drop n r.data.toList from List.take_of_length_le (by rw [List.length_drop, len_data]; omega), List.take_append_drop]

set_option maxRecDepth 100000 in
set_option maxHeartbeats 4000000 in
theorem pieces_any (s : ByteArray) (hs : s.size ≤ 400) (A : Option Addr) (len cap : Nat) (hl : len ≤ 9223372036854775807) (w : World) (hp : Lens w A len) :
    Calls Tryd.prog 16 #[.string s, .slice A len cap] w fun e w' => ∃ (v : Value) (ss : List ByteArray), e = .returned v ∧ Rw w.heap.size w' v ss ∧ cats ss = s.data.toList ∧ ss.length ≤ 401 ∧ Below w.heap.size w w' := by
  have HP := Lib.hid hp
  obtain ⟨i0, hi, hz0, hz1, hz2⟩ := info_parts info_str
  have HI := Lib.hid hi
  have HZ0 := Lib.hid hz0
  have HZ1 := Lib.hid hz1
  have HZ2 := Lib.hid hz2
  clear hp hi hz0 hz1 hz2
  go_enter Tryd.func16, Tryd.ntmps16
  go_wp2
  go_loopw [0, 5, 6] (fun x v i wr => PcAt w s.data.toList x v i wr) (fun _ _ i _ => 400 - (intOf i).toNat)
  case atStart => exact ⟨0, s, [], rfl, rfl, by omega, rfl, World.ownsRow_nil _ _ _ _, Below.refl _ _⟩
  case round =>
    obtain ⟨j, r, ss, rfl, rfl, hj, ht, hown, hB⟩ := hrel
    have hrs : r.size ≤ 400 := by have := congrArg List.length ht; rw [List.length_append, len_data, len_data] at this; omega
    have HT := Lib.hid ht
    have HB := Lib.hid hB
    have HO := Lib.hid hown
    have HS := Lib.hid hs
    clear ht hs
    by_cases hr : r.size = 0
    · have hb := hB.size
      clear hB hown
      have e : r = ⟨#[]⟩ := txt_ext (by rw [List.length_eq_zero_iff.1 (show r.data.toList.length = 0 by rw [len_data]; exact hr)])
      subst e
      clear hr hrs
      go_wp2_with (at_builtin; refine wpList_append_own _ rfl (.tmp 42) (.tmp 44) 28 rfl w.heap.size 9 i0 (.string ByteArray.empty) 1 16 Tryd.underlying28 HI.out HZ0.out HZ1.out HZ2.out rfl (by decide) _ _ _ rfl (HO.out.alloc _) ⟨wr.heap.size, 0, none⟩ 1 1 [.string ⟨#[]⟩] rfl rfl (new_lies wr _ _) (one_str _) ?c3 ?c4 ?c5 ?_)
      case c3 => unfold maxLen; omega
      case c4 => omega
      case c5 => have := HB.out.size; simp; omega
      intro v' w2 own2 grow2 _
      have HR2 := Lib.hid (Rw.of_owned (ss := ss ++ [⟨#[]⟩]) (by rw [List.map_append]; exact own2))
      have HB2 := Lib.hid ((HB.out.alloc HB.out.size _).grown grow2 (by have := HB.out.size; simp; omega) (fun k hk => (HO.out.lt k hk).1))
      have hlen : ss.length = j := by have := own2.1; simpa using this
      clear own2 grow2
      go_wp2
      go_ret
      refine ⟨v', ss ++ [⟨#[]⟩], rfl, HR2.out, by rw [cats_snoc]; exact HT.out, by rw [List.length_append, hlen]; simp; omega, HB2.out⟩
    · have hne : r.toList.isEmpty = false := by
        rw [List.isEmpty_eq_false_iff, ByteArray.toList_eq]; intro e; apply hr; rw [← len_data, e]; rfl
      by_cases hj4 : j < 400
      · obtain ⟨z, hz0⟩ : ∃ z : List UInt8, z = cats ss := ⟨_, rfl⟩
        have hstep : ∀ (m : Nat) (p q : ByteArray), m ≤ r.size → 1 ≤ m → p = r.extract 0 m → q = r.extract m r.size → cats (ss ++ [p]) ++ q.data.toList = s.data.toList := by
          intro m p q h1 h2 rfl rfl
          rw [cats_snoc, List.append_assoc, rest_split r m h1]; exact HT.out
        have HSTEP := Lib.hid hstep
        have hb := hB.size
        clear hstep hz0 z
        by_cases hl0 : len = 0
        · subst hl0
          obtain ⟨p, hp⟩ : ∃ p, p = r.extract 0 r.size := ⟨_, rfl⟩
          obtain ⟨q, hq0, hq⟩ : ∃ q, q = ByteArray.empty ∧ q = r.extract r.size r.size := ⟨_, rfl, by simp⟩
          have e1 := hp.symm
          have HN0 := Lib.hid (HSTEP.out r.size p q (by omega) (by omega) hp hq)
          clear hp hq hB hown
          subst hq0
          go_wp2_with (at_builtin; refine wpList_append_own _ rfl (.tmp 33) (.tmp 37) 28 rfl w.heap.size 9 i0 (.string ByteArray.empty) 1 16 Tryd.underlying28 HI.out HZ0.out HZ1.out HZ2.out rfl (by decide) _ _ _ rfl (HO.out.alloc _) ⟨wr.heap.size, 0, none⟩ 1 1 [.string p] rfl rfl (new_lies wr _ _) (one_str _) ?e3 ?e4 ?e5 ?_)
          case e3 => unfold maxLen; omega
          case e4 => omega
          case e5 => have := HB.out.size; simp; omega
          intro v' w2 own2 grow2 _
          have HN := Lib.hid (show PcAt w s.data.toList (.string ByteArray.empty) v' (.int .i64 ((j : Int) + 1)) w2 from
            ⟨j + 1, ByteArray.empty, ss ++ [p], rfl, by rw [Int.natCast_add]; rfl, by omega, HN0.out, by rw [List.map_append]; exact own2, (HB.out.alloc HB.out.size _).grown grow2 (by have := HB.out.size; simp; omega) (fun k hk => (HO.out.lt k hk).1)⟩)
          clear own2 grow2
          go_wp2_with fail
          go_roundw
          case rel => exact HN.out
          case measure => simp [intOf]; omega
        · obtain ⟨ad, b, rfl, cell, b0, b1⟩ := (HP.out.below HB.out) (j % len) (Nat.mod_lt _ (by omega))
          clear hB hown
          have hm0 : 0 ≤ (j : Int) % (len : Int) := Int.emod_nonneg _ (by omega)
          have hm1 : (j : Int) % (len : Int) < (len : Int) := Int.emod_lt_of_pos _ (by omega)
          by_cases hlt : 1 + b % 100 < (r.size : Int)
          · obtain ⟨m, hm⟩ : ∃ m : Nat, 1 + b % 100 = (m : Int) := ⟨(1 + b % 100).toNat, by omega⟩
            obtain ⟨p, hp⟩ : ∃ p, p = r.extract 0 m := ⟨_, rfl⟩
            obtain ⟨q, hq⟩ : ∃ q, q = r.extract m r.size := ⟨_, rfl⟩
            have e1 := hp.symm
            have e2 := hq.symm
            rw [hm] at hlt
            have HN0 := Lib.hid (HSTEP.out m p q (by omega) (by omega) hp hq)
            clear hp hq
            go_wp2_with (at_builtin; refine wpList_append_own _ rfl (.tmp 33) (.tmp 37) 28 rfl w.heap.size 9 i0 (.string ByteArray.empty) 1 16 Tryd.underlying28 HI.out HZ0.out HZ1.out HZ2.out rfl (by decide) _ _ _ rfl (HO.out.alloc _) ⟨wr.heap.size, 0, none⟩ 1 1 [.string p] rfl rfl (new_lies wr _ _) (one_str _) ?e3 ?e4 ?e5 ?_)
            case e3 => unfold maxLen; omega
            case e4 => omega
            case e5 => have := HB.out.size; simp; omega
            intro v' w2 own2 grow2 _
            have HN := Lib.hid (show PcAt w s.data.toList (.string q) v' (.int .i64 ((j : Int) + 1)) w2 from
              ⟨j + 1, q, ss ++ [p], rfl, by rw [Int.natCast_add]; rfl, by omega, HN0.out, by rw [List.map_append]; exact own2, (HB.out.alloc HB.out.size _).grown grow2 (by have := HB.out.size; simp; omega) (fun k hk => (HO.out.lt k hk).1)⟩)
            clear own2 grow2
            go_wp2_with fail
            go_roundw
            case rel => exact HN.out
            case measure => simp [intOf]; omega
          · have hge : ¬ (1 + b % 100 < (r.size : Int)) := hlt
            obtain ⟨p, hp⟩ : ∃ p, p = r.extract 0 r.size := ⟨_, rfl⟩
            have e1 := hp.symm
            have HN0 := Lib.hid (HSTEP.out r.size p ByteArray.empty (by omega) (by omega) hp (by simp))
            clear hp hlt
            go_wp2_with (at_builtin; refine wpList_append_own _ rfl (.tmp 33) (.tmp 37) 28 rfl w.heap.size 9 i0 (.string ByteArray.empty) 1 16 Tryd.underlying28 HI.out HZ0.out HZ1.out HZ2.out rfl (by decide) _ _ _ rfl (HO.out.alloc _) ⟨wr.heap.size, 0, none⟩ 1 1 [.string p] rfl rfl (new_lies wr _ _) (one_str _) ?e3 ?e4 ?e5 ?_)
            case e3 => unfold maxLen; omega
            case e4 => omega
            case e5 => have := HB.out.size; simp; omega
            intro v' w2 own2 grow2 _
            have HN := Lib.hid (show PcAt w s.data.toList (.string ByteArray.empty) v' (.int .i64 ((j : Int) + 1)) w2 from
              ⟨j + 1, ByteArray.empty, ss ++ [p], rfl, by rw [Int.natCast_add]; rfl, by omega, HN0.out, by rw [List.map_append]; exact own2, (HB.out.alloc HB.out.size _).grown grow2 (by have := HB.out.size; simp; omega) (fun k hk => (HO.out.lt k hk).1)⟩)
            clear own2 grow2
            go_wp2_with fail
            go_roundw
            case rel => exact HN.out
            case measure => simp [intOf]; omega
      · have d0 : decide ((j : Int) < 400) = false := by simp; omega
        have hb := hB.size
        clear hB hown
        go_wp2_with (at_builtin; refine wpList_append_own _ rfl (.tmp 42) (.tmp 44) 28 rfl w.heap.size 9 i0 (.string ByteArray.empty) 1 16 Tryd.underlying28 HI.out HZ0.out HZ1.out HZ2.out rfl (by decide) _ _ _ rfl (HO.out.alloc _) ⟨wr.heap.size, 0, none⟩ 1 1 [.string r] rfl rfl (new_lies wr _ _) (one_str _) ?d3 ?d4 ?d5 ?_)
        case d3 => unfold maxLen; omega
        case d4 => omega
        case d5 => have := HB.out.size; simp; omega
        intro v' w2 own2 grow2 _
        have HR2 := Lib.hid (Rw.of_owned (ss := ss ++ [r]) (by rw [List.map_append]; exact own2))
        have HB2 := Lib.hid ((HB.out.alloc HB.out.size _).grown grow2 (by have := HB.out.size; simp; omega) (fun k hk => (HO.out.lt k hk).1))
        have hlen : ss.length = j := by have := own2.1; simpa using this
        clear own2 grow2
        go_wp2
        go_ret
        refine ⟨v', ss ++ [r], rfl, HR2.out, by rw [cats_snoc]; exact HT.out, by rw [List.length_append, hlen]; simp; omega, HB2.out⟩
end Go.Proofs.YtblcadikfjdfoaaDoor
