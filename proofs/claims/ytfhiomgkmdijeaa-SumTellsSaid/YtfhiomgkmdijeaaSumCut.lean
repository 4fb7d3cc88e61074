/-
  The parts, cut (plaitlaw03.cut): twenty at most, of two hundred bytes at most, in a new row.
-/
import Derived.Test.YtfhiomgkmdijeaaSumBytes
import Derived.Deep.AppendLies
import Derived.Deep.RegionLaw
import Derived.SliceStrings
namespace Go.Proofs.Ytfhiomgkmdijeaa
open Go.ChangeShapes Go.WideShapes Go.ChangeAt Go.RowKit
set_option linter.unusedVariables false

/-- A part, cut. -/
def short (s : ByteArray) : ByteArray := s.extract 0 (min s.size 200)
theorem short_le (s : ByteArray) : (short s).size ≤ 200 := by rw [short, ByteArray.size_extract]; omega
/-- The first j parts, cut. -/
def shorts (f : Nat → ByteArray) : Nat → List ByteArray
  | 0 => []
  | j + 1 => shorts f j ++ [short (f j)]
theorem shorts_length (f : Nat → ByteArray) : ∀ j, (shorts f j).length = j
  | 0 => rfl
  | j + 1 => by rw [shorts, List.length_append, shorts_length f j]; rfl
theorem shorts_flat (f : Nat → ByteArray) : ∀ j, (flat (shorts f j)).length ≤ 200 * j
  | 0 => by simp [shorts, flat]
  | j + 1 => by
    have h := shorts_flat f j
    have h2 := short_le (f j)
    have e : flat (shorts f (j + 1)) = flat (shorts f j) ++ (short (f j)).data.toList := by simp [shorts, flat]
    have h3 : (short (f j)).data.toList.length = (short (f j)).size := by simp
    rw [e, List.length_append]
    omega
/-- The parts, as they came. -/
def Parts (w : World) (A : Option Addr) (len : Nat) (f : Nat → ByteArray) : Prop := ∀ i, i < len → ∃ ad, A = some ad ∧ w.cell? (ad.add i) = some (.string (f i)) ∧ (f i).size ≤ 9223372036854775807

theorem Row.of_owned {w : World} {base : Nat} {e : TypeId} {v : Value} {n : Nat} {ss : List ByteArray} (h : w.ownsRow base e 1 v n (ss.map Value.string)) : Row w v ss := by
  obtain ⟨hl, h⟩ := h
  have hn : n = ss.length := by simpa using hl.symm
  subst hn
  rcases h with ⟨rfl, h0⟩ | ⟨g, cap, cur, rfl, hb, hg, h1, h2, h3, h4⟩
  · obtain rfl : ss = [] := List.eq_nil_of_length_eq_zero h0
    exact Row.nil w
  · refine ⟨_, cap, rfl, fun i s hs => ⟨g, rfl, (Array.getElem?_eq_some_iff.1 hg).1, ?_⟩⟩
    have hi : i < ss.length := (List.getElem?_eq_some_iff.1 hs).1
    have e1 : (cur.toList.take (ss.length * 1))[i]? = (ss.map Value.string)[i]? := by rw [h4]
    rw [List.getElem?_take_of_lt (by omega)] at e1
    rw [cell_of_row w g i cur e (0, 0) hg, ← Array.getElem?_toList, e1]
    simp [hs]

theorem own_base {w : World} {base : Nat} {e : TypeId} {size : Nat} {v : Value} {n : Nat} {xs : List Value} (h : w.ownsRow base e size v n xs) (k : Nat) (hk : v.ownBlock = some k) : base ≤ k := by
  rcases h.2 with ⟨rfl, _⟩ | ⟨g, cap, cur, rfl, hb, _⟩
  · simp [Value.ownBlock] at hk
  · simp [Value.ownBlock] at hk; omega
set_option maxHeartbeats 4000000 in
theorem cut_any (A : Option Addr) (len cap : Nat) (f : Nat → ByteArray) (n : Nat) (hn : n = min len 20) (w : World) (hlen : len ≤ 9223372036854775807) (hp : Parts w A len f) :
    Calls Try.prog 9 #[.slice A len cap] w fun e w' => ∃ v, e = .returned v ∧ Row w' v (shorts f n) ∧ Below w.heap.size w w' := by
  obtain ⟨i0, hi, hz0, hz1, hz2⟩ := info_parts (show (Try.prog.info? 9).map (fun i => (i.zero, i.size, i.bytes)) = some (some (.string ByteArray.empty), 1, 16) by kernel_rfl)
  have HP := Lib.hid hp
  have HI := Lib.hid hi
  have HZ0 := Lib.hid hz0
  have HZ1 := Lib.hid hz1
  have HZ2 := Lib.hid hz2
  clear hp hi hz0 hz1 hz2
  have HN := Lib.hid hn
  clear hn
  go_enter Try.func9, Try.ntmps9
  go_wp2
  go_loopw [3, 4] (fun x i wr => ∃ j : Nat, j ≤ n ∧ i = .int .i64 (j : Int) ∧ wr.ownsRow w.heap.size 9 1 x j ((shorts f j).map Value.string) ∧ Below w.heap.size w wr) (fun _ i _ => n - (intOf i).toNat)
  case atStart => exact ⟨0, Nat.zero_le _, rfl, World.ownsRow_nil _ _ _ _, Below.refl _ _⟩
  case round =>
    obtain ⟨j, hj, rfl, hown, hB⟩ := hrel
    have HO := Lib.hid hown
    have HB := Lib.hid hB
    clear hown hB
    by_cases hlt : j < n
    · have hlt1 : j < len := by have := HN.out; omega
      have hlt2 : j < 20 := by have := HN.out; omega
      obtain ⟨ad, rfl, hcell, hsz⟩ := HP.out j hlt1
      obtain ⟨s, hs⟩ : ∃ s, s = f j := ⟨_, rfl⟩
      rw [← hs] at hcell hsz
      have c := (HB.out.cell (p := ad.add j) (lt_of_cell hcell)).trans hcell
      obtain ⟨z, hz⟩ : ∃ z, z = short s := ⟨_, rfl⟩
      have HS := Lib.hid hs
      clear hs hcell
      by_cases h2 : s.size ≤ 200
      · have ez : s.extract 0 s.size = z := by rw [hz, short, Nat.min_eq_left h2]
        have HZ := Lib.hid hz
        clear hz
        have d1 : decide ((j : Int) < 20) = true := by simp; omega
        have d2 : (if (200 : Int) < (s.size : Int) then (200 : Int) else (s.size : Int)) = (s.size : Int) := by rw [if_neg (by omega)]
        have d3 : (0 : Int) ≤ (s.size : Int) := by omega
        go_wp2
        have ho : (wr.alloc (.cells #[.string z] 9)).ownsRow w.heap.size 9 1 u3 j ((shorts f j).map Value.string) := HO.out.alloc _
        have HO2 := Lib.hid (show ∀ W : World, W.heap = (wr.alloc (.cells #[.string z] 9)).heap → W.ownsRow w.heap.size 9 1 u3 j ((shorts f j).map Value.string) by
          intro W hW; unfold World.ownsRow at ho ⊢; rw [hW]; exact ho)
        have HC2 := Lib.hid (show ∀ W : World, W.heap = (wr.alloc (.cells #[.string z] 9)).heap → ∀ j u, [Value.string z][j]? = some u → W.cell? ((⟨wr.heap.size, 0, none⟩ : Addr).add j) = some u by
          intro W hW
          exact World.news_of_block (cs := #[.string z]) (t := 9) (fr := (0, 0)) (by rw [hW]; exact heap_alloc_new wr _))
        have hsz2 := HB.out.size
        clear ho
        go_region_law (refine step_append_lies _ rfl (.tmp 15) (.tmp 27) 22 rfl w.heap.size 9 i0 (.string ByteArray.empty) 1 16 Try.underlying22 HI.out HZ0.out HZ1.out HZ2.out rfl (by decide) u3 j ((shorts f j).map Value.string) (by simp [Act.eval, Act.put]) (HO2.out _ rfl) ⟨wr.heap.size, 0, none⟩ 1 1 [.string z] (by simp [Act.eval, Act.put]) rfl (HC2.out _ rfl) (by simp [Value.oneCell']) (by decide) (by simp [maxLen]; omega) (by omega) (by simp; omega) (wr.heap.size + 1) (by simp) ?_; intro g cap' w1 hown1 hgrow hat hlt'; have HO3 := Lib.hid hown1; have HB3 := Lib.hid ((HB.out.alloc HB.out.size (.cells #[.string z] 9)).drew.grown hgrow (by simp; omega) (own_base HO.out)); clear hown1 hgrow hat hlt')
        all_goals
          go_wp2
          go_roundw
          case rel => exact ⟨j + 1, by omega, by go_num, by rw [shorts, List.map_append, ← HS.out, ← HZ.out]; exact HO3.out, HB3.out⟩
          case measure => simp [intOf]; omega
      · have ez : s.extract 0 200 = z := by rw [hz, short, Nat.min_eq_right (by omega)]
        have HZ := Lib.hid hz
        clear hz
        have d1 : decide ((j : Int) < 20) = true := by simp; omega
        have d2 : (if (200 : Int) < (s.size : Int) then (200 : Int) else (s.size : Int)) = 200 := by rw [if_pos (by omega)]
        have d3 : (200 : Int) ≤ (s.size : Int) := by omega
        go_wp2
        have ho : (wr.alloc (.cells #[.string z] 9)).ownsRow w.heap.size 9 1 u3 j ((shorts f j).map Value.string) := HO.out.alloc _
        have HO2 := Lib.hid (show ∀ W : World, W.heap = (wr.alloc (.cells #[.string z] 9)).heap → W.ownsRow w.heap.size 9 1 u3 j ((shorts f j).map Value.string) by
          intro W hW; unfold World.ownsRow at ho ⊢; rw [hW]; exact ho)
        have HC2 := Lib.hid (show ∀ W : World, W.heap = (wr.alloc (.cells #[.string z] 9)).heap → ∀ j u, [Value.string z][j]? = some u → W.cell? ((⟨wr.heap.size, 0, none⟩ : Addr).add j) = some u by
          intro W hW
          exact World.news_of_block (cs := #[.string z]) (t := 9) (fr := (0, 0)) (by rw [hW]; exact heap_alloc_new wr _))
        have hsz2 := HB.out.size
        clear ho
        go_region_law (refine step_append_lies _ rfl (.tmp 15) (.tmp 27) 22 rfl w.heap.size 9 i0 (.string ByteArray.empty) 1 16 Try.underlying22 HI.out HZ0.out HZ1.out HZ2.out rfl (by decide) u3 j ((shorts f j).map Value.string) (by simp [Act.eval, Act.put]) (HO2.out _ rfl) ⟨wr.heap.size, 0, none⟩ 1 1 [.string z] (by simp [Act.eval, Act.put]) rfl (HC2.out _ rfl) (by simp [Value.oneCell']) (by decide) (by simp [maxLen]; omega) (by omega) (by simp; omega) (wr.heap.size + 1) (by simp) ?_; intro g cap' w1 hown1 hgrow hat hlt'; have HO3 := Lib.hid hown1; have HB3 := Lib.hid ((HB.out.alloc HB.out.size (.cells #[.string z] 9)).drew.grown hgrow (by simp; omega) (own_base HO.out)); clear hown1 hgrow hat hlt')
        all_goals
          go_wp2
          go_roundw
          case rel => exact ⟨j + 1, by omega, by go_num, by rw [shorts, List.map_append, ← HS.out, ← HZ.out]; exact HO3.out, HB3.out⟩
          case measure => simp [intOf]; omega
    · obtain rfl : j = n := by omega
      have hn := HN.out
      by_cases h1 : len ≤ 20
      · obtain rfl : j = len := by omega
        clear hn
        go_wp2
        go_ret
        exact ⟨_, rfl, Row.of_owned HO.out, HB.out⟩
      · obtain rfl : j = 20 := by omega
        have d1 : ((20 : Nat) : Int) < (len : Int) := by omega
        clear hn
        go_wp2
        go_ret
        exact ⟨_, rfl, Row.of_owned HO.out, HB.out⟩
end Go.Proofs.Ytfhiomgkmdijeaa
