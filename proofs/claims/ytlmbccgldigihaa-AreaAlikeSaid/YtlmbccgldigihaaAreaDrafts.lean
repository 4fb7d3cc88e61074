/-
  Items of drafts, as far as they have room together (items of the laws' package), by its walk.
-/
import Derived.Test.YtlmbccgldigihaaAreaOpen
import Derived.BigRegion
namespace Go.Proofs.Ytlmbccgldigihaa
open Go.ChangeShapes Go.WideShapes Go.ChangeAt Go.RowKit
set_option linter.unusedVariables false

/-- A draft's item. -/
def one (x : It) : It := (2 + x.1 % 254, x.2.extract 0 (min x.2.size 14))
theorem one_size (x : It) : (one x).2.size = min x.2.size 14 := by simp [one, ByteArray.size_extract]
theorem one_may (x : It) (h : 0 ≤ x.1) : may (one x) = true := by
  rw [may_iff, one_size]; simp only [one]; omega
/-- As many as have room, behind n bytes. -/
def drafts : Nat → List It → List It
  | _, [] => []
  | n, x :: r => if 40 < n + 2 + (one x).2.size then [] else one x :: drafts (n + 2 + (one x).2.size) r
theorem drafts_ok : ∀ (l : List It) (n : Nat), n ≤ 40 → (∀ x ∈ l, 0 ≤ x.1) → (drafts n l).all may = true ∧ n + wide (drafts n l) ≤ 40
  | [], n, hn, _ => ⟨rfl, by simpa [drafts, wide] using hn⟩
  | x :: r, n, hn, h => by
    rw [drafts]
    split
    · exact ⟨rfl, by simpa [wide] using hn⟩
    · next h40 =>
      obtain ⟨h1, h2⟩ := drafts_ok r (n + 2 + (one x).2.size) (by omega) (fun y hy => h y (by simp [hy]))
      exact ⟨by simp only [List.all_cons, h1, one_may x (h x (by simp)), Bool.and_self], by simp only [wide]; omega⟩

/-- A slice of items is given back. -/
def Made (D : List It) (w : World) (e : Ending) (w' : World) : Prop := ∃ v, e = .returned v ∧ Row w' v D ∧ Below w.heap.size w w'

set_option maxHeartbeats 4000000 in
set_option maxRecDepth 100000 in
theorem items_dr (v : Value) (l : List It) (w : World) (hd : DRow w v l) : Calls Try.prog 16 #[v] w (Made (drafts 0 l) w) := by
  obtain ⟨p, cap, hv, hl, hc⟩ := id hd
  subst hv
  have HD := Lib.hid hd
  obtain ⟨i0, hi, hz0, hz1, hz2⟩ := info_parts info24
  have HI := Lib.hid hi
  have HZ0 := Lib.hid hz0
  have HZ1 := Lib.hid hz1
  have HZ2 := Lib.hid hz2
  clear hd hc hi hz0 hz1 hz2
  obtain ⟨D, hD⟩ : ∃ D, D = drafts 0 l := ⟨_, rfl⟩
  rw [← hD]
  have HDD := Lib.hid hD
  clear hD
  go_enter Try.func16, Try.ntmps16
  go_wp2
  go_loopw [3, 4, 5] (fun v n i wr => ∃ (j : Nat) (acc : List It), j ≤ l.length ∧ i = .int .i64 (j : Int) ∧ n = .int .i64 (wide acc : Int) ∧ D = acc ++ drafts (wide acc) (l.drop j) ∧ wide acc ≤ 40 ∧ wr.ownsRow w.heap.size 24 2 v acc.length (cellsOf acc) ∧ Below w.heap.size w wr) (fun _ _ i _ => l.length - (intOf i).toNat)
  case atStart => exact ⟨0, [], Nat.zero_le _, rfl, rfl, by rw [HDD.out]; rfl, by simp [wide], World.ownsRow_nil _ _ _ _, Below.refl _ _⟩
  case round =>
    obtain ⟨j, acc, hj, rfl, rfl, hDa, hw40, hO, hB⟩ := hrel
    obtain ⟨vp, vc, rfl⟩ := own_slice hO
    have hlen := length_le_wide acc
    by_cases hlt : j < l.length
    · obtain ⟨x, hx⟩ : ∃ x, l[j]? = some x := ⟨_, List.getElem?_eq_getElem hlt⟩
      obtain ⟨p', cap', hv', _, hc'⟩ := HD.out.below hB
      injection hv' with e1 e2 e3
      subst e1 e3
      obtain ⟨⟨ad, hp, hg, c0, c1⟩, ⟨x0, x1⟩, xs⟩ := hc' j x hx
      subst hp
      have hdr : l.drop j = x :: l.drop (j + 1) := by
        obtain ⟨hj', rfl⟩ := List.getElem?_eq_some_iff.1 hx
        exact List.drop_eq_getElem_cons hj'
      rw [hdr, drafts] at hDa
      have hos := one_size x
      obtain ⟨k, s⟩ := x
      simp only at x0 x1 xs c0 c1 hos
      obtain ⟨y, hy⟩ : ∃ y, y = one (k, s) := ⟨_, rfl⟩
      rw [← hy] at hDa hos
      have hyk : y.1 = 2 + k % 254 := by rw [hy, one]
      have hyb : y.2 = s.extract 0 (min s.size 14) := by rw [hy, one]
      obtain ⟨yk, yb⟩ := y
      simp only at hyk hyb hDa hos
      have HDA := Lib.hid hDa
      have HO := Lib.hid hO
      have HB := Lib.hid hB
      have hsz := hB.size
      have g1 : (0 : Int) ≤ (j : Int) := by omega
      have g2 : (j : Int) < (l.length : Int) := by omega
      have ek : IntKind.i64.wrap k = k := IntWalk.i64_in _ (by omega)
      have ek2 : IntKind.i64.wrap (2 + k % 254) = 2 + k % 254 := IntWalk.i64_in _ (by omega)
      have ek3 : k.tmod 254 = k % 254 := Int.tmod_eq_emod_of_nonneg x0
      obtain ⟨n, hn⟩ : ∃ n, n = wide acc := ⟨_, rfl⟩
      rw [← hn] at hw40 hlen ⊢
      have HN := Lib.hid hn
      clear hDa hO hB hdr hc' hx hn hy
      obtain ⟨m, hm⟩ : ∃ m, m = min s.size 14 := ⟨_, rfl⟩
      have hmn : (if (14 : Int) < (s.size : Int) then (14 : Int) else (s.size : Int)) = (m : Int) := by rw [hm]; split <;> omega
      have q1 : (0 : Int) ≤ (m : Int) := by omega
      have q2 : (m : Int) ≤ (s.size : Int) := by omega
      have q3 : m ≤ s.size := by omega
      have q4 : m ≤ 14 := by omega
      rw [← hm] at hyb hos
      have hyk' := hyk.symm
      have hyb' := hyb.symm
      have HOS := Lib.hid hos
      have hyb14 : yb.size ≤ 14 := by omega
      have k0 : 0 ≤ k % 254 := by omega
      have k1 : k % 254 ≤ 253 := by omega
      have HD0 := Lib.hid (And.intro c0 c1)
      have eyk : IntKind.i64.wrap yk = yk := IntWalk.i64_in _ (by omega)
      clear hyk hyb hos hm
      go_wp2
      go_region_held3 (fun w' => w'.cell? (ad.add (j * 2)) = some (.int .u8 k) ∧ w'.cell? ⟨(ad.add (j * 2)).block, (ad.add (j * 2)).off + 1, none⟩ = some (.string s)) (go_keep) (fail)
      all_goals
        have d1 : (wr.alloc (.cells #[.int .i64 yk, .string yb] 24)).cell? ⟨wr.heap.size, 1, none⟩ = some (.string yb) := Blk.cell (Blk.new wr _ _) 1
        have d0 : (wr.alloc (.cells #[.int .i64 yk, .string yb] 24)).cell? ⟨wr.heap.size, 0, none⟩ = some (.int .i64 yk) := Blk.cell (Blk.new wr _ _) 0
        clear hmn ek ek2 ek3 hyk' hyb' c0 c1
        by_cases h40 : 40 < n + 2 + yb.size
        · go_wp2
          go_ret
          have e := HDA.out
          rw [if_pos (by rw [← HN.out]; exact h40), List.append_nil] at e
          rw [e]
          exact ⟨_, rfl, Row.drew (Row.more (Row.of_own HO.out rfl) _), (below_more HB.out _).drew⟩
        · have o3 := (HO.out.alloc (.cells #[.int .i64 yk, .string yb] 24)).alloc (.cells #[.int .i64 yk, .string yb] 24)
          have n3 : ((wr.alloc (.cells #[.int .i64 yk, .string yb] 24)).alloc (.cells #[.int .i64 yk, .string yb] 24)).heap[wr.heap.size + 1]? = some (.cells #[.int .i64 yk, .string yb] 24 (0, 0)) := by
            have := heap_alloc_new (wr.alloc (.cells #[.int .i64 yk, .string yb] 24)) (.cells #[.int .i64 yk, .string yb] 24)
            rwa [World.size_alloc] at this
          have HO3 := Lib.hid (show ∀ V : World, V.heap = ((wr.alloc (.cells #[.int .i64 yk, .string yb] 24)).alloc (.cells #[.int .i64 yk, .string yb] 24)).heap → V.ownsRow w.heap.size 24 2 (.slice vp acc.length vc) acc.length (cellsOf acc) by
            intro V hV; unfold World.ownsRow at o3 ⊢; rw [hV]; exact o3)
          have HC3 := Lib.hid (show ∀ V : World, V.heap = ((wr.alloc (.cells #[.int .i64 yk, .string yb] 24)).alloc (.cells #[.int .i64 yk, .string yb] 24)).heap → ∀ j u, [Value.int .i64 yk, .string yb][j]? = some u → V.cell? ((⟨wr.heap.size + 1, 0, none⟩ : Addr).add j) = some u by
            intro V hV
            exact World.news_of_block (cs := #[.int .i64 yk, .string yb]) (t := 24) (fr := (0, 0)) (by rw [hV]; exact n3))
          have HM63 : Hid (acc.length + 1 ≤ maxLen) := Lib.hid (by unfold maxLen; omega)
          have HM24 : Hid ((acc.length + 1) * 24 ≤ 140737488355328) := Lib.hid (by omega)
          clear o3 n3
          go_wp2_with (at_builtin; refine wpList_append_lies _ (by rfl) (.tmp 44) (.tmp 46) 22 (by rfl) w.heap.size 24 i0 (.agg #[.int .i64 0, .string ⟨#[]⟩]) 2 24 Try.underlying22 HI.out HZ0.out HZ1.out HZ2.out rfl (by decide) (.slice vp acc.length vc) acc.length (cellsOf acc) (by rfl) (HO3.out _ rfl) ⟨wr.heap.size + 1, 0, none⟩ 1 1 [.int .i64 yk, .string yb] (by rfl) (by rfl) (HC3.out _ rfl) (by simp [Value.oneCell']) (by decide) HM63.out HM24.out (by simp; omega) (wr.heap.size + 2) (by simp) ?_; intro g5 cap5 w5 hown5 hgrow5 hat5 hlt5; have HO5 := Lib.hid hown5; have HB5 := Lib.hid (Below.grown (below_more (below_more HB.out (.cells #[.int .i64 yk, .string yb] 24)) (.cells #[.int .i64 yk, .string yb] 24)).drew hgrow5 (below_more (below_more HB.out _) _).size (own_base HO.out)); clear hown5 hgrow5 hat5 hlt5)
          go_roundw
          case rel =>
            have hwa : wide (acc ++ [(yk, yb)]) = n + 2 + yb.size := by rw [wide_append, wide_one, HN.out]; simp only; omega
            have e := HDA.out
            rw [if_neg (by rw [← HN.out]; exact h40), ← HN.out] at e
            exact ⟨j + 1, acc ++ [(yk, yb)], by omega, by go_num, by rw [hwa]; go_num, by rw [hwa, e]; simp, by omega, by rw [cellsOf_append, List.length_append]; exact HO5.out, HB5.out⟩
          case measure => simp [intOf]; omega
    · obtain rfl : j = l.length := by omega
      rw [List.drop_length, drafts, List.append_nil] at hDa
      have HDA := Lib.hid hDa
      have HO := Lib.hid hO
      have HB := Lib.hid hB
      clear hDa hO hB
      go_wp2
      go_ret
      rw [HDA.out]
      exact ⟨_, rfl, Row.of_own HO.out rfl, HB.out⟩
end Go.Proofs.Ytlmbccgldigihaa
