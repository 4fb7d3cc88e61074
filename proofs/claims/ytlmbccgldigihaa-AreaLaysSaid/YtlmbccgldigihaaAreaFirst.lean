/-
  What the first item of a text is, by its walk (first); the function over which Walk goes (items), and what it does with any loop (items$1).
-/
import Derived.Test.YtlmbccgldigihaaAreaWalks
namespace Go.Proofs.Ytlmbccgldigihaa
open Go.ChangeShapes Go.WideShapes Go.ChangeAt Go.RowKit
set_option linter.unusedVariables false

theorem head_one (s : ByteArray) (h : 0 < s.size) : ∃ t, s.data.toList = s[0] :: t ∧ t.length + 1 = s.size := by
  obtain ⟨⟨l⟩⟩ := s
  cases l with
  | nil => simp [ByteArray.size] at h
  | cons a r => exact ⟨r, rfl, by simp [ByteArray.size]⟩
theorem head_two (s : ByteArray) (h : 1 < s.size) : ∃ t, s.data.toList = s[0] :: s[1] :: t ∧ t.length + 2 = s.size := by
  obtain ⟨⟨l⟩⟩ := s
  match l with
  | [] => simp [ByteArray.size] at h
  | [a] => simp [ByteArray.size] at h
  | a :: b :: r => exact ⟨r, rfl, by simp [ByteArray.size]⟩
theorem fst_low (s : ByteArray) (h : 0 < s.size) (hk : s[0].toNat < 2) : fst s.data.toList = (((s[0].toNat : Int), ⟨#[]⟩), 1, 0) := by
  obtain ⟨t, ht, _⟩ := head_one s h
  rw [ht]
  cases t with
  | nil => rw [fst_one, if_pos hk]
  | cons b r => rw [fst_two, if_pos hk]
theorem fst_alone (s : ByteArray) (h : s.size = 1) (hk : ¬ s[0].toNat < 2) : fst s.data.toList = ((0, ⟨#[]⟩), 0, 4) := by
  obtain ⟨t, ht, hl⟩ := head_one s (by omega)
  have : t = [] := List.length_eq_zero_iff.1 (by omega)
  rw [ht, this, fst_one, if_neg hk]
theorem fst_form (s : ByteArray) (h : 1 < s.size) (hk : ¬ s[0].toNat < 2) (hb : s[1].toNat < 2) : fst s.data.toList = ((0, ⟨#[]⟩), 0, 5) := by
  obtain ⟨t, ht, hl⟩ := head_two s h
  rw [ht, fst_two, if_neg hk, if_pos hb]
theorem fst_short (s : ByteArray) (h : 1 < s.size) (hk : ¬ s[0].toNat < 2) (hb : ¬ s[1].toNat < 2) (hn : s.size < s[1].toNat) : fst s.data.toList = ((0, ⟨#[]⟩), 0, 4) := by
  obtain ⟨t, ht, hl⟩ := head_two s h
  rw [ht, fst_two, if_neg hk, if_neg hb, if_pos (by omega)]
theorem fst_item (s : ByteArray) (h : 1 < s.size) (hk : ¬ s[0].toNat < 2) (hb : ¬ s[1].toNat < 2) (hn : ¬ s.size < s[1].toNat) : fst s.data.toList = (((s[0].toNat : Int), s.extract 2 s[1].toNat), s[1].toNat, 0) := by
  obtain ⟨t, ht, hl⟩ := head_two s h
  have e : txt (t.take (s[1].toNat - 2)) = s.extract 2 s[1].toNat := by
    apply eq_of_data
    rw [data_txt, data_extract, ht]
    obtain ⟨m, hm⟩ : ∃ m, s[1].toNat = m + 2 := ⟨s[1].toNat - 2, by omega⟩
    rw [hm]; simp
  rw [ht, fst_two, if_neg hk, if_neg hb, if_neg (by omega), e]

theorem first_any (s : ByteArray) (r : It × Nat × Int) (h : fst s.data.toList = r) (w : World) (h0 : 0 < s.size) (hs : s.size ≤ 140737488355328) :
    Calls Try.prog 25 #[.string s] w fun e w' => e = .returned (.tuple #[.agg #[.int .i64 r.1.1, .string r.1.2], .int .i64 (r.2.1 : Int), .int .i64 r.2.2]) ∧ Below w.heap.size w w' := by
  have hb0 := s[0].toNat_lt
  have g0 : (0 : Int) < (s.size : Int) := by omega
  by_cases hk : s[0].toNat < 2
  · have e := fst_low s h0 hk
    rw [h] at e
    subst e
    clear h
    go_enter Try.func25, Try.ntmps25
    go_wp2
    exact bodyPost_ret (v := .tuple #[.agg #[.int .i64 (s[0].toNat : Int), .string ⟨#[]⟩], .int .i64 1, .int .i64 0]) (by simp [results, Try.results25, go_sem]) rfl ⟨rfl, by first | exact below_more (Below.refl _ _) _ | exact (below_more (Below.refl _ _) _).setCell (by simp) _⟩
  · by_cases h1 : 1 < s.size
    · have g1 : (1 : Int) < (s.size : Int) := by omega
      have hb1 := s[1].toNat_lt
      by_cases hb : s[1].toNat < 2
      · have e := fst_form s h1 hk hb
        rw [h] at e
        subst e
        clear h
        go_enter Try.func25, Try.ntmps25
        go_wp2
        exact bodyPost_ret (v := .tuple #[.agg #[.int .i64 0, .string ⟨#[]⟩], .int .i64 0, .int .i64 5]) (by simp [results, Try.results25, go_sem]) rfl ⟨rfl, below_more (Below.refl _ _) _⟩
      · by_cases hn : s.size < s[1].toNat
        · have e := fst_short s h1 hk hb hn
          rw [h] at e
          subst e
          clear h
          go_enter Try.func25, Try.ntmps25
          go_wp2
          exact bodyPost_ret (v := .tuple #[.agg #[.int .i64 0, .string ⟨#[]⟩], .int .i64 0, .int .i64 4]) (by simp [results, Try.results25, go_sem]) rfl ⟨rfl, below_more (Below.refl _ _) _⟩
        · have e := fst_item s h1 hk hb hn
          rw [h] at e
          subst e
          clear h
          have q1 : (2 : Int) ≤ (s[1].toNat : Int) := by omega
          have q2 : (s[1].toNat : Int) ≤ (s.size : Int) := by omega
          have q3 : 2 ≤ s[1].toNat := by omega
          have q4 : s[1].toNat ≤ s.size := by omega
          go_enter Try.func25, Try.ntmps25
          go_wp2
          exact bodyPost_ret (v := .tuple #[.agg #[.int .i64 (s[0].toNat : Int), .string (s.extract 2 s[1].toNat)], .int .i64 (s[1].toNat : Int), .int .i64 0]) (by simp [results, Try.results25, go_sem]) rfl ⟨rfl, below_more (Below.refl _ _) _⟩
    · have e := fst_alone s (by omega) hk
      rw [h] at e
      subst e
      have h1' : s.size = 1 := by omega
      clear h
      go_enter Try.func25, Try.ntmps25
      go_wp2
      exact bodyPost_ret (v := .tuple #[.agg #[.int .i64 0, .string ⟨#[]⟩], .int .i64 0, .int .i64 4]) (by simp [results, Try.results25, go_sem]) rfl ⟨rfl, below_more (Below.refl _ _) _⟩
end Go.Proofs.Ytlmbccgldigihaa
