/-
  A text that differs in one byte alone never has the same sum: of all texts (three hundred bytes at most), places, and differences (statement SumByte, promises P3.1, P3.3), without condition.
-/
import Derived.Test.YtfhiomgkmdijeaaSumBytes
import Derived.Test.YtfhiomgkmdijeaaRows
import Derived.Deep.RegionHeld3
import Derived.Deep.QuietTactic
import Derived.BigQuiet
import Derived.WalkKit
import Derived.ProofKit
import Derived.OpenShut
import Derived.ShutString
import Derived.ChangeOld
import Derived.Below
import Derived.SizedLaws
namespace Go.Proofs.Ytfhiomgkmdijeaa.sumByte
open Go.ChangeShapes Go.WideShapes Go.ChangeAt Go.RowKit
open Go.ChangeMaps (open_string shut_string)
set_option linter.unusedVariables false


/-- A byte, with others of its bits: another byte. -/
theorem xor_byte (a : UInt8) (c : Int) (h0 : 1 ≤ c) (h1 : c ≤ 255) : ∃ v : UInt8, bits .xor .u8 (a.toNat : Int) c = (v.toNat : Int) ∧ v ≠ a := by
  obtain ⟨n, rfl⟩ := Int.eq_ofNat_of_zero_le (show 0 ≤ c by omega)
  have ha := a.toNat_lt
  have hx : a.toNat ^^^ n < 256 := Nat.xor_lt_two_pow (n := 8) (by omega) (by omega)
  have e : (UInt8.ofNat (a.toNat ^^^ n)).toNat = a.toNat ^^^ n := by rw [UInt8.toNat_ofNat']; exact Nat.mod_eq_of_lt hx
  refine ⟨UInt8.ofNat (a.toNat ^^^ n), by rw [u8_xor_nat _ _ (by omega) (by omega), e], fun h => ?_⟩
  have h2 : a.toNat ^^^ n = a.toNat := by rw [← e, h]
  have h3 : n = 0 := by
    have h4 : a.toNat ^^^ (a.toNat ^^^ n) = a.toNat ^^^ a.toNat := by rw [h2]
    rw [← Nat.xor_assoc, Nat.xor_self, Nat.zero_xor] at h4
    exact h4
  omega
theorem one_byte (l : List UInt8) (p : Nat) (v : UInt8) (hp : p < l.length) (hv : v ≠ l[p]) : (fold (tot (flat [txt (l.set p v)])) % 65535 == fold (tot (flat [txt l])) % 65535) = false := by
  have e : ∀ l : List UInt8, flat [txt l] = l := fun l => by simp [flat]
  rw [e, e, fold_mod _ (tot_b _).1, fold_mod _ (tot_b _).1]
  have hne : v.toNat ≠ l[p].toNat := fun h => hv (UInt8.toNat_inj.1 h)
  have h1 := v.toNat_lt
  have h2 := l[p].toNat_lt
  by_cases hpar : p % 2 = 0
  · rw [tot_set_even l p v hp hpar]; simp; omega
  · rw [tot_set_odd l p v hp (by omega)]; simp; omega

set_option maxHeartbeats 4000000 in
set_option maxRecDepth 100000 in
theorem walk_le (s : ByteArray) (hs : s.size ≤ 140737488351232) (hle : s.size ≤ 300) (a : Int) (ha : (Lit.int .u16 a).wf = true) (b : Int) (hb : (Lit.int .u8 b).wf = true) (w : World) :
    Calls Try.prog 5 #[.string s, .int .u16 a, .int .u8 b] w fun e w' => e = .returned (.bool true) ∧ Below w.heap.size w w' := by
  obtain ⟨a0, a1⟩ := bounds_u16 ha
  obtain ⟨b0, b1⟩ := bounds_u8 hb
  clear ha hb
  obtain ⟨x, hx⟩ : ∃ x : ByteArray, x = s.extract 0 (s.size) := ⟨_, rfl⟩
  have hxs : x.size ≤ 300 := by rw [hx, ByteArray.size_extract]; omega
  go_enter Try.func5, Try.ntmps5
  go_wp2_with fail
  refine (works_any _).mono ?_
  rintro e w1 ⟨rfl, b1w⟩
  have B1 := Lib.hid b1w
  obtain ⟨cap, w2, hconv, hbts, hbel, hsz⟩ := text_bytes w1 x
  have HBTS := Lib.hid hbts
  have HBEL := Lib.hid hbel
  have HSZ := Lib.hid hsz
  clear b1w hbts hbel hsz
  have hx' := hx.symm
  have HX := Lib.hid hx
  clear hx
  by_cases hz : x.size = 0
  · have hz1 : ((x.size : Int) == 0) = true := by simp [hz]
    have hflat : fold (tot (flat [x])) = 0 := by
      have e : x.data.toList = [] := List.eq_nil_of_length_eq_zero (by simpa using hz)
      simp [flat, e]; decide
    have HF := Lib.hid hflat
    have HZ := Lib.hid hz
    clear hz hflat hconv
    go_wp2_with fail
    refine (Of_any _ [x] 0 _ (Row.built _ _ rfl) (by have := HZ.out; simp [flat]; omega) (by simp) HF.out).mono ?_
    rintro e w3 ⟨rfl, b3⟩
    have B3 := Lib.hid (below_then (B1.out.alloc B1.out.size _) b3)
    clear b3
    go_wp2
    go_ret; exact ⟨rfl, B3.out⟩
  · have hz1 : ((x.size : Int) == 0) = false := by simp [hz]
    have hz2 : ¬ (x.size : Int) = 0 := by omega
    obtain ⟨k, hk⟩ : ∃ k : Nat, a % (x.size : Int) = (k : Int) := ⟨_, (Int.toNat_of_nonneg (Int.emod_nonneg _ hz2)).symm⟩
    have hkt : a.tmod (x.size : Int) = (k : Int) := by rw [Int.tmod_eq_emod_of_nonneg a0]; exact hk
    have hkx : k < x.size := by have := Int.emod_lt_of_pos a (show (0 : Int) < x.size by omega); omega
    obtain ⟨l, hl⟩ : ∃ l, l = x.data.toList := ⟨_, rfl⟩
    have hll : l.length = x.size := by rw [hl]; simp
    have hkl : k < l.length := by omega
    obtain ⟨y, hy⟩ : ∃ y, y = l[k] := ⟨_, rfl⟩
    have c := HBTS.out.cell k (by rw [← hl]; exact hkl)
    have f := HBTS.out.frozen k (by rw [← hl]; exact hkl)
    have ey : x.data.toList[k]'(by rw [← hl]; exact hkl) = y := by rw [hy]; simp [hl]
    rw [ey] at c
    obtain ⟨v, hv, hvy⟩ := xor_byte y (1 + b % 255) (by omega) (by omega)
    have hb2 := HBTS.out.set_ k v (by rw [← hl]; exact hkl)
    rw [← hl] at hb2
    have HB2 := Lib.hid hb2
    have HL := Lib.hid hl
    have HLL := Lib.hid hll
    have HY := Lib.hid hy
    have HVY := Lib.hid hvy
    clear hl hll hy hvy hb2 ey
    go_wp2_with fail
    obtain ⟨W3, hW3⟩ : ∃ W3, W3 = w2.setCell ⟨w1.heap.size, k, none⟩ (.int .u8 (v.toNat : Int)) := ⟨_, rfl⟩
    rw [← hW3] at HB2 ⊢
    have HBW3 := Lib.hid (show Below w.heap.size w W3 by rw [hW3]; exact (below_then B1.out HBEL.out).setCell (p := ⟨w1.heap.size, k, none⟩) B1.out.size _)
    clear hW3 c f hconv hv hx'
    obtain ⟨g, hg⟩ : ∃ g, g = w1.heap.size := ⟨_, rfl⟩
    rw [← hg] at HB2 ⊢
    have HG := Lib.hid hg
    obtain ⟨N, hN⟩ : ∃ N, N = x.size := ⟨_, rfl⟩
    rw [← hN]
    have HN := Lib.hid (show N = (l.set k v).length by rw [List.length_set, HLL.out, hN])
    clear hg hN
    obtain ⟨z, hzz⟩ : ∃ z, z = txt (l.set k v) := ⟨_, rfl⟩
    have cv : ∀ W', Bts W' g (l.set k v) → (convert 38 9 (.slice (some ⟨g, 0, none⟩) N cap)).run Try.prog W' = .ok (.string z) W' := fun W' h => by rw [hzz]; exact bytes_text W' g cap N _ h HN.out
    have CV := Lib.hid cv
    clear cv
    obtain ⟨r1, hr1⟩ : ∃ r, fold (tot (flat [x])) = r := ⟨_, rfl⟩
    obtain ⟨r2, hr2⟩ : ∃ r, fold (tot (flat [z])) = r := ⟨_, rfl⟩
    have rb1 : 0 ≤ r1 ∧ r1 ≤ 65535 := by rw [← hr1]; exact fold_b _ (tot_b _).1
    have rb2 : 0 ≤ r2 ∧ r2 ≤ 65535 := by rw [← hr2]; exact fold_b _ (tot_b _).1
    have hne : (r1 % 65535 == r2 % 65535) = false := by
      have h := one_byte l k v hkl (by rw [← HY.out]; exact HVY.out)
      rw [← hzz, hr2, flat_txt, HL.out, ← flat_one, hr1] at h
      simp at h ⊢; omega
    have hs1 : (flat [x]).length ≤ 1099511627776 := by rw [flat_one, ← HL.out, HLL.out]; omega
    have hs2 : (flat [z]).length ≤ 1099511627776 := by rw [hzz, flat_txt, List.length_set, HLL.out]; omega
    have HR1 := Lib.hid hr1
    have HR2 := Lib.hid hr2
    have HS1 := Lib.hid hs1
    have HS2 := Lib.hid hs2
    clear HY hr1 hr2 hzz hs1 hs2 hk hkt hkx hkl hz hz1 hz2
    go_region_held3 (fun w' => (convert 38 9 (.slice (some ⟨g, 0, none⟩) N cap)).run Try.prog w' = .ok (.string z) w')
      (first | exact CV.out _ HB2.out | exact CV.out _ (HB2.out.alloc _) | exact CV.out _ ((HB2.out.alloc _).alloc _) | exact CV.out _ H4.out | exact CV.out _ (H4.out.alloc _) | exact CV.out _ H5.out)
      (first
        | (go_at_call 12; refine (Of_any _ [x] r1 _ ?_ HS1.out ?_ HR1.out).mono ?_; exact Row.drew (Row.built _ _ rfl); simp; rintro e w4 ⟨rfl, b4⟩; have H4 := Lib.hid ((HB2.out.alloc _).drew.below b4 ((HB2.out.alloc _).drew).1); have HB4 := Lib.hid (below_then (((Below.refl W3.heap.size W3).alloc (Nat.le_refl _) _).drew) b4); clear b4)
        | (go_at_call 12; refine (Of_any _ [z] r2 _ ?_ HS2.out ?_ HR2.out).mono ?_; exact Row.built _ _ rfl; simp; rintro e w5 ⟨rfl, b5⟩; have H5 := Lib.hid ((H4.out.alloc _).below b5 (H4.out.alloc _).1); have HB5 := Lib.hid (below_then (HB4.out.alloc HB4.out.size _) b5); clear b5)
        | (go_at_call 12; refine (Of_any _ [x] r1 _ ?_ HS1.out ?_ HR1.out).mono ?_; exact Row.drew ((Row.built _ _ rfl).more _); simp; rintro e w4 ⟨rfl, b4⟩; have H4 := Lib.hid (((HB2.out.alloc _).alloc _).drew.below b4 (((HB2.out.alloc _).alloc _).drew).1); have HB4 := Lib.hid (below_then ((((Below.refl W3.heap.size W3).alloc (Nat.le_refl _) _).alloc (by simp) _).drew) b4); have HZ4 := Lib.hid (Row.below (Row.drew (Row.built2 W3 _ [z] (n := 1) (cap := 1) rfl)) b4); clear b4)
        | (go_at_call 12; refine (Of_any _ [x] r1 _ ?_ HS1.out ?_ HR1.out).mono ?_; exact Row.drew (Row.built2 W3 _ [x] rfl); simp; rintro e w4 ⟨rfl, b4⟩; have H4 := Lib.hid (((HB2.out.alloc _).alloc _).drew.below b4 (((HB2.out.alloc _).alloc _).drew).1); have HB4 := Lib.hid (below_then ((((Below.refl W3.heap.size W3).alloc (Nat.le_refl _) _).alloc (by simp) _).drew) b4); have HZ4 := Lib.hid (Row.below (Row.drew ((Row.built W3 [z] (n := 1) (cap := 1) rfl).more _)) b4); clear b4)
        | (go_at_call 12; refine (Of_any _ [z] r2 _ ?_ HS2.out ?_ HR2.out).mono ?_; exact HZ4.out; simp; rintro e w5 ⟨rfl, b5⟩; have H5 := Lib.hid (H4.out.below b5 H4.out.1); have HB5 := Lib.hid (below_then HB4.out b5); clear b5)
        | (go_at_call 17; refine (Same_any r1 r2 rb1.1 rb1.2 rb2.1 rb2.2 _).mono ?_; rintro e w6 ⟨rfl, rfl⟩))
    all_goals (go_wp2; go_ret; exact ⟨rfl, below_then HBW3.out HB5.out⟩)

set_option maxHeartbeats 4000000 in
set_option maxRecDepth 100000 in
theorem walk_gt (s : ByteArray) (hs : s.size ≤ 140737488351232) (hgt : 300 < s.size) (a : Int) (ha : (Lit.int .u16 a).wf = true) (b : Int) (hb : (Lit.int .u8 b).wf = true) (w : World) :
    Calls Try.prog 5 #[.string s, .int .u16 a, .int .u8 b] w fun e w' => e = .returned (.bool true) ∧ Below w.heap.size w w' := by
  obtain ⟨a0, a1⟩ := bounds_u16 ha
  obtain ⟨b0, b1⟩ := bounds_u8 hb
  clear ha hb
  obtain ⟨x, hx⟩ : ∃ x : ByteArray, x = s.extract 0 (300) := ⟨_, rfl⟩
  have hxs : x.size ≤ 300 := by rw [hx, ByteArray.size_extract]; omega
  go_enter Try.func5, Try.ntmps5
  go_wp2_with fail
  refine (works_any _).mono ?_
  rintro e w1 ⟨rfl, b1w⟩
  have B1 := Lib.hid b1w
  obtain ⟨cap, w2, hconv, hbts, hbel, hsz⟩ := text_bytes w1 x
  have HBTS := Lib.hid hbts
  have HBEL := Lib.hid hbel
  have HSZ := Lib.hid hsz
  clear b1w hbts hbel hsz
  have hx' := hx.symm
  have HX := Lib.hid hx
  clear hx
  by_cases hz : x.size = 0
  · have hz1 : ((x.size : Int) == 0) = true := by simp [hz]
    have hflat : fold (tot (flat [x])) = 0 := by
      have e : x.data.toList = [] := List.eq_nil_of_length_eq_zero (by simpa using hz)
      simp [flat, e]; decide
    have HF := Lib.hid hflat
    have HZ := Lib.hid hz
    clear hz hflat hconv
    go_wp2_with fail
    refine (Of_any _ [x] 0 _ (Row.built _ _ rfl) (by have := HZ.out; simp [flat]; omega) (by simp) HF.out).mono ?_
    rintro e w3 ⟨rfl, b3⟩
    have B3 := Lib.hid (below_then (B1.out.alloc B1.out.size _) b3)
    clear b3
    go_wp2
    go_ret; exact ⟨rfl, B3.out⟩
  · have hz1 : ((x.size : Int) == 0) = false := by simp [hz]
    have hz2 : ¬ (x.size : Int) = 0 := by omega
    obtain ⟨k, hk⟩ : ∃ k : Nat, a % (x.size : Int) = (k : Int) := ⟨_, (Int.toNat_of_nonneg (Int.emod_nonneg _ hz2)).symm⟩
    have hkt : a.tmod (x.size : Int) = (k : Int) := by rw [Int.tmod_eq_emod_of_nonneg a0]; exact hk
    have hkx : k < x.size := by have := Int.emod_lt_of_pos a (show (0 : Int) < x.size by omega); omega
    obtain ⟨l, hl⟩ : ∃ l, l = x.data.toList := ⟨_, rfl⟩
    have hll : l.length = x.size := by rw [hl]; simp
    have hkl : k < l.length := by omega
    obtain ⟨y, hy⟩ : ∃ y, y = l[k] := ⟨_, rfl⟩
    have c := HBTS.out.cell k (by rw [← hl]; exact hkl)
    have f := HBTS.out.frozen k (by rw [← hl]; exact hkl)
    have ey : x.data.toList[k]'(by rw [← hl]; exact hkl) = y := by rw [hy]; simp [hl]
    rw [ey] at c
    obtain ⟨v, hv, hvy⟩ := xor_byte y (1 + b % 255) (by omega) (by omega)
    have hb2 := HBTS.out.set_ k v (by rw [← hl]; exact hkl)
    rw [← hl] at hb2
    have HB2 := Lib.hid hb2
    have HL := Lib.hid hl
    have HLL := Lib.hid hll
    have HY := Lib.hid hy
    have HVY := Lib.hid hvy
    clear hl hll hy hvy hb2 ey
    go_wp2_with fail
    obtain ⟨W3, hW3⟩ : ∃ W3, W3 = w2.setCell ⟨w1.heap.size, k, none⟩ (.int .u8 (v.toNat : Int)) := ⟨_, rfl⟩
    rw [← hW3] at HB2 ⊢
    have HBW3 := Lib.hid (show Below w.heap.size w W3 by rw [hW3]; exact (below_then B1.out HBEL.out).setCell (p := ⟨w1.heap.size, k, none⟩) B1.out.size _)
    clear hW3 c f hconv hv hx'
    obtain ⟨g, hg⟩ : ∃ g, g = w1.heap.size := ⟨_, rfl⟩
    rw [← hg] at HB2 ⊢
    have HG := Lib.hid hg
    obtain ⟨N, hN⟩ : ∃ N, N = x.size := ⟨_, rfl⟩
    rw [← hN]
    have HN := Lib.hid (show N = (l.set k v).length by rw [List.length_set, HLL.out, hN])
    clear hg hN
    obtain ⟨z, hzz⟩ : ∃ z, z = txt (l.set k v) := ⟨_, rfl⟩
    have cv : ∀ W', Bts W' g (l.set k v) → (convert 38 9 (.slice (some ⟨g, 0, none⟩) N cap)).run Try.prog W' = .ok (.string z) W' := fun W' h => by rw [hzz]; exact bytes_text W' g cap N _ h HN.out
    have CV := Lib.hid cv
    clear cv
    obtain ⟨r1, hr1⟩ : ∃ r, fold (tot (flat [x])) = r := ⟨_, rfl⟩
    obtain ⟨r2, hr2⟩ : ∃ r, fold (tot (flat [z])) = r := ⟨_, rfl⟩
    have rb1 : 0 ≤ r1 ∧ r1 ≤ 65535 := by rw [← hr1]; exact fold_b _ (tot_b _).1
    have rb2 : 0 ≤ r2 ∧ r2 ≤ 65535 := by rw [← hr2]; exact fold_b _ (tot_b _).1
    have hne : (r1 % 65535 == r2 % 65535) = false := by
      have h := one_byte l k v hkl (by rw [← HY.out]; exact HVY.out)
      rw [← hzz, hr2, flat_txt, HL.out, ← flat_one, hr1] at h
      simp at h ⊢; omega
    have hs1 : (flat [x]).length ≤ 1099511627776 := by rw [flat_one, ← HL.out, HLL.out]; omega
    have hs2 : (flat [z]).length ≤ 1099511627776 := by rw [hzz, flat_txt, List.length_set, HLL.out]; omega
    have HR1 := Lib.hid hr1
    have HR2 := Lib.hid hr2
    have HS1 := Lib.hid hs1
    have HS2 := Lib.hid hs2
    clear HY hr1 hr2 hzz hs1 hs2 hk hkt hkx hkl hz hz1 hz2
    go_region_held3 (fun w' => (convert 38 9 (.slice (some ⟨g, 0, none⟩) N cap)).run Try.prog w' = .ok (.string z) w')
      (first | exact CV.out _ HB2.out | exact CV.out _ (HB2.out.alloc _) | exact CV.out _ ((HB2.out.alloc _).alloc _) | exact CV.out _ H4.out | exact CV.out _ (H4.out.alloc _) | exact CV.out _ H5.out)
      (first
        | (go_at_call 12; refine (Of_any _ [x] r1 _ ?_ HS1.out ?_ HR1.out).mono ?_; exact Row.drew (Row.built _ _ rfl); simp; rintro e w4 ⟨rfl, b4⟩; have H4 := Lib.hid ((HB2.out.alloc _).drew.below b4 ((HB2.out.alloc _).drew).1); have HB4 := Lib.hid (below_then (((Below.refl W3.heap.size W3).alloc (Nat.le_refl _) _).drew) b4); clear b4)
        | (go_at_call 12; refine (Of_any _ [z] r2 _ ?_ HS2.out ?_ HR2.out).mono ?_; exact Row.built _ _ rfl; simp; rintro e w5 ⟨rfl, b5⟩; have H5 := Lib.hid ((H4.out.alloc _).below b5 (H4.out.alloc _).1); have HB5 := Lib.hid (below_then (HB4.out.alloc HB4.out.size _) b5); clear b5)
        | (go_at_call 12; refine (Of_any _ [x] r1 _ ?_ HS1.out ?_ HR1.out).mono ?_; exact Row.drew ((Row.built _ _ rfl).more _); simp; rintro e w4 ⟨rfl, b4⟩; have H4 := Lib.hid (((HB2.out.alloc _).alloc _).drew.below b4 (((HB2.out.alloc _).alloc _).drew).1); have HB4 := Lib.hid (below_then ((((Below.refl W3.heap.size W3).alloc (Nat.le_refl _) _).alloc (by simp) _).drew) b4); have HZ4 := Lib.hid (Row.below (Row.drew (Row.built2 W3 _ [z] (n := 1) (cap := 1) rfl)) b4); clear b4)
        | (go_at_call 12; refine (Of_any _ [x] r1 _ ?_ HS1.out ?_ HR1.out).mono ?_; exact Row.drew (Row.built2 W3 _ [x] rfl); simp; rintro e w4 ⟨rfl, b4⟩; have H4 := Lib.hid (((HB2.out.alloc _).alloc _).drew.below b4 (((HB2.out.alloc _).alloc _).drew).1); have HB4 := Lib.hid (below_then ((((Below.refl W3.heap.size W3).alloc (Nat.le_refl _) _).alloc (by simp) _).drew) b4); have HZ4 := Lib.hid (Row.below (Row.drew ((Row.built W3 [z] (n := 1) (cap := 1) rfl).more _)) b4); clear b4)
        | (go_at_call 12; refine (Of_any _ [z] r2 _ ?_ HS2.out ?_ HR2.out).mono ?_; exact HZ4.out; simp; rintro e w5 ⟨rfl, b5⟩; have H5 := Lib.hid (H4.out.below b5 H4.out.1); have HB5 := Lib.hid (below_then HB4.out b5); clear b5)
        | (go_at_call 17; refine (Same_any r1 r2 rb1.1 rb1.2 rb2.1 rb2.2 _).mono ?_; rintro e w6 ⟨rfl, rfl⟩))
    all_goals (go_wp2; go_ret; exact ⟨rfl, below_then HBW3.out HB5.out⟩)

theorem walk (s : ByteArray) (hs : s.size ≤ 140737488351232) (a : Int) (ha : (Lit.int .u16 a).wf = true) (b : Int) (hb : (Lit.int .u8 b).wf = true) (w : World) :
    Calls Try.prog 5 #[.string s, .int .u16 a, .int .u8 b] w fun e w' => e = .returned (.bool true) ∧ Below w.heap.size w w' := by
  by_cases h : s.size ≤ 300
  · exact walk_le s hs h a ha b hb w
  · exact walk_gt s hs (by omega) a ha b hb w

theorem own : ownKnob Try.prog.godebug = none := by kernel_rfl
theorem laidOut : laidOutB Try.prog = true := by kernel_rfl

set_option maxRecDepth 100000 in
theorem lifted (os : Os) (started : os.Started) (H : Type) (enc : TypeId × Value → H) :
    ReturnsInHanded {} Try.checked os 5 .any (Rows.sumByteSpec.pre6 enc Try.prog Try.f5 Rows.sumByteRow.domain false) (Rows.sumByteSpec.post enc Try.prog Try.f5 false true false false) := by
  refine returnsInHanded_of_change_sized (C := Try.checked) own started (by kernel_rfl) Try.func5
    (ChangeSpec.witness6 (enc := enc) (C := Try.checked) false ⟨#[], #[.string ByteArray.empty, .int .u16 0, .int .u8 0], []⟩ 8 (by kernel_rfl) (by kernel_rfl) (by kernel_rfl) (by kernel_rfl)) ?_
  intro W base args ds gs before hval0 hW hcnd hsz0 _
  have hsz : (DataW.weightsEach Try.prog (Try.f5.params.toList ++ Rows.sumByteSpec.plain.varTypes Try.prog) (ds ++ gs)).all (· ≤ reachBytes) = true := hsz0
  have hval : ∀ (j : Nat) t v, Try.f5.params[j]? = some t → args[j]? = some v → Value.okWide Try.prog W .any base t v := hval0
  have hW' := hW
  obtain ⟨p, q, hA0, hV, rfl, hfz, hnd⟩ := hW
  have hA : DataW.TrodAll enc Try.prog W 0 (fun _ => true) true Try.f5.params.toList args.toList ds p := hA0
  rw [Try.params5] at hA hval hsz
  obtain ⟨v0, vs0, d0, ds0, p0, q0, hargs, rfl, rfl, h0, r0⟩ := trodAll_cons hA
  obtain ⟨v1, vs1, d1, ds1, p1, q1, rfl, rfl, rfl, h1, r1⟩ := trodAll_cons r0
  obtain ⟨v2, vs2, d2, ds2, p2, q2, rfl, rfl, rfl, h2, r2⟩ := trodAll_cons r1
  obtain ⟨rfl, rfl, rfl⟩ := trodAll_nil r2
  obtain rfl : args = #[v0, v1, v2] := by cases args; simp_all
  obtain ⟨rfl, rfl⟩ := trodVars_none hV
  obtain ⟨a0, rfl, rfl, rfl, w0⟩ := open_string Try.underlying9 (hval 0 9 v0 rfl rfl) h0
  obtain ⟨a1, rfl, rfl, rfl, w1⟩ := open_int Try.underlying24 (hval 1 24 v1 rfl rfl) h1
  obtain ⟨a2, rfl, rfl, rfl, w2⟩ := open_int Try.underlying5 (hval 2 5 v2 rfl rfl) h2
  have z0 : a0.size ≤ 140737488351232 := by have := sized_string hsz (j := 0) (t := 9) rfl rfl; simpa [reachBytes] using this
  clear hA0 hval0
  simp only [List.append_nil] at hW'
  refine (walk a0 z0 a1 w1 a2 w2 W).mono fun e W' ⟨he, bel⟩ => ?_
  subst he
  exact ⟨_, rfl, _, _, _, [], _, [], hW', trodAll_mk1 (shut_bool Try.underlying4 _), (trodAll_cons_mk (shut_string Try.underlying9 w0) (trodAll_cons_mk (shut_int Try.underlying24 w1) (trodAll_cons_mk (shut_int Try.underlying5 w2) trodAll_mk0))), rfl, bel.frame _, fun h => by cases h⟩

theorem over : Rows.sumByteRow.holds Try.pinned (OpenSpec.ofChange Rows.sumByteSpec) :=
  OpenClaim.holds_of_wide 5 Try.f5 rfl rfl rfl rfl rfl rfl rfl ⟨rfl, rfl, rfl, rfl, rfl⟩ rfl rfl rfl rfl rfl (by kernel_rfl) Try.func5 (by kernel_rfl)
    (of_decide_eq_true (by kernel_rfl)) (by unfold Func.isWrapper; first | (rw [if_pos (by decide +kernel)]; kernel_rfl) | (rw [if_neg (by decide +kernel)]; exact ⟨rfl, rfl⟩))
    (fun os started H enc _ => lifted os started H enc)

theorem proved : Rows.SumByteSaid := over
#print axioms proved
end Go.Proofs.Ytfhiomgkmdijeaa.sumByte
