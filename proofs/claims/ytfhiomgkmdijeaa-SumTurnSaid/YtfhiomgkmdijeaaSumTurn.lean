/-
  Who turns a word in a sum has a sum that is equivalent to the one computed anew; a text with the complement of its sum in the place of a word 0 is whole: of all texts (two hundred bytes at most), places, and words (statement SumTurn, promises P3.2, P3.3), without condition.
-/
import Derived.Test.YtfhiomgkmdijeaaSumBytes
import Derived.Test.YtfhiomgkmdijeaaRows
import Derived.Deep.RegionHeld3
import Derived.Deep.QuietTactic
import Derived.BigQuiet
import Derived.WalkKit
import Derived.ProofKit
import Derived.OpenShut
import Derived.ShutString
import Derived.ChangeOld
import Derived.Below
import Derived.SizedLaws
namespace Go.Proofs.Ytfhiomgkmdijeaa.sumTurn
open Go.ChangeShapes Go.WideShapes Go.ChangeAt Go.RowKit
open Go.ChangeMaps (open_string shut_string)
set_option linter.unusedVariables false


/-- A word set anew. -/
theorem tot_word (l : List UInt8) (p0 p1 : Nat) (h0 : p0 % 2 = 0) (h1 : p1 = p0 + 1) (hl : p1 < l.length) (v0 v1 : UInt8) :
    tot ((l.set p0 v0).set p1 v1) = tot l + (256 * (v0.toNat : Int) + (v1.toNat : Int)) - (256 * ((l[p0]'(by omega)).toNat : Int) + (l[p1].toNat : Int)) := by
  have e1 : (l.set p0 v0)[p1]'(by rw [List.length_set]; exact hl) = l[p1] := by
    rw [List.getElem_set_ne (by omega)]
  rw [tot_set_odd (l.set p0 v0) p1 v1 (by rw [List.length_set]; exact hl) (by omega), e1, tot_set_even l p0 v0 (by omega) h0]
  omega
theorem word_at (l : List UInt8) (p0 p1 : Nat) (h1 : p1 = p0 + 1) (hl : p1 < l.length) (v0 v1 : UInt8) :
    ((l.set p0 v0).set p1 v1)[p0]'(by simp; omega) = v0 ∧ ((l.set p0 v0).set p1 v1)[p1]'(by simp; omega) = v1 := by
  constructor
  · rw [List.getElem_set_ne (by omega)]; simp
  · simp
theorem zeros_at (l : List UInt8) (p0 p1 : Nat) (h1 : p1 = p0 + 1) (hl : p1 < l.length) (l2 : List UInt8) (e : l2 = (l.set p0 0).set p1 0) (h0' : p0 < l2.length) (h1' : p1 < l2.length) : l2[p0] = 0 ∧ l2[p1] = 0 := by
  subst e
  exact word_at l p0 p1 h1 hl 0 0
theorem byte_of (n : Int) (h0 : 0 ≤ n) (h1 : n ≤ 255) : ∃ v : UInt8, n = (v.toNat : Int) := by
  obtain ⟨k, rfl⟩ := Int.eq_ofNat_of_zero_le h0
  exact ⟨UInt8.ofNat k, by rw [UInt8.toNat_ofNat', Nat.mod_eq_of_lt (by omega)]⟩

set_option maxHeartbeats 4000000 in
set_option maxRecDepth 100000 in
theorem walk_odd (s : ByteArray) (hs : s.size ≤ 140737488351232) (hle : s.size ≤ 200) (ho : s.size % 2 = 1) (a : Int) (ha : (Lit.int .u8 a).wf = true) (b : Int) (hb : (Lit.int .u16 b).wf = true) (w : World) :
    Calls Try.prog 7 #[.string s, .int .u8 a, .int .u16 b] w fun e w' => e = .returned (.bool true) ∧ Below w.heap.size w w' := by
  obtain ⟨a0, a1⟩ := bounds_u8 ha
  obtain ⟨b0, b1⟩ := bounds_u16 hb
  clear ha hb
  obtain ⟨y, hy⟩ : ∃ x : ByteArray, x = s.extract 0 (s.size) := ⟨_, rfl⟩
  have hys : y.size = s.size := by rw [hy, ByteArray.size_extract]; omega
  have hy' := hy.symm
  clear hy
  obtain ⟨x, hx⟩ : ∃ x : ByteArray, y ++ ⟨#[0]⟩ = x := ⟨_, rfl⟩
  have hxs : x.size = y.size + 1 := by rw [← hx, ByteArray.size_append]; rfl
  have hpar : ((y.size : Int) % 2 == 1) = true := by simp; omega
  have hxb : x.size ≤ 201 := by omega
  have hyb : y.size ≤ 200 := by omega
  have HXE := Lib.hid (show x.size % 2 = 0 by omega)
  clear hxs hys
  go_enter Try.func7, Try.ntmps7
  go_wp2_with fail
  refine (works_any _).mono ?_
  rintro e w1 ⟨rfl, b1w⟩
  have B1 := Lib.hid b1w
  clear b1w
  by_cases hz : x.size = 0
  · have hz1 : ((x.size : Int) == 0) = true := by simp [hz]
    clear hz
    go_wp2
    go_ret; exact ⟨rfl, B1.out⟩
  · have hz1 : ((x.size : Int) == 0) = false := by simp [hz]
    obtain ⟨cap, w2, hconv, hbts, hbel, hsz⟩ := text_bytes w1 x
    have HBTS := Lib.hid hbts
    have HBEL := Lib.hid hbel
    have HSZ := Lib.hid hsz
    clear hbts hbel hsz
    obtain ⟨m, hm⟩ : ∃ m : Nat, m = x.size / 2 := ⟨_, rfl⟩
    have hxe := HXE.out
    have hm1 : (x.size : Int) / 2 = (m : Int) := by omega
    have hm2 : (x.size : Int).tdiv 2 = (m : Int) := by rw [Int.tdiv_eq_ediv_of_nonneg (by omega)]; exact hm1
    have hm3 : ¬ (m : Int) = 0 := by omega
    have hm4 : ((m : Int) == 0) = false := by simp; omega
    obtain ⟨k, hk⟩ : ∃ k : Nat, a % (m : Int) = (k : Int) := ⟨_, (Int.toNat_of_nonneg (Int.emod_nonneg _ hm3)).symm⟩
    have hkt : a.tmod (m : Int) = (k : Int) := by rw [Int.tmod_eq_emod_of_nonneg a0]; exact hk
    have hkm : k < m := by have := Int.emod_lt_of_pos a (show (0 : Int) < m by omega); omega
    obtain ⟨p0, hp0⟩ : ∃ p0 : Nat, p0 = 2 * k := ⟨_, rfl⟩
    obtain ⟨p1, hp1⟩ : ∃ p1 : Nat, p1 = p0 + 1 := ⟨_, rfl⟩
    have q0 : 2 * (k : Int) = (p0 : Int) := by omega
    have q1 : (p0 : Int) + 1 = (p1 : Int) := by omega
    have q2 : IntKind.i64.wrap (2 * (k : Int)) = (p0 : Int) := by rw [q0]; exact IntWalk.i64_in _ (by omega)
    have q3 : IntKind.i64.wrap ((p0 : Int) + 1) = (p1 : Int) := by rw [q1]; exact IntWalk.i64_in _ (by omega)
    have hp1x : p1 < x.size := by omega
    have hp0x : p0 < x.size := by omega
    have HP0 := Lib.hid hp0
    have HP1 := Lib.hid hp1
    obtain ⟨l, hl⟩ : ∃ l, l = x.data.toList := ⟨_, rfl⟩
    rw [← hl] at HBTS
    have hll : l.length = x.size := by rw [hl]; simp
    have h0l : p0 < l.length := by omega
    have h1l : p1 < l.length := by omega
    obtain ⟨y0, hy0⟩ : ∃ y0, y0 = l[p0] := ⟨_, rfl⟩
    obtain ⟨y1, hy1⟩ : ∃ y1, y1 = l[p1] := ⟨_, rfl⟩
    have c0 := HBTS.out.cell p0 h0l
    have c1 := HBTS.out.cell p1 h1l
    have f0 := HBTS.out.frozen p0 h0l
    have f1 := HBTS.out.frozen p1 h1l
    rw [← hy0] at c0
    rw [← hy1] at c1
    have u0 := y0.toNat_lt
    have u1 := y1.toNat_lt
    have g0 : IntKind.u16.wrap (y0.toNat : Int) = (y0.toNat : Int) := by rw [IntKind.wrap_u16]; omega
    have g1 : IntKind.u16.wrap (y1.toNat : Int) = (y1.toNat : Int) := by rw [IntKind.wrap_u16]; omega
    have g2 : IntKind.u16.wrap ((y0.toNat : Int) * 256) = (y0.toNat : Int) * 256 := by rw [IntKind.wrap_u16]; omega
    have g3 := or_word (y0.toNat : Int) (y1.toNat : Int) (by omega) (by omega) (by omega) (by omega)
    have HL := Lib.hid hl
    have HLL := Lib.hid hll
    have HY0 := Lib.hid hy0
    have HY1 := Lib.hid hy1
    clear hl hll hy0 hy1 hp0 hp1 hm q0 q1 hxe
    obtain ⟨v0, hv0⟩ := byte_of (b / 256) (by omega) (by omega)
    obtain ⟨v1, hv1⟩ := byte_of (b % 256) (by omega) (by omega)
    have HBV := Lib.hid (show b = 256 * (v0.toNat : Int) + (v1.toNat : Int) by omega)
    obtain ⟨was, hwas⟩ : ∃ was, 256 * (y0.toNat : Int) + (y1.toNat : Int) = was := ⟨_, rfl⟩
    rw [hwas] at g3
    have wb0 : 0 ≤ was := by omega
    have wb1 : was ≤ 65535 := by omega
    have HWAS := Lib.hid hwas
    have ne1 : ¬ p0 = p1 := by have := HP1.out; omega
    have ne2 : ¬ p1 = p0 := by have := HP1.out; omega
    clear hwas
    go_wp2_with fail
    go_quiet (fail)
    obtain ⟨W2, hW2⟩ : ∃ W2, W2 = w2.drewN nq := ⟨_, rfl⟩
    have hb2 := HBTS.out.drewN nq
    have hbl2 := below_drewN (below_then B1.out HBEL.out) nq
    rw [← hW2] at hb2 hbl2 ⊢
    have HBW2 := Lib.hid hbl2
    have HB2 := Lib.hid hb2
    clear hW2 hb2 hbl2 c0 c1 f0 f1 hconv HBTS HBEL HSZ hy' g0 g1 g2 g3 u0 u1
    have c0 := HB2.out.cell p0 h0l
    have c1 := HB2.out.cell p1 h1l
    have f0 := HB2.out.frozen p0 h0l
    have f1 := HB2.out.frozen p1 h1l
    go_wp2_with fail
    clear c0 c1 f0 f1
    obtain ⟨W3, hW3⟩ : ∃ W3, W3 = (W2.setCell ⟨w1.heap.size, p0, none⟩ (.int .u8 (v0.toNat : Int))).setCell ⟨w1.heap.size, p1, none⟩ (.int .u8 (v1.toNat : Int)) := ⟨_, rfl⟩
    obtain ⟨l1, hl1⟩ : ∃ l1, l1 = (l.set p0 v0).set p1 v1 := ⟨_, rfl⟩
    have hb3 : Bts W3 w1.heap.size l1 := by rw [hW3, hl1]; exact (HB2.out.set_ p0 v0 h0l).set_ p1 v1 (by rw [List.length_set]; exact h1l)
    have HBW3 := Lib.hid (show Below w.heap.size w W3 by rw [hW3]; exact (HBW2.out.setCell (p := ⟨w1.heap.size, p0, none⟩) B1.out.size _).setCell (p := ⟨w1.heap.size, p1, none⟩) B1.out.size _)
    have hgw := B1.out.size
    rw [← hW3]
    clear hW3 HB2 HBW2
    obtain ⟨g, hg⟩ : ∃ g, g = w1.heap.size := ⟨_, rfl⟩
    rw [← hg] at hb3 hgw ⊢
    obtain ⟨N, hN⟩ : ∃ N, N = x.size := ⟨_, rfl⟩
    have hNl : N = l1.length := by rw [hl1, List.length_set, List.length_set, HLL.out, hN]
    have hNs : N ≤ 201 := by omega
    have h0n : p0 < N := by omega
    have h1n : p1 < N := by omega
    rw [← hN]
    have HN := Lib.hid hNl
    have HB3 := Lib.hid hb3
    clear hg hNl hb3
    have hw1 := tot_word l p0 p1 (by have := HP0.out; omega) HP1.out h1l v0 v1
    rw [← hl1, ← HY0.out, ← HY1.out, HWAS.out, ← HBV.out] at hw1
    have hat1 := word_at l p0 p1 HP1.out h1l v0 v1
    have hlen1 : l1.length = N := HN.out.symm
    obtain ⟨z1, hz1'⟩ : ∃ z, z = txt l1 := ⟨_, rfl⟩
    have cv : ∀ W', Bts W' g l1 → (convert 38 9 (.slice (some ⟨g, 0, none⟩) N cap)).run Try.prog W' = .ok (.string z1) W' := fun W' h => by rw [hz1']; exact bytes_text W' g cap N _ h HN.out
    have CV := Lib.hid cv
    obtain ⟨r1, hr1⟩ : ∃ r, fold (tot (flat [x])) = r := ⟨_, rfl⟩
    obtain ⟨r2, hr2⟩ : ∃ r, fold (tot (flat [z1])) = r := ⟨_, rfl⟩
    have rb1 : 0 ≤ r1 ∧ r1 ≤ 65535 := by rw [← hr1]; exact fold_b _ (tot_b _).1
    have rb2 : 0 ≤ r2 ∧ r2 ≤ 65535 := by rw [← hr2]; exact fold_b _ (tot_b _).1
    have tl := (tot_b l).1
    have tl1 := (tot_b l1).1
    have e1 : r1 % 65535 = tot l % 65535 := by rw [← hr1, flat_one, ← HL.out]; exact fold_mod _ tl
    have e2 : r2 % 65535 = tot l1 % 65535 := by rw [← hr2, hz1', flat_txt]; exact fold_mod _ tl1
    obtain ⟨rt, hrt⟩ : ∃ r, fold (r1 + (65535 - was) + b) = r := ⟨_, rfl⟩
    have rbt : 0 ≤ rt ∧ rt ≤ 65535 := by rw [← hrt]; exact fold_b _ (by omega)
    have et : rt % 65535 = (r1 + (65535 - was) + b) % 65535 := by rw [← hrt]; exact fold_mod _ (by omega)
    have hne : (rt % 65535 == r2 % 65535) = true := by rw [et, e2, hw1]; simp; omega
    have hs1 : (flat [x]).length ≤ 1099511627776 := by rw [flat_one, ← HL.out, HLL.out]; omega
    have hs2 : (flat [z1]).length ≤ 1099511627776 := by rw [hz1', flat_txt, hlen1]; omega
    have HR1 := Lib.hid hr1
    have HR2 := Lib.hid hr2
    have HRT := Lib.hid hrt
    have HS1 := Lib.hid hs1
    have HS2 := Lib.hid hs2
    have HLEN1 := Lib.hid hlen1
    have HAT1 := Lib.hid hat1
    have HL1 := Lib.hid hl1
    clear hr1 hr2 hrt hs1 hs2 hz1' cv e1 e2 et hw1 hk hkt hz hz1 hm1 hm2 hm3 hm4 hlen1 hat1 hl1 tl tl1 HY0 HY1 hN
    go_region_held3 (fun w' => (convert 38 9 (.slice (some ⟨g, 0, none⟩) N cap)).run Try.prog w' = .ok (.string z1) w')
      (first | exact CV.out _ HB3.out | exact CV.out _ (HB3.out.alloc _) | exact CV.out _ ((HB3.out.alloc _).alloc _) | exact CV.out _ H4.out | exact CV.out _ (H4.out.alloc _) | exact CV.out _ H5.out)
      (first
        | (go_at_call 12; refine (Of_any _ [x] r1 _ ?_ HS1.out ?_ HR1.out).mono ?_; exact Row.drew (Row.built _ _ rfl); simp; rintro e w4 ⟨rfl, b4⟩; have H4 := Lib.hid ((HB3.out.alloc _).drew.below b4 ((HB3.out.alloc _).drew).1); have HB4 := Lib.hid (below_then (((Below.refl W3.heap.size W3).alloc (Nat.le_refl _) _).drew) b4); clear b4)
        | (go_at_call 12; refine (Of_any _ [z1] r2 _ ?_ HS2.out ?_ HR2.out).mono ?_; exact Row.built _ _ rfl; simp; rintro e w5 ⟨rfl, b5⟩; have H5 := Lib.hid ((H4.out.alloc _).below b5 (H4.out.alloc _).1); have HB5 := Lib.hid (below_then (HB4.out.alloc HB4.out.size _) b5); clear b5)
        | (go_at_call 12; refine (Of_any _ [x] r1 _ ?_ HS1.out ?_ HR1.out).mono ?_; exact Row.drew ((Row.built _ _ rfl).more _); simp; rintro e w4 ⟨rfl, b4⟩; have H4 := Lib.hid (((HB3.out.alloc _).alloc _).drew.below b4 (((HB3.out.alloc _).alloc _).drew).1); have HB4 := Lib.hid (below_then ((((Below.refl W3.heap.size W3).alloc (Nat.le_refl _) _).alloc (by simp) _).drew) b4); have HZ4 := Lib.hid (Row.below (Row.drew (Row.built2 W3 _ [z1] (n := 1) (cap := 1) rfl)) b4); clear b4)
        | (go_at_call 12; refine (Of_any _ [x] r1 _ ?_ HS1.out ?_ HR1.out).mono ?_; exact Row.drew (Row.built2 W3 _ [x] rfl); simp; rintro e w4 ⟨rfl, b4⟩; have H4 := Lib.hid (((HB3.out.alloc _).alloc _).drew.below b4 (((HB3.out.alloc _).alloc _).drew).1); have HB4 := Lib.hid (below_then ((((Below.refl W3.heap.size W3).alloc (Nat.le_refl _) _).alloc (by simp) _).drew) b4); have HZ4 := Lib.hid (Row.below (Row.drew ((Row.built W3 [z1] (n := 1) (cap := 1) rfl).more _)) b4); clear b4)
        | (go_at_call 12; refine (Of_any _ [z1] r2 _ ?_ HS2.out ?_ HR2.out).mono ?_; exact HZ4.out; simp; rintro e w5 ⟨rfl, b5⟩; have H5 := Lib.hid (H4.out.below b5 H4.out.1); have HB5 := Lib.hid (below_then HB4.out b5); clear b5)
        | (go_at_call 21; refine (Turn_any r1 was b rb1.1 rb1.2 wb0 wb1 b0 b1 _).mono ?_; rw [HRT.out]; rintro e w6 ⟨rfl, rfl⟩)
        | (go_at_call 17; refine (Same_any rt r2 rbt.1 rbt.2 rb2.1 rb2.2 _).mono ?_; rintro e w6 ⟨rfl, rfl⟩))
    all_goals
      have HBW5 := Lib.hid (below_then HBW3.out HB5.out)
      have hb0 : p0 < l1.length := by rw [HLEN1.out]; exact h0n
      have hb1 : p1 < l1.length := by rw [HLEN1.out]; exact h1n
      have c0 := H5.out.cell p0 hb0
      have c1 := H5.out.cell p1 hb1
      have f0 := H5.out.frozen p0 hb0
      have f1 := H5.out.frozen p1 hb1
      obtain ⟨l2, hl2⟩ : ∃ l2, l2 = (l1.set p0 0).set p1 0 := ⟨_, rfl⟩
      have hlen2 : l2.length = N := by rw [hl2, List.length_set, List.length_set]; exact HLEN1.out
      obtain ⟨W6, hW6⟩ : ∃ W6, W6 = (w5.setCell ⟨g, p0, none⟩ (.int .u8 0)).setCell ⟨g, p1, none⟩ (.int .u8 0) := ⟨_, rfl⟩
      have h6 : Bts W6 g l2 := by rw [hW6, hl2]; exact (H5.out.set_ p0 0 hb0).set_ p1 0 (by rw [List.length_set]; exact hb1)
      obtain ⟨z2, hz2⟩ : ∃ z, z = txt l2 := ⟨_, rfl⟩
      have cv6 : (convert 38 9 (.slice (some ⟨g, 0, none⟩) N cap)).run Try.prog W6 = .ok (.string z2) W6 := by rw [hz2]; exact bytes_text W6 g cap N _ h6 hlen2.symm
      have HBW6 := Lib.hid (show Below w.heap.size w W6 by rw [hW6]; exact (HBW5.out.setCell (p := ⟨g, p0, none⟩) hgw _).setCell (p := ⟨g, p1, none⟩) hgw _)
      rw [hW6] at cv6
      obtain ⟨r3, hr3⟩ : ∃ r, fold (tot (flat [z2])) = r := ⟨_, rfl⟩
      have rb3 : 0 ≤ r3 ∧ r3 ≤ 65535 := by rw [← hr3]; exact fold_b _ (tot_b _).1
      have hs3 : (flat [z2]).length ≤ 1099511627776 := by rw [hz2, flat_txt, hlen2]; omega
      have HR3 := Lib.hid (show fold (tot l2) = r3 by rw [← hr3, hz2, flat_txt])
      have HR3' := Lib.hid hr3
      have HS3 := Lib.hid hs3
      have H6 := Lib.hid h6
      have HW6 := Lib.hid hW6
      have HL2 := Lib.hid hl2
      have HLEN2 := Lib.hid hlen2
      have HZ2 := Lib.hid hz2
      clear hl2 hlen2 hW6 h6 hz2 hr3 hs3 HR1 HR2 HRT HS1 HS2 H4 HB4 HAT1 HL1 HB3 CV
      go_wp2_with fail
      clear c0 c1 f0 f1 cv6
      rw [← HW6.out]
      refine (Of_any _ [z2] r3 _ (Row.builtAt W6 w5.heap.size (by rw [HW6.out]; simp [World.setCell]) [z2] rfl) HS3.out (by simp) HR3'.out).mono ?_
      rintro e w7 ⟨rfl, b7⟩
      have h7 := (H6.out.alloc _).below b7 (H6.out.alloc _).1
      have HBW7 := Lib.hid (below_then (HBW6.out.alloc HBW6.out.size _) b7)
      clear b7
      go_wp2_with fail
      refine (Not_any r3 rb3.1 rb3.2 _).mono ?_
      rintro e w' ⟨rfl, rfl⟩
      obtain ⟨c, hc⟩ : ∃ c, 65535 - r3 = c := ⟨_, rfl⟩
      rw [hc]
      have hcb : 0 ≤ c ∧ c ≤ 65535 := by omega
      obtain ⟨v2, hv2⟩ := byte_of (c / 256) (by omega) (by omega)
      obtain ⟨v3, hv3⟩ := byte_of (c % 256) (by omega) (by omega)
      have hcv : c = 256 * (v2.toNat : Int) + (v3.toNat : Int) := by omega
      have hb0 : p0 < l2.length := by rw [HLEN2.out]; exact h0n
      have hb1 : p1 < l2.length := by rw [HLEN2.out]; exact h1n
      have c0 := h7.cell p0 hb0
      have c1 := h7.cell p1 hb1
      have f0 := h7.frozen p0 hb0
      have f1 := h7.frozen p1 hb1
      obtain ⟨l3, hl3⟩ : ∃ l3, l3 = (l2.set p0 v2).set p1 v3 := ⟨_, rfl⟩
      have hlen3 : l3.length = N := by rw [hl3, List.length_set, List.length_set]; exact HLEN2.out
      obtain ⟨W8, hW8⟩ : ∃ W8, W8 = (w7.setCell ⟨g, p0, none⟩ (.int .u8 (v2.toNat : Int))).setCell ⟨g, p1, none⟩ (.int .u8 (v3.toNat : Int)) := ⟨_, rfl⟩
      have h8 : Bts W8 g l3 := by rw [hW8, hl3]; exact (h7.set_ p0 v2 hb0).set_ p1 v3 (by rw [List.length_set]; exact hb1)
      obtain ⟨z3, hz3⟩ : ∃ z, z = txt l3 := ⟨_, rfl⟩
      have cv8 : (convert 38 9 (.slice (some ⟨g, 0, none⟩) N cap)).run Try.prog W8 = .ok (.string z3) W8 := by rw [hz3]; exact bytes_text W8 g cap N _ h8 hlen3.symm
      have HBW8 := Lib.hid (show Below w.heap.size w W8 by rw [hW8]; exact (HBW7.out.setCell (p := ⟨g, p0, none⟩) hgw _).setCell (p := ⟨g, p1, none⟩) hgw _)
      rw [hW8] at cv8
      have hw3 := tot_word l2 p0 p1 (by have := HP0.out; omega) HP1.out hb1 v2 v3
      have hzer := zeros_at l1 p0 p1 HP1.out (by rw [HLEN1.out]; exact h1n) l2 HL2.out hb0 hb1
      rw [← hl3, hzer.1, hzer.2, ← hcv] at hw3
      have hwhole : fold (tot (flat [z3])) = 65535 := by
        rw [hz3, flat_txt]
        have t2 := (tot_b l2).1
        have t3 := (tot_b l3).1
        have e := HR3.out
        have em := fold_mod (tot l2) t2
        have ez := fold_zero (tot l2) t2
        rw [fold_pos _ (by simp at hw3; omega)]
        simp at hw3
        omega
      have hs4 : (flat [z3]).length ≤ 1099511627776 := by rw [hz3, flat_txt, hlen3]; omega
      have HWH := Lib.hid hwhole
      have HS4 := Lib.hid hs4
      have HW8 := Lib.hid hW8
      clear hl3 hlen3 hW8 h8 hz3 hs4 hwhole hw3 hzer hc hcv h7
      go_wp2_with fail
      rw [← HW8.out]
      refine (Whole_any _ [z3] 65535 _ (Row.builtAt W8 w7.heap.size (by rw [HW8.out]; simp [World.setCell]) [z3] rfl) HS4.out (by simp) HWH.out).mono ?_
      rintro e w9 ⟨rfl, b9⟩
      have HBW9 := Lib.hid (below_then (HBW8.out.alloc HBW8.out.size _) b9)
      clear b9 c0 c1 f0 f1 cv8
      go_wp2
      go_ret; exact ⟨rfl, HBW9.out⟩

set_option maxHeartbeats 4000000 in
set_option maxRecDepth 100000 in
theorem walk_even (s : ByteArray) (hs : s.size ≤ 140737488351232) (hle : s.size ≤ 200) (ho : s.size % 2 = 0) (a : Int) (ha : (Lit.int .u8 a).wf = true) (b : Int) (hb : (Lit.int .u16 b).wf = true) (w : World) :
    Calls Try.prog 7 #[.string s, .int .u8 a, .int .u16 b] w fun e w' => e = .returned (.bool true) ∧ Below w.heap.size w w' := by
  obtain ⟨a0, a1⟩ := bounds_u8 ha
  obtain ⟨b0, b1⟩ := bounds_u16 hb
  clear ha hb
  obtain ⟨y, hy⟩ : ∃ x : ByteArray, x = s.extract 0 (s.size) := ⟨_, rfl⟩
  have hys : y.size = s.size := by rw [hy, ByteArray.size_extract]; omega
  have hy' := hy.symm
  clear hy
  obtain ⟨x, hx⟩ : ∃ x : ByteArray, x = y := ⟨_, rfl⟩
  subst hx
  have hpar : ((x.size : Int) % 2 == 1) = false := by simp; omega
  have hxb : x.size ≤ 201 := by omega
  have HXE := Lib.hid (show x.size % 2 = 0 by omega)
  clear hys
  go_enter Try.func7, Try.ntmps7
  go_wp2_with fail
  refine (works_any _).mono ?_
  rintro e w1 ⟨rfl, b1w⟩
  have B1 := Lib.hid b1w
  clear b1w
  by_cases hz : x.size = 0
  · have hz1 : ((x.size : Int) == 0) = true := by simp [hz]
    clear hz
    go_wp2
    go_ret; exact ⟨rfl, B1.out⟩
  · have hz1 : ((x.size : Int) == 0) = false := by simp [hz]
    obtain ⟨cap, w2, hconv, hbts, hbel, hsz⟩ := text_bytes w1 x
    have HBTS := Lib.hid hbts
    have HBEL := Lib.hid hbel
    have HSZ := Lib.hid hsz
    clear hbts hbel hsz
    obtain ⟨m, hm⟩ : ∃ m : Nat, m = x.size / 2 := ⟨_, rfl⟩
    have hxe := HXE.out
    have hm1 : (x.size : Int) / 2 = (m : Int) := by omega
    have hm2 : (x.size : Int).tdiv 2 = (m : Int) := by rw [Int.tdiv_eq_ediv_of_nonneg (by omega)]; exact hm1
    have hm3 : ¬ (m : Int) = 0 := by omega
    have hm4 : ((m : Int) == 0) = false := by simp; omega
    obtain ⟨k, hk⟩ : ∃ k : Nat, a % (m : Int) = (k : Int) := ⟨_, (Int.toNat_of_nonneg (Int.emod_nonneg _ hm3)).symm⟩
    have hkt : a.tmod (m : Int) = (k : Int) := by rw [Int.tmod_eq_emod_of_nonneg a0]; exact hk
    have hkm : k < m := by have := Int.emod_lt_of_pos a (show (0 : Int) < m by omega); omega
    obtain ⟨p0, hp0⟩ : ∃ p0 : Nat, p0 = 2 * k := ⟨_, rfl⟩
    obtain ⟨p1, hp1⟩ : ∃ p1 : Nat, p1 = p0 + 1 := ⟨_, rfl⟩
    have q0 : 2 * (k : Int) = (p0 : Int) := by omega
    have q1 : (p0 : Int) + 1 = (p1 : Int) := by omega
    have q2 : IntKind.i64.wrap (2 * (k : Int)) = (p0 : Int) := by rw [q0]; exact IntWalk.i64_in _ (by omega)
    have q3 : IntKind.i64.wrap ((p0 : Int) + 1) = (p1 : Int) := by rw [q1]; exact IntWalk.i64_in _ (by omega)
    have hp1x : p1 < x.size := by omega
    have hp0x : p0 < x.size := by omega
    have HP0 := Lib.hid hp0
    have HP1 := Lib.hid hp1
    obtain ⟨l, hl⟩ : ∃ l, l = x.data.toList := ⟨_, rfl⟩
    rw [← hl] at HBTS
    have hll : l.length = x.size := by rw [hl]; simp
    have h0l : p0 < l.length := by omega
    have h1l : p1 < l.length := by omega
    obtain ⟨y0, hy0⟩ : ∃ y0, y0 = l[p0] := ⟨_, rfl⟩
    obtain ⟨y1, hy1⟩ : ∃ y1, y1 = l[p1] := ⟨_, rfl⟩
    have c0 := HBTS.out.cell p0 h0l
    have c1 := HBTS.out.cell p1 h1l
    have f0 := HBTS.out.frozen p0 h0l
    have f1 := HBTS.out.frozen p1 h1l
    rw [← hy0] at c0
    rw [← hy1] at c1
    have u0 := y0.toNat_lt
    have u1 := y1.toNat_lt
    have g0 : IntKind.u16.wrap (y0.toNat : Int) = (y0.toNat : Int) := by rw [IntKind.wrap_u16]; omega
    have g1 : IntKind.u16.wrap (y1.toNat : Int) = (y1.toNat : Int) := by rw [IntKind.wrap_u16]; omega
    have g2 : IntKind.u16.wrap ((y0.toNat : Int) * 256) = (y0.toNat : Int) * 256 := by rw [IntKind.wrap_u16]; omega
    have g3 := or_word (y0.toNat : Int) (y1.toNat : Int) (by omega) (by omega) (by omega) (by omega)
    have HL := Lib.hid hl
    have HLL := Lib.hid hll
    have HY0 := Lib.hid hy0
    have HY1 := Lib.hid hy1
    clear hl hll hy0 hy1 hp0 hp1 hm q0 q1 hxe
    obtain ⟨v0, hv0⟩ := byte_of (b / 256) (by omega) (by omega)
    obtain ⟨v1, hv1⟩ := byte_of (b % 256) (by omega) (by omega)
    have HBV := Lib.hid (show b = 256 * (v0.toNat : Int) + (v1.toNat : Int) by omega)
    obtain ⟨was, hwas⟩ : ∃ was, 256 * (y0.toNat : Int) + (y1.toNat : Int) = was := ⟨_, rfl⟩
    rw [hwas] at g3
    have wb0 : 0 ≤ was := by omega
    have wb1 : was ≤ 65535 := by omega
    have HWAS := Lib.hid hwas
    have ne1 : ¬ p0 = p1 := by have := HP1.out; omega
    have ne2 : ¬ p1 = p0 := by have := HP1.out; omega
    clear hwas
    go_wp2_with fail
    go_quiet (fail)
    obtain ⟨W2, hW2⟩ : ∃ W2, W2 = w2.drewN nq := ⟨_, rfl⟩
    have hb2 := HBTS.out.drewN nq
    have hbl2 := below_drewN (below_then B1.out HBEL.out) nq
    rw [← hW2] at hb2 hbl2 ⊢
    have HBW2 := Lib.hid hbl2
    have HB2 := Lib.hid hb2
    clear hW2 hb2 hbl2 c0 c1 f0 f1 hconv HBTS HBEL HSZ hy' g0 g1 g2 g3 u0 u1
    have c0 := HB2.out.cell p0 h0l
    have c1 := HB2.out.cell p1 h1l
    have f0 := HB2.out.frozen p0 h0l
    have f1 := HB2.out.frozen p1 h1l
    go_wp2_with fail
    clear c0 c1 f0 f1
    obtain ⟨W3, hW3⟩ : ∃ W3, W3 = (W2.setCell ⟨w1.heap.size, p0, none⟩ (.int .u8 (v0.toNat : Int))).setCell ⟨w1.heap.size, p1, none⟩ (.int .u8 (v1.toNat : Int)) := ⟨_, rfl⟩
    obtain ⟨l1, hl1⟩ : ∃ l1, l1 = (l.set p0 v0).set p1 v1 := ⟨_, rfl⟩
    have hb3 : Bts W3 w1.heap.size l1 := by rw [hW3, hl1]; exact (HB2.out.set_ p0 v0 h0l).set_ p1 v1 (by rw [List.length_set]; exact h1l)
    have HBW3 := Lib.hid (show Below w.heap.size w W3 by rw [hW3]; exact (HBW2.out.setCell (p := ⟨w1.heap.size, p0, none⟩) B1.out.size _).setCell (p := ⟨w1.heap.size, p1, none⟩) B1.out.size _)
    have hgw := B1.out.size
    rw [← hW3]
    clear hW3 HB2 HBW2
    obtain ⟨g, hg⟩ : ∃ g, g = w1.heap.size := ⟨_, rfl⟩
    rw [← hg] at hb3 hgw ⊢
    obtain ⟨N, hN⟩ : ∃ N, N = x.size := ⟨_, rfl⟩
    have hNl : N = l1.length := by rw [hl1, List.length_set, List.length_set, HLL.out, hN]
    have hNs : N ≤ 201 := by omega
    have h0n : p0 < N := by omega
    have h1n : p1 < N := by omega
    rw [← hN]
    have HN := Lib.hid hNl
    have HB3 := Lib.hid hb3
    clear hg hNl hb3
    have hw1 := tot_word l p0 p1 (by have := HP0.out; omega) HP1.out h1l v0 v1
    rw [← hl1, ← HY0.out, ← HY1.out, HWAS.out, ← HBV.out] at hw1
    have hat1 := word_at l p0 p1 HP1.out h1l v0 v1
    have hlen1 : l1.length = N := HN.out.symm
    obtain ⟨z1, hz1'⟩ : ∃ z, z = txt l1 := ⟨_, rfl⟩
    have cv : ∀ W', Bts W' g l1 → (convert 38 9 (.slice (some ⟨g, 0, none⟩) N cap)).run Try.prog W' = .ok (.string z1) W' := fun W' h => by rw [hz1']; exact bytes_text W' g cap N _ h HN.out
    have CV := Lib.hid cv
    obtain ⟨r1, hr1⟩ : ∃ r, fold (tot (flat [x])) = r := ⟨_, rfl⟩
    obtain ⟨r2, hr2⟩ : ∃ r, fold (tot (flat [z1])) = r := ⟨_, rfl⟩
    have rb1 : 0 ≤ r1 ∧ r1 ≤ 65535 := by rw [← hr1]; exact fold_b _ (tot_b _).1
    have rb2 : 0 ≤ r2 ∧ r2 ≤ 65535 := by rw [← hr2]; exact fold_b _ (tot_b _).1
    have tl := (tot_b l).1
    have tl1 := (tot_b l1).1
    have e1 : r1 % 65535 = tot l % 65535 := by rw [← hr1, flat_one, ← HL.out]; exact fold_mod _ tl
    have e2 : r2 % 65535 = tot l1 % 65535 := by rw [← hr2, hz1', flat_txt]; exact fold_mod _ tl1
    obtain ⟨rt, hrt⟩ : ∃ r, fold (r1 + (65535 - was) + b) = r := ⟨_, rfl⟩
    have rbt : 0 ≤ rt ∧ rt ≤ 65535 := by rw [← hrt]; exact fold_b _ (by omega)
    have et : rt % 65535 = (r1 + (65535 - was) + b) % 65535 := by rw [← hrt]; exact fold_mod _ (by omega)
    have hne : (rt % 65535 == r2 % 65535) = true := by rw [et, e2, hw1]; simp; omega
    have hs1 : (flat [x]).length ≤ 1099511627776 := by rw [flat_one, ← HL.out, HLL.out]; omega
    have hs2 : (flat [z1]).length ≤ 1099511627776 := by rw [hz1', flat_txt, hlen1]; omega
    have HR1 := Lib.hid hr1
    have HR2 := Lib.hid hr2
    have HRT := Lib.hid hrt
    have HS1 := Lib.hid hs1
    have HS2 := Lib.hid hs2
    have HLEN1 := Lib.hid hlen1
    have HAT1 := Lib.hid hat1
    have HL1 := Lib.hid hl1
    clear hr1 hr2 hrt hs1 hs2 hz1' cv e1 e2 et hw1 hk hkt hz hz1 hm1 hm2 hm3 hm4 hlen1 hat1 hl1 tl tl1 HY0 HY1 hN
    go_region_held3 (fun w' => (convert 38 9 (.slice (some ⟨g, 0, none⟩) N cap)).run Try.prog w' = .ok (.string z1) w')
      (first | exact CV.out _ HB3.out | exact CV.out _ (HB3.out.alloc _) | exact CV.out _ ((HB3.out.alloc _).alloc _) | exact CV.out _ H4.out | exact CV.out _ (H4.out.alloc _) | exact CV.out _ H5.out)
      (first
        | (go_at_call 12; refine (Of_any _ [x] r1 _ ?_ HS1.out ?_ HR1.out).mono ?_; exact Row.drew (Row.built _ _ rfl); simp; rintro e w4 ⟨rfl, b4⟩; have H4 := Lib.hid ((HB3.out.alloc _).drew.below b4 ((HB3.out.alloc _).drew).1); have HB4 := Lib.hid (below_then (((Below.refl W3.heap.size W3).alloc (Nat.le_refl _) _).drew) b4); clear b4)
        | (go_at_call 12; refine (Of_any _ [z1] r2 _ ?_ HS2.out ?_ HR2.out).mono ?_; exact Row.built _ _ rfl; simp; rintro e w5 ⟨rfl, b5⟩; have H5 := Lib.hid ((H4.out.alloc _).below b5 (H4.out.alloc _).1); have HB5 := Lib.hid (below_then (HB4.out.alloc HB4.out.size _) b5); clear b5)
        | (go_at_call 12; refine (Of_any _ [x] r1 _ ?_ HS1.out ?_ HR1.out).mono ?_; exact Row.drew ((Row.built _ _ rfl).more _); simp; rintro e w4 ⟨rfl, b4⟩; have H4 := Lib.hid (((HB3.out.alloc _).alloc _).drew.below b4 (((HB3.out.alloc _).alloc _).drew).1); have HB4 := Lib.hid (below_then ((((Below.refl W3.heap.size W3).alloc (Nat.le_refl _) _).alloc (by simp) _).drew) b4); have HZ4 := Lib.hid (Row.below (Row.drew (Row.built2 W3 _ [z1] (n := 1) (cap := 1) rfl)) b4); clear b4)
        | (go_at_call 12; refine (Of_any _ [x] r1 _ ?_ HS1.out ?_ HR1.out).mono ?_; exact Row.drew (Row.built2 W3 _ [x] rfl); simp; rintro e w4 ⟨rfl, b4⟩; have H4 := Lib.hid (((HB3.out.alloc _).alloc _).drew.below b4 (((HB3.out.alloc _).alloc _).drew).1); have HB4 := Lib.hid (below_then ((((Below.refl W3.heap.size W3).alloc (Nat.le_refl _) _).alloc (by simp) _).drew) b4); have HZ4 := Lib.hid (Row.below (Row.drew ((Row.built W3 [z1] (n := 1) (cap := 1) rfl).more _)) b4); clear b4)
        | (go_at_call 12; refine (Of_any _ [z1] r2 _ ?_ HS2.out ?_ HR2.out).mono ?_; exact HZ4.out; simp; rintro e w5 ⟨rfl, b5⟩; have H5 := Lib.hid (H4.out.below b5 H4.out.1); have HB5 := Lib.hid (below_then HB4.out b5); clear b5)
        | (go_at_call 21; refine (Turn_any r1 was b rb1.1 rb1.2 wb0 wb1 b0 b1 _).mono ?_; rw [HRT.out]; rintro e w6 ⟨rfl, rfl⟩)
        | (go_at_call 17; refine (Same_any rt r2 rbt.1 rbt.2 rb2.1 rb2.2 _).mono ?_; rintro e w6 ⟨rfl, rfl⟩))
    all_goals
      have HBW5 := Lib.hid (below_then HBW3.out HB5.out)
      have hb0 : p0 < l1.length := by rw [HLEN1.out]; exact h0n
      have hb1 : p1 < l1.length := by rw [HLEN1.out]; exact h1n
      have c0 := H5.out.cell p0 hb0
      have c1 := H5.out.cell p1 hb1
      have f0 := H5.out.frozen p0 hb0
      have f1 := H5.out.frozen p1 hb1
      obtain ⟨l2, hl2⟩ : ∃ l2, l2 = (l1.set p0 0).set p1 0 := ⟨_, rfl⟩
      have hlen2 : l2.length = N := by rw [hl2, List.length_set, List.length_set]; exact HLEN1.out
      obtain ⟨W6, hW6⟩ : ∃ W6, W6 = (w5.setCell ⟨g, p0, none⟩ (.int .u8 0)).setCell ⟨g, p1, none⟩ (.int .u8 0) := ⟨_, rfl⟩
      have h6 : Bts W6 g l2 := by rw [hW6, hl2]; exact (H5.out.set_ p0 0 hb0).set_ p1 0 (by rw [List.length_set]; exact hb1)
      obtain ⟨z2, hz2⟩ : ∃ z, z = txt l2 := ⟨_, rfl⟩
      have cv6 : (convert 38 9 (.slice (some ⟨g, 0, none⟩) N cap)).run Try.prog W6 = .ok (.string z2) W6 := by rw [hz2]; exact bytes_text W6 g cap N _ h6 hlen2.symm
      have HBW6 := Lib.hid (show Below w.heap.size w W6 by rw [hW6]; exact (HBW5.out.setCell (p := ⟨g, p0, none⟩) hgw _).setCell (p := ⟨g, p1, none⟩) hgw _)
      rw [hW6] at cv6
      obtain ⟨r3, hr3⟩ : ∃ r, fold (tot (flat [z2])) = r := ⟨_, rfl⟩
      have rb3 : 0 ≤ r3 ∧ r3 ≤ 65535 := by rw [← hr3]; exact fold_b _ (tot_b _).1
      have hs3 : (flat [z2]).length ≤ 1099511627776 := by rw [hz2, flat_txt, hlen2]; omega
      have HR3 := Lib.hid (show fold (tot l2) = r3 by rw [← hr3, hz2, flat_txt])
      have HR3' := Lib.hid hr3
      have HS3 := Lib.hid hs3
      have H6 := Lib.hid h6
      have HW6 := Lib.hid hW6
      have HL2 := Lib.hid hl2
      have HLEN2 := Lib.hid hlen2
      have HZ2 := Lib.hid hz2
      clear hl2 hlen2 hW6 h6 hz2 hr3 hs3 HR1 HR2 HRT HS1 HS2 H4 HB4 HAT1 HL1 HB3 CV
      go_wp2_with fail
      clear c0 c1 f0 f1 cv6
      rw [← HW6.out]
      refine (Of_any _ [z2] r3 _ (Row.builtAt W6 w5.heap.size (by rw [HW6.out]; simp [World.setCell]) [z2] rfl) HS3.out (by simp) HR3'.out).mono ?_
      rintro e w7 ⟨rfl, b7⟩
      have h7 := (H6.out.alloc _).below b7 (H6.out.alloc _).1
      have HBW7 := Lib.hid (below_then (HBW6.out.alloc HBW6.out.size _) b7)
      clear b7
      go_wp2_with fail
      refine (Not_any r3 rb3.1 rb3.2 _).mono ?_
      rintro e w' ⟨rfl, rfl⟩
      obtain ⟨c, hc⟩ : ∃ c, 65535 - r3 = c := ⟨_, rfl⟩
      rw [hc]
      have hcb : 0 ≤ c ∧ c ≤ 65535 := by omega
      obtain ⟨v2, hv2⟩ := byte_of (c / 256) (by omega) (by omega)
      obtain ⟨v3, hv3⟩ := byte_of (c % 256) (by omega) (by omega)
      have hcv : c = 256 * (v2.toNat : Int) + (v3.toNat : Int) := by omega
      have hb0 : p0 < l2.length := by rw [HLEN2.out]; exact h0n
      have hb1 : p1 < l2.length := by rw [HLEN2.out]; exact h1n
      have c0 := h7.cell p0 hb0
      have c1 := h7.cell p1 hb1
      have f0 := h7.frozen p0 hb0
      have f1 := h7.frozen p1 hb1
      obtain ⟨l3, hl3⟩ : ∃ l3, l3 = (l2.set p0 v2).set p1 v3 := ⟨_, rfl⟩
      have hlen3 : l3.length = N := by rw [hl3, List.length_set, List.length_set]; exact HLEN2.out
      obtain ⟨W8, hW8⟩ : ∃ W8, W8 = (w7.setCell ⟨g, p0, none⟩ (.int .u8 (v2.toNat : Int))).setCell ⟨g, p1, none⟩ (.int .u8 (v3.toNat : Int)) := ⟨_, rfl⟩
      have h8 : Bts W8 g l3 := by rw [hW8, hl3]; exact (h7.set_ p0 v2 hb0).set_ p1 v3 (by rw [List.length_set]; exact hb1)
      obtain ⟨z3, hz3⟩ : ∃ z, z = txt l3 := ⟨_, rfl⟩
      have cv8 : (convert 38 9 (.slice (some ⟨g, 0, none⟩) N cap)).run Try.prog W8 = .ok (.string z3) W8 := by rw [hz3]; exact bytes_text W8 g cap N _ h8 hlen3.symm
      have HBW8 := Lib.hid (show Below w.heap.size w W8 by rw [hW8]; exact (HBW7.out.setCell (p := ⟨g, p0, none⟩) hgw _).setCell (p := ⟨g, p1, none⟩) hgw _)
      rw [hW8] at cv8
      have hw3 := tot_word l2 p0 p1 (by have := HP0.out; omega) HP1.out hb1 v2 v3
      have hzer := zeros_at l1 p0 p1 HP1.out (by rw [HLEN1.out]; exact h1n) l2 HL2.out hb0 hb1
      rw [← hl3, hzer.1, hzer.2, ← hcv] at hw3
      have hwhole : fold (tot (flat [z3])) = 65535 := by
        rw [hz3, flat_txt]
        have t2 := (tot_b l2).1
        have t3 := (tot_b l3).1
        have e := HR3.out
        have em := fold_mod (tot l2) t2
        have ez := fold_zero (tot l2) t2
        rw [fold_pos _ (by simp at hw3; omega)]
        simp at hw3
        omega
      have hs4 : (flat [z3]).length ≤ 1099511627776 := by rw [hz3, flat_txt, hlen3]; omega
      have HWH := Lib.hid hwhole
      have HS4 := Lib.hid hs4
      have HW8 := Lib.hid hW8
      clear hl3 hlen3 hW8 h8 hz3 hs4 hwhole hw3 hzer hc hcv h7
      go_wp2_with fail
      rw [← HW8.out]
      refine (Whole_any _ [z3] 65535 _ (Row.builtAt W8 w7.heap.size (by rw [HW8.out]; simp [World.setCell]) [z3] rfl) HS4.out (by simp) HWH.out).mono ?_
      rintro e w9 ⟨rfl, b9⟩
      have HBW9 := Lib.hid (below_then (HBW8.out.alloc HBW8.out.size _) b9)
      clear b9 c0 c1 f0 f1 cv8
      go_wp2
      go_ret; exact ⟨rfl, HBW9.out⟩

set_option maxHeartbeats 4000000 in
set_option maxRecDepth 100000 in
theorem walk_gt (s : ByteArray) (hs : s.size ≤ 140737488351232) (hgt : 200 < s.size) (a : Int) (ha : (Lit.int .u8 a).wf = true) (b : Int) (hb : (Lit.int .u16 b).wf = true) (w : World) :
    Calls Try.prog 7 #[.string s, .int .u8 a, .int .u16 b] w fun e w' => e = .returned (.bool true) ∧ Below w.heap.size w w' := by
  obtain ⟨a0, a1⟩ := bounds_u8 ha
  obtain ⟨b0, b1⟩ := bounds_u16 hb
  clear ha hb
  obtain ⟨y, hy⟩ : ∃ x : ByteArray, x = s.extract 0 (200) := ⟨_, rfl⟩
  have hys : y.size = 200 := by rw [hy, ByteArray.size_extract]; omega
  have hy' := hy.symm
  clear hy
  obtain ⟨x, hx⟩ : ∃ x : ByteArray, x = y := ⟨_, rfl⟩
  subst hx
  have hpar : ((x.size : Int) % 2 == 1) = false := by simp; omega
  have hxb : x.size ≤ 201 := by omega
  have HXE := Lib.hid (show x.size % 2 = 0 by omega)
  clear hys
  go_enter Try.func7, Try.ntmps7
  go_wp2_with fail
  refine (works_any _).mono ?_
  rintro e w1 ⟨rfl, b1w⟩
  have B1 := Lib.hid b1w
  clear b1w
  by_cases hz : x.size = 0
  · have hz1 : ((x.size : Int) == 0) = true := by simp [hz]
    clear hz
    go_wp2
    go_ret; exact ⟨rfl, B1.out⟩
  · have hz1 : ((x.size : Int) == 0) = false := by simp [hz]
    obtain ⟨cap, w2, hconv, hbts, hbel, hsz⟩ := text_bytes w1 x
    have HBTS := Lib.hid hbts
    have HBEL := Lib.hid hbel
    have HSZ := Lib.hid hsz
    clear hbts hbel hsz
    obtain ⟨m, hm⟩ : ∃ m : Nat, m = x.size / 2 := ⟨_, rfl⟩
    have hxe := HXE.out
    have hm1 : (x.size : Int) / 2 = (m : Int) := by omega
    have hm2 : (x.size : Int).tdiv 2 = (m : Int) := by rw [Int.tdiv_eq_ediv_of_nonneg (by omega)]; exact hm1
    have hm3 : ¬ (m : Int) = 0 := by omega
    have hm4 : ((m : Int) == 0) = false := by simp; omega
    obtain ⟨k, hk⟩ : ∃ k : Nat, a % (m : Int) = (k : Int) := ⟨_, (Int.toNat_of_nonneg (Int.emod_nonneg _ hm3)).symm⟩
    have hkt : a.tmod (m : Int) = (k : Int) := by rw [Int.tmod_eq_emod_of_nonneg a0]; exact hk
    have hkm : k < m := by have := Int.emod_lt_of_pos a (show (0 : Int) < m by omega); omega
    obtain ⟨p0, hp0⟩ : ∃ p0 : Nat, p0 = 2 * k := ⟨_, rfl⟩
    obtain ⟨p1, hp1⟩ : ∃ p1 : Nat, p1 = p0 + 1 := ⟨_, rfl⟩
    have q0 : 2 * (k : Int) = (p0 : Int) := by omega
    have q1 : (p0 : Int) + 1 = (p1 : Int) := by omega
    have q2 : IntKind.i64.wrap (2 * (k : Int)) = (p0 : Int) := by rw [q0]; exact IntWalk.i64_in _ (by omega)
    have q3 : IntKind.i64.wrap ((p0 : Int) + 1) = (p1 : Int) := by rw [q1]; exact IntWalk.i64_in _ (by omega)
    have hp1x : p1 < x.size := by omega
    have hp0x : p0 < x.size := by omega
    have HP0 := Lib.hid hp0
    have HP1 := Lib.hid hp1
    obtain ⟨l, hl⟩ : ∃ l, l = x.data.toList := ⟨_, rfl⟩
    rw [← hl] at HBTS
    have hll : l.length = x.size := by rw [hl]; simp
    have h0l : p0 < l.length := by omega
    have h1l : p1 < l.length := by omega
    obtain ⟨y0, hy0⟩ : ∃ y0, y0 = l[p0] := ⟨_, rfl⟩
    obtain ⟨y1, hy1⟩ : ∃ y1, y1 = l[p1] := ⟨_, rfl⟩
    have c0 := HBTS.out.cell p0 h0l
    have c1 := HBTS.out.cell p1 h1l
    have f0 := HBTS.out.frozen p0 h0l
    have f1 := HBTS.out.frozen p1 h1l
    rw [← hy0] at c0
    rw [← hy1] at c1
    have u0 := y0.toNat_lt
    have u1 := y1.toNat_lt
    have g0 : IntKind.u16.wrap (y0.toNat : Int) = (y0.toNat : Int) := by rw [IntKind.wrap_u16]; omega
    have g1 : IntKind.u16.wrap (y1.toNat : Int) = (y1.toNat : Int) := by rw [IntKind.wrap_u16]; omega
    have g2 : IntKind.u16.wrap ((y0.toNat : Int) * 256) = (y0.toNat : Int) * 256 := by rw [IntKind.wrap_u16]; omega
    have g3 := or_word (y0.toNat : Int) (y1.toNat : Int) (by omega) (by omega) (by omega) (by omega)
    have HL := Lib.hid hl
    have HLL := Lib.hid hll
    have HY0 := Lib.hid hy0
    have HY1 := Lib.hid hy1
    clear hl hll hy0 hy1 hp0 hp1 hm q0 q1 hxe
    obtain ⟨v0, hv0⟩ := byte_of (b / 256) (by omega) (by omega)
    obtain ⟨v1, hv1⟩ := byte_of (b % 256) (by omega) (by omega)
    have HBV := Lib.hid (show b = 256 * (v0.toNat : Int) + (v1.toNat : Int) by omega)
    obtain ⟨was, hwas⟩ : ∃ was, 256 * (y0.toNat : Int) + (y1.toNat : Int) = was := ⟨_, rfl⟩
    rw [hwas] at g3
    have wb0 : 0 ≤ was := by omega
    have wb1 : was ≤ 65535 := by omega
    have HWAS := Lib.hid hwas
    have ne1 : ¬ p0 = p1 := by have := HP1.out; omega
    have ne2 : ¬ p1 = p0 := by have := HP1.out; omega
    clear hwas
    go_wp2_with fail
    go_quiet (fail)
    obtain ⟨W2, hW2⟩ : ∃ W2, W2 = w2.drewN nq := ⟨_, rfl⟩
    have hb2 := HBTS.out.drewN nq
    have hbl2 := below_drewN (below_then B1.out HBEL.out) nq
    rw [← hW2] at hb2 hbl2 ⊢
    have HBW2 := Lib.hid hbl2
    have HB2 := Lib.hid hb2
    clear hW2 hb2 hbl2 c0 c1 f0 f1 hconv HBTS HBEL HSZ hy' g0 g1 g2 g3 u0 u1
    have c0 := HB2.out.cell p0 h0l
    have c1 := HB2.out.cell p1 h1l
    have f0 := HB2.out.frozen p0 h0l
    have f1 := HB2.out.frozen p1 h1l
    go_wp2_with fail
    clear c0 c1 f0 f1
    obtain ⟨W3, hW3⟩ : ∃ W3, W3 = (W2.setCell ⟨w1.heap.size, p0, none⟩ (.int .u8 (v0.toNat : Int))).setCell ⟨w1.heap.size, p1, none⟩ (.int .u8 (v1.toNat : Int)) := ⟨_, rfl⟩
    obtain ⟨l1, hl1⟩ : ∃ l1, l1 = (l.set p0 v0).set p1 v1 := ⟨_, rfl⟩
    have hb3 : Bts W3 w1.heap.size l1 := by rw [hW3, hl1]; exact (HB2.out.set_ p0 v0 h0l).set_ p1 v1 (by rw [List.length_set]; exact h1l)
    have HBW3 := Lib.hid (show Below w.heap.size w W3 by rw [hW3]; exact (HBW2.out.setCell (p := ⟨w1.heap.size, p0, none⟩) B1.out.size _).setCell (p := ⟨w1.heap.size, p1, none⟩) B1.out.size _)
    have hgw := B1.out.size
    rw [← hW3]
    clear hW3 HB2 HBW2
    obtain ⟨g, hg⟩ : ∃ g, g = w1.heap.size := ⟨_, rfl⟩
    rw [← hg] at hb3 hgw ⊢
    obtain ⟨N, hN⟩ : ∃ N, N = x.size := ⟨_, rfl⟩
    have hNl : N = l1.length := by rw [hl1, List.length_set, List.length_set, HLL.out, hN]
    have hNs : N ≤ 201 := by omega
    have h0n : p0 < N := by omega
    have h1n : p1 < N := by omega
    rw [← hN]
    have HN := Lib.hid hNl
    have HB3 := Lib.hid hb3
    clear hg hNl hb3
    have hw1 := tot_word l p0 p1 (by have := HP0.out; omega) HP1.out h1l v0 v1
    rw [← hl1, ← HY0.out, ← HY1.out, HWAS.out, ← HBV.out] at hw1
    have hat1 := word_at l p0 p1 HP1.out h1l v0 v1
    have hlen1 : l1.length = N := HN.out.symm
    obtain ⟨z1, hz1'⟩ : ∃ z, z = txt l1 := ⟨_, rfl⟩
    have cv : ∀ W', Bts W' g l1 → (convert 38 9 (.slice (some ⟨g, 0, none⟩) N cap)).run Try.prog W' = .ok (.string z1) W' := fun W' h => by rw [hz1']; exact bytes_text W' g cap N _ h HN.out
    have CV := Lib.hid cv
    obtain ⟨r1, hr1⟩ : ∃ r, fold (tot (flat [x])) = r := ⟨_, rfl⟩
    obtain ⟨r2, hr2⟩ : ∃ r, fold (tot (flat [z1])) = r := ⟨_, rfl⟩
    have rb1 : 0 ≤ r1 ∧ r1 ≤ 65535 := by rw [← hr1]; exact fold_b _ (tot_b _).1
    have rb2 : 0 ≤ r2 ∧ r2 ≤ 65535 := by rw [← hr2]; exact fold_b _ (tot_b _).1
    have tl := (tot_b l).1
    have tl1 := (tot_b l1).1
    have e1 : r1 % 65535 = tot l % 65535 := by rw [← hr1, flat_one, ← HL.out]; exact fold_mod _ tl
    have e2 : r2 % 65535 = tot l1 % 65535 := by rw [← hr2, hz1', flat_txt]; exact fold_mod _ tl1
    obtain ⟨rt, hrt⟩ : ∃ r, fold (r1 + (65535 - was) + b) = r := ⟨_, rfl⟩
    have rbt : 0 ≤ rt ∧ rt ≤ 65535 := by rw [← hrt]; exact fold_b _ (by omega)
    have et : rt % 65535 = (r1 + (65535 - was) + b) % 65535 := by rw [← hrt]; exact fold_mod _ (by omega)
    have hne : (rt % 65535 == r2 % 65535) = true := by rw [et, e2, hw1]; simp; omega
    have hs1 : (flat [x]).length ≤ 1099511627776 := by rw [flat_one, ← HL.out, HLL.out]; omega
    have hs2 : (flat [z1]).length ≤ 1099511627776 := by rw [hz1', flat_txt, hlen1]; omega
    have HR1 := Lib.hid hr1
    have HR2 := Lib.hid hr2
    have HRT := Lib.hid hrt
    have HS1 := Lib.hid hs1
    have HS2 := Lib.hid hs2
    have HLEN1 := Lib.hid hlen1
    have HAT1 := Lib.hid hat1
    have HL1 := Lib.hid hl1
    clear hr1 hr2 hrt hs1 hs2 hz1' cv e1 e2 et hw1 hk hkt hz hz1 hm1 hm2 hm3 hm4 hlen1 hat1 hl1 tl tl1 HY0 HY1 hN
    go_region_held3 (fun w' => (convert 38 9 (.slice (some ⟨g, 0, none⟩) N cap)).run Try.prog w' = .ok (.string z1) w')
      (first | exact CV.out _ HB3.out | exact CV.out _ (HB3.out.alloc _) | exact CV.out _ ((HB3.out.alloc _).alloc _) | exact CV.out _ H4.out | exact CV.out _ (H4.out.alloc _) | exact CV.out _ H5.out)
      (first
        | (go_at_call 12; refine (Of_any _ [x] r1 _ ?_ HS1.out ?_ HR1.out).mono ?_; exact Row.drew (Row.built _ _ rfl); simp; rintro e w4 ⟨rfl, b4⟩; have H4 := Lib.hid ((HB3.out.alloc _).drew.below b4 ((HB3.out.alloc _).drew).1); have HB4 := Lib.hid (below_then (((Below.refl W3.heap.size W3).alloc (Nat.le_refl _) _).drew) b4); clear b4)
        | (go_at_call 12; refine (Of_any _ [z1] r2 _ ?_ HS2.out ?_ HR2.out).mono ?_; exact Row.built _ _ rfl; simp; rintro e w5 ⟨rfl, b5⟩; have H5 := Lib.hid ((H4.out.alloc _).below b5 (H4.out.alloc _).1); have HB5 := Lib.hid (below_then (HB4.out.alloc HB4.out.size _) b5); clear b5)
        | (go_at_call 12; refine (Of_any _ [x] r1 _ ?_ HS1.out ?_ HR1.out).mono ?_; exact Row.drew ((Row.built _ _ rfl).more _); simp; rintro e w4 ⟨rfl, b4⟩; have H4 := Lib.hid (((HB3.out.alloc _).alloc _).drew.below b4 (((HB3.out.alloc _).alloc _).drew).1); have HB4 := Lib.hid (below_then ((((Below.refl W3.heap.size W3).alloc (Nat.le_refl _) _).alloc (by simp) _).drew) b4); have HZ4 := Lib.hid (Row.below (Row.drew (Row.built2 W3 _ [z1] (n := 1) (cap := 1) rfl)) b4); clear b4)
        | (go_at_call 12; refine (Of_any _ [x] r1 _ ?_ HS1.out ?_ HR1.out).mono ?_; exact Row.drew (Row.built2 W3 _ [x] rfl); simp; rintro e w4 ⟨rfl, b4⟩; have H4 := Lib.hid (((HB3.out.alloc _).alloc _).drew.below b4 (((HB3.out.alloc _).alloc _).drew).1); have HB4 := Lib.hid (below_then ((((Below.refl W3.heap.size W3).alloc (Nat.le_refl _) _).alloc (by simp) _).drew) b4); have HZ4 := Lib.hid (Row.below (Row.drew ((Row.built W3 [z1] (n := 1) (cap := 1) rfl).more _)) b4); clear b4)
        | (go_at_call 12; refine (Of_any _ [z1] r2 _ ?_ HS2.out ?_ HR2.out).mono ?_; exact HZ4.out; simp; rintro e w5 ⟨rfl, b5⟩; have H5 := Lib.hid (H4.out.below b5 H4.out.1); have HB5 := Lib.hid (below_then HB4.out b5); clear b5)
        | (go_at_call 21; refine (Turn_any r1 was b rb1.1 rb1.2 wb0 wb1 b0 b1 _).mono ?_; rw [HRT.out]; rintro e w6 ⟨rfl, rfl⟩)
        | (go_at_call 17; refine (Same_any rt r2 rbt.1 rbt.2 rb2.1 rb2.2 _).mono ?_; rintro e w6 ⟨rfl, rfl⟩))
    all_goals
      have HBW5 := Lib.hid (below_then HBW3.out HB5.out)
      have hb0 : p0 < l1.length := by rw [HLEN1.out]; exact h0n
      have hb1 : p1 < l1.length := by rw [HLEN1.out]; exact h1n
      have c0 := H5.out.cell p0 hb0
      have c1 := H5.out.cell p1 hb1
      have f0 := H5.out.frozen p0 hb0
      have f1 := H5.out.frozen p1 hb1
      obtain ⟨l2, hl2⟩ : ∃ l2, l2 = (l1.set p0 0).set p1 0 := ⟨_, rfl⟩
      have hlen2 : l2.length = N := by rw [hl2, List.length_set, List.length_set]; exact HLEN1.out
      obtain ⟨W6, hW6⟩ : ∃ W6, W6 = (w5.setCell ⟨g, p0, none⟩ (.int .u8 0)).setCell ⟨g, p1, none⟩ (.int .u8 0) := ⟨_, rfl⟩
      have h6 : Bts W6 g l2 := by rw [hW6, hl2]; exact (H5.out.set_ p0 0 hb0).set_ p1 0 (by rw [List.length_set]; exact hb1)
      obtain ⟨z2, hz2⟩ : ∃ z, z = txt l2 := ⟨_, rfl⟩
      have cv6 : (convert 38 9 (.slice (some ⟨g, 0, none⟩) N cap)).run Try.prog W6 = .ok (.string z2) W6 := by rw [hz2]; exact bytes_text W6 g cap N _ h6 hlen2.symm
      have HBW6 := Lib.hid (show Below w.heap.size w W6 by rw [hW6]; exact (HBW5.out.setCell (p := ⟨g, p0, none⟩) hgw _).setCell (p := ⟨g, p1, none⟩) hgw _)
      rw [hW6] at cv6
      obtain ⟨r3, hr3⟩ : ∃ r, fold (tot (flat [z2])) = r := ⟨_, rfl⟩
      have rb3 : 0 ≤ r3 ∧ r3 ≤ 65535 := by rw [← hr3]; exact fold_b _ (tot_b _).1
      have hs3 : (flat [z2]).length ≤ 1099511627776 := by rw [hz2, flat_txt, hlen2]; omega
      have HR3 := Lib.hid (show fold (tot l2) = r3 by rw [← hr3, hz2, flat_txt])
      have HR3' := Lib.hid hr3
      have HS3 := Lib.hid hs3
      have H6 := Lib.hid h6
      have HW6 := Lib.hid hW6
      have HL2 := Lib.hid hl2
      have HLEN2 := Lib.hid hlen2
      have HZ2 := Lib.hid hz2
      clear hl2 hlen2 hW6 h6 hz2 hr3 hs3 HR1 HR2 HRT HS1 HS2 H4 HB4 HAT1 HL1 HB3 CV
      go_wp2_with fail
      clear c0 c1 f0 f1 cv6
      rw [← HW6.out]
      refine (Of_any _ [z2] r3 _ (Row.builtAt W6 w5.heap.size (by rw [HW6.out]; simp [World.setCell]) [z2] rfl) HS3.out (by simp) HR3'.out).mono ?_
      rintro e w7 ⟨rfl, b7⟩
      have h7 := (H6.out.alloc _).below b7 (H6.out.alloc _).1
      have HBW7 := Lib.hid (below_then (HBW6.out.alloc HBW6.out.size _) b7)
      clear b7
      go_wp2_with fail
      refine (Not_any r3 rb3.1 rb3.2 _).mono ?_
      rintro e w' ⟨rfl, rfl⟩
      obtain ⟨c, hc⟩ : ∃ c, 65535 - r3 = c := ⟨_, rfl⟩
      rw [hc]
      have hcb : 0 ≤ c ∧ c ≤ 65535 := by omega
      obtain ⟨v2, hv2⟩ := byte_of (c / 256) (by omega) (by omega)
      obtain ⟨v3, hv3⟩ := byte_of (c % 256) (by omega) (by omega)
      have hcv : c = 256 * (v2.toNat : Int) + (v3.toNat : Int) := by omega
      have hb0 : p0 < l2.length := by rw [HLEN2.out]; exact h0n
      have hb1 : p1 < l2.length := by rw [HLEN2.out]; exact h1n
      have c0 := h7.cell p0 hb0
      have c1 := h7.cell p1 hb1
      have f0 := h7.frozen p0 hb0
      have f1 := h7.frozen p1 hb1
      obtain ⟨l3, hl3⟩ : ∃ l3, l3 = (l2.set p0 v2).set p1 v3 := ⟨_, rfl⟩
      have hlen3 : l3.length = N := by rw [hl3, List.length_set, List.length_set]; exact HLEN2.out
      obtain ⟨W8, hW8⟩ : ∃ W8, W8 = (w7.setCell ⟨g, p0, none⟩ (.int .u8 (v2.toNat : Int))).setCell ⟨g, p1, none⟩ (.int .u8 (v3.toNat : Int)) := ⟨_, rfl⟩
      have h8 : Bts W8 g l3 := by rw [hW8, hl3]; exact (h7.set_ p0 v2 hb0).set_ p1 v3 (by rw [List.length_set]; exact hb1)
      obtain ⟨z3, hz3⟩ : ∃ z, z = txt l3 := ⟨_, rfl⟩
      have cv8 : (convert 38 9 (.slice (some ⟨g, 0, none⟩) N cap)).run Try.prog W8 = .ok (.string z3) W8 := by rw [hz3]; exact bytes_text W8 g cap N _ h8 hlen3.symm
      have HBW8 := Lib.hid (show Below w.heap.size w W8 by rw [hW8]; exact (HBW7.out.setCell (p := ⟨g, p0, none⟩) hgw _).setCell (p := ⟨g, p1, none⟩) hgw _)
      rw [hW8] at cv8
      have hw3 := tot_word l2 p0 p1 (by have := HP0.out; omega) HP1.out hb1 v2 v3
      have hzer := zeros_at l1 p0 p1 HP1.out (by rw [HLEN1.out]; exact h1n) l2 HL2.out hb0 hb1
      rw [← hl3, hzer.1, hzer.2, ← hcv] at hw3
      have hwhole : fold (tot (flat [z3])) = 65535 := by
        rw [hz3, flat_txt]
        have t2 := (tot_b l2).1
        have t3 := (tot_b l3).1
        have e := HR3.out
        have em := fold_mod (tot l2) t2
        have ez := fold_zero (tot l2) t2
        rw [fold_pos _ (by simp at hw3; omega)]
        simp at hw3
        omega
      have hs4 : (flat [z3]).length ≤ 1099511627776 := by rw [hz3, flat_txt, hlen3]; omega
      have HWH := Lib.hid hwhole
      have HS4 := Lib.hid hs4
      have HW8 := Lib.hid hW8
      clear hl3 hlen3 hW8 h8 hz3 hs4 hwhole hw3 hzer hc hcv h7
      go_wp2_with fail
      rw [← HW8.out]
      refine (Whole_any _ [z3] 65535 _ (Row.builtAt W8 w7.heap.size (by rw [HW8.out]; simp [World.setCell]) [z3] rfl) HS4.out (by simp) HWH.out).mono ?_
      rintro e w9 ⟨rfl, b9⟩
      have HBW9 := Lib.hid (below_then (HBW8.out.alloc HBW8.out.size _) b9)
      clear b9 c0 c1 f0 f1 cv8
      go_wp2
      go_ret; exact ⟨rfl, HBW9.out⟩

theorem walk (s : ByteArray) (hs : s.size ≤ 140737488351232) (a : Int) (ha : (Lit.int .u8 a).wf = true) (b : Int) (hb : (Lit.int .u16 b).wf = true) (w : World) :
    Calls Try.prog 7 #[.string s, .int .u8 a, .int .u16 b] w fun e w' => e = .returned (.bool true) ∧ Below w.heap.size w w' := by
  by_cases h : s.size ≤ 200
  · by_cases h2 : s.size % 2 = 1
    · exact walk_odd s hs h h2 a ha b hb w
    · exact walk_even s hs h (by omega) a ha b hb w
  · exact walk_gt s hs (by omega) a ha b hb w

theorem own : ownKnob Try.prog.godebug = none := by kernel_rfl
theorem laidOut : laidOutB Try.prog = true := by kernel_rfl

set_option maxRecDepth 100000 in
theorem lifted (os : Os) (started : os.Started) (H : Type) (enc : TypeId × Value → H) :
    ReturnsInHanded {} Try.checked os 7 .any (Rows.sumTurnSpec.pre6 enc Try.prog Try.f7 Rows.sumTurnRow.domain false) (Rows.sumTurnSpec.post enc Try.prog Try.f7 false true false false) := by
  refine returnsInHanded_of_change_sized (C := Try.checked) own started (by kernel_rfl) Try.func7
    (ChangeSpec.witness6 (enc := enc) (C := Try.checked) false ⟨#[], #[.string ByteArray.empty, .int .u8 0, .int .u16 0], []⟩ 8 (by kernel_rfl) (by kernel_rfl) (by kernel_rfl) (by kernel_rfl)) ?_
  intro W base args ds gs before hval0 hW hcnd hsz0 _
  have hsz : (DataW.weightsEach Try.prog (Try.f7.params.toList ++ Rows.sumTurnSpec.plain.varTypes Try.prog) (ds ++ gs)).all (· ≤ reachBytes) = true := hsz0
  have hval : ∀ (j : Nat) t v, Try.f7.params[j]? = some t → args[j]? = some v → Value.okWide Try.prog W .any base t v := hval0
  have hW' := hW
  obtain ⟨p, q, hA0, hV, rfl, hfz, hnd⟩ := hW
  have hA : DataW.TrodAll enc Try.prog W 0 (fun _ => true) true Try.f7.params.toList args.toList ds p := hA0
  rw [Try.params7] at hA hval hsz
  obtain ⟨v0, vs0, d0, ds0, p0, q0, hargs, rfl, rfl, h0, r0⟩ := trodAll_cons hA
  obtain ⟨v1, vs1, d1, ds1, p1, q1, rfl, rfl, rfl, h1, r1⟩ := trodAll_cons r0
  obtain ⟨v2, vs2, d2, ds2, p2, q2, rfl, rfl, rfl, h2, r2⟩ := trodAll_cons r1
  obtain ⟨rfl, rfl, rfl⟩ := trodAll_nil r2
  obtain rfl : args = #[v0, v1, v2] := by cases args; simp_all
  obtain ⟨rfl, rfl⟩ := trodVars_none hV
  obtain ⟨a0, rfl, rfl, rfl, w0⟩ := open_string Try.underlying9 (hval 0 9 v0 rfl rfl) h0
  obtain ⟨a1, rfl, rfl, rfl, w1⟩ := open_int Try.underlying5 (hval 1 5 v1 rfl rfl) h1
  obtain ⟨a2, rfl, rfl, rfl, w2⟩ := open_int Try.underlying24 (hval 2 24 v2 rfl rfl) h2
  have z0 : a0.size ≤ 140737488351232 := by have := sized_string hsz (j := 0) (t := 9) rfl rfl; simpa [reachBytes] using this
  clear hA0 hval0
  simp only [List.append_nil] at hW'
  refine (walk a0 z0 a1 w1 a2 w2 W).mono fun e W' ⟨he, bel⟩ => ?_
  subst he
  exact ⟨_, rfl, _, _, _, [], _, [], hW', trodAll_mk1 (shut_bool Try.underlying4 _), (trodAll_cons_mk (shut_string Try.underlying9 w0) (trodAll_cons_mk (shut_int Try.underlying5 w1) (trodAll_cons_mk (shut_int Try.underlying24 w2) trodAll_mk0))), rfl, bel.frame _, fun h => by cases h⟩

theorem over : Rows.sumTurnRow.holds Try.pinned (OpenSpec.ofChange Rows.sumTurnSpec) :=
  OpenClaim.holds_of_wide 7 Try.f7 rfl rfl rfl rfl rfl rfl rfl ⟨rfl, rfl, rfl, rfl, rfl⟩ rfl rfl rfl rfl rfl (by kernel_rfl) Try.func7 (by kernel_rfl)
    (of_decide_eq_true (by kernel_rfl)) (by unfold Func.isWrapper; first | (rw [if_pos (by decide +kernel)]; kernel_rfl) | (rw [if_neg (by decide +kernel)]; exact ⟨rfl, rfl⟩))
    (fun os started H enc _ => lifted os started H enc)

theorem proved : Rows.SumTurnSaid := over
#print axioms proved
end Go.Proofs.Ytfhiomgkmdijeaa.sumTurn
