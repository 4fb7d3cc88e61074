/-
  However a text is cut into parts, the sum is one; of two texts, of which the first one has an even number of bytes, the sum is that of both sums; zeros behind a text, and two words that change places, make no difference: of all texts (two hundred bytes at most), and places (statement SumParts, promises P3.1, P3.3), without condition.
-/
import Derived.Test.YtfhiomgkmdijeaaSumBytes
import Derived.Test.YtfhiomgkmdijeaaRows
import Derived.Deep.RegionHeld3
import Derived.Deep.RegionWith
import Derived.Deep.QuietTactic
import Derived.BigQuiet
import Derived.BigRegion
import Derived.Laws.IdiomArrays
import Derived.Lib.SmallJoins
import Derived.WalkKit
import Derived.ProofKit
import Derived.OpenShut
import Derived.ShutString
import Derived.ChangeOld
import Derived.Below
import Derived.SizedLaws
namespace Go.Proofs.Ytfhiomgkmdijeaa.sumParts
open Go.ChangeShapes Go.WideShapes Go.ChangeAt Go.RowKit
open Go.ChangeMaps (open_string shut_string)
set_option linter.unusedVariables false


/-- Sums of sums. -/
theorem fold_sums (n m : Int) (hn : 0 ≤ n) (hm : 0 ≤ m) : fold (fold n + fold m) = fold (n + m) := by
  have a := fold_mod n hn
  have b := fold_mod m hm
  have c := fold_zero n hn
  have d := fold_zero m hm
  have x := fold_b n hn
  have y := fold_b m hm
  exact fold_eq _ _ (by omega) (by omega) (by omega) (by omega)
/-- Two words that change places. -/
theorem exchanged (e : List UInt8) (p0 p1 q0 q1 : Nat) (h0 : p0 % 2 = 0) (hp1 : p1 = p0 + 1) (k0 : q0 % 2 = 0) (hq1 : q1 = q0 + 1) (lp : p1 < e.length) (lq : q1 < e.length) (s0 s1 o0 o1 : UInt8)
    (hs0 : s0 = e[p0]'(by omega)) (hs1 : s1 = e[p1]) (ho0 : o0 = e[q0]'(by omega)) (ho1 : o1 = e[q1]) : tot ((((e.set p0 o0).set p1 o1).set q0 s0).set q1 s1) = tot e := by
  have a1 : ((e.set p0 o0))[p1]'(by simp; omega) = s1 := by rw [List.getElem_set_ne (by omega), hs1]
  have t1 := tot_set_even e p0 o0 (by omega) h0
  have t2 := tot_set_odd (e.set p0 o0) p1 o1 (by simp; omega) (by omega)
  rw [a1] at t2
  have t3 := tot_set_even ((e.set p0 o0).set p1 o1) q0 s0 (by simp; omega) k0
  have t4 := tot_set_odd (((e.set p0 o0).set p1 o1).set q0 s0) q1 s1 (by simp; omega) (by omega)
  have a2 : (((e.set p0 o0).set p1 o1))[q0]'(by simp; omega) = o0 := by
    by_cases h : p0 = q0
    · subst h; rw [List.getElem_set_ne (by omega)]; simp
    · rw [List.getElem_set_ne (by omega), List.getElem_set_ne (by omega), ho0]
  have a3 : ((((e.set p0 o0).set p1 o1).set q0 s0))[q1]'(by simp; omega) = o1 := by
    rw [List.getElem_set_ne (by omega)]
    by_cases h : p1 = q1
    · subst h; simp
    · rw [List.getElem_set_ne (by omega), List.getElem_set_ne (by omega), ho1]
  rw [a2] at t3
  rw [a3] at t4
  rw [← hs0] at t1
  omega
theorem parted (s : ByteArray) (i : Nat) (h : i ≤ s.size) : (s.extract 0 i).data.toList ++ (s.extract i s.size).data.toList = s.data.toList := by
  rw [ByteArray.data_extract, ByteArray.data_extract, Array.toList_extract, Array.toList_extract, List.extract_eq_take_drop, List.extract_eq_take_drop]
  have hl : s.data.toList.length = s.size := by simp
  rw [List.drop_zero, Nat.sub_zero, List.take_of_length_le (l := s.data.toList.drop i) (by rw [List.length_drop, hl]; exact Nat.le_refl _), List.take_append_drop]

set_option maxHeartbeats 40000000 in
set_option maxRecDepth 100000 in
theorem walk (a : ByteArray) (ha : a.size ≤ 140737488351232) (b : ByteArray) (hb : b.size ≤ 140737488351232) (t0 t1 t2 : Int) (ht0 : (Lit.int .u8 t0).wf = true) (ht1 : (Lit.int .u8 t1).wf = true) (ht2 : (Lit.int .u8 t2).wf = true) (w : World) :
    Calls Try.prog 6 #[.string a, .string b, .agg #[.int .u8 t0, .int .u8 t1, .int .u8 t2]] w fun e w' => e = .returned (.bool true) ∧ Below w.heap.size w w' := by
  obtain ⟨u0, u0'⟩ := bounds_u8 ht0
  obtain ⟨u1, u1'⟩ := bounds_u8 ht1
  obtain ⟨u2, u2'⟩ := bounds_u8 ht2
  clear ht0 ht1 ht2
  -- the two texts, cut
  obtain ⟨na, hna⟩ : ∃ n, n = min a.size 200 := ⟨_, rfl⟩
  obtain ⟨nb, hnb⟩ : ∃ n, n = min b.size 200 := ⟨_, rfl⟩
  have da : (if (200 : Int) < (a.size : Int) then (200 : Int) else (a.size : Int)) = (na : Int) := by split <;> omega
  have db : (if (200 : Int) < (b.size : Int) then (200 : Int) else (b.size : Int)) = (nb : Int) := by split <;> omega
  have la : (na : Int) ≤ (a.size : Int) := by omega
  have lb : (nb : Int) ≤ (b.size : Int) := by omega
  obtain ⟨x, hx⟩ : ∃ x : ByteArray, a.extract 0 na = x := ⟨_, rfl⟩
  obtain ⟨y, hy⟩ : ∃ y : ByteArray, b.extract 0 nb = y := ⟨_, rfl⟩
  have hxs : x.size ≤ 200 := by rw [← hx, ByteArray.size_extract]; omega
  have hys : y.size ≤ 200 := by rw [← hy, ByteArray.size_extract]; omega
  -- the places
  obtain ⟨ma, hma⟩ : ∃ m : Nat, m = x.size + 1 := ⟨_, rfl⟩
  obtain ⟨mb, hmb⟩ : ∃ m : Nat, m = y.size + 1 := ⟨_, rfl⟩
  have wa : IntKind.i64.wrap ((x.size : Int) + 1) = (ma : Int) := by rw [hma]; exact IntWalk.i64_in _ (by omega)
  have wb : IntKind.i64.wrap ((y.size : Int) + 1) = (mb : Int) := by rw [hmb]; exact IntWalk.i64_in _ (by omega)
  have za : ¬ (ma : Int) = 0 := by omega
  have zb : ¬ (mb : Int) = 0 := by omega
  have za' : ((ma : Int) == 0) = false := by simp; omega
  have zb' : ((mb : Int) == 0) = false := by simp; omega
  obtain ⟨i, hi⟩ : ∃ k : Nat, t0 % (ma : Int) = (k : Int) := ⟨_, (Int.toNat_of_nonneg (Int.emod_nonneg _ za)).symm⟩
  obtain ⟨k, hk⟩ : ∃ k : Nat, t1 % (mb : Int) = (k : Int) := ⟨_, (Int.toNat_of_nonneg (Int.emod_nonneg _ zb)).symm⟩
  have hit : t0.tmod (ma : Int) = (i : Int) := by rw [Int.tmod_eq_emod_of_nonneg u0]; exact hi
  have hkt : t1.tmod (mb : Int) = (k : Int) := by rw [Int.tmod_eq_emod_of_nonneg u1]; exact hk
  have hix : i ≤ x.size := by have := Int.emod_lt_of_pos t0 (show (0 : Int) < ma by omega); omega
  have hky : k ≤ y.size := by have := Int.emod_lt_of_pos t1 (show (0 : Int) < mb by omega); omega
  have HMA := Lib.hid hma
  have HMB := Lib.hid hmb
  have e0 : IntKind.i64.wrap t0 = t0 := IntWalk.i64_in _ (by omega)
  have e1 : IntKind.i64.wrap t1 = t1 := IntWalk.i64_in _ (by omega)
  have e2 : IntKind.i64.wrap t2 = t2 := IntWalk.i64_in _ (by omega)
  clear hna hnb hma hmb
  have hbox := Blk.new w 40 #[.int .u8 t0, .int .u8 t1, .int .u8 t2]
  have HBOX := Lib.hid hbox
  have HB0 := Lib.hid ((Below.refl w.heap.size w).alloc (Nat.le_refl _) (.cells #[.int .u8 t0, .int .u8 t1, .int .u8 t2] 40))
  clear hbox
  go_enter Try.func6, Try.ntmps6
  go_wp2_with fail
  refine (works_any _).mono ?_
  rintro e w1 ⟨rfl, b1w⟩
  have HBOX1 := Lib.hid (HBOX.out.below b1w HBOX.out.lt)
  have B1 := Lib.hid (below_then HB0.out b1w)
  clear b1w
  go_wp2_with fail
  go_quiet (fail)
  obtain ⟨W1, hW1⟩ : ∃ W1, W1 = w1.drewN nq := ⟨_, rfl⟩
  have hbx := HBOX1.out.drewN nq
  have hbl := below_drewN B1.out nq
  rw [← hW1] at hbx hbl ⊢
  have HBOX2 := Lib.hid hbx
  have B2 := Lib.hid hbl
  clear hW1 hbx hbl HBOX HB0 HBOX1 B1 hx hy da db la lb
  have c0 := HBOX2.out.cell 0
  have c1 := HBOX2.out.cell 1
  have c2 := HBOX2.out.cell 2
  go_wp2_with fail
  go_quiet (fail)
  obtain ⟨W2, hW2⟩ : ∃ W2, W2 = W1.drewN nq := ⟨_, rfl⟩
  have hbx := HBOX2.out.drewN nq
  have hbl := below_drewN B2.out nq
  rw [← hW2] at hbx hbl ⊢
  have HBOX3 := Lib.hid hbx
  have B3 := Lib.hid hbl
  clear hW2 hbx hbl HBOX2 B2 c0 c1 c2 hit hkt hi hk wa wb za zb za' zb' e0 e1 e2 HMA HMB
  -- the sum of both
  obtain ⟨z, hz⟩ : ∃ z : ByteArray, x ++ y = z := ⟨_, rfl⟩
  have hzd : z.data.toList = x.data.toList ++ y.data.toList := by rw [← hz, data_append]
  have hzs : z.size ≤ 400 := by rw [← hz, ByteArray.size_append]; omega
  obtain ⟨r, hr⟩ : ∃ r, fold (tot (x.data.toList ++ y.data.toList)) = r := ⟨_, rfl⟩
  have HZD := Lib.hid hzd
  have HR := Lib.hid hr
  have lx : x.data.toList.length = x.size := by simp
  have ly : y.data.toList.length = y.size := by simp
  have HLX := Lib.hid lx
  have HLY := Lib.hid ly
  clear hr hzd lx ly
  go_wp2_with fail
  refine (Of_any _ [z] r _ (Row.built _ _ rfl) (by rw [flat_one, HZD.out, List.length_append, HLX.out, HLY.out]; omega) (by simp) (by rw [flat_one, HZD.out]; exact HR.out)).mono ?_
  rintro e w4 ⟨rfl, b4⟩
  have HBOX4 := Lib.hid ((HBOX3.out.alloc _).below b4 (HBOX3.out.alloc _).lt)
  have B4 := Lib.hid (below_then (B3.out.alloc B3.out.size _) b4)
  clear b4 HBOX3 B3
  go_wp2_with fail
  -- in other parts
  obtain ⟨x1, hx1⟩ : ∃ q : ByteArray, x.extract 0 i = q := ⟨_, rfl⟩
  obtain ⟨x2, hx2⟩ : ∃ q : ByteArray, x.extract i x.size = q := ⟨_, rfl⟩
  obtain ⟨y1, hy1⟩ : ∃ q : ByteArray, y.extract 0 k = q := ⟨_, rfl⟩
  obtain ⟨y2, hy2⟩ : ∃ q : ByteArray, y.extract k y.size = q := ⟨_, rfl⟩
  have hxx : x1.data.toList ++ x2.data.toList = x.data.toList := by rw [← hx1, ← hx2]; exact parted x i hix
  have hyy : y1.data.toList ++ y2.data.toList = y.data.toList := by rw [← hy1, ← hy2]; exact parted y k hky
  obtain ⟨z0, hz0⟩ : ∃ z0 : ByteArray, z ++ ⟨#[0]⟩ = z0 := ⟨_, rfl⟩
  have hz0d : z0.data.toList = x.data.toList ++ y.data.toList ++ [0] := by rw [← hz0, data_append, HZD.out]
  have f2 : flat [x, y] = x.data.toList ++ y.data.toList := by simp [flat]
  have f5 : flat [x1, x2, ⟨#[]⟩, y1, y2] = x.data.toList ++ y.data.toList := by rw [← hxx, ← hyy]; simp [flat]
  have f3 : flat [x, y, ⟨#[0, 0]⟩] = x.data.toList ++ y.data.toList ++ [0, 0] := by simp [flat]
  have f1 : flat [z0] = x.data.toList ++ y.data.toList ++ [0] := by rw [flat_one, hz0d]
  have g2 : fold (tot (flat [x, y])) = r := by rw [f2]; exact HR.out
  have g5 : fold (tot (flat [x1, x2, ⟨#[]⟩, y1, y2])) = r := by rw [f5]; exact HR.out
  have g3 : fold (tot (flat [x, y, ⟨#[0, 0]⟩])) = r := by rw [f3, tot_zeros]; exact HR.out
  have g1 : fold (tot (flat [z0])) = r := by rw [f1, tot_zero]; exact HR.out
  have l2 : (flat [x, y]).length ≤ 1099511627776 := by rw [f2, List.length_append, HLX.out, HLY.out]; omega
  have l5 : (flat [x1, x2, ⟨#[]⟩, y1, y2]).length ≤ 1099511627776 := by rw [f5, List.length_append, HLX.out, HLY.out]; omega
  have l3 : (flat [x, y, ⟨#[0, 0]⟩]).length ≤ 1099511627776 := by rw [f3, List.length_append, List.length_append, HLX.out, HLY.out]; simp; omega
  have l1 : (flat [z0]).length ≤ 1099511627776 := by rw [f1, List.length_append, List.length_append, HLX.out, HLY.out]; simp; omega
  have G2 := Lib.hid g2
  have G5 := Lib.hid g5
  have G3 := Lib.hid g3
  have G1 := Lib.hid g1
  have L2 := Lib.hid l2
  have L5 := Lib.hid l5
  have L3 := Lib.hid l3
  have L1 := Lib.hid l1
  clear g2 g5 g3 g1 l2 l5 l3 l1 f2 f5 f3 f1 hxx hyy hz0d
  have ii : (i : Int) ≤ (x.size : Int) := by omega
  have kk : (k : Int) ≤ (y.size : Int) := by omega
  have rr : (r != r) = false := by simp
  have k1 : ¬ 9223372036854775807 < x.size + y.size := by omega
  have k2 : ¬ 9223372036854775807 < z.size + 1 := by omega
  go_region_held3 (fun w' => True)
    (first | exact trivial)
    (first
      | (go_at_call 12; refine (Of_any _ [x, y] r _ ?_ L2.out ?_ G2.out).mono ?_; exact Row.drew (Row.built _ _ rfl); simp; rintro e w5 ⟨rfl, b5⟩; have HBOX5 := Lib.hid (((HBOX4.out.alloc _).drew).below b5 ((HBOX4.out.alloc _).drew).lt); have B5 := Lib.hid (below_then ((B4.out.alloc B4.out.size _).drew) b5); clear b5)
      | (go_at_call 12; refine (Of_any _ [x1, x2, ⟨#[]⟩, y1, y2] r _ ?_ L5.out ?_ G5.out).mono ?_; exact Row.built _ _ rfl; simp; rintro e w6 ⟨rfl, b6⟩; have HBOX6 := Lib.hid ((HBOX5.out.alloc _).below b6 (HBOX5.out.alloc _).lt); have B6 := Lib.hid (below_then (B5.out.alloc B5.out.size _) b6); clear b6)
      | (go_at_call 12; refine (Of_any _ [x, y, ⟨#[0, 0]⟩] r _ ?_ L3.out ?_ G3.out).mono ?_; exact Row.built _ _ rfl; simp; rintro e w7 ⟨rfl, b7⟩; have HBOX7 := Lib.hid ((HBOX6.out.alloc _).below b7 (HBOX6.out.alloc _).lt); have B7 := Lib.hid (below_then (B6.out.alloc B6.out.size _) b7); clear b7)
      | (go_at_call 12; refine (Of_any _ [z0] r _ ?_ L1.out ?_ G1.out).mono ?_; exact Row.built _ _ rfl; simp; rintro e w8 ⟨rfl, b8⟩; have HBOX8 := Lib.hid ((HBOX7.out.alloc _).below b8 (HBOX7.out.alloc _).lt); have B8 := Lib.hid (below_then (B7.out.alloc B7.out.size _) b8); clear b8))
  clear HBOX4 B4 HBOX5 B5 HBOX6 B6 HBOX7 B7 G2 G5 G3 G1 L2 L5 L3 L1 hx1 hx2 hy1 hy2 hz0 ii kk
  by_cases hpar : x.size % 2 = 1
  · have par1 : ((x.size : Int) % 2 == 1) = true := by simp; omega
    obtain ⟨v, hv⟩ : ∃ v : ByteArray, x ++ ⟨#[0]⟩ = v := ⟨_, rfl⟩
    have vs : v.size = x.size + 1 := by rw [← hv, ByteArray.size_append]; rfl
    have k3 : ¬ 9223372036854775807 < x.size + 1 := by omega
    have HV1 := Lib.hid (show v.size ≤ 201 by omega)
    have HV2 := Lib.hid (show v.size % 2 = 0 by omega)
    clear vs hpar
    obtain ⟨e, he⟩ : ∃ e, e = v.data.toList := ⟨_, rfl⟩
    have hel : e.length = v.size := by rw [he]; simp
    obtain ⟨f, hf⟩ : ∃ f, f = y.data.toList := ⟨_, rfl⟩
    have hfl : f.length = y.size := by rw [hf]; exact HLY.out
    have h201 : v.size ≤ 201 := HV1.out
    have hev : e.length % 2 = 0 := by rw [hel]; exact HV2.out
    have te := (tot_b e).1
    have tf := (tot_b f).1
    obtain ⟨ra, hra⟩ : ∃ r, fold (tot e) = r := ⟨_, rfl⟩
    obtain ⟨rb, hrb⟩ : ∃ r, fold (tot f) = r := ⟨_, rfl⟩
    have ba : 0 ≤ ra ∧ ra ≤ 65535 := by rw [← hra]; exact fold_b _ te
    have bb : 0 ≤ rb ∧ rb ≤ 65535 := by rw [← hrb]; exact fold_b _ tf
    obtain ⟨rs, hrs⟩ : ∃ r, fold (ra + rb) = r := ⟨_, rfl⟩
    have hsum : fold (tot (e ++ f)) = rs := by rw [← hrs, tot_append e f hev, ← hra, ← hrb]; exact (fold_sums _ _ te tf).symm
    obtain ⟨rq, hrq⟩ : ∃ r, fold (tot (f ++ e)) = r := ⟨_, rfl⟩
    have hturn : f.length % 2 = 0 → rq = rs := fun h => by rw [← hrq, ← hsum, tot_append f e h, tot_append e f hev, Int.add_comm]
    have A1 := Lib.hid (show fold (tot (flat [v])) = ra by rw [flat_one, ← he]; exact hra)
    have A2 := Lib.hid (show fold (tot (flat [y])) = rb by rw [flat_one, ← hf]; exact hrb)
    have A3 := Lib.hid (show fold (tot (flat [v, y])) = rs by rw [show flat [v, y] = e ++ f by rw [he, hf]; simp [flat]]; exact hsum)
    have A4 := Lib.hid (show fold (tot (flat [y, v])) = rq by rw [show flat [y, v] = f ++ e by rw [he, hf]; simp [flat]]; exact hrq)
    have N1 := Lib.hid (show (flat [v]).length ≤ 1099511627776 by rw [flat_one, ← he, hel]; omega)
    have N2 := Lib.hid (show (flat [y]).length ≤ 1099511627776 by rw [flat_one, ← hf, hfl]; omega)
    have N3 := Lib.hid (show (flat [v, y]).length ≤ 1099511627776 by rw [show flat [v, y] = e ++ f by rw [he, hf]; simp [flat], List.length_append, hel, hfl]; omega)
    have N4 := Lib.hid (show (flat [y, v]).length ≤ 1099511627776 by rw [show flat [y, v] = f ++ e by rw [he, hf]; simp [flat], List.length_append, hel, hfl]; omega)
    have HT := Lib.hid hturn
    have HE := Lib.hid he
    have HEL := Lib.hid hel
    have HFL := Lib.hid hfl
    have HRS := Lib.hid hrs
    have HEV := Lib.hid hev
    have ss : (rs != rs) = false := by simp
    clear he hel hf hfl hev hra hrb hrs hsum hrq hturn te tf HV2 HV1
    go_wp2_with fail
    refine (Of_any _ [v] ra _ (Row.built _ _ rfl) N1.out (by simp) A1.out).mono ?_
    rintro e' w9 ⟨rfl, b9⟩
    have HBOX9 := Lib.hid ((HBOX8.out.alloc _).below b9 (HBOX8.out.alloc _).lt)
    have B9 := Lib.hid (below_then (B8.out.alloc B8.out.size _) b9)
    clear b9 HBOX8 B8
    go_wp2_with fail
    refine (Of_any _ [y] rb _ (Row.built _ _ rfl) N2.out (by simp) A2.out).mono ?_
    rintro e' w10 ⟨rfl, b10⟩
    have HBOX10 := Lib.hid ((HBOX9.out.alloc _).below b10 (HBOX9.out.alloc _).lt)
    have B10 := Lib.hid (below_then (B9.out.alloc B9.out.size _) b10)
    clear b10 HBOX9 B9
    go_wp2_with fail
    refine (Fold_any (ra + rb) (by omega) (by omega) _).mono ?_
    rintro e' w' ⟨rfl, rfl⟩
    rw [HRS.out]
    go_wp2_with fail
    refine (Of_any _ [v, y] rs _ (Row.built _ _ rfl) N3.out (by simp) A3.out).mono ?_
    rintro e' w11 ⟨rfl, b11⟩
    have HBOX11 := Lib.hid ((HBOX10.out.alloc _).below b11 (HBOX10.out.alloc _).lt)
    have B11 := Lib.hid (below_then (B10.out.alloc B10.out.size _) b11)
    clear b11 HBOX10 B10
    go_wp2_with fail
    refine (Of_any _ [y, v] rq _ (Row.built _ _ rfl) N4.out (by simp) A4.out).mono ?_
    rintro e' w12 ⟨rfl, b12⟩
    have HBOX12 := Lib.hid ((HBOX11.out.alloc _).below b12 (HBOX11.out.alloc _).lt)
    have B12 := Lib.hid (below_then (B11.out.alloc B11.out.size _) b12)
    clear b12 HBOX11 B11
    go_wp2_with fail
    refine (Of_any _ [v, y] rs _ (Row.built _ _ rfl) N3.out (by simp) A3.out).mono ?_
    rintro e' w13 ⟨rfl, b13⟩
    have HBOX13 := Lib.hid ((HBOX12.out.alloc _).below b13 (HBOX12.out.alloc _).lt)
    have B13 := Lib.hid (below_then (B12.out.alloc B12.out.size _) b13)
    clear b13 HBOX12 B12
    by_cases hq : rq = rs
    · have hq1 : (rq != rs) = false := by simp [hq]
      clear hq
      by_cases h4 : v.size < 4
      · have d4 : decide ((v.size : Int) < 4) = true := by simp; omega
        have d5 : (v.size : Int) < 4 := by omega
        go_wp2
        go_ret; exact ⟨rfl, B13.out⟩
      · have d4 : decide ((v.size : Int) < 4) = false := by simp; omega
        have d5 : (4 : Int) ≤ (v.size : Int) := by omega
        obtain ⟨cap, w14, hconv, hbts, hbel, hsz⟩ := text_bytes w13 v
        rw [← HE.out] at hbts
        have HBTS := Lib.hid hbts
        have B14 := Lib.hid (below_then B13.out hbel)
        have HBOX14 := Lib.hid (HBOX13.out.below hbel HBOX13.out.lt)
        clear hbts hbel hsz
        have hel := HEL.out
        have hev := HEV.out
        obtain ⟨m, hm⟩ : ∃ m : Nat, m = v.size / 2 := ⟨_, rfl⟩
        have hm1 : (v.size : Int) / 2 = (m : Int) := by omega
        have hm2 : (v.size : Int).tdiv 2 = (m : Int) := by rw [Int.tdiv_eq_ediv_of_nonneg (by omega)]; exact hm1
        have hm3 : ¬ (m : Int) = 0 := by omega
        have hm4 : ((m : Int) == 0) = false := by simp; omega
        have hm5 : IntKind.i64.wrap ((v.size : Int) / 2) = (m : Int) := by rw [hm1]; exact IntWalk.i64_in _ (by omega)
        have hm6 : IntKind.i64.wrap (m : Int) = (m : Int) := IntWalk.i64_in _ (by omega)
        have e1 : IntKind.i64.wrap t1 = t1 := IntWalk.i64_in _ (by omega)
        have e2 : IntKind.i64.wrap t2 = t2 := IntWalk.i64_in _ (by omega)
        obtain ⟨p, hp⟩ : ∃ k : Nat, t1 % (m : Int) = (k : Int) := ⟨_, (Int.toNat_of_nonneg (Int.emod_nonneg _ hm3)).symm⟩
        obtain ⟨q, hq⟩ : ∃ k : Nat, t2 % (m : Int) = (k : Int) := ⟨_, (Int.toNat_of_nonneg (Int.emod_nonneg _ hm3)).symm⟩
        have hpt : t1.tmod (m : Int) = (p : Int) := by rw [Int.tmod_eq_emod_of_nonneg u1]; exact hp
        have hqt : t2.tmod (m : Int) = (q : Int) := by rw [Int.tmod_eq_emod_of_nonneg u2]; exact hq
        have hpm : p < m := by have := Int.emod_lt_of_pos t1 (show (0 : Int) < m by omega); omega
        have hqm : q < m := by have := Int.emod_lt_of_pos t2 (show (0 : Int) < m by omega); omega
        have c1 := HBOX14.out.cell 1
        have c2 := HBOX14.out.cell 2
        have HM := Lib.hid hm
        clear hel hev hm
        go_wp2_with fail
        go_quiet (fail)
        obtain ⟨W, hW⟩ : ∃ W, W = w14.drewN nq := ⟨_, rfl⟩
        have hbt := HBTS.out.drewN nq
        have hbl := below_drewN B14.out nq
        rw [← hW] at hbt hbl ⊢
        have HB := Lib.hid hbt
        have BW := Lib.hid hbl
        clear hW hbt hbl hconv hpt hqt hp hq c1 c2 hm1 hm2 hm3 hm4 hm5 hm6 e1 e2 HBTS B14 HBOX14 HBOX13
        have hev := HEV.out
        have hel := HEL.out
        have hm := HM.out
        obtain ⟨p0, hp0⟩ : ∃ p0 : Nat, p0 = 2 * p := ⟨_, rfl⟩
        obtain ⟨p1, hp1⟩ : ∃ p1 : Nat, p1 = p0 + 1 := ⟨_, rfl⟩
        obtain ⟨q0, hq0⟩ : ∃ q0 : Nat, q0 = 2 * q := ⟨_, rfl⟩
        obtain ⟨q1, hq1'⟩ : ∃ q1 : Nat, q1 = q0 + 1 := ⟨_, rfl⟩
        have lp0 : p0 < e.length := by omega
        have lp1 : p1 < e.length := by omega
        have lq0 : q0 < e.length := by omega
        have lq1 : q1 < e.length := by omega
        have v1 : IntKind.i64.wrap (2 * (p : Int)) = (p0 : Int) := by rw [show 2 * (p : Int) = (p0 : Int) by omega]; exact IntWalk.i64_in _ (by omega)
        have v2 : IntKind.i64.wrap ((p0 : Int) + 1) = (p1 : Int) := by rw [show (p0 : Int) + 1 = (p1 : Int) by omega]; exact IntWalk.i64_in _ (by omega)
        have v3 : IntKind.i64.wrap (2 * (q : Int)) = (q0 : Int) := by rw [show 2 * (q : Int) = (q0 : Int) by omega]; exact IntWalk.i64_in _ (by omega)
        have v4 : IntKind.i64.wrap ((q0 : Int) + 1) = (q1 : Int) := by rw [show (q0 : Int) + 1 = (q1 : Int) by omega]; exact IntWalk.i64_in _ (by omega)
        have i1 : (p0 : Int) < (v.size : Int) := by omega
        have i2 : (p1 : Int) < (v.size : Int) := by omega
        have i3 : (q0 : Int) < (v.size : Int) := by omega
        have i4 : (q1 : Int) < (v.size : Int) := by omega
        have j1 : p0 < v.size := by omega
        have j2 : p1 < v.size := by omega
        have j3 : q0 < v.size := by omega
        have j4 : q1 < v.size := by omega
        obtain ⟨g, hg⟩ : ∃ g, g = w13.heap.size := ⟨_, rfl⟩
        rw [← hg] at HB ⊢
        have hgw : w.heap.size ≤ g := by rw [hg]; exact B13.out.size
        clear hg
        obtain ⟨s0, hs0⟩ : ∃ s, s = e[p0] := ⟨_, rfl⟩
        obtain ⟨s1, hs1⟩ : ∃ s, s = e[p1] := ⟨_, rfl⟩
        obtain ⟨o0, ho0⟩ : ∃ s, s = e[q0] := ⟨_, rfl⟩
        obtain ⟨o1, ho1⟩ : ∃ s, s = e[q1] := ⟨_, rfl⟩
        have cp0 := HB.out.cell p0 lp0
        have cp1 := HB.out.cell p1 lp1
        have cq0 := HB.out.cell q0 lq0
        have cq1 := HB.out.cell q1 lq1
        have fp0 := HB.out.frozen p0 lp0
        have fp1 := HB.out.frozen p1 lp1
        have fq0 := HB.out.frozen q0 lq0
        have fq1 := HB.out.frozen q1 lq1
        rw [← hs0] at cp0
        rw [← hs1] at cp1
        rw [← ho0] at cq0
        rw [← ho1] at cq1
        have HX := Lib.hid (exchanged e p0 p1 q0 q1 (by omega) hp1 (by omega) hq1' lp1 lq1 s0 s1 o0 o1 hs0 hs1 ho0 ho1)
        obtain ⟨e', he'⟩ : ∃ e', e' = (((e.set p0 o0).set p1 o1).set q0 s0).set q1 s1 := ⟨_, rfl⟩
        rw [← he'] at HX
        have hle' : e'.length = v.size := by rw [he']; simp only [List.length_set]; exact hel
        obtain ⟨W16, hW16⟩ : ∃ W', W' = (((W.setCell ⟨g, p0, none⟩ (.int .u8 (o0.toNat : Int))).setCell ⟨g, p1, none⟩ (.int .u8 (o1.toNat : Int))).setCell ⟨g, q0, none⟩ (.int .u8 (s0.toNat : Int))).setCell ⟨g, q1, none⟩ (.int .u8 (s1.toNat : Int)) := ⟨_, rfl⟩
        have HB16 := Lib.hid (show Bts W16 g e' by
          rw [hW16, he']
          exact (((HB.out.set_ p0 o0 lp0).set_ p1 o1 (by simp only [List.length_set]; exact lp1)).set_ q0 s0 (by simp only [List.length_set]; exact lq0)).set_ q1 s1 (by simp only [List.length_set]; exact lq1))
        have BW16 := Lib.hid (show Below w.heap.size w W16 by
          rw [hW16]
          exact (((BW.out.setCell (p := ⟨g, p0, none⟩) hgw _).setCell (p := ⟨g, p1, none⟩) hgw _).setCell (p := ⟨g, q0, none⟩) hgw _).setCell (p := ⟨g, q1, none⟩) hgw _)
        have HW16 := Lib.hid hW16
        have HLE := Lib.hid hle'
        clear hW16 he' hle' hs0 hs1 ho0 ho1
        have n1 : ¬ p0 = p1 := by omega
        have n1' : ¬ p1 = p0 := by omega
        have n2 : ¬ q0 = q1 := by omega
        have n2' : ¬ q1 = q0 := by omega
        have n3 : ¬ p0 = q1 := by omega
        have n3' : ¬ q1 = p0 := by omega
        have n4 : ¬ p1 = q0 := by omega
        have n4' : ¬ q0 = p1 := by omega
        have HP0 := Lib.hid hp0
        have HP1 := Lib.hid hp1
        have HQ0 := Lib.hid hq0
        have HQ1 := Lib.hid hq1'
        clear hp0 hp1 hq0 hq1' hev hel hm
        by_cases hpq : p0 = q0
        · obtain rfl : p0 = q0 := hpq
          obtain rfl : p1 = q1 := by have := HP1.out; have := HQ1.out; omega
          obtain rfl : s0 = o0 := UInt8.toNat_inj.1 (by have h := cp0.symm.trans cq0; injection h with h; injection h with _ h; omega)
          obtain rfl : s1 = o1 := UInt8.toNat_inj.1 (by have h := cp1.symm.trans cq1; injection h with h; injection h with _ h; omega)
          go_wp2_with fail
          go_region
          rw [← HW16.out]
          obtain ⟨W17, hW17⟩ : ∃ W', W' = W16.drew := ⟨_, rfl⟩
          have hb17 : Bts W17 g e' := by rw [hW17]; exact HB16.out.drew
          have BW17 := Lib.hid (show Below w.heap.size w W17 by rw [hW17]; exact BW16.out.drew)
          rw [← hW17]
          obtain ⟨z2, hz2⟩ : ∃ z2, z2 = txt e' := ⟨_, rfl⟩
          have cv : (convert 38 9 (.slice (some ⟨g, 0, none⟩) v.size cap)).run Try.prog W17 = .ok (.string z2) W17 := by rw [hz2]; exact bytes_text W17 g cap v.size e' hb17 HLE.out.symm
          have A5 := Lib.hid (show fold (tot (flat [z2])) = ra by rw [hz2, flat_txt, HX.out, HE.out, ← flat_one]; exact A1.out)
          have N5 := Lib.hid (show (flat [z2]).length ≤ 1099511627776 by rw [hz2, flat_txt, HLE.out]; omega)
          clear hW17 hb17 hz2 cp0 cp1 cq0 cq1 fp0 fp1 fq0 fq1
          go_wp2_with fail
          refine (Of_any _ [z2] ra _ (Row.built _ _ rfl) N5.out (by simp) A5.out).mono ?_
          rintro e1 w18 ⟨rfl, b18⟩
          have B18 := Lib.hid (below_then (BW17.out.alloc BW17.out.size _) b18)
          clear b18 cv
          go_wp2_with fail
          refine (Of_any _ [v] ra _ (Row.built _ _ rfl) N1.out (by simp) A1.out).mono ?_
          rintro e1 w19 ⟨rfl, b19⟩
          have B19 := Lib.hid (below_then (B18.out.alloc B18.out.size _) b19)
          clear b19
          go_wp2
          go_ret; exact ⟨rfl, B19.out⟩
        · have hpq' : ¬ q0 = p0 := fun h => hpq h.symm
          have n5 : ¬ p1 = q1 := by have := HP1.out; have := HQ1.out; omega
          have n5' : ¬ q1 = p1 := fun h => n5 h.symm
          go_wp2_with fail
          go_region
          rw [← HW16.out]
          obtain ⟨W17, hW17⟩ : ∃ W', W' = W16.drew := ⟨_, rfl⟩
          have hb17 : Bts W17 g e' := by rw [hW17]; exact HB16.out.drew
          have BW17 := Lib.hid (show Below w.heap.size w W17 by rw [hW17]; exact BW16.out.drew)
          rw [← hW17]
          obtain ⟨z2, hz2⟩ : ∃ z2, z2 = txt e' := ⟨_, rfl⟩
          have cv : (convert 38 9 (.slice (some ⟨g, 0, none⟩) v.size cap)).run Try.prog W17 = .ok (.string z2) W17 := by rw [hz2]; exact bytes_text W17 g cap v.size e' hb17 HLE.out.symm
          have A5 := Lib.hid (show fold (tot (flat [z2])) = ra by rw [hz2, flat_txt, HX.out, HE.out, ← flat_one]; exact A1.out)
          have N5 := Lib.hid (show (flat [z2]).length ≤ 1099511627776 by rw [hz2, flat_txt, HLE.out]; omega)
          clear hW17 hb17 hz2 cp0 cp1 cq0 cq1 fp0 fp1 fq0 fq1
          go_wp2_with fail
          refine (Of_any _ [z2] ra _ (Row.built _ _ rfl) N5.out (by simp) A5.out).mono ?_
          rintro e1 w18 ⟨rfl, b18⟩
          have B18 := Lib.hid (below_then (BW17.out.alloc BW17.out.size _) b18)
          clear b18 cv
          go_wp2_with fail
          refine (Of_any _ [v] ra _ (Row.built _ _ rfl) N1.out (by simp) A1.out).mono ?_
          rintro e1 w19 ⟨rfl, b19⟩
          have B19 := Lib.hid (below_then (B18.out.alloc B18.out.size _) b19)
          clear b19
          go_wp2
          go_ret; exact ⟨rfl, B19.out⟩
    · have hq1 : (rq != rs) = true := by simp [hq]
      have hq2 : ((y.size : Int) % 2 == 0) = false := by
        have h : ¬ y.size % 2 = 0 := fun h => hq (HT.out (by rw [HFL.out]; exact h))
        simp; omega
      clear hq
      by_cases h4 : v.size < 4
      · have d4 : decide ((v.size : Int) < 4) = true := by simp; omega
        have d5 : (v.size : Int) < 4 := by omega
        go_wp2
        go_ret; exact ⟨rfl, B13.out⟩
      · have d4 : decide ((v.size : Int) < 4) = false := by simp; omega
        have d5 : (4 : Int) ≤ (v.size : Int) := by omega
        obtain ⟨cap, w14, hconv, hbts, hbel, hsz⟩ := text_bytes w13 v
        rw [← HE.out] at hbts
        have HBTS := Lib.hid hbts
        have B14 := Lib.hid (below_then B13.out hbel)
        have HBOX14 := Lib.hid (HBOX13.out.below hbel HBOX13.out.lt)
        clear hbts hbel hsz
        have hel := HEL.out
        have hev := HEV.out
        obtain ⟨m, hm⟩ : ∃ m : Nat, m = v.size / 2 := ⟨_, rfl⟩
        have hm1 : (v.size : Int) / 2 = (m : Int) := by omega
        have hm2 : (v.size : Int).tdiv 2 = (m : Int) := by rw [Int.tdiv_eq_ediv_of_nonneg (by omega)]; exact hm1
        have hm3 : ¬ (m : Int) = 0 := by omega
        have hm4 : ((m : Int) == 0) = false := by simp; omega
        have hm5 : IntKind.i64.wrap ((v.size : Int) / 2) = (m : Int) := by rw [hm1]; exact IntWalk.i64_in _ (by omega)
        have hm6 : IntKind.i64.wrap (m : Int) = (m : Int) := IntWalk.i64_in _ (by omega)
        have e1 : IntKind.i64.wrap t1 = t1 := IntWalk.i64_in _ (by omega)
        have e2 : IntKind.i64.wrap t2 = t2 := IntWalk.i64_in _ (by omega)
        obtain ⟨p, hp⟩ : ∃ k : Nat, t1 % (m : Int) = (k : Int) := ⟨_, (Int.toNat_of_nonneg (Int.emod_nonneg _ hm3)).symm⟩
        obtain ⟨q, hq⟩ : ∃ k : Nat, t2 % (m : Int) = (k : Int) := ⟨_, (Int.toNat_of_nonneg (Int.emod_nonneg _ hm3)).symm⟩
        have hpt : t1.tmod (m : Int) = (p : Int) := by rw [Int.tmod_eq_emod_of_nonneg u1]; exact hp
        have hqt : t2.tmod (m : Int) = (q : Int) := by rw [Int.tmod_eq_emod_of_nonneg u2]; exact hq
        have hpm : p < m := by have := Int.emod_lt_of_pos t1 (show (0 : Int) < m by omega); omega
        have hqm : q < m := by have := Int.emod_lt_of_pos t2 (show (0 : Int) < m by omega); omega
        have c1 := HBOX14.out.cell 1
        have c2 := HBOX14.out.cell 2
        have HM := Lib.hid hm
        clear hel hev hm
        go_wp2_with fail
        go_quiet (fail)
        obtain ⟨W, hW⟩ : ∃ W, W = w14.drewN nq := ⟨_, rfl⟩
        have hbt := HBTS.out.drewN nq
        have hbl := below_drewN B14.out nq
        rw [← hW] at hbt hbl ⊢
        have HB := Lib.hid hbt
        have BW := Lib.hid hbl
        clear hW hbt hbl hconv hpt hqt hp hq c1 c2 hm1 hm2 hm3 hm4 hm5 hm6 e1 e2 HBTS B14 HBOX14 HBOX13
        have hev := HEV.out
        have hel := HEL.out
        have hm := HM.out
        obtain ⟨p0, hp0⟩ : ∃ p0 : Nat, p0 = 2 * p := ⟨_, rfl⟩
        obtain ⟨p1, hp1⟩ : ∃ p1 : Nat, p1 = p0 + 1 := ⟨_, rfl⟩
        obtain ⟨q0, hq0⟩ : ∃ q0 : Nat, q0 = 2 * q := ⟨_, rfl⟩
        obtain ⟨q1, hq1'⟩ : ∃ q1 : Nat, q1 = q0 + 1 := ⟨_, rfl⟩
        have lp0 : p0 < e.length := by omega
        have lp1 : p1 < e.length := by omega
        have lq0 : q0 < e.length := by omega
        have lq1 : q1 < e.length := by omega
        have v1 : IntKind.i64.wrap (2 * (p : Int)) = (p0 : Int) := by rw [show 2 * (p : Int) = (p0 : Int) by omega]; exact IntWalk.i64_in _ (by omega)
        have v2 : IntKind.i64.wrap ((p0 : Int) + 1) = (p1 : Int) := by rw [show (p0 : Int) + 1 = (p1 : Int) by omega]; exact IntWalk.i64_in _ (by omega)
        have v3 : IntKind.i64.wrap (2 * (q : Int)) = (q0 : Int) := by rw [show 2 * (q : Int) = (q0 : Int) by omega]; exact IntWalk.i64_in _ (by omega)
        have v4 : IntKind.i64.wrap ((q0 : Int) + 1) = (q1 : Int) := by rw [show (q0 : Int) + 1 = (q1 : Int) by omega]; exact IntWalk.i64_in _ (by omega)
        have i1 : (p0 : Int) < (v.size : Int) := by omega
        have i2 : (p1 : Int) < (v.size : Int) := by omega
        have i3 : (q0 : Int) < (v.size : Int) := by omega
        have i4 : (q1 : Int) < (v.size : Int) := by omega
        have j1 : p0 < v.size := by omega
        have j2 : p1 < v.size := by omega
        have j3 : q0 < v.size := by omega
        have j4 : q1 < v.size := by omega
        obtain ⟨g, hg⟩ : ∃ g, g = w13.heap.size := ⟨_, rfl⟩
        rw [← hg] at HB ⊢
        have hgw : w.heap.size ≤ g := by rw [hg]; exact B13.out.size
        clear hg
        obtain ⟨s0, hs0⟩ : ∃ s, s = e[p0] := ⟨_, rfl⟩
        obtain ⟨s1, hs1⟩ : ∃ s, s = e[p1] := ⟨_, rfl⟩
        obtain ⟨o0, ho0⟩ : ∃ s, s = e[q0] := ⟨_, rfl⟩
        obtain ⟨o1, ho1⟩ : ∃ s, s = e[q1] := ⟨_, rfl⟩
        have cp0 := HB.out.cell p0 lp0
        have cp1 := HB.out.cell p1 lp1
        have cq0 := HB.out.cell q0 lq0
        have cq1 := HB.out.cell q1 lq1
        have fp0 := HB.out.frozen p0 lp0
        have fp1 := HB.out.frozen p1 lp1
        have fq0 := HB.out.frozen q0 lq0
        have fq1 := HB.out.frozen q1 lq1
        rw [← hs0] at cp0
        rw [← hs1] at cp1
        rw [← ho0] at cq0
        rw [← ho1] at cq1
        have HX := Lib.hid (exchanged e p0 p1 q0 q1 (by omega) hp1 (by omega) hq1' lp1 lq1 s0 s1 o0 o1 hs0 hs1 ho0 ho1)
        obtain ⟨e', he'⟩ : ∃ e', e' = (((e.set p0 o0).set p1 o1).set q0 s0).set q1 s1 := ⟨_, rfl⟩
        rw [← he'] at HX
        have hle' : e'.length = v.size := by rw [he']; simp only [List.length_set]; exact hel
        obtain ⟨W16, hW16⟩ : ∃ W', W' = (((W.setCell ⟨g, p0, none⟩ (.int .u8 (o0.toNat : Int))).setCell ⟨g, p1, none⟩ (.int .u8 (o1.toNat : Int))).setCell ⟨g, q0, none⟩ (.int .u8 (s0.toNat : Int))).setCell ⟨g, q1, none⟩ (.int .u8 (s1.toNat : Int)) := ⟨_, rfl⟩
        have HB16 := Lib.hid (show Bts W16 g e' by
          rw [hW16, he']
          exact (((HB.out.set_ p0 o0 lp0).set_ p1 o1 (by simp only [List.length_set]; exact lp1)).set_ q0 s0 (by simp only [List.length_set]; exact lq0)).set_ q1 s1 (by simp only [List.length_set]; exact lq1))
        have BW16 := Lib.hid (show Below w.heap.size w W16 by
          rw [hW16]
          exact (((BW.out.setCell (p := ⟨g, p0, none⟩) hgw _).setCell (p := ⟨g, p1, none⟩) hgw _).setCell (p := ⟨g, q0, none⟩) hgw _).setCell (p := ⟨g, q1, none⟩) hgw _)
        have HW16 := Lib.hid hW16
        have HLE := Lib.hid hle'
        clear hW16 he' hle' hs0 hs1 ho0 ho1
        have n1 : ¬ p0 = p1 := by omega
        have n1' : ¬ p1 = p0 := by omega
        have n2 : ¬ q0 = q1 := by omega
        have n2' : ¬ q1 = q0 := by omega
        have n3 : ¬ p0 = q1 := by omega
        have n3' : ¬ q1 = p0 := by omega
        have n4 : ¬ p1 = q0 := by omega
        have n4' : ¬ q0 = p1 := by omega
        have HP0 := Lib.hid hp0
        have HP1 := Lib.hid hp1
        have HQ0 := Lib.hid hq0
        have HQ1 := Lib.hid hq1'
        clear hp0 hp1 hq0 hq1' hev hel hm
        by_cases hpq : p0 = q0
        · obtain rfl : p0 = q0 := hpq
          obtain rfl : p1 = q1 := by have := HP1.out; have := HQ1.out; omega
          obtain rfl : s0 = o0 := UInt8.toNat_inj.1 (by have h := cp0.symm.trans cq0; injection h with h; injection h with _ h; omega)
          obtain rfl : s1 = o1 := UInt8.toNat_inj.1 (by have h := cp1.symm.trans cq1; injection h with h; injection h with _ h; omega)
          go_wp2_with fail
          go_region
          rw [← HW16.out]
          obtain ⟨W17, hW17⟩ : ∃ W', W' = W16.drew := ⟨_, rfl⟩
          have hb17 : Bts W17 g e' := by rw [hW17]; exact HB16.out.drew
          have BW17 := Lib.hid (show Below w.heap.size w W17 by rw [hW17]; exact BW16.out.drew)
          rw [← hW17]
          obtain ⟨z2, hz2⟩ : ∃ z2, z2 = txt e' := ⟨_, rfl⟩
          have cv : (convert 38 9 (.slice (some ⟨g, 0, none⟩) v.size cap)).run Try.prog W17 = .ok (.string z2) W17 := by rw [hz2]; exact bytes_text W17 g cap v.size e' hb17 HLE.out.symm
          have A5 := Lib.hid (show fold (tot (flat [z2])) = ra by rw [hz2, flat_txt, HX.out, HE.out, ← flat_one]; exact A1.out)
          have N5 := Lib.hid (show (flat [z2]).length ≤ 1099511627776 by rw [hz2, flat_txt, HLE.out]; omega)
          clear hW17 hb17 hz2 cp0 cp1 cq0 cq1 fp0 fp1 fq0 fq1
          go_wp2_with fail
          refine (Of_any _ [z2] ra _ (Row.built _ _ rfl) N5.out (by simp) A5.out).mono ?_
          rintro e1 w18 ⟨rfl, b18⟩
          have B18 := Lib.hid (below_then (BW17.out.alloc BW17.out.size _) b18)
          clear b18 cv
          go_wp2_with fail
          refine (Of_any _ [v] ra _ (Row.built _ _ rfl) N1.out (by simp) A1.out).mono ?_
          rintro e1 w19 ⟨rfl, b19⟩
          have B19 := Lib.hid (below_then (B18.out.alloc B18.out.size _) b19)
          clear b19
          go_wp2
          go_ret; exact ⟨rfl, B19.out⟩
        · have hpq' : ¬ q0 = p0 := fun h => hpq h.symm
          have n5 : ¬ p1 = q1 := by have := HP1.out; have := HQ1.out; omega
          have n5' : ¬ q1 = p1 := fun h => n5 h.symm
          go_wp2_with fail
          go_region
          rw [← HW16.out]
          obtain ⟨W17, hW17⟩ : ∃ W', W' = W16.drew := ⟨_, rfl⟩
          have hb17 : Bts W17 g e' := by rw [hW17]; exact HB16.out.drew
          have BW17 := Lib.hid (show Below w.heap.size w W17 by rw [hW17]; exact BW16.out.drew)
          rw [← hW17]
          obtain ⟨z2, hz2⟩ : ∃ z2, z2 = txt e' := ⟨_, rfl⟩
          have cv : (convert 38 9 (.slice (some ⟨g, 0, none⟩) v.size cap)).run Try.prog W17 = .ok (.string z2) W17 := by rw [hz2]; exact bytes_text W17 g cap v.size e' hb17 HLE.out.symm
          have A5 := Lib.hid (show fold (tot (flat [z2])) = ra by rw [hz2, flat_txt, HX.out, HE.out, ← flat_one]; exact A1.out)
          have N5 := Lib.hid (show (flat [z2]).length ≤ 1099511627776 by rw [hz2, flat_txt, HLE.out]; omega)
          clear hW17 hb17 hz2 cp0 cp1 cq0 cq1 fp0 fp1 fq0 fq1
          go_wp2_with fail
          refine (Of_any _ [z2] ra _ (Row.built _ _ rfl) N5.out (by simp) A5.out).mono ?_
          rintro e1 w18 ⟨rfl, b18⟩
          have B18 := Lib.hid (below_then (BW17.out.alloc BW17.out.size _) b18)
          clear b18 cv
          go_wp2_with fail
          refine (Of_any _ [v] ra _ (Row.built _ _ rfl) N1.out (by simp) A1.out).mono ?_
          rintro e1 w19 ⟨rfl, b19⟩
          have B19 := Lib.hid (below_then (B18.out.alloc B18.out.size _) b19)
          clear b19
          go_wp2
          go_ret; exact ⟨rfl, B19.out⟩
  · have par1 : ((x.size : Int) % 2 == 1) = false := by simp; omega
    obtain ⟨v, hv⟩ : ∃ v : ByteArray, v = x := ⟨_, rfl⟩
    subst hv
    have HV1 := Lib.hid (show v.size ≤ 201 by omega)
    have HV2 := Lib.hid (show v.size % 2 = 0 by omega)
    clear hpar
    obtain ⟨e, he⟩ : ∃ e, e = v.data.toList := ⟨_, rfl⟩
    have hel : e.length = v.size := by rw [he]; simp
    obtain ⟨f, hf⟩ : ∃ f, f = y.data.toList := ⟨_, rfl⟩
    have hfl : f.length = y.size := by rw [hf]; exact HLY.out
    have h201 : v.size ≤ 201 := HV1.out
    have hev : e.length % 2 = 0 := by rw [hel]; exact HV2.out
    have te := (tot_b e).1
    have tf := (tot_b f).1
    obtain ⟨ra, hra⟩ : ∃ r, fold (tot e) = r := ⟨_, rfl⟩
    obtain ⟨rb, hrb⟩ : ∃ r, fold (tot f) = r := ⟨_, rfl⟩
    have ba : 0 ≤ ra ∧ ra ≤ 65535 := by rw [← hra]; exact fold_b _ te
    have bb : 0 ≤ rb ∧ rb ≤ 65535 := by rw [← hrb]; exact fold_b _ tf
    obtain ⟨rs, hrs⟩ : ∃ r, fold (ra + rb) = r := ⟨_, rfl⟩
    have hsum : fold (tot (e ++ f)) = rs := by rw [← hrs, tot_append e f hev, ← hra, ← hrb]; exact (fold_sums _ _ te tf).symm
    obtain ⟨rq, hrq⟩ : ∃ r, fold (tot (f ++ e)) = r := ⟨_, rfl⟩
    have hturn : f.length % 2 = 0 → rq = rs := fun h => by rw [← hrq, ← hsum, tot_append f e h, tot_append e f hev, Int.add_comm]
    have A1 := Lib.hid (show fold (tot (flat [v])) = ra by rw [flat_one, ← he]; exact hra)
    have A2 := Lib.hid (show fold (tot (flat [y])) = rb by rw [flat_one, ← hf]; exact hrb)
    have A3 := Lib.hid (show fold (tot (flat [v, y])) = rs by rw [show flat [v, y] = e ++ f by rw [he, hf]; simp [flat]]; exact hsum)
    have A4 := Lib.hid (show fold (tot (flat [y, v])) = rq by rw [show flat [y, v] = f ++ e by rw [he, hf]; simp [flat]]; exact hrq)
    have N1 := Lib.hid (show (flat [v]).length ≤ 1099511627776 by rw [flat_one, ← he, hel]; omega)
    have N2 := Lib.hid (show (flat [y]).length ≤ 1099511627776 by rw [flat_one, ← hf, hfl]; omega)
    have N3 := Lib.hid (show (flat [v, y]).length ≤ 1099511627776 by rw [show flat [v, y] = e ++ f by rw [he, hf]; simp [flat], List.length_append, hel, hfl]; omega)
    have N4 := Lib.hid (show (flat [y, v]).length ≤ 1099511627776 by rw [show flat [y, v] = f ++ e by rw [he, hf]; simp [flat], List.length_append, hel, hfl]; omega)
    have HT := Lib.hid hturn
    have HE := Lib.hid he
    have HEL := Lib.hid hel
    have HFL := Lib.hid hfl
    have HRS := Lib.hid hrs
    have HEV := Lib.hid hev
    have ss : (rs != rs) = false := by simp
    clear he hel hf hfl hev hra hrb hrs hsum hrq hturn te tf HV2 HV1
    go_wp2_with fail
    refine (Of_any _ [v] ra _ (Row.built _ _ rfl) N1.out (by simp) A1.out).mono ?_
    rintro e' w9 ⟨rfl, b9⟩
    have HBOX9 := Lib.hid ((HBOX8.out.alloc _).below b9 (HBOX8.out.alloc _).lt)
    have B9 := Lib.hid (below_then (B8.out.alloc B8.out.size _) b9)
    clear b9 HBOX8 B8
    go_wp2_with fail
    refine (Of_any _ [y] rb _ (Row.built _ _ rfl) N2.out (by simp) A2.out).mono ?_
    rintro e' w10 ⟨rfl, b10⟩
    have HBOX10 := Lib.hid ((HBOX9.out.alloc _).below b10 (HBOX9.out.alloc _).lt)
    have B10 := Lib.hid (below_then (B9.out.alloc B9.out.size _) b10)
    clear b10 HBOX9 B9
    go_wp2_with fail
    refine (Fold_any (ra + rb) (by omega) (by omega) _).mono ?_
    rintro e' w' ⟨rfl, rfl⟩
    rw [HRS.out]
    go_wp2_with fail
    refine (Of_any _ [v, y] rs _ (Row.built _ _ rfl) N3.out (by simp) A3.out).mono ?_
    rintro e' w11 ⟨rfl, b11⟩
    have HBOX11 := Lib.hid ((HBOX10.out.alloc _).below b11 (HBOX10.out.alloc _).lt)
    have B11 := Lib.hid (below_then (B10.out.alloc B10.out.size _) b11)
    clear b11 HBOX10 B10
    go_wp2_with fail
    refine (Of_any _ [y, v] rq _ (Row.built _ _ rfl) N4.out (by simp) A4.out).mono ?_
    rintro e' w12 ⟨rfl, b12⟩
    have HBOX12 := Lib.hid ((HBOX11.out.alloc _).below b12 (HBOX11.out.alloc _).lt)
    have B12 := Lib.hid (below_then (B11.out.alloc B11.out.size _) b12)
    clear b12 HBOX11 B11
    go_wp2_with fail
    refine (Of_any _ [v, y] rs _ (Row.built _ _ rfl) N3.out (by simp) A3.out).mono ?_
    rintro e' w13 ⟨rfl, b13⟩
    have HBOX13 := Lib.hid ((HBOX12.out.alloc _).below b13 (HBOX12.out.alloc _).lt)
    have B13 := Lib.hid (below_then (B12.out.alloc B12.out.size _) b13)
    clear b13 HBOX12 B12
    by_cases hq : rq = rs
    · have hq1 : (rq != rs) = false := by simp [hq]
      clear hq
      by_cases h4 : v.size < 4
      · have d4 : decide ((v.size : Int) < 4) = true := by simp; omega
        have d5 : (v.size : Int) < 4 := by omega
        go_wp2
        go_ret; exact ⟨rfl, B13.out⟩
      · have d4 : decide ((v.size : Int) < 4) = false := by simp; omega
        have d5 : (4 : Int) ≤ (v.size : Int) := by omega
        obtain ⟨cap, w14, hconv, hbts, hbel, hsz⟩ := text_bytes w13 v
        rw [← HE.out] at hbts
        have HBTS := Lib.hid hbts
        have B14 := Lib.hid (below_then B13.out hbel)
        have HBOX14 := Lib.hid (HBOX13.out.below hbel HBOX13.out.lt)
        clear hbts hbel hsz
        have hel := HEL.out
        have hev := HEV.out
        obtain ⟨m, hm⟩ : ∃ m : Nat, m = v.size / 2 := ⟨_, rfl⟩
        have hm1 : (v.size : Int) / 2 = (m : Int) := by omega
        have hm2 : (v.size : Int).tdiv 2 = (m : Int) := by rw [Int.tdiv_eq_ediv_of_nonneg (by omega)]; exact hm1
        have hm3 : ¬ (m : Int) = 0 := by omega
        have hm4 : ((m : Int) == 0) = false := by simp; omega
        have hm5 : IntKind.i64.wrap ((v.size : Int) / 2) = (m : Int) := by rw [hm1]; exact IntWalk.i64_in _ (by omega)
        have hm6 : IntKind.i64.wrap (m : Int) = (m : Int) := IntWalk.i64_in _ (by omega)
        have e1 : IntKind.i64.wrap t1 = t1 := IntWalk.i64_in _ (by omega)
        have e2 : IntKind.i64.wrap t2 = t2 := IntWalk.i64_in _ (by omega)
        obtain ⟨p, hp⟩ : ∃ k : Nat, t1 % (m : Int) = (k : Int) := ⟨_, (Int.toNat_of_nonneg (Int.emod_nonneg _ hm3)).symm⟩
        obtain ⟨q, hq⟩ : ∃ k : Nat, t2 % (m : Int) = (k : Int) := ⟨_, (Int.toNat_of_nonneg (Int.emod_nonneg _ hm3)).symm⟩
        have hpt : t1.tmod (m : Int) = (p : Int) := by rw [Int.tmod_eq_emod_of_nonneg u1]; exact hp
        have hqt : t2.tmod (m : Int) = (q : Int) := by rw [Int.tmod_eq_emod_of_nonneg u2]; exact hq
        have hpm : p < m := by have := Int.emod_lt_of_pos t1 (show (0 : Int) < m by omega); omega
        have hqm : q < m := by have := Int.emod_lt_of_pos t2 (show (0 : Int) < m by omega); omega
        have c1 := HBOX14.out.cell 1
        have c2 := HBOX14.out.cell 2
        have HM := Lib.hid hm
        clear hel hev hm
        go_wp2_with fail
        go_quiet (fail)
        obtain ⟨W, hW⟩ : ∃ W, W = w14.drewN nq := ⟨_, rfl⟩
        have hbt := HBTS.out.drewN nq
        have hbl := below_drewN B14.out nq
        rw [← hW] at hbt hbl ⊢
        have HB := Lib.hid hbt
        have BW := Lib.hid hbl
        clear hW hbt hbl hconv hpt hqt hp hq c1 c2 hm1 hm2 hm3 hm4 hm5 hm6 e1 e2 HBTS B14 HBOX14 HBOX13
        have hev := HEV.out
        have hel := HEL.out
        have hm := HM.out
        obtain ⟨p0, hp0⟩ : ∃ p0 : Nat, p0 = 2 * p := ⟨_, rfl⟩
        obtain ⟨p1, hp1⟩ : ∃ p1 : Nat, p1 = p0 + 1 := ⟨_, rfl⟩
        obtain ⟨q0, hq0⟩ : ∃ q0 : Nat, q0 = 2 * q := ⟨_, rfl⟩
        obtain ⟨q1, hq1'⟩ : ∃ q1 : Nat, q1 = q0 + 1 := ⟨_, rfl⟩
        have lp0 : p0 < e.length := by omega
        have lp1 : p1 < e.length := by omega
        have lq0 : q0 < e.length := by omega
        have lq1 : q1 < e.length := by omega
        have v1 : IntKind.i64.wrap (2 * (p : Int)) = (p0 : Int) := by rw [show 2 * (p : Int) = (p0 : Int) by omega]; exact IntWalk.i64_in _ (by omega)
        have v2 : IntKind.i64.wrap ((p0 : Int) + 1) = (p1 : Int) := by rw [show (p0 : Int) + 1 = (p1 : Int) by omega]; exact IntWalk.i64_in _ (by omega)
        have v3 : IntKind.i64.wrap (2 * (q : Int)) = (q0 : Int) := by rw [show 2 * (q : Int) = (q0 : Int) by omega]; exact IntWalk.i64_in _ (by omega)
        have v4 : IntKind.i64.wrap ((q0 : Int) + 1) = (q1 : Int) := by rw [show (q0 : Int) + 1 = (q1 : Int) by omega]; exact IntWalk.i64_in _ (by omega)
        have i1 : (p0 : Int) < (v.size : Int) := by omega
        have i2 : (p1 : Int) < (v.size : Int) := by omega
        have i3 : (q0 : Int) < (v.size : Int) := by omega
        have i4 : (q1 : Int) < (v.size : Int) := by omega
        have j1 : p0 < v.size := by omega
        have j2 : p1 < v.size := by omega
        have j3 : q0 < v.size := by omega
        have j4 : q1 < v.size := by omega
        obtain ⟨g, hg⟩ : ∃ g, g = w13.heap.size := ⟨_, rfl⟩
        rw [← hg] at HB ⊢
        have hgw : w.heap.size ≤ g := by rw [hg]; exact B13.out.size
        clear hg
        obtain ⟨s0, hs0⟩ : ∃ s, s = e[p0] := ⟨_, rfl⟩
        obtain ⟨s1, hs1⟩ : ∃ s, s = e[p1] := ⟨_, rfl⟩
        obtain ⟨o0, ho0⟩ : ∃ s, s = e[q0] := ⟨_, rfl⟩
        obtain ⟨o1, ho1⟩ : ∃ s, s = e[q1] := ⟨_, rfl⟩
        have cp0 := HB.out.cell p0 lp0
        have cp1 := HB.out.cell p1 lp1
        have cq0 := HB.out.cell q0 lq0
        have cq1 := HB.out.cell q1 lq1
        have fp0 := HB.out.frozen p0 lp0
        have fp1 := HB.out.frozen p1 lp1
        have fq0 := HB.out.frozen q0 lq0
        have fq1 := HB.out.frozen q1 lq1
        rw [← hs0] at cp0
        rw [← hs1] at cp1
        rw [← ho0] at cq0
        rw [← ho1] at cq1
        have HX := Lib.hid (exchanged e p0 p1 q0 q1 (by omega) hp1 (by omega) hq1' lp1 lq1 s0 s1 o0 o1 hs0 hs1 ho0 ho1)
        obtain ⟨e', he'⟩ : ∃ e', e' = (((e.set p0 o0).set p1 o1).set q0 s0).set q1 s1 := ⟨_, rfl⟩
        rw [← he'] at HX
        have hle' : e'.length = v.size := by rw [he']; simp only [List.length_set]; exact hel
        obtain ⟨W16, hW16⟩ : ∃ W', W' = (((W.setCell ⟨g, p0, none⟩ (.int .u8 (o0.toNat : Int))).setCell ⟨g, p1, none⟩ (.int .u8 (o1.toNat : Int))).setCell ⟨g, q0, none⟩ (.int .u8 (s0.toNat : Int))).setCell ⟨g, q1, none⟩ (.int .u8 (s1.toNat : Int)) := ⟨_, rfl⟩
        have HB16 := Lib.hid (show Bts W16 g e' by
          rw [hW16, he']
          exact (((HB.out.set_ p0 o0 lp0).set_ p1 o1 (by simp only [List.length_set]; exact lp1)).set_ q0 s0 (by simp only [List.length_set]; exact lq0)).set_ q1 s1 (by simp only [List.length_set]; exact lq1))
        have BW16 := Lib.hid (show Below w.heap.size w W16 by
          rw [hW16]
          exact (((BW.out.setCell (p := ⟨g, p0, none⟩) hgw _).setCell (p := ⟨g, p1, none⟩) hgw _).setCell (p := ⟨g, q0, none⟩) hgw _).setCell (p := ⟨g, q1, none⟩) hgw _)
        have HW16 := Lib.hid hW16
        have HLE := Lib.hid hle'
        clear hW16 he' hle' hs0 hs1 ho0 ho1
        have n1 : ¬ p0 = p1 := by omega
        have n1' : ¬ p1 = p0 := by omega
        have n2 : ¬ q0 = q1 := by omega
        have n2' : ¬ q1 = q0 := by omega
        have n3 : ¬ p0 = q1 := by omega
        have n3' : ¬ q1 = p0 := by omega
        have n4 : ¬ p1 = q0 := by omega
        have n4' : ¬ q0 = p1 := by omega
        have HP0 := Lib.hid hp0
        have HP1 := Lib.hid hp1
        have HQ0 := Lib.hid hq0
        have HQ1 := Lib.hid hq1'
        clear hp0 hp1 hq0 hq1' hev hel hm
        by_cases hpq : p0 = q0
        · obtain rfl : p0 = q0 := hpq
          obtain rfl : p1 = q1 := by have := HP1.out; have := HQ1.out; omega
          obtain rfl : s0 = o0 := UInt8.toNat_inj.1 (by have h := cp0.symm.trans cq0; injection h with h; injection h with _ h; omega)
          obtain rfl : s1 = o1 := UInt8.toNat_inj.1 (by have h := cp1.symm.trans cq1; injection h with h; injection h with _ h; omega)
          go_wp2_with fail
          go_region
          rw [← HW16.out]
          obtain ⟨W17, hW17⟩ : ∃ W', W' = W16.drew := ⟨_, rfl⟩
          have hb17 : Bts W17 g e' := by rw [hW17]; exact HB16.out.drew
          have BW17 := Lib.hid (show Below w.heap.size w W17 by rw [hW17]; exact BW16.out.drew)
          rw [← hW17]
          obtain ⟨z2, hz2⟩ : ∃ z2, z2 = txt e' := ⟨_, rfl⟩
          have cv : (convert 38 9 (.slice (some ⟨g, 0, none⟩) v.size cap)).run Try.prog W17 = .ok (.string z2) W17 := by rw [hz2]; exact bytes_text W17 g cap v.size e' hb17 HLE.out.symm
          have A5 := Lib.hid (show fold (tot (flat [z2])) = ra by rw [hz2, flat_txt, HX.out, HE.out, ← flat_one]; exact A1.out)
          have N5 := Lib.hid (show (flat [z2]).length ≤ 1099511627776 by rw [hz2, flat_txt, HLE.out]; omega)
          clear hW17 hb17 hz2 cp0 cp1 cq0 cq1 fp0 fp1 fq0 fq1
          go_wp2_with fail
          refine (Of_any _ [z2] ra _ (Row.built _ _ rfl) N5.out (by simp) A5.out).mono ?_
          rintro e1 w18 ⟨rfl, b18⟩
          have B18 := Lib.hid (below_then (BW17.out.alloc BW17.out.size _) b18)
          clear b18 cv
          go_wp2_with fail
          refine (Of_any _ [v] ra _ (Row.built _ _ rfl) N1.out (by simp) A1.out).mono ?_
          rintro e1 w19 ⟨rfl, b19⟩
          have B19 := Lib.hid (below_then (B18.out.alloc B18.out.size _) b19)
          clear b19
          go_wp2
          go_ret; exact ⟨rfl, B19.out⟩
        · have hpq' : ¬ q0 = p0 := fun h => hpq h.symm
          have n5 : ¬ p1 = q1 := by have := HP1.out; have := HQ1.out; omega
          have n5' : ¬ q1 = p1 := fun h => n5 h.symm
          go_wp2_with fail
          go_region
          rw [← HW16.out]
          obtain ⟨W17, hW17⟩ : ∃ W', W' = W16.drew := ⟨_, rfl⟩
          have hb17 : Bts W17 g e' := by rw [hW17]; exact HB16.out.drew
          have BW17 := Lib.hid (show Below w.heap.size w W17 by rw [hW17]; exact BW16.out.drew)
          rw [← hW17]
          obtain ⟨z2, hz2⟩ : ∃ z2, z2 = txt e' := ⟨_, rfl⟩
          have cv : (convert 38 9 (.slice (some ⟨g, 0, none⟩) v.size cap)).run Try.prog W17 = .ok (.string z2) W17 := by rw [hz2]; exact bytes_text W17 g cap v.size e' hb17 HLE.out.symm
          have A5 := Lib.hid (show fold (tot (flat [z2])) = ra by rw [hz2, flat_txt, HX.out, HE.out, ← flat_one]; exact A1.out)
          have N5 := Lib.hid (show (flat [z2]).length ≤ 1099511627776 by rw [hz2, flat_txt, HLE.out]; omega)
          clear hW17 hb17 hz2 cp0 cp1 cq0 cq1 fp0 fp1 fq0 fq1
          go_wp2_with fail
          refine (Of_any _ [z2] ra _ (Row.built _ _ rfl) N5.out (by simp) A5.out).mono ?_
          rintro e1 w18 ⟨rfl, b18⟩
          have B18 := Lib.hid (below_then (BW17.out.alloc BW17.out.size _) b18)
          clear b18 cv
          go_wp2_with fail
          refine (Of_any _ [v] ra _ (Row.built _ _ rfl) N1.out (by simp) A1.out).mono ?_
          rintro e1 w19 ⟨rfl, b19⟩
          have B19 := Lib.hid (below_then (B18.out.alloc B18.out.size _) b19)
          clear b19
          go_wp2
          go_ret; exact ⟨rfl, B19.out⟩
    · have hq1 : (rq != rs) = true := by simp [hq]
      have hq2 : ((y.size : Int) % 2 == 0) = false := by
        have h : ¬ y.size % 2 = 0 := fun h => hq (HT.out (by rw [HFL.out]; exact h))
        simp; omega
      clear hq
      by_cases h4 : v.size < 4
      · have d4 : decide ((v.size : Int) < 4) = true := by simp; omega
        have d5 : (v.size : Int) < 4 := by omega
        go_wp2
        go_ret; exact ⟨rfl, B13.out⟩
      · have d4 : decide ((v.size : Int) < 4) = false := by simp; omega
        have d5 : (4 : Int) ≤ (v.size : Int) := by omega
        obtain ⟨cap, w14, hconv, hbts, hbel, hsz⟩ := text_bytes w13 v
        rw [← HE.out] at hbts
        have HBTS := Lib.hid hbts
        have B14 := Lib.hid (below_then B13.out hbel)
        have HBOX14 := Lib.hid (HBOX13.out.below hbel HBOX13.out.lt)
        clear hbts hbel hsz
        have hel := HEL.out
        have hev := HEV.out
        obtain ⟨m, hm⟩ : ∃ m : Nat, m = v.size / 2 := ⟨_, rfl⟩
        have hm1 : (v.size : Int) / 2 = (m : Int) := by omega
        have hm2 : (v.size : Int).tdiv 2 = (m : Int) := by rw [Int.tdiv_eq_ediv_of_nonneg (by omega)]; exact hm1
        have hm3 : ¬ (m : Int) = 0 := by omega
        have hm4 : ((m : Int) == 0) = false := by simp; omega
        have hm5 : IntKind.i64.wrap ((v.size : Int) / 2) = (m : Int) := by rw [hm1]; exact IntWalk.i64_in _ (by omega)
        have hm6 : IntKind.i64.wrap (m : Int) = (m : Int) := IntWalk.i64_in _ (by omega)
        have e1 : IntKind.i64.wrap t1 = t1 := IntWalk.i64_in _ (by omega)
        have e2 : IntKind.i64.wrap t2 = t2 := IntWalk.i64_in _ (by omega)
        obtain ⟨p, hp⟩ : ∃ k : Nat, t1 % (m : Int) = (k : Int) := ⟨_, (Int.toNat_of_nonneg (Int.emod_nonneg _ hm3)).symm⟩
        obtain ⟨q, hq⟩ : ∃ k : Nat, t2 % (m : Int) = (k : Int) := ⟨_, (Int.toNat_of_nonneg (Int.emod_nonneg _ hm3)).symm⟩
        have hpt : t1.tmod (m : Int) = (p : Int) := by rw [Int.tmod_eq_emod_of_nonneg u1]; exact hp
        have hqt : t2.tmod (m : Int) = (q : Int) := by rw [Int.tmod_eq_emod_of_nonneg u2]; exact hq
        have hpm : p < m := by have := Int.emod_lt_of_pos t1 (show (0 : Int) < m by omega); omega
        have hqm : q < m := by have := Int.emod_lt_of_pos t2 (show (0 : Int) < m by omega); omega
        have c1 := HBOX14.out.cell 1
        have c2 := HBOX14.out.cell 2
        have HM := Lib.hid hm
        clear hel hev hm
        go_wp2_with fail
        go_quiet (fail)
        obtain ⟨W, hW⟩ : ∃ W, W = w14.drewN nq := ⟨_, rfl⟩
        have hbt := HBTS.out.drewN nq
        have hbl := below_drewN B14.out nq
        rw [← hW] at hbt hbl ⊢
        have HB := Lib.hid hbt
        have BW := Lib.hid hbl
        clear hW hbt hbl hconv hpt hqt hp hq c1 c2 hm1 hm2 hm3 hm4 hm5 hm6 e1 e2 HBTS B14 HBOX14 HBOX13
        have hev := HEV.out
        have hel := HEL.out
        have hm := HM.out
        obtain ⟨p0, hp0⟩ : ∃ p0 : Nat, p0 = 2 * p := ⟨_, rfl⟩
        obtain ⟨p1, hp1⟩ : ∃ p1 : Nat, p1 = p0 + 1 := ⟨_, rfl⟩
        obtain ⟨q0, hq0⟩ : ∃ q0 : Nat, q0 = 2 * q := ⟨_, rfl⟩
        obtain ⟨q1, hq1'⟩ : ∃ q1 : Nat, q1 = q0 + 1 := ⟨_, rfl⟩
        have lp0 : p0 < e.length := by omega
        have lp1 : p1 < e.length := by omega
        have lq0 : q0 < e.length := by omega
        have lq1 : q1 < e.length := by omega
        have v1 : IntKind.i64.wrap (2 * (p : Int)) = (p0 : Int) := by rw [show 2 * (p : Int) = (p0 : Int) by omega]; exact IntWalk.i64_in _ (by omega)
        have v2 : IntKind.i64.wrap ((p0 : Int) + 1) = (p1 : Int) := by rw [show (p0 : Int) + 1 = (p1 : Int) by omega]; exact IntWalk.i64_in _ (by omega)
        have v3 : IntKind.i64.wrap (2 * (q : Int)) = (q0 : Int) := by rw [show 2 * (q : Int) = (q0 : Int) by omega]; exact IntWalk.i64_in _ (by omega)
        have v4 : IntKind.i64.wrap ((q0 : Int) + 1) = (q1 : Int) := by rw [show (q0 : Int) + 1 = (q1 : Int) by omega]; exact IntWalk.i64_in _ (by omega)
        have i1 : (p0 : Int) < (v.size : Int) := by omega
        have i2 : (p1 : Int) < (v.size : Int) := by omega
        have i3 : (q0 : Int) < (v.size : Int) := by omega
        have i4 : (q1 : Int) < (v.size : Int) := by omega
        have j1 : p0 < v.size := by omega
        have j2 : p1 < v.size := by omega
        have j3 : q0 < v.size := by omega
        have j4 : q1 < v.size := by omega
        obtain ⟨g, hg⟩ : ∃ g, g = w13.heap.size := ⟨_, rfl⟩
        rw [← hg] at HB ⊢
        have hgw : w.heap.size ≤ g := by rw [hg]; exact B13.out.size
        clear hg
        obtain ⟨s0, hs0⟩ : ∃ s, s = e[p0] := ⟨_, rfl⟩
        obtain ⟨s1, hs1⟩ : ∃ s, s = e[p1] := ⟨_, rfl⟩
        obtain ⟨o0, ho0⟩ : ∃ s, s = e[q0] := ⟨_, rfl⟩
        obtain ⟨o1, ho1⟩ : ∃ s, s = e[q1] := ⟨_, rfl⟩
        have cp0 := HB.out.cell p0 lp0
        have cp1 := HB.out.cell p1 lp1
        have cq0 := HB.out.cell q0 lq0
        have cq1 := HB.out.cell q1 lq1
        have fp0 := HB.out.frozen p0 lp0
        have fp1 := HB.out.frozen p1 lp1
        have fq0 := HB.out.frozen q0 lq0
        have fq1 := HB.out.frozen q1 lq1
        rw [← hs0] at cp0
        rw [← hs1] at cp1
        rw [← ho0] at cq0
        rw [← ho1] at cq1
        have HX := Lib.hid (exchanged e p0 p1 q0 q1 (by omega) hp1 (by omega) hq1' lp1 lq1 s0 s1 o0 o1 hs0 hs1 ho0 ho1)
        obtain ⟨e', he'⟩ : ∃ e', e' = (((e.set p0 o0).set p1 o1).set q0 s0).set q1 s1 := ⟨_, rfl⟩
        rw [← he'] at HX
        have hle' : e'.length = v.size := by rw [he']; simp only [List.length_set]; exact hel
        obtain ⟨W16, hW16⟩ : ∃ W', W' = (((W.setCell ⟨g, p0, none⟩ (.int .u8 (o0.toNat : Int))).setCell ⟨g, p1, none⟩ (.int .u8 (o1.toNat : Int))).setCell ⟨g, q0, none⟩ (.int .u8 (s0.toNat : Int))).setCell ⟨g, q1, none⟩ (.int .u8 (s1.toNat : Int)) := ⟨_, rfl⟩
        have HB16 := Lib.hid (show Bts W16 g e' by
          rw [hW16, he']
          exact (((HB.out.set_ p0 o0 lp0).set_ p1 o1 (by simp only [List.length_set]; exact lp1)).set_ q0 s0 (by simp only [List.length_set]; exact lq0)).set_ q1 s1 (by simp only [List.length_set]; exact lq1))
        have BW16 := Lib.hid (show Below w.heap.size w W16 by
          rw [hW16]
          exact (((BW.out.setCell (p := ⟨g, p0, none⟩) hgw _).setCell (p := ⟨g, p1, none⟩) hgw _).setCell (p := ⟨g, q0, none⟩) hgw _).setCell (p := ⟨g, q1, none⟩) hgw _)
        have HW16 := Lib.hid hW16
        have HLE := Lib.hid hle'
        clear hW16 he' hle' hs0 hs1 ho0 ho1
        have n1 : ¬ p0 = p1 := by omega
        have n1' : ¬ p1 = p0 := by omega
        have n2 : ¬ q0 = q1 := by omega
        have n2' : ¬ q1 = q0 := by omega
        have n3 : ¬ p0 = q1 := by omega
        have n3' : ¬ q1 = p0 := by omega
        have n4 : ¬ p1 = q0 := by omega
        have n4' : ¬ q0 = p1 := by omega
        have HP0 := Lib.hid hp0
        have HP1 := Lib.hid hp1
        have HQ0 := Lib.hid hq0
        have HQ1 := Lib.hid hq1'
        clear hp0 hp1 hq0 hq1' hev hel hm
        by_cases hpq : p0 = q0
        · obtain rfl : p0 = q0 := hpq
          obtain rfl : p1 = q1 := by have := HP1.out; have := HQ1.out; omega
          obtain rfl : s0 = o0 := UInt8.toNat_inj.1 (by have h := cp0.symm.trans cq0; injection h with h; injection h with _ h; omega)
          obtain rfl : s1 = o1 := UInt8.toNat_inj.1 (by have h := cp1.symm.trans cq1; injection h with h; injection h with _ h; omega)
          go_wp2_with fail
          go_region
          rw [← HW16.out]
          obtain ⟨W17, hW17⟩ : ∃ W', W' = W16.drew := ⟨_, rfl⟩
          have hb17 : Bts W17 g e' := by rw [hW17]; exact HB16.out.drew
          have BW17 := Lib.hid (show Below w.heap.size w W17 by rw [hW17]; exact BW16.out.drew)
          rw [← hW17]
          obtain ⟨z2, hz2⟩ : ∃ z2, z2 = txt e' := ⟨_, rfl⟩
          have cv : (convert 38 9 (.slice (some ⟨g, 0, none⟩) v.size cap)).run Try.prog W17 = .ok (.string z2) W17 := by rw [hz2]; exact bytes_text W17 g cap v.size e' hb17 HLE.out.symm
          have A5 := Lib.hid (show fold (tot (flat [z2])) = ra by rw [hz2, flat_txt, HX.out, HE.out, ← flat_one]; exact A1.out)
          have N5 := Lib.hid (show (flat [z2]).length ≤ 1099511627776 by rw [hz2, flat_txt, HLE.out]; omega)
          clear hW17 hb17 hz2 cp0 cp1 cq0 cq1 fp0 fp1 fq0 fq1
          go_wp2_with fail
          refine (Of_any _ [z2] ra _ (Row.built _ _ rfl) N5.out (by simp) A5.out).mono ?_
          rintro e1 w18 ⟨rfl, b18⟩
          have B18 := Lib.hid (below_then (BW17.out.alloc BW17.out.size _) b18)
          clear b18 cv
          go_wp2_with fail
          refine (Of_any _ [v] ra _ (Row.built _ _ rfl) N1.out (by simp) A1.out).mono ?_
          rintro e1 w19 ⟨rfl, b19⟩
          have B19 := Lib.hid (below_then (B18.out.alloc B18.out.size _) b19)
          clear b19
          go_wp2
          go_ret; exact ⟨rfl, B19.out⟩
        · have hpq' : ¬ q0 = p0 := fun h => hpq h.symm
          have n5 : ¬ p1 = q1 := by have := HP1.out; have := HQ1.out; omega
          have n5' : ¬ q1 = p1 := fun h => n5 h.symm
          go_wp2_with fail
          go_region
          rw [← HW16.out]
          obtain ⟨W17, hW17⟩ : ∃ W', W' = W16.drew := ⟨_, rfl⟩
          have hb17 : Bts W17 g e' := by rw [hW17]; exact HB16.out.drew
          have BW17 := Lib.hid (show Below w.heap.size w W17 by rw [hW17]; exact BW16.out.drew)
          rw [← hW17]
          obtain ⟨z2, hz2⟩ : ∃ z2, z2 = txt e' := ⟨_, rfl⟩
          have cv : (convert 38 9 (.slice (some ⟨g, 0, none⟩) v.size cap)).run Try.prog W17 = .ok (.string z2) W17 := by rw [hz2]; exact bytes_text W17 g cap v.size e' hb17 HLE.out.symm
          have A5 := Lib.hid (show fold (tot (flat [z2])) = ra by rw [hz2, flat_txt, HX.out, HE.out, ← flat_one]; exact A1.out)
          have N5 := Lib.hid (show (flat [z2]).length ≤ 1099511627776 by rw [hz2, flat_txt, HLE.out]; omega)
          clear hW17 hb17 hz2 cp0 cp1 cq0 cq1 fp0 fp1 fq0 fq1
          go_wp2_with fail
          refine (Of_any _ [z2] ra _ (Row.built _ _ rfl) N5.out (by simp) A5.out).mono ?_
          rintro e1 w18 ⟨rfl, b18⟩
          have B18 := Lib.hid (below_then (BW17.out.alloc BW17.out.size _) b18)
          clear b18 cv
          go_wp2_with fail
          refine (Of_any _ [v] ra _ (Row.built _ _ rfl) N1.out (by simp) A1.out).mono ?_
          rintro e1 w19 ⟨rfl, b19⟩
          have B19 := Lib.hid (below_then (B18.out.alloc B18.out.size _) b19)
          clear b19
          go_wp2
          go_ret; exact ⟨rfl, B19.out⟩


theorem own : ownKnob Try.prog.godebug = none := by kernel_rfl
theorem laidOut : laidOutB Try.prog = true := by kernel_rfl

set_option maxRecDepth 100000 in
theorem lifted (os : Os) (started : os.Started) (H : Type) (enc : TypeId × Value → H) :
    ReturnsInHanded {} Try.checked os 6 .any (Rows.sumPartsSpec.pre6 enc Try.prog Try.f6 Rows.sumPartsRow.domain false) (Rows.sumPartsSpec.post enc Try.prog Try.f6 false true false false) := by
  refine returnsInHanded_of_change_sized (C := Try.checked) own started (by kernel_rfl) Try.func6
    (ChangeSpec.witness6 (enc := enc) (C := Try.checked) false ⟨#[], #[.string ByteArray.empty, .string ByteArray.empty, .agg #[.int .u8 0, .int .u8 0, .int .u8 0]], []⟩ 8 (by kernel_rfl) (by kernel_rfl) (by kernel_rfl) (by kernel_rfl)) ?_
  intro W base args ds gs before hval0 hW hcnd hsz0 _
  have hsz : (DataW.weightsEach Try.prog (Try.f6.params.toList ++ Rows.sumPartsSpec.plain.varTypes Try.prog) (ds ++ gs)).all (· ≤ reachBytes) = true := hsz0
  have hval : ∀ (j : Nat) t v, Try.f6.params[j]? = some t → args[j]? = some v → Value.okWide Try.prog W .any base t v := hval0
  have hW' := hW
  obtain ⟨p, q, hA0, hV, rfl, hfz, hnd⟩ := hW
  have hA : DataW.TrodAll enc Try.prog W 0 (fun _ => true) true Try.f6.params.toList args.toList ds p := hA0
  rw [Try.params6] at hA hval hsz
  obtain ⟨v0, vs0, d0, ds0, p0, q0, hargs, rfl, rfl, h0, r0⟩ := trodAll_cons hA
  obtain ⟨v1, vs1, d1, ds1, p1, q1, rfl, rfl, rfl, h1, r1⟩ := trodAll_cons r0
  obtain ⟨v2, vs2, d2, ds2, p2, q2, rfl, rfl, rfl, h2, r2⟩ := trodAll_cons r1
  obtain ⟨rfl, rfl, rfl⟩ := trodAll_nil r2
  obtain rfl : args = #[v0, v1, v2] := by cases args; simp_all
  obtain ⟨rfl, rfl⟩ := trodVars_none hV
  obtain ⟨a0, rfl, rfl, rfl, w0⟩ := open_string Try.underlying9 (hval 0 9 v0 rfl rfl) h0
  obtain ⟨a1, rfl, rfl, rfl, w1⟩ := open_string Try.underlying9 (hval 1 9 v1 rfl rfl) h1
  have k2 := h2
  have lt2 : ∀ x ∈ p2, x.block < W.heap.size := by obtain ⟨m, hm⟩ := k2; exact DataW.trod_lt m _ _ _ hm
  obtain ⟨f0, f1, f2, rfl, wf0, wf1, wf2⟩ : ∃ f0 f1 f2 : Int, v2 = .agg #[.int .u8 f0, .int .u8 f1, .int .u8 f2] ∧ (Lit.int .u8 f0).wf = true ∧ (Lit.int .u8 f1).wf = true ∧ (Lit.int .u8 f2).wf = true := by
    have hv := hval 2 40 v2 rfl rfl
    simp only [Value.okWide, Try.underlying40] at hv
    obtain ⟨cs, rfl, hsz, _⟩ := hv
    obtain ⟨c0, c1, c2, rfl⟩ := Go.Joins.array3 (hsz.trans (by kernel_rfl : Try.prog.cellsOf 40 = 3))
    obtain ⟨fuel, hf⟩ := h2
    obtain ⟨y0, y1, y2, m, _, hy0, hy1, hy2⟩ := trod_array3 Try.underlying40 (by kernel_rfl) hf
    obtain ⟨z0, e0, _, hw0⟩ := DataW.trod_int Try.underlying5 hy0
    obtain ⟨z1, e1, _, hw1⟩ := DataW.trod_int Try.underlying5 hy1
    obtain ⟨z2, e2, _, hw2⟩ := DataW.trod_int Try.underlying5 hy2
    simp at e0 e1 e2
    subst e0 e1 e2
    exact ⟨z0, z1, z2, rfl, hw0, hw1, hw2⟩
  have z0 : a0.size ≤ 140737488351232 := by have := sized_string hsz (j := 0) (t := 9) rfl rfl; simpa [reachBytes] using this
  have z1 : a1.size ≤ 140737488351232 := by have := sized_string hsz (j := 1) (t := 9) rfl rfl; simpa [reachBytes] using this
  clear hA0 hval0
  simp only [List.append_nil] at hW'
  refine (walk a0 z0 a1 z1 f0 f1 f2 wf0 wf1 wf2 W).mono fun e W' ⟨he, bel⟩ => ?_
  subst he
  exact ⟨_, rfl, _, _, _, [], _, [], hW', trodAll_mk1 (shut_bool Try.underlying4 _), (trodAll_cons_mk (shut_string Try.underlying9 w0) (trodAll_cons_mk (shut_string Try.underlying9 w1) (trodAll_cons_mk (Below.trod laidOut (by kernel_rfl) (of_decide_eq_true (by kernel_rfl)) k2 bel lt2) trodAll_mk0))), rfl, bel.frame _, fun h => by cases h⟩

theorem over : Rows.sumPartsRow.holds Try.pinned (OpenSpec.ofChange Rows.sumPartsSpec) :=
  OpenClaim.holds_of_wide 6 Try.f6 rfl rfl rfl rfl rfl rfl rfl ⟨rfl, rfl, rfl, rfl, rfl⟩ rfl rfl rfl rfl rfl (by kernel_rfl) Try.func6 (by kernel_rfl)
    (of_decide_eq_true (by kernel_rfl)) (by unfold Func.isWrapper; first | (rw [if_pos (by decide +kernel)]; kernel_rfl) | (rw [if_neg (by decide +kernel)]; exact ⟨rfl, rfl⟩))
    (fun os started H enc _ => lifted os started H enc)

theorem proved : Rows.SumPartsSaid := over
#print axioms proved
end Go.Proofs.Ytfhiomgkmdijeaa.sumParts
