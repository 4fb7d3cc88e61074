/-
  Plain theorems of layer 5: what is laid is parsed back; what any bytes are parsed as is laid as these bytes, but for a checksum of 65535; bytes of which one is another one are no segment. Nothing of the program is here.
-/
import Derived.Test.YthdcjcdgddejbaaDoorHeadPlain
namespace Go.Proofs.YthdcjcdgddejbaaDoor
open Go.RowKit
set_option linter.unusedVariables false

theorem code_zero (q : List UInt8) (h : code q = 0) : 20 ≤ q.length ∧ 80 ≤ fld q 12 1 ∧ fld q 12 1 % 16 = 0 ∧ fld q 12 1 / 4 ≤ q.length ∧ fld q 13 1 / 32 = 0 ∧ fld q 13 1 / 8 % 2 = 0 ∧ fld q 18 1 = 0 ∧ fld q 19 1 = 0 ∧ q.length - fld q 12 1 / 4 ≤ 1024 ∧ fold (tot q) = 65535 := by
  unfold code at h
  by_cases a0 : q.length < 20
  · rw [if_pos a0] at h; exact absurd h (by decide)
  rw [if_neg a0] at h
  by_cases a1 : fld q 12 1 < 80 ∨ fld q 12 1 % 16 ≠ 0
  · rw [if_pos a1] at h; exact absurd h (by decide)
  rw [if_neg a1] at h
  by_cases a2 : q.length < fld q 12 1 / 4
  · rw [if_pos a2] at h; exact absurd h (by decide)
  rw [if_neg a2] at h
  by_cases a3 : fld q 13 1 / 32 ≠ 0 ∨ fld q 13 1 / 8 % 2 ≠ 0 ∨ fld q 18 1 ≠ 0 ∨ fld q 19 1 ≠ 0
  · rw [if_pos a3] at h; exact absurd h (by decide)
  rw [if_neg a3] at h
  by_cases a4 : q.length - fld q 12 1 / 4 > 1024
  · rw [if_pos a4] at h; exact absurd h (by decide)
  rw [if_neg a4] at h
  by_cases a5 : fold (tot q) ≠ 65535
  · rw [if_pos a5] at h; exact absurd h (by decide)
  exact ⟨by omega, by omega, by omega, by omega, by omega, by omega, by omega, by omega, by omega, by omega⟩
theorem zero_code (q : List UInt8) (h0 : 20 ≤ q.length) (h1 : 80 ≤ fld q 12 1) (h2 : fld q 12 1 % 16 = 0) (h3 : fld q 12 1 / 4 ≤ q.length) (h4 : fld q 13 1 / 32 = 0) (h5 : fld q 13 1 / 8 % 2 = 0) (h6 : fld q 18 1 = 0) (h7 : fld q 19 1 = 0) (h8 : q.length - fld q 12 1 / 4 ≤ 1024) (h9 : fold (tot q) = 65535) : code q = 0 := by
  unfold code
  rw [if_neg (by omega), if_neg (by omega), if_neg (by omega), if_neg (by omega), if_neg (by omega), if_neg (by omega)]

theorem tot_be2 (c : Nat) (h : c ≤ 65535) : tot (be 2 c) = (c : Int) := by
  have e : be 2 c = [UInt8.ofNat (c / 256), UInt8.ofNat c] := by simp [be]
  rw [e]
  have t := tot_two [] (UInt8.ofNat (c / 256)) (UInt8.ofNat c) rfl
  rw [List.nil_append] at t
  rw [t, UInt8.toNat_ofNat', UInt8.toNat_ofNat']
  show (0 : Int) + _ + _ = _
  rw [show (2 : Nat) ^ 8 = 256 from rfl]
  omega
theorem tot_mid (A : List UInt8) (c : Nat) (B : List UInt8) (hA : A.length % 2 = 0) (h : c ≤ 65535) : tot (A ++ be 2 c ++ B) = tot (A ++ be 2 0 ++ B) + (c : Int) := by
  rw [List.append_assoc, List.append_assoc, tot_append A _ hA, tot_append A _ hA, tot_append (be 2 c) B (by rw [be_length]), tot_append (be 2 0) B (by rw [be_length]), tot_be2 c h, tot_be2 0 (by omega)]
  omega

theorem Sg.bytes_eq (x : Sg) : x.bytes = x.pre ++ be 2 x.check ++ ([0, 0] ++ x.rest) := by simp [Sg.bytes, Sg.front]
theorem Sg.whole (x : Sg) : fold (tot x.bytes) = 65535 := by
  have h := tot_mid x.pre x.check ([0, 0] ++ x.rest) (by rw [x.pre_length]) x.check_le
  have e : x.pre ++ be 2 0 ++ ([0, 0] ++ x.rest) = x.front 0 ++ x.rest := by simp [Sg.front]
  rw [e] at h
  rw [x.bytes_eq, h, x.check_int]
  unfold Sg.sum
  obtain ⟨T, hT⟩ : ∃ T, T = tot (x.front 0 ++ x.rest) := ⟨_, rfl⟩
  have h0 : 0 ≤ T := by rw [hT]; exact (tot_b _).1
  rw [← hT]
  by_cases hz : T = 0
  · subst hz; decide
  · rw [fold_pos T hz, fold_pos _ (by omega)]
    omega
/-- One byte otherwise: no segment. -/
theorem one_otherwise (x : Sg) (p : Nat) (v : UInt8) (hp : p < x.bytes.length) (hv : v ≠ x.bytes[p]) : code (x.bytes.set p v) ≠ 0 := by
  intro h
  have h9 := (code_zero _ h).2.2.2.2.2.2.2.2.2
  have h8 := x.whole
  have hne : v.toNat ≠ x.bytes[p].toNat := fun e => hv (UInt8.toNat_inj.1 e)
  have b1 := v.toNat_lt
  have b2 := x.bytes[p].toNat_lt
  have m1 := fold_mod _ (tot_b x.bytes).1
  have m2 := fold_mod _ (tot_b (x.bytes.set p v)).1
  rw [h8] at m1
  rw [h9] at m2
  by_cases hpar : p % 2 = 0
  · rw [tot_set_even x.bytes p v hp hpar] at m2; omega
  · rw [tot_set_odd x.bytes p v hp (by omega)] at m2; omega

theorem Sg.flags_back (x : Sg) : (x.flags % 2 == 1) = x.fin ∧ (x.flags / 2 % 2 == 1) = x.syn ∧ (x.flags / 4 % 2 == 1) = x.rst ∧ (x.flags / 16 % 2 == 1) = x.ackOn ∧ x.flags / 32 = 0 ∧ x.flags / 8 % 2 = 0 := by
  unfold Sg.flags
  cases x.fin <;> cases x.syn <;> cases x.rst <;> cases x.ackOn <;> decide
theorem fld_be (q P : List UInt8) (m v : Nat) (R : List UInt8) (a : Nat) (h : q = P ++ be m v ++ R) (ha : P.length = a) : fld q a m = v % 256 ^ m := by
  rw [h, fld_app P (be m v) R a m ha (be_length m v), nm_be]
/-- What is laid is parsed back. -/
theorem laid_parsed (x : Sg) (hx : x.Ok) (h1 : x.area.size ≤ 40) (h2 : x.area.size % 4 = 0) (h3 : x.data.size ≤ 1024) : code x.bytes = 0 ∧ segs x.bytes = { x with path := 0 } := by
  have hl := x.bytes_length
  obtain ⟨u, hu⟩ : ∃ u, u = (20 + x.area.size) / 4 * 16 := ⟨_, rfl⟩
  obtain ⟨q, hq⟩ : ∃ q, q = x.bytes := ⟨_, rfl⟩
  have eq0 : q = be 2 x.src ++ be 2 x.dst ++ be 4 x.seq ++ be 4 x.ack ++ be 1 u ++ be 1 x.flags ++ be 2 x.win ++ be 2 x.check ++ [0, 0] ++ x.rest := by rw [hq, hu]; rfl
  have hw := x.whole
  rw [← hq] at hl hw
  have f0 : fld q 0 2 = x.src := by rw [fld_be q [] 2 x.src _ 0 (by rw [eq0]; simp only [List.append_assoc, List.nil_append]; rfl) rfl]; exact Nat.mod_eq_of_lt (by have := hx.src; omega)
  have f2 : fld q 2 2 = x.dst := by rw [fld_be q (be 2 x.src) 2 x.dst _ 2 (by rw [eq0]; simp only [List.append_assoc]; rfl) (by simp [be_length])]; exact Nat.mod_eq_of_lt (by have := hx.dst; omega)
  have f4 : fld q 4 4 = x.seq := by rw [fld_be q (be 2 x.src ++ be 2 x.dst) 4 x.seq _ 4 (by rw [eq0]; simp only [List.append_assoc]; rfl) (by simp [be_length])]; exact Nat.mod_eq_of_lt (by have := hx.seq; omega)
  have f8 : fld q 8 4 = x.ack := by rw [fld_be q (be 2 x.src ++ be 2 x.dst ++ be 4 x.seq) 4 x.ack _ 8 (by rw [eq0]; simp only [List.append_assoc]; rfl) (by simp [be_length])]; exact Nat.mod_eq_of_lt (by have := hx.ack; omega)
  have f12 : fld q 12 1 = u := by rw [fld_be q (be 2 x.src ++ be 2 x.dst ++ be 4 x.seq ++ be 4 x.ack) 1 u _ 12 (by rw [eq0]; simp only [List.append_assoc]; rfl) (by simp [be_length])]; exact Nat.mod_eq_of_lt (by omega)
  have f13 : fld q 13 1 = x.flags := by rw [fld_be q (be 2 x.src ++ be 2 x.dst ++ be 4 x.seq ++ be 4 x.ack ++ be 1 u) 1 x.flags _ 13 (by rw [eq0]; simp only [List.append_assoc]; rfl) (by simp [be_length])]; exact Nat.mod_eq_of_lt (by have := x.flags_le; omega)
  have f14 : fld q 14 2 = x.win := by rw [fld_be q (be 2 x.src ++ be 2 x.dst ++ be 4 x.seq ++ be 4 x.ack ++ be 1 u ++ be 1 x.flags) 2 x.win _ 14 (by rw [eq0]; simp only [List.append_assoc]; rfl) (by simp [be_length])]; exact Nat.mod_eq_of_lt (by have := hx.win; omega)
  have f18 : fld q 18 2 = 0 := by
    rw [eq0]
    exact fld_app (be 2 x.src ++ be 2 x.dst ++ be 4 x.seq ++ be 4 x.ack ++ be 1 u ++ be 1 x.flags ++ be 2 x.win ++ be 2 x.check) [0, 0] x.rest 18 2 (by simp [be_length]) rfl
  have t18 : fld q 18 2 = fld q 18 1 * 256 + fld q 19 1 := fld_two q 18 (by omega)
  have d20 : q.drop 20 = x.rest := by rw [hq, Sg.bytes]; exact List.drop_left' (x.front_length _)
  obtain ⟨g1, g2, g3, g4, g5, g6⟩ := x.flags_back
  have hu4 : u / 4 = 20 + x.area.size := by omega
  rw [← hq]
  refine ⟨zero_code q (by omega) (by rw [f12]; omega) (by rw [f12]; omega) (by rw [f12]; omega) (by rw [f13]; exact g5) (by rw [f13]; exact g6) (by omega) (by omega) (by rw [f12]; omega) hw, ?_⟩
  unfold segs
  rw [f0, f2, f4, f8, f12, f13, f14, g1, g2, g3, g4, hu4]
  have ea : txt ((q.drop 20).take (20 + x.area.size - 20)) = x.area := by
    rw [d20, Sg.rest, show 20 + x.area.size - 20 = x.area.size by omega, List.take_left' (len_data x.area)]
  have ed : txt (q.drop (20 + x.area.size)) = x.data := by
    rw [← List.drop_drop, d20, Sg.rest, List.drop_left' (len_data x.area)]
  rw [ea, ed]

theorem tot_ge (A : List UInt8) (b : UInt8) (R : List UInt8) (hA : A.length % 2 = 0) : 256 * (b.toNat : Int) ≤ tot (A ++ b :: R) := by
  rw [tot_append A _ hA]
  have h1 := (tot_b A).1
  have h2 : 256 * (b.toNat : Int) ≤ tot (b :: R) := by
    unfold tot
    rw [advs_cons]
    have h3 := (advs_b R (adv (0, false) b)).1
    have h4 : (adv (0, false) b).1 = 256 * (b.toNat : Int) := by simp [adv]
    omega
  omega
theorem cut3' (q : List UInt8) : q = q.take 16 ++ (q.drop 16).take 2 ++ q.drop 18 := by
  rw [List.append_assoc, show q.drop 18 = (q.drop 16).drop 2 by rw [List.drop_drop], List.take_append_drop, List.take_append_drop]
theorem segs_ok (q : List UInt8) (h : q.length ≤ 4611686018427387904) : (segs q).Ok := by
  refine ⟨fld2_lt q 0, fld2_lt q 2, fld4_lt q 4, fld4_lt q 8, fld2_lt q 14, ?_, ?_⟩
  · show (txt ((q.drop 20).take (fld q 12 1 / 4 - 20))).size ≤ _
    rw [txt_size, List.length_take, List.length_drop]; omega
  · show (txt (q.drop (fld q 12 1 / 4))).size ≤ _
    rw [txt_size, List.length_drop]; omega
/-- What any bytes are parsed as is laid as these bytes, but for a checksum of 65535. -/
theorem parsed_laid (q : List UInt8) (h : code q = 0) : (segs q).fits = true ∧ (segs q).bytes.length = q.length ∧
    ((segs q).bytes = q ∨ ((q.drop 16).take 2 = [255, 255] ∧ ((segs q).bytes.drop 16).take 2 = [0, 0] ∧ (segs q).bytes.take 16 = q.take 16 ∧ (segs q).bytes.drop 18 = q.drop 18)) := by
  obtain ⟨h0, h1, h2, h3, h4, h5, h6, h7, h8, h9⟩ := code_zero q h
  have u1 := fld1_lt q 12
  have v1 := fld1_lt q 13
  have sa : (segs q).area.size = fld q 12 1 / 4 - 20 := by
    show (txt ((q.drop 20).take (fld q 12 1 / 4 - 20))).size = _
    rw [txt_size, List.length_take, List.length_drop]; omega
  have sd : (segs q).data.size = q.length - fld q 12 1 / 4 := by
    show (txt (q.drop (fld q 12 1 / 4))).size = _
    rw [txt_size, List.length_drop]
  have hfl : (segs q).flags = fld q 13 1 := by
    show (if (fld q 13 1 % 2 == 1) = true then 1 else 0) + (if (fld q 13 1 / 2 % 2 == 1) = true then 2 else 0) + (if (fld q 13 1 / 4 % 2 == 1) = true then 4 else 0) + (if (fld q 13 1 / 16 % 2 == 1) = true then 16 else 0) = _
    simp only [beq_iff_eq]
    split <;> split <;> split <;> split <;> omega
  have tk : ∀ a m, q.take a ++ (q.drop a).take m = q.take (a + m) := fun a m => by rw [List.take_add]
  have hpre : (segs q).pre = q.take 16 := by
    unfold Sg.pre
    rw [hfl, sa, show (20 + (fld q 12 1 / 4 - 20)) / 4 * 16 = fld q 12 1 by omega]
    show be 2 (fld q 0 2) ++ be 2 (fld q 2 2) ++ be 4 (fld q 4 4) ++ be 4 (fld q 8 4) ++ be 1 (fld q 12 1) ++ be 1 (fld q 13 1) ++ be 2 (fld q 14 2) = _
    rw [be_fld q 0 2 (by omega), be_fld q 2 2 (by omega), be_fld q 4 4 (by omega), be_fld q 8 4 (by omega), be_fld q 12 1 (by omega), be_fld q 13 1 (by omega), be_fld q 14 2 (by omega)]
    rw [show (q.drop 0).take 2 = q.take 2 from rfl, tk 2 2, tk 4 4, tk 8 4, tk 12 1, tk 13 1, tk 14 2]
  have hrest : [0, 0] ++ (segs q).rest = q.drop 18 := by
    have z : (q.drop 18).take 2 = [0, 0] := by
      rw [← be_fld q 18 2 (by omega), fld_two q 18 (by omega), h6, h7]; rfl
    have e : (segs q).rest = q.drop 20 := by
      show (txt ((q.drop 20).take (fld q 12 1 / 4 - 20))).data.toList ++ (txt (q.drop (fld q 12 1 / 4))).data.toList = _
      show (q.drop 20).take (fld q 12 1 / 4 - 20) ++ q.drop (fld q 12 1 / 4) = _
      rw [show q.drop (fld q 12 1 / 4) = (q.drop 20).drop (fld q 12 1 / 4 - 20) by rw [List.drop_drop]; congr 1; omega, List.take_append_drop]
    rw [e, ← z, show q.drop 20 = (q.drop 18).drop 2 by rw [List.drop_drop], List.take_append_drop]
  have hb : (segs q).bytes = q.take 16 ++ be 2 (segs q).check ++ q.drop 18 := by rw [(segs q).bytes_eq, hpre, hrest]
  have t16 : (q.take 16).length = 16 := by rw [List.length_take]; omega
  have hcut : q = q.take 16 ++ be 2 (fld q 16 2) ++ q.drop 18 := by
    rw [be_fld q 16 2 (by omega)]; exact cut3' q
  have hR := fld2_lt q 16
  have e1 := tot_mid (q.take 16) (fld q 16 2) (q.drop 18) (by rw [t16]) hR
  rw [← hcut] at e1
  have hs : (segs q).sum = fold (tot (q.take 16 ++ be 2 0 ++ q.drop 18)) := by
    unfold Sg.sum Sg.front
    rw [hpre, List.append_assoc (q.take 16 ++ be 2 0), hrest]
  have hci := (segs q).check_int
  rw [hs] at hci
  have hpos : 0 < tot (q.take 16 ++ be 2 0 ++ q.drop 18) := by
    have hg := tot_ge (q.take 12) q[12] ((q.drop 13).take 3 ++ be 2 0 ++ q.drop 18) (by rw [List.length_take]; omega)
    have e : q.take 12 ++ q[12] :: ((q.drop 13).take 3 ++ be 2 0 ++ q.drop 18) = q.take 16 ++ be 2 0 ++ q.drop 18 := by
      have k : q.take 16 = q.take 12 ++ q[12] :: (q.drop 13).take 3 := by
        have k1 : (q.drop 12).take 1 = [q[12]] := by rw [List.drop_eq_getElem_cons (by omega : 12 < q.length)]; rfl
        have k2 : q.take 13 = q.take 12 ++ [q[12]] := by rw [← k1]; exact (tk 12 1).symm
        rw [← tk 13 3, k2, List.append_assoc]; rfl
      rw [k]; simp
    rw [e, ← fld_one q 12 (by omega)] at hg
    omega
  obtain ⟨T, hT⟩ : ∃ T, T = tot (q.take 16 ++ be 2 0 ++ q.drop 18) := ⟨_, rfl⟩
  rw [← hT] at hci hpos e1
  have hc1 := (segs q).check_le
  rw [e1, fold_pos _ (by omega)] at h9
  rw [fold_pos T (by omega)] at hci
  refine ⟨by unfold Sg.fits; rw [sa, sd]; simp; omega, by rw [hb]; simp [be_length]; omega, ?_⟩
  by_cases hsame : (segs q).check = fld q 16 2
  · exact .inl (by rw [hb, hsame]; exact hcut.symm)
  · have hc0 : (segs q).check = 0 := by omega
    have hr0 : fld q 16 2 = 65535 := by omega
    refine .inr ⟨by rw [← be_fld q 16 2 (by omega), hr0]; decide, ?_, ?_, ?_⟩
    · rw [hb, List.append_assoc, List.drop_left' t16, List.take_left' (be_length 2 _), hc0]; decide
    · rw [hb, List.append_assoc, List.take_left' t16]
    · rw [hb, List.drop_left' (by rw [List.length_append, t16, be_length])]
end Go.Proofs.YthdcjcdgddejbaaDoor
