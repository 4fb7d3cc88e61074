/-
  What readFront of package dss leaves, by its walk.
-/
import Derived.Test.YtdhkjhkgjfcolaaDssRead
namespace Go.Proofs.Ytdhkjhkgjfcolaa
open Go.ChangeShapes Go.WideShapes Go.ChangeAt Go.RowKit
set_option linter.unusedVariables false

set_option maxHeartbeats 2000000 in
set_option maxRecDepth 100000 in
theorem readFront_any (b c : Nat) (s : ByteArray) (w : World) (hs : s.size ≤ 9223372036854775807) (h : Rb w b c s 0 false .zero) :
    Calls Try.prog 28 #[ptr b] w (Fronted w b c s) := by
  have HS := Lib.hid hs
  have H := Lib.hid h
  have c0 := h.body.cell 0
  simp only [List.getElem?_toArray, List.getElem?_cons_zero] at c0
  clear h hs
  go_enter Try.func28, Try.ntmps28
  go_wp2_with fail
  refine (LeftC_any c s 0 false w HS.out H.out.at_ H.out.cur).mono ?_
  rintro e W ⟨rfl, n, rfl⟩
  rw [show leftO s 0 false = (s.size : Int) by simp [leftO]]
  have HR1 := Lib.hid (H.out.drewN n)
  have HT1 := Lib.hid (show Two w (w.drewN n) b c from Two.left (drawn_only w n (some b)))
  obtain ⟨W1, hW1⟩ : ∃ W1, W1 = w.drewN n := ⟨_, rfl⟩
  rw [← hW1] at HR1 HT1 ⊢
  clear hW1 c0 H
  by_cases h0 : s.size = 0
  · have e0 : ((s.size : Int) == 0) = true := by rw [h0]; rfl
    have HF := Lib.hid (dec_short s h0)
    clear h0
    go_wp2_with fail
    go_ret; exact ⟨4, rfl, HT1.out, .inl ⟨by decide, HF.out⟩⟩
  have e0 : ((s.size : Int) == 0) = false := by rw [beq_eq_false_iff_ne]; omega
  have HS0 := Lib.hid h0
  clear h0
  have c0 := HR1.out.body.cell 0
  simp only [List.getElem?_toArray, List.getElem?_cons_zero] at c0
  go_wp2_with fail
  refine (U8_any c s 0 false W1 HS.out HR1.out.at_ HR1.out.cur).mono ?_
  rintro e W2 ⟨rfl, hm⟩
  have hf : fits s 0 false ((1 : Nat) : Int) = true := by have := HS0.out; unfold fits; simp; omega
  have hr := HR1.out.moved hm
  have HT2 := Lib.hid (HT1.out.trans (Two.right hm.1))
  rw [posO_t hf, brO_t hf, show 0 + ((1 : Nat) : Int).toNat = 1 from rfl] at hr
  rw [numO_t hf, num_1]
  have HR2 := Lib.hid hr
  have hF8 := byteAt_lt s 0
  obtain ⟨F, hF⟩ : ∃ F, F = byteAt s 0 := ⟨_, rfl⟩
  rw [← hF] at hF8 ⊢
  have HF := Lib.hid hF
  have hq := byte_16 F hF8
  clear hm hr hf hF HT1 HR1 c0 e0
  by_cases hk : F / 16 = 2
  case neg =>
    have ek : (((F / 16 : Nat) : Int) == 2) = false := by rw [beq_eq_false_iff_ne]; omega
    have ek' : ((F : Int) / 16 == 2) = false := by rw [beq_eq_false_iff_ne]; omega
    have HD := Lib.hid (dec_kind s HS0.out (by rw [← HF.out]; exact hk))
    clear hk
    go_wp2_with fail
    go_ret; exact ⟨7, rfl, HT2.out, .inl ⟨by decide, HD.out⟩⟩
  have ek : (((F / 16 : Nat) : Int) == 2) = true := by rw [hk]; rfl
  have ek' : ((F : Int) / 16 == 2) = true := by rw [beq_iff_eq]; omega
  have HK := Lib.hid (show byteAt s 0 / 16 = 2 by rw [← HF.out]; exact hk)
  clear hk
  have c0 := HR2.out.body.cell 0
  simp only [List.getElem?_toArray, List.getElem?_cons_zero] at c0
  go_wp2_with fail
  refine (LeftC_any c s 1 false W2 HS.out HR2.out.at_ HR2.out.cur).mono ?_
  rintro e W ⟨rfl, n, rfl⟩
  rw [show leftO s 1 false = (s.size : Int) - 1 by simp [leftO]]
  have HR3 := Lib.hid (HR2.out.drewN n)
  have HT3 := Lib.hid (HT2.out.trans (Two.left (drawn_only W2 n (some b))))
  obtain ⟨W3, hW3⟩ : ∃ W3, W3 = W2.drewN n := ⟨_, rfl⟩
  rw [← hW3] at HR3 HT3 ⊢
  clear hW3 c0 HR2 HT2 ek ek'
  by_cases h1 : s.size = 1
  · have e1 : ((s.size : Int) - 1 == 0) = true := by rw [h1]; rfl
    have HD := Lib.hid (dec_one s h1 HK.out)
    clear h1
    go_wp2_with fail
    go_ret; exact ⟨4, rfl, HT3.out, .inl ⟨by decide, HD.out⟩⟩
  have h2 : 2 ≤ s.size := by have := HS0.out; omega
  have e1 : ((s.size : Int) - 1 == 0) = false := by rw [beq_eq_false_iff_ne]; omega
  have HS2 := Lib.hid h2
  clear h1 h2
  have c0 := HR3.out.body.cell 0
  simp only [List.getElem?_toArray, List.getElem?_cons_zero] at c0
  go_wp2_with fail
  refine (U8_any c s 1 false W3 HS.out HR3.out.at_ HR3.out.cur).mono ?_
  rintro e W4 ⟨rfl, hm⟩
  have hf : fits s 1 false ((1 : Nat) : Int) = true := by have := HS2.out; unfold fits; simp; omega
  have hr := HR3.out.moved hm
  have HT4 := Lib.hid (HT3.out.trans (Two.right hm.1))
  rw [posO_t hf, brO_t hf, show 1 + ((1 : Nat) : Int).toNat = 2 from rfl] at hr
  rw [numO_t hf, num_1]
  have HR4 := Lib.hid hr
  have hG8 := byteAt_lt s 1
  obtain ⟨G, hG⟩ : ∃ G, G = byteAt s 1 := ⟨_, rfl⟩
  rw [← hG] at hG8 ⊢
  have HG := Lib.hid hG
  clear hm hr hf hG HT3 HR3 c0 e1
  have a5 := byte_and5 ⟨G, hG8⟩
  simp only [] at a5
  by_cases hn : fl G 1 = false ∧ fl G 4 = false
  · rw [hn.1, hn.2] at a5
    have HD := Lib.hid (show dec s = (.zero, 5) by rw [dec_two s HS2.out HK.out, ← HG.out, decc, if_pos hn])
    clear hn
    go_wp2_with fail
    go_ret; exact ⟨5, rfl, HT4.out, .inl ⟨by decide, HD.out⟩⟩
  have HN := Lib.hid hn
  have a6 : (bits .and .u8 (G : Int) 5 == 0) = false := by
    rw [a5]
    cases e1 : fl G 1 <;> cases e4 : fl G 4 <;> simp_all
  clear hn a5
  go_wp2_with fail
  have hx : Ds.bare ⟨bits .and .u8 (G : Int) 16 != 0, bits .and .u8 (G : Int) 1 != 0, bits .and .u8 (G : Int) 2 != 0, 0, bits .and .u8 (G : Int) 4 != 0, bits .and .u8 (G : Int) 8 != 0, 0, 0, 0, false, 0⟩ = frontX G := by
    unfold frontX
    rw [← byte_and1 ⟨G, hG8⟩, ← byte_and2 ⟨G, hG8⟩, ← byte_and4 ⟨G, hG8⟩, ← byte_and8 ⟨G, hG8⟩, ← byte_and16 ⟨G, hG8⟩]
    rfl
  refine (answer (owned_any ⟨bits .and .u8 (G : Int) 16 != 0, bits .and .u8 (G : Int) 1 != 0, bits .and .u8 (G : Int) 2 != 0, 0, bits .and .u8 (G : Int) 4 != 0, bits .and .u8 (G : Int) 8 != 0, 0, 0, 0, false, 0⟩ W4) (congrArg (fun y => Value.agg (dsv y)) hx)).mono ?_
  rintro e W5 ⟨rfl, b5⟩
  have HR5 := Lib.hid (HR4.out.below b5)
  have HT5 := Lib.hid (HT4.out.trans (Two.of_below b5))
  clear hx b5 HR4 HT4 a6
  go_wp2_with (refine store_ds rfl _ _ rfl b rfl (ptr c) .zero (frontX G) ⟨#[]⟩ rfl ?_ ?_; exact HR5.out.body)
  intro W6 g6 d6
  have HR6 := Lib.hid (HR5.out.turned g6 d6)
  have HT6 := Lib.hid (HT5.out.trans (Two.left g6))
  clear g6 d6 HR5 HT5
  go_wp2_with fail
  go_ret; exact ⟨0, rfl, HT6.out, .inr ⟨rfl, HS2.out, HK.out, by rw [← HG.out]; exact HN.out, by rw [← HG.out]; exact HR6.out⟩⟩
end Go.Proofs.Ytdhkjhkgjfcolaa
