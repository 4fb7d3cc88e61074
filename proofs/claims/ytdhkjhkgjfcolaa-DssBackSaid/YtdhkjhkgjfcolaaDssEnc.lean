/-
  What Encode of package dss answers, by its walk.
-/
import Derived.Test.YtdhkjhkgjfcolaaDssParts
import Derived.Test.YtdhkjhkgjfcolaaDssValid
namespace Go.Proofs.Ytdhkjhkgjfcolaa
open Go.ChangeShapes Go.WideShapes Go.ChangeAt Go.RowKit
set_option linter.unusedVariables false

/-- What 'Encode' answers. -/
def encV (x : Ds) : Value := .tuple #[.string x.enc.1, .int .i64 x.enc.2]
theorem encV_t (x : Ds) (h : x.May) : encV x = .tuple #[.string (txt x.body), .int .i64 0] := by unfold encV; rw [Ds.enc_t x h]
theorem encV_f (x : Ds) (h : ¬ x.May) : encV x = .tuple #[.string ⟨#[]⟩, .int .i64 2] := by unfold encV; rw [Ds.enc_f x h]
/-- A body's text behind each of its parts. -/
def ta (x : Ds) : List UInt8 := [32, UInt8.ofNat x.bits] ++ be (wA x.ha x.la) x.ack
def tb (x : Ds) : List UInt8 := ta x ++ be (wA x.hm x.ld) x.dsn ++ be (w4 x.hm) x.ssn ++ be (w2 x.hm) x.len.toNat
theorem ta_len (x : Ds) : (txt (ta x)).size ≤ 10 := by rw [txt_size]; unfold ta; simp only [List.length_append, be_length, List.length_cons, List.length_nil]; have := wA_le x.ha x.la; omega
theorem tb_len (x : Ds) : (txt (tb x)).size ≤ 24 := by
  have h := ta_len x
  rw [txt_size] at h ⊢
  unfold tb
  simp only [List.length_append, be_length]
  have := wA_le x.hm x.ld; have := w4_le x.hm; have := w2_le x.hm
  omega
theorem t_front (x : Ds) : txt [32] ++ txt (be 1 x.bits) = txt [32, UInt8.ofNat x.bits] := by rw [txt_app]; simp [be]
theorem t_first : (⟨#[]⟩ : ByteArray) ++ txt (be 1 32) = txt [32] := by decide
theorem t_body (x : Ds) : txt (tb x) ++ txt (be (w2 x.hs) x.sum) = txt x.body := by rw [txt_app]; simp [tb, ta, Ds.body, Ds.rest]
/-- A body that is written, behind j of its parts, beside the row of the four methods. -/
structure En (w : World) (b s : Nat) (x : Ds) (T : ByteArray) : Prop where
  body : Bd w b (.pointer none) x T
  row : Blk w s 1 #[.func (.func 19) #[ptr b] #[], .func (.func 20) #[ptr b] #[], .func (.func 21) #[ptr b] #[], .func (.func 22) #[ptr b] #[]]
theorem En.wrote {w w' : World} {b s : Nat} {x : Ds} {T S : ByteArray} (h : En w b s x T) (hne : s ≠ b) (hg : w.grownBy w' (some b)) (hd : Bd w' b (.pointer none) x S) : En w' b s x S := ⟨hd, h.row.grown hg (fun q => by injection q with q; exact hne q)⟩
set_option maxHeartbeats 2000000 in
set_option maxRecDepth 100000 in
theorem Encode_any (x : Ds) (hx : x.Ok) (w : World) :
    Calls Try.prog 10 #[.agg (dsv x)] w fun e w' => e = .returned (encV x) ∧ Below w.heap.size w w' := by
  have HX := Lib.hid hx
  obtain ⟨V, hV⟩ : ∃ V, V = encV x := ⟨_, rfl⟩
  rw [← hV]
  have HC := Lib.hid (Blk.new w 26 (dsv x))
  have HB := Lib.hid ((Below.refl _ w).alloc (Nat.le_refl _) (.cells (dsv x) 26))
  have hlt : w.heap.size < (w.alloc (.cells (dsv x) 26)).heap.size := by simp
  have HL := Lib.hid hlt
  clear hlt hx
  by_cases hm : x.May
  · rw [encV_t x hm] at hV
    have HVV := Lib.hid hV
    have HM := Lib.hid hm
    clear hV hm
    go_enter Try.func10, Try.ntmps10
    go_wp2_with (refine wpList_load_row rfl 26 _ rfl w.heap.size rfl 26 (dsv x) (0, 0) _ ?_ Try.underlying26 rfl ds_size ?_; exact HC.out)
    refine (valid_any x HX.out _).mono ?_
    rintro e W0 ⟨rfl, bl⟩
    rw [decide_eq_true HM.out]
    have HC0 := Lib.hid (HC.out.below bl HL.out)
    have HB0 := Lib.hid (HB.out.trans (bl.mono HB.out.size))
    obtain ⟨b, hb⟩ : ∃ b, b = W0.heap.size := ⟨_, rfl⟩
    obtain ⟨s, hs⟩ : ∃ s, s = W0.heap.size + 1 := ⟨_, rfl⟩
    obtain ⟨U, hU⟩ : ∃ U, U = (W0.alloc (.cells (bdv (.pointer none) x ⟨#[]⟩) 53)).alloc (.cells #[.func (.func 19) #[ptr W0.heap.size] #[], .func (.func 20) #[ptr W0.heap.size] #[], .func (.func 21) #[ptr W0.heap.size] #[], .func (.func 22) #[ptr W0.heap.size] #[]] 1) := ⟨_, rfl⟩
    have HE := Lib.hid (show En U b s x ⟨#[]⟩ by
      rw [hU, hb, hs]
      refine ⟨(Blk.new _ _ _).alloc _, ?_⟩
      have := Blk.new (W0.alloc (.cells (bdv (.pointer none) x ⟨#[]⟩) 53)) 1 #[.func (.func 19) #[ptr W0.heap.size] #[], .func (.func 20) #[ptr W0.heap.size] #[], .func (.func 21) #[ptr W0.heap.size] #[], .func (.func 22) #[ptr W0.heap.size] #[]]
      simpa using this)
    have HBU := Lib.hid (show Below w.heap.size w U by rw [hU]; exact (HB0.out.alloc HB0.out.size _).alloc (by have := HB0.out.size; simp; omega) _)
    have HN := Lib.hid (show s ≠ b ∧ w.heap.size ≤ b from ⟨by omega, by rw [hb]; exact HB0.out.size⟩)
    have HUE := Lib.hid hU
    have HBE := Lib.hid hb
    have HSE := Lib.hid hs
    clear bl HC HB HL hU hb hs
    go_wp2_with (refine wpList_load_row rfl 26 _ rfl w.heap.size rfl 26 (dsv x) (0, 0) _ ?_ Try.underlying26 rfl ds_size ?_; exact HC0.out)
    rw [← HUE.out, ← HSE.out, ← HBE.out]
    clear HUE HBE HSE HC0 HB0
    go_loopw [23] (fun i wr => ∃ j : Nat, j ≤ 4 ∧ i = .int .i64 (j : Int) ∧ (∃ T, En wr b s x T ∧ (j = 0 → T = ⟨#[]⟩) ∧ (j = 1 → T = txt [32, UInt8.ofNat x.bits]) ∧ (j = 2 → T = txt (ta x)) ∧ (j = 3 → T = txt (tb x)) ∧ (j = 4 → T = txt x.body)) ∧ Below w.heap.size w wr) (fun i _ => (4 - intOf i).toNat)
    case atStart => exact ⟨0, by omega, rfl, ⟨_, HE.out, fun _ => rfl, by omega, by omega, by omega, by omega⟩, HBU.out⟩
    case round =>
      obtain ⟨j, hj, rfl, ⟨T, hE, t0, t1, t2, t3, t4⟩, hB⟩ := hrel
      have HE1 := Lib.hid hE
      have HB1 := Lib.hid hB
      clear hB HE HBU hE
      have cases5 : j = 0 ∨ j = 1 ∨ j = 2 ∨ j = 3 ∨ j = 4 := by omega
      clear hj
      rcases cases5 with rfl | rfl | rfl | rfl | rfl
      · obtain rfl := t0 rfl
        have c0 := HE1.out.row.cell 0
        simp only [List.getElem?_toArray, List.getElem?_cons_zero] at c0
        have HW := Lib.hid (putFront_any b (.pointer none) x ⟨#[]⟩ (txt [32]) (txt [32, UInt8.ofNat x.bits]) wr (by decide) t_first (t_front x) HE1.out.body)
        clear t0 t1 t2 t3 t4
        go_wp2_with fail
        refine HW.out.mono ?_
        rintro e W2 ⟨rfl, g2, d2⟩
        have HE2 := Lib.hid (HE1.out.wrote HN.out.1 g2 d2)
        have HB2 := Lib.hid (HB1.out.trans (below_of_only g2 HN.out.2 HB1.out.size))
        clear g2 d2 HW
        go_wp2_with fail
        go_roundw
        case rel => exact ⟨1, by omega, by go_num, ⟨_, HE2.out, by omega, fun _ => rfl, by omega, by omega, by omega⟩, HB2.out⟩
        case measure => simp [intOf]
      · obtain rfl := t1 rfl
        have c1 := HE1.out.row.cell 1
        simp only [List.getElem?_toArray, List.getElem?_cons_zero, List.getElem?_cons_succ] at c1
        have HW := Lib.hid (putAck_any b (.pointer none) x (txt [32, UInt8.ofNat x.bits]) (txt (ta x)) wr (by rw [txt_size]; simp) (ack_lt x HX.out HM.out) (by rw [txt_app]; rfl) HE1.out.body)
        clear t0 t1 t2 t3 t4
        go_wp2_with fail
        refine HW.out.mono ?_
        rintro e W2 ⟨rfl, g2, d2⟩
        have HE2 := Lib.hid (HE1.out.wrote HN.out.1 g2 d2)
        have HB2 := Lib.hid (HB1.out.trans (below_of_only g2 HN.out.2 HB1.out.size))
        clear g2 d2 HW
        go_wp2_with fail
        go_roundw
        case rel => exact ⟨2, by omega, by go_num, ⟨_, HE2.out, by omega, by omega, fun _ => rfl, by omega, by omega⟩, HB2.out⟩
        case measure => simp [intOf]
      · obtain rfl := t2 rfl
        have c2 := HE1.out.row.cell 2
        simp only [List.getElem?_toArray, List.getElem?_cons_zero, List.getElem?_cons_succ] at c2
        have HW := Lib.hid (putMap_any b (.pointer none) x (txt (ta x)) (txt (tb x)) wr (by have := ta_len x; omega) (dsn_lt x HX.out HM.out) HX.out.ssn HM.out.2.2.2.2 _ _ rfl rfl (by rw [txt_app, txt_app, txt_app]; rfl) HE1.out.body)
        clear t0 t1 t2 t3 t4
        go_wp2_with fail
        refine HW.out.mono ?_
        rintro e W2 ⟨rfl, g2, d2⟩
        have HE2 := Lib.hid (HE1.out.wrote HN.out.1 g2 d2)
        have HB2 := Lib.hid (HB1.out.trans (below_of_only g2 HN.out.2 HB1.out.size))
        clear g2 d2 HW
        go_wp2_with fail
        go_roundw
        case rel => exact ⟨3, by omega, by go_num, ⟨_, HE2.out, by omega, by omega, by omega, fun _ => rfl, by omega⟩, HB2.out⟩
        case measure => simp [intOf]
      · obtain rfl := t3 rfl
        have c3 := HE1.out.row.cell 3
        simp only [List.getElem?_toArray, List.getElem?_cons_zero, List.getElem?_cons_succ] at c3
        have HW := Lib.hid (putSum_any b (.pointer none) x (txt (tb x)) (txt x.body) wr (by have := tb_len x; omega) HX.out.sum (t_body x) HE1.out.body)
        clear t0 t1 t2 t3 t4
        go_wp2_with fail
        refine HW.out.mono ?_
        rintro e W2 ⟨rfl, g2, d2⟩
        have HE2 := Lib.hid (HE1.out.wrote HN.out.1 g2 d2)
        have HB2 := Lib.hid (HB1.out.trans (below_of_only g2 HN.out.2 HB1.out.size))
        clear g2 d2 HW
        go_wp2_with fail
        go_roundw
        case rel => exact ⟨4, by omega, by go_num, ⟨_, HE2.out, by omega, by omega, by omega, by omega, fun _ => rfl⟩, HB2.out⟩
        case measure => simp [intOf]
      · obtain rfl := t4 rfl
        have c12 := HE1.out.body.cell 12
        simp only [List.getElem?_toArray, List.getElem?_cons_zero, List.getElem?_cons_succ] at c12
        clear t0 t1 t2 t3 t4
        go_wp2_with fail
        go_ret2
        refine ⟨?_, HB1.out⟩
        rw [HVV.out]; rfl
  · rw [encV_f x hm] at hV
    subst hV
    have HM := Lib.hid hm
    clear hm
    go_enter Try.func10, Try.ntmps10
    go_wp2_with (refine wpList_load_row rfl 26 _ rfl w.heap.size rfl 26 (dsv x) (0, 0) _ ?_ Try.underlying26 rfl ds_size ?_; exact HC.out)
    refine (valid_any x HX.out _).mono ?_
    rintro e W0 ⟨rfl, b⟩
    rw [decide_eq_false HM.out]
    have HB0 := Lib.hid (HB.out.trans (b.mono HB.out.size))
    clear b
    go_wp2_with fail
    go_ret2
    exact ⟨rfl, HB0.out⟩
end Go.Proofs.Ytdhkjhkgjfcolaa
