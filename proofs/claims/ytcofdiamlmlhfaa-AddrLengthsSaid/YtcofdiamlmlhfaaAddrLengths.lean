/-
  AddrLengths returns true for all bytes, lengths and both kinds. No conditions.
-/
import Derived.Test.YtcofdiamlmlhfaaAddrMore
import Derived.Laws.OwnMore
import Derived.Maps.AppendAt
import Derived.WalkKit
import Derived.ProofKit
import Derived.OpenShut
import Derived.ShutString
import Derived.ChangeOld
import Derived.Below
import Derived.SizedLaws
namespace Go.Proofs.Ytcofdiamlmlhfaa.addrLengths
open Go.ChangeShapes Go.WideShapes Go.ChangeAt Go.RowKit
open Go.ChangeMaps (open_string shut_string)
set_option linter.unusedVariables false

/-- A slice of bytes that is the walk's own. -/
abbrev OwnS (B : Nat) (w : World) (v : Value) (l : List UInt8) : Prop := w.ownsRow B 5 1 v l.length (byv l).toList
/-- How long a slice is. -/
def lenOf : Value → Nat
  | .slice _ k _ => k
  | _ => 0
theorem byv_ones (l : List UInt8) : ∀ u ∈ (byv l).toList, u.oneCell' = true := by
  intro u hu
  simp only [byv, List.mem_map] at hu
  obtain ⟨b, _, rfl⟩ := hu
  rfl
theorem OwnS.shape {B : Nat} {w : World} {v : Value} {l : List UInt8} {g : Nat} (h : OwnS B w v l) (hg : v.ownBlock = some g) : ∃ cap, v = .slice (some ⟨g, 0, none⟩) l.length cap := by
  obtain ⟨_, ⟨rfl, _⟩ | ⟨g', cap, cur, rfl, _⟩⟩ := h
  · cases hg
  · injection hg with hg
    exact ⟨cap, by rw [← hg]⟩
theorem info8l : (Try.prog.info? 5).map (fun i => (i.zero, i.size, i.bytes)) = some (some (.int .u8 0), 1, 1) := by kernel_rfl
theorem byte_built (c : Int) (w : World) : (Instr.buildSlice 38 1 #[(0, .int .u8 c)]).run Try.prog w = .ok (.slice (some ⟨w.heap.size, 0, none⟩) 1 1) (w.alloc (.cells #[.int .u8 c] 5)) := by
  have hi := info8
  cases hq : Try.prog.info? 5 with
  | none => simp [hq] at hi
  | some ie =>
    simp [hq] at hi
    obtain ⟨hz, s1, _⟩ := hi
    have flat := Great.fill_flat [Value.int .u8 c] ((Array.range (1 * 1)).map ((Value.int .u8 0).cells[· % (Value.int .u8 0).cells.size]!)) (fun v hv => by obtain rfl := List.mem_singleton.1 hv; rfl) (by simp)
    exact run_buildSlice w _ _ 1 _ _ ie (.int .u8 0) (by kernel_rfl) hq hz (by rw [s1]; omega) (by rw [s1]; omega) (by rw [s1]; exact flat)
/-- One byte more: what has turned, and where the slice lies then. -/
theorem app_one {ops : Array Oper} {rest : List Oper} {o : Oper} {a : Act} {w : World} {Q : Exit → Act → World → Prop} (hgd : o.guard = none) (s x : Operand) (ho : o.op = .call { callee := .builtin .append, args := #[s, x], argTypes := #[38, 38] })
    (B : Nat) (V : Value) (l : List UInt8) (k : Nat) (hk : l.length = k) (g : Nat) (v : UInt8) (hs : a.eval s = V) (h : OwnS B w V l) (hg : V.ownBlock = some g) (hB : B ≤ w.heap.size) (hn : k ≤ 1000) (hx : a.eval x = .slice (some ⟨w.heap.size, 0, none⟩) 1 1)
    (hd : ∀ g' cap w', OwnS B w' (.slice (some ⟨g', 0, none⟩) (k + 1) cap) (l ++ [v]) → w.grownBy w' (some g) → (g' = g ∨ w.heap.size < g') → g' < w'.heap.size → wpList Try.prog ops Q rest (a.put o.dst (.slice (some ⟨g', 0, none⟩) (k + 1) cap)) w') : wpList Try.prog ops Q (o :: rest) a (w.alloc (.cells #[.int .u8 (v.toNat : Int)] 5)) := by
  subst hk
  obtain ⟨i0, hi, hz0, hz1, hz2⟩ := info_parts info8l
  refine wpList_append_own_at _ hgd s x 38 ho B 5 i0 (.int .u8 0) 1 1 Try.underlying38 hi hz0 hz1 hz2 rfl (by decide) V _ _ hs (World.ownsRow.alloc h _) ⟨w.heap.size, 0, none⟩ 1 1 [.int .u8 (v.toNat : Int)] hx rfl (cell_one_new _ _ _) ?_ ?_ ?_ ?_ ?_
  · intro u hu; obtain rfl := List.mem_singleton.1 hu; rfl
  · unfold maxLen; omega
  · omega
  · rw [World.size_alloc]; omega
  · intro v' w2 own2 grow2 hnil hloc
    have own3 : OwnS B w2 v' (l ++ [v]) := by
      have e : (byv (l ++ [v])).toList = (byv l).toList ++ [.int .u8 (v.toNat : Int)] := by simp [byv]
      show w2.ownsRow B _ 1 v' (l ++ [v]).length _
      rw [List.length_append, e]; exact own2
    obtain ⟨g', hg'⟩ : ∃ g', v'.ownBlock = some g' := by
      rcases hloc with q | q
      · exact ⟨g, q.trans hg⟩
      · exact ⟨_, q⟩
    obtain ⟨cap, hv'⟩ := own3.shape hg'
    rw [List.length_append] at hv'
    have hv' : v' = .slice (some ⟨g', 0, none⟩) (l.length + 1) cap := hv'
    have hlt := (World.ownsRow.lt own3 g' hg').2
    rw [hv'] at own3 ⊢
    have gr : w.grownBy w2 (some g) := (World.grownBy_alloc w _ _).trans (by rw [hg] at grow2; exact grow2)
    refine hd g' cap w2 own3 gr ?_ hlt
    rcases hloc with q | q
    · rw [hg', hg] at q
      exact .inl (by injection q)
    · rw [hg'] at q
      injection q with q
      refine .inr ?_
      rw [World.size_alloc] at q
      omega
theorem own_txt (w : World) (B : Nat) (v : Value) (l : List UInt8) (h : OwnS B w v l) (hl : l ≠ []) : (convert 38 9 v).run Try.prog w = .ok (.string (txt l)) w := by
  obtain ⟨h0, h⟩ := h
  rcases h with ⟨rfl, h1⟩ | ⟨g, cap, cur, rfl, hb, hg, h1, h2, h3, h4⟩
  · exact absurd (List.length_eq_zero_iff.1 h1) hl
  · refine run_convert_bytes_back w 38 9 5 ⟨g, 0, none⟩ cap l Try.underlying38 Try.underlying5 Try.underlying9 fun j hj => ?_
    have e : (⟨g, 0, none⟩ : Addr).add j = ⟨g, j, none⟩ := by unfold Addr.add; split <;> simp_all
    have e1 : (cur.toList.take (l.length * 1))[j]? = (byv l).toList[j]? := by rw [h4]
    rw [List.getElem?_take_of_lt (by omega)] at e1
    rw [e, cell_of_row w g j cur _ (0, 0) hg, ← Array.getElem?_toList, e1]
    simp [byv, hj]
theorem OwnS.below {B C : Nat} {w w' : World} {v : Value} {l : List UInt8} (h : OwnS B w v l) (b : Below C w w') (hC : w.heap.size ≤ C) : OwnS B w' v l := by
  obtain ⟨h0, ⟨rfl, h1⟩ | ⟨g, cap, cur, rfl, hb, hg, h1, h2, h3, h4⟩⟩ := h
  · exact ⟨h0, .inl ⟨rfl, h1⟩⟩
  · exact ⟨h0, .inr ⟨g, cap, cur, rfl, hb, (b.block g (Nat.lt_of_lt_of_le (Array.getElem?_eq_some_iff.1 hg).1 hC)).trans hg, h1, h2, h3, h4⟩⟩
theorem rep_more (u v : UInt8) (j : Nat) : (u :: List.replicate j v) ++ [v] = u :: List.replicate (j + 1) v := by
  rw [List.cons_append, ← List.replicate_succ']
/-- What a text of one byte again and again is, behind its first one. -/
theorem long_shape (E : Bool) (v u : UInt8) (hu : u.toNat = fst E) (m : Nat) : byteAt (txt (u :: List.replicate m v)) 0 / 16 = 3 ∧ odd (byteAt (txt (u :: List.replicate m v)) 0) = E ∧ (txt (u :: List.replicate m v)).size = m + 1 := by
  refine ⟨?_, ?_, ?_⟩
  · rw [one_0, hu]; exact fst_kind E
  · rw [one_0, hu]; exact fst_odd E
  · rw [one_size, List.length_replicate]
theorem long_none (E : Bool) (v u : UInt8) (hu : u.toNat = fst E) (m : Nat) (h : shape (m + 1) E = none) : decA (txt (u :: List.replicate m v)) = (.zero, 5) := by
  obtain ⟨h1, h2, h3⟩ := long_shape E v u hu m
  exact decA_form _ (by rw [h3]; omega) h1 (by rw [h3, h2]; exact h)
theorem long_got (E : Bool) (v u : UInt8) (hu : u.toNat = fst E) (m k : Nat) (p : Bool) (h : shape (m + 1) E = some (k, p)) : ∃ (ip mac : ByteArray) (port : Int), decA (txt (u :: List.replicate m v)) = (⟨E, (v.toNat : Int), ip, p, port, mac⟩, 0) ∧ mac.size = macOf E ∧ (p = false → port = 0) := by
  obtain ⟨h1, h2, h3⟩ := long_shape E v u hu m
  obtain ⟨hk, hn⟩ := shape_cases _ _ _ _ h
  have e := decA_some (txt (u :: List.replicate m v)) k p (by rw [h3]; omega) h1 (by rw [h3, h2]; exact h)
  obtain ⟨j, rfl⟩ : ∃ j, m = j + 1 := ⟨m - 1, by omega⟩
  rw [h2, List.replicate_succ, two_1, two_after] at e
  refine ⟨_, _, _, by rw [List.replicate_succ, e]; rfl, ?_, ?_⟩
  · rw [txt_size, List.length_drop, List.length_replicate]; omega
  · rintro rfl; rfl
theorem long_rem (v : UInt8) (m : Nat) (h : 1 ≤ m ∧ m ≤ 37) : decR (txt (64 :: List.replicate m v)) = (txt (List.replicate m v), 0) :=
  decR_first (txt (List.replicate m v)) 64 rfl (by rw [txt_size, List.length_replicate]; exact h)
theorem long_rem_no (v : UInt8) (m : Nat) (h : ¬ (1 ≤ m ∧ m ≤ 37)) : decR (txt (64 :: List.replicate m v)) = (⟨#[]⟩, 5) :=
  decR_f _ (by rw [one_size]; omega) (by rw [one_0]; decide) (by rw [one_size, List.length_replicate]; omega)
set_option maxHeartbeats 8000000 in
set_option maxRecDepth 100000 in
theorem walk_false (v : UInt8) (n m : Nat) (hm : n % 64 = m) (hn : n ≤ 255) (w : World) :
    Calls Try.prog 7 #[.int .u8 (v.toNat : Int), .int .u8 (n : Int), .bool false] w fun e w' => e = .returned (.bool true) ∧ Below w.heap.size w w' := by
  have hv8 := v.toNat_lt
  have hm64 : m < 64 := by omega
  have em : (n : Int) % 64 = (m : Int) := by omega
  obtain ⟨u, hu⟩ : ∃ u : UInt8, u = 48 := ⟨_, rfl⟩
  have HU := Lib.hid (show u.toNat = fst false by rw [hu]; rfl)
  have HUV := Lib.hid hu
  clear hu hm
  go_enter Try.func7, Try.ntmps7
  go_wp2_with fail
  refine (works_t w).mono ?_
  rintro e w0 ⟨rfl, b⟩
  have HBW := Lib.hid b
  clear b
  obtain ⟨b0, hb0⟩ : ∃ b0, b0 = w0.heap.size := ⟨_, rfl⟩
  obtain ⟨V, hV⟩ : ∃ V, V = (w0.alloc (.cells #[.int .u8 48] 5)).alloc (.cells #[.int .u8 64] 5) := ⟨_, rfl⟩
  have s0 : (w0.alloc (.cells #[.int .u8 48] 5)).heap.size = w0.heap.size + 1 := by simp
  have HOA := Lib.hid (show OwnS w.heap.size V (.slice (some ⟨b0, 0, none⟩) 1 1) (u :: List.replicate 0 v) by
    have q := World.ownsRow_lit (base := w.heap.size) (e := 5) (size := 1) w0 #[.int .u8 48] 1 HBW.out.size (by unfold maxLen; omega) rfl
    rw [hV, hb0, HUV.out]; exact World.ownsRow.alloc q _)
  have HOB := Lib.hid (show OwnS w.heap.size V (.slice (some ⟨b0 + 1, 0, none⟩) 1 1) (64 :: List.replicate 0 v) by
    have q := World.ownsRow_lit (base := w.heap.size) (e := 5) (size := 1) (w0.alloc (.cells #[.int .u8 48] 5)) #[.int .u8 64] 1 (by have := HBW.out.size; omega) (by unfold maxLen; omega) rfl
    rw [s0] at q
    rw [hV, hb0]; exact q)
  have HBV := Lib.hid (show Below w.heap.size w V by rw [hV]; exact (HBW.out.alloc HBW.out.size _).alloc (by have := HBW.out.size; omega) _)
  have HV := Lib.hid hV
  have HB0 := Lib.hid hb0
  have HS0 := Lib.hid s0
  clear hb0 hV s0 HBW
  go_wp2_with fail
  rw [← HV.out, ← HB0.out, em]
  go_loopw [9, 10] (fun a b wr => ∃ (j g h ca cb : Nat), j ≤ m ∧ a = .slice (some ⟨g, 0, none⟩) (j + 1) ca ∧ b = .slice (some ⟨h, 0, none⟩) (j + 1) cb ∧ OwnS w.heap.size wr (.slice (some ⟨g, 0, none⟩) (j + 1) ca) (u :: List.replicate j v) ∧ OwnS w.heap.size wr (.slice (some ⟨h, 0, none⟩) (j + 1) cb) (64 :: List.replicate j v) ∧ g ≠ h ∧ Below w.heap.size w wr) (fun a _ _ => m + 1 - lenOf a)
  case atStart => exact ⟨0, b0, b0 + 1, 1, 1, Nat.zero_le _, rfl, rfl, HOA.out, HOB.out, by omega, HBV.out⟩
  case round =>
    obtain ⟨j, g, h, ca, cb, hj, rfl, rfl, hoa, hob, hgh, hb⟩ := hrel
    have HOA1 := Lib.hid hoa
    have HOB1 := Lib.hid hob
    have HB1 := Lib.hid hb
    have HGH := Lib.hid hgh
    clear hoa hob hb hgh HOA HOB HBV HV HB0 HS0
    by_cases hlt : j < m
    · have HLT := Lib.hid hlt
      have jm : (j : Int) + 1 < 1 + (m : Int) := by omega
      have hbuilt : ∀ W, (Instr.buildSlice 38 1 #[(0, .int .u8 (v.toNat : Int))]).run Try.prog W = .ok (.slice (some ⟨W.heap.size, 0, none⟩) 1 1) (W.alloc (.cells #[.int .u8 (v.toNat : Int)] 5)) := fun W => byte_built (v.toNat : Int) W
      go_upto_region 11 with (at_builtin; refine app_one rfl _ _ rfl w.heap.size (.slice (some ⟨g, 0, none⟩) (j + 1) ca) (u :: List.replicate j v) (j + 1) (by simp) g v rfl HOA1.out rfl HB1.out.size (by have := HLT.out; omega) rfl ?_; intro g2 ca2 W2 hoa2 hgr2 hg2 hl2)
      have hb2 := HB1.out.grown hgr2 HB1.out.size (fun i hi => by cases hi; exact (World.ownsRow.lt HOA1.out g rfl).1)
      have hob2 : OwnS w.heap.size W2 (.slice (some ⟨h, 0, none⟩) (j + 1) cb) (64 :: List.replicate j v) := World.ownsRow.kept HOB1.out hgr2 (.inr (by show some h ≠ some g; intro e; injection e with e; exact HGH.out e.symm))
      have hlh := (World.ownsRow.lt HOB1.out h rfl).2
      have hne : g2 ≠ h := by rcases hg2 with rfl | q; exact HGH.out; omega
      rw [rep_more] at hoa2
      have HOA2 := Lib.hid hoa2
      have HOB2 := Lib.hid hob2
      have HB2 := Lib.hid hb2
      have HNE := Lib.hid hne
      have HL2 := Lib.hid hl2
      clear hoa2 hob2 hb2 hgr2 hg2 hne hlh hl2 HOA1 HOB1 HB1 HGH
      go_wp2_with (at_builtin; refine app_one rfl _ _ rfl w.heap.size (.slice (some ⟨h, 0, none⟩) (j + 1) cb) (64 :: List.replicate j v) (j + 1) (by simp) h v rfl HOB2.out rfl HB2.out.size (by have := HLT.out; omega) rfl ?_; intro h2 cb2 W3 hob3 hgr3 hh3 hl3; have HX3 := Lib.hid (⟨hob3, hgr3, hh3⟩ : OwnS w.heap.size W3 (.slice (some ⟨h2, 0, none⟩) (j + 1 + 1) cb2) ((64 :: List.replicate j v) ++ [v]) ∧ W2.grownBy W3 (some h) ∧ (h2 = h ∨ W2.heap.size < h2)); clear hob3 hgr3 hh3 hl3)
      obtain ⟨hob3, hgr3, hh3⟩ := HX3.out
      rw [rep_more] at hob3
      have hoa3 : OwnS w.heap.size W3 (.slice (some ⟨g2, 0, none⟩) (j + 1 + 1) ca2) (u :: List.replicate (j + 1) v) := World.ownsRow.kept HOA2.out hgr3 (.inr (by show some g2 ≠ some h; intro e; injection e with e; exact HNE.out e))
      have hne2 : g2 ≠ h2 := by
        rcases hh3 with rfl | q
        · exact HNE.out
        · have := HL2.out; omega
      have hb3 := HB2.out.grown hgr3 HB2.out.size (fun i hi => by cases hi; exact (World.ownsRow.lt HOB2.out h rfl).1)
      go_roundw
      case rel => exact ⟨j + 1, g2, h2, ca2, cb2, hlt, rfl, rfl, hoa3, hob3, hne2, hb3⟩
      case measure => show m + 1 - (j + 1 + 1) < m + 1 - (j + 1); omega
    · have hjm : j = m := by omega
      subst j
      have HOA := Lib.hid (show OwnS w.heap.size wr (.slice (some ⟨g, 0, none⟩) (m + 1) ca) (u :: List.replicate m v) from HOA1.out)
      have HOB := Lib.hid (show OwnS w.heap.size wr (.slice (some ⟨h, 0, none⟩) (m + 1) cb) (64 :: List.replicate m v) from HOB1.out)
      have HB := HB1
      clear hlt hj HOA1 HOB1 HB1 HGH HUV
      have jm : ¬ (m : Int) + 1 < 1 + (m : Int) := by omega
      rcases (by omega : m = 13 ∨ m = 15 ∨ m = 25 ∨ m = 27 ∨ m = 0 ∨ ((1 ≤ m ∧ m ≤ 37) ∧ m ≠ 13 ∧ m ≠ 15 ∧ m ≠ 25 ∧ m ≠ 27) ∨ 38 ≤ m) with hc | hc | hc | hc | hc | hc | hc
      · obtain rfl : m = 13 := hc
        obtain ⟨ip, mac, port, hz, hmac, hport⟩ := long_got false v u HU.out 13 4 false rfl
        have hmac : mac.size = 8 := hmac
        have hmac2 : ((mac.size : Int) == 8) = true := by rw [hmac]; rfl
        obtain rfl : port = 0 := hport rfl
        clear hport
        have hy := long_rem v 13 (by omega)
        obtain ⟨A, hA⟩ : ∃ A, A = txt (u :: List.replicate 13 v) := ⟨_, rfl⟩
        obtain ⟨R, hR⟩ : ∃ R, R = txt (64 :: List.replicate 13 v) := ⟨_, rfl⟩
        rw [← hA] at hz
        rw [← hR] at hy
        obtain ⟨I, hI⟩ : ∃ I, I = txt (List.replicate 13 v) := ⟨_, rfl⟩
        rw [← hI] at hy
        have hIs : ((I.size : Int) == 13) = true := by rw [hI, txt_size, List.length_replicate]; exact beq_self_eq_true _
        have hIn : ((I.size : Int) != 13) = false := by rw [hI, txt_size, List.length_replicate]; exact bne_self_eq_false _
        have HDZ := Lib.hid (show decV A = .tuple #[.agg #[.bool false, .int .i64 (v.toNat : Int), .string ip, .bool false, .int .i64 0, .string mac], .int .i64 0] from decV_eq _ _ _ hz)
        have HDY := Lib.hid (show decRV R = .tuple #[.agg #[.string I], .int .i64 0] from decRV_eq _ _ _ hy)
        have HAS := Lib.hid (show A.size ≤ 100 by rw [hA, one_size, List.length_replicate]; omega)
        have HRS := Lib.hid (show R.size ≤ 100 by rw [hR, one_size, List.length_replicate]; omega)
        have hcv := own_txt wr _ _ _ HOA.out (by simp)
        rw [← hA] at hcv
        have HHR := Lib.hid hR
        clear hz hy hA hR hI hmac
        go_upto_region 14 with fail
        go_wp2_with fail
        clear hcv
        refine (DecodeAdd_any A (by have := HAS.out; omega) wr).mono ?_
        rintro e W1 ⟨rfl, b⟩
        rw [HDZ.out]
        have HOB1 := Lib.hid (OwnS.below HOB.out b (Nat.le_refl _))
        have HB1 := Lib.hid (HB.out.trans (b.mono HB.out.size))
        obtain ⟨p, hp⟩ : ∃ g, g = W1.heap.size := ⟨_, rfl⟩
        obtain ⟨W2, hW2⟩ : ∃ W, W = W1.alloc (.cells #[.bool false, .int .i64 (v.toNat : Int), .string ip, .bool false, .int .i64 0, .string mac] 23) := ⟨_, rfl⟩
        have HP2 := Lib.hid (show Blk W2 p 23 #[.bool false, .int .i64 (v.toNat : Int), .string ip, .bool false, .int .i64 0, .string mac] by rw [hW2, hp]; exact Blk.new _ _ _)
        have HOB2 := Lib.hid (show OwnS w.heap.size W2 _ _ by rw [hW2]; exact World.ownsRow.alloc HOB1.out _)
        have HB2 := Lib.hid (show Below w.heap.size w W2 by rw [hW2]; exact HB1.out.alloc HB1.out.size _)
        have HW2 := Lib.hid hW2
        have HPE := Lib.hid hp
        clear b hp hW2 HB HOB HOA HOB1 HB1
        go_upto_region 15 with fail
        rw [← HW2.out, ← HPE.out]
        have hcv := own_txt W2 _ _ _ HOB2.out (by simp)
        rw [← HHR.out] at hcv
        go_wp2_with fail
        clear hcv
        refine (DecodeRemove_any R (by have := HRS.out; omega) W2).mono ?_
        rintro e W3 ⟨rfl, b⟩
        rw [HDY.out]
        have HP3 := Lib.hid (HP2.out.below b HP2.out.lt)
        have HB3 := Lib.hid (HB2.out.trans (b.mono HB2.out.size))
        obtain ⟨q, hq⟩ : ∃ g, g = W3.heap.size := ⟨_, rfl⟩
        obtain ⟨W4, hW4⟩ : ∃ W, W = W3.alloc (.cells #[.string I] 29) := ⟨_, rfl⟩
        have HP4 := Lib.hid (show Blk W4 p 23 #[.bool false, .int .i64 (v.toNat : Int), .string ip, .bool false, .int .i64 0, .string mac] by rw [hW4]; exact HP3.out.alloc _)
        have HQ4 := Lib.hid (show Blk W4 q 29 #[.string I] by rw [hW4, hq]; exact Blk.new _ _ _)
        have HB4 := Lib.hid (show Below w.heap.size w W4 by rw [hW4]; exact HB3.out.alloc HB3.out.size _)
        have HW4 := Lib.hid hW4
        have HQE := Lib.hid hq
        clear b hq hW4 HOB2 HB2 HP2 HB3 HP3
        go_upto_region 16 with fail
        rw [← HW4.out, ← HQE.out]
        have d0 := HQ4.out.cell 0
        have c0 := HP4.out.cell 0
        have c1 := HP4.out.cell 1
        have c3 := HP4.out.cell 3
        have c4 := HP4.out.cell 4
        have c5 := HP4.out.cell 5
        simp only [List.getElem?_toArray, List.getElem?_cons_zero, List.getElem?_cons_succ] at d0 c0 c1 c3 c4 c5
        go_wp2_with fail
        exact ret_slot 6 (.bool true) (by kernel_rfl) (by kernel_rfl) (by kernel_rfl) ⟨rfl, HB4.out⟩
      · obtain rfl : m = 15 := hc
        obtain ⟨ip, mac, port, hz, hmac, hport⟩ := long_got false v u HU.out 15 4 true rfl
        have hmac : mac.size = 8 := hmac
        have hmac2 : ((mac.size : Int) == 8) = true := by rw [hmac]; rfl
        have hy := long_rem v 15 (by omega)
        obtain ⟨A, hA⟩ : ∃ A, A = txt (u :: List.replicate 15 v) := ⟨_, rfl⟩
        obtain ⟨R, hR⟩ : ∃ R, R = txt (64 :: List.replicate 15 v) := ⟨_, rfl⟩
        rw [← hA] at hz
        rw [← hR] at hy
        obtain ⟨I, hI⟩ : ∃ I, I = txt (List.replicate 15 v) := ⟨_, rfl⟩
        rw [← hI] at hy
        have hIs : ((I.size : Int) == 15) = true := by rw [hI, txt_size, List.length_replicate]; exact beq_self_eq_true _
        have hIn : ((I.size : Int) != 15) = false := by rw [hI, txt_size, List.length_replicate]; exact bne_self_eq_false _
        have HDZ := Lib.hid (show decV A = .tuple #[.agg #[.bool false, .int .i64 (v.toNat : Int), .string ip, .bool true, .int .i64 port, .string mac], .int .i64 0] from decV_eq _ _ _ hz)
        have HDY := Lib.hid (show decRV R = .tuple #[.agg #[.string I], .int .i64 0] from decRV_eq _ _ _ hy)
        have HAS := Lib.hid (show A.size ≤ 100 by rw [hA, one_size, List.length_replicate]; omega)
        have HRS := Lib.hid (show R.size ≤ 100 by rw [hR, one_size, List.length_replicate]; omega)
        have hcv := own_txt wr _ _ _ HOA.out (by simp)
        rw [← hA] at hcv
        have HHR := Lib.hid hR
        clear hz hy hA hR hI hmac hport
        go_upto_region 14 with fail
        go_wp2_with fail
        clear hcv
        refine (DecodeAdd_any A (by have := HAS.out; omega) wr).mono ?_
        rintro e W1 ⟨rfl, b⟩
        rw [HDZ.out]
        have HOB1 := Lib.hid (OwnS.below HOB.out b (Nat.le_refl _))
        have HB1 := Lib.hid (HB.out.trans (b.mono HB.out.size))
        obtain ⟨p, hp⟩ : ∃ g, g = W1.heap.size := ⟨_, rfl⟩
        obtain ⟨W2, hW2⟩ : ∃ W, W = W1.alloc (.cells #[.bool false, .int .i64 (v.toNat : Int), .string ip, .bool true, .int .i64 port, .string mac] 23) := ⟨_, rfl⟩
        have HP2 := Lib.hid (show Blk W2 p 23 #[.bool false, .int .i64 (v.toNat : Int), .string ip, .bool true, .int .i64 port, .string mac] by rw [hW2, hp]; exact Blk.new _ _ _)
        have HOB2 := Lib.hid (show OwnS w.heap.size W2 _ _ by rw [hW2]; exact World.ownsRow.alloc HOB1.out _)
        have HB2 := Lib.hid (show Below w.heap.size w W2 by rw [hW2]; exact HB1.out.alloc HB1.out.size _)
        have HW2 := Lib.hid hW2
        have HPE := Lib.hid hp
        clear b hp hW2 HB HOB HOA HOB1 HB1
        go_upto_region 15 with fail
        rw [← HW2.out, ← HPE.out]
        have hcv := own_txt W2 _ _ _ HOB2.out (by simp)
        rw [← HHR.out] at hcv
        go_wp2_with fail
        clear hcv
        refine (DecodeRemove_any R (by have := HRS.out; omega) W2).mono ?_
        rintro e W3 ⟨rfl, b⟩
        rw [HDY.out]
        have HP3 := Lib.hid (HP2.out.below b HP2.out.lt)
        have HB3 := Lib.hid (HB2.out.trans (b.mono HB2.out.size))
        obtain ⟨q, hq⟩ : ∃ g, g = W3.heap.size := ⟨_, rfl⟩
        obtain ⟨W4, hW4⟩ : ∃ W, W = W3.alloc (.cells #[.string I] 29) := ⟨_, rfl⟩
        have HP4 := Lib.hid (show Blk W4 p 23 #[.bool false, .int .i64 (v.toNat : Int), .string ip, .bool true, .int .i64 port, .string mac] by rw [hW4]; exact HP3.out.alloc _)
        have HQ4 := Lib.hid (show Blk W4 q 29 #[.string I] by rw [hW4, hq]; exact Blk.new _ _ _)
        have HB4 := Lib.hid (show Below w.heap.size w W4 by rw [hW4]; exact HB3.out.alloc HB3.out.size _)
        have HW4 := Lib.hid hW4
        have HQE := Lib.hid hq
        clear b hq hW4 HOB2 HB2 HP2 HB3 HP3
        go_upto_region 16 with fail
        rw [← HW4.out, ← HQE.out]
        have d0 := HQ4.out.cell 0
        have c0 := HP4.out.cell 0
        have c1 := HP4.out.cell 1
        have c3 := HP4.out.cell 3
        have c4 := HP4.out.cell 4
        have c5 := HP4.out.cell 5
        simp only [List.getElem?_toArray, List.getElem?_cons_zero, List.getElem?_cons_succ] at d0 c0 c1 c3 c4 c5
        go_wp2_with fail
        exact ret_slot 6 (.bool true) (by kernel_rfl) (by kernel_rfl) (by kernel_rfl) ⟨rfl, HB4.out⟩
      · obtain rfl : m = 25 := hc
        obtain ⟨ip, mac, port, hz, hmac, hport⟩ := long_got false v u HU.out 25 16 false rfl
        have hmac : mac.size = 8 := hmac
        have hmac2 : ((mac.size : Int) == 8) = true := by rw [hmac]; rfl
        obtain rfl : port = 0 := hport rfl
        clear hport
        have hy := long_rem v 25 (by omega)
        obtain ⟨A, hA⟩ : ∃ A, A = txt (u :: List.replicate 25 v) := ⟨_, rfl⟩
        obtain ⟨R, hR⟩ : ∃ R, R = txt (64 :: List.replicate 25 v) := ⟨_, rfl⟩
        rw [← hA] at hz
        rw [← hR] at hy
        obtain ⟨I, hI⟩ : ∃ I, I = txt (List.replicate 25 v) := ⟨_, rfl⟩
        rw [← hI] at hy
        have hIs : ((I.size : Int) == 25) = true := by rw [hI, txt_size, List.length_replicate]; exact beq_self_eq_true _
        have hIn : ((I.size : Int) != 25) = false := by rw [hI, txt_size, List.length_replicate]; exact bne_self_eq_false _
        have HDZ := Lib.hid (show decV A = .tuple #[.agg #[.bool false, .int .i64 (v.toNat : Int), .string ip, .bool false, .int .i64 0, .string mac], .int .i64 0] from decV_eq _ _ _ hz)
        have HDY := Lib.hid (show decRV R = .tuple #[.agg #[.string I], .int .i64 0] from decRV_eq _ _ _ hy)
        have HAS := Lib.hid (show A.size ≤ 100 by rw [hA, one_size, List.length_replicate]; omega)
        have HRS := Lib.hid (show R.size ≤ 100 by rw [hR, one_size, List.length_replicate]; omega)
        have hcv := own_txt wr _ _ _ HOA.out (by simp)
        rw [← hA] at hcv
        have HHR := Lib.hid hR
        clear hz hy hA hR hI hmac
        go_upto_region 14 with fail
        go_wp2_with fail
        clear hcv
        refine (DecodeAdd_any A (by have := HAS.out; omega) wr).mono ?_
        rintro e W1 ⟨rfl, b⟩
        rw [HDZ.out]
        have HOB1 := Lib.hid (OwnS.below HOB.out b (Nat.le_refl _))
        have HB1 := Lib.hid (HB.out.trans (b.mono HB.out.size))
        obtain ⟨p, hp⟩ : ∃ g, g = W1.heap.size := ⟨_, rfl⟩
        obtain ⟨W2, hW2⟩ : ∃ W, W = W1.alloc (.cells #[.bool false, .int .i64 (v.toNat : Int), .string ip, .bool false, .int .i64 0, .string mac] 23) := ⟨_, rfl⟩
        have HP2 := Lib.hid (show Blk W2 p 23 #[.bool false, .int .i64 (v.toNat : Int), .string ip, .bool false, .int .i64 0, .string mac] by rw [hW2, hp]; exact Blk.new _ _ _)
        have HOB2 := Lib.hid (show OwnS w.heap.size W2 _ _ by rw [hW2]; exact World.ownsRow.alloc HOB1.out _)
        have HB2 := Lib.hid (show Below w.heap.size w W2 by rw [hW2]; exact HB1.out.alloc HB1.out.size _)
        have HW2 := Lib.hid hW2
        have HPE := Lib.hid hp
        clear b hp hW2 HB HOB HOA HOB1 HB1
        go_upto_region 15 with fail
        rw [← HW2.out, ← HPE.out]
        have hcv := own_txt W2 _ _ _ HOB2.out (by simp)
        rw [← HHR.out] at hcv
        go_wp2_with fail
        clear hcv
        refine (DecodeRemove_any R (by have := HRS.out; omega) W2).mono ?_
        rintro e W3 ⟨rfl, b⟩
        rw [HDY.out]
        have HP3 := Lib.hid (HP2.out.below b HP2.out.lt)
        have HB3 := Lib.hid (HB2.out.trans (b.mono HB2.out.size))
        obtain ⟨q, hq⟩ : ∃ g, g = W3.heap.size := ⟨_, rfl⟩
        obtain ⟨W4, hW4⟩ : ∃ W, W = W3.alloc (.cells #[.string I] 29) := ⟨_, rfl⟩
        have HP4 := Lib.hid (show Blk W4 p 23 #[.bool false, .int .i64 (v.toNat : Int), .string ip, .bool false, .int .i64 0, .string mac] by rw [hW4]; exact HP3.out.alloc _)
        have HQ4 := Lib.hid (show Blk W4 q 29 #[.string I] by rw [hW4, hq]; exact Blk.new _ _ _)
        have HB4 := Lib.hid (show Below w.heap.size w W4 by rw [hW4]; exact HB3.out.alloc HB3.out.size _)
        have HW4 := Lib.hid hW4
        have HQE := Lib.hid hq
        clear b hq hW4 HOB2 HB2 HP2 HB3 HP3
        go_upto_region 16 with fail
        rw [← HW4.out, ← HQE.out]
        have d0 := HQ4.out.cell 0
        have c0 := HP4.out.cell 0
        have c1 := HP4.out.cell 1
        have c3 := HP4.out.cell 3
        have c4 := HP4.out.cell 4
        have c5 := HP4.out.cell 5
        simp only [List.getElem?_toArray, List.getElem?_cons_zero, List.getElem?_cons_succ] at d0 c0 c1 c3 c4 c5
        go_wp2_with fail
        exact ret_slot 6 (.bool true) (by kernel_rfl) (by kernel_rfl) (by kernel_rfl) ⟨rfl, HB4.out⟩
      · obtain rfl : m = 27 := hc
        obtain ⟨ip, mac, port, hz, hmac, hport⟩ := long_got false v u HU.out 27 16 true rfl
        have hmac : mac.size = 8 := hmac
        have hmac2 : ((mac.size : Int) == 8) = true := by rw [hmac]; rfl
        have hy := long_rem v 27 (by omega)
        obtain ⟨A, hA⟩ : ∃ A, A = txt (u :: List.replicate 27 v) := ⟨_, rfl⟩
        obtain ⟨R, hR⟩ : ∃ R, R = txt (64 :: List.replicate 27 v) := ⟨_, rfl⟩
        rw [← hA] at hz
        rw [← hR] at hy
        obtain ⟨I, hI⟩ : ∃ I, I = txt (List.replicate 27 v) := ⟨_, rfl⟩
        rw [← hI] at hy
        have hIs : ((I.size : Int) == 27) = true := by rw [hI, txt_size, List.length_replicate]; exact beq_self_eq_true _
        have hIn : ((I.size : Int) != 27) = false := by rw [hI, txt_size, List.length_replicate]; exact bne_self_eq_false _
        have HDZ := Lib.hid (show decV A = .tuple #[.agg #[.bool false, .int .i64 (v.toNat : Int), .string ip, .bool true, .int .i64 port, .string mac], .int .i64 0] from decV_eq _ _ _ hz)
        have HDY := Lib.hid (show decRV R = .tuple #[.agg #[.string I], .int .i64 0] from decRV_eq _ _ _ hy)
        have HAS := Lib.hid (show A.size ≤ 100 by rw [hA, one_size, List.length_replicate]; omega)
        have HRS := Lib.hid (show R.size ≤ 100 by rw [hR, one_size, List.length_replicate]; omega)
        have hcv := own_txt wr _ _ _ HOA.out (by simp)
        rw [← hA] at hcv
        have HHR := Lib.hid hR
        clear hz hy hA hR hI hmac hport
        go_upto_region 14 with fail
        go_wp2_with fail
        clear hcv
        refine (DecodeAdd_any A (by have := HAS.out; omega) wr).mono ?_
        rintro e W1 ⟨rfl, b⟩
        rw [HDZ.out]
        have HOB1 := Lib.hid (OwnS.below HOB.out b (Nat.le_refl _))
        have HB1 := Lib.hid (HB.out.trans (b.mono HB.out.size))
        obtain ⟨p, hp⟩ : ∃ g, g = W1.heap.size := ⟨_, rfl⟩
        obtain ⟨W2, hW2⟩ : ∃ W, W = W1.alloc (.cells #[.bool false, .int .i64 (v.toNat : Int), .string ip, .bool true, .int .i64 port, .string mac] 23) := ⟨_, rfl⟩
        have HP2 := Lib.hid (show Blk W2 p 23 #[.bool false, .int .i64 (v.toNat : Int), .string ip, .bool true, .int .i64 port, .string mac] by rw [hW2, hp]; exact Blk.new _ _ _)
        have HOB2 := Lib.hid (show OwnS w.heap.size W2 _ _ by rw [hW2]; exact World.ownsRow.alloc HOB1.out _)
        have HB2 := Lib.hid (show Below w.heap.size w W2 by rw [hW2]; exact HB1.out.alloc HB1.out.size _)
        have HW2 := Lib.hid hW2
        have HPE := Lib.hid hp
        clear b hp hW2 HB HOB HOA HOB1 HB1
        go_upto_region 15 with fail
        rw [← HW2.out, ← HPE.out]
        have hcv := own_txt W2 _ _ _ HOB2.out (by simp)
        rw [← HHR.out] at hcv
        go_wp2_with fail
        clear hcv
        refine (DecodeRemove_any R (by have := HRS.out; omega) W2).mono ?_
        rintro e W3 ⟨rfl, b⟩
        rw [HDY.out]
        have HP3 := Lib.hid (HP2.out.below b HP2.out.lt)
        have HB3 := Lib.hid (HB2.out.trans (b.mono HB2.out.size))
        obtain ⟨q, hq⟩ : ∃ g, g = W3.heap.size := ⟨_, rfl⟩
        obtain ⟨W4, hW4⟩ : ∃ W, W = W3.alloc (.cells #[.string I] 29) := ⟨_, rfl⟩
        have HP4 := Lib.hid (show Blk W4 p 23 #[.bool false, .int .i64 (v.toNat : Int), .string ip, .bool true, .int .i64 port, .string mac] by rw [hW4]; exact HP3.out.alloc _)
        have HQ4 := Lib.hid (show Blk W4 q 29 #[.string I] by rw [hW4, hq]; exact Blk.new _ _ _)
        have HB4 := Lib.hid (show Below w.heap.size w W4 by rw [hW4]; exact HB3.out.alloc HB3.out.size _)
        have HW4 := Lib.hid hW4
        have HQE := Lib.hid hq
        clear b hq hW4 HOB2 HB2 HP2 HB3 HP3
        go_upto_region 16 with fail
        rw [← HW4.out, ← HQE.out]
        have d0 := HQ4.out.cell 0
        have c0 := HP4.out.cell 0
        have c1 := HP4.out.cell 1
        have c3 := HP4.out.cell 3
        have c4 := HP4.out.cell 4
        have c5 := HP4.out.cell 5
        simp only [List.getElem?_toArray, List.getElem?_cons_zero, List.getElem?_cons_succ] at d0 c0 c1 c3 c4 c5
        go_wp2_with fail
        exact ret_slot 6 (.bool true) (by kernel_rfl) (by kernel_rfl) (by kernel_rfl) ⟨rfl, HB4.out⟩
      · obtain rfl : m = 0 := hc
        have hz := long_none false v u HU.out 0 (rfl)
        have hy := long_rem_no v 0 (by omega)
        obtain ⟨A, hA⟩ : ∃ A, A = txt (u :: List.replicate 0 v) := ⟨_, rfl⟩
        obtain ⟨R, hR⟩ : ∃ R, R = txt (64 :: List.replicate 0 v) := ⟨_, rfl⟩
        rw [← hA] at hz
        rw [← hR] at hy
        have HDZ := Lib.hid (show decV A = .tuple #[.agg #[.bool false, .int .i64 0, .string ⟨#[]⟩, .bool false, .int .i64 0, .string ⟨#[]⟩], .int .i64 5] from decV_eq _ _ _ hz)
        have HDY := Lib.hid (show decRV R = .tuple #[.agg #[.string ⟨#[]⟩], .int .i64 5] from decRV_eq _ _ _ hy)
        have HAS := Lib.hid (show A.size ≤ 100 by rw [hA, one_size, List.length_replicate]; omega)
        have HRS := Lib.hid (show R.size ≤ 100 by rw [hR, one_size, List.length_replicate]; omega)
        have hcv := own_txt wr _ _ _ HOA.out (by simp)
        rw [← hA] at hcv
        have HHR := Lib.hid hR
        clear hz hy hA hR
        go_upto_region 14 with fail
        go_wp2_with fail
        clear hcv
        refine (DecodeAdd_any A (by have := HAS.out; omega) wr).mono ?_
        rintro e W1 ⟨rfl, b⟩
        rw [HDZ.out]
        have HOB1 := Lib.hid (OwnS.below HOB.out b (Nat.le_refl _))
        have HB1 := Lib.hid (HB.out.trans (b.mono HB.out.size))
        obtain ⟨p, hp⟩ : ∃ g, g = W1.heap.size := ⟨_, rfl⟩
        obtain ⟨W2, hW2⟩ : ∃ W, W = W1.alloc (.cells #[.bool false, .int .i64 0, .string ⟨#[]⟩, .bool false, .int .i64 0, .string ⟨#[]⟩] 23) := ⟨_, rfl⟩
        have HP2 := Lib.hid (show Blk W2 p 23 #[.bool false, .int .i64 0, .string ⟨#[]⟩, .bool false, .int .i64 0, .string ⟨#[]⟩] by rw [hW2, hp]; exact Blk.new _ _ _)
        have HOB2 := Lib.hid (show OwnS w.heap.size W2 _ _ by rw [hW2]; exact World.ownsRow.alloc HOB1.out _)
        have HB2 := Lib.hid (show Below w.heap.size w W2 by rw [hW2]; exact HB1.out.alloc HB1.out.size _)
        have HW2 := Lib.hid hW2
        have HPE := Lib.hid hp
        clear b hp hW2 HB HOB HOA HOB1 HB1
        go_upto_region 15 with fail
        rw [← HW2.out, ← HPE.out]
        have hcv := own_txt W2 _ _ _ HOB2.out (by simp)
        rw [← HHR.out] at hcv
        go_wp2_with fail
        clear hcv
        refine (DecodeRemove_any R (by have := HRS.out; omega) W2).mono ?_
        rintro e W3 ⟨rfl, b⟩
        rw [HDY.out]
        have HP3 := Lib.hid (HP2.out.below b HP2.out.lt)
        have HB3 := Lib.hid (HB2.out.trans (b.mono HB2.out.size))
        obtain ⟨q, hq⟩ : ∃ g, g = W3.heap.size := ⟨_, rfl⟩
        obtain ⟨W4, hW4⟩ : ∃ W, W = W3.alloc (.cells #[.string ⟨#[]⟩] 29) := ⟨_, rfl⟩
        have HP4 := Lib.hid (show Blk W4 p 23 #[.bool false, .int .i64 0, .string ⟨#[]⟩, .bool false, .int .i64 0, .string ⟨#[]⟩] by rw [hW4]; exact HP3.out.alloc _)
        have HQ4 := Lib.hid (show Blk W4 q 29 #[.string ⟨#[]⟩] by rw [hW4, hq]; exact Blk.new _ _ _)
        have HB4 := Lib.hid (show Below w.heap.size w W4 by rw [hW4]; exact HB3.out.alloc HB3.out.size _)
        have HW4 := Lib.hid hW4
        have HQE := Lib.hid hq
        clear b hq hW4 HOB2 HB2 HP2 HB3 HP3
        go_upto_region 16 with fail
        rw [← HW4.out, ← HQE.out]
        have d0 := HQ4.out.cell 0
        have c0 := HP4.out.cell 0
        have c1 := HP4.out.cell 1
        have c3 := HP4.out.cell 3
        have c4 := HP4.out.cell 4
        have c5 := HP4.out.cell 5
        simp only [List.getElem?_toArray, List.getElem?_cons_zero, List.getElem?_cons_succ] at d0 c0 c1 c3 c4 c5
        go_wp2_with fail
        exact ret_slot 6 (.bool true) (by kernel_rfl) (by kernel_rfl) (by kernel_rfl) ⟨rfl, HB4.out⟩
      · have hz := long_none false v u HU.out m (shape_no _ _ (by show m + 1 ≠ 14; omega) (by show m + 1 ≠ 16; omega) (by show m + 1 ≠ 26; omega) (by show m + 1 ≠ 28; omega))
        have k14 : ((m : Int) + 1 == 14) = false := by rw [beq_eq_false_iff_ne]; omega
        have k16 : ((m : Int) + 1 == 16) = false := by rw [beq_eq_false_iff_ne]; omega
        have k26 : ((m : Int) + 1 == 26) = false := by rw [beq_eq_false_iff_ne]; omega
        have k28 : ((m : Int) + 1 == 28) = false := by rw [beq_eq_false_iff_ne]; omega
        have g1 : (2 : Int) ≤ (m : Int) + 1 := by omega
        have g2 : (m : Int) + 1 ≤ 38 := by omega
        have hy := long_rem v m (by omega)
        obtain ⟨A, hA⟩ : ∃ A, A = txt (u :: List.replicate m v) := ⟨_, rfl⟩
        obtain ⟨R, hR⟩ : ∃ R, R = txt (64 :: List.replicate m v) := ⟨_, rfl⟩
        rw [← hA] at hz
        rw [← hR] at hy
        obtain ⟨I, hI⟩ : ∃ I, I = txt (List.replicate m v) := ⟨_, rfl⟩
        rw [← hI] at hy
        have hIs : ((I.size : Int) == (m : Int)) = true := by rw [hI, txt_size, List.length_replicate]; exact beq_self_eq_true _
        have hIn : ((I.size : Int) != (m : Int)) = false := by rw [hI, txt_size, List.length_replicate]; exact bne_self_eq_false _
        have HDZ := Lib.hid (show decV A = .tuple #[.agg #[.bool false, .int .i64 0, .string ⟨#[]⟩, .bool false, .int .i64 0, .string ⟨#[]⟩], .int .i64 5] from decV_eq _ _ _ hz)
        have HDY := Lib.hid (show decRV R = .tuple #[.agg #[.string I], .int .i64 0] from decRV_eq _ _ _ hy)
        have HAS := Lib.hid (show A.size ≤ 100 by rw [hA, one_size, List.length_replicate]; omega)
        have HRS := Lib.hid (show R.size ≤ 100 by rw [hR, one_size, List.length_replicate]; omega)
        have hcv := own_txt wr _ _ _ HOA.out (by simp)
        rw [← hA] at hcv
        have HHR := Lib.hid hR
        clear hz hy hA hR hc hI
        go_upto_region 14 with fail
        go_wp2_with fail
        clear hcv
        refine (DecodeAdd_any A (by have := HAS.out; omega) wr).mono ?_
        rintro e W1 ⟨rfl, b⟩
        rw [HDZ.out]
        have HOB1 := Lib.hid (OwnS.below HOB.out b (Nat.le_refl _))
        have HB1 := Lib.hid (HB.out.trans (b.mono HB.out.size))
        obtain ⟨p, hp⟩ : ∃ g, g = W1.heap.size := ⟨_, rfl⟩
        obtain ⟨W2, hW2⟩ : ∃ W, W = W1.alloc (.cells #[.bool false, .int .i64 0, .string ⟨#[]⟩, .bool false, .int .i64 0, .string ⟨#[]⟩] 23) := ⟨_, rfl⟩
        have HP2 := Lib.hid (show Blk W2 p 23 #[.bool false, .int .i64 0, .string ⟨#[]⟩, .bool false, .int .i64 0, .string ⟨#[]⟩] by rw [hW2, hp]; exact Blk.new _ _ _)
        have HOB2 := Lib.hid (show OwnS w.heap.size W2 _ _ by rw [hW2]; exact World.ownsRow.alloc HOB1.out _)
        have HB2 := Lib.hid (show Below w.heap.size w W2 by rw [hW2]; exact HB1.out.alloc HB1.out.size _)
        have HW2 := Lib.hid hW2
        have HPE := Lib.hid hp
        clear b hp hW2 HB HOB HOA HOB1 HB1
        go_upto_region 15 with fail
        rw [← HW2.out, ← HPE.out]
        have hcv := own_txt W2 _ _ _ HOB2.out (by simp)
        rw [← HHR.out] at hcv
        go_wp2_with fail
        clear hcv
        refine (DecodeRemove_any R (by have := HRS.out; omega) W2).mono ?_
        rintro e W3 ⟨rfl, b⟩
        rw [HDY.out]
        have HP3 := Lib.hid (HP2.out.below b HP2.out.lt)
        have HB3 := Lib.hid (HB2.out.trans (b.mono HB2.out.size))
        obtain ⟨q, hq⟩ : ∃ g, g = W3.heap.size := ⟨_, rfl⟩
        obtain ⟨W4, hW4⟩ : ∃ W, W = W3.alloc (.cells #[.string I] 29) := ⟨_, rfl⟩
        have HP4 := Lib.hid (show Blk W4 p 23 #[.bool false, .int .i64 0, .string ⟨#[]⟩, .bool false, .int .i64 0, .string ⟨#[]⟩] by rw [hW4]; exact HP3.out.alloc _)
        have HQ4 := Lib.hid (show Blk W4 q 29 #[.string I] by rw [hW4, hq]; exact Blk.new _ _ _)
        have HB4 := Lib.hid (show Below w.heap.size w W4 by rw [hW4]; exact HB3.out.alloc HB3.out.size _)
        have HW4 := Lib.hid hW4
        have HQE := Lib.hid hq
        clear b hq hW4 HOB2 HB2 HP2 HB3 HP3
        go_upto_region 16 with fail
        rw [← HW4.out, ← HQE.out]
        have d0 := HQ4.out.cell 0
        have c0 := HP4.out.cell 0
        have c1 := HP4.out.cell 1
        have c3 := HP4.out.cell 3
        have c4 := HP4.out.cell 4
        have c5 := HP4.out.cell 5
        simp only [List.getElem?_toArray, List.getElem?_cons_zero, List.getElem?_cons_succ] at d0 c0 c1 c3 c4 c5
        go_wp2_with fail
        exact ret_slot 6 (.bool true) (by kernel_rfl) (by kernel_rfl) (by kernel_rfl) ⟨rfl, HB4.out⟩
      · have hz := long_none false v u HU.out m (shape_no _ _ (by show m + 1 ≠ 14; omega) (by show m + 1 ≠ 16; omega) (by show m + 1 ≠ 26; omega) (by show m + 1 ≠ 28; omega))
        have k14 : ((m : Int) + 1 == 14) = false := by rw [beq_eq_false_iff_ne]; omega
        have k16 : ((m : Int) + 1 == 16) = false := by rw [beq_eq_false_iff_ne]; omega
        have k26 : ((m : Int) + 1 == 26) = false := by rw [beq_eq_false_iff_ne]; omega
        have k28 : ((m : Int) + 1 == 28) = false := by rw [beq_eq_false_iff_ne]; omega
        have g1 : (2 : Int) ≤ (m : Int) + 1 := by omega
        have g2 : ¬ (m : Int) + 1 ≤ 38 := by omega
        have hy := long_rem_no v m (by omega)
        obtain ⟨A, hA⟩ : ∃ A, A = txt (u :: List.replicate m v) := ⟨_, rfl⟩
        obtain ⟨R, hR⟩ : ∃ R, R = txt (64 :: List.replicate m v) := ⟨_, rfl⟩
        rw [← hA] at hz
        rw [← hR] at hy
        have HDZ := Lib.hid (show decV A = .tuple #[.agg #[.bool false, .int .i64 0, .string ⟨#[]⟩, .bool false, .int .i64 0, .string ⟨#[]⟩], .int .i64 5] from decV_eq _ _ _ hz)
        have HDY := Lib.hid (show decRV R = .tuple #[.agg #[.string ⟨#[]⟩], .int .i64 5] from decRV_eq _ _ _ hy)
        have HAS := Lib.hid (show A.size ≤ 100 by rw [hA, one_size, List.length_replicate]; omega)
        have HRS := Lib.hid (show R.size ≤ 100 by rw [hR, one_size, List.length_replicate]; omega)
        have hcv := own_txt wr _ _ _ HOA.out (by simp)
        rw [← hA] at hcv
        have HHR := Lib.hid hR
        clear hz hy hA hR hc
        go_upto_region 14 with fail
        go_wp2_with fail
        clear hcv
        refine (DecodeAdd_any A (by have := HAS.out; omega) wr).mono ?_
        rintro e W1 ⟨rfl, b⟩
        rw [HDZ.out]
        have HOB1 := Lib.hid (OwnS.below HOB.out b (Nat.le_refl _))
        have HB1 := Lib.hid (HB.out.trans (b.mono HB.out.size))
        obtain ⟨p, hp⟩ : ∃ g, g = W1.heap.size := ⟨_, rfl⟩
        obtain ⟨W2, hW2⟩ : ∃ W, W = W1.alloc (.cells #[.bool false, .int .i64 0, .string ⟨#[]⟩, .bool false, .int .i64 0, .string ⟨#[]⟩] 23) := ⟨_, rfl⟩
        have HP2 := Lib.hid (show Blk W2 p 23 #[.bool false, .int .i64 0, .string ⟨#[]⟩, .bool false, .int .i64 0, .string ⟨#[]⟩] by rw [hW2, hp]; exact Blk.new _ _ _)
        have HOB2 := Lib.hid (show OwnS w.heap.size W2 _ _ by rw [hW2]; exact World.ownsRow.alloc HOB1.out _)
        have HB2 := Lib.hid (show Below w.heap.size w W2 by rw [hW2]; exact HB1.out.alloc HB1.out.size _)
        have HW2 := Lib.hid hW2
        have HPE := Lib.hid hp
        clear b hp hW2 HB HOB HOA HOB1 HB1
        go_upto_region 15 with fail
        rw [← HW2.out, ← HPE.out]
        have hcv := own_txt W2 _ _ _ HOB2.out (by simp)
        rw [← HHR.out] at hcv
        go_wp2_with fail
        clear hcv
        refine (DecodeRemove_any R (by have := HRS.out; omega) W2).mono ?_
        rintro e W3 ⟨rfl, b⟩
        rw [HDY.out]
        have HP3 := Lib.hid (HP2.out.below b HP2.out.lt)
        have HB3 := Lib.hid (HB2.out.trans (b.mono HB2.out.size))
        obtain ⟨q, hq⟩ : ∃ g, g = W3.heap.size := ⟨_, rfl⟩
        obtain ⟨W4, hW4⟩ : ∃ W, W = W3.alloc (.cells #[.string ⟨#[]⟩] 29) := ⟨_, rfl⟩
        have HP4 := Lib.hid (show Blk W4 p 23 #[.bool false, .int .i64 0, .string ⟨#[]⟩, .bool false, .int .i64 0, .string ⟨#[]⟩] by rw [hW4]; exact HP3.out.alloc _)
        have HQ4 := Lib.hid (show Blk W4 q 29 #[.string ⟨#[]⟩] by rw [hW4, hq]; exact Blk.new _ _ _)
        have HB4 := Lib.hid (show Below w.heap.size w W4 by rw [hW4]; exact HB3.out.alloc HB3.out.size _)
        have HW4 := Lib.hid hW4
        have HQE := Lib.hid hq
        clear b hq hW4 HOB2 HB2 HP2 HB3 HP3
        go_upto_region 16 with fail
        rw [← HW4.out, ← HQE.out]
        have d0 := HQ4.out.cell 0
        have c0 := HP4.out.cell 0
        have c1 := HP4.out.cell 1
        have c3 := HP4.out.cell 3
        have c4 := HP4.out.cell 4
        have c5 := HP4.out.cell 5
        simp only [List.getElem?_toArray, List.getElem?_cons_zero, List.getElem?_cons_succ] at d0 c0 c1 c3 c4 c5
        go_wp2_with fail
        exact ret_slot 6 (.bool true) (by kernel_rfl) (by kernel_rfl) (by kernel_rfl) ⟨rfl, HB4.out⟩
set_option maxHeartbeats 8000000 in
set_option maxRecDepth 100000 in
theorem walk_true (v : UInt8) (n m : Nat) (hm : n % 64 = m) (hn : n ≤ 255) (w : World) :
    Calls Try.prog 7 #[.int .u8 (v.toNat : Int), .int .u8 (n : Int), .bool true] w fun e w' => e = .returned (.bool true) ∧ Below w.heap.size w w' := by
  have hv8 := v.toNat_lt
  have hm64 : m < 64 := by omega
  have em : (n : Int) % 64 = (m : Int) := by omega
  obtain ⟨u, hu⟩ : ∃ u : UInt8, u = 49 := ⟨_, rfl⟩
  have HU := Lib.hid (show u.toNat = fst true by rw [hu]; rfl)
  have HUV := Lib.hid hu
  clear hu hm
  go_enter Try.func7, Try.ntmps7
  go_wp2_with fail
  refine (works_t w).mono ?_
  rintro e w0 ⟨rfl, b⟩
  have HBW := Lib.hid b
  clear b
  obtain ⟨b0, hb0⟩ : ∃ b0, b0 = w0.heap.size := ⟨_, rfl⟩
  obtain ⟨V, hV⟩ : ∃ V, V = (w0.alloc (.cells #[.int .u8 49] 5)).alloc (.cells #[.int .u8 64] 5) := ⟨_, rfl⟩
  have s0 : (w0.alloc (.cells #[.int .u8 49] 5)).heap.size = w0.heap.size + 1 := by simp
  have HOA := Lib.hid (show OwnS w.heap.size V (.slice (some ⟨b0, 0, none⟩) 1 1) (u :: List.replicate 0 v) by
    have q := World.ownsRow_lit (base := w.heap.size) (e := 5) (size := 1) w0 #[.int .u8 49] 1 HBW.out.size (by unfold maxLen; omega) rfl
    rw [hV, hb0, HUV.out]; exact World.ownsRow.alloc q _)
  have HOB := Lib.hid (show OwnS w.heap.size V (.slice (some ⟨b0 + 1, 0, none⟩) 1 1) (64 :: List.replicate 0 v) by
    have q := World.ownsRow_lit (base := w.heap.size) (e := 5) (size := 1) (w0.alloc (.cells #[.int .u8 49] 5)) #[.int .u8 64] 1 (by have := HBW.out.size; omega) (by unfold maxLen; omega) rfl
    rw [s0] at q
    rw [hV, hb0]; exact q)
  have HBV := Lib.hid (show Below w.heap.size w V by rw [hV]; exact (HBW.out.alloc HBW.out.size _).alloc (by have := HBW.out.size; omega) _)
  have HV := Lib.hid hV
  have HB0 := Lib.hid hb0
  have HS0 := Lib.hid s0
  clear hb0 hV s0 HBW
  go_wp2_with fail
  rw [← HV.out, ← HB0.out, em]
  go_loopw [9, 10] (fun a b wr => ∃ (j g h ca cb : Nat), j ≤ m ∧ a = .slice (some ⟨g, 0, none⟩) (j + 1) ca ∧ b = .slice (some ⟨h, 0, none⟩) (j + 1) cb ∧ OwnS w.heap.size wr (.slice (some ⟨g, 0, none⟩) (j + 1) ca) (u :: List.replicate j v) ∧ OwnS w.heap.size wr (.slice (some ⟨h, 0, none⟩) (j + 1) cb) (64 :: List.replicate j v) ∧ g ≠ h ∧ Below w.heap.size w wr) (fun a _ _ => m + 1 - lenOf a)
  case atStart => exact ⟨0, b0, b0 + 1, 1, 1, Nat.zero_le _, rfl, rfl, HOA.out, HOB.out, by omega, HBV.out⟩
  case round =>
    obtain ⟨j, g, h, ca, cb, hj, rfl, rfl, hoa, hob, hgh, hb⟩ := hrel
    have HOA1 := Lib.hid hoa
    have HOB1 := Lib.hid hob
    have HB1 := Lib.hid hb
    have HGH := Lib.hid hgh
    clear hoa hob hb hgh HOA HOB HBV HV HB0 HS0
    by_cases hlt : j < m
    · have HLT := Lib.hid hlt
      have jm : (j : Int) + 1 < 1 + (m : Int) := by omega
      have hbuilt : ∀ W, (Instr.buildSlice 38 1 #[(0, .int .u8 (v.toNat : Int))]).run Try.prog W = .ok (.slice (some ⟨W.heap.size, 0, none⟩) 1 1) (W.alloc (.cells #[.int .u8 (v.toNat : Int)] 5)) := fun W => byte_built (v.toNat : Int) W
      go_upto_region 11 with (at_builtin; refine app_one rfl _ _ rfl w.heap.size (.slice (some ⟨g, 0, none⟩) (j + 1) ca) (u :: List.replicate j v) (j + 1) (by simp) g v rfl HOA1.out rfl HB1.out.size (by have := HLT.out; omega) rfl ?_; intro g2 ca2 W2 hoa2 hgr2 hg2 hl2)
      have hb2 := HB1.out.grown hgr2 HB1.out.size (fun i hi => by cases hi; exact (World.ownsRow.lt HOA1.out g rfl).1)
      have hob2 : OwnS w.heap.size W2 (.slice (some ⟨h, 0, none⟩) (j + 1) cb) (64 :: List.replicate j v) := World.ownsRow.kept HOB1.out hgr2 (.inr (by show some h ≠ some g; intro e; injection e with e; exact HGH.out e.symm))
      have hlh := (World.ownsRow.lt HOB1.out h rfl).2
      have hne : g2 ≠ h := by rcases hg2 with rfl | q; exact HGH.out; omega
      rw [rep_more] at hoa2
      have HOA2 := Lib.hid hoa2
      have HOB2 := Lib.hid hob2
      have HB2 := Lib.hid hb2
      have HNE := Lib.hid hne
      have HL2 := Lib.hid hl2
      clear hoa2 hob2 hb2 hgr2 hg2 hne hlh hl2 HOA1 HOB1 HB1 HGH
      go_wp2_with (at_builtin; refine app_one rfl _ _ rfl w.heap.size (.slice (some ⟨h, 0, none⟩) (j + 1) cb) (64 :: List.replicate j v) (j + 1) (by simp) h v rfl HOB2.out rfl HB2.out.size (by have := HLT.out; omega) rfl ?_; intro h2 cb2 W3 hob3 hgr3 hh3 hl3; have HX3 := Lib.hid (⟨hob3, hgr3, hh3⟩ : OwnS w.heap.size W3 (.slice (some ⟨h2, 0, none⟩) (j + 1 + 1) cb2) ((64 :: List.replicate j v) ++ [v]) ∧ W2.grownBy W3 (some h) ∧ (h2 = h ∨ W2.heap.size < h2)); clear hob3 hgr3 hh3 hl3)
      obtain ⟨hob3, hgr3, hh3⟩ := HX3.out
      rw [rep_more] at hob3
      have hoa3 : OwnS w.heap.size W3 (.slice (some ⟨g2, 0, none⟩) (j + 1 + 1) ca2) (u :: List.replicate (j + 1) v) := World.ownsRow.kept HOA2.out hgr3 (.inr (by show some g2 ≠ some h; intro e; injection e with e; exact HNE.out e))
      have hne2 : g2 ≠ h2 := by
        rcases hh3 with rfl | q
        · exact HNE.out
        · have := HL2.out; omega
      have hb3 := HB2.out.grown hgr3 HB2.out.size (fun i hi => by cases hi; exact (World.ownsRow.lt HOB2.out h rfl).1)
      go_roundw
      case rel => exact ⟨j + 1, g2, h2, ca2, cb2, hlt, rfl, rfl, hoa3, hob3, hne2, hb3⟩
      case measure => show m + 1 - (j + 1 + 1) < m + 1 - (j + 1); omega
    · have hjm : j = m := by omega
      subst j
      have HOA := Lib.hid (show OwnS w.heap.size wr (.slice (some ⟨g, 0, none⟩) (m + 1) ca) (u :: List.replicate m v) from HOA1.out)
      have HOB := Lib.hid (show OwnS w.heap.size wr (.slice (some ⟨h, 0, none⟩) (m + 1) cb) (64 :: List.replicate m v) from HOB1.out)
      have HB := HB1
      clear hlt hj HOA1 HOB1 HB1 HGH HUV
      have jm : ¬ (m : Int) + 1 < 1 + (m : Int) := by omega
      rcases (by omega : m = 5 ∨ m = 7 ∨ m = 17 ∨ m = 19 ∨ m = 0 ∨ ((1 ≤ m ∧ m ≤ 37) ∧ m ≠ 5 ∧ m ≠ 7 ∧ m ≠ 17 ∧ m ≠ 19) ∨ 38 ≤ m) with hc | hc | hc | hc | hc | hc | hc
      · obtain rfl : m = 5 := hc
        obtain ⟨ip, mac, port, hz, hmac, hport⟩ := long_got true v u HU.out 5 4 false rfl
        have hmac : mac.size = 0 := hmac
        have hmac2 : ((mac.size : Int) == 8) = false := by rw [hmac]; rfl
        obtain rfl : port = 0 := hport rfl
        clear hport
        have hy := long_rem v 5 (by omega)
        obtain ⟨A, hA⟩ : ∃ A, A = txt (u :: List.replicate 5 v) := ⟨_, rfl⟩
        obtain ⟨R, hR⟩ : ∃ R, R = txt (64 :: List.replicate 5 v) := ⟨_, rfl⟩
        rw [← hA] at hz
        rw [← hR] at hy
        obtain ⟨I, hI⟩ : ∃ I, I = txt (List.replicate 5 v) := ⟨_, rfl⟩
        rw [← hI] at hy
        have hIs : ((I.size : Int) == 5) = true := by rw [hI, txt_size, List.length_replicate]; exact beq_self_eq_true _
        have hIn : ((I.size : Int) != 5) = false := by rw [hI, txt_size, List.length_replicate]; exact bne_self_eq_false _
        have HDZ := Lib.hid (show decV A = .tuple #[.agg #[.bool true, .int .i64 (v.toNat : Int), .string ip, .bool false, .int .i64 0, .string mac], .int .i64 0] from decV_eq _ _ _ hz)
        have HDY := Lib.hid (show decRV R = .tuple #[.agg #[.string I], .int .i64 0] from decRV_eq _ _ _ hy)
        have HAS := Lib.hid (show A.size ≤ 100 by rw [hA, one_size, List.length_replicate]; omega)
        have HRS := Lib.hid (show R.size ≤ 100 by rw [hR, one_size, List.length_replicate]; omega)
        have hcv := own_txt wr _ _ _ HOA.out (by simp)
        rw [← hA] at hcv
        have HHR := Lib.hid hR
        clear hz hy hA hR hI hmac
        go_upto_region 14 with fail
        go_wp2_with fail
        clear hcv
        refine (DecodeAdd_any A (by have := HAS.out; omega) wr).mono ?_
        rintro e W1 ⟨rfl, b⟩
        rw [HDZ.out]
        have HOB1 := Lib.hid (OwnS.below HOB.out b (Nat.le_refl _))
        have HB1 := Lib.hid (HB.out.trans (b.mono HB.out.size))
        obtain ⟨p, hp⟩ : ∃ g, g = W1.heap.size := ⟨_, rfl⟩
        obtain ⟨W2, hW2⟩ : ∃ W, W = W1.alloc (.cells #[.bool true, .int .i64 (v.toNat : Int), .string ip, .bool false, .int .i64 0, .string mac] 23) := ⟨_, rfl⟩
        have HP2 := Lib.hid (show Blk W2 p 23 #[.bool true, .int .i64 (v.toNat : Int), .string ip, .bool false, .int .i64 0, .string mac] by rw [hW2, hp]; exact Blk.new _ _ _)
        have HOB2 := Lib.hid (show OwnS w.heap.size W2 _ _ by rw [hW2]; exact World.ownsRow.alloc HOB1.out _)
        have HB2 := Lib.hid (show Below w.heap.size w W2 by rw [hW2]; exact HB1.out.alloc HB1.out.size _)
        have HW2 := Lib.hid hW2
        have HPE := Lib.hid hp
        clear b hp hW2 HB HOB HOA HOB1 HB1
        go_upto_region 15 with fail
        rw [← HW2.out, ← HPE.out]
        have hcv := own_txt W2 _ _ _ HOB2.out (by simp)
        rw [← HHR.out] at hcv
        go_wp2_with fail
        clear hcv
        refine (DecodeRemove_any R (by have := HRS.out; omega) W2).mono ?_
        rintro e W3 ⟨rfl, b⟩
        rw [HDY.out]
        have HP3 := Lib.hid (HP2.out.below b HP2.out.lt)
        have HB3 := Lib.hid (HB2.out.trans (b.mono HB2.out.size))
        obtain ⟨q, hq⟩ : ∃ g, g = W3.heap.size := ⟨_, rfl⟩
        obtain ⟨W4, hW4⟩ : ∃ W, W = W3.alloc (.cells #[.string I] 29) := ⟨_, rfl⟩
        have HP4 := Lib.hid (show Blk W4 p 23 #[.bool true, .int .i64 (v.toNat : Int), .string ip, .bool false, .int .i64 0, .string mac] by rw [hW4]; exact HP3.out.alloc _)
        have HQ4 := Lib.hid (show Blk W4 q 29 #[.string I] by rw [hW4, hq]; exact Blk.new _ _ _)
        have HB4 := Lib.hid (show Below w.heap.size w W4 by rw [hW4]; exact HB3.out.alloc HB3.out.size _)
        have HW4 := Lib.hid hW4
        have HQE := Lib.hid hq
        clear b hq hW4 HOB2 HB2 HP2 HB3 HP3
        go_upto_region 16 with fail
        rw [← HW4.out, ← HQE.out]
        have d0 := HQ4.out.cell 0
        have c0 := HP4.out.cell 0
        have c1 := HP4.out.cell 1
        have c3 := HP4.out.cell 3
        have c4 := HP4.out.cell 4
        have c5 := HP4.out.cell 5
        simp only [List.getElem?_toArray, List.getElem?_cons_zero, List.getElem?_cons_succ] at d0 c0 c1 c3 c4 c5
        go_wp2_with fail
        exact ret_slot 6 (.bool true) (by kernel_rfl) (by kernel_rfl) (by kernel_rfl) ⟨rfl, HB4.out⟩
      · obtain rfl : m = 7 := hc
        obtain ⟨ip, mac, port, hz, hmac, hport⟩ := long_got true v u HU.out 7 4 true rfl
        have hmac : mac.size = 0 := hmac
        have hmac2 : ((mac.size : Int) == 8) = false := by rw [hmac]; rfl
        have hy := long_rem v 7 (by omega)
        obtain ⟨A, hA⟩ : ∃ A, A = txt (u :: List.replicate 7 v) := ⟨_, rfl⟩
        obtain ⟨R, hR⟩ : ∃ R, R = txt (64 :: List.replicate 7 v) := ⟨_, rfl⟩
        rw [← hA] at hz
        rw [← hR] at hy
        obtain ⟨I, hI⟩ : ∃ I, I = txt (List.replicate 7 v) := ⟨_, rfl⟩
        rw [← hI] at hy
        have hIs : ((I.size : Int) == 7) = true := by rw [hI, txt_size, List.length_replicate]; exact beq_self_eq_true _
        have hIn : ((I.size : Int) != 7) = false := by rw [hI, txt_size, List.length_replicate]; exact bne_self_eq_false _
        have HDZ := Lib.hid (show decV A = .tuple #[.agg #[.bool true, .int .i64 (v.toNat : Int), .string ip, .bool true, .int .i64 port, .string mac], .int .i64 0] from decV_eq _ _ _ hz)
        have HDY := Lib.hid (show decRV R = .tuple #[.agg #[.string I], .int .i64 0] from decRV_eq _ _ _ hy)
        have HAS := Lib.hid (show A.size ≤ 100 by rw [hA, one_size, List.length_replicate]; omega)
        have HRS := Lib.hid (show R.size ≤ 100 by rw [hR, one_size, List.length_replicate]; omega)
        have hcv := own_txt wr _ _ _ HOA.out (by simp)
        rw [← hA] at hcv
        have HHR := Lib.hid hR
        clear hz hy hA hR hI hmac hport
        go_upto_region 14 with fail
        go_wp2_with fail
        clear hcv
        refine (DecodeAdd_any A (by have := HAS.out; omega) wr).mono ?_
        rintro e W1 ⟨rfl, b⟩
        rw [HDZ.out]
        have HOB1 := Lib.hid (OwnS.below HOB.out b (Nat.le_refl _))
        have HB1 := Lib.hid (HB.out.trans (b.mono HB.out.size))
        obtain ⟨p, hp⟩ : ∃ g, g = W1.heap.size := ⟨_, rfl⟩
        obtain ⟨W2, hW2⟩ : ∃ W, W = W1.alloc (.cells #[.bool true, .int .i64 (v.toNat : Int), .string ip, .bool true, .int .i64 port, .string mac] 23) := ⟨_, rfl⟩
        have HP2 := Lib.hid (show Blk W2 p 23 #[.bool true, .int .i64 (v.toNat : Int), .string ip, .bool true, .int .i64 port, .string mac] by rw [hW2, hp]; exact Blk.new _ _ _)
        have HOB2 := Lib.hid (show OwnS w.heap.size W2 _ _ by rw [hW2]; exact World.ownsRow.alloc HOB1.out _)
        have HB2 := Lib.hid (show Below w.heap.size w W2 by rw [hW2]; exact HB1.out.alloc HB1.out.size _)
        have HW2 := Lib.hid hW2
        have HPE := Lib.hid hp
        clear b hp hW2 HB HOB HOA HOB1 HB1
        go_upto_region 15 with fail
        rw [← HW2.out, ← HPE.out]
        have hcv := own_txt W2 _ _ _ HOB2.out (by simp)
        rw [← HHR.out] at hcv
        go_wp2_with fail
        clear hcv
        refine (DecodeRemove_any R (by have := HRS.out; omega) W2).mono ?_
        rintro e W3 ⟨rfl, b⟩
        rw [HDY.out]
        have HP3 := Lib.hid (HP2.out.below b HP2.out.lt)
        have HB3 := Lib.hid (HB2.out.trans (b.mono HB2.out.size))
        obtain ⟨q, hq⟩ : ∃ g, g = W3.heap.size := ⟨_, rfl⟩
        obtain ⟨W4, hW4⟩ : ∃ W, W = W3.alloc (.cells #[.string I] 29) := ⟨_, rfl⟩
        have HP4 := Lib.hid (show Blk W4 p 23 #[.bool true, .int .i64 (v.toNat : Int), .string ip, .bool true, .int .i64 port, .string mac] by rw [hW4]; exact HP3.out.alloc _)
        have HQ4 := Lib.hid (show Blk W4 q 29 #[.string I] by rw [hW4, hq]; exact Blk.new _ _ _)
        have HB4 := Lib.hid (show Below w.heap.size w W4 by rw [hW4]; exact HB3.out.alloc HB3.out.size _)
        have HW4 := Lib.hid hW4
        have HQE := Lib.hid hq
        clear b hq hW4 HOB2 HB2 HP2 HB3 HP3
        go_upto_region 16 with fail
        rw [← HW4.out, ← HQE.out]
        have d0 := HQ4.out.cell 0
        have c0 := HP4.out.cell 0
        have c1 := HP4.out.cell 1
        have c3 := HP4.out.cell 3
        have c4 := HP4.out.cell 4
        have c5 := HP4.out.cell 5
        simp only [List.getElem?_toArray, List.getElem?_cons_zero, List.getElem?_cons_succ] at d0 c0 c1 c3 c4 c5
        go_wp2_with fail
        exact ret_slot 6 (.bool true) (by kernel_rfl) (by kernel_rfl) (by kernel_rfl) ⟨rfl, HB4.out⟩
      · obtain rfl : m = 17 := hc
        obtain ⟨ip, mac, port, hz, hmac, hport⟩ := long_got true v u HU.out 17 16 false rfl
        have hmac : mac.size = 0 := hmac
        have hmac2 : ((mac.size : Int) == 8) = false := by rw [hmac]; rfl
        obtain rfl : port = 0 := hport rfl
        clear hport
        have hy := long_rem v 17 (by omega)
        obtain ⟨A, hA⟩ : ∃ A, A = txt (u :: List.replicate 17 v) := ⟨_, rfl⟩
        obtain ⟨R, hR⟩ : ∃ R, R = txt (64 :: List.replicate 17 v) := ⟨_, rfl⟩
        rw [← hA] at hz
        rw [← hR] at hy
        obtain ⟨I, hI⟩ : ∃ I, I = txt (List.replicate 17 v) := ⟨_, rfl⟩
        rw [← hI] at hy
        have hIs : ((I.size : Int) == 17) = true := by rw [hI, txt_size, List.length_replicate]; exact beq_self_eq_true _
        have hIn : ((I.size : Int) != 17) = false := by rw [hI, txt_size, List.length_replicate]; exact bne_self_eq_false _
        have HDZ := Lib.hid (show decV A = .tuple #[.agg #[.bool true, .int .i64 (v.toNat : Int), .string ip, .bool false, .int .i64 0, .string mac], .int .i64 0] from decV_eq _ _ _ hz)
        have HDY := Lib.hid (show decRV R = .tuple #[.agg #[.string I], .int .i64 0] from decRV_eq _ _ _ hy)
        have HAS := Lib.hid (show A.size ≤ 100 by rw [hA, one_size, List.length_replicate]; omega)
        have HRS := Lib.hid (show R.size ≤ 100 by rw [hR, one_size, List.length_replicate]; omega)
        have hcv := own_txt wr _ _ _ HOA.out (by simp)
        rw [← hA] at hcv
        have HHR := Lib.hid hR
        clear hz hy hA hR hI hmac
        go_upto_region 14 with fail
        go_wp2_with fail
        clear hcv
        refine (DecodeAdd_any A (by have := HAS.out; omega) wr).mono ?_
        rintro e W1 ⟨rfl, b⟩
        rw [HDZ.out]
        have HOB1 := Lib.hid (OwnS.below HOB.out b (Nat.le_refl _))
        have HB1 := Lib.hid (HB.out.trans (b.mono HB.out.size))
        obtain ⟨p, hp⟩ : ∃ g, g = W1.heap.size := ⟨_, rfl⟩
        obtain ⟨W2, hW2⟩ : ∃ W, W = W1.alloc (.cells #[.bool true, .int .i64 (v.toNat : Int), .string ip, .bool false, .int .i64 0, .string mac] 23) := ⟨_, rfl⟩
        have HP2 := Lib.hid (show Blk W2 p 23 #[.bool true, .int .i64 (v.toNat : Int), .string ip, .bool false, .int .i64 0, .string mac] by rw [hW2, hp]; exact Blk.new _ _ _)
        have HOB2 := Lib.hid (show OwnS w.heap.size W2 _ _ by rw [hW2]; exact World.ownsRow.alloc HOB1.out _)
        have HB2 := Lib.hid (show Below w.heap.size w W2 by rw [hW2]; exact HB1.out.alloc HB1.out.size _)
        have HW2 := Lib.hid hW2
        have HPE := Lib.hid hp
        clear b hp hW2 HB HOB HOA HOB1 HB1
        go_upto_region 15 with fail
        rw [← HW2.out, ← HPE.out]
        have hcv := own_txt W2 _ _ _ HOB2.out (by simp)
        rw [← HHR.out] at hcv
        go_wp2_with fail
        clear hcv
        refine (DecodeRemove_any R (by have := HRS.out; omega) W2).mono ?_
        rintro e W3 ⟨rfl, b⟩
        rw [HDY.out]
        have HP3 := Lib.hid (HP2.out.below b HP2.out.lt)
        have HB3 := Lib.hid (HB2.out.trans (b.mono HB2.out.size))
        obtain ⟨q, hq⟩ : ∃ g, g = W3.heap.size := ⟨_, rfl⟩
        obtain ⟨W4, hW4⟩ : ∃ W, W = W3.alloc (.cells #[.string I] 29) := ⟨_, rfl⟩
        have HP4 := Lib.hid (show Blk W4 p 23 #[.bool true, .int .i64 (v.toNat : Int), .string ip, .bool false, .int .i64 0, .string mac] by rw [hW4]; exact HP3.out.alloc _)
        have HQ4 := Lib.hid (show Blk W4 q 29 #[.string I] by rw [hW4, hq]; exact Blk.new _ _ _)
        have HB4 := Lib.hid (show Below w.heap.size w W4 by rw [hW4]; exact HB3.out.alloc HB3.out.size _)
        have HW4 := Lib.hid hW4
        have HQE := Lib.hid hq
        clear b hq hW4 HOB2 HB2 HP2 HB3 HP3
        go_upto_region 16 with fail
        rw [← HW4.out, ← HQE.out]
        have d0 := HQ4.out.cell 0
        have c0 := HP4.out.cell 0
        have c1 := HP4.out.cell 1
        have c3 := HP4.out.cell 3
        have c4 := HP4.out.cell 4
        have c5 := HP4.out.cell 5
        simp only [List.getElem?_toArray, List.getElem?_cons_zero, List.getElem?_cons_succ] at d0 c0 c1 c3 c4 c5
        go_wp2_with fail
        exact ret_slot 6 (.bool true) (by kernel_rfl) (by kernel_rfl) (by kernel_rfl) ⟨rfl, HB4.out⟩
      · obtain rfl : m = 19 := hc
        obtain ⟨ip, mac, port, hz, hmac, hport⟩ := long_got true v u HU.out 19 16 true rfl
        have hmac : mac.size = 0 := hmac
        have hmac2 : ((mac.size : Int) == 8) = false := by rw [hmac]; rfl
        have hy := long_rem v 19 (by omega)
        obtain ⟨A, hA⟩ : ∃ A, A = txt (u :: List.replicate 19 v) := ⟨_, rfl⟩
        obtain ⟨R, hR⟩ : ∃ R, R = txt (64 :: List.replicate 19 v) := ⟨_, rfl⟩
        rw [← hA] at hz
        rw [← hR] at hy
        obtain ⟨I, hI⟩ : ∃ I, I = txt (List.replicate 19 v) := ⟨_, rfl⟩
        rw [← hI] at hy
        have hIs : ((I.size : Int) == 19) = true := by rw [hI, txt_size, List.length_replicate]; exact beq_self_eq_true _
        have hIn : ((I.size : Int) != 19) = false := by rw [hI, txt_size, List.length_replicate]; exact bne_self_eq_false _
        have HDZ := Lib.hid (show decV A = .tuple #[.agg #[.bool true, .int .i64 (v.toNat : Int), .string ip, .bool true, .int .i64 port, .string mac], .int .i64 0] from decV_eq _ _ _ hz)
        have HDY := Lib.hid (show decRV R = .tuple #[.agg #[.string I], .int .i64 0] from decRV_eq _ _ _ hy)
        have HAS := Lib.hid (show A.size ≤ 100 by rw [hA, one_size, List.length_replicate]; omega)
        have HRS := Lib.hid (show R.size ≤ 100 by rw [hR, one_size, List.length_replicate]; omega)
        have hcv := own_txt wr _ _ _ HOA.out (by simp)
        rw [← hA] at hcv
        have HHR := Lib.hid hR
        clear hz hy hA hR hI hmac hport
        go_upto_region 14 with fail
        go_wp2_with fail
        clear hcv
        refine (DecodeAdd_any A (by have := HAS.out; omega) wr).mono ?_
        rintro e W1 ⟨rfl, b⟩
        rw [HDZ.out]
        have HOB1 := Lib.hid (OwnS.below HOB.out b (Nat.le_refl _))
        have HB1 := Lib.hid (HB.out.trans (b.mono HB.out.size))
        obtain ⟨p, hp⟩ : ∃ g, g = W1.heap.size := ⟨_, rfl⟩
        obtain ⟨W2, hW2⟩ : ∃ W, W = W1.alloc (.cells #[.bool true, .int .i64 (v.toNat : Int), .string ip, .bool true, .int .i64 port, .string mac] 23) := ⟨_, rfl⟩
        have HP2 := Lib.hid (show Blk W2 p 23 #[.bool true, .int .i64 (v.toNat : Int), .string ip, .bool true, .int .i64 port, .string mac] by rw [hW2, hp]; exact Blk.new _ _ _)
        have HOB2 := Lib.hid (show OwnS w.heap.size W2 _ _ by rw [hW2]; exact World.ownsRow.alloc HOB1.out _)
        have HB2 := Lib.hid (show Below w.heap.size w W2 by rw [hW2]; exact HB1.out.alloc HB1.out.size _)
        have HW2 := Lib.hid hW2
        have HPE := Lib.hid hp
        clear b hp hW2 HB HOB HOA HOB1 HB1
        go_upto_region 15 with fail
        rw [← HW2.out, ← HPE.out]
        have hcv := own_txt W2 _ _ _ HOB2.out (by simp)
        rw [← HHR.out] at hcv
        go_wp2_with fail
        clear hcv
        refine (DecodeRemove_any R (by have := HRS.out; omega) W2).mono ?_
        rintro e W3 ⟨rfl, b⟩
        rw [HDY.out]
        have HP3 := Lib.hid (HP2.out.below b HP2.out.lt)
        have HB3 := Lib.hid (HB2.out.trans (b.mono HB2.out.size))
        obtain ⟨q, hq⟩ : ∃ g, g = W3.heap.size := ⟨_, rfl⟩
        obtain ⟨W4, hW4⟩ : ∃ W, W = W3.alloc (.cells #[.string I] 29) := ⟨_, rfl⟩
        have HP4 := Lib.hid (show Blk W4 p 23 #[.bool true, .int .i64 (v.toNat : Int), .string ip, .bool true, .int .i64 port, .string mac] by rw [hW4]; exact HP3.out.alloc _)
        have HQ4 := Lib.hid (show Blk W4 q 29 #[.string I] by rw [hW4, hq]; exact Blk.new _ _ _)
        have HB4 := Lib.hid (show Below w.heap.size w W4 by rw [hW4]; exact HB3.out.alloc HB3.out.size _)
        have HW4 := Lib.hid hW4
        have HQE := Lib.hid hq
        clear b hq hW4 HOB2 HB2 HP2 HB3 HP3
        go_upto_region 16 with fail
        rw [← HW4.out, ← HQE.out]
        have d0 := HQ4.out.cell 0
        have c0 := HP4.out.cell 0
        have c1 := HP4.out.cell 1
        have c3 := HP4.out.cell 3
        have c4 := HP4.out.cell 4
        have c5 := HP4.out.cell 5
        simp only [List.getElem?_toArray, List.getElem?_cons_zero, List.getElem?_cons_succ] at d0 c0 c1 c3 c4 c5
        go_wp2_with fail
        exact ret_slot 6 (.bool true) (by kernel_rfl) (by kernel_rfl) (by kernel_rfl) ⟨rfl, HB4.out⟩
      · obtain rfl : m = 0 := hc
        have hz := long_none true v u HU.out 0 (rfl)
        have hy := long_rem_no v 0 (by omega)
        obtain ⟨A, hA⟩ : ∃ A, A = txt (u :: List.replicate 0 v) := ⟨_, rfl⟩
        obtain ⟨R, hR⟩ : ∃ R, R = txt (64 :: List.replicate 0 v) := ⟨_, rfl⟩
        rw [← hA] at hz
        rw [← hR] at hy
        have HDZ := Lib.hid (show decV A = .tuple #[.agg #[.bool false, .int .i64 0, .string ⟨#[]⟩, .bool false, .int .i64 0, .string ⟨#[]⟩], .int .i64 5] from decV_eq _ _ _ hz)
        have HDY := Lib.hid (show decRV R = .tuple #[.agg #[.string ⟨#[]⟩], .int .i64 5] from decRV_eq _ _ _ hy)
        have HAS := Lib.hid (show A.size ≤ 100 by rw [hA, one_size, List.length_replicate]; omega)
        have HRS := Lib.hid (show R.size ≤ 100 by rw [hR, one_size, List.length_replicate]; omega)
        have hcv := own_txt wr _ _ _ HOA.out (by simp)
        rw [← hA] at hcv
        have HHR := Lib.hid hR
        clear hz hy hA hR
        go_upto_region 14 with fail
        go_wp2_with fail
        clear hcv
        refine (DecodeAdd_any A (by have := HAS.out; omega) wr).mono ?_
        rintro e W1 ⟨rfl, b⟩
        rw [HDZ.out]
        have HOB1 := Lib.hid (OwnS.below HOB.out b (Nat.le_refl _))
        have HB1 := Lib.hid (HB.out.trans (b.mono HB.out.size))
        obtain ⟨p, hp⟩ : ∃ g, g = W1.heap.size := ⟨_, rfl⟩
        obtain ⟨W2, hW2⟩ : ∃ W, W = W1.alloc (.cells #[.bool false, .int .i64 0, .string ⟨#[]⟩, .bool false, .int .i64 0, .string ⟨#[]⟩] 23) := ⟨_, rfl⟩
        have HP2 := Lib.hid (show Blk W2 p 23 #[.bool false, .int .i64 0, .string ⟨#[]⟩, .bool false, .int .i64 0, .string ⟨#[]⟩] by rw [hW2, hp]; exact Blk.new _ _ _)
        have HOB2 := Lib.hid (show OwnS w.heap.size W2 _ _ by rw [hW2]; exact World.ownsRow.alloc HOB1.out _)
        have HB2 := Lib.hid (show Below w.heap.size w W2 by rw [hW2]; exact HB1.out.alloc HB1.out.size _)
        have HW2 := Lib.hid hW2
        have HPE := Lib.hid hp
        clear b hp hW2 HB HOB HOA HOB1 HB1
        go_upto_region 15 with fail
        rw [← HW2.out, ← HPE.out]
        have hcv := own_txt W2 _ _ _ HOB2.out (by simp)
        rw [← HHR.out] at hcv
        go_wp2_with fail
        clear hcv
        refine (DecodeRemove_any R (by have := HRS.out; omega) W2).mono ?_
        rintro e W3 ⟨rfl, b⟩
        rw [HDY.out]
        have HP3 := Lib.hid (HP2.out.below b HP2.out.lt)
        have HB3 := Lib.hid (HB2.out.trans (b.mono HB2.out.size))
        obtain ⟨q, hq⟩ : ∃ g, g = W3.heap.size := ⟨_, rfl⟩
        obtain ⟨W4, hW4⟩ : ∃ W, W = W3.alloc (.cells #[.string ⟨#[]⟩] 29) := ⟨_, rfl⟩
        have HP4 := Lib.hid (show Blk W4 p 23 #[.bool false, .int .i64 0, .string ⟨#[]⟩, .bool false, .int .i64 0, .string ⟨#[]⟩] by rw [hW4]; exact HP3.out.alloc _)
        have HQ4 := Lib.hid (show Blk W4 q 29 #[.string ⟨#[]⟩] by rw [hW4, hq]; exact Blk.new _ _ _)
        have HB4 := Lib.hid (show Below w.heap.size w W4 by rw [hW4]; exact HB3.out.alloc HB3.out.size _)
        have HW4 := Lib.hid hW4
        have HQE := Lib.hid hq
        clear b hq hW4 HOB2 HB2 HP2 HB3 HP3
        go_upto_region 16 with fail
        rw [← HW4.out, ← HQE.out]
        have d0 := HQ4.out.cell 0
        have c0 := HP4.out.cell 0
        have c1 := HP4.out.cell 1
        have c3 := HP4.out.cell 3
        have c4 := HP4.out.cell 4
        have c5 := HP4.out.cell 5
        simp only [List.getElem?_toArray, List.getElem?_cons_zero, List.getElem?_cons_succ] at d0 c0 c1 c3 c4 c5
        go_wp2_with fail
        exact ret_slot 6 (.bool true) (by kernel_rfl) (by kernel_rfl) (by kernel_rfl) ⟨rfl, HB4.out⟩
      · have hz := long_none true v u HU.out m (shape_no _ _ (by show m + 1 ≠ 6; omega) (by show m + 1 ≠ 8; omega) (by show m + 1 ≠ 18; omega) (by show m + 1 ≠ 20; omega))
        have k6 : ((m : Int) + 1 == 6) = false := by rw [beq_eq_false_iff_ne]; omega
        have k8 : ((m : Int) + 1 == 8) = false := by rw [beq_eq_false_iff_ne]; omega
        have k18 : ((m : Int) + 1 == 18) = false := by rw [beq_eq_false_iff_ne]; omega
        have k20 : ((m : Int) + 1 == 20) = false := by rw [beq_eq_false_iff_ne]; omega
        have g1 : (2 : Int) ≤ (m : Int) + 1 := by omega
        have g2 : (m : Int) + 1 ≤ 38 := by omega
        have hy := long_rem v m (by omega)
        obtain ⟨A, hA⟩ : ∃ A, A = txt (u :: List.replicate m v) := ⟨_, rfl⟩
        obtain ⟨R, hR⟩ : ∃ R, R = txt (64 :: List.replicate m v) := ⟨_, rfl⟩
        rw [← hA] at hz
        rw [← hR] at hy
        obtain ⟨I, hI⟩ : ∃ I, I = txt (List.replicate m v) := ⟨_, rfl⟩
        rw [← hI] at hy
        have hIs : ((I.size : Int) == (m : Int)) = true := by rw [hI, txt_size, List.length_replicate]; exact beq_self_eq_true _
        have hIn : ((I.size : Int) != (m : Int)) = false := by rw [hI, txt_size, List.length_replicate]; exact bne_self_eq_false _
        have HDZ := Lib.hid (show decV A = .tuple #[.agg #[.bool false, .int .i64 0, .string ⟨#[]⟩, .bool false, .int .i64 0, .string ⟨#[]⟩], .int .i64 5] from decV_eq _ _ _ hz)
        have HDY := Lib.hid (show decRV R = .tuple #[.agg #[.string I], .int .i64 0] from decRV_eq _ _ _ hy)
        have HAS := Lib.hid (show A.size ≤ 100 by rw [hA, one_size, List.length_replicate]; omega)
        have HRS := Lib.hid (show R.size ≤ 100 by rw [hR, one_size, List.length_replicate]; omega)
        have hcv := own_txt wr _ _ _ HOA.out (by simp)
        rw [← hA] at hcv
        have HHR := Lib.hid hR
        clear hz hy hA hR hc hI
        go_upto_region 14 with fail
        go_wp2_with fail
        clear hcv
        refine (DecodeAdd_any A (by have := HAS.out; omega) wr).mono ?_
        rintro e W1 ⟨rfl, b⟩
        rw [HDZ.out]
        have HOB1 := Lib.hid (OwnS.below HOB.out b (Nat.le_refl _))
        have HB1 := Lib.hid (HB.out.trans (b.mono HB.out.size))
        obtain ⟨p, hp⟩ : ∃ g, g = W1.heap.size := ⟨_, rfl⟩
        obtain ⟨W2, hW2⟩ : ∃ W, W = W1.alloc (.cells #[.bool false, .int .i64 0, .string ⟨#[]⟩, .bool false, .int .i64 0, .string ⟨#[]⟩] 23) := ⟨_, rfl⟩
        have HP2 := Lib.hid (show Blk W2 p 23 #[.bool false, .int .i64 0, .string ⟨#[]⟩, .bool false, .int .i64 0, .string ⟨#[]⟩] by rw [hW2, hp]; exact Blk.new _ _ _)
        have HOB2 := Lib.hid (show OwnS w.heap.size W2 _ _ by rw [hW2]; exact World.ownsRow.alloc HOB1.out _)
        have HB2 := Lib.hid (show Below w.heap.size w W2 by rw [hW2]; exact HB1.out.alloc HB1.out.size _)
        have HW2 := Lib.hid hW2
        have HPE := Lib.hid hp
        clear b hp hW2 HB HOB HOA HOB1 HB1
        go_upto_region 15 with fail
        rw [← HW2.out, ← HPE.out]
        have hcv := own_txt W2 _ _ _ HOB2.out (by simp)
        rw [← HHR.out] at hcv
        go_wp2_with fail
        clear hcv
        refine (DecodeRemove_any R (by have := HRS.out; omega) W2).mono ?_
        rintro e W3 ⟨rfl, b⟩
        rw [HDY.out]
        have HP3 := Lib.hid (HP2.out.below b HP2.out.lt)
        have HB3 := Lib.hid (HB2.out.trans (b.mono HB2.out.size))
        obtain ⟨q, hq⟩ : ∃ g, g = W3.heap.size := ⟨_, rfl⟩
        obtain ⟨W4, hW4⟩ : ∃ W, W = W3.alloc (.cells #[.string I] 29) := ⟨_, rfl⟩
        have HP4 := Lib.hid (show Blk W4 p 23 #[.bool false, .int .i64 0, .string ⟨#[]⟩, .bool false, .int .i64 0, .string ⟨#[]⟩] by rw [hW4]; exact HP3.out.alloc _)
        have HQ4 := Lib.hid (show Blk W4 q 29 #[.string I] by rw [hW4, hq]; exact Blk.new _ _ _)
        have HB4 := Lib.hid (show Below w.heap.size w W4 by rw [hW4]; exact HB3.out.alloc HB3.out.size _)
        have HW4 := Lib.hid hW4
        have HQE := Lib.hid hq
        clear b hq hW4 HOB2 HB2 HP2 HB3 HP3
        go_upto_region 16 with fail
        rw [← HW4.out, ← HQE.out]
        have d0 := HQ4.out.cell 0
        have c0 := HP4.out.cell 0
        have c1 := HP4.out.cell 1
        have c3 := HP4.out.cell 3
        have c4 := HP4.out.cell 4
        have c5 := HP4.out.cell 5
        simp only [List.getElem?_toArray, List.getElem?_cons_zero, List.getElem?_cons_succ] at d0 c0 c1 c3 c4 c5
        go_wp2_with fail
        exact ret_slot 6 (.bool true) (by kernel_rfl) (by kernel_rfl) (by kernel_rfl) ⟨rfl, HB4.out⟩
      · have hz := long_none true v u HU.out m (shape_no _ _ (by show m + 1 ≠ 6; omega) (by show m + 1 ≠ 8; omega) (by show m + 1 ≠ 18; omega) (by show m + 1 ≠ 20; omega))
        have k6 : ((m : Int) + 1 == 6) = false := by rw [beq_eq_false_iff_ne]; omega
        have k8 : ((m : Int) + 1 == 8) = false := by rw [beq_eq_false_iff_ne]; omega
        have k18 : ((m : Int) + 1 == 18) = false := by rw [beq_eq_false_iff_ne]; omega
        have k20 : ((m : Int) + 1 == 20) = false := by rw [beq_eq_false_iff_ne]; omega
        have g1 : (2 : Int) ≤ (m : Int) + 1 := by omega
        have g2 : ¬ (m : Int) + 1 ≤ 38 := by omega
        have hy := long_rem_no v m (by omega)
        obtain ⟨A, hA⟩ : ∃ A, A = txt (u :: List.replicate m v) := ⟨_, rfl⟩
        obtain ⟨R, hR⟩ : ∃ R, R = txt (64 :: List.replicate m v) := ⟨_, rfl⟩
        rw [← hA] at hz
        rw [← hR] at hy
        have HDZ := Lib.hid (show decV A = .tuple #[.agg #[.bool false, .int .i64 0, .string ⟨#[]⟩, .bool false, .int .i64 0, .string ⟨#[]⟩], .int .i64 5] from decV_eq _ _ _ hz)
        have HDY := Lib.hid (show decRV R = .tuple #[.agg #[.string ⟨#[]⟩], .int .i64 5] from decRV_eq _ _ _ hy)
        have HAS := Lib.hid (show A.size ≤ 100 by rw [hA, one_size, List.length_replicate]; omega)
        have HRS := Lib.hid (show R.size ≤ 100 by rw [hR, one_size, List.length_replicate]; omega)
        have hcv := own_txt wr _ _ _ HOA.out (by simp)
        rw [← hA] at hcv
        have HHR := Lib.hid hR
        clear hz hy hA hR hc
        go_upto_region 14 with fail
        go_wp2_with fail
        clear hcv
        refine (DecodeAdd_any A (by have := HAS.out; omega) wr).mono ?_
        rintro e W1 ⟨rfl, b⟩
        rw [HDZ.out]
        have HOB1 := Lib.hid (OwnS.below HOB.out b (Nat.le_refl _))
        have HB1 := Lib.hid (HB.out.trans (b.mono HB.out.size))
        obtain ⟨p, hp⟩ : ∃ g, g = W1.heap.size := ⟨_, rfl⟩
        obtain ⟨W2, hW2⟩ : ∃ W, W = W1.alloc (.cells #[.bool false, .int .i64 0, .string ⟨#[]⟩, .bool false, .int .i64 0, .string ⟨#[]⟩] 23) := ⟨_, rfl⟩
        have HP2 := Lib.hid (show Blk W2 p 23 #[.bool false, .int .i64 0, .string ⟨#[]⟩, .bool false, .int .i64 0, .string ⟨#[]⟩] by rw [hW2, hp]; exact Blk.new _ _ _)
        have HOB2 := Lib.hid (show OwnS w.heap.size W2 _ _ by rw [hW2]; exact World.ownsRow.alloc HOB1.out _)
        have HB2 := Lib.hid (show Below w.heap.size w W2 by rw [hW2]; exact HB1.out.alloc HB1.out.size _)
        have HW2 := Lib.hid hW2
        have HPE := Lib.hid hp
        clear b hp hW2 HB HOB HOA HOB1 HB1
        go_upto_region 15 with fail
        rw [← HW2.out, ← HPE.out]
        have hcv := own_txt W2 _ _ _ HOB2.out (by simp)
        rw [← HHR.out] at hcv
        go_wp2_with fail
        clear hcv
        refine (DecodeRemove_any R (by have := HRS.out; omega) W2).mono ?_
        rintro e W3 ⟨rfl, b⟩
        rw [HDY.out]
        have HP3 := Lib.hid (HP2.out.below b HP2.out.lt)
        have HB3 := Lib.hid (HB2.out.trans (b.mono HB2.out.size))
        obtain ⟨q, hq⟩ : ∃ g, g = W3.heap.size := ⟨_, rfl⟩
        obtain ⟨W4, hW4⟩ : ∃ W, W = W3.alloc (.cells #[.string ⟨#[]⟩] 29) := ⟨_, rfl⟩
        have HP4 := Lib.hid (show Blk W4 p 23 #[.bool false, .int .i64 0, .string ⟨#[]⟩, .bool false, .int .i64 0, .string ⟨#[]⟩] by rw [hW4]; exact HP3.out.alloc _)
        have HQ4 := Lib.hid (show Blk W4 q 29 #[.string ⟨#[]⟩] by rw [hW4, hq]; exact Blk.new _ _ _)
        have HB4 := Lib.hid (show Below w.heap.size w W4 by rw [hW4]; exact HB3.out.alloc HB3.out.size _)
        have HW4 := Lib.hid hW4
        have HQE := Lib.hid hq
        clear b hq hW4 HOB2 HB2 HP2 HB3 HP3
        go_upto_region 16 with fail
        rw [← HW4.out, ← HQE.out]
        have d0 := HQ4.out.cell 0
        have c0 := HP4.out.cell 0
        have c1 := HP4.out.cell 1
        have c3 := HP4.out.cell 3
        have c4 := HP4.out.cell 4
        have c5 := HP4.out.cell 5
        simp only [List.getElem?_toArray, List.getElem?_cons_zero, List.getElem?_cons_succ] at d0 c0 c1 c3 c4 c5
        go_wp2_with fail
        exact ret_slot 6 (.bool true) (by kernel_rfl) (by kernel_rfl) (by kernel_rfl) ⟨rfl, HB4.out⟩
theorem walk (c : Int) (hc : 0 ≤ c ∧ c ≤ 255) (n : Int) (hn : 0 ≤ n ∧ n ≤ 255) (echo : Bool) (w : World) :
    Calls Try.prog 7 #[.int .u8 c, .int .u8 n, .bool echo] w fun e w' => e = .returned (.bool true) ∧ Below w.heap.size w w' := by
  obtain ⟨v, hv⟩ : ∃ v : UInt8, (v.toNat : Int) = c := by
    refine ⟨UInt8.ofNat c.toNat, ?_⟩
    rw [UInt8.toNat_ofNat']
    omega
  obtain ⟨k, rfl⟩ : ∃ k : Nat, n = (k : Int) := ⟨n.toNat, by omega⟩
  rw [← hv]
  cases echo
  · exact walk_false v k (k % 64) rfl (by omega) w
  · exact walk_true v k (k % 64) rfl (by omega) w


theorem own : ownKnob Try.prog.godebug = none := by kernel_rfl
theorem laidOut : laidOutB Try.prog = true := by kernel_rfl

set_option maxRecDepth 100000 in
theorem lifted (os : Os) (started : os.Started) (H : Type) (enc : TypeId × Value → H) :
    ReturnsInHanded {} Try.checked os 7 .any (Rows.addrLengthsSpec.pre6 enc Try.prog Try.f7 Rows.addrLengthsRow.domain false) (Rows.addrLengthsSpec.post enc Try.prog Try.f7 false true false false) := by
  refine returnsInHanded_of_change (C := Try.checked) own started (by kernel_rfl) Try.func7
    (ChangeSpec.witness6 (enc := enc) (C := Try.checked) false ⟨#[], #[.int .u8 0, .int .u8 0, .bool false], []⟩ 8 (by kernel_rfl) (by kernel_rfl) (by kernel_rfl) (by kernel_rfl)) ?_
  intro W base args ds gs before hval0 hW hcnd _
  have hval : ∀ (j : Nat) t v, Try.f7.params[j]? = some t → args[j]? = some v → Value.okWide Try.prog W .any base t v := hval0
  have hW' := hW
  obtain ⟨p, q, hA0, hV, rfl, hfz, hnd⟩ := hW
  have hA : DataW.TrodAll enc Try.prog W 0 (fun _ => true) true Try.f7.params.toList args.toList ds p := hA0
  rw [Try.params7] at hA hval
  obtain ⟨v0, vs0, d0, ds0, p0, q0, hargs, rfl, rfl, h0, r0⟩ := trodAll_cons hA
  obtain ⟨v1, vs1, d1, ds1, p1, q1, rfl, rfl, rfl, h1, r1⟩ := trodAll_cons r0
  obtain ⟨v2, vs2, d2, ds2, p2, q2, rfl, rfl, rfl, h2, r2⟩ := trodAll_cons r1
  obtain ⟨rfl, rfl, rfl⟩ := trodAll_nil r2
  obtain rfl : args = #[v0, v1, v2] := by cases args; simp_all
  obtain ⟨rfl, rfl⟩ := trodVars_none hV
  obtain ⟨a0, rfl, rfl, rfl, w0⟩ := open_int Try.underlying5 (hval 0 5 v0 rfl rfl) h0
  obtain ⟨a1, rfl, rfl, rfl, w1⟩ := open_int Try.underlying5 (hval 1 5 v1 rfl rfl) h1
  obtain ⟨a2, rfl, rfl, rfl⟩ := open_bool Try.underlying4 (hval 2 4 v2 rfl rfl) h2
  clear hA0 hval0
  simp only [List.append_nil] at hW'
  refine (walk a0 (bounds_u8 w0) a1 (bounds_u8 w1) a2 W).mono fun e W' ⟨he, bel⟩ => ?_
  subst he
  exact ⟨_, rfl, _, _, _, [], _, [], hW', trodAll_mk1 (shut_bool Try.underlying4 _), (trodAll_cons_mk (shut_int Try.underlying5 w0) (trodAll_cons_mk (shut_int Try.underlying5 w1) (trodAll_cons_mk (shut_bool Try.underlying4 _) trodAll_mk0))), rfl, bel.frame _, fun h => by cases h⟩

theorem over : Rows.addrLengthsRow.holds Try.pinned (OpenSpec.ofChange Rows.addrLengthsSpec) :=
  OpenClaim.holds_of_wide 7 Try.f7 rfl rfl rfl rfl rfl rfl rfl ⟨rfl, rfl, rfl, rfl, rfl⟩ rfl rfl rfl rfl rfl (by kernel_rfl) Try.func7 (by kernel_rfl)
    (of_decide_eq_true (by kernel_rfl)) (by unfold Func.isWrapper; first | (rw [if_pos (by decide +kernel)]; kernel_rfl) | (rw [if_neg (by decide +kernel)]; exact ⟨rfl, rfl⟩))
    (fun os started H enc _ => lifted os started H enc)

theorem proved : Rows.AddrLengthsSaid := over
#print axioms proved
end Go.Proofs.Ytcofdiamlmlhfaa.addrLengths
