/-
  What Lay answers, of any slice of items in memory.
-/
import Derived.Test.YtlmbccgldigihaaAreaWalks
import Derived.Lib.AppendStr
import Derived.Deep.AppendLies
import Derived.Deep.RegionHeld3
import Derived.Deep.RegionLaw
import Derived.Laws.IdiomStrings
namespace Go.Proofs.Ytlmbccgldigihaa
open Go.ChangeShapes Go.WideShapes Go.ChangeAt Go.RowKit
set_option linter.unusedVariables false

/-- Bytes, as cells. -/
def bcs (l : List UInt8) : List Value := l.map fun b => Value.int .u8 (b.toNat : Int)
theorem bcs_append (l m : List UInt8) : bcs (l ++ m) = bcs l ++ bcs m := by simp [bcs]
theorem bcs_str (s : ByteArray) : bcs s.data.toList = Lib.strCells s := rfl
theorem bcs_length (l : List UInt8) : (bcs l).length = l.length := by simp [bcs]
theorem bcs_two (x : It) (h : may x = true) : bcs (enc1 x) = [.int .u8 x.1, .int .u8 (2 + (x.2.size : Int))] ++ Lib.strCells x.2 := by
  obtain ⟨h1, h2, h3⟩ := (may_iff x).1 h
  have e1 : ((UInt8.ofNat x.1.toNat).toNat : Int) = x.1 := by rw [UInt8.toNat_ofNat']; omega
  have e2 : ((UInt8.ofNat (x.2.size + 2)).toNat : Int) = 2 + (x.2.size : Int) := by rw [UInt8.toNat_ofNat']; omega
  show [Value.int .u8 ((UInt8.ofNat x.1.toNat).toNat : Int), .int .u8 ((UInt8.ofNat (x.2.size + 2)).toNat : Int)] ++ Lib.strCells x.2 = _
  rw [e1, e2]
theorem own_base {w : World} {base : Nat} {e : TypeId} {size n : Nat} {v : Value} {xs : List Value} (h : w.ownsRow base e size v n xs) : ∀ k, v.ownBlock = some k → base ≤ k := fun k hk => (h.lt k hk).1
/-- Bytes of the call's own, made a text. -/
theorem own_text (W : World) (base g cap n : Nat) (l : List UInt8) (h : W.ownsRow base 5 1 (.slice (some ⟨g, 0, none⟩) n cap) n (bcs l)) (hn : n = l.length) :
    (convert 33 9 (.slice (some ⟨g, 0, none⟩) n cap)).run Try.prog W = .ok (.string (txt l)) W := by
  subst hn
  exact run_convert_bytes_back W 33 9 5 ⟨g, 0, none⟩ cap l Try.underlying33 Try.underlying5 Try.underlying9 fun j hj =>
    h.cells rfl j _ (by simp [bcs, hj])

theorem info8 : (Try.prog.info? 5).map (fun i => (i.zero, i.size, i.bytes)) = some (some (.int .u8 0), 1, 1) := by kernel_rfl

theorem Lay_bad (v : Value) (l : List It) (c : Int) (w : World) (hr : Row w v l) (hs : ∀ y ∈ l, y.2.size ≤ 140737488355328) (hl : l.length ≤ 1099511627776) (h : sized l = (0, c)) (hc : c = 2 ∨ c = 6) :
    Calls Try.prog 9 #[v] w fun e w' => e = .returned (.tuple #[.string ⟨#[]⟩, .int .i64 c]) ∧ Below w.heap.size w w' := by
  have HR := Lib.hid hr
  have HH := Lib.hid h
  have HS := Lib.hid hs
  obtain ⟨p, cap, hv, hlc, hcap, hcl⟩ := hr
  subst hv
  clear hcl h hs
  have hne : (c != 0) = true := by rcases hc with rfl | rfl <;> rfl
  go_enter Try.func9, Try.ntmps9
  go_wp2_with (go_at_call 19; refine (measure_any _ l (0, c) _ HR.out HS.out hl HH.out).mono ?_; rintro e w1 ⟨rfl, B1⟩)
  go_ret2; exact ⟨rfl, B1⟩

set_option maxHeartbeats 2000000 in
set_option maxRecDepth 100000 in
theorem Lay_good (v : Value) (l : List It) (w : World) (hr : Row w v l) (hl : l.length ≤ 1099511627776) (hm : l.all may = true) (hw : wide l ≤ 40) :
    Calls Try.prog 9 #[v] w fun e w' => e = .returned (.tuple #[.string (laid l).1, .int .i64 0]) ∧ Below w.heap.size w w' := by
  have hs : ∀ y ∈ l, y.2.size ≤ 140737488355328 := fun y hy => by
    have := (may_iff y).1 (List.all_eq_true.1 hm y hy); omega
  have hmem : ∀ (i : Nat) (y : It), l[i]? = some y → may y = true := fun i y hy => List.all_eq_true.1 hm y (List.mem_of_getElem? hy)
  have HR := Lib.hid hr
  have HS := Lib.hid hs
  have HH := Lib.hid (sized_ok l hm hw)
  have HMM := Lib.hid hmem
  have HLA := Lib.hid (laid_ok l hm hw)
  obtain ⟨p, cap, hv, hlc, hcap, hcl⟩ := hr
  subst hv
  have HC := Lib.hid hcl
  clear hcl hs hm hmem
  obtain ⟨P, hP⟩ : ∃ P, P = pad (wide l) := ⟨_, rfl⟩
  have hpb := pad_b (wide l)
  rw [← hP] at hpb
  have hP40 : P ≤ 40 := by rw [hP]; unfold pad; omega
  have HP := Lib.hid hP
  clear hP
  obtain ⟨i0, hi, hz0, hz1, hz2⟩ := info_parts info8
  have HI := Lib.hid hi
  have HZ0 := Lib.hid hz0
  have HZ1 := Lib.hid hz1
  have HZ2 := Lib.hid hz2
  clear hi hz0 hz1 hz2
  go_enter Try.func9, Try.ntmps9
  go_wp2_with fail
  refine (measure_any _ l ((P : Int), 0) _ HR.out HS.out hl (by rw [HP.out]; exact HH.out)).mono ?_
  rintro e w1 ⟨rfl, B1⟩
  have HB1 := Lib.hid B1
  clear B1
  go_wp2_with (at_make; refine wpList_make_own _ rfl _ _ 33 rfl w.heap.size 5 i0 (.int .u8 0) 1 Try.underlying33 HI.out HZ0.out HZ1.out .i64 .i64 _ P rfl rfl rfl (by rw [HZ2.out]; omega) (by unfold maxLen; omega) HB1.out.size ?_; intro w2 hown2 hgrow2; have HO2 := Lib.hid hown2; have HB2 := Lib.hid (HB1.out.grown hgrow2 HB1.out.size (fun k e => by cases e)); clear hown2 hgrow2)
  go_loopw [6, 21] (fun a i wr => ∃ (j g c : Nat), j ≤ l.length ∧ i = .int .i64 (j : Int) ∧ a = .slice (some ⟨g, 0, none⟩) (wide (l.take j)) c ∧ wr.ownsRow w.heap.size 5 1 (.slice (some ⟨g, 0, none⟩) (wide (l.take j)) c) (wide (l.take j)) (bcs (enc (l.take j))) ∧ Below w.heap.size w wr) (fun _ i _ => l.length - (intOf i).toNat)
  case atStart => exact ⟨0, _, _, Nat.zero_le _, rfl, rfl, HO2.out, HB2.out⟩
  case round =>
    clear HO2 HB2 HB1
    obtain ⟨j, g, c, hj, rfl, rfl, hO, hB⟩ := hrel
    have hwl := wide_take_le l j
    by_cases hlt : j < l.length
    · obtain ⟨x, hx⟩ : ∃ x, l[j]? = some x := ⟨_, List.getElem?_eq_getElem hlt⟩
      obtain ⟨ad, hp, hg, c0, c1⟩ := HC.out j x hx
      subst hp
      replace c0 := (World.cell?_of_block (hB.block _ (by rw [add_block]; exact hg))).trans c0
      replace c1 := (World.cell?_of_block (w := w) (w' := wr) (a := ⟨(ad.add (j * 2)).block, (ad.add (j * 2)).off + 1, none⟩) (hB.block _ (by show (ad.add (j * 2)).block < _; rw [add_block]; exact hg))).trans c1
      have hmx := HMM.out j x hx
      obtain ⟨m1, m2, m3⟩ := (may_iff x).1 hmx
      have hws := wide_take_succ l j x hx
      have hes := enc_take_succ l j x hx
      have hwl' := wide_take_le l (j + 1)
      have h2 := bcs_two x hmx
      obtain ⟨k, s⟩ := x
      simp only at m1 m2 m3 c0 c1 hws h2
      obtain ⟨n, hn⟩ : ∃ n, n = wide (l.take j) := ⟨_, rfl⟩
      obtain ⟨X, hX⟩ : ∃ X, X = bcs (enc (l.take j)) := ⟨_, rfl⟩
      rw [hws] at hwl'
      rw [← hn] at hws hwl hwl' hO ⊢
      have HX : Hid (bcs (enc (l.take (j + 1))) = X ++ ([.int .u8 k, .int .u8 (2 + (s.size : Int))] ++ Lib.strCells s)) := Lib.hid (by rw [hes, bcs_append, h2, hX])
      rw [← hX] at hO
      have HW := Lib.hid hws
      have HO := Lib.hid hO
      have HB := Lib.hid hB
      clear hx hws hes h2 hO hB hX hn hmx
      have e8 : IntKind.u8.wrap k = k := by rw [IntKind.wrap_u8]; omega
      have e8' : IntKind.u8.wrap (2 + (s.size : Int)) = 2 + (s.size : Int) := by rw [IntKind.wrap_u8]; omega
      have bs := HB.out.size
      go_wp2
      have d0 : (wr.alloc (Obj.cells #[Value.int IntKind.i64 k, Value.string s] 24)).cell? ⟨wr.heap.size, 0, none⟩ = some (.int .i64 k) := Blk.cell (Blk.new wr _ _) 0
      have d1 : (wr.alloc (Obj.cells #[Value.int IntKind.i64 k, Value.string s] 24)).cell? ⟨wr.heap.size, 1, none⟩ = some (.string s) := Blk.cell (Blk.new wr _ _) 1
      obtain ⟨W, hW⟩ : ∃ W, W = wr.alloc (Obj.cells #[Value.int IntKind.i64 k, Value.string s] 24) := ⟨_, rfl⟩
      have hz : W.heap.size = wr.heap.size + 1 := by rw [hW]; simp
      have HBW : Hid (Below w.heap.size w W) := Lib.hid (by rw [hW]; exact below_more HB.out _)
      have HOW : Hid (W.ownsRow w.heap.size 5 1 (.slice (some ⟨g, 0, none⟩) n c) n X) := Lib.hid (by rw [hW]; exact HO.out.alloc _)
      rw [← hW] at d0 d1 ⊢
      have HK : Hid (Blk W wr.heap.size 24 #[.int .i64 k, .string s]) := Lib.hid (by rw [hW]; exact Blk.new wr _ _)
      have HZ := Lib.hid hz
      clear hW HO HB hz
      obtain ⟨W3, hW3⟩ : ∃ W3, W3 = (W.alloc (.cells #[.int .i64 k, .string s] 24)).alloc (.cells #[.int .u8 k, .int .u8 (2 + (s.size : Int))] 5) := ⟨_, rfl⟩
      have z3 : W3.heap.size = W.heap.size + 2 := by rw [hW3]; simp
      have B3 : Below w.heap.size w W3 := by rw [hW3]; exact below_more (below_more HBW.out _) _
      have K3 : Blk W3 wr.heap.size 24 #[.int .i64 k, .string s] := by rw [hW3]; exact (HK.out.alloc _).alloc _
      have o3 : W3.ownsRow w.heap.size 5 1 (.slice (some ⟨g, 0, none⟩) n c) n X := by rw [hW3]; exact (HOW.out.alloc _).alloc _
      have n3 : W3.heap[W.heap.size + 1]? = some (.cells #[.int .u8 k, .int .u8 (2 + (s.size : Int))] 5 (0, 0)) := by
        rw [hW3]; have := heap_alloc_new (W.alloc (.cells #[.int .i64 k, .string s] 24)) (.cells #[.int .u8 k, .int .u8 (2 + (s.size : Int))] 5)
        rwa [World.size_alloc] at this
      have HO3 := Lib.hid (show ∀ V : World, V.heap = W3.heap → V.ownsRow w.heap.size 5 1 (.slice (some ⟨g, 0, none⟩) n c) n X by
        intro V hV; unfold World.ownsRow at o3 ⊢; rw [hV]; exact o3)
      have HC3 := Lib.hid (show ∀ V : World, V.heap = W3.heap → ∀ j u, [Value.int .u8 k, .int .u8 (2 + (s.size : Int))][j]? = some u → V.cell? ((⟨W.heap.size + 1, 0, none⟩ : Addr).add j) = some u by
        intro V hV
        exact World.news_of_block (cs := #[.int .u8 k, .int .u8 (2 + (s.size : Int))]) (t := 5) (fr := (0, 0)) (by rw [hV]; exact n3))
      have HZ3 := Lib.hid (show ∀ V : World, V.heap = W3.heap → V.heap.size = W.heap.size + 2 by intro V hV; rw [hV]; exact z3)
      have HL3 := Lib.hid (show ∀ V : World, V.heap = W3.heap → w.heap.size ≤ V.heap.size by intro V hV; rw [hV]; exact B3.size)
      have HG3 := Lib.hid (show ∀ (V V' : World), V.heap = W3.heap → V.os = W3.os → V.tape = W3.tape → V.output = W3.output → V.grownBy V' (some g) → Below w.heap.size w V' ∧ Blk V' wr.heap.size 24 #[.int .i64 k, .string s] by
        intro V V' h1 h2 h3 h4 hg
        have hgr : W3.grownBy V' (some g) := ⟨hg.os.trans h2, hg.tape.trans h3, hg.output.trans h4, by rw [← h1]; exact hg.size, fun q hq hne => by rw [← h1]; exact hg.block q (by rw [h1]; exact hq) hne⟩
        refine ⟨B3.grown hgr B3.size (fun q e => by cases e; exact own_base o3 _ rfl), K3.grown hgr fun e => ?_⟩
        injection e with e
        rcases o3.2 with ⟨h0, _⟩ | ⟨g', _, cur, hv, _, hg', _⟩
        · cases h0
        · cases hv
          rw [e] at K3
          have := K3.symm.trans hg'
          simp at this)
      have HW3 := Lib.hid hW3
      clear z3 B3 K3 o3 n3 hW3
      go_region_held3 (fun w' => w'.cell? ⟨wr.heap.size, 0, none⟩ = some (.int .i64 k) ∧ w'.cell? ⟨wr.heap.size, 1, none⟩ = some (.string s))
        (first | exact ⟨HK.out.cell 0, HK.out.cell 1⟩ | exact ⟨(HK.out.alloc _).cell 0, (HK.out.alloc _).cell 1⟩ | exact ⟨((HK.out.alloc _).alloc _).cell 0, ((HK.out.alloc _).alloc _).cell 1⟩ | exact ⟨K4.cell 0, K4.cell 1⟩)
        (first
          | (go_at_call 20; refine (sizeOf_any (k, s) _ (by show s.size ≤ _; omega)).mono ?_; rintro e w' ⟨rfl, rfl⟩)
          | (refine step_append_lies _ rfl (.tmp 25) (.tmp 32) 33 rfl w.heap.size 5 i0 (.int .u8 0) 1 1 Try.underlying33 HI.out HZ0.out HZ1.out HZ2.out rfl (by decide) (.slice (some ⟨g, 0, none⟩) n c) n X (by simp [Act.eval]) (HO3.out _ (by rw [HW3.out]; rfl)) ⟨W.heap.size + 1, 0, none⟩ 2 2 [.int .u8 k, .int .u8 (2 + (s.size : Int))] (by simp [Act.eval]) rfl (HC3.out _ (by rw [HW3.out]; rfl)) (by simp [Value.oneCell']) (by decide) (by unfold maxLen; omega) (by omega) (HL3.out _ (by rw [HW3.out]; rfl)) (W.heap.size + 2) (HZ3.out _ (by rw [HW3.out]; rfl)) ?_; intro g' cap' w2 hown2 hgrow2 hat2 hlt2; obtain ⟨B4, K4⟩ := HG3.out _ _ (by rw [HW3.out]; rfl) (by rw [HW3.out]; rfl) (by rw [HW3.out]; rfl) (by rw [HW3.out]; rfl) hgrow2))
      have c1' := K4.cell 1
      have HB4 := Lib.hid B4
      have HO4 := Lib.hid hown2
      have H24 := Lib.hid B4.size
      clear B4 K4 hown2 hgrow2 hat2 hlt2 HO3 HC3 HZ3 HL3 HG3 HW3 HK HOW HBW HZ d0 d1 e8 e8' c0 c1
      go_wp2_with (at_builtin; refine Lib.wpList_append_own_string _ rfl (.tmp 34) (.tmp 36) 33 9 rfl w.heap.size 5 i0 Try.underlying33 Try.underlying9 HI.out HZ0.out HZ1.out HZ2.out (.slice (some ⟨g', 0, none⟩) (n + 2) cap') (n + 2) _ rfl HO4.out s rfl (by unfold maxLen; omega) (by omega) H24.out ?_; intro v5 w5 hown5 hgrow5 _; obtain ⟨g5, cap5, rfl, _, hlt5⟩ := hown5.form (by omega); have HO5 := Lib.hid hown5; have HB5 := Lib.hid (HB4.out.grown hgrow5 H24.out (own_base HO4.out)); clear hown5 hgrow5 hlt5)
      go_roundw
      case rel => exact ⟨j + 1, g5, cap5, by omega, by go_num, by rw [HW.out], by rw [HW.out, HX.out, ← List.append_assoc]; exact HO5.out, HB5.out⟩
      case measure => simp [intOf]; omega
    · obtain rfl : j = l.length := by omega
      rw [List.take_length] at hO ⊢
      obtain ⟨n, hn⟩ : ∃ n, n = wide l := ⟨_, rfl⟩
      rw [← hn] at hpb hO hw ⊢
      have HN := Lib.hid hn
      have HO := Lib.hid hO
      have HB := Lib.hid hB
      clear hn hO hB hwl
      go_wp2
      go_loopw [6] (fun a wr => ∃ (q g c : Nat), n + q ≤ P ∧ a = .slice (some ⟨g, 0, none⟩) (n + q) c ∧ wr.ownsRow w.heap.size 5 1 (.slice (some ⟨g, 0, none⟩) (n + q) c) (n + q) (bcs (enc l ++ List.replicate q 0)) ∧ Below w.heap.size w wr) (fun a _ => match a with | .slice _ m _ => P - m | _ => 0)
      case atStart => exact ⟨0, g, c, by omega, rfl, by simpa using HO.out, HB.out⟩
      case round =>
        clear HO HB
        obtain ⟨q, g1, c1, hq, rfl, hO, hB⟩ := hrel
        have HO := Lib.hid hO
        have HB := Lib.hid hB
        have hsz := hB.size
        clear hO hB
        by_cases hlt : n + q < P
        · go_wp2_with (at_builtin; refine wpList_append_lies _ (by rfl) (.tmp 43) (.tmp 44) 33 (by rfl) w.heap.size 5 i0 (.int .u8 0) 1 1 Try.underlying33 HI.out HZ0.out HZ1.out HZ2.out rfl (by decide) (.slice (some ⟨g1, 0, none⟩) (n + q) c1) (n + q) _ (by rfl) (HO.out.alloc _) ⟨wr.heap.size, 0, none⟩ 1 1 [.int .u8 0] (by rfl) (by rfl) (World.news_of_block (cs := #[.int .u8 0]) (t := 5) (fr := (0, 0)) (heap_alloc_new _ _)) (by simp [Value.oneCell']) (by decide) (by unfold maxLen; omega) (by omega) (by simp; omega) (wr.heap.size + 1) (by simp) ?_; intro g5 cap5 w5 hown5 hgrow5 hat5 hlt5; have HO5 := Lib.hid hown5; have HB5 := Lib.hid (Below.grown (below_more HB.out _) hgrow5 (below_more HB.out _).size (own_base HO.out)); clear hown5 hgrow5 hat5 hlt5)
          go_roundw
          case rel => exact ⟨q + 1, g5, cap5, by omega, rfl, by rw [List.replicate_succ', ← List.append_assoc, bcs_append]; exact HO5.out, HB5.out⟩
          case measure => simp; omega
        · obtain rfl : P = n + q := by omega
          have hcv := own_text _ _ _ _ _ _ HO.out (by rw [List.length_append, List.length_replicate, enc_length, HN.out])
          have eq : q = pad (wide l) - wide l := by rw [← HP.out, ← HN.out]; omega
          have HQ := Lib.hid eq
          clear eq
          go_wp2
          go_ret2
          exact ⟨by rw [HLA.out, ← HQ.out]; rfl, HB.out⟩

theorem Lay_any (v : Value) (l : List It) (r : ByteArray × Int) (w : World) (hr : Row w v l) (hs : ∀ y ∈ l, y.2.size ≤ 140737488355328) (hl : l.length ≤ 1099511627776) (h : laid l = r) :
    Calls Try.prog 9 #[v] w fun e w' => e = .returned (.tuple #[.string r.1, .int .i64 r.2]) ∧ Below w.heap.size w w' := by
  subst h
  cases hm : l.all may with
  | false =>
    have e1 : laid l = (⟨#[]⟩, 2) := by unfold laid; rw [hm]; rfl
    have e2 : sized l = (0, 2) := by unfold sized; rw [hm]; rfl
    rw [e1]; exact Lay_bad v l 2 w hr hs hl e2 (.inl rfl)
  | true =>
    by_cases hw : wide l ≤ 40
    · have e1 : (laid l).2 = 0 := by rw [laid_ok l hm hw]
      rw [e1]; exact Lay_good v l w hr hl hm hw
    · have e1 : laid l = (⟨#[]⟩, 6) := by unfold laid; rw [if_pos hm, if_neg hw]
      rw [e1]; exact Lay_bad v l 6 w hr hs hl (sized_big l hm (by omega)) (.inr rfl)
end Go.Proofs.Ytlmbccgldigihaa
