/-
  The document's own answers of layer 5 (plaitref05), and the numbers of bytes that they lean on (plaitref01), each by its walk.
-/
import Derived.Test.YthdcjcdgddejbaaDoorHeadWorks
import Derived.Laws.MakeOwn
import Derived.Laws.IdiomStrings
import Derived.OwnWalk
import Derived.Laws.AppendOwn
import Derived.Deep.RegionHeld3
namespace Go.Proofs.YthdcjcdgddejbaaDoor
open Go.ChangeShapes Go.WideShapes Go.ChangeAt Go.RowKit
set_option linter.unusedVariables false

theorem info8r : (Tryd.prog.info? 5).map (fun i => (i.zero, i.size, i.bytes)) = some (some (.int .u8 0), 1, 1) := by kernel_rfl
theorem be_take (m n j : Nat) (h : j < m) : (be m n).take (j + 1) = (be m n).take j ++ [UInt8.ofNat (n / 256 ^ (m - 1 - j))] := by
  have g : ∀ (m n j : Nat), j < m → (be m n)[j]? = some (UInt8.ofNat (n / 256 ^ (m - 1 - j))) := by
    intro m
    induction m with
    | zero => intro n j h; omega
    | succ m ih =>
      intro n j h
      cases j with
      | zero => simp [be]
      | succ j =>
        rw [be, List.getElem?_cons_succ, ih n j (by omega)]
        congr 4; omega
  rw [List.take_add_one, g m n j h]; rfl

set_option maxHeartbeats 2000000 in
set_option maxRecDepth 100000 in
theorem Laid_ref (n m : Nat) (w : World) (hn : n ≤ 18446744073709551615) (h1 : 1 ≤ m) (hm : m ≤ 8) :
    Calls Tryd.prog 23 #[.int .u64 (n : Int), .int .i64 (m : Int)] w fun e w' => e = .returned (.string (txt (be m n))) ∧ Below w.heap.size w w' := by
  obtain ⟨i0, hi, hz0, hz1, hz2⟩ := info_parts info8r
  have HI := Lib.hid hi
  have HZ0 := Lib.hid hz0
  have HZ1 := Lib.hid hz1
  have HZ2 := Lib.hid hz2
  clear hi hz0 hz1 hz2
  go_enter Tryd.func23, Tryd.ntmps23
  go_wp2
  go_loopw [5, 6] (fun v x wr => ∃ j : Nat, j ≤ m ∧ x = .int .i64 ((m : Int) - 1 - (j : Int)) ∧ wr.ownsRow w.heap.size 5 1 v j (byv ((be m n).take j)).toList ∧ Below w.heap.size w wr) (fun _ x _ => (intOf x + 1).toNat)
  case atStart => exact ⟨0, Nat.zero_le _, by go_num, World.ownsRow_nil _ _ _ _, Below.refl _ _⟩
  case round =>
    obtain ⟨j, hj, rfl, hO, hB⟩ := hrel
    by_cases hlt : j < m
    · obtain ⟨k, hk⟩ : ∃ k : Nat, k + 1 + j = m := ⟨m - 1 - j, by omega⟩
      have ek : (m : Int) - 1 - (j : Int) = (k : Int) := by omega
      rw [ek]
      have hk8 : k ≤ 7 := by omega
      have HO := Lib.hid hO
      have HB := Lib.hid hB
      clear hO hB
      obtain ⟨V, hV⟩ : ∃ V : UInt8, V = UInt8.ofNat (n / 256 ^ k) := ⟨_, rfl⟩
      have hv : (n : Int) / 2 ^ (8 * k) % 256 = (V.toNat : Int) := by
        rw [hV, UInt8.toNat_ofNat', show (2 : Nat) ^ 8 = 256 from rfl, show (2 : Int) ^ (8 * k) = ((256 ^ k : Nat) : Int) by rw [Int.pow_mul]; norm_cast]
        omega
      have htk : (be m n).take (j + 1) = (be m n).take j ++ [V] := by rw [be_take m n j hlt, hV, show m - 1 - j = k by omega]
      have HTK := Lib.hid htk
      have HVV := Lib.hid hv
      clear hV htk
      go_wp2_with (at_builtin; rw [HVV.out]; refine wpList_append_own _ rfl _ _ 45 rfl w.heap.size 5 i0 (.int .u8 0) 1 1 Tryd.underlying45 HI.out HZ0.out HZ1.out HZ2.out rfl (by decide) _ _ _ rfl (HO.out.alloc _) ⟨wr.heap.size, 0, none⟩ 1 1 [.int .u8 (V.toNat : Int)] rfl rfl ?c1 ?c2 ?c3 ?c4 ?c5 ?_)
      case c1 =>
        intro i u hu
        obtain rfl : i = 0 := by
          rcases Nat.eq_zero_or_pos i with h | h
          · exact h
          · rw [List.getElem?_eq_none (by simp; omega)] at hu; cases hu
        injection hu with hu
        subst hu
        exact (Blk.new wr 5 #[.int .u8 (V.toNat : Int)]).cell 0
      case c2 => intro u hu; obtain rfl := List.mem_singleton.1 hu; rfl
      case c3 => unfold maxLen; omega
      case c4 => omega
      case c5 => have := HB.out.size; simp; omega
      intro v' w2 own2 grow2 _
      have HN := Lib.hid (show w2.ownsRow w.heap.size 5 1 v' (j + 1) (byv ((be m n).take (j + 1))).toList by
        rw [HTK.out]; simpa [byv] using own2)
      have HB2 := Lib.hid ((HB.out.alloc HB.out.size _).grown grow2 (by have := HB.out.size; simp; omega) (fun k hk => (HO.out.lt k hk).1))
      clear own2 grow2
      go_wp2_with fail
      go_roundw
      case rel => exact ⟨j + 1, by omega, by go_num, HN.out, HB2.out⟩
      case measure => simp [intOf]
    · obtain rfl : j = m := by omega
      rw [show (be j n).take j = be j n from List.take_of_length_le (by rw [be_length]; exact Nat.le_refl _)] at hO
      obtain ⟨_, ⟨_, h0, _⟩ | ⟨g, cap, cur, rfl, _, hg, _, _, _, htake⟩⟩ := id hO
      · omega
      have HB := Lib.hid hB
      have hcv : (convert 45 9 (.slice (some ⟨g, 0, none⟩) j cap)).run Tryd.prog wr = .ok (.string (txt (be j n))) wr := by
        have q := run_convert_bytes_back wr 45 9 5 ⟨g, 0, none⟩ cap (be j n) Tryd.underlying45 Tryd.underlying5 Tryd.underlying9 (fun i hi => by
          have hi' : i < j := by rw [be_length] at hi; exact hi
          rw [add_off, cell_of_row wr g i cur _ _ hg]
          have q := congrArg (fun l => l[i]?) htake
          simp only [Nat.mul_one] at q
          rw [List.getElem?_take_of_lt hi'] at q
          rw [← Array.getElem?_toList, q]
          simp [byv, hi])
        rwa [be_length] at q
      clear hO hB hg htake
      go_wp2
      go_ret; exact ⟨rfl, HB.out⟩

theorem Num_ref (s : ByteArray) (w : World) (hs : s.size ≤ 8) :
    Calls Tryd.prog 31 #[.string s] w fun e w' => e = .returned (.int .u64 (nm s.data.toList : Nat)) ∧ w = w' := by
  go_enter Tryd.func31, Tryd.ntmps31
  go_wp2
  go_loopw [3, 4] (fun x i wr => ∃ j : Nat, j ≤ s.size ∧ i = .int .i64 (j : Int) ∧ x = .int .u64 ((nm (s.data.toList.take j) : Nat) : Int) ∧ w = wr) (fun _ i _ => s.size - (intOf i).toNat)
  case atStart => exact ⟨0, Nat.zero_le _, rfl, rfl, rfl⟩
  case round =>
    obtain ⟨j, hj, rfl, rfl, rfl⟩ := hrel
    by_cases hlt : j < s.size
    · obtain ⟨n, hn⟩ : ∃ n, n = nm (s.data.toList.take j) := ⟨_, rfl⟩
      have hn1 : n ≤ 72057594037927935 := by
        have h1 := nm_lt (s.data.toList.take j)
        have h2 : (s.data.toList.take j).length ≤ 7 := by rw [List.length_take]; omega
        have h3 : 256 ^ (s.data.toList.take j).length ≤ 256 ^ 7 := Nat.pow_le_pow_right (by omega) h2
        rw [hn]; omega
      have es : nm (s.data.toList.take (j + 1)) = n * 256 + s[j].toNat := by rw [take_snoc s j hlt, nm_snoc, hn]
      have c1 := s[j].toNat_lt
      rw [← hn]
      have HE := Lib.hid es
      clear hn es
      have i1 : (j : Int) < (s.size : Int) := by omega
      go_wp2
      go_roundw
      case rel => exact ⟨j + 1, by omega, by go_num, val_int (by rw [HE.out]; omega), by first | rfl | trivial⟩
      case measure => simp [intOf]; omega
    · obtain rfl : j = s.size := by omega
      rw [take_all]
      go_wp2
      go_ret; exact ⟨rfl, rfl⟩

theorem Laid_n (N : Int) (n m : Nat) (t : ByteArray) (w : World) (hN : N = (n : Int)) (hn : n ≤ 18446744073709551615) (h1 : 1 ≤ m) (hm : m ≤ 8) (ht : txt (be m n) = t) :
    Calls Tryd.prog 23 #[.int .u64 N, .int .i64 (m : Int)] w fun e w' => e = .returned (.string t) ∧ Below w.heap.size w w' := by
  subst hN; rw [← ht]; exact Laid_ref n m w hn h1 hm
theorem Laid_t (n m : Nat) (t : ByteArray) (w : World) (hn : n ≤ 18446744073709551615) (h1 : 1 ≤ m) (hm : m ≤ 8) (ht : txt (be m n) = t) :
    Calls Tryd.prog 23 #[.int .u64 (n : Int), .int .i64 (m : Int)] w fun e w' => e = .returned (.string t) ∧ Below w.heap.size w w' := by
  rw [← ht]; exact Laid_ref n m w hn h1 hm

set_option maxHeartbeats 2000000 in
theorem LayR_f (x : Sg) (w : World) (hx : x.Ok) (hf : x.fits = false) :
    Calls Tryd.prog 10 #[.agg #[.int .i64 x.path, .int .u16 x.src, .int .u16 x.dst, .int .u32 x.seq, .int .u32 x.ack, .bool x.syn, .bool x.ackOn, .bool x.fin, .bool x.rst, .int .u16 x.win, .string x.area, .string x.data]] w fun e w' => e = .returned x.lay ∧ Below w.heap.size w w' := by
  rw [x.lay_f hf]
  have h1 := hx.area
  have h2 := hx.data
  rcases x.fits_f hf with h | ⟨h, k⟩ | ⟨h, k, l⟩
  · have d1 : decide ((40 : Int) < (x.area.size : Int)) = true := by simp; omega
    clear hx hf h
    go_enter Tryd.func10, Tryd.ntmps10
    go_wp2
    go_ret2; exact ⟨rfl, (Below.refl _ w).alloc (Nat.le_refl _) _⟩
  · have d1 : decide ((40 : Int) < (x.area.size : Int)) = false := by simp; omega
    have d2 : ((x.area.size : Int) % 4 != 0) = true := by simp; omega
    clear hx hf h k
    go_enter Tryd.func10, Tryd.ntmps10
    go_wp2
    go_ret2; exact ⟨rfl, (Below.refl _ w).alloc (Nat.le_refl _) _⟩
  · have d1 : decide ((40 : Int) < (x.area.size : Int)) = false := by simp; omega
    have d2 : ((x.area.size : Int) % 4 != 0) = false := by simp; omega
    have d3 : decide ((1024 : Int) < (x.data.size : Int)) = true := by simp; omega
    clear hx hf h k l
    go_enter Tryd.func10, Tryd.ntmps10
    go_wp2
    go_ret2; exact ⟨rfl, (Below.refl _ w).alloc (Nat.le_refl _) _⟩

set_option maxHeartbeats 4000000 in
set_option maxRecDepth 100000 in
theorem LayR_t (x : Sg) (w : World) (hx : x.Ok) (hf : x.fits = true) :
    Calls Tryd.prog 10 #[.agg #[.int .i64 x.path, .int .u16 x.src, .int .u16 x.dst, .int .u32 x.seq, .int .u32 x.ack, .bool x.syn, .bool x.ackOn, .bool x.fin, .bool x.rst, .int .u16 x.win, .string x.area, .string x.data]] w fun e w' => e = .returned x.lay ∧ Below w.heap.size w w' := by
  rw [x.lay_t hf]
  obtain ⟨k1, k2, k3⟩ := x.fits_t hf
  have d1 : decide ((40 : Int) < (x.area.size : Int)) = false := by simp; omega
  have d2 : ((x.area.size : Int) % 4 != 0) = false := by simp; omega
  have d3 : decide ((1024 : Int) < (x.data.size : Int)) = false := by simp; omega
  have HX := Lib.hid hx
  have KK := Lib.hid (And.intro k1 k3)
  obtain ⟨t1, h1⟩ : ∃ t, txt (be 2 x.src) = t := ⟨_, rfl⟩
  obtain ⟨t2, h2⟩ : ∃ t, txt (be 2 x.dst) = t := ⟨_, rfl⟩
  obtain ⟨t3, h3⟩ : ∃ t, txt (be 4 x.seq) = t := ⟨_, rfl⟩
  obtain ⟨t4, h4⟩ : ∃ t, txt (be 4 x.ack) = t := ⟨_, rfl⟩
  have z1 : t1.size = 2 := by rw [← h1, txt_size, be_length]
  have z2 : t2.size = 2 := by rw [← h2, txt_size, be_length]
  have z3 : t3.size = 4 := by rw [← h3, txt_size, be_length]
  have z4 : t4.size = 4 := by rw [← h4, txt_size, be_length]
  have z12 : (t1 ++ t2).size = 4 := by rw [ByteArray.size_append]; omega
  have z123 : (t1 ++ t2 ++ t3).size = 8 := by rw [ByteArray.size_append]; omega
  have y1 : IntKind.u64.wrap (x.src : Int) = (x.src : Int) := by rw [IntKind.wrap_u64]; have := hx.src; omega
  have y2 : IntKind.u64.wrap (x.dst : Int) = (x.dst : Int) := by rw [IntKind.wrap_u64]; have := hx.dst; omega
  have y3 : IntKind.u64.wrap (x.seq : Int) = (x.seq : Int) := by rw [IntKind.wrap_u64]; have := hx.seq; omega
  have y4 : IntKind.u64.wrap (x.ack : Int) = (x.ack : Int) := by rw [IntKind.wrap_u64]; have := hx.ack; omega
  have HT1 := Lib.hid h1
  have HT2 := Lib.hid h2
  have HT3 := Lib.hid h3
  have HT4 := Lib.hid h4
  have K1 := Lib.hid trivial
  have K2 := Lib.hid trivial
  have K3 := Lib.hid trivial
  have K4 := Lib.hid trivial
  have HBX := Lib.hid (Blk.new w 25 (segv x))
  have HBB := Lib.hid ((Below.refl _ w).alloc (Nat.le_refl _) (.cells (segv x) 25))
  clear hx hf k1 k2 k3 h1 h2 h3 h4
  go_enter Tryd.func10, Tryd.ntmps10
  go_wp2
  obtain ⟨W0, hW0⟩ : ∃ W0, W0 = w.alloc (.cells (segv x) 25) := ⟨_, rfl⟩
  rw [← hW0] at HBX HBB ⊢
  clear hW0
  go_region_held3 (fun V => V.cell? ⟨w.heap.size, 1, none⟩ = some (.int .u16 x.src) ∧ V.cell? ⟨w.heap.size, 2, none⟩ = some (.int .u16 x.dst) ∧ V.cell? ⟨w.heap.size, 3, none⟩ = some (.int .u32 x.seq) ∧ V.cell? ⟨w.heap.size, 4, none⟩ = some (.int .u32 x.ack))
    (first | exact ⟨HBX.out.cell 1, HBX.out.cell 2, HBX.out.cell 3, HBX.out.cell 4⟩)
    (first
      | (go_at_call 23; clear K1; refine (Laid_t x.src 2 t1 _ (by have := HX.out.src; omega) (by decide) (by decide) HT1.out).mono ?_; rintro e w1 ⟨rfl, b⟩; have HBX : Hid (Blk w1 w.heap.size 25 (segv x)) := Lib.hid (by refine Blk.below ?_ b ?_; exact HBX.out; exact HBX.out.lt); have HBB : Hid (Below w.heap.size w w1) := Lib.hid (by first | exact below_then HBB.out b | exact below_then HBB.out.drew b); clear b)
      | (go_at_call 23; clear K2; refine (Laid_t x.dst 2 t2 _ (by have := HX.out.dst; omega) (by decide) (by decide) HT2.out).mono ?_; rintro e w1 ⟨rfl, b⟩; have HBX : Hid (Blk w1 w.heap.size 25 (segv x)) := Lib.hid (by refine Blk.below ?_ b ?_; exact HBX.out; exact HBX.out.lt); have HBB : Hid (Below w.heap.size w w1) := Lib.hid (by first | exact below_then HBB.out b | exact below_then HBB.out.drew b); clear b)
      | (go_at_call 23; clear K3; refine (Laid_t x.seq 4 t3 _ (by have := HX.out.seq; omega) (by decide) (by decide) HT3.out).mono ?_; rintro e w1 ⟨rfl, b⟩; have HBX : Hid (Blk w1 w.heap.size 25 (segv x)) := Lib.hid (by refine Blk.below ?_ b ?_; exact HBX.out; exact HBX.out.lt); have HBB : Hid (Below w.heap.size w w1) := Lib.hid (by first | exact below_then HBB.out b | exact below_then HBB.out.drew b); clear b)
      | (go_at_call 23; clear K4; refine (Laid_t x.ack 4 t4 _ (by have := HX.out.ack; omega) (by decide) (by decide) HT4.out).mono ?_; rintro e w1 ⟨rfl, b⟩; have HBX : Hid (Blk w1 w.heap.size 25 (segv x)) := Lib.hid (by refine Blk.below ?_ b ?_; exact HBX.out; exact HBX.out.lt); have HBB : Hid (Below w.heap.size w w1) := Lib.hid (by first | exact below_then HBB.out b | exact below_then HBB.out.drew b); clear b))
  obtain ⟨F1, hF1⟩ : ∃ F, t1 ++ t2 ++ t3 ++ t4 = F := ⟨_, rfl⟩
  rw [hF1]
  have zF1 : F1.size = 12 := by rw [← hF1, ByteArray.size_append]; omega
  obtain ⟨u, hu⟩ : ∃ u, u = (20 + x.area.size) / 4 * 16 := ⟨_, rfl⟩
  have hu1 : u ≤ 240 := by rw [hu]; have := KK.out.1; omega
  obtain ⟨t5, h5⟩ : ∃ t, txt (be 1 u) = t := ⟨_, rfl⟩
  obtain ⟨t6, h6⟩ : ∃ t, txt (be 1 x.flags) = t := ⟨_, rfl⟩
  obtain ⟨t7, h7⟩ : ∃ t, txt (be 2 x.win) = t := ⟨_, rfl⟩
  have z5 : t5.size = 1 := by rw [← h5, txt_size, be_length]
  have z6 : t6.size = 1 := by rw [← h6, txt_size, be_length]
  have z7 : t7.size = 2 := by rw [← h7, txt_size, be_length]
  have z56 : (F1 ++ t5).size = 13 := by rw [ByteArray.size_append]; omega
  have z567 : (F1 ++ t5 ++ t6).size = 14 := by rw [ByteArray.size_append]; omega
  have a40 : (x.area.size : Int) ≤ 40 := by have := KK.out.1; omega
  have y5 : IntKind.u64.wrap (x.win : Int) = (x.win : Int) := by rw [IntKind.wrap_u64]; have := HX.out.win; omega
  have ue : (16 : Int) * (5 + (x.area.size : Int) / 4) = (u : Int) := by rw [hu]; omega
  have UEQ := Lib.hid (show IntKind.u64.wrap (IntKind.i64.wrap (16 * IntKind.i64.wrap (5 + IntKind.i64.wrap ((x.area.size : Int) / 4)))) = (u : Int) by
    rw [IntWalk.i64_in ((x.area.size : Int) / 4) (by omega), IntWalk.i64_in (5 + (x.area.size : Int) / 4) (by omega), ue, IntWalk.i64_in (u : Int) (by omega), IntKind.wrap_u64]
    exact Int.emod_eq_of_lt (by omega) (by omega))
  clear ue
  have HF1 := Lib.hid hF1
  have HU := Lib.hid hu
  have HT5 := Lib.hid h5
  have HT6 := Lib.hid h6
  have HT7 := Lib.hid h7
  have K5 := Lib.hid trivial
  have K6 := Lib.hid trivial
  have K7 := Lib.hid trivial
  clear hF1 hu h5 h6 h7 z1 z2 z3 z4 z12 z123 y1 y2 y3 y4
  go_wp2
  go_region_held3 (fun V => V.cell? ⟨w.heap.size, 0, none⟩ = some (.int .i64 x.path) ∧ V.cell? ⟨w.heap.size, 1, none⟩ = some (.int .u16 x.src) ∧ V.cell? ⟨w.heap.size, 2, none⟩ = some (.int .u16 x.dst) ∧ V.cell? ⟨w.heap.size, 3, none⟩ = some (.int .u32 x.seq) ∧ V.cell? ⟨w.heap.size, 4, none⟩ = some (.int .u32 x.ack) ∧ V.cell? ⟨w.heap.size, 5, none⟩ = some (.bool x.syn) ∧ V.cell? ⟨w.heap.size, 6, none⟩ = some (.bool x.ackOn) ∧ V.cell? ⟨w.heap.size, 7, none⟩ = some (.bool x.fin) ∧ V.cell? ⟨w.heap.size, 8, none⟩ = some (.bool x.rst) ∧ V.cell? ⟨w.heap.size, 9, none⟩ = some (.int .u16 x.win) ∧ V.cell? ⟨w.heap.size, 10, none⟩ = some (.string x.area) ∧ V.cell? ⟨w.heap.size, 11, none⟩ = some (.string x.data))
    (first | exact ⟨HBX.out.cell 0, HBX.out.cell 1, HBX.out.cell 2, HBX.out.cell 3, HBX.out.cell 4, HBX.out.cell 5, HBX.out.cell 6, HBX.out.cell 7, HBX.out.cell 8, HBX.out.cell 9, HBX.out.cell 10, HBX.out.cell 11⟩)
    (first
      | (go_at_call 23; clear K5; refine (Laid_n _ u 1 t5 _ ?_ (by omega) (by decide) (by decide) HT5.out).mono ?_; exact UEQ.out; rintro e w1 ⟨rfl, b⟩; have HBX : Hid (Blk w1 w.heap.size 25 (segv x)) := Lib.hid (by refine Blk.below ?_ b ?_; exact HBX.out; exact HBX.out.lt); have HBB : Hid (Below w.heap.size w w1) := Lib.hid (by first | exact below_then HBB.out b | exact below_then HBB.out.drew b); clear b)
      | (go_at_call 24; refine (flags_ref x _).mono ?_; rintro e w1 ⟨rfl, b⟩; have HBX : Hid (Blk w1 w.heap.size 25 (segv x)) := Lib.hid (by refine Blk.below ?_ b ?_; exact HBX.out; exact HBX.out.lt); have HBB : Hid (Below w.heap.size w w1) := Lib.hid (by first | exact below_then HBB.out b | exact below_then HBB.out.drew b); clear b)
      | (go_at_call 23; clear K6; refine (Laid_t x.flags 1 t6 _ (by have := x.flags_le; omega) (by decide) (by decide) HT6.out).mono ?_; rintro e w1 ⟨rfl, b⟩; have HBX : Hid (Blk w1 w.heap.size 25 (segv x)) := Lib.hid (by refine Blk.below ?_ b ?_; exact HBX.out; exact HBX.out.lt); have HBB : Hid (Below w.heap.size w w1) := Lib.hid (by first | exact below_then HBB.out b | exact below_then HBB.out.drew b); clear b)
      | (go_at_call 23; clear K7; refine (Laid_t x.win 2 t7 _ (by have := HX.out.win; omega) (by decide) (by decide) HT7.out).mono ?_; rintro e w1 ⟨rfl, b⟩; have HBX : Hid (Blk w1 w.heap.size 25 (segv x)) := Lib.hid (by refine Blk.below ?_ b ?_; exact HBX.out; exact HBX.out.lt); have HBB : Hid (Below w.heap.size w w1) := Lib.hid (by first | exact below_then HBB.out b | exact below_then HBB.out.drew b); clear b))
  obtain ⟨F2, hF2⟩ : ∃ F, F1 ++ t5 ++ t6 ++ t7 = F := ⟨_, rfl⟩
  rw [hF2]
  have zF2 : F2.size = 16 := by rw [← hF2, ByteArray.size_append]; omega
  have eF2 : F2 = txt x.pre := by
    rw [← hF2, ← HF1.out, ← HT1.out, ← HT2.out, ← HT3.out, ← HT4.out, ← HT5.out, ← HT6.out, ← HT7.out, HU.out]
    simp only [txt_app]; rfl
  have c10 : w1.cell? ⟨w.heap.size, 10, none⟩ = some (.string x.area) := HBX.out.cell 10
  have c11 : w1.cell? ⟨w.heap.size, 11, none⟩ = some (.string x.data) := HBX.out.cell 11
  have zz : (⟨#[0, 0]⟩ : ByteArray).size = 2 := rfl
  have zA : (⟨#[0, 0]⟩ ++ x.area : ByteArray).size = 2 + x.area.size := by rw [ByteArray.size_append]; rfl
  obtain ⟨R, hR⟩ : ∃ R, ⟨#[0, 0]⟩ ++ x.area ++ x.data = R := ⟨_, rfl⟩
  have zR : R.size = 2 + x.area.size + x.data.size := by rw [← hR, ByteArray.size_append, zA]
  have zG : (F2 ++ ⟨#[0, 0]⟩ : ByteArray).size = 18 := by rw [ByteArray.size_append, zF2]; rfl
  have q1 : x.area.size ≤ 40 := KK.out.1
  have q2 : x.data.size ≤ 1024 := KK.out.2
  have eG : F2 ++ ⟨#[0, 0]⟩ ++ R = txt (x.front 0 ++ x.rest) := by
    rw [← hR, eF2]
    apply txt_ext
    simp only [data_append]
    show x.pre ++ [0, 0] ++ ([0, 0] ++ x.area.data.toList ++ x.data.data.toList) = x.pre ++ [0, 0] ++ [0, 0] ++ (x.area.data.toList ++ x.data.data.toList)
    simp
  obtain ⟨G, hG⟩ : ∃ G, F2 ++ ⟨#[0, 0]⟩ ++ R = G := ⟨_, rfl⟩
  have zGs : G.size ≤ 1099511627776 := by rw [← hG, ByteArray.size_append]; omega
  have hsum : fold (tot G.data.toList) = x.sum := by rw [← hG, eG]; rfl
  obtain ⟨t8, h8⟩ : ∃ t, txt (be 2 x.check) = t := ⟨_, rfl⟩
  have z8 : t8.size = 2 := by rw [← h8, txt_size, be_length]
  have eB : F2 ++ t8 ++ R = txt x.bytes := by
    rw [← hR, eF2, ← h8]
    apply txt_ext
    simp only [data_append]
    show x.pre ++ be 2 x.check ++ ([0, 0] ++ x.area.data.toList ++ x.data.data.toList) = x.pre ++ be 2 x.check ++ [0, 0] ++ (x.area.data.toList ++ x.data.data.toList)
    simp
  have z28 : (F2 ++ t8).size = 18 := by rw [ByteArray.size_append]; omega
  have HEB := Lib.hid eB
  have HSUM := Lib.hid hsum
  have HT8 := Lib.hid h8
  have HGS := Lib.hid zGs
  have HCI := Lib.hid x.check_int
  have HSB := Lib.hid x.sum_b
  have HCL := Lib.hid x.check_le
  clear hF2 eF2 eG hsum h8 eB HF1 HT1 HT2 HT3 HT4 HT5 HT6 HT7 UEQ HU
  go_wp2_with fail
  refine (Of_ref G _ HGS.out).mono ?_
  rintro e V1 ⟨rfl, b⟩
  rw [HSUM.out]
  have B1 := Lib.hid (below_then HBB.out b)
  clear b
  obtain ⟨r, hr⟩ : ∃ r, r = x.sum := ⟨_, rfl⟩
  have r0 : 0 ≤ r := by rw [hr]; exact HSB.out.1
  have r1 : r ≤ 65535 := by rw [hr]; exact HSB.out.2
  have HCK := Lib.hid (show 65535 - r = (x.check : Int) by rw [hr, HCI.out])
  rw [← hr]
  clear hr
  go_wp2_with fail
  refine (Not_ref r r0 r1 _).mono ?_
  rintro e w' ⟨rfl, rfl⟩
  rw [HCK.out]
  have k0 : (x.check : Int) ≤ 65535 := by have := HCL.out; omega
  go_wp2_with fail
  refine (Laid_t x.check 2 t8 _ (by have := HCL.out; omega) (by decide) (by decide) HT8.out).mono ?_
  rintro e V2 ⟨rfl, b⟩
  have B2 := Lib.hid (below_then B1.out b)
  clear b
  go_wp2
  go_ret2
  exact ⟨by rw [HEB.out]; rfl, B2.out⟩

/-- The document's own Lay, of any segment. -/
theorem LayR_any (x : Sg) (w : World) (hx : x.Ok) :
    Calls Tryd.prog 10 #[.agg #[.int .i64 x.path, .int .u16 x.src, .int .u16 x.dst, .int .u32 x.seq, .int .u32 x.ack, .bool x.syn, .bool x.ackOn, .bool x.fin, .bool x.rst, .int .u16 x.win, .string x.area, .string x.data]] w fun e w' => e = .returned x.lay ∧ Below w.heap.size w w' := by
  cases hf : x.fits
  · exact LayR_f x w hx hf
  · exact LayR_t x w hx hf
end Go.Proofs.YthdcjcdgddejbaaDoor
