/-
  The fixed bytes of a segment, as package head makes them (fixedOf).
-/
import Derived.Test.YthdcjcdgddejbaaDoorHeadFlags
import Derived.Laws.CopyOwn
import Derived.Deep.RegionHeld3
namespace Go.Proofs.YthdcjcdgddejbaaDoor
open Go.ChangeShapes Go.WideShapes Go.ChangeAt Go.RowKit
set_option linter.unusedVariables false

theorem zeros20 : (#[.int .u8 0, .int .u8 0, .int .u8 0, .int .u8 0, .int .u8 0, .int .u8 0, .int .u8 0, .int .u8 0, .int .u8 0, .int .u8 0, .int .u8 0, .int .u8 0, .int .u8 0, .int .u8 0, .int .u8 0, .int .u8 0, .int .u8 0, .int .u8 0, .int .u8 0, .int .u8 0] : Array Value) = byv (List.replicate 20 0) := rfl
/-- What a segment's struct is, as cells. -/
abbrev segv (x : Sg) : Array Value := #[.int .i64 x.path, .int .u16 x.src, .int .u16 x.dst, .int .u32 x.seq, .int .u32 x.ack, .bool x.syn, .bool x.ackOn, .bool x.fin, .bool x.rst, .int .u16 x.win, .string x.area, .string x.data]

/-- Where fixedOf stands: its argument, its result's place, the bytes so far. -/
structure Fill (x : Sg) (w W : World) (l : List UInt8) : Prop where
  pos : 0 < w.heap.size
  box : Blk W w.heap.size 25 (segv x)
  res : Fx W (w.heap.size + 1) (List.replicate 20 0)
  cur : Fx W (w.heap.size + 1 + 1) l
  bel : Below w.heap.size w W
  tbl : Tbl W
namespace Fill
variable {x : Sg} {w W W' : World} {l l' : List UInt8}
theorem start (x : Sg) (w : World) (ht : Tbl w) : Fill x w (((w.alloc (.cells (segv x) 25)).alloc (.cells (byv (List.replicate 20 0)) 51)).alloc (.cells (byv (List.replicate 20 0)) 51)) (List.replicate 20 0) := by
  have e1 : (w.alloc (.cells (segv x) 25)).heap.size = w.heap.size + 1 := World.size_alloc _ _
  have e2 : ((w.alloc (.cells (segv x) 25)).alloc (.cells (byv (List.replicate 20 0)) 51)).heap.size = w.heap.size + 1 + 1 := by rw [World.size_alloc, e1]
  have b1 := Blk.new w 25 (segv x)
  have b2 := Fx.new (w.alloc (.cells (segv x) 25)) (List.replicate 20 0)
  have b3 := Fx.new ((w.alloc (.cells (segv x) 25)).alloc (.cells (byv (List.replicate 20 0)) 51)) (List.replicate 20 0)
  rw [e1] at b2
  rw [e2] at b3
  exact ⟨ht.lt, (b1.alloc _).alloc _, b2.alloc _, b3, (((Below.refl _ w).alloc (Nat.le_refl _) _).alloc (by rw [e1]; omega) _).alloc (by rw [e2]; omega) _, ((ht.alloc _).alloc _).alloc _⟩
theorem put (h : Fill x w W l) (hf : Fx W' (w.heap.size + 1 + 1) l') (hg : W.grownBy W' (some (w.heap.size + 1 + 1))) : Fill x w W' l' :=
  have hs := h.cur.lt
  have bb : Below w.heap.size W W' := below_of_only hg (by omega) (by omega)
  ⟨h.pos, h.box.grown hg (by simp; omega), h.res.grown hg (by simp), hf, h.bel.trans bb, h.tbl.under bb h.pos⟩
theorem more (h : Fill x w W l) (b : Below W.heap.size W W') : Fill x w W' l := ⟨h.pos, h.box.below b h.box.lt, h.res.below b h.res.lt, h.cur.below b h.cur.lt, below_then h.bel b, h.tbl.below b⟩
theorem as_ (h : Fill x w W l) (e : l = l') : Fill x w W l' := e ▸ h
end Fill
theorem seg_size : (Tryd.prog.info? 25).map (·.size) = some 12 := by kernel_rfl
theorem fix_size : (Tryd.prog.info? 51).map (·.size) = some 20 := by kernel_rfl

set_option maxHeartbeats 2000000 in
set_option maxRecDepth 100000 in
theorem fixedOf_any (x : Sg) (w : World) (hx : x.Ok) (ha : x.area.size ≤ 40) (ht : Tbl w) :
    Calls Tryd.prog 18 #[.agg #[.int .i64 x.path, .int .u16 x.src, .int .u16 x.dst, .int .u32 x.seq, .int .u32 x.ack, .bool x.syn, .bool x.ackOn, .bool x.fin, .bool x.rst, .int .u16 x.win, .string x.area, .string x.data]] w fun e w' => e = .returned (.agg (byv (x.front 0))) ∧ Below w.heap.size w w' := by
  have HX := Lib.hid hx
  have h1 : (x.src : Int) ≤ 65535 := by have := hx.src; omega
  have h2 : (x.dst : Int) ≤ 65535 := by have := hx.dst; omega
  have h3 : (x.win : Int) ≤ 65535 := by have := hx.win; omega
  have HM := Lib.hid (Fill.start x w ht)
  clear hx ht
  go_enter Tryd.func18, Tryd.ntmps18
  go_wp2_with fail
  rw [zeros20]
  obtain ⟨W0, hW0⟩ : ∃ W0, W0 = (((w.alloc (.cells (segv x) 25)).alloc (.cells (byv (List.replicate 20 0)) 51)).alloc (.cells (byv (List.replicate 20 0)) 51)) := ⟨_, rfl⟩
  have M0 : Fill x w W0 ([] ++ List.replicate 2 0 ++ List.replicate 18 0) := by rw [hW0]; exact HM.out
  rw [← hW0]
  have HM0 := Lib.hid M0
  clear hW0 HM M0
  have c0 : W0.cell? ⟨w.heap.size, 1, none⟩ = some (.int .u16 x.src) := HM0.out.box.cell 1
  go_wp2_with fail
  refine (put_any (w.heap.size + 1 + 1) 0 2 2 x.src ([]) (List.replicate 2 0) (List.replicate 18 0) _ rfl (by decide) rfl rfl rfl (by have := HX.out.src; omega) HM0.out.cur).mono ?_
  rintro e W1 ⟨rfl, hf, hg⟩
  have M1 : Fill x w W1 ([] ++ be 2 x.src ++ List.replicate 2 0 ++ List.replicate 16 0) := (HM0.out.put hf hg).as_ (by rw [List.append_assoc (_ ++ _) (List.replicate 2 0)]; rfl)
  have HM1 := Lib.hid M1
  clear hf hg M1 c0
  have c1 : W1.cell? ⟨w.heap.size, 2, none⟩ = some (.int .u16 x.dst) := HM1.out.box.cell 2
  go_wp2_with fail
  refine (put_any (w.heap.size + 1 + 1) 2 2 4 x.dst ([] ++ be 2 x.src) (List.replicate 2 0) (List.replicate 16 0) _ rfl (by decide) (by simp [be_length]) rfl (by simp [be_length]) (by have := HX.out.dst; omega) HM1.out.cur).mono ?_
  rintro e W2 ⟨rfl, hf, hg⟩
  have M2 : Fill x w W2 ([] ++ be 2 x.src ++ be 2 x.dst ++ List.replicate 4 0 ++ List.replicate 12 0) := (HM1.out.put hf hg).as_ (by rw [List.append_assoc (_ ++ _) (List.replicate 4 0)]; rfl)
  have HM2 := Lib.hid M2
  clear hf hg M2 c1
  have c2 : W2.cell? ⟨w.heap.size, 3, none⟩ = some (.int .u32 x.seq) := HM2.out.box.cell 3
  go_wp2_with fail
  refine (put_any (w.heap.size + 1 + 1) 4 4 8 x.seq ([] ++ be 2 x.src ++ be 2 x.dst) (List.replicate 4 0) (List.replicate 12 0) _ rfl (by decide) (by simp [be_length]) rfl (by simp [be_length]) (by have := HX.out.seq; omega) HM2.out.cur).mono ?_
  rintro e W3 ⟨rfl, hf, hg⟩
  have M3 : Fill x w W3 ([] ++ be 2 x.src ++ be 2 x.dst ++ be 4 x.seq ++ List.replicate 4 0 ++ List.replicate 8 0) := (HM2.out.put hf hg).as_ (by rw [List.append_assoc (_ ++ _) (List.replicate 4 0)]; rfl)
  have HM3 := Lib.hid M3
  clear hf hg M3 c2
  have c3 : W3.cell? ⟨w.heap.size, 4, none⟩ = some (.int .u32 x.ack) := HM3.out.box.cell 4
  go_wp2_with fail
  refine (put_any (w.heap.size + 1 + 1) 8 4 12 x.ack ([] ++ be 2 x.src ++ be 2 x.dst ++ be 4 x.seq) (List.replicate 4 0) (List.replicate 8 0) _ rfl (by decide) (by simp [be_length]) rfl (by simp [be_length]) (by have := HX.out.ack; omega) HM3.out.cur).mono ?_
  rintro e W4 ⟨rfl, hf, hg⟩
  have M4 : Fill x w W4 ([] ++ be 2 x.src ++ be 2 x.dst ++ be 4 x.seq ++ be 4 x.ack ++ List.replicate 1 0 ++ List.replicate 7 0) := (HM3.out.put hf hg).as_ (by rw [List.append_assoc (_ ++ _) (List.replicate 1 0)]; rfl)
  have HM4 := Lib.hid M4
  clear hf hg M4 c3
  have c4 : W4.cell? ⟨w.heap.size, 10, none⟩ = some (.string x.area) := HM4.out.box.cell 10
  go_wp2_with fail
  rw [show (20 + (x.area.size : Int)) / 4 * 16 = (((20 + x.area.size) / 4 * 16 : Nat) : Int) by omega]
  refine (put_any (w.heap.size + 1 + 1) 12 1 13 ((20 + x.area.size) / 4 * 16) ([] ++ be 2 x.src ++ be 2 x.dst ++ be 4 x.seq ++ be 4 x.ack) (List.replicate 1 0) (List.replicate 7 0) _ rfl (by decide) (by simp [be_length]) rfl (by simp [be_length]) (by omega) HM4.out.cur).mono ?_
  rintro e W5 ⟨rfl, hf, hg⟩
  have M5 : Fill x w W5 ([] ++ be 2 x.src ++ be 2 x.dst ++ be 4 x.seq ++ be 4 x.ack ++ be 1 ((20 + x.area.size) / 4 * 16) ++ List.replicate 1 0 ++ List.replicate 6 0) := (HM4.out.put hf hg).as_ (by rw [List.append_assoc (_ ++ _) (List.replicate 1 0)]; rfl)
  have HM5 := Lib.hid M5
  clear hf hg M5 c4
  go_wp2_with (refine wpList_load_row rfl 25 _ rfl w.heap.size rfl 25 (segv x) (0, 0) _ HM5.out.box Tryd.underlying25 rfl seg_size ?_)
  refine (flagsOf_any x _ HM5.out.tbl).mono ?_
  rintro e W5f ⟨rfl, bf⟩
  have HM5f := Lib.hid (HM5.out.more bf)
  clear bf
  go_wp2_with fail
  refine (put_any (w.heap.size + 1 + 1) 13 1 14 x.flags ([] ++ be 2 x.src ++ be 2 x.dst ++ be 4 x.seq ++ be 4 x.ack ++ be 1 ((20 + x.area.size) / 4 * 16)) (List.replicate 1 0) (List.replicate 6 0) _ rfl (by decide) (by simp [be_length]) rfl (by simp [be_length]) (by have := x.flags_le; omega) HM5f.out.cur).mono ?_
  rintro e W6 ⟨rfl, hf, hg⟩
  have M6 : Fill x w W6 ([] ++ be 2 x.src ++ be 2 x.dst ++ be 4 x.seq ++ be 4 x.ack ++ be 1 ((20 + x.area.size) / 4 * 16) ++ be 1 x.flags ++ List.replicate 2 0 ++ List.replicate 4 0) := (HM5f.out.put hf hg).as_ (by rw [List.append_assoc (_ ++ _) (List.replicate 2 0)]; rfl)
  have HM6 := Lib.hid M6
  clear hf hg M6
  have c6 : W6.cell? ⟨w.heap.size, 9, none⟩ = some (.int .u16 x.win) := HM6.out.box.cell 9
  go_wp2_with fail
  refine (put_any (w.heap.size + 1 + 1) 14 2 16 x.win ([] ++ be 2 x.src ++ be 2 x.dst ++ be 4 x.seq ++ be 4 x.ack ++ be 1 ((20 + x.area.size) / 4 * 16) ++ be 1 x.flags) (List.replicate 2 0) (List.replicate 4 0) _ rfl (by decide) (by simp [be_length]) rfl (by simp [be_length]) (by have := HX.out.win; omega) HM6.out.cur).mono ?_
  rintro e W7 ⟨rfl, hf, hg⟩
  have M7 : Fill x w W7 ([] ++ be 2 x.src ++ be 2 x.dst ++ be 4 x.seq ++ be 4 x.ack ++ be 1 ((20 + x.area.size) / 4 * 16) ++ be 1 x.flags ++ be 2 x.win ++ List.replicate 2 0 ++ List.replicate 2 0) := (HM6.out.put hf hg).as_ (by rw [List.append_assoc (_ ++ _) (List.replicate 2 0)]; rfl)
  have HM7 := Lib.hid M7
  clear hf hg M7 c6
  have M8 : Fill x w W7 (x.front 0) := HM7.out.as_ rfl
  have HM8 := Lib.hid M8
  clear HM0 HM1 HM2 HM3 HM4 HM5 HM5f HM6 HM7 M8
  have hl := x.front_length 0
  have hi : (Tryd.prog.info? 51).map (·.size) = some (byv (x.front 0)).size := by rw [byv_size, hl]; exact fix_size
  have hz : (byv (List.replicate 20 0)).size = (byv (x.front 0)).size := by rw [byv_size, byv_size, hl]; rfl
  have HR8 := Lib.hid (HM8.out.res.row (x.front 0))
  have HB8 := Lib.hid (below_setRow HM8.out.bel (by omega : w.heap.size ≤ w.heap.size + 1) (byv (x.front 0)))
  have HI := Lib.hid hi
  have HZ := Lib.hid hz
  clear hl hi hz
  go_wp2_with (first
    | refine wpList_load_row rfl 51 _ rfl (w.heap.size + 1 + 1) rfl 51 (byv (x.front 0)) (0, 0) _ HM8.out.cur fixed_under rfl HI.out ?_
    | refine wpList_store_row rfl 51 _ _ rfl (w.heap.size + 1) (byv (x.front 0)) rfl rfl 51 _ HM8.out.res HI.out HZ.out (byv_one _) ?_)
  refine bodyPost_ret (results_cell_row rfl _ _ (w.heap.size + 1) 51 (byv (x.front 0)) (0, 0) _ rfl HR8.out fixed_under rfl HI.out) rfl ⟨rfl, HB8.out⟩

theorem quiet_ {P : Program} {f : FuncId} {args : Array Value} {w : World} {n : Nat} {v : Value}
    (h : Calls P f args (w.drewN n) fun e w' => e = .returned v ∧ w.drewN n = w') : Calls P f args (w.drewN n) fun e w'' => e = .returned v ∧ ∃ m, w'' = w.drewN m :=
  Calls.quiet_of_same (h.mono fun _ _ x => ⟨x.1, x.2.symm⟩)
/-- What 'Lay' answers. -/
def Sg.lay (x : Sg) : Value := if x.fits then .tuple #[.string (txt x.bytes), .int .i64 0] else .tuple #[.string ⟨#[]⟩, .int .i64 6]
theorem Sg.lay_t (x : Sg) (h : x.fits = true) : x.lay = .tuple #[.string (txt x.bytes), .int .i64 0] := by rw [Sg.lay, if_pos h]
theorem Sg.lay_f (x : Sg) (h : x.fits = false) : x.lay = .tuple #[.string ⟨#[]⟩, .int .i64 6] := by rw [Sg.lay, h]; rfl
theorem Sg.fits_t (x : Sg) (h : x.fits = true) : x.area.size ≤ 40 ∧ x.area.size % 4 = 0 ∧ x.data.size ≤ 1024 := by
  simp [Sg.fits] at h; exact ⟨h.1, h.2.1, h.2.2⟩
theorem Sg.fits_f (x : Sg) (h : x.fits = false) : 40 < x.area.size ∨ (x.area.size ≤ 40 ∧ x.area.size % 4 ≠ 0) ∨ (x.area.size ≤ 40 ∧ x.area.size % 4 = 0 ∧ 1024 < x.data.size) := by
  rw [Bool.eq_false_iff] at h
  simp [Sg.fits] at h
  by_cases h1 : x.area.size ≤ 40
  · by_cases h2 : x.area.size % 4 = 0
    · exact .inr (.inr ⟨h1, h2, h h1 h2⟩)
    · exact .inr (.inl ⟨h1, h2⟩)
  · exact .inl (by omega)

set_option maxHeartbeats 2000000 in
theorem Lay_f (x : Sg) (w : World) (hx : x.Ok) (hf : x.fits = false) :
    Calls Tryd.prog 9 #[.agg #[.int .i64 x.path, .int .u16 x.src, .int .u16 x.dst, .int .u32 x.seq, .int .u32 x.ack, .bool x.syn, .bool x.ackOn, .bool x.fin, .bool x.rst, .int .u16 x.win, .string x.area, .string x.data]] w fun e w' => e = .returned x.lay ∧ Below w.heap.size w w' := by
  rw [x.lay_f hf]
  have h1 := hx.area
  have h2 := hx.data
  rcases x.fits_f hf with h | ⟨h, k⟩ | ⟨h, k, l⟩
  · have d1 : decide ((40 : Int) < (x.area.size : Int)) = true := by simp; omega
    clear hx hf h
    go_enter Tryd.func9, Tryd.ntmps9
    go_wp2
    go_ret2; exact ⟨rfl, (Below.refl _ w).alloc (Nat.le_refl _) _⟩
  · have d1 : decide ((40 : Int) < (x.area.size : Int)) = false := by simp; omega
    have d2 : ((x.area.size : Int) % 4 != 0) = true := by simp; omega
    clear hx hf h k
    go_enter Tryd.func9, Tryd.ntmps9
    go_wp2
    go_ret2; exact ⟨rfl, (Below.refl _ w).alloc (Nat.le_refl _) _⟩
  · have d1 : decide ((40 : Int) < (x.area.size : Int)) = false := by simp; omega
    have d2 : ((x.area.size : Int) % 4 != 0) = false := by simp; omega
    have d3 : decide ((1024 : Int) < (x.data.size : Int)) = true := by simp; omega
    clear hx hf h k l
    go_enter Tryd.func9, Tryd.ntmps9
    go_wp2
    go_ret2; exact ⟨rfl, (Below.refl _ w).alloc (Nat.le_refl _) _⟩

set_option maxHeartbeats 2000000 in
set_option maxRecDepth 100000 in
theorem Lay_t (x : Sg) (w : World) (hx : x.Ok) (hf : x.fits = true) (ht : Tbl w) :
    Calls Tryd.prog 9 #[.agg #[.int .i64 x.path, .int .u16 x.src, .int .u16 x.dst, .int .u32 x.seq, .int .u32 x.ack, .bool x.syn, .bool x.ackOn, .bool x.fin, .bool x.rst, .int .u16 x.win, .string x.area, .string x.data]] w fun e w' => e = .returned x.lay ∧ Below w.heap.size w w' := by
  rw [x.lay_t hf]
  obtain ⟨k1, k2, k3⟩ := x.fits_t hf
  have d1 : decide ((40 : Int) < (x.area.size : Int)) = false := by simp; omega
  have d2 : ((x.area.size : Int) % 4 != 0) = false := by simp; omega
  have d3 : decide ((1024 : Int) < (x.data.size : Int)) = false := by simp; omega
  have HX := Lib.hid hx
  have HT := Lib.hid ht
  have K1 := Lib.hid k1
  have K3 := Lib.hid k3
  clear hx ht hf k1 k2 k3
  go_enter Tryd.func9, Tryd.ntmps9
  go_wp2_with (refine wpList_load_row rfl 25 _ rfl w.heap.size rfl 25 (segv x) (0, 0) _ (Blk.new w _ _) Tryd.underlying25 rfl seg_size ?_)
  refine (fixedOf_any x _ HX.out K1.out (HT.out.alloc _)).mono ?_
  rintro e W1 ⟨rfl, b1⟩
  have HBX := Lib.hid ((Blk.new w 25 (segv x)).below b1 (Blk.new w 25 (segv x)).lt)
  have HB1 := Lib.hid (below_then ((Below.refl _ w).alloc (Nat.le_refl _) _) b1)
  have HT1 := Lib.hid ((HT.out.alloc _).below b1)
  clear b1 d1 d2 d3
  obtain ⟨l, hl⟩ : ∃ l, l = x.front 0 := ⟨_, rfl⟩
  have hl0 : l.length = 20 := by rw [hl]; exact x.front_length 0
  rw [← hl]
  obtain ⟨t, ht⟩ : ∃ t, txt l = t := ⟨_, rfl⟩
  have HL0 := Lib.hid hl0
  have HT0 := Lib.hid ht
  have HE0 := Lib.hid (show l = x.pre ++ [0, 0] ++ [0, 0] from hl)
  have hfl : flat [t, x.area, x.data] = l ++ x.rest := by rw [← ht, flat_cons, flat_cons, flat_one]; rfl
  have hsz : (flat [t, x.area, x.data]).length ≤ 1099511627776 := by
    rw [hfl, List.length_append, hl0, x.rest_length]
    have h2 := K1.out
    have h3 := K3.out
    omega
  have hr : fold (tot (flat [t, x.area, x.data])) = x.sum := by rw [hfl, hl]; rfl
  have rb := x.sum_b
  obtain ⟨r, hrr⟩ : ∃ r, r = x.sum := ⟨_, rfl⟩
  rw [← hrr] at hr rb
  have HC := Lib.hid (show IntKind.u32.wrap (65535 - r) = (x.check : Int) by rw [IntKind.wrap_u32, hrr, ← x.check_int]; have := x.check_le; omega)
  have HS := Lib.hid hsz
  have HR := Lib.hid hr
  obtain ⟨r0, r1⟩ := rb
  clear hl hl0 ht hfl hsz hr hrr
  go_wp2_with (refine wpList_store_row rfl 51 _ _ rfl W1.heap.size (byv l) rfl rfl 51 _ (heap_alloc_new W1 _) (by rw [byv_size, HL0.out]; exact fix_size) (by rw [byv_size, HL0.out]; rfl) (byv_one _) ?_)
  have F2' : Fx ((W1.alloc (.cells (byv (List.replicate 20 0)) 51)).setRow W1.heap.size (byv l)) W1.heap.size l := (Fx.new W1 (List.replicate 20 0)).row l
  have B2' : Below W1.heap.size W1 ((W1.alloc (.cells (byv (List.replicate 20 0)) 51)).setRow W1.heap.size (byv l)) := below_setRow ((Below.refl _ W1).alloc (Nat.le_refl _) _) (Nat.le_refl _) _
  obtain ⟨W2, hW2⟩ : ∃ W2, W2 = (W1.alloc (.cells (byv (List.replicate 20 0)) 51)).setRow W1.heap.size (byv l) := ⟨_, rfl⟩
  rw [zeros20, ← hW2]
  rw [← hW2] at F2' B2'
  obtain ⟨g, hg⟩ : ∃ g, g = W1.heap.size := ⟨_, rfl⟩
  rw [← hg] at F2' ⊢
  have G1 := Lib.hid (show w.heap.size < g by rw [hg]; exact HBX.out.lt)
  have G2 := Lib.hid F2'.lt
  have HF := Lib.hid F2'
  have HB := Lib.hid (HBX.out.below B2' HBX.out.lt)
  have HB2 := Lib.hid (below_then HB1.out B2')
  clear F2' B2' hW2 hg HBX HB1 HT1
  go_region_held3 (fun w' => w'.cell? ⟨w.heap.size, 10, none⟩ = some (.string x.area) ∧ w'.cell? ⟨w.heap.size, 11, none⟩ = some (.string x.data))
    (first | exact ⟨HB.out.cell 10, HB.out.cell 11⟩ | exact ⟨(HB.out.alloc _).cell 10, (HB.out.alloc _).cell 11⟩ | exact ⟨HB3.out.cell 10, HB3.out.cell 11⟩ | exact ⟨HB4.out.cell 10, HB4.out.cell 11⟩)
    (first
      | (go_at_call 22; refine (text_any g l t _ HL0.out HT0.out ?_).mono ?_; exact HF.out; rintro e w' ⟨rfl, rfl⟩)
      | (go_at_call 21; refine (Of_any _ [t, x.area, x.data] r _ ?_ HS.out ?_ HR.out).mono ?_; exact Row.drew (Row.built _ _ rfl); simp; rintro e w3 ⟨rfl, b3⟩; have HB3 := Lib.hid (Blk.below (HB.out.alloc _).drew b3 (HB.out.alloc _).drew.lt); have HF3 := Lib.hid (Fx.below (Blk.drew (HF.out.alloc _)) b3 (Blk.drew (HF.out.alloc _)).lt); have HBB3 := Lib.hid (below_then (((Below.refl W2.heap.size W2).alloc (Nat.le_refl _) _).drew) b3); clear b3)
      | (go_at_call 20; refine (Not_any r r0 r1 _).mono ?_; rintro e w' ⟨rfl, rfl⟩)
      | (go_at_call 19; rw [HC.out]; refine (put_any g 16 2 18 x.check x.pre [0, 0] [0, 0] _ rfl (by decide) x.pre_length rfl (by rw [← HE0.out]; exact HL0.out) (by have := x.check_le; omega) (by rw [← HE0.out]; exact HF3.out)).mono ?_; rintro e w4 ⟨rfl, f4, g4⟩; have HB4 := Lib.hid (HB3.out.grown g4 (by have := G1.out; simp; omega)); have HF4 := Lib.hid (show Fx w4 g (x.front x.check) from f4); have HBB4 := Lib.hid ((below_then HB2.out HBB3.out).trans (below_of_only g4 (show w.heap.size ≤ g by have := G1.out; omega) (by have := HB3.out.lt; omega))); clear f4 g4))
  obtain ⟨t2, ht2⟩ : ∃ t, txt (x.front x.check) = t := ⟨_, rfl⟩
  have s2 : t2.size = 20 := by rw [← ht2, txt_size, x.front_length]
  have z1 : t2.size + x.area.size ≤ 60 := by have := K1.out; omega
  have z2 : (t2 ++ x.area).size + x.data.size ≤ 1084 := by have := K1.out; have := K3.out; rw [ByteArray.size_append]; omega
  have ea : t2 ++ x.area ++ x.data = txt x.bytes := by rw [← ht2, txt_append, txt_append, List.append_assoc]; rfl
  have HT2 := Lib.hid ht2
  have HEA := Lib.hid ea
  have HL2 := Lib.hid (x.front_length x.check)
  have c10 := HB4.out.cell 10
  have c11 := HB4.out.cell 11
  clear ht2 s2 ea HB HF HB2 HB3 HF3 HBB3 HC HS HR HT0 HE0 HL0 r0 r1
  go_wp2
  go_quiet ((go_at_call 22; refine quiet_ (text_any g (x.front x.check) t2 _ HL2.out HT2.out ?_); exact HF4.out))
  go_wp2
  go_ret2
  exact ⟨by rw [HEA.out]; rfl, below_drewN HBB4.out _⟩

/-- 'Lay', of any segment. -/
theorem Lay_any (x : Sg) (w : World) (hx : x.Ok) (ht : Tbl w) :
    Calls Tryd.prog 9 #[.agg #[.int .i64 x.path, .int .u16 x.src, .int .u16 x.dst, .int .u32 x.seq, .int .u32 x.ack, .bool x.syn, .bool x.ackOn, .bool x.fin, .bool x.rst, .int .u16 x.win, .string x.area, .string x.data]] w fun e w' => e = .returned x.lay ∧ Below w.heap.size w w' := by
  cases hf : x.fits
  · exact Lay_f x w hx hf
  · exact Lay_t x w hx hf ht

/-- How many sequence numbers a segment takes. -/
def Sg.long (x : Sg) : Int := (x.data.size : Int) + (if x.syn then 1 else 0) + (if x.fin then 1 else 0)
theorem Long_any (x : Sg) (w : World) (hx : x.Ok) :
    Calls Tryd.prog 11 #[.agg #[.int .i64 x.path, .int .u16 x.src, .int .u16 x.dst, .int .u32 x.seq, .int .u32 x.ack, .bool x.syn, .bool x.ackOn, .bool x.fin, .bool x.rst, .int .u16 x.win, .string x.area, .string x.data]] w fun e w' => e = .returned (.int .i64 x.long) ∧ Below w.heap.size w w' := by
  have h := hx.data
  clear hx
  unfold Sg.long
  obtain ⟨path, src, dst, seq, ack, syn, ackOn, fin, rst, win, area, data⟩ := x
  dsimp only at h ⊢
  cases syn <;> cases fin <;>
  · go_enter Tryd.func11, Tryd.ntmps11
    go_wp2
    go_ret; exact ⟨ret_int (by simp <;> omega), (Below.refl _ w).alloc (Nat.le_refl _) _⟩
end Go.Proofs.YthdcjcdgddejbaaDoor
