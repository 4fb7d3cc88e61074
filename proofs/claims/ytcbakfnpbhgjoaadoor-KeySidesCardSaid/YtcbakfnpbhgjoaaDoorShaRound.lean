/-
  What a round answers (sha.round), by its walk.
-/
import Derived.Test.YtcbakfnpbhgjoaaDoorShaBits
import Derived.Laws.Tables
namespace Go.Proofs.YtcbakfnpbhgjoaaDoor
open Go.ChangeShapes Go.WideShapes Go.ChangeAt Go.RowKit
set_option linter.unusedVariables false

/-- Eight words, as cells. -/
abbrev wsv (s : Ws) : Array Value := #[.int .u32 (s.a : Int), .int .u32 (s.b : Int), .int .u32 (s.c : Int), .int .u32 (s.d : Int), .int .u32 (s.e : Int), .int .u32 (s.f : Int), .int .u32 (s.g : Int), .int .u32 (s.h : Int)]

theorem wsv_ext {a b c d e f g h : Int} {s : Ws} (ha : a = s.a) (hb : b = s.b) (hc : c = s.c) (hd : d = s.d) (he : e = s.e) (hf : f = s.f) (hg : g = s.g) (hh : h = s.h) :
    (#[.int .u32 a, .int .u32 b, .int .u32 c, .int .u32 d, .int .u32 e, .int .u32 f, .int .u32 g, .int .u32 h] : Array Value) = wsv s := by subst ha hb hc hd he hf hg hh; rfl
theorem up_cast (s : Ws) (x X C : Nat) (hX : X = bg1 MW s.e) (hC : C = chs MW s.e s.f s.g) : ((s.h : Int) + X + C + x) % 4294967296 = ((s.up MW x : Nat) : Int) := by
  rw [Ws.up, and_MW, ← hX, ← hC]; omega
theorem vp_cast (s : Ws) (Y M : Nat) (hY : Y = bg0 MW s.a) (hM : M = mjs s.a s.b s.c) : ((Y : Int) + M) % 4294967296 = ((s.vp MW : Nat) : Int) := by
  rw [Ws.vp, and_MW, ← hY, ← hM]; omega
theorem sum_cast (a b : Nat) : ((a : Int) + b) % 4294967296 = (((a + b) &&& MW : Nat) : Int) := by rw [and_MW]; omega

theorem eight_size : (Tryd.prog.info? 93).map (·.size) = some 8 := by kernel_rfl
theorem eight_under : Tryd.prog.underlying 93 = some (.array (Tryd.prog.arrayLen 93) (Tryd.prog.elem 93)) := by kernel_rfl
theorem below_setRow {B : Nat} {w W : World} {g : Nat} (h : Below B w W) (hg : B ≤ g) (cs : Array Value) : Below B w (W.setRow g cs) :=
  h.trans ⟨rfl, rfl, rfl, by simp, fun k hk => setRow_other W g k cs fun e => by omega⟩

set_option maxHeartbeats 2000000 in
theorem round_any (s : Ws) (x : Nat) (hs : s.Ok) (hx : x ≤ MW) (w : World) :
    Calls Tryd.prog 86 #[.agg (wsv s), .int .u32 (x : Int)] w fun e w' => e = .returned (.agg (wsv (s.step MW x))) ∧ Below w.heap.size w w' := by
  obtain ⟨a, b, c, d, e, f, g, q⟩ := s
  obtain ⟨ha, hb, hc, hd, he, hf, hg, hh⟩ := hs
  dsimp only at ha hb hc hd he hf hg hh
  have eC := or_chs e f g he hf hg
  have eM := or_mjs a b c ha hb hc
  go_enter Tryd.func86, Tryd.ntmps86
  go_wp2_with fail
  obtain ⟨W0, hW0⟩ : ∃ W0, W0 = ((w.alloc (Obj.cells (wsv ⟨a, b, c, d, e, f, g, q⟩) 93)).alloc (Obj.cells (wsv ⟨0, 0, 0, 0, 0, 0, 0, 0⟩) 93)) := ⟨_, rfl⟩
  have B0 : Blk W0 w.heap.size 93 (wsv ⟨a, b, c, d, e, f, g, q⟩) := by rw [hW0]; exact (Blk.new w _ _).alloc _
  have R0 : Blk W0 (w.heap.size + 1) 93 (wsv ⟨0, 0, 0, 0, 0, 0, 0, 0⟩) := by
    rw [hW0]; have := Blk.new (w.alloc (Obj.cells (wsv ⟨a, b, c, d, e, f, g, q⟩) 93)) 93 (wsv ⟨0, 0, 0, 0, 0, 0, 0, 0⟩); rwa [World.size_alloc] at this
  have L0 : Below w.heap.size w W0 := by rw [hW0]; exact ((Below.refl _ w).alloc (Nat.le_refl _) _).alloc (by simp) _
  have c0 : W0.cell? ⟨w.heap.size, 0, none⟩ = some (.int .u32 (a : Int)) := B0.cell 0
  have c1 : W0.cell? ⟨w.heap.size, 1, none⟩ = some (.int .u32 (b : Int)) := B0.cell 1
  have c2 : W0.cell? ⟨w.heap.size, 2, none⟩ = some (.int .u32 (c : Int)) := B0.cell 2
  have c3 : W0.cell? ⟨w.heap.size, 3, none⟩ = some (.int .u32 (d : Int)) := B0.cell 3
  have c4 : W0.cell? ⟨w.heap.size, 4, none⟩ = some (.int .u32 (e : Int)) := B0.cell 4
  have c5 : W0.cell? ⟨w.heap.size, 5, none⟩ = some (.int .u32 (f : Int)) := B0.cell 5
  have c6 : W0.cell? ⟨w.heap.size, 6, none⟩ = some (.int .u32 (g : Int)) := B0.cell 6
  have c7 : W0.cell? ⟨w.heap.size, 7, none⟩ = some (.int .u32 (q : Int)) := B0.cell 7
  have HR := Lib.hid R0
  have HL := Lib.hid L0
  change Code.wp _ _ _ _ ((w.alloc (Obj.cells (wsv ⟨a, b, c, d, e, f, g, q⟩) 93)).alloc (Obj.cells (wsv ⟨0, 0, 0, 0, 0, 0, 0, 0⟩) 93))
  rw [← hW0]
  clear hW0 B0 R0 L0
  go_quiet (fail)
  clear c0 c1 c2 c3 c4 c5 c6 c7
  obtain ⟨W1, hW1⟩ : ∃ W1, W1 = W0.drewN nq := ⟨_, rfl⟩
  have R1 : Blk W1 (w.heap.size + 1) 93 (wsv ⟨0, 0, 0, 0, 0, 0, 0, 0⟩) := by rw [hW1]; exact HR.out.drewN _
  have L1 : Below w.heap.size w W1 := by rw [hW1]; exact below_drewN HL.out _
  rw [← hW1]
  have HR1 := Lib.hid R1
  have HL1 := Lib.hid L1
  clear hW1 R1 L1 HR HL
  go_wp2_with (go_at_call 100; refine (rotated_i _ e he (by decide) (by decide) _).mono ?_; rintro e' w' ⟨rfl, rfl⟩)
  refine (xor_any _ _ _ _ _ _ (rot_le 6 e) (rot_le 11 e) (rot_le 25 e) (Blk.new W1 _ _)).mono ?_
  rintro e' W2 ⟨rfl, hW2⟩
  have HR2 := Lib.hid (show Blk W2 (w.heap.size + 1) 93 (wsv ⟨0, 0, 0, 0, 0, 0, 0, 0⟩) by rw [← hW2]; exact HR1.out.alloc _)
  have HL2 := Lib.hid (show Below w.heap.size w W2 by rw [← hW2]; exact HL1.out.alloc HL1.out.size _)
  clear hW2 HR1 HL1
  go_wp2_with (go_at_call 100; refine (rotated_i _ a ha (by decide) (by decide) _).mono ?_; rintro e' w' ⟨rfl, rfl⟩)
  refine (xor_any _ _ _ _ _ _ (rot_le 2 a) (rot_le 13 a) (rot_le 22 a) (Blk.new W2 _ _)).mono ?_
  rintro e' W3 ⟨rfl, hW3⟩
  have HR3 := Lib.hid (show Blk W3 (w.heap.size + 1) 93 (wsv ⟨0, 0, 0, 0, 0, 0, 0, 0⟩) by rw [← hW3]; exact HR2.out.alloc _)
  have HL3 := Lib.hid (show Below w.heap.size w W3 by rw [← hW3]; exact HL2.out.alloc HL2.out.size _)
  clear hW3 HR2 HL2
  obtain ⟨cs, hcs⟩ : ∃ cs : Array Value, cs = #[.int .u32 ((((q : Int) + ((rot MW 6 e ^^^ rot MW 11 e ^^^ rot MW 25 e : Nat) : Int) + ((chs MW e f g : Nat) : Int) + (x : Int)) + (((rot MW 2 a ^^^ rot MW 13 a ^^^ rot MW 22 a : Nat) : Int) + ((mjs a b c : Nat) : Int))) % 4294967296), .int .u32 (a : Int), .int .u32 (b : Int), .int .u32 (c : Int), .int .u32 (((d : Int) + ((q : Int) + ((rot MW 6 e ^^^ rot MW 11 e ^^^ rot MW 25 e : Nat) : Int) + ((chs MW e f g : Nat) : Int) + (x : Int))) % 4294967296), .int .u32 (e : Int), .int .u32 (f : Int), .int .u32 (g : Int)] := ⟨_, rfl⟩
  have hz : (Tryd.prog.info? 93).map (·.size) = some cs.size := by rw [hcs]; exact eight_size
  have ho : (wsv ⟨0, 0, 0, 0, 0, 0, 0, 0⟩).size = cs.size := by rw [hcs]; rfl
  have h1 : cs.all (·.oneCell') = true := by rw [hcs]; simp [Value.oneCell']
  have HCS := Lib.hid hcs
  have HS := Lib.hid (show Blk (W3.setRow (w.heap.size + 1) cs) (w.heap.size + 1) 93 cs from setRow_heap _ _ _ _ _ _ HR3.out)
  have HB := Lib.hid (below_setRow HL3.out (by omega : w.heap.size ≤ w.heap.size + 1) cs)
  have HZ := Lib.hid hz
  have HO := Lib.hid ho
  have H1 := Lib.hid h1
  clear hcs hz ho h1
  go_wp2_with (refine wpList_store_row rfl 93 (.tmp 4) (.tmp 84) rfl (w.heap.size + 1) cs ?_ ?_ 93 _ HR3.out HZ.out HO.out H1.out ?_; rotate_left 2)
  · refine bodyPost_ret (results_cell_row rfl _ _ (w.heap.size + 1) 93 _ (0, 0) _ rfl HS.out eight_under rfl HZ.out) rfl ⟨?_, HB.out⟩
    have E := wsv_ext (s := Ws.step MW ⟨a, b, c, d, e, f, g, q⟩ x) (a := (((q : Int) + ((rot MW 6 e ^^^ rot MW 11 e ^^^ rot MW 25 e : Nat) : Int) + ((chs MW e f g : Nat) : Int) + (x : Int)) + (((rot MW 2 a ^^^ rot MW 13 a ^^^ rot MW 22 a : Nat) : Int) + ((mjs a b c : Nat) : Int))) % 4294967296) (b := a) (c := b) (d := c) (e := ((d : Int) + ((q : Int) + ((rot MW 6 e ^^^ rot MW 11 e ^^^ rot MW 25 e : Nat) : Int) + ((chs MW e f g : Nat) : Int) + (x : Int))) % 4294967296) (f := e) (g := f) (h := g) (by simp only [Ws.step, Ws.up, Ws.vp, and_MW, bg1, bg0]; omega) rfl rfl rfl (by simp only [Ws.step, Ws.up, and_MW, bg1]; omega) rfl rfl rfl
    rw [HCS.out, E]
  · rfl
  · rw [HCS.out]; rfl
end Go.Proofs.YtcbakfnpbhgjoaaDoor
