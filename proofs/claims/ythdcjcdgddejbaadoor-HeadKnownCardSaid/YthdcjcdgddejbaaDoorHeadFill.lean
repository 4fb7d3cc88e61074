/-
  What 'Filled' answers, of any shape and segment: the segment, with an Area and a Data of the sizes that the shape says.
-/
import Derived.Test.YthdcjcdgddejbaaDoorHeadWorks
import Derived.Laws.MakeOwn
import Derived.Deep.RegionHeld3
namespace Go.Proofs.YthdcjcdgddejbaaDoor
open Go.ChangeShapes Go.WideShapes Go.ChangeAt Go.RowKit
set_option linter.unusedVariables false

/-- Block g holds the bytes l, and nothing else. -/
def Bt (w : World) (g : Nat) (l : List UInt8) : Prop := Blk w g 5 (byv l)
namespace Bt
variable {w w' : World} {g : Nat} {l : List UInt8}
theorem lt (h : Bt w g l) : g < w.heap.size := Blk.lt h
theorem cell (h : Bt w g l) (j : Nat) (hj : j < l.length) : w.cell? ⟨g, j, none⟩ = some (.int .u8 (l[j].toNat : Int)) := (Blk.cell h j).trans (byv_get l j hj)
theorem frozen (h : Bt w g l) (j : Nat) : w.frozen? ⟨g, j, none⟩ = false := Blk.frozen h j
theorem set_ (h : Bt w g l) (p : Nat) (v : UInt8) : Bt (w.setCell ⟨g, p, none⟩ (.int .u8 (v.toNat : Int))) g (l.set p v) := by
  have := Blk.set_ h p (.int .u8 (v.toNat : Int))
  rwa [byv_set] at this
theorem bts (h : Bt w g l) : Bts w g l := ⟨h.lt, fun j hj => ⟨h.cell j hj, h.frozen j⟩⟩
theorem grown {row : Option Nat} (h : Bt w g l) (hb : w.grownBy w' row) (hg : some g ≠ row) : Bt w' g l := Blk.grown h hb hg
theorem text (h : Bt w g l) (n cap : Nat) (hn : n = l.length) (t : ByteArray) (ht : txt l = t) : (convert 45 9 (.slice (some ⟨g, 0, none⟩) n cap)).run Tryd.prog w = .ok (.string t) w := by
  rw [bytes_text w g cap n l h.bts hn, ht]
end Bt
theorem info8 : (Tryd.prog.info? 5).map (fun i => (i.zero, i.size, i.bytes)) = some (some (.int .u8 0), 1, 1) := by kernel_rfl
/-- A new slice of bytes. -/
theorem make_any (W : World) (n : Nat) (N : Int) (hN : (n : Int) = N) (hn : n ≤ 1200) : (Instr.makeSlice 45 (.int .i64 N) (.int .i64 N)).run Tryd.prog W = .ok (.slice (some ⟨W.heap.size, 0, none⟩) n n) (W.alloc (.cells (byv (List.replicate n 0)) 5)) := by
  subst hN
  have hi := info8
  cases hq : Tryd.prog.info? 5 with
  | none => simp [hq] at hi
  | some i =>
    simp [hq] at hi
    obtain ⟨hz, h1, h2⟩ := hi
    have hr := run_make (P := Tryd.prog) W 45 5 i _ Tryd.underlying45 hq hz .i64 .i64 n n (by omega) (Int.le_refl _) (by rw [h2]; omega) (by omega)
    rw [hr, h1, Int.toNat_natCast, Nat.mul_one]
    have e : madeCells (Value.cells (.int .u8 0)) n = byv (List.replicate n 0) := by
      apply Array.toList_inj.1
      show (madeCells #[.int .u8 0] n).toList = _
      rw [toList_madeCells_one, byv, List.map_replicate]; rfl
    rw [e]

theorem Bt.setO {w : World} {g : Nat} {l : List UInt8} (h : Bt w g l) {p : Addr} (hp : p.block ≠ g) (v : Value) : Bt (w.setCell p v) g l := Blk.same h (Below.heap_setCell w p v g hp.symm)
theorem Blk.setO {w : World} {g : Nat} {t : TypeId} {cs : Array Value} (h : Blk w g t cs) {p : Addr} (hp : p.block ≠ g) (v : Value) : Blk (w.setCell p v) g t cs := Blk.same h (Below.heap_setCell w p v g hp.symm)
theorem u8_val (z : Int) (h : 0 ≤ z) (h' : z ≤ 255) : ∃ v : UInt8, (v.toNat : Int) = z := by
  obtain ⟨n, rfl⟩ := Int.eq_ofNat_of_zero_le h
  exact ⟨UInt8.ofNat n, by rw [UInt8.toNat_ofNat', show (2 : Nat) ^ 8 = 256 from rfl]; omega⟩
theorem xor_b (a b : Int) (h : 0 ≤ a) (h' : a ≤ 255) (k : 0 ≤ b) (k' : b ≤ 255) : 0 ≤ bits .xor .u8 a b ∧ bits .xor .u8 a b ≤ 255 := by
  obtain ⟨n, rfl⟩ := Int.eq_ofNat_of_zero_le h
  obtain ⟨m, rfl⟩ := Int.eq_ofNat_of_zero_le k
  have hx : n ^^^ m < 256 := Nat.xor_lt_two_pow (n := 8) (by omega) (by omega)
  rw [u8_xor_nat _ _ (by omega) (by omega)]
  omega
/-- Where Filled stands. -/
structure Room (w W : World) (A Z : Array Value) (x : Sg) (g1 g2 : Nat) (l1 l2 : List UInt8) : Prop where
  sh : Blk W w.heap.size 27 A
  sg : Blk W (w.heap.size + 1) 25 (segv x)
  rs : Blk W (w.heap.size + 1 + 1) 25 Z
  b1 : Bt W g1 l1
  b2 : Bt W g2 l2
  bel : Below w.heap.size w W
  ne : g1 ≠ g2
  lo1 : w.heap.size + 1 + 1 < g1
  lo2 : w.heap.size + 1 + 1 < g2
namespace Room
variable {w W : World} {A Z : Array Value} {x : Sg} {g1 g2 : Nat} {l1 l2 : List UInt8}
theorem put1 (h : Room w W A Z x g1 g2 l1 l2) (n p : Nat) (z : Int) (hn : l1.length = n) (h0 : 0 ≤ z) (h1 : z ≤ 255) : ∃ l, l.length = n ∧ Room w (W.setCell ⟨g1, p, none⟩ (.int .u8 z)) A Z x g1 g2 l l2 := by
  obtain ⟨v, rfl⟩ := u8_val z h0 h1
  have a := h.lo1
  refine ⟨l1.set p v, by rw [List.length_set]; exact hn, h.sh.setO (by simp; omega) _, h.sg.setO (by simp; omega) _, h.rs.setO (by simp; omega) _, h.b1.set_ p v, h.b2.setO h.ne _, h.bel.setCell (p := ⟨g1, p, none⟩) (by show w.heap.size ≤ g1; omega) _, h.ne, h.lo1, h.lo2⟩
theorem put2 (h : Room w W A Z x g1 g2 l1 l2) (n p : Nat) (z : Int) (hn : l2.length = n) (h0 : 0 ≤ z) (h1 : z ≤ 255) : ∃ l, l.length = n ∧ Room w (W.setCell ⟨g2, p, none⟩ (.int .u8 z)) A Z x g1 g2 l1 l := by
  obtain ⟨v, rfl⟩ := u8_val z h0 h1
  have a := h.lo2
  refine ⟨l2.set p v, by rw [List.length_set]; exact hn, h.sh.setO (by simp; omega) _, h.sg.setO (by simp; omega) _, h.rs.setO (by simp; omega) _, h.b1.setO h.ne.symm _, h.b2.set_ p v, h.bel.setCell (p := ⟨g2, p, none⟩) (by show w.heap.size ≤ g2; omega) _, h.ne, h.lo1, h.lo2⟩
end Room
theorem Room.start (w : World) (A Z : Array Value) (x : Sg) (k1 k2 : List UInt8) (e1 e2 : Nat) (h1 : w.heap.size + 1 + 1 + 1 = e1) (h2 : w.heap.size + 1 + 1 + 1 + 1 = e2) :
    Room w (((((w.alloc (.cells A 27)).alloc (.cells (segv x) 25)).alloc (.cells Z 25)).alloc (.cells (byv k1) 5)).alloc (.cells (byv k2) 5)).drew A Z x e1 e2 k1 k2 := by
  subst h1; subst h2
  have x1 := Blk.new w 27 A
  have x2 := Blk.new (w.alloc (.cells A 27)) 25 (segv x)
  have x3 := Blk.new ((w.alloc (.cells A 27)).alloc (.cells (segv x) 25)) 25 Z
  have x4 := Blk.new (((w.alloc (.cells A 27)).alloc (.cells (segv x) 25)).alloc (.cells Z 25)) 5 (byv k1)
  have x5 := Blk.new ((((w.alloc (.cells A 27)).alloc (.cells (segv x) 25)).alloc (.cells Z 25)).alloc (.cells (byv k1) 5)) 5 (byv k2)
  simp only [World.size_alloc] at x2 x3 x4 x5
  refine ⟨((((x1.alloc _).alloc _).alloc _).alloc _).drew, (((x2.alloc _).alloc _).alloc _).drew, ((x3.alloc _).alloc _).drew, (x4.alloc _).drew, x5.drew, ?_, by omega, by omega, by omega⟩
  exact ((((((Below.refl _ w).alloc (Nat.le_refl _) _).alloc (by simp) _).alloc (by simp; omega) _).alloc (by simp; omega) _).alloc (by simp; omega) _).drew
theorem Room.swap {w W : World} {A Z : Array Value} {x : Sg} {g1 g2 : Nat} {l1 l2 : List UInt8} (h : Room w W A Z x g1 g2 l1 l2) : Room w W A Z x g2 g1 l2 l1 := ⟨h.sh, h.sg, h.rs, h.b2, h.b1, h.bel, h.ne.symm, h.lo2, h.lo1⟩

set_option maxHeartbeats 2000000 in
set_option maxRecDepth 100000 in
theorem Filled_any (a d c : Int) (x : Sg) (w : World) (ha : 0 ≤ a) (ha' : a ≤ 255) (hd : 0 ≤ d) (hd' : d ≤ 65535) (hc : 0 ≤ c) (hc' : c ≤ 255) :
    Calls Tryd.prog 8 #[.agg #[.int .u8 a, .int .u16 d, .int .u8 c], .agg #[.int .i64 x.path, .int .u16 x.src, .int .u16 x.dst, .int .u32 x.seq, .int .u32 x.ack, .bool x.syn, .bool x.ackOn, .bool x.fin, .bool x.rst, .int .u16 x.win, .string x.area, .string x.data]] w fun e w' => ∃ A D : ByteArray, A.size ≤ 44 ∧ D.size ≤ 1099 ∧ e = .returned (.agg (segv { x with area := A, data := D })) ∧ Below w.heap.size w w' := by
  obtain ⟨n, hn⟩ : ∃ n : Nat, (n : Int) = 4 * (a % 12) := ⟨(4 * (a % 12)).toNat, by omega⟩
  obtain ⟨m, hm⟩ : ∃ m : Nat, (m : Int) = d % 1100 := ⟨(d % 1100).toNat, by omega⟩
  have hn1 : n ≤ 44 := by omega
  have hm1 : m ≤ 1099 := by omega
  have hk1 : ∀ W, (Instr.makeSlice 45 (.int .i64 (4 * (a % 12))) (.int .i64 (4 * (a % 12)))).run Tryd.prog W = .ok (.slice (some ⟨W.heap.size, 0, none⟩) n n) (W.alloc (.cells (byv (List.replicate n 0)) 5)) := fun W => make_any W n _ hn (by omega)
  have hk2 : ∀ W, (Instr.makeSlice 45 (.int .i64 (d % 1100)) (.int .i64 (d % 1100))).run Tryd.prog W = .ok (.slice (some ⟨W.heap.size, 0, none⟩) m m) (W.alloc (.cells (byv (List.replicate m 0)) 5)) := fun W => make_any W m _ hm (by omega)
  clear hn hm
  go_enter Tryd.func8, Tryd.ntmps8
  go_wp2
  go_region
  · obtain ⟨W0, hW0⟩ : ∃ W0, W0 = (((((w.alloc (.cells #[.int .u8 a, .int .u16 d, .int .u8 c] 27)).alloc (.cells (segv x) 25)).alloc (.cells #[.int .i64 0, .int .u16 0, .int .u16 0, .int .u32 0, .int .u32 0, .bool false, .bool false, .bool false, .bool false, .int .u16 0, .string ⟨#[]⟩, .string ⟨#[]⟩] 25)).alloc (.cells (byv (List.replicate n 0)) 5)).alloc (.cells (byv (List.replicate m 0)) 5)).drew := ⟨_, rfl⟩
    rw [← hW0]
    obtain ⟨e1, he1⟩ : ∃ e, w.heap.size + 1 + 1 + 1 = e := ⟨_, rfl⟩
    obtain ⟨e2, he2⟩ : ∃ e, w.heap.size + 1 + 1 + 1 + 1 = e := ⟨_, rfl⟩
    have R0 : Room w W0 #[.int .u8 a, .int .u16 d, .int .u8 c] #[.int .i64 0, .int .u16 0, .int .u16 0, .int .u32 0, .int .u32 0, .bool false, .bool false, .bool false, .bool false, .int .u16 0, .string ⟨#[]⟩, .string ⟨#[]⟩] x e1 e2 (List.replicate n 0) (List.replicate m 0) := by
      rw [hW0]; exact Room.start w _ _ x _ _ e1 e2 he1 he2
    rw [he2, he1]
    obtain ⟨g1, hg1⟩ : ∃ g, g = e1 := ⟨_, rfl⟩
    obtain ⟨g2, hg2⟩ : ∃ g, g = e2 := ⟨_, rfl⟩
    rw [← hg1, ← hg2] at R0 ⊢
    have HR0 := Lib.hid R0
    clear hW0 he1 he2 R0 hg1 hg2
    go_wp2
    go_loopw [7] (fun i wr => ∃ j : Nat, j ≤ n ∧ i = .int .i64 (j : Int) ∧ ∃ l, l.length = n ∧ Room w wr #[.int .u8 a, .int .u16 d, .int .u8 c] #[.int .i64 0, .int .u16 0, .int .u16 0, .int .u32 0, .int .u32 0, .bool false, .bool false, .bool false, .bool false, .int .u16 0, .string ⟨#[]⟩, .string ⟨#[]⟩] x g1 g2 l (List.replicate m 0)) (fun i _ => n - (intOf i).toNat)
    case atStart => exact ⟨0, Nat.zero_le _, rfl, _, List.length_replicate, HR0.out⟩
    case round =>
      obtain ⟨j, hj, rfl, l, hl, hR⟩ := hrel
      by_cases hlt : j < n
      · have s2 : wr.cell? ⟨w.heap.size, 2, none⟩ = some (.int .u8 c) := hR.sh.cell 2
        have p1 := hR.b1.cell j (by omega)
        have q1 := hR.b1.frozen j
        obtain ⟨y, hy⟩ : ∃ y : Int, y = (l[j].toNat : Int) := ⟨_, rfl⟩
        rw [← hy] at p1
        have HR := Lib.hid hR
        have HL := Lib.hid hl
        clear hR hl hy
        go_wp2
        go_roundw
        case rel => exact ⟨j + 1, by omega, by go_num, HR.out.put1 n j _ HL.out (by omega) (by omega)⟩
        case measure => simp [intOf]; omega
      · obtain rfl : j = n := by omega
        have HR := Lib.hid hR
        have HL := Lib.hid hl
        clear hR hl
        go_wp2
        go_loopw [8] (fun i wr => ∃ k : Nat, k ≤ m ∧ i = .int .i64 (k : Int) ∧ ∃ l', l'.length = m ∧ Room w wr #[.int .u8 a, .int .u16 d, .int .u8 c] #[.int .i64 0, .int .u16 0, .int .u16 0, .int .u32 0, .int .u32 0, .bool false, .bool false, .bool false, .bool false, .int .u16 0, .string ⟨#[]⟩, .string ⟨#[]⟩] x g1 g2 l l') (fun i _ => m - (intOf i).toNat)
        case atStart => exact ⟨0, Nat.zero_le _, rfl, _, List.length_replicate, HR.out⟩
        case round =>
          obtain ⟨k, hk, rfl, l', hl', hR'⟩ := hrel
          by_cases hlt2 : k < m
          · have s2 : wr.cell? ⟨w.heap.size, 2, none⟩ = some (.int .u8 c) := hR'.sh.cell 2
            have p1 := hR'.b2.cell k (by omega)
            have q1 := hR'.b2.frozen k
            obtain ⟨y, hy⟩ : ∃ y : Int, y = (l'[k].toNat : Int) := ⟨_, rfl⟩
            rw [← hy] at p1
            have HR' := Lib.hid hR'
            have HL' := Lib.hid hl'
            clear hR' hl' hy
            go_wp2
            go_roundw
            case rel => exact ⟨k + 1, by omega, by go_num, HR'.out.put2 m k _ HL'.out (xor_b _ _ (by omega) (by omega) (by omega) (by omega)).1 (xor_b _ _ (by omega) (by omega) (by omega) (by omega)).2⟩
            case measure => simp [intOf]; omega
          · obtain rfl : k = m := by omega
            obtain ⟨A, hA⟩ : ∃ A, txt l = A := ⟨_, rfl⟩
            obtain ⟨D, hD⟩ : ∃ D, txt l' = D := ⟨_, rfl⟩
            have HC1 := Lib.hid (fun (V : World) (h : Bt V g1 l) => h.text j j HL.out.symm A hA)
            have HC2 := Lib.hid (fun (V : World) (h : Bt V g2 l') => h.text k k hl'.symm D hD)
            have HSA := Lib.hid (show A.size ≤ 44 by rw [← hA, txt_size, HL.out]; exact hn1)
            have HSD := Lib.hid (show D.size ≤ 1099 by rw [← hD, txt_size, hl']; exact hm1)
            have c10 : wr.cell? ⟨w.heap.size + 1, 10, none⟩ = some (.string x.area) := hR'.sg.cell 10
            have c11 : wr.cell? ⟨w.heap.size + 1, 11, none⟩ = some (.string x.data) := hR'.sg.cell 11
            have f10 : wr.frozen? ⟨w.heap.size + 1, 10, none⟩ = false := hR'.sg.frozen 10
            have f11 : wr.frozen? ⟨w.heap.size + 1, 11, none⟩ = false := hR'.sg.frozen 11
            have HR' := Lib.hid hR'
            have NE1 := Lib.hid (show w.heap.size + 1 ≠ g1 by have := hR'.lo1; omega)
            have NE2 := Lib.hid (show w.heap.size + 1 ≠ g2 by have := hR'.lo2; omega)
            clear hR' hl' hA hD HR0 HR
            go_wp2
            go_region_held3 (fun V => (convert 45 9 (.slice (some ⟨g1, 0, none⟩) j j)).run Tryd.prog V = .ok (.string A) V ∧ (convert 45 9 (.slice (some ⟨g2, 0, none⟩) k k)).run Tryd.prog V = .ok (.string D) V)
              (first | exact ⟨HC1.out _ HR'.out.b1, HC2.out _ HR'.out.b2⟩ | exact ⟨HC1.out _ (HR'.out.b1.setO NE1.out _), HC2.out _ (HR'.out.b2.setO NE2.out _)⟩ | exact ⟨HC1.out _ ((HR'.out.b1.setO NE1.out _).setO NE1.out _), HC2.out _ ((HR'.out.b2.setO NE2.out _).setO NE2.out _)⟩)
              (first | (go_at_call 0; skip))
            obtain ⟨y, hy⟩ : ∃ y : Sg, y = { x with area := A, data := D } := ⟨_, rfl⟩
            obtain ⟨V, hV⟩ : ∃ V, V = ((wr.setCell ⟨w.heap.size + 1, 10, none⟩ (.string A)).setCell ⟨w.heap.size + 1, 11, none⟩ (.string D)).drew := ⟨_, rfl⟩
            have XV : Blk V (w.heap.size + 1) 25 (segv y) := by
              rw [hV, hy]; exact Blk.drew ((HR'.out.sg.set_ 10 (.string A)).set_ 11 (.string D))
            have RV : Blk V (w.heap.size + 1 + 1) 25 #[.int .i64 0, .int .u16 0, .int .u16 0, .int .u32 0, .int .u32 0, .bool false, .bool false, .bool false, .bool false, .int .u16 0, .string ⟨#[]⟩, .string ⟨#[]⟩] := by
              rw [hV]; exact Blk.drew ((HR'.out.rs.setO (by simp) _).setO (by simp) _)
            have BV : Below w.heap.size w V := by
              rw [hV]; exact ((HR'.out.bel.setCell (p := ⟨w.heap.size + 1, 10, none⟩) (by simp) _).setCell (p := ⟨w.heap.size + 1, 11, none⟩) (by simp) _).drew
            rw [← hV]
            have HXV := Lib.hid XV
            have HRV := Lib.hid RV
            have HBV := Lib.hid BV
            have HY := Lib.hid hy
            clear hV XV RV BV HR' HC1 HC2 hy c10 c11 f10 f11
            go_wp2_with (first
              | refine wpList_load_row rfl 25 _ rfl (w.heap.size + 1) rfl 25 (segv y) (0, 0) _ HXV.out Tryd.underlying25 rfl seg_size ?_
              | refine wpList_store_row rfl 25 _ _ rfl (w.heap.size + 1 + 1) (segv y) rfl rfl 25 _ HRV.out seg_size rfl (segv_one _) ?_)
            have HSE := Lib.hid (setRow_heap _ (w.heap.size + 1 + 1) _ (segv y) _ _ HRV.out)
            have HBE := Lib.hid (below_setRow HBV.out (by omega : w.heap.size ≤ w.heap.size + 1 + 1) (segv y))
            refine bodyPost_ret (results_cell_row rfl _ _ (w.heap.size + 1 + 1) 25 (segv y) (0, 0) _ rfl HSE.out Tryd.underlying25 rfl seg_size) rfl ⟨A, D, HSA.out, HSD.out, by rw [HY.out], HBE.out⟩
  · obtain ⟨W0, hW0⟩ : ∃ W0, W0 = (((((w.alloc (.cells #[.int .u8 a, .int .u16 d, .int .u8 c] 27)).alloc (.cells (segv x) 25)).alloc (.cells #[.int .i64 0, .int .u16 0, .int .u16 0, .int .u32 0, .int .u32 0, .bool false, .bool false, .bool false, .bool false, .int .u16 0, .string ⟨#[]⟩, .string ⟨#[]⟩] 25)).alloc (.cells (byv (List.replicate m 0)) 5)).alloc (.cells (byv (List.replicate n 0)) 5)).drew := ⟨_, rfl⟩
    rw [← hW0]
    obtain ⟨e1, he1⟩ : ∃ e, w.heap.size + 1 + 1 + 1 = e := ⟨_, rfl⟩
    obtain ⟨e2, he2⟩ : ∃ e, w.heap.size + 1 + 1 + 1 + 1 = e := ⟨_, rfl⟩
    have R0 : Room w W0 #[.int .u8 a, .int .u16 d, .int .u8 c] #[.int .i64 0, .int .u16 0, .int .u16 0, .int .u32 0, .int .u32 0, .bool false, .bool false, .bool false, .bool false, .int .u16 0, .string ⟨#[]⟩, .string ⟨#[]⟩] x e2 e1 (List.replicate n 0) (List.replicate m 0) := by
      rw [hW0]; exact (Room.start w _ _ x _ _ e1 e2 he1 he2).swap
    rw [he2, he1]
    obtain ⟨g1, hg1⟩ : ∃ g, g = e2 := ⟨_, rfl⟩
    obtain ⟨g2, hg2⟩ : ∃ g, g = e1 := ⟨_, rfl⟩
    rw [← hg1, ← hg2] at R0 ⊢
    have HR0 := Lib.hid R0
    clear hW0 he1 he2 R0 hg1 hg2
    go_wp2
    go_loopw [7] (fun i wr => ∃ j : Nat, j ≤ n ∧ i = .int .i64 (j : Int) ∧ ∃ l, l.length = n ∧ Room w wr #[.int .u8 a, .int .u16 d, .int .u8 c] #[.int .i64 0, .int .u16 0, .int .u16 0, .int .u32 0, .int .u32 0, .bool false, .bool false, .bool false, .bool false, .int .u16 0, .string ⟨#[]⟩, .string ⟨#[]⟩] x g1 g2 l (List.replicate m 0)) (fun i _ => n - (intOf i).toNat)
    case atStart => exact ⟨0, Nat.zero_le _, rfl, _, List.length_replicate, HR0.out⟩
    case round =>
      obtain ⟨j, hj, rfl, l, hl, hR⟩ := hrel
      by_cases hlt : j < n
      · have s2 : wr.cell? ⟨w.heap.size, 2, none⟩ = some (.int .u8 c) := hR.sh.cell 2
        have p1 := hR.b1.cell j (by omega)
        have q1 := hR.b1.frozen j
        obtain ⟨y, hy⟩ : ∃ y : Int, y = (l[j].toNat : Int) := ⟨_, rfl⟩
        rw [← hy] at p1
        have HR := Lib.hid hR
        have HL := Lib.hid hl
        clear hR hl hy
        go_wp2
        go_roundw
        case rel => exact ⟨j + 1, by omega, by go_num, HR.out.put1 n j _ HL.out (by omega) (by omega)⟩
        case measure => simp [intOf]; omega
      · obtain rfl : j = n := by omega
        have HR := Lib.hid hR
        have HL := Lib.hid hl
        clear hR hl
        go_wp2
        go_loopw [8] (fun i wr => ∃ k : Nat, k ≤ m ∧ i = .int .i64 (k : Int) ∧ ∃ l', l'.length = m ∧ Room w wr #[.int .u8 a, .int .u16 d, .int .u8 c] #[.int .i64 0, .int .u16 0, .int .u16 0, .int .u32 0, .int .u32 0, .bool false, .bool false, .bool false, .bool false, .int .u16 0, .string ⟨#[]⟩, .string ⟨#[]⟩] x g1 g2 l l') (fun i _ => m - (intOf i).toNat)
        case atStart => exact ⟨0, Nat.zero_le _, rfl, _, List.length_replicate, HR.out⟩
        case round =>
          obtain ⟨k, hk, rfl, l', hl', hR'⟩ := hrel
          by_cases hlt2 : k < m
          · have s2 : wr.cell? ⟨w.heap.size, 2, none⟩ = some (.int .u8 c) := hR'.sh.cell 2
            have p1 := hR'.b2.cell k (by omega)
            have q1 := hR'.b2.frozen k
            obtain ⟨y, hy⟩ : ∃ y : Int, y = (l'[k].toNat : Int) := ⟨_, rfl⟩
            rw [← hy] at p1
            have HR' := Lib.hid hR'
            have HL' := Lib.hid hl'
            clear hR' hl' hy
            go_wp2
            go_roundw
            case rel => exact ⟨k + 1, by omega, by go_num, HR'.out.put2 m k _ HL'.out (xor_b _ _ (by omega) (by omega) (by omega) (by omega)).1 (xor_b _ _ (by omega) (by omega) (by omega) (by omega)).2⟩
            case measure => simp [intOf]; omega
          · obtain rfl : k = m := by omega
            obtain ⟨A, hA⟩ : ∃ A, txt l = A := ⟨_, rfl⟩
            obtain ⟨D, hD⟩ : ∃ D, txt l' = D := ⟨_, rfl⟩
            have HC1 := Lib.hid (fun (V : World) (h : Bt V g1 l) => h.text j j HL.out.symm A hA)
            have HC2 := Lib.hid (fun (V : World) (h : Bt V g2 l') => h.text k k hl'.symm D hD)
            have HSA := Lib.hid (show A.size ≤ 44 by rw [← hA, txt_size, HL.out]; exact hn1)
            have HSD := Lib.hid (show D.size ≤ 1099 by rw [← hD, txt_size, hl']; exact hm1)
            have c10 : wr.cell? ⟨w.heap.size + 1, 10, none⟩ = some (.string x.area) := hR'.sg.cell 10
            have c11 : wr.cell? ⟨w.heap.size + 1, 11, none⟩ = some (.string x.data) := hR'.sg.cell 11
            have f10 : wr.frozen? ⟨w.heap.size + 1, 10, none⟩ = false := hR'.sg.frozen 10
            have f11 : wr.frozen? ⟨w.heap.size + 1, 11, none⟩ = false := hR'.sg.frozen 11
            have HR' := Lib.hid hR'
            have NE1 := Lib.hid (show w.heap.size + 1 ≠ g1 by have := hR'.lo1; omega)
            have NE2 := Lib.hid (show w.heap.size + 1 ≠ g2 by have := hR'.lo2; omega)
            clear hR' hl' hA hD HR0 HR
            go_wp2
            go_region_held3 (fun V => (convert 45 9 (.slice (some ⟨g1, 0, none⟩) j j)).run Tryd.prog V = .ok (.string A) V ∧ (convert 45 9 (.slice (some ⟨g2, 0, none⟩) k k)).run Tryd.prog V = .ok (.string D) V)
              (first | exact ⟨HC1.out _ HR'.out.b1, HC2.out _ HR'.out.b2⟩ | exact ⟨HC1.out _ (HR'.out.b1.setO NE1.out _), HC2.out _ (HR'.out.b2.setO NE2.out _)⟩ | exact ⟨HC1.out _ ((HR'.out.b1.setO NE1.out _).setO NE1.out _), HC2.out _ ((HR'.out.b2.setO NE2.out _).setO NE2.out _)⟩)
              (first | (go_at_call 0; skip))
            obtain ⟨y, hy⟩ : ∃ y : Sg, y = { x with area := A, data := D } := ⟨_, rfl⟩
            obtain ⟨V, hV⟩ : ∃ V, V = ((wr.setCell ⟨w.heap.size + 1, 10, none⟩ (.string A)).setCell ⟨w.heap.size + 1, 11, none⟩ (.string D)).drew := ⟨_, rfl⟩
            have XV : Blk V (w.heap.size + 1) 25 (segv y) := by
              rw [hV, hy]; exact Blk.drew ((HR'.out.sg.set_ 10 (.string A)).set_ 11 (.string D))
            have RV : Blk V (w.heap.size + 1 + 1) 25 #[.int .i64 0, .int .u16 0, .int .u16 0, .int .u32 0, .int .u32 0, .bool false, .bool false, .bool false, .bool false, .int .u16 0, .string ⟨#[]⟩, .string ⟨#[]⟩] := by
              rw [hV]; exact Blk.drew ((HR'.out.rs.setO (by simp) _).setO (by simp) _)
            have BV : Below w.heap.size w V := by
              rw [hV]; exact ((HR'.out.bel.setCell (p := ⟨w.heap.size + 1, 10, none⟩) (by simp) _).setCell (p := ⟨w.heap.size + 1, 11, none⟩) (by simp) _).drew
            rw [← hV]
            have HXV := Lib.hid XV
            have HRV := Lib.hid RV
            have HBV := Lib.hid BV
            have HY := Lib.hid hy
            clear hV XV RV BV HR' HC1 HC2 hy c10 c11 f10 f11
            go_wp2_with (first
              | refine wpList_load_row rfl 25 _ rfl (w.heap.size + 1) rfl 25 (segv y) (0, 0) _ HXV.out Tryd.underlying25 rfl seg_size ?_
              | refine wpList_store_row rfl 25 _ _ rfl (w.heap.size + 1 + 1) (segv y) rfl rfl 25 _ HRV.out seg_size rfl (segv_one _) ?_)
            have HSE := Lib.hid (setRow_heap _ (w.heap.size + 1 + 1) _ (segv y) _ _ HRV.out)
            have HBE := Lib.hid (below_setRow HBV.out (by omega : w.heap.size ≤ w.heap.size + 1 + 1) (segv y))
            refine bodyPost_ret (results_cell_row rfl _ _ (w.heap.size + 1 + 1) 25 (segv y) (0, 0) _ rfl HSE.out Tryd.underlying25 rfl seg_size) rfl ⟨A, D, HSA.out, HSD.out, by rw [HY.out], HBE.out⟩
end Go.Proofs.YthdcjcdgddejbaaDoor
