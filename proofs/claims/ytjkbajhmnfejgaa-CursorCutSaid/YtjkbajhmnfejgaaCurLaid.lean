/-
  plaitlaw02's 'laid': parts, one behind the other, behind a text; and where each one ends.
-/
import Derived.Test.YtjkbajhmnfejgaaCurParts
import Derived.Test.YtjkbajhmnfejgaaCurOpen
import Derived.Laws.AppendOwn
import Derived.OwnWalk
namespace Go.Proofs.Ytjkbajhmnfejgaa
open Go.ChangeShapes Go.WideShapes Go.ChangeAt Go.RowKit
set_option linter.unusedVariables false

/-- The parts of a slice: the cells of each, and that they are of their kinds. -/
def Parts (w : World) (A : Option Addr) (len : Nat) (Q : Nat → Int × Nat × ByteArray) : Prop :=
  ∀ i, i < len → ∃ ad : Addr, A = some ad ∧ w.cell? (ad.add (i * 3)) = some (.int .u8 (Q i).1) ∧ w.cell? ⟨(ad.add (i * 3)).block, (ad.add (i * 3)).off + 1, none⟩ = some (.int .u64 ((Q i).2.1 : Int)) ∧
    w.cell? ⟨(ad.add (i * 3)).block, (ad.add (i * 3)).off + 2, none⟩ = some (.string (Q i).2.2) ∧ (0 ≤ (Q i).1 ∧ (Q i).1 ≤ 255) ∧ (Q i).2.1 ≤ 18446744073709551615 ∧ (Q i).2.2.size ≤ 9223372036854775807
theorem Parts.below {w w' : World} {A : Option Addr} {len B : Nat} {Q : Nat → Int × Nat × ByteArray} (h : Parts w A len Q) (hb : Below w.heap.size w w') : Parts w' A len Q := by
  intro i hi
  obtain ⟨ad, rfl, c0, c1, c2, r⟩ := h i hi
  have hlt := World.block_lt_of_cell? w _ c0
  exact ⟨ad, rfl, (hb.cell hlt).trans c0, (hb.cell (p := ⟨(ad.add (i * 3)).block, (ad.add (i * 3)).off + 1, none⟩) hlt).trans c1, (hb.cell (p := ⟨(ad.add (i * 3)).block, (ad.add (i * 3)).off + 2, none⟩) hlt).trans c2, r⟩
theorem Parts.front {w : World} {A : Option Addr} {len m : Nat} {Q : Nat → Int × Nat × ByteArray} (h : Parts w A len Q) (hm : m ≤ len) : Parts w A m Q := fun i hi => h i (by omega)

/-- Where the first j parts end. -/
def endsV (n : Nat) (Q : Nat → Int × Nat × ByteArray) (j : Nat) : List Value := (List.range j).map fun i => .int .i64 ((n + (cat Q (i + 1)).length : Nat) : Int)
theorem endsV_succ (n : Nat) (Q : Nat → Int × Nat × ByteArray) (j : Nat) : endsV n Q (j + 1) = endsV n Q j ++ [.int .i64 ((n + (cat Q (j + 1)).length : Nat) : Int)] := by
  unfold endsV
  rw [List.range_succ, List.map_append]
  rfl

def LaidAt (w : World) (s : ByteArray) (len : Nat) (Q : Nat → Int × Nat × ByteArray) (x v i : Value) (wr : World) : Prop :=
  ∃ j : Nat, (j ≤ len ∧ i = .int .i64 (j : Int) ∧ x = .string (s ++ ⟨(cat Q j).toArray⟩)) ∧ wr.ownsRow w.heap.size 3 1 v j (endsV s.size Q j) ∧ Below w.heap.size w wr

theorem info_int : (Try.prog.info? 3).map (fun i => (i.zero, i.size, i.bytes)) = some (some (.int .i64 0), 1, 8) := by kernel_rfl

def Laid (s : ByteArray) (len : Nat) (Q : Nat → Int × Nat × ByteArray) (w : World) (e : Ending) (w' : World) : Prop :=
  ∃ v : Value, e = .returned (.tuple #[.string (s ++ ⟨(cat Q len).toArray⟩), v]) ∧ w'.ownsRow w.heap.size 3 1 v len (endsV s.size Q len) ∧ Below w.heap.size w w'

set_option maxRecDepth 100000 in
set_option maxHeartbeats 4000000 in
theorem laid_any (s : ByteArray) (hs : s.size ≤ 1000) (A : Option Addr) (len cap : Nat) (hl : len ≤ 30) (Q : Nat → Int × Nat × ByteArray) (w : World) (hp : Parts w A len Q) :
    Calls Try.prog 21 #[.string s, .slice A len cap] w (Laid s len Q w) := by
  have HP := Lib.hid hp
  obtain ⟨i0, hi, hz0, hz1, hz2⟩ := info_parts info_int
  have HI := Lib.hid hi
  have HZ0 := Lib.hid hz0
  have HZ1 := Lib.hid hz1
  have HZ2 := Lib.hid hz2
  clear hp hi hz0 hz1 hz2
  go_enter Try.func21, Try.ntmps21
  go_wp2
  go_loopw [0, 6, 7] (fun x v i wr => LaidAt w s len Q x v i wr) (fun _ _ i _ => len - (intOf i).toNat)
  case atStart => exact ⟨0, ⟨by omega, rfl, congrArg Value.string (append_nil s).symm⟩, World.ownsRow_nil _ _ _ _, Below.refl _ _⟩
  case round =>
    obtain ⟨j, ⟨hj, rfl, rfl⟩, hown, hB⟩ := hrel
    obtain ⟨x, hx⟩ : ∃ x : ByteArray, x = s ++ ⟨(cat Q j).toArray⟩ := ⟨_, rfl⟩
    have hxs : x.size ≤ 1600 := by have := cat_le Q j; rw [hx, append_size]; omega
    rw [← hx]
    have HXJ := Lib.hid hx
    have HB := Lib.hid hB
    have HO := Lib.hid hown
    clear hx
    by_cases hlt : j < len
    · obtain ⟨ad, rfl, c0, c1, c2, ⟨b0, b1⟩, b2, b3⟩ := (HP.out.below (B := 0) HB.out) j hlt
      clear hB hown
      go_wp2_with fail
      clear c0 c1 c2
      obtain ⟨y, hy⟩ : ∃ y : ByteArray, y = x ++ ⟨(part (Q j)).toArray⟩ := ⟨_, rfl⟩
      have hys : y.size ≤ 2000 := by have := part_le (Q j); rw [hy, append_size]; omega
      refine (answer (put_any (Q j).1 (Q j).2.1 (Q j).2.2 b0 b1 b2 b3 x (by omega) _) (congrArg Value.string hy.symm)).mono ?_
      rintro e w1 ⟨rfl, B1⟩
      have hyc : y = s ++ ⟨(cat Q (j + 1)).toArray⟩ := by rw [hy, HXJ.out, append_list]; rfl
      have hyn : y.size = s.size + (cat Q (j + 1)).length := by rw [hyc, append_size]
      have own1 := HO.out.kept (only_of_below B1 none) (by by_cases h : u6.ownBlock = none; exact .inl h; exact .inr h)
      have HYC := Lib.hid hyc
      have HYN := Lib.hid hyn
      have HB1 := Lib.hid (HB.out.trans (B1.mono HB.out.size))
      clear hy hyc hyn B1
      go_wp2_with (at_builtin; refine wpList_append_own _ rfl _ _ 46 rfl w.heap.size 3 i0 (.int .i64 0) 1 8 Try.underlying46 HI.out HZ0.out HZ1.out HZ2.out rfl (by decide) _ _ _ rfl (own1.alloc _) ⟨w1.heap.size, 0, none⟩ 1 1 [.int .i64 (y.size : Int)] rfl rfl ?c1 ?c2 ?c3 ?c4 ?c5 ?_)
      case c1 =>
        intro i u hu
        obtain rfl : i = 0 := by
          rcases Nat.eq_zero_or_pos i with h | h
          · exact h
          · rw [List.getElem?_eq_none (by simp; omega)] at hu; cases hu
        injection hu with hu
        subst hu
        exact (Blk.new w1 3 #[.int .i64 (y.size : Int)]).cell 0
      case c2 => intro u hu; obtain rfl := List.mem_singleton.1 hu; rfl
      case c3 => unfold maxLen; omega
      case c4 => omega
      case c5 => have := HB1.out.size; simp; omega
      intro v' w2 own2 grow2 _
      have HN := Lib.hid (show LaidAt w s len Q (.string y) v' (.int .i64 ((j + 1 : Nat) : Int)) w2 from
        ⟨j + 1, ⟨by omega, rfl, by rw [HYC.out]⟩, by rw [endsV_succ, ← HYN.out]; exact own2, (HB1.out.alloc HB1.out.size _).grown grow2 (by have := HB1.out.size; simp; omega) (fun k hk => (HO.out.lt k hk).1)⟩)
      clear own1 own2 grow2
      go_wp2_with fail
      go_roundw
      case rel => exact HN.out
      case measure => simp [intOf]; omega
    · obtain rfl : len = j := by omega
      clear hB hown
      go_wp2
      go_ret2
      refine ⟨u6, ?_, HO.out, HB.out⟩
      rw [← HXJ.out]
      rfl

theorem open_parts {H : Type} {enc : TypeId × Value → H} {w : World} {base : Nat} {spare : Nat → Bool} {held : Bool} {r : Reach} {b0 : Nat} {v : Value} {d : DataW H} {p : List MemPlace}
    (hv : Value.okWide Try.prog w r b0 45 v) (h : DataW.Trod enc Try.prog w base spare held 45 v d p) :
    ∃ (A : Option Addr) (len cap : Nat) (Q : Nat → Int × Nat × ByteArray), v = .slice A len cap ∧ len ≤ cap ∧ cap ≤ 9223372036854775807 ∧ Parts w A len Q := by
  obtain ⟨A, len, cap, rfl, hl, hc, hi⟩ := open_rows Try.underlying45 Try.underlying51 (by kernel_rfl) (by kernel_rfl) hv h
  have each : ∀ i, i < len → ∃ q : Int × Nat × ByteArray, ∃ ad : Addr, A = some ad ∧ w.cell? (ad.add (i * 3)) = some (.int .u8 q.1) ∧ w.cell? ⟨(ad.add (i * 3)).block, (ad.add (i * 3)).off + 1, none⟩ = some (.int .u64 (q.2.1 : Int)) ∧
      w.cell? ⟨(ad.add (i * 3)).block, (ad.add (i * 3)).off + 2, none⟩ = some (.string q.2.2) ∧ (0 ≤ q.1 ∧ q.1 ≤ 255) ∧ q.2.1 ≤ 18446744073709551615 ∧ q.2.2.size ≤ 9223372036854775807 := by
    intro i hlt
    obtain ⟨ad, rfl, hf⟩ := hi i hlt
    obtain ⟨u0, m0, y0, c0, t0⟩ := hf 0 _ rfl
    obtain ⟨u1, m1, y1, c1, t1⟩ := hf 1 _ rfl
    obtain ⟨u2, m2, y2, c2, t2⟩ := hf 2 _ rfl
    obtain ⟨a, e0, _, wa⟩ := DataW.trod_int Try.underlying5 t0
    obtain ⟨n, e1, _, wn⟩ := DataW.trod_int Try.underlying36 t1
    obtain ⟨t, e2, _, wt⟩ := DataW.trod_string Try.underlying9 t2
    injection e0 with e0
    injection e1 with e1
    injection e2 with e2
    subst e0 e1 e2
    obtain ⟨n0, n1⟩ := bounds_u64 wn
    obtain ⟨N, rfl⟩ := Int.eq_ofNat_of_zero_le n0
    exact ⟨(a, N, t), ad, rfl, c0, c1, c2, bounds_u8 wa, (by omega : N ≤ 18446744073709551615), wt⟩
  refine ⟨A, len, cap, fun i => if h : i < len then Classical.choose (each i h) else (0, 0, ⟨#[]⟩), rfl, hl, hc, fun i hlt => ?_⟩
  have := Classical.choose_spec (each i hlt)
  simp only [dif_pos hlt]
  exact this
end Go.Proofs.Ytjkbajhmnfejgaa
