/-
  The document's own padding (plaitref06.Padded), by its walk; behind '[]byte(text)' a slice grows byte by byte.
-/
import Derived.Test.YtcbakfnpbhgjoaaDoorShaRef
import Derived.Test.YtcbakfnpbhgjoaaDoorShaPad
import Derived.Laws.CopyRow
namespace Go.Proofs.YtcbakfnpbhgjoaaDoor
open Go.ChangeShapes Go.WideShapes Go.ChangeAt Go.RowKit
set_option linter.unusedVariables false

/-- A slice of bytes in a block of which none that it has is frozen. -/
def OwnU (B : Nat) (W : World) (v : Value) (n : Nat) (l : List UInt8) : Prop :=
  l.length = n ∧ ∃ (g cap : Nat) (cur : Array Value) (fz : Nat × Nat), v = .slice (some ⟨g, 0, none⟩) n cap ∧ B ≤ g ∧ W.heap[g]? = some (.cells cur 5 fz) ∧ (fz.2 = 0 ∨ cur.size ≤ fz.1) ∧ n ≤ cap ∧ cur.size = cap ∧ cur.toList.take n = (byv l).toList
theorem OwnU.kept {B n : Nat} {W W' : World} {v : Value} {l : List UInt8} (h : OwnU B W v n l) (b : ∀ j, B ≤ j → j < W.heap.size → W'.heap[j]? = W.heap[j]?) : OwnU B W' v n l := by
  obtain ⟨h0, g, cap, cur, fz, rfl, hb, hg, r⟩ := h
  exact ⟨h0, g, cap, cur, fz, rfl, hb, (b g hb (Array.getElem?_eq_some_iff.1 hg).1).trans hg, r⟩
theorem OwnU.below {B n : Nat} {W W' : World} {v : Value} {l : List UInt8} (h : OwnU B W v n l) (b : Below W.heap.size W W') : OwnU B W' v n l := h.kept fun j _ hj => b.block j hj
theorem store_one (P : Program) (g o : Nat) (t : TypeId) (fz : Nat × Nat) (v : Value) (cur : Array Value) (w : World) (hg : w.heap[g]? = some (.cells cur t fz)) (hf : fz.2 = 0 ∨ cur.size ≤ fz.1) (ho : o < cur.size) (h1 : v.oneCell' = true) :
    (storeCells ⟨g, o, none⟩ [v] 0).run P w = .ok () (w.setRow g (cur.setIfInBounds o v)) := by
  have hadd : (⟨g, o, none⟩ : Addr).add 0 = ⟨g, o, none⟩ := rfl
  have hcell : w.cell? ⟨g, o, none⟩ = some cur[o] := by simp [World.cell?, hg, ho]
  have hfro : w.frozen? ⟨g, o, none⟩ = false := by
    obtain ⟨a, b⟩ := fz
    simp only [World.frozen?, hg, Bool.and_eq_false_iff, decide_eq_false_iff_not]
    simp only at hf
    omega
  have hst : (store ((⟨g, o, none⟩ : Addr).add 0) v).run P w = .ok () (w.setRow g (cur.setIfInBounds o v)) := by
    rw [hadd, run_store P w _ v _ h1, hcell]
    simp [hfro, setCell_eq_setRow w g o cur t fz v hg]
  simp only [storeCells, Sem.run_bind, hst, Result.andThen_ok]
  rfl
theorem take_set (l : List Value) (n : Nat) (u : Value) (h : n < l.length) : (l.set n u).take (n + 1) = l.take n ++ [u] := by
  rw [List.take_succ_eq_append_getElem (by simpa using h), List.take_set_of_le (Nat.le_refl _)]; simp
theorem app_one {P : Program} (w : World) (t ty e : TypeId) (i : TypeInfo) (z : Value) (ht : P.underlying t = some (.slice e)) (hi : P.info? e = some i) (hz : i.zero = some z) (hsz : i.size = 1) (hby : i.bytes ≤ 8) (hzs : z.cells.size = 1)
    (g n cap : Nat) (cur : Array Value) (fz : Nat × Nat) (hg : w.heap[g]? = some (.cells cur e fz)) (hf : fz.2 = 0 ∨ cur.size ≤ fz.1) (hnc : n ≤ cap) (hcs : cur.size = cap) (ad : Addr) (c : Nat) (u : Value) (hu : w.cell? ad = some u) (h1 : u.oneCell' = true) (hb : n ≤ 1000000) :
    ∃ (g' cap' : Nat) (cur' : Array Value) (fz' : Nat × Nat) (w' : World), (Builtin.append_ #[t, t] ty #[.slice (some ⟨g, 0, none⟩) n cap, .slice (some ad) 1 c]).run P w = .ok (.slice (some ⟨g', 0, none⟩) (n + 1) cap') w' ∧ w'.heap[g']? = some (.cells cur' e fz') ∧
      (fz'.2 = 0 ∨ cur'.size ≤ fz'.1) ∧ n + 1 ≤ cap' ∧ cur'.size = cap' ∧ cur'.toList.take (n + 1) = cur.toList.take n ++ [u] ∧ (∀ B, B ≤ g → B ≤ w.heap.size → Below B w w' ∧ B ≤ g') ∧ (fz' = fz ∨ fz' = (0, 0)) ∧ (cap ≤ maxLen → cap' ≤ maxLen) ∧ ∀ j, j < n → w'.cell? ⟨g, j, none⟩ = w.cell? ⟨g, j, none⟩ := by
  have hl : [u].length = 1 * i.size := by rw [hsz]; rfl
  have hnews : ∀ j v, [u][j]? = some v → w.cell? (ad.add j) = some v := by
    intro j v hv
    have hj : j = 0 := by
      have := (List.getElem?_eq_some_iff.1 hv).1
      simpa using this
    subst hj
    injection hv with hv
    subst hv
    exact hu
  by_cases hroom : n + 1 ≤ cap
  · have hf1 := run_firstCells_some (P := P) w i.size 1 ad 1 c [u] hl hnews
    have hst := store_one P g n e fz u cur w hg hf (by omega) h1
    refine ⟨g, cap, cur.setIfInBounds n u, fz, w.setRow g (cur.setIfInBounds n u), ?_, setRow_heap w g cur _ e _ hg, by simpa using hf, hroom, by simpa using hcs, ?_, fun B b1 b2 => ⟨⟨rfl, rfl, rfl, by simp, fun k hk => setRow_other w g k _ (by omega)⟩, b1⟩, .inl rfl, id, fun j hj => ?_⟩
    · have hn1 : n * i.size = n := by rw [hsz, Nat.mul_one]
      simp [Builtin.append_, run_underlying ht, sizeOf, typeInfo, hi, Builtin.lenOf, hroom, hf1, Addr.add_lit, hn1, hst]
    · rw [Array.toList_setIfInBounds]; exact take_set _ _ _ (by simpa using (by omega : n < cur.size))
    · rw [cell_of_row _ g j _ e fz (setRow_heap w g cur _ e _ hg), cell_of_row w g j cur e fz hg, Array.getElem?_setIfInBounds_ne (by omega)]
  · have hold : ∀ j v, (cur.toList.take n)[j]? = some v → w.cell? ((⟨g, 0, none⟩ : Addr).add j) = some v := by
      intro j v hv
      have hadd : (⟨g, 0, none⟩ : Addr).add j = ⟨g, j, none⟩ := by unfold Addr.add; split <;> simp_all
      rw [hadd, cell_of_row w g j cur e fz hg]
      rw [List.getElem?_take] at hv
      split at hv
      · simpa using hv
      · cases hv
    have hr := run_append_grow (P := P) w t ty e i z ht hi hz ⟨g, 0, none⟩ n cap (cur.toList.take n) (by rw [hsz]; simp; omega) hold ad 1 c [u] hl hnews (by omega) (by omega) (growslice_fits (by omega) (Nat.le_trans (Nat.mul_le_mul_left _ hby) (by omega)))
    have hge := grownCap_ge w (n + 1) cap e
    refine ⟨_, _, _, _, _, hr, heap_alloc_new w.drew _, .inl rfl, hge, ?_, ?_, fun B b1 b2 => ⟨((Below.refl B w).drew).alloc b2 _, b2⟩, .inr rfl, fun _ => grownCap_le_maxLen w (n + 1) cap e (by unfold maxLen; omega), fun j _ => ?_⟩
    · simp only [Array.size_append, List.size_toArray, size_zeroCells, hzs, List.length_take, Array.length_toList, List.length_singleton]; omega
    · simp only [Array.toList_append]
      rw [List.take_left' (by simp; omega)]
    · exact World.cell?_of_block (a := ⟨g, j, none⟩) (Below.heap_alloc w.drew _ g (Array.getElem?_eq_some_iff.1 hg).1)
theorem OwnU.more {B n : Nat} {W : World} {v : Value} {l : List UInt8} (h : OwnU B W v n l) (hB : B ≤ W.heap.size) (ty : TypeId) (ad : Addr) (c : Nat) (b : UInt8) (hu : W.cell? ad = some (.int .u8 (b.toNat : Int))) (hb : n ≤ 1000000) :
    ∃ v' W', (Builtin.append_ #[35, 35] ty #[v, .slice (some ad) 1 c]).run Tryd.prog W = .ok v' W' ∧ OwnU B W' v' (n + 1) (l ++ [b]) ∧ Below B W W' := by
  obtain ⟨h0, g, cap, cur, fz, rfl, hbg, hg, hf, hnc, hcs, htk⟩ := h
  have hinfo : (Tryd.prog.info? 5).map (fun i => (i.zero, i.size, i.bytes)) = some (some (.int .u8 0), 1, 1) := by kernel_rfl
  obtain ⟨i0, hi, hz0, hz1, hz2⟩ := info_parts hinfo
  obtain ⟨g', cap', cur', fz', w', hr, hg', hf', hnc', hcs', htk', hbl, _⟩ := app_one W 35 ty 5 i0 _ Tryd.underlying35 hi hz0 hz1 (by omega) rfl g n cap cur fz hg hf hnc hcs ad c _ hu rfl hb
  refine ⟨_, w', hr, ⟨by simp [h0], g', cap', cur', fz', rfl, (hbl B hbg hB).2, hg', hf', hnc', hcs', ?_⟩, (hbl B hbg hB).1⟩
  rw [htk', htk]; simp [byv]
/-- At a list of operations. -/
theorem wpList_more {ops : Array Oper} {rest : List Oper} {o : Oper} {a : Act} {w : World} {Q : Exit → Act → World → Prop} (hgd : o.guard = none) (s x : Operand) (ho : o.op = .call { callee := .builtin .append, args := #[s, x], argTypes := #[35, 35] })
    (B n : Nat) (v : Value) (l : List UInt8) (hs : a.eval s = v) (h : OwnU B w v n l) (hB : B ≤ w.heap.size) (ad : Addr) (c : Nat) (b : UInt8) (hx : a.eval x = .slice (some ad) 1 c) (hu : w.cell? ad = some (.int .u8 (b.toNat : Int))) (hb : n ≤ 1000000)
    (hk : ∀ v' w', OwnU B w' v' (n + 1) (l ++ [b]) → Below B w w' → wpList Tryd.prog ops Q rest (a.put o.dst v') w') : wpList Tryd.prog ops Q (o :: rest) a w := by
  refine wpList_plain hgd fun K hK => ?_
  obtain ⟨v', w', hr, h1, h2⟩ := h.more hB o.type ad c b hu hb
  unfold Oper.wp execOp
  simp only [ho, resolve, invoke, builtin, Sem.run_bind, Sem.run_pure, Result.andThen_ok, List.map_toArray, List.map_cons, List.map_nil, hs, hx, hr]
  exact hK _ _ (hk v' w' h1 h2)
/-- '[]byte(text)'. -/
theorem OwnU.text (w : World) (s : ByteArray) : ∃ v w', (convert 9 35 (.string s)).run Tryd.prog w = .ok v w' ∧ OwnU w.heap.size w' v s.size s.data.toList ∧ Below w.heap.size w w' := by
  refine ⟨_, _, run_bytes_of_string w 9 35 5 s Tryd.underlying9 Tryd.underlying35 Tryd.underlying5, ?_, (Below.refl _ w).drew.alloc (Nat.le_refl _) _⟩
  have hge := grownCap_ge w s.size 0 5
  obtain ⟨cp, hcp⟩ : ∃ cp, cp = grownCap w s.size 0 5 := ⟨_, rfl⟩
  rw [← hcp] at hge ⊢
  refine ⟨len_data s, w.heap.size, cp, bytesRow s cp, _, rfl, Nat.le_refl _, heap_alloc_new w.drew _, .inr (Nat.le_refl _), hge, ?_, ?_⟩
  · simp [bytesRow]; have : s.data.size = s.size := rfl; omega
  · simp only [bytesRow, Array.toList_append, Array.toList_map]
    rw [List.take_left' (by simp)]
    simp [byv]

theorem OwnU.form {B n : Nat} {W : World} {v : Value} {l : List UInt8} (h : OwnU B W v n l) : ∃ g cap, v = .slice (some ⟨g, 0, none⟩) n cap := let ⟨_, g, cap, _, _, e, _⟩ := h; ⟨g, cap, e⟩
def slLen : Value → Nat
  | .slice _ n _ => n
  | _ => 0
theorem OwnU.len {B n : Nat} {W : World} {v : Value} {l : List UInt8} (h : OwnU B W v n l) : slLen v = n := by obtain ⟨g, cap, rfl⟩ := h.form; rfl
/-- So far: the mark, and j zeros. -/
def PdAt (w : World) (l : List UInt8) (n Z : Nat) (v : Value) (W : World) : Prop :=
  ∃ j : Nat, j ≤ Z ∧ OwnU w.heap.size W v (n + 1 + j) (l ++ [128] ++ List.replicate j 0) ∧ Below w.heap.size w W

set_option maxHeartbeats 2000000 in
theorem Padded_any (s : ByteArray) (hs : s.size ≤ 100000) (w : World) :
    Calls Tryd.prog 58 #[.string s] w fun e w' => ∃ v, e = .returned v ∧ OwnU w.heap.size w' v (padded s.data.toList).length (padded s.data.toList) ∧ Below w.heap.size w w' := by
  obtain ⟨v0, w0, hcv, own0, bel0⟩ := OwnU.text w s
  have HO0 := Lib.hid (own0.below ((Below.refl _ w0).alloc (Nat.le_refl _) (.cells #[.int .u8 128] 5)))
  have HB0 := Lib.hid (bel0.alloc bel0.size (.cells #[.int .u8 128] 5))
  have hbs0 := bel0.size
  clear own0 bel0
  go_enter Tryd.func58, Tryd.ntmps58
  go_wp2_with (at_builtin; refine wpList_more rfl (.tmp 7) (.tmp 8) rfl w.heap.size s.size _ s.data.toList rfl HO0.out ?a1 ⟨w0.heap.size, 0, none⟩ 1 128 rfl ?a2 ?a3 ?_)
  case a1 => rw [World.size_alloc]; omega
  case a2 => exact (Blk.new w0 5 #[.int .u8 128]).cell 0
  case a3 => omega
  intro v1 w1 own1 bel1
  have HO1 := Lib.hid own1
  have HB1 := Lib.hid (HB0.out.trans bel1)
  clear own1 bel1 HO0 hcv HB0
  go_wp2_with fail
  obtain ⟨n, hn⟩ : ∃ n, n = s.size := ⟨_, rfl⟩
  obtain ⟨l, hl⟩ : ∃ l, l = s.data.toList := ⟨_, rfl⟩
  have hln : l.length = n := by rw [hl, hn]; exact len_data s
  rw [← hn, ← hl] at HO1
  rw [← hn] at hs
  have HN := Lib.hid hn
  have HL := Lib.hid hl
  have hz : zrs n = (119 - n % 64) % 64 := rfl
  obtain ⟨Z, hZ⟩ : ∃ Z, Z = zrs n := ⟨_, rfl⟩
  rw [← hZ] at hz
  have HZ := Lib.hid hZ
  have hzl : Z < 64 := by omega
  clear hn hl hZ
  go_loopw [3] (fun v wr => PdAt w l n Z v wr) (fun v _ => Z + n + 1 - slLen v)
  case atStart => exact ⟨0, Nat.zero_le _, by simpa using HO1.out, HB1.out⟩
  case round =>
    obtain ⟨j, hj, own, bel⟩ := hrel
    obtain ⟨g, cap, rfl⟩ := own.form
    have hbs := bel.size
    have HO := Lib.hid own
    have HB := Lib.hid bel
    clear own bel HO1 HB1
    have hw : IntKind.i64.wrap (((n + 1 + j : Nat) : Int)) = ((n + 1 + j : Nat) : Int) := IntWalk.i64_in _ (by omega)
    by_cases hlt : j < Z
    · have hne : (((n + 1 + j : Nat) : Int) % 64 != 56) = true := by simp; omega
      have HO2 := Lib.hid (HO.out.below ((Below.refl _ wr).alloc (Nat.le_refl _) (.cells #[.int .u8 0] 5)))
      obtain ⟨N, hN⟩ : ∃ N, N = n + 1 + j := ⟨_, rfl⟩
      rw [← hN] at HO HO2 hw hne ⊢
      have HT := Lib.hid (show l ++ [128] ++ List.replicate (j + 1) 0 = (l ++ [128] ++ List.replicate j 0) ++ [0] by rw [List.replicate_succ', ← List.append_assoc])
      obtain ⟨T, hT⟩ : ∃ T, T = l ++ [128] ++ List.replicate j 0 := ⟨_, rfl⟩
      rw [← hT] at HO HO2 HT
      clear hT
      have HNN := Lib.hid hN
      have hNl : N ≤ 1000000 := by omega
      clear hN
      go_wp2_with (at_builtin; refine wpList_more rfl (.tmp 14) (.tmp 15) rfl w.heap.size N _ _ rfl HO2.out ?b1 ⟨wr.heap.size, 0, none⟩ 1 0 rfl ?b2 hNl ?_)
      case b1 => rw [World.size_alloc]; omega
      case b2 => exact (Blk.new wr 5 #[.int .u8 0]).cell 0
      intro v2 w2 own2 bel2
      have HN2 := Lib.hid (show PdAt w l n Z v2 w2 from ⟨j + 1, by omega, by
        rw [HT.out, show n + 1 + (j + 1) = N + 1 by have := HNN.out; omega]; exact own2, (HB.out.alloc HB.out.size _).trans bel2⟩)
      have hsl : slLen v2 = N + 1 := own2.len
      clear own2 bel2
      go_wp2_with fail
      go_roundw
      case rel => exact HN2.out
      case measure =>
        have := HNN.out
        show Z + n + 1 - slLen v2 < Z + n + 1 - N
        omega
    · obtain rfl : j = Z := by omega
      clear hlt
      have heq : (((n + 1 + j : Nat) : Int) % 64 != 56) = false := by simp; omega
      obtain ⟨N, hN⟩ : ∃ N, N = n + 1 + j := ⟨_, rfl⟩
      rw [← hN] at HO hw heq ⊢
      obtain ⟨T, hT⟩ : ∃ T, T = l ++ [128] ++ List.replicate j 0 := ⟨_, rfl⟩
      rw [← hT] at HO
      have HNN := Lib.hid hN
      have HT := Lib.hid hT
      have hNl : N ≤ 200000 := by omega
      have w1 : IntKind.u64.wrap (s.size : Int) = (n : Int) := by rw [IntKind.wrap_u64, ← HN.out]; omega
      have w2 : IntKind.u64.wrap (8 * (n : Int)) = ((8 * n : Nat) : Int) := by rw [IntKind.wrap_u64]; omega
      obtain ⟨C, hC⟩ : ∃ C, C = 8 * n := ⟨_, rfl⟩
      rw [← hC] at w2
      have HC := Lib.hid hC
      have hCl : C ≤ 1000000 := by omega
      clear hN hT hC
      go_wp2_with fail
      clear w1 w2 hw heq
      go_loopw [3, 5] (fun v k wr => ∃ i : Nat, i ≤ 8 ∧ k = .int .i64 (7 - (i : Int)) ∧ OwnU w.heap.size wr v (N + i) (T ++ (cnt C).take i) ∧ Below w.heap.size w wr) (fun _ k _ => (intOf k + 1).toNat)
      case atStart => exact ⟨0, by decide, rfl, by simpa using HO.out, HB.out⟩
      case round =>
        obtain ⟨i, hi, rfl, own, bel⟩ := hrel
        obtain ⟨g2, cap2, rfl⟩ := own.form
        have hbs := bel.size
        have HO3 := Lib.hid own
        have HB3 := Lib.hid bel
        clear own bel HO HB
        by_cases hlt : i < 8
        · obtain ⟨k, hk⟩ : ∃ k, k = 7 - i := ⟨_, rfl⟩
          have hki : (7 : Int) - (i : Int) = (k : Int) := by omega
          have h8 : IntKind.i64.wrap (8 * (k : Int)) = ((8 * k : Nat) : Int) := IntWalk.i64_in _ (by omega)
          have HTW := Lib.hid (two_any (8 * k) (by omega))
          have hb : (UInt8.ofNat (C >>> (8 * (7 - i)))).toNat = C / 2 ^ (8 * k) % 256 := by
            rw [UInt8.toNat_ofNat', ← hk, Nat.shiftRight_eq_div_pow]
          have hc : (cnt C).take (i + 1) = (cnt C).take i ++ [UInt8.ofNat (C >>> (8 * (7 - i)))] := by
            rw [List.take_succ_eq_append_getElem (by rw [cnt_length]; exact hlt)]
            simp [cnt]
          obtain ⟨b, eb⟩ : ∃ b, b = UInt8.ofNat (C >>> (8 * (7 - i))) := ⟨_, rfl⟩
          rw [← eb] at hb hc
          have hpp := Nat.two_pow_pos (8 * k)
          obtain ⟨p, ep⟩ : ∃ p, p = 2 ^ (8 * k) := ⟨_, rfl⟩
          rw [← ep] at HTW hb hpp
          obtain ⟨K8, eK⟩ : ∃ K8, K8 = 8 * k := ⟨_, rfl⟩
          rw [← eK] at HTW h8
          have hd := div_wrap C p (by omega)
          obtain ⟨q, eq⟩ : ∃ q, q = C / p := ⟨_, rfl⟩
          rw [← eq] at hd hb
          have hp0 : ¬ (p : Int) = 0 := by omega
          have hr : (q : Int).tmod 256 = ((b.toNat : Nat) : Int) := by rw [Int.tmod_eq_emod_of_nonneg (by omega), hb]; omega
          have hr2 : (q : Int) % 256 = ((b.toNat : Nat) : Int) := by rw [hb]; omega
          have hbl := b.toNat_lt
          have hw8 : IntKind.u8.wrap ((b.toNat : Nat) : Int) = ((b.toNat : Nat) : Int) := by rw [IntKind.wrap_u8]; omega
          have HCC := Lib.hid hc
          have HKI := Lib.hid hk
          rw [hki]
          clear eb ep eK eq hb hc hki hk
          obtain ⟨r, er⟩ : ∃ r, r = b.toNat := ⟨_, rfl⟩
          rw [← er] at hr hr2 hbl hw8
          have HER := Lib.hid er
          clear er
          have HO4 := Lib.hid (HO3.out.below ((Below.refl _ wr).alloc (Nat.le_refl _) (.cells #[.int .u8 (r : Int)] 5)))
          go_wp2_with fail
          refine (HTW.out _).mono ?_
          rintro e w' ⟨rfl, rfl⟩
          go_wp2_with (at_builtin; refine wpList_more rfl (.tmp 25) (.tmp 33) rfl w.heap.size (N + i) _ _ rfl HO4.out ?c1 ⟨wr.heap.size, 0, none⟩ 1 b rfl ?c2 (by omega) ?_)
          case c1 => rw [World.size_alloc]; omega
          case c2 => rw [← HER.out]; exact (Blk.new wr 5 #[.int .u8 (r : Int)]).cell 0
          intro v2 w2 own2 bel2
          have wk : wrap64 ((k : Int) - 1) = (k : Int) - 1 := IntWalk.wrap64_in _ (by have := HKI.out; omega)
          have HN2 := Lib.hid (show ∃ i' : Nat, i' ≤ 8 ∧ Value.int .i64 ((k : Int) - 1) = .int .i64 (7 - (i' : Int)) ∧ OwnU w.heap.size w2 v2 (N + i') (T ++ (cnt C).take i') ∧ Below w.heap.size w w2 from
            ⟨i + 1, by omega, by rw [show (k : Int) - 1 = 7 - ((i + 1 : Nat) : Int) by have := HKI.out; omega], by rw [HCC.out, show N + (i + 1) = N + i + 1 by omega]; simpa using own2, (HB3.out.alloc HB3.out.size _).trans bel2⟩)
          clear own2 bel2
          go_wp2_with fail
          go_roundw
          case rel => rw [wk]; exact HN2.out
          case measure => rw [wk]; simp only [intOf]; omega
        · obtain rfl : i = 8 := by omega
          go_wp2_with fail
          go_ret
          have e : padded s.data.toList = T ++ (cnt C).take 8 := by
            rw [List.take_of_length_le (by rw [cnt_length]; exact Nat.le_refl _), HT.out, HC.out, ← HL.out]
            unfold padded pads
            rw [hln, HZ.out]
            simp
          have el : (padded s.data.toList).length = N + 8 := by
            rw [padded_length, ← HL.out, hln, HNN.out, HZ.out]; omega
          rw [el, e]
          exact ⟨_, rfl, HO3.out, HB3.out⟩
end Go.Proofs.YtcbakfnpbhgjoaaDoor
