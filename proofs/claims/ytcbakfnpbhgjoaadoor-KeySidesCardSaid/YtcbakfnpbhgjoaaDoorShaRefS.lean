/-
  The document's own digest of a text (plaitref06.Sum), by its walk.
-/
import Derived.Test.YtcbakfnpbhgjoaaDoorShaRefP
import Derived.Test.YtcbakfnpbhgjoaaDoorShaRefT
import Derived.Test.YtcbakfnpbhgjoaaDoorShaDigest
namespace Go.Proofs.YtcbakfnpbhgjoaaDoor
open Go.ChangeShapes Go.WideShapes Go.ChangeAt Go.RowKit
set_option linter.unusedVariables false

theorem sum_slice (g n cap j j2 : Nat) (h : j + 64 ≤ cap) (h2 : j2 = j + 64) (w : World) : (Instr.sliceAt 35 (.slice (some ⟨g, 0, none⟩) n cap) (some (.int .i64 (j : Int))) (some (.int .i64 (j2 : Int))) none).run Tryd.prog w = .ok (.slice (some ⟨g, j, none⟩) 64 (cap - j)) w := by
  subst h2
  have hu : Tryd.prog.underlying 35 = some (.slice (Tryd.prog.elem 35)) := by kernel_rfl
  have e2 : (sizeOf (Tryd.prog.elem 35)).run Tryd.prog w = .ok 1 w := by kernel_rfl
  rw [run_sliceAt_slice w _ _ _ _ _ hu, run_slice_lh w _ _ _ _ hu .i64 .i64 _ _ (by omega) (by omega) (by omega), e2]
  have e3 : (⟨g, 0, none⟩ : Addr).add j = ⟨g, j, none⟩ := by unfold Addr.add; split <;> simp_all
  simp only [Result.andThen_ok, sliced, Int.toNat_natCast, Nat.mul_one, Option.map_some, e3]
  rw [if_neg (by omega), show j + 64 - j = 64 by omega]
theorem ex_slice {P : Program} {ρ : Operand → Value} {o : Oper} {w : World} (t : TypeId) (x l h : Operand) (ho : o.op = .slice t x (some l) (some h) none) {v lv hv r : Value} (hx : ρ x = v) (hl : ρ l = lv) (hh : ρ h = hv) (he : (Instr.sliceAt t v (some lv) (some hv) none).run P w = .ok r w) : (execOp ρ o).run P w = .ok (.value r) w := by
  unfold execOp
  rw [ho]
  simp [hx, hl, hh, he]
theorem ex_convert {P : Program} {ρ : Operand → Value} {o : Oper} {w : World} (t u : TypeId) (x : Operand) (ho : o.op = .convert t u x) {v r : Value} (hx : ρ x = v) (he : (convert t u v).run P w = .ok r w) : (execOp ρ o).run P w = .ok (.value r) w := by
  unfold execOp
  rw [ho]
  simp [hx, he]
theorem exec_row_ {P : Program} {o : Oper} {ρ : Operand → Value} {w : World} (ty : TypeId) (x : Operand) (ho : o.op = .load ty x) (g : Nat) (hx : ρ x = .pointer (some ⟨g, 0, none⟩)) (t : TypeId) (cs : Array Value) (fr : Nat × Nat) (d : TypeDesc) (hg : w.heap[g]? = some (.cells cs t fr))
    (hu : P.underlying ty = some d) (hd : (match d with | .struct _ | .array _ _ => true | _ => false) = true) (hi : (P.info? ty).map (·.size) = some cs.size) : (execOp ρ o).run P w = .ok (.value (.agg cs)) w := by
  unfold execOp
  simp only [ho, hx, Instr.loadAt, Instr.sureAddr, Sem.run_bind, Sem.run_pure, Result.andThen_ok, run_loadVar_row w g t ty cs fr d hg hu hd hi]
theorem conv_u8 (b : UInt8) (w : World) : (convert 22 5 (.int .u64 ((b.toNat : Nat) : Int))).run Tryd.prog w = .ok (.int .u8 ((b.toNat : Nat) : Int)) w := by
  rw [run_convert_int w 22 5 .u64 _ (by kernel_rfl) (by kernel_rfl), show Tryd.prog.intKind 5 = .u8 by kernel_rfl, IntKind.wrap_u8]
  have := b.toNat_lt
  congr 2; omega
theorem dig_at (g k : Nat) (hk : k < 32) (w : World) : (Instr.indexAt 32 (.pointer (some ⟨g, 0, none⟩)) (.int .i64 (k : Int))).run Tryd.prog w = .ok (.pointer (some ⟨g, k, none⟩)) w := by
  rw [run_indexAt_array w _ _ _ _ (by kernel_rfl)]
  have e1 : Tryd.prog.arrayLen 32 = 32 := by kernel_rfl
  have e2 : Tryd.prog.elem 32 = 5 := by kernel_rfl
  have e4 : (sizeOf 5).run Tryd.prog w = .ok 1 w := by kernel_rfl
  rw [e1, e2, e4, if_pos ⟨by omega, by omega⟩]
  have e3 : (⟨g, 0, none⟩ : Addr).add k = ⟨g, k, none⟩ := by unfold Addr.add; split <;> simp_all
  simp [e3]
theorem store_u8 (W : World) (g k : Nat) (x z : UInt8) (hc : W.cell? ⟨g, k, none⟩ = some (.int .u8 ((x.toNat : Nat) : Int))) (hf : W.frozen? ⟨g, k, none⟩ = false) : (storeVar 5 ⟨g, k, none⟩ (.int .u8 ((z.toNat : Nat) : Int))).run Tryd.prog W = .ok () (W.setCell ⟨g, k, none⟩ (.int .u8 ((z.toNat : Nat) : Int))) := by
  have hi : (Tryd.prog.info? 5).map (·.size) = some 1 := by kernel_rfl
  have hst : (store ((⟨g, k, none⟩ : Addr).add 0) (.int .u8 ((z.toNat : Nat) : Int))).run Tryd.prog W = .ok () (W.setCell ⟨g, k, none⟩ (.int .u8 ((z.toNat : Nat) : Int))) := by
    rw [show (⟨g, k, none⟩ : Addr).add 0 = ⟨g, k, none⟩ from rfl, run_store Tryd.prog W _ _ _ rfl, hc]
    simp [hf]
  cases hq : Tryd.prog.info? 5 with
  | none => rw [hq] at hi; cases hi
  | some i =>
    have hs : i.size = 1 := by simpa [hq] using hi
    simp [storeVar, sizeOf, typeInfo, hq, Value.cells, hs, storeCells, hst]
/-- So far: k bytes of the digest. -/
def dmix (l : List UInt8) (k : Nat) : List UInt8 := l.take k ++ List.replicate (32 - k) 0
theorem dmix_length (l : List UInt8) (k : Nat) (hl : l.length = 32) (hk : k ≤ 32) : (dmix l k).length = 32 := by simp [dmix]; omega
theorem dmix_end (l : List UInt8) (hl : l.length = 32) : dmix l 32 = l := by simp [dmix, ← hl]
theorem dmix_set (l : List UInt8) (k : Nat) (hl : l.length = 32) (hk : k < 32) : (byv (dmix l k)).setIfInBounds k (.int .u8 (((l[k]'(by omega)).toNat : Nat) : Int)) = byv (dmix l (k + 1)) := by
  have h1 : (dmix l k).set k (l[k]'(by omega)) = dmix l (k + 1) := by
    unfold dmix
    rw [List.set_append_right _ _ (by simp; omega), List.length_take, show k - min k l.length = 0 by omega, show 32 - k = (32 - (k + 1)) + 1 by omega, List.replicate_succ, List.set_cons_zero, List.take_succ_eq_append_getElem (by omega), List.append_assoc]
    rfl
  rw [← h1]
  simp [byv, List.map_set]
theorem dmix_get (l : List UInt8) (k : Nat) (hl : l.length = 32) (hk : k < 32) : (byv (dmix l k))[k]? = some (.int .u8 (((0 : UInt8).toNat : Nat) : Int)) := by
  have h1 : (dmix l k)[k]? = some 0 := by
    unfold dmix
    rw [List.getElem?_append_right (by simp; omega), List.length_take, show k - min k l.length = 0 by omega, List.getElem?_replicate, if_pos (by omega)]
  simp [byv, h1]
theorem bel_in {a b c : World} (h : Below a.heap.size a b) (q : Below b.heap.size b c) : Below a.heap.size a c := h.trans (q.mono h.size)
/-- So far: k blocks. -/
def SmAt (w W2 : World) (g : Nat) (PL : List UInt8) (z32 : Array Value) (i : Value) (W : World) : Prop :=
  ∃ k : Nat, 64 * k ≤ PL.length ∧ i = .int .i64 ((64 * k : Nat) : Int) ∧ Blk W (w.heap.size + 1) 81 (w64s (blks k ws0 PL)) ∧ Blk W w.heap.size 32 z32 ∧ W.heap[g]? = W2.heap[g]? ∧ Below w.heap.size w W
/-- So far: k bytes. -/
def SdAt (w : World) (gd : Nat) (S : Ws) (z32 : Array Value) (i : Value) (W : World) : Prop :=
  ∃ k : Nat, k ≤ 32 ∧ i = .int .i64 (k : Int) ∧ Blk W (w.heap.size + 1) 81 (w64s S) ∧ Blk W gd 32 (byv (dmix (dgb S) k)) ∧ Blk W w.heap.size 32 z32 ∧ Below w.heap.size w W

set_option maxHeartbeats 4000000 in
set_option maxRecDepth 100000 in
theorem Sum_ref (s : ByteArray) (hs : s.size ≤ 100000) (w : World) :
    Calls Tryd.prog 37 #[.string s] w fun e w' => e = .returned (.agg (byv (digest s.data.toList))) ∧ Below w.heap.size w w' := by
  obtain ⟨z32, hz32⟩ : ∃ z32, z32 = byv (List.replicate 32 0) := ⟨_, rfl⟩
  have hdz := digest_zero
  rw [← hz32] at hdz
  have HZ := Lib.hid hz32
  clear hz32
  go_enter Tryd.func37, Tryd.ntmps37
  go_wp2_with fail
  obtain ⟨W1, hW1⟩ : ∃ W1, W1 = (w.alloc (Obj.cells z32 32)).alloc (Obj.cells (w64s ws0) 81) := ⟨_, rfl⟩
  have b1 : Below w.heap.size w W1 := by rw [hW1]; exact ((Below.refl _ w).alloc (Nat.le_refl _) _).alloc (by rw [World.size_alloc]; omega) _
  have d1 : Blk W1 w.heap.size 32 z32 := by rw [hW1]; exact (Blk.new w _ _).alloc _
  have s1 : Blk W1 (w.heap.size + 1) 81 (w64s ws0) := by
    rw [hW1]; have := Blk.new (w.alloc (Obj.cells z32 32)) 81 (w64s ws0); rwa [World.size_alloc] at this
  have n1 : W1.heap.size = w.heap.size + 2 := by rw [hW1, World.size_alloc, World.size_alloc]
  change Calls _ _ _ ((w.alloc (Obj.cells z32 32)).alloc (Obj.cells (w64s ws0) 81)) _
  rw [← hW1]
  clear hW1
  refine (Padded_any s hs W1).mono ?_
  rintro e W2 ⟨v, rfl, own2, b2⟩
  obtain ⟨PL, hPL⟩ : ∃ PL, PL = padded s.data.toList := ⟨_, rfl⟩
  have hdg : digest s.data.toList = dgb (blks (PL.length / 64) ws0 PL) := by rw [hPL]; rfl
  have hw64 : PL.length % 64 = 0 := by rw [hPL]; exact padded_whole _
  have hpl : PL.length ≤ 100200 := by
    rw [hPL, padded_length, len_data]
    have : zrs s.size < 64 := by unfold zrs; omega
    omega
  rw [← hPL] at own2
  obtain ⟨_, g, cap, cur, fz, rfl, hbg, hg, _, hnc, hcs, htk⟩ := own2
  have hcell : ∀ j (h : j < PL.length), cur[j]? = some (.int .u8 ((PL[j].toNat : Nat) : Int)) := fun j h => by
    have e := congrArg (fun l => l[j]?) htk
    simp only [List.getElem?_take, if_pos h, Array.getElem?_toList] at e
    rw [e]
    simp [byv, h]
  have HC := Lib.hid hcell
  have HG := Lib.hid hg
  have HDG := Lib.hid hdg
  have HS2 := Lib.hid (s1.below b2 s1.lt)
  have HD2 := Lib.hid (d1.below b2 d1.lt)
  have HB2 := Lib.hid (b1.trans (b2.mono b1.size))
  obtain ⟨n, hn⟩ : ∃ n, n = PL.length := ⟨_, rfl⟩
  rw [← hn] at hw64 hpl hnc
  rw [← hn]
  have HN := Lib.hid hn
  clear hdg hcell hg htk b1 s1 d1 b2 hPL hn hs
  go_wp2_with fail
  go_loopw [5] (fun i W => SmAt w W2 g PL z32 i W) (fun i _ => n - (intOf i).toNat)
  case atStart => exact ⟨0, Nat.zero_le _, rfl, HS2.out, HD2.out, rfl, HB2.out⟩
  case round =>
    obtain ⟨k, hk, rfl, hs', hd, hgw, hb⟩ := hrel
    rw [← HN.out] at hk
    have HS := Lib.hid hs'
    have HD := Lib.hid hd
    have HGW := Lib.hid hgw
    have HB := Lib.hid hb
    have hgs : g < wr.heap.size := (Array.getElem?_eq_some_iff.1 (hgw.trans HG.out)).1
    clear hs' hd hgw hb HS2 HD2 HB2
    obtain ⟨j, hj⟩ : ∃ j, j = 64 * k := ⟨_, rfl⟩
    rw [← hj] at hk
    rw [← hj]
    by_cases hlt : j < n
    · have hj64 : j + 64 ≤ n := by omega
      have hok : (blks k ws0 PL).Ok := blks_ok _ ws0_ok _
      obtain ⟨SA, hSA⟩ : ∃ SA, SA = w64s (blks k ws0 PL) := ⟨_, rfl⟩
      obtain ⟨SB, hSB⟩ : ∃ SB, SB = w64s (blks (k + 1) ws0 PL) := ⟨_, rfl⟩
      rw [← hSA] at HS
      have HSZ := Lib.hid (show (Tryd.prog.info? 81).map (·.size) = some SA.size by rw [hSA, w64s_size]; exact k8_size)
      have HSZB := Lib.hid (show (Tryd.prog.info? 81).map (·.size) = some SB.size by rw [hSB, w64s_size]; exact k8_size)
      have HSO := Lib.hid (show SA.size = SB.size by rw [hSA, hSB, w64s_size, w64s_size])
      have HSB1 := Lib.hid (show SB.all (·.oneCell') = true by rw [hSB]; exact w64s_one _)
      have HSL := fun W => sum_slice g n cap j (j + 64) (by omega) rfl W
      obtain ⟨j2, hj2'⟩ : ∃ j2, j2 = j + 64 := ⟨_, rfl⟩
      rw [← hj2'] at HSL
      have hj2 : IntKind.i64.wrap ((j : Int) + (64 : Int)) = (j2 : Int) := by rw [IntWalk.i64_in _ (by omega)]; omega
      have HTK : ∀ W : World, Below wr.heap.size wr W → Calls Tryd.prog 59 #[.agg SA, .slice (some ⟨g, j, none⟩) 64 (cap - j)] W fun e w' => e = .returned (.agg SB) ∧ Below W.heap.size W w' := fun W b => by
        have hl : ((PL.drop j).take 64).length = 64 := by simp; rw [← HN.out]; omega
        have hb : Bat W g j ((PL.drop j).take 64) := ⟨Nat.lt_of_lt_of_le hgs b.size, fun i hi => by
          rw [hl] at hi
          have e1 : W.heap[g]? = some (.cells cur 5 fz) := (b.block g hgs).trans (HGW.out.trans HG.out)
          rw [World.cell?_of_block (a := ⟨g, j + i, none⟩) (e1.trans HG.out.symm), cell_of_row W2 g (j + i) cur _ fz HG.out, HC.out (j + i) (by rw [← HN.out]; omega)]
          simp⟩
        have := take_ref (blks k ws0 PL) hok g j (cap - j) _ hl W hb
        rw [hj, ← blks_snoc, ← hj] at this
        rw [hSA, hSB]
        exact this
      have FIN : ∀ W : World, Below wr.heap.size wr W → SmAt w W2 g PL z32 (.int .i64 (j2 : Int)) (W.setRow (w.heap.size + 1) SB) := fun W b => by
        have hgl : W.heap[w.heap.size + 1]? = some (.cells SA 81 (0, 0)) := HS.out.below b HS.out.lt
        refine ⟨k + 1, by rw [← HN.out]; omega, by rw [show 64 * (k + 1) = j2 by omega], by rw [← hSB]; exact setRow_heap _ _ _ _ _ _ hgl, (HD.out.below b HD.out.lt).same (setRow_other _ _ _ _ (by omega)), ?_, below_setRow (HB.out.trans (b.mono HB.out.size)) (by omega) _⟩
        exact (setRow_other _ _ _ _ (by omega)).trans ((b.block g hgs).trans HGW.out)
      have HSAE := Lib.hid hSA
      have HSBE := Lib.hid hSB
      have HJ2 := Lib.hid hj2
      have HJ3 := Lib.hid (show (j2 : Int) = (j : Int) + 64 by omega)
      have HJL := Lib.hid (show (j2 : Int) ≤ n by omega)
      clear hSA hSB hok hj hj2 hj2' hk hw64
      go_wp2_with fail
      have BW : Below wr.heap.size wr wr.drew := (Below.refl _ wr).drew
      refine walk_start 7 (fun W => Below wr.heap.size wr W) (by kernel_rfl) (n := 8) rfl ?_
      obtain ⟨W9, hW9⟩ : ∃ W9, W9 = wr.drew := ⟨_, rfl⟩
      rw [← hW9] at BW ⊢
      clear hW9
      refine walk_free 0 (.agg SA) rfl (by kernel_rfl) (by kernel_rfl) (by kernel_rfl) (by kernel_rfl) (by kernel_rfl) (by kernel_rfl) BW (fun W b => exec_row_ 81 (.tmp 3) (by kernel_rfl) (w.heap.size + 1) (by kernel_rfl) 81 SA (0, 0) _ (HS.out.below b HS.out.lt) k8_under rfl HSZ.out) ?_
      refine walk_free 1 (.slice (some ⟨g, 0, none⟩) n cap) rfl (by kernel_rfl) (by kernel_rfl) (by kernel_rfl) (by kernel_rfl) (by kernel_rfl) (by kernel_rfl) BW (fun _ _ => by kernel_rfl) ?_
      refine walk_free 2 (.int .i64 (j : Int)) rfl (by kernel_rfl) (by kernel_rfl) (by kernel_rfl) (by kernel_rfl) (by kernel_rfl) (by kernel_rfl) BW (fun _ _ => by kernel_rfl) ?_
      refine walk_free 3 (.int .i64 (j : Int)) rfl (by kernel_rfl) (by kernel_rfl) (by kernel_rfl) (by kernel_rfl) (by kernel_rfl) (by kernel_rfl) BW (fun _ _ => by kernel_rfl) ?_
      refine walk_free 4 (.int .i64 (IntKind.i64.wrap ((j : Int) + (64 : Int)))) rfl (by kernel_rfl) (by kernel_rfl) (by kernel_rfl) (by kernel_rfl) (by kernel_rfl) (by kernel_rfl) BW (fun _ _ => by kernel_rfl) ?_
      rw [HJ2.out]
      refine walk_free 5 (.slice (some ⟨g, j, none⟩) 64 (cap - j)) rfl (by kernel_rfl) (by kernel_rfl) (by kernel_rfl) (by kernel_rfl) (by kernel_rfl) (by kernel_rfl) BW (fun W _ => ex_slice 35 (.tmp 18) (.tmp 19) (.tmp 21) (by kernel_rfl) (by kernel_rfl) (by kernel_rfl) (by kernel_rfl) (HSL W)) ?_
      refine walk_one 6 (by kernel_rfl) (do_call 6 rfl (by kernel_rfl) (by kernel_rfl) (HTK _ BW) (fun w' h => bel_in BW h) ?_)
      intro q hq
      have BQ := bel_in BW hq
      refine walk_one 7 (by kernel_rfl) (do_last 7 rfl (by kernel_rfl) (ex_store_row 81 (.tmp 3) (.tmp 23) (by kernel_rfl) (w.heap.size + 1) SB (by kernel_rfl) (by kernel_rfl) 81 SA (HS.out.below BQ HS.out.lt) HSZB.out HSO.out HSB1.out) (by kernel_rfl) ?_)
      refine walk_end (by kernel_rfl) ?_
      have HFIN := Lib.hid (FIN q BQ)
      clear FIN HTK BQ hq
      go_wp2_with fail
      go_roundw
      case rel => first | exact HFIN.out | (rw [← HJ3.out]; exact HFIN.out)
      case measure => simp [intOf]; omega
    · have hkn : k = n / 64 := by omega
      obtain rfl : j = n := by omega
      obtain ⟨S, hS⟩ : ∃ S, S = blks (j / 64) ws0 PL := ⟨_, rfl⟩
      rw [hkn, ← hS] at HS
      have hok : S.Ok := by rw [hS]; exact blks_ok _ ws0_ok _
      have HDGE := Lib.hid (show dgb (blks (PL.length / 64) ws0 PL) = dgb S by rw [hS, HN.out])
      clear hlt hkn hj hS
      go_wp2_with fail
      have e0 : byv (dmix (dgb S) 0) = z32 := by rw [HZ.out]; simp [dmix]
      obtain ⟨gd, hgd⟩ : ∃ gd, gd = wr.heap.size := ⟨_, rfl⟩
      have hgs2 : w.heap.size + 1 < gd := by rw [hgd]; exact HS.out.lt
      have HDA := Lib.hid (show Blk (wr.alloc (.cells z32 32)) gd 32 (byv (dmix (dgb S) 0)) by rw [hgd, e0]; exact Blk.new _ _ _)
      have HSA := Lib.hid (HS.out.alloc (.cells z32 32))
      have HDO := Lib.hid (HD.out.alloc (.cells z32 32))
      have HBO := Lib.hid (HB.out.alloc HB.out.size (.cells z32 32))
      rw [← hgd]
      clear e0 hgd HS HD HGW HB hgs
      go_loopw [7] (fun i W => SdAt w gd S z32 i W) (fun i _ => 32 - (intOf i).toNat)
      case atStart => exact ⟨0, by decide, rfl, HSA.out, HDA.out, HDO.out, HBO.out⟩
      case round =>
        obtain ⟨k, hk, rfl, hs', hd, hz', hb⟩ := hrel
        have HS := Lib.hid hs'
        have HD := Lib.hid hd
        have HR := Lib.hid hz'
        have HB := Lib.hid hb
        clear hs' hd hz' hb HSA HDA HDO HBO
        have hdl := dgb_length S
        by_cases hlt : k < 32
        · have hset := dmix_set (dgb S) k hdl hlt
          have hget := dmix_get (dgb S) k hdl hlt
          have hbk := dgb_get S k hlt
          obtain ⟨b, hb⟩ : ∃ b, b = (dgb S)[k]'(by rw [hdl]; exact hlt) := ⟨_, rfl⟩
          rw [← hb] at hset hbk
          obtain ⟨q, hq⟩ : ∃ q, q = k / 4 := ⟨_, rfl⟩
          obtain ⟨r, hr⟩ : ∃ r, r = k % 4 := ⟨_, rfl⟩
          obtain ⟨m, hm⟩ : ∃ m, m = 8 * r := ⟨_, rfl⟩
          obtain ⟨e, he⟩ : ∃ e, e = 24 - m := ⟨_, rfl⟩
          rw [← hq, ← hr, show 8 * (3 - r) = e by omega] at hbk
          have hql : q < 8 := by omega
          have he24 : e ≤ 62 := by omega
          have f2 : IntKind.i64.wrap (Int.tdiv (k : Int) (4 : Int)) = (q : Int) := by
            have e1 : Int.tdiv (k : Int) (4 : Int) = (q : Int) := by rw [Int.tdiv_eq_ediv_of_nonneg (by omega)]; omega
            rw [e1, IntWalk.i64_in _ (by omega)]
          have f6 : Int.tmod (k : Int) (4 : Int) = (r : Int) := by rw [Int.tmod_eq_emod_of_nonneg (by omega)]; omega
          have f7 : IntKind.i64.wrap ((8 : Int) * (r : Int)) = (m : Int) := by rw [IntWalk.i64_in _ (by omega)]; omega
          have f8 : IntKind.i64.wrap ((24 : Int) - (m : Int)) = (e : Int) := by rw [IntWalk.i64_in _ (by omega)]; omega
          have hyl : S.list.getD q 0 ≤ MW := by
            rw [List.getD_eq_getElem?_getD, List.getElem?_eq_getElem (show q < S.list.length from hql)]
            exact ws_le hok q hql
          have hyk : (w64s S)[q]? = some (.int .u64 ((S.list.getD q 0 : Nat) : Int)) := by
            rw [show w64s S = u64s S.list from rfl, u64s_get _ _ (show q < S.list.length from hql), List.getD_eq_getElem?_getD, List.getElem?_eq_getElem (show q < S.list.length from hql)]
            rfl
          obtain ⟨y, hy⟩ : ∃ y, y = S.list.getD q 0 := ⟨_, rfl⟩
          rw [← hy] at hyl hyk hbk
          have HTW := two_any e he24
          have hp0 : 2 ^ e ≠ 0 := Nat.pos_iff_ne_zero.1 (Nat.two_pow_pos e)
          rw [Nat.shiftRight_eq_div_pow] at hbk
          obtain ⟨p, hp⟩ : ∃ p, p = 2 ^ e := ⟨_, rfl⟩
          rw [← hp] at hp0 hbk
          have HTW : ∀ W : World, Calls Tryd.prog 60 #[.int .i64 (e : Int)] W fun x w' => x = .returned (.int .u64 (p : Int)) ∧ W = w' := by rw [hp]; exact HTW
          obtain ⟨d1, hd1'⟩ : ∃ d1, d1 = y / p := ⟨_, rfl⟩
          have hd1 : (d1 : Int) = IntKind.u64.wrap ((y : Int) / (p : Int)) := by rw [div_wrap y p (by unfold MW at hyl; omega), hd1']
          rw [← hd1'] at hbk
          have hd2 : ((b.toNat : Nat) : Int) = (d1 : Int) % ((256 : Nat) : Int) := by rw [hbk]; simp
          have HSETT := Lib.hid hset
          have JS := k8_at (w.heap.size + 1) q hql
          have JD := dig_at gd k hlt
          have CS : ∀ W : World, Below wr.heap.size wr W → W.cell? ⟨w.heap.size + 1, q, none⟩ = some (.int .u64 (y : Int)) := fun W b => ((HS.out.below b HS.out.lt).cell q).trans hyk
          have STO : ∀ W : World, Below wr.heap.size wr W → (storeVar 5 ⟨gd, k, none⟩ (.int .u8 ((b.toNat : Nat) : Int))).run Tryd.prog W = .ok () (W.setCell ⟨gd, k, none⟩ (.int .u8 ((b.toNat : Nat) : Int))) := fun W bb => store_u8 W gd k 0 b (((HD.out.below bb HD.out.lt).cell k).trans hget) ((HD.out.below bb HD.out.lt).frozen k)
          have FIN : ∀ W : World, Below wr.heap.size wr W → SdAt w gd S z32 (.int .i64 ((k : Int) + 1)) (W.setCell ⟨gd, k, none⟩ (.int .u8 ((b.toNat : Nat) : Int))) := fun W bb => by
            have hgl := (HD.out.below bb HD.out.lt).set_ k (.int .u8 ((b.toNat : Nat) : Int))
            rw [HSETT.out] at hgl
            refine ⟨k + 1, by omega, by rw [Int.natCast_add]; rfl, (HS.out.below bb HS.out.lt).same (Below.heap_setCell W _ _ _ (by show w.heap.size + 1 ≠ gd; omega)), hgl, (HR.out.below bb HR.out.lt).same (Below.heap_setCell W _ _ _ (by show w.heap.size ≠ gd; omega)), ?_⟩
            have b1 : Below w.heap.size w W := HB.out.trans (bb.mono HB.out.size)
            exact b1.trans ⟨rfl, rfl, rfl, by simp [World.setCell], fun j hj => Below.heap_setCell W _ _ j (by show j ≠ gd; omega)⟩
          have F2 := Lib.hid f2
          have F6 := Lib.hid f6
          have F7 := Lib.hid f7
          have F8 := Lib.hid f8
          have D1 := Lib.hid hd1
          have D2 := Lib.hid hd2
          clear hset hget hbk hb hq hr hm he f2 f6 f7 f8 hy hp hd1' hyl hyk hd1 hd2 hdl
          go_wp2_with fail
          have BW : Below wr.heap.size wr wr.drew := (Below.refl _ wr).drew
          refine walk_start 14 (fun W => Below wr.heap.size wr W) (by kernel_rfl) (n := 15) rfl ?_
          obtain ⟨W9, hW9⟩ : ∃ W9, W9 = wr.drew := ⟨_, rfl⟩
          rw [← hW9] at BW ⊢
          clear hW9
          refine walk_free 0 (.int .i64 (k : Int)) rfl (by kernel_rfl) (by kernel_rfl) (by kernel_rfl) (by kernel_rfl) (by kernel_rfl) (by kernel_rfl) BW (fun _ _ => by kernel_rfl) ?_
          refine walk_free 1 (.int .i64 (k : Int)) rfl (by kernel_rfl) (by kernel_rfl) (by kernel_rfl) (by kernel_rfl) (by kernel_rfl) (by kernel_rfl) BW (fun _ _ => by kernel_rfl) ?_
          refine walk_free 2 (.int .i64 (IntKind.i64.wrap (Int.tdiv (k : Int) (4 : Int)))) rfl (by kernel_rfl) (by kernel_rfl) (by kernel_rfl) (by kernel_rfl) (by kernel_rfl) (by kernel_rfl) BW (fun _ _ => by kernel_rfl) ?_
          rw [F2.out]
          refine walk_free 3 (.pointer (some ⟨w.heap.size + 1, q, none⟩)) rfl (by kernel_rfl) (by kernel_rfl) (by kernel_rfl) (by kernel_rfl) (by kernel_rfl) (by kernel_rfl) BW (fun W _ => by refine ex_index rfl ?_ ?_ (JS W) <;> kernel_rfl) ?_
          refine walk_free 4 (.int .u64 (y : Int)) rfl (by kernel_rfl) (by kernel_rfl) (by kernel_rfl) (by kernel_rfl) (by kernel_rfl) (by kernel_rfl) BW (fun W h => by refine ex_load 22 (.tmp 31) ?_ ⟨w.heap.size + 1, q, none⟩ ?_ ?_ (CS W h) <;> kernel_rfl) ?_
          refine walk_free 5 (.int .i64 (k : Int)) rfl (by kernel_rfl) (by kernel_rfl) (by kernel_rfl) (by kernel_rfl) (by kernel_rfl) (by kernel_rfl) BW (fun _ _ => by kernel_rfl) ?_
          refine walk_free 6 (.int .i64 (Int.tmod (k : Int) (4 : Int))) rfl (by kernel_rfl) (by kernel_rfl) (by kernel_rfl) (by kernel_rfl) (by kernel_rfl) (by kernel_rfl) BW (fun _ _ => by kernel_rfl) ?_
          rw [F6.out]
          refine walk_free 7 (.int .i64 (IntKind.i64.wrap ((8 : Int) * (r : Int)))) rfl (by kernel_rfl) (by kernel_rfl) (by kernel_rfl) (by kernel_rfl) (by kernel_rfl) (by kernel_rfl) BW (fun _ _ => by kernel_rfl) ?_
          rw [F7.out]
          refine walk_free 8 (.int .i64 (IntKind.i64.wrap ((24 : Int) - (m : Int)))) rfl (by kernel_rfl) (by kernel_rfl) (by kernel_rfl) (by kernel_rfl) (by kernel_rfl) (by kernel_rfl) BW (fun _ _ => by kernel_rfl) ?_
          rw [F8.out]
          refine walk_one 9 (by kernel_rfl) (do_call 9 rfl (by kernel_rfl) (by kernel_rfl) (HTW _) (fun w' h => by rw [← h]; exact BW) ?_)
          intro q9 hq9
          have BQ : Below wr.heap.size wr q9 := by rw [← hq9]; exact BW
          refine walk_free 10 (.int .u64 (d1 : Int)) rfl (by kernel_rfl) (by kernel_rfl) (by kernel_rfl) (by kernel_rfl) (by kernel_rfl) (by kernel_rfl) BQ (fun W _ => by rw [D1.out]; exact exec_quo (a := y) (b := p) 22 22 (.tmp 32) (.tmp 37) (by kernel_rfl) (by kernel_rfl) (by kernel_rfl) hp0) ?_
          refine walk_free 11 (.int .u64 ((b.toNat : Nat) : Int)) rfl (by kernel_rfl) (by kernel_rfl) (by kernel_rfl) (by kernel_rfl) (by kernel_rfl) (by kernel_rfl) BQ (fun W _ => by rw [D2.out]; exact exec_rem (a := d1) (b := 256) 22 22 (.tmp 38) (.const (.int .u64 256)) (by kernel_rfl) (by kernel_rfl) (by kernel_rfl) (by decide)) ?_
          refine walk_free 12 (.int .u8 ((b.toNat : Nat) : Int)) rfl (by kernel_rfl) (by kernel_rfl) (by kernel_rfl) (by kernel_rfl) (by kernel_rfl) (by kernel_rfl) BQ (fun W _ => ex_convert 22 5 (.tmp 39) (by kernel_rfl) (by kernel_rfl) (conv_u8 b W)) ?_
          refine walk_free 13 (.pointer (some ⟨gd, k, none⟩)) rfl (by kernel_rfl) (by kernel_rfl) (by kernel_rfl) (by kernel_rfl) (by kernel_rfl) (by kernel_rfl) BQ (fun W _ => by refine ex_index rfl ?_ ?_ (JD W) <;> kernel_rfl) ?_
          refine walk_one 14 (by kernel_rfl) (do_last 14 rfl (by kernel_rfl) (ex_store_cell 5 (.tmp 41) (.tmp 40) (by kernel_rfl) ⟨gd, k, none⟩ (.int .u8 ((b.toNat : Nat) : Int)) (by kernel_rfl) (by kernel_rfl) (STO q9 BQ)) (by kernel_rfl) ?_)
          refine walk_end (by kernel_rfl) ?_
          have HFIN := Lib.hid (FIN q9 BQ)
          clear FIN STO BQ hq9
          go_wp2_with fail
          go_roundw
          case rel => exact HFIN.out
          case measure => simp [intOf]; omega
        · obtain rfl : k = 32 := by omega
          clear hlt
          rw [dmix_end _ hdl] at HD
          obtain ⟨FA, hFA⟩ : ∃ FA, FA = byv (dgb S) := ⟨_, rfl⟩
          rw [← hFA] at HD
          have HFA := Lib.hid hFA
          have HFZ := Lib.hid (show (Tryd.prog.info? 32).map (·.size) = some FA.size by rw [hFA, byv_size, hdl]; exact digest_size)
          have HFO := Lib.hid (show z32.size = FA.size by rw [hFA, HZ.out, byv_size, byv_size, hdl]; rfl)
          have HF1 := Lib.hid (show FA.all (·.oneCell') = true by rw [hFA]; exact byv_one _)
          clear hFA hdl
          have HRW := Lib.hid (show Blk (wr.setRow w.heap.size FA) w.heap.size 32 FA from setRow_heap _ _ _ _ _ _ HR.out)
          have HBW := Lib.hid (below_setRow HB.out (Nat.le_refl _) FA)
          go_wp2_with (first
            | (refine wpList_load_row rfl 32 (.tmp 6) rfl gd rfl 32 FA (0, 0) _ ?_ digest_under rfl HFZ.out ?_; exact HD.out)
            | (refine wpList_store_row rfl 32 (.tmp 2) (.tmp 42) rfl w.heap.size FA rfl rfl 32 _ ?_ HFZ.out HFO.out HF1.out ?_; exact HR.out))
          refine bodyPost_ret (results_cell_row rfl _ _ w.heap.size 32 FA (0, 0) _ rfl HRW.out digest_under rfl HFZ.out) rfl ⟨by rw [HFA.out, HDG.out, HDGE.out], HBW.out⟩
end Go.Proofs.YtcbakfnpbhgjoaaDoor
