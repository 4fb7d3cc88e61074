/-
  The document's own MayAdd of layer 12, by its walk.
-/
import Derived.Test.YtcofdiamlmlhfaaAddrWalks
namespace Go.Proofs.Ytcofdiamlmlhfaa
open Go.ChangeShapes Go.WideShapes Go.ChangeAt Go.RowKit
set_option linter.unusedVariables false

set_option maxHeartbeats 2000000 in
theorem may_tt (id : Int) (ip : ByteArray) (port : Int) (mac : ByteArray) (w : World) :
    Calls Try.prog 27 #[.agg (adv ⟨true, id, ip, true, port, mac⟩)] w fun e w' => e = .returned (.bool (decide (Ad.May ⟨true, id, ip, true, port, mac⟩))) ∧ Below w.heap.size w w' := by
  obtain ⟨M, hM⟩ : ∃ M, M = decide (Ad.May ⟨true, id, ip, true, port, mac⟩) := ⟨_, rfl⟩
  rw [← hM]
  by_cases h_i0 : 0 ≤ id
  · by_cases h_i1 : id ≤ 255
    · by_cases h_s4 : (ip.size : Int) = 4
      · by_cases h_p0 : 0 ≤ port
        · by_cases h_p1 : port ≤ 65535
          · by_cases h_mc : (mac.size : Int) = 0
            · have HMM := Lib.hid (show M = true from hM.trans (decide_eq_true ⟨⟨h_i0, h_i1⟩, .inl (show ip.size = 4 by omega), ⟨h_p0, h_p1⟩, .inl rfl, by show mac.size = 0; omega⟩))
              clear hM
              have e_s4 : ((ip.size : Int) == 4) = true := by rw [beq_iff_eq]; exact h_s4
              have e_mc : ((mac.size : Int) == 0) = true := by rw [beq_iff_eq]; exact h_mc
              clear h_s4 h_mc
              go_enter Try.func27, Try.ntmps27
              go_wp2
              rw [HMM.out]
              go_ret; exact ⟨rfl, (Below.refl _ _).alloc (Nat.le_refl _) _⟩
            · have HMM := Lib.hid (show M = false from hM.trans (decide_eq_false fun m => h_mc (by have q : mac.size = 0 := m.2.2.2.2; omega)))
              clear hM
              have e_s4 : ((ip.size : Int) == 4) = true := by rw [beq_iff_eq]; exact h_s4
              have e_mc : ((mac.size : Int) == 0) = false := by rw [beq_eq_false_iff_ne]; exact h_mc
              clear h_s4 h_mc
              go_enter Try.func27, Try.ntmps27
              go_wp2
              rw [HMM.out]
              go_ret; exact ⟨rfl, (Below.refl _ _).alloc (Nat.le_refl _) _⟩
          · have HMM := Lib.hid (show M = false from hM.trans (decide_eq_false fun m => h_p1 m.2.2.1.2))
            clear hM
            have e_s4 : ((ip.size : Int) == 4) = true := by rw [beq_iff_eq]; exact h_s4
            clear h_s4
            go_enter Try.func27, Try.ntmps27
            go_wp2
            rw [HMM.out]
            go_ret; exact ⟨rfl, (Below.refl _ _).alloc (Nat.le_refl _) _⟩
        · have HMM := Lib.hid (show M = false from hM.trans (decide_eq_false fun m => h_p0 m.2.2.1.1))
          clear hM
          have e_s4 : ((ip.size : Int) == 4) = true := by rw [beq_iff_eq]; exact h_s4
          clear h_s4
          go_enter Try.func27, Try.ntmps27
          go_wp2
          rw [HMM.out]
          go_ret; exact ⟨rfl, (Below.refl _ _).alloc (Nat.le_refl _) _⟩
      · by_cases h_s16 : (ip.size : Int) = 16
        · by_cases h_p0 : 0 ≤ port
          · by_cases h_p1 : port ≤ 65535
            · by_cases h_mc : (mac.size : Int) = 0
              · have HMM := Lib.hid (show M = true from hM.trans (decide_eq_true ⟨⟨h_i0, h_i1⟩, .inr (show ip.size = 16 by omega), ⟨h_p0, h_p1⟩, .inl rfl, by show mac.size = 0; omega⟩))
                clear hM
                have e_s4 : ((ip.size : Int) == 4) = false := by rw [beq_eq_false_iff_ne]; exact h_s4
                have e_s16 : ((ip.size : Int) == 16) = true := by rw [beq_iff_eq]; exact h_s16
                have e_mc : ((mac.size : Int) == 0) = true := by rw [beq_iff_eq]; exact h_mc
                clear h_s4 h_s16 h_mc
                go_enter Try.func27, Try.ntmps27
                go_wp2
                rw [HMM.out]
                go_ret; exact ⟨rfl, (Below.refl _ _).alloc (Nat.le_refl _) _⟩
              · have HMM := Lib.hid (show M = false from hM.trans (decide_eq_false fun m => h_mc (by have q : mac.size = 0 := m.2.2.2.2; omega)))
                clear hM
                have e_s4 : ((ip.size : Int) == 4) = false := by rw [beq_eq_false_iff_ne]; exact h_s4
                have e_s16 : ((ip.size : Int) == 16) = true := by rw [beq_iff_eq]; exact h_s16
                have e_mc : ((mac.size : Int) == 0) = false := by rw [beq_eq_false_iff_ne]; exact h_mc
                clear h_s4 h_s16 h_mc
                go_enter Try.func27, Try.ntmps27
                go_wp2
                rw [HMM.out]
                go_ret; exact ⟨rfl, (Below.refl _ _).alloc (Nat.le_refl _) _⟩
            · have HMM := Lib.hid (show M = false from hM.trans (decide_eq_false fun m => h_p1 m.2.2.1.2))
              clear hM
              have e_s4 : ((ip.size : Int) == 4) = false := by rw [beq_eq_false_iff_ne]; exact h_s4
              have e_s16 : ((ip.size : Int) == 16) = true := by rw [beq_iff_eq]; exact h_s16
              clear h_s4 h_s16
              go_enter Try.func27, Try.ntmps27
              go_wp2
              rw [HMM.out]
              go_ret; exact ⟨rfl, (Below.refl _ _).alloc (Nat.le_refl _) _⟩
          · have HMM := Lib.hid (show M = false from hM.trans (decide_eq_false fun m => h_p0 m.2.2.1.1))
            clear hM
            have e_s4 : ((ip.size : Int) == 4) = false := by rw [beq_eq_false_iff_ne]; exact h_s4
            have e_s16 : ((ip.size : Int) == 16) = true := by rw [beq_iff_eq]; exact h_s16
            clear h_s4 h_s16
            go_enter Try.func27, Try.ntmps27
            go_wp2
            rw [HMM.out]
            go_ret; exact ⟨rfl, (Below.refl _ _).alloc (Nat.le_refl _) _⟩
        · have HMM := Lib.hid (show M = false from hM.trans (decide_eq_false fun m => by have q : ip.size = 4 ∨ ip.size = 16 := m.2.1; omega))
          clear hM
          have e_s4 : ((ip.size : Int) == 4) = false := by rw [beq_eq_false_iff_ne]; exact h_s4
          have e_s16 : ((ip.size : Int) == 16) = false := by rw [beq_eq_false_iff_ne]; exact h_s16
          clear h_s4 h_s16
          go_enter Try.func27, Try.ntmps27
          go_wp2
          rw [HMM.out]
          go_ret; exact ⟨rfl, (Below.refl _ _).alloc (Nat.le_refl _) _⟩
    · have HMM := Lib.hid (show M = false from hM.trans (decide_eq_false fun m => h_i1 m.1.2))
      clear hM
      go_enter Try.func27, Try.ntmps27
      go_wp2
      rw [HMM.out]
      go_ret; exact ⟨rfl, (Below.refl _ _).alloc (Nat.le_refl _) _⟩
  · have HMM := Lib.hid (show M = false from hM.trans (decide_eq_false fun m => h_i0 m.1.1))
    clear hM
    go_enter Try.func27, Try.ntmps27
    go_wp2
    rw [HMM.out]
    go_ret; exact ⟨rfl, (Below.refl _ _).alloc (Nat.le_refl _) _⟩
set_option maxHeartbeats 2000000 in
theorem may_tf (id : Int) (ip : ByteArray) (port : Int) (mac : ByteArray) (w : World) :
    Calls Try.prog 27 #[.agg (adv ⟨true, id, ip, false, port, mac⟩)] w fun e w' => e = .returned (.bool (decide (Ad.May ⟨true, id, ip, false, port, mac⟩))) ∧ Below w.heap.size w w' := by
  obtain ⟨M, hM⟩ : ∃ M, M = decide (Ad.May ⟨true, id, ip, false, port, mac⟩) := ⟨_, rfl⟩
  rw [← hM]
  by_cases h_i0 : 0 ≤ id
  · by_cases h_i1 : id ≤ 255
    · by_cases h_s4 : (ip.size : Int) = 4
      · by_cases h_p0 : 0 ≤ port
        · by_cases h_p1 : port ≤ 65535
          · by_cases h_pz : port = 0
            · by_cases h_mc : (mac.size : Int) = 0
              · have HMM := Lib.hid (show M = true from hM.trans (decide_eq_true ⟨⟨h_i0, h_i1⟩, .inl (show ip.size = 4 by omega), ⟨h_p0, h_p1⟩, .inr h_pz, by show mac.size = 0; omega⟩))
                clear hM
                have e_s4 : ((ip.size : Int) == 4) = true := by rw [beq_iff_eq]; exact h_s4
                have e_pz : (port == 0) = true := by rw [beq_iff_eq]; exact h_pz
                have e_mc : ((mac.size : Int) == 0) = true := by rw [beq_iff_eq]; exact h_mc
                clear h_s4 h_pz h_mc
                go_enter Try.func27, Try.ntmps27
                go_wp2
                rw [HMM.out]
                go_ret; exact ⟨rfl, (Below.refl _ _).alloc (Nat.le_refl _) _⟩
              · have HMM := Lib.hid (show M = false from hM.trans (decide_eq_false fun m => h_mc (by have q : mac.size = 0 := m.2.2.2.2; omega)))
                clear hM
                have e_s4 : ((ip.size : Int) == 4) = true := by rw [beq_iff_eq]; exact h_s4
                have e_pz : (port == 0) = true := by rw [beq_iff_eq]; exact h_pz
                have e_mc : ((mac.size : Int) == 0) = false := by rw [beq_eq_false_iff_ne]; exact h_mc
                clear h_s4 h_pz h_mc
                go_enter Try.func27, Try.ntmps27
                go_wp2
                rw [HMM.out]
                go_ret; exact ⟨rfl, (Below.refl _ _).alloc (Nat.le_refl _) _⟩
            · have HMM := Lib.hid (show M = false from hM.trans (decide_eq_false fun m => by have q : (false = true) ∨ port = 0 := m.2.2.2.1; rcases q with q | q; cases q; exact h_pz q))
              clear hM
              have e_s4 : ((ip.size : Int) == 4) = true := by rw [beq_iff_eq]; exact h_s4
              have e_pz : (port == 0) = false := by rw [beq_eq_false_iff_ne]; exact h_pz
              clear h_s4 h_pz
              go_enter Try.func27, Try.ntmps27
              go_wp2
              rw [HMM.out]
              go_ret; exact ⟨rfl, (Below.refl _ _).alloc (Nat.le_refl _) _⟩
          · have HMM := Lib.hid (show M = false from hM.trans (decide_eq_false fun m => h_p1 m.2.2.1.2))
            clear hM
            have e_s4 : ((ip.size : Int) == 4) = true := by rw [beq_iff_eq]; exact h_s4
            clear h_s4
            go_enter Try.func27, Try.ntmps27
            go_wp2
            rw [HMM.out]
            go_ret; exact ⟨rfl, (Below.refl _ _).alloc (Nat.le_refl _) _⟩
        · have HMM := Lib.hid (show M = false from hM.trans (decide_eq_false fun m => h_p0 m.2.2.1.1))
          clear hM
          have e_s4 : ((ip.size : Int) == 4) = true := by rw [beq_iff_eq]; exact h_s4
          clear h_s4
          go_enter Try.func27, Try.ntmps27
          go_wp2
          rw [HMM.out]
          go_ret; exact ⟨rfl, (Below.refl _ _).alloc (Nat.le_refl _) _⟩
      · by_cases h_s16 : (ip.size : Int) = 16
        · by_cases h_p0 : 0 ≤ port
          · by_cases h_p1 : port ≤ 65535
            · by_cases h_pz : port = 0
              · by_cases h_mc : (mac.size : Int) = 0
                · have HMM := Lib.hid (show M = true from hM.trans (decide_eq_true ⟨⟨h_i0, h_i1⟩, .inr (show ip.size = 16 by omega), ⟨h_p0, h_p1⟩, .inr h_pz, by show mac.size = 0; omega⟩))
                  clear hM
                  have e_s4 : ((ip.size : Int) == 4) = false := by rw [beq_eq_false_iff_ne]; exact h_s4
                  have e_s16 : ((ip.size : Int) == 16) = true := by rw [beq_iff_eq]; exact h_s16
                  have e_pz : (port == 0) = true := by rw [beq_iff_eq]; exact h_pz
                  have e_mc : ((mac.size : Int) == 0) = true := by rw [beq_iff_eq]; exact h_mc
                  clear h_s4 h_s16 h_pz h_mc
                  go_enter Try.func27, Try.ntmps27
                  go_wp2
                  rw [HMM.out]
                  go_ret; exact ⟨rfl, (Below.refl _ _).alloc (Nat.le_refl _) _⟩
                · have HMM := Lib.hid (show M = false from hM.trans (decide_eq_false fun m => h_mc (by have q : mac.size = 0 := m.2.2.2.2; omega)))
                  clear hM
                  have e_s4 : ((ip.size : Int) == 4) = false := by rw [beq_eq_false_iff_ne]; exact h_s4
                  have e_s16 : ((ip.size : Int) == 16) = true := by rw [beq_iff_eq]; exact h_s16
                  have e_pz : (port == 0) = true := by rw [beq_iff_eq]; exact h_pz
                  have e_mc : ((mac.size : Int) == 0) = false := by rw [beq_eq_false_iff_ne]; exact h_mc
                  clear h_s4 h_s16 h_pz h_mc
                  go_enter Try.func27, Try.ntmps27
                  go_wp2
                  rw [HMM.out]
                  go_ret; exact ⟨rfl, (Below.refl _ _).alloc (Nat.le_refl _) _⟩
              · have HMM := Lib.hid (show M = false from hM.trans (decide_eq_false fun m => by have q : (false = true) ∨ port = 0 := m.2.2.2.1; rcases q with q | q; cases q; exact h_pz q))
                clear hM
                have e_s4 : ((ip.size : Int) == 4) = false := by rw [beq_eq_false_iff_ne]; exact h_s4
                have e_s16 : ((ip.size : Int) == 16) = true := by rw [beq_iff_eq]; exact h_s16
                have e_pz : (port == 0) = false := by rw [beq_eq_false_iff_ne]; exact h_pz
                clear h_s4 h_s16 h_pz
                go_enter Try.func27, Try.ntmps27
                go_wp2
                rw [HMM.out]
                go_ret; exact ⟨rfl, (Below.refl _ _).alloc (Nat.le_refl _) _⟩
            · have HMM := Lib.hid (show M = false from hM.trans (decide_eq_false fun m => h_p1 m.2.2.1.2))
              clear hM
              have e_s4 : ((ip.size : Int) == 4) = false := by rw [beq_eq_false_iff_ne]; exact h_s4
              have e_s16 : ((ip.size : Int) == 16) = true := by rw [beq_iff_eq]; exact h_s16
              clear h_s4 h_s16
              go_enter Try.func27, Try.ntmps27
              go_wp2
              rw [HMM.out]
              go_ret; exact ⟨rfl, (Below.refl _ _).alloc (Nat.le_refl _) _⟩
          · have HMM := Lib.hid (show M = false from hM.trans (decide_eq_false fun m => h_p0 m.2.2.1.1))
            clear hM
            have e_s4 : ((ip.size : Int) == 4) = false := by rw [beq_eq_false_iff_ne]; exact h_s4
            have e_s16 : ((ip.size : Int) == 16) = true := by rw [beq_iff_eq]; exact h_s16
            clear h_s4 h_s16
            go_enter Try.func27, Try.ntmps27
            go_wp2
            rw [HMM.out]
            go_ret; exact ⟨rfl, (Below.refl _ _).alloc (Nat.le_refl _) _⟩
        · have HMM := Lib.hid (show M = false from hM.trans (decide_eq_false fun m => by have q : ip.size = 4 ∨ ip.size = 16 := m.2.1; omega))
          clear hM
          have e_s4 : ((ip.size : Int) == 4) = false := by rw [beq_eq_false_iff_ne]; exact h_s4
          have e_s16 : ((ip.size : Int) == 16) = false := by rw [beq_eq_false_iff_ne]; exact h_s16
          clear h_s4 h_s16
          go_enter Try.func27, Try.ntmps27
          go_wp2
          rw [HMM.out]
          go_ret; exact ⟨rfl, (Below.refl _ _).alloc (Nat.le_refl _) _⟩
    · have HMM := Lib.hid (show M = false from hM.trans (decide_eq_false fun m => h_i1 m.1.2))
      clear hM
      go_enter Try.func27, Try.ntmps27
      go_wp2
      rw [HMM.out]
      go_ret; exact ⟨rfl, (Below.refl _ _).alloc (Nat.le_refl _) _⟩
  · have HMM := Lib.hid (show M = false from hM.trans (decide_eq_false fun m => h_i0 m.1.1))
    clear hM
    go_enter Try.func27, Try.ntmps27
    go_wp2
    rw [HMM.out]
    go_ret; exact ⟨rfl, (Below.refl _ _).alloc (Nat.le_refl _) _⟩
set_option maxHeartbeats 2000000 in
theorem may_ft (id : Int) (ip : ByteArray) (port : Int) (mac : ByteArray) (w : World) :
    Calls Try.prog 27 #[.agg (adv ⟨false, id, ip, true, port, mac⟩)] w fun e w' => e = .returned (.bool (decide (Ad.May ⟨false, id, ip, true, port, mac⟩))) ∧ Below w.heap.size w w' := by
  obtain ⟨M, hM⟩ : ∃ M, M = decide (Ad.May ⟨false, id, ip, true, port, mac⟩) := ⟨_, rfl⟩
  rw [← hM]
  by_cases h_i0 : 0 ≤ id
  · by_cases h_i1 : id ≤ 255
    · by_cases h_s4 : (ip.size : Int) = 4
      · by_cases h_p0 : 0 ≤ port
        · by_cases h_p1 : port ≤ 65535
          · by_cases h_mc : (mac.size : Int) = 8
            · have HMM := Lib.hid (show M = true from hM.trans (decide_eq_true ⟨⟨h_i0, h_i1⟩, .inl (show ip.size = 4 by omega), ⟨h_p0, h_p1⟩, .inl rfl, by show mac.size = 8; omega⟩))
              clear hM
              have e_s4 : ((ip.size : Int) == 4) = true := by rw [beq_iff_eq]; exact h_s4
              have e_mc : ((mac.size : Int) == 8) = true := by rw [beq_iff_eq]; exact h_mc
              clear h_s4 h_mc
              go_enter Try.func27, Try.ntmps27
              go_wp2
              rw [HMM.out]
              go_ret; exact ⟨rfl, (Below.refl _ _).alloc (Nat.le_refl _) _⟩
            · have HMM := Lib.hid (show M = false from hM.trans (decide_eq_false fun m => h_mc (by have q : mac.size = 8 := m.2.2.2.2; omega)))
              clear hM
              have e_s4 : ((ip.size : Int) == 4) = true := by rw [beq_iff_eq]; exact h_s4
              have e_mc : ((mac.size : Int) == 8) = false := by rw [beq_eq_false_iff_ne]; exact h_mc
              clear h_s4 h_mc
              go_enter Try.func27, Try.ntmps27
              go_wp2
              rw [HMM.out]
              go_ret; exact ⟨rfl, (Below.refl _ _).alloc (Nat.le_refl _) _⟩
          · have HMM := Lib.hid (show M = false from hM.trans (decide_eq_false fun m => h_p1 m.2.2.1.2))
            clear hM
            have e_s4 : ((ip.size : Int) == 4) = true := by rw [beq_iff_eq]; exact h_s4
            clear h_s4
            go_enter Try.func27, Try.ntmps27
            go_wp2
            rw [HMM.out]
            go_ret; exact ⟨rfl, (Below.refl _ _).alloc (Nat.le_refl _) _⟩
        · have HMM := Lib.hid (show M = false from hM.trans (decide_eq_false fun m => h_p0 m.2.2.1.1))
          clear hM
          have e_s4 : ((ip.size : Int) == 4) = true := by rw [beq_iff_eq]; exact h_s4
          clear h_s4
          go_enter Try.func27, Try.ntmps27
          go_wp2
          rw [HMM.out]
          go_ret; exact ⟨rfl, (Below.refl _ _).alloc (Nat.le_refl _) _⟩
      · by_cases h_s16 : (ip.size : Int) = 16
        · by_cases h_p0 : 0 ≤ port
          · by_cases h_p1 : port ≤ 65535
            · by_cases h_mc : (mac.size : Int) = 8
              · have HMM := Lib.hid (show M = true from hM.trans (decide_eq_true ⟨⟨h_i0, h_i1⟩, .inr (show ip.size = 16 by omega), ⟨h_p0, h_p1⟩, .inl rfl, by show mac.size = 8; omega⟩))
                clear hM
                have e_s4 : ((ip.size : Int) == 4) = false := by rw [beq_eq_false_iff_ne]; exact h_s4
                have e_s16 : ((ip.size : Int) == 16) = true := by rw [beq_iff_eq]; exact h_s16
                have e_mc : ((mac.size : Int) == 8) = true := by rw [beq_iff_eq]; exact h_mc
                clear h_s4 h_s16 h_mc
                go_enter Try.func27, Try.ntmps27
                go_wp2
                rw [HMM.out]
                go_ret; exact ⟨rfl, (Below.refl _ _).alloc (Nat.le_refl _) _⟩
              · have HMM := Lib.hid (show M = false from hM.trans (decide_eq_false fun m => h_mc (by have q : mac.size = 8 := m.2.2.2.2; omega)))
                clear hM
                have e_s4 : ((ip.size : Int) == 4) = false := by rw [beq_eq_false_iff_ne]; exact h_s4
                have e_s16 : ((ip.size : Int) == 16) = true := by rw [beq_iff_eq]; exact h_s16
                have e_mc : ((mac.size : Int) == 8) = false := by rw [beq_eq_false_iff_ne]; exact h_mc
                clear h_s4 h_s16 h_mc
                go_enter Try.func27, Try.ntmps27
                go_wp2
                rw [HMM.out]
                go_ret; exact ⟨rfl, (Below.refl _ _).alloc (Nat.le_refl _) _⟩
            · have HMM := Lib.hid (show M = false from hM.trans (decide_eq_false fun m => h_p1 m.2.2.1.2))
              clear hM
              have e_s4 : ((ip.size : Int) == 4) = false := by rw [beq_eq_false_iff_ne]; exact h_s4
              have e_s16 : ((ip.size : Int) == 16) = true := by rw [beq_iff_eq]; exact h_s16
              clear h_s4 h_s16
              go_enter Try.func27, Try.ntmps27
              go_wp2
              rw [HMM.out]
              go_ret; exact ⟨rfl, (Below.refl _ _).alloc (Nat.le_refl _) _⟩
          · have HMM := Lib.hid (show M = false from hM.trans (decide_eq_false fun m => h_p0 m.2.2.1.1))
            clear hM
            have e_s4 : ((ip.size : Int) == 4) = false := by rw [beq_eq_false_iff_ne]; exact h_s4
            have e_s16 : ((ip.size : Int) == 16) = true := by rw [beq_iff_eq]; exact h_s16
            clear h_s4 h_s16
            go_enter Try.func27, Try.ntmps27
            go_wp2
            rw [HMM.out]
            go_ret; exact ⟨rfl, (Below.refl _ _).alloc (Nat.le_refl _) _⟩
        · have HMM := Lib.hid (show M = false from hM.trans (decide_eq_false fun m => by have q : ip.size = 4 ∨ ip.size = 16 := m.2.1; omega))
          clear hM
          have e_s4 : ((ip.size : Int) == 4) = false := by rw [beq_eq_false_iff_ne]; exact h_s4
          have e_s16 : ((ip.size : Int) == 16) = false := by rw [beq_eq_false_iff_ne]; exact h_s16
          clear h_s4 h_s16
          go_enter Try.func27, Try.ntmps27
          go_wp2
          rw [HMM.out]
          go_ret; exact ⟨rfl, (Below.refl _ _).alloc (Nat.le_refl _) _⟩
    · have HMM := Lib.hid (show M = false from hM.trans (decide_eq_false fun m => h_i1 m.1.2))
      clear hM
      go_enter Try.func27, Try.ntmps27
      go_wp2
      rw [HMM.out]
      go_ret; exact ⟨rfl, (Below.refl _ _).alloc (Nat.le_refl _) _⟩
  · have HMM := Lib.hid (show M = false from hM.trans (decide_eq_false fun m => h_i0 m.1.1))
    clear hM
    go_enter Try.func27, Try.ntmps27
    go_wp2
    rw [HMM.out]
    go_ret; exact ⟨rfl, (Below.refl _ _).alloc (Nat.le_refl _) _⟩
set_option maxHeartbeats 2000000 in
theorem may_ff (id : Int) (ip : ByteArray) (port : Int) (mac : ByteArray) (w : World) :
    Calls Try.prog 27 #[.agg (adv ⟨false, id, ip, false, port, mac⟩)] w fun e w' => e = .returned (.bool (decide (Ad.May ⟨false, id, ip, false, port, mac⟩))) ∧ Below w.heap.size w w' := by
  obtain ⟨M, hM⟩ : ∃ M, M = decide (Ad.May ⟨false, id, ip, false, port, mac⟩) := ⟨_, rfl⟩
  rw [← hM]
  by_cases h_i0 : 0 ≤ id
  · by_cases h_i1 : id ≤ 255
    · by_cases h_s4 : (ip.size : Int) = 4
      · by_cases h_p0 : 0 ≤ port
        · by_cases h_p1 : port ≤ 65535
          · by_cases h_pz : port = 0
            · by_cases h_mc : (mac.size : Int) = 8
              · have HMM := Lib.hid (show M = true from hM.trans (decide_eq_true ⟨⟨h_i0, h_i1⟩, .inl (show ip.size = 4 by omega), ⟨h_p0, h_p1⟩, .inr h_pz, by show mac.size = 8; omega⟩))
                clear hM
                have e_s4 : ((ip.size : Int) == 4) = true := by rw [beq_iff_eq]; exact h_s4
                have e_pz : (port == 0) = true := by rw [beq_iff_eq]; exact h_pz
                have e_mc : ((mac.size : Int) == 8) = true := by rw [beq_iff_eq]; exact h_mc
                clear h_s4 h_pz h_mc
                go_enter Try.func27, Try.ntmps27
                go_wp2
                rw [HMM.out]
                go_ret; exact ⟨rfl, (Below.refl _ _).alloc (Nat.le_refl _) _⟩
              · have HMM := Lib.hid (show M = false from hM.trans (decide_eq_false fun m => h_mc (by have q : mac.size = 8 := m.2.2.2.2; omega)))
                clear hM
                have e_s4 : ((ip.size : Int) == 4) = true := by rw [beq_iff_eq]; exact h_s4
                have e_pz : (port == 0) = true := by rw [beq_iff_eq]; exact h_pz
                have e_mc : ((mac.size : Int) == 8) = false := by rw [beq_eq_false_iff_ne]; exact h_mc
                clear h_s4 h_pz h_mc
                go_enter Try.func27, Try.ntmps27
                go_wp2
                rw [HMM.out]
                go_ret; exact ⟨rfl, (Below.refl _ _).alloc (Nat.le_refl _) _⟩
            · have HMM := Lib.hid (show M = false from hM.trans (decide_eq_false fun m => by have q : (false = true) ∨ port = 0 := m.2.2.2.1; rcases q with q | q; cases q; exact h_pz q))
              clear hM
              have e_s4 : ((ip.size : Int) == 4) = true := by rw [beq_iff_eq]; exact h_s4
              have e_pz : (port == 0) = false := by rw [beq_eq_false_iff_ne]; exact h_pz
              clear h_s4 h_pz
              go_enter Try.func27, Try.ntmps27
              go_wp2
              rw [HMM.out]
              go_ret; exact ⟨rfl, (Below.refl _ _).alloc (Nat.le_refl _) _⟩
          · have HMM := Lib.hid (show M = false from hM.trans (decide_eq_false fun m => h_p1 m.2.2.1.2))
            clear hM
            have e_s4 : ((ip.size : Int) == 4) = true := by rw [beq_iff_eq]; exact h_s4
            clear h_s4
            go_enter Try.func27, Try.ntmps27
            go_wp2
            rw [HMM.out]
            go_ret; exact ⟨rfl, (Below.refl _ _).alloc (Nat.le_refl _) _⟩
        · have HMM := Lib.hid (show M = false from hM.trans (decide_eq_false fun m => h_p0 m.2.2.1.1))
          clear hM
          have e_s4 : ((ip.size : Int) == 4) = true := by rw [beq_iff_eq]; exact h_s4
          clear h_s4
          go_enter Try.func27, Try.ntmps27
          go_wp2
          rw [HMM.out]
          go_ret; exact ⟨rfl, (Below.refl _ _).alloc (Nat.le_refl _) _⟩
      · by_cases h_s16 : (ip.size : Int) = 16
        · by_cases h_p0 : 0 ≤ port
          · by_cases h_p1 : port ≤ 65535
            · by_cases h_pz : port = 0
              · by_cases h_mc : (mac.size : Int) = 8
                · have HMM := Lib.hid (show M = true from hM.trans (decide_eq_true ⟨⟨h_i0, h_i1⟩, .inr (show ip.size = 16 by omega), ⟨h_p0, h_p1⟩, .inr h_pz, by show mac.size = 8; omega⟩))
                  clear hM
                  have e_s4 : ((ip.size : Int) == 4) = false := by rw [beq_eq_false_iff_ne]; exact h_s4
                  have e_s16 : ((ip.size : Int) == 16) = true := by rw [beq_iff_eq]; exact h_s16
                  have e_pz : (port == 0) = true := by rw [beq_iff_eq]; exact h_pz
                  have e_mc : ((mac.size : Int) == 8) = true := by rw [beq_iff_eq]; exact h_mc
                  clear h_s4 h_s16 h_pz h_mc
                  go_enter Try.func27, Try.ntmps27
                  go_wp2
                  rw [HMM.out]
                  go_ret; exact ⟨rfl, (Below.refl _ _).alloc (Nat.le_refl _) _⟩
                · have HMM := Lib.hid (show M = false from hM.trans (decide_eq_false fun m => h_mc (by have q : mac.size = 8 := m.2.2.2.2; omega)))
                  clear hM
                  have e_s4 : ((ip.size : Int) == 4) = false := by rw [beq_eq_false_iff_ne]; exact h_s4
                  have e_s16 : ((ip.size : Int) == 16) = true := by rw [beq_iff_eq]; exact h_s16
                  have e_pz : (port == 0) = true := by rw [beq_iff_eq]; exact h_pz
                  have e_mc : ((mac.size : Int) == 8) = false := by rw [beq_eq_false_iff_ne]; exact h_mc
                  clear h_s4 h_s16 h_pz h_mc
                  go_enter Try.func27, Try.ntmps27
                  go_wp2
                  rw [HMM.out]
                  go_ret; exact ⟨rfl, (Below.refl _ _).alloc (Nat.le_refl _) _⟩
              · have HMM := Lib.hid (show M = false from hM.trans (decide_eq_false fun m => by have q : (false = true) ∨ port = 0 := m.2.2.2.1; rcases q with q | q; cases q; exact h_pz q))
                clear hM
                have e_s4 : ((ip.size : Int) == 4) = false := by rw [beq_eq_false_iff_ne]; exact h_s4
                have e_s16 : ((ip.size : Int) == 16) = true := by rw [beq_iff_eq]; exact h_s16
                have e_pz : (port == 0) = false := by rw [beq_eq_false_iff_ne]; exact h_pz
                clear h_s4 h_s16 h_pz
                go_enter Try.func27, Try.ntmps27
                go_wp2
                rw [HMM.out]
                go_ret; exact ⟨rfl, (Below.refl _ _).alloc (Nat.le_refl _) _⟩
            · have HMM := Lib.hid (show M = false from hM.trans (decide_eq_false fun m => h_p1 m.2.2.1.2))
              clear hM
              have e_s4 : ((ip.size : Int) == 4) = false := by rw [beq_eq_false_iff_ne]; exact h_s4
              have e_s16 : ((ip.size : Int) == 16) = true := by rw [beq_iff_eq]; exact h_s16
              clear h_s4 h_s16
              go_enter Try.func27, Try.ntmps27
              go_wp2
              rw [HMM.out]
              go_ret; exact ⟨rfl, (Below.refl _ _).alloc (Nat.le_refl _) _⟩
          · have HMM := Lib.hid (show M = false from hM.trans (decide_eq_false fun m => h_p0 m.2.2.1.1))
            clear hM
            have e_s4 : ((ip.size : Int) == 4) = false := by rw [beq_eq_false_iff_ne]; exact h_s4
            have e_s16 : ((ip.size : Int) == 16) = true := by rw [beq_iff_eq]; exact h_s16
            clear h_s4 h_s16
            go_enter Try.func27, Try.ntmps27
            go_wp2
            rw [HMM.out]
            go_ret; exact ⟨rfl, (Below.refl _ _).alloc (Nat.le_refl _) _⟩
        · have HMM := Lib.hid (show M = false from hM.trans (decide_eq_false fun m => by have q : ip.size = 4 ∨ ip.size = 16 := m.2.1; omega))
          clear hM
          have e_s4 : ((ip.size : Int) == 4) = false := by rw [beq_eq_false_iff_ne]; exact h_s4
          have e_s16 : ((ip.size : Int) == 16) = false := by rw [beq_eq_false_iff_ne]; exact h_s16
          clear h_s4 h_s16
          go_enter Try.func27, Try.ntmps27
          go_wp2
          rw [HMM.out]
          go_ret; exact ⟨rfl, (Below.refl _ _).alloc (Nat.le_refl _) _⟩
    · have HMM := Lib.hid (show M = false from hM.trans (decide_eq_false fun m => h_i1 m.1.2))
      clear hM
      go_enter Try.func27, Try.ntmps27
      go_wp2
      rw [HMM.out]
      go_ret; exact ⟨rfl, (Below.refl _ _).alloc (Nat.le_refl _) _⟩
  · have HMM := Lib.hid (show M = false from hM.trans (decide_eq_false fun m => h_i0 m.1.1))
    clear hM
    go_enter Try.func27, Try.ntmps27
    go_wp2
    rw [HMM.out]
    go_ret; exact ⟨rfl, (Below.refl _ _).alloc (Nat.le_refl _) _⟩
theorem MayAdd_any (x : Ad) (w : World) :
    Calls Try.prog 27 #[.agg (adv x)] w fun e w' => e = .returned (.bool (decide x.May)) ∧ Below w.heap.size w w' := by
  obtain ⟨echo, id, ip, hp, port, mac⟩ := x
  cases echo <;> cases hp
  · exact may_ff id ip port mac w
  · exact may_ft id ip port mac w
  · exact may_tf id ip port mac w
  · exact may_tt id ip port mac w
end Go.Proofs.Ytcofdiamlmlhfaa
