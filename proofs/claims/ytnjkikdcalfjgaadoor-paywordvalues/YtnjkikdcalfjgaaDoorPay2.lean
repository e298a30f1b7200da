/-
  Layer 4: the walks of Far and Count, and of the document's own.
-/
import Derived.Test.YtnjkikdcalfjgaaDoorPay1
namespace Go.Proofs.YtnjkikdcalfjgaaDoor.Pay
open Go.RowKit
open Mem Sh Num
set_option linter.unusedVariables false

theorem istok_y (t : ByteArray) (w : World) (h : t.size = 16) : Calls Tryd.prog 27 #[.string t] w fun e w' => e = .returned (.bool true) ∧ w = w' := by
  have h' : (t.size : Int) = 16 := by omega
  go_enter Tryd.func27, Tryd.ntmps27
  go_wp2_with fail
  go_ret
  exact ⟨rfl, rfl⟩
theorem istok_n (t : ByteArray) (w : World) (h : t.size ≠ 16) : Calls Tryd.prog 27 #[.string t] w fun e w' => e = .returned (.bool false) ∧ w = w' := by
  have h' : ((t.size : Int) == 16) = false := by simp; omega
  go_enter Tryd.func27, Tryd.ntmps27
  go_wp2_with fail
  go_ret
  exact ⟨rfl, rfl⟩
theorem isst_y (n : Int) (w : World) (h0 : 0 ≤ n) (h1 : n ≤ 4096) : Calls Tryd.prog 23 #[.int .i64 n] w fun e w' => e = .returned (.bool true) ∧ w = w' := by
  go_enter Tryd.func23, Tryd.ntmps23
  go_wp2_with fail
  go_ret
  exact ⟨rfl, rfl⟩
theorem isst_n (n : Int) (w : World) (h : ¬ (0 ≤ n ∧ n ≤ 4096)) : Calls Tryd.prog 23 #[.int .i64 n] w fun e w' => e = .returned (.bool false) ∧ w = w' := by
  by_cases h0 : 0 ≤ n
  · have td : decide (n ≤ 4096) = false := by simp; omega
    go_enter Tryd.func23, Tryd.ntmps23
    go_wp2_with fail
    go_ret
    exact ⟨rfl, rfl⟩
  · have h1 : n < 0 := by omega
    go_enter Tryd.func23, Tryd.ntmps23
    go_wp2_with fail
    go_ret
    exact ⟨rfl, rfl⟩
theorem clone_any (s : ByteArray) (w : World) (hs : s.size ≤ 1000000000) : Calls Tryd.prog 31 #[.string s] w fun e w' => e = .returned (.string s) ∧ Q w w' := by
  have C := Lib.hid (Tryd.stringslite_Clone s w (by omega))
  go_enter Tryd.func31, Tryd.ntmps31
  go_wp2_with fail
  refine C.out.mono ?_
  rintro e w' ⟨rfl, hb⟩
  go_wp2_with fail
  go_ret
  exact ⟨rfl, hb⟩

/-- A walk's variable above W, all of W being as it was. -/
structure WI (W w : World) (g : Nat) (t : ByteArray) : Prop where
  q : Q W w
  lo : W.heap.size ≤ g
  b : Box w g t
theorem WI.new {W w : World} (q : Q W w) (t : ByteArray) : WI W (w.alloc (bx t)) w.heap.size t := ⟨q.alloc _, q.size, Box.new w t⟩
theorem WI.step {W w : World} {g : Nat} {t : ByteArray} (h : WI W w g t) (hG : GL W) (ht : t.size ≤ 1000000) :
    Calls Tryd.prog 35 #[.pointer (some ⟨g, 0, none⟩)] w fun e w' => e = .returned (.string (nextS t)) ∧ WI W w' g (nextS t) :=
  (step_any g t w h.b (hG.q h.q) (by have := hG.lt; have := h.lo; omega) ht).mono fun e w' ⟨he, hb, hc⟩ => ⟨he, hc.q h.q h.lo, h.lo, hb⟩

def farA (t : ByteArray) (n : Int) : ByteArray := if t.size = 16 ∧ 0 ≤ n ∧ n ≤ 4096 then farS t n.toNat else ⟨#[]⟩
theorem farA_yes (t : ByteArray) (n : Nat) (ht : t.size = 16) (hn : n ≤ 4096) : farA t n = farS t n := by unfold farA; rw [if_pos ⟨ht, by omega, by omega⟩]; rfl

set_option maxHeartbeats 1000000 in
theorem far_any {W : World} (t : ByteArray) (n : Int) (w : World) (q : Q W w) (hG : GL W) :
    Calls Tryd.prog 20 #[.string t, .int .i64 n] w fun e w' => e = .returned (.string (farA t n)) ∧ Q W w' := by
  by_cases ht : t.size = 16
  · by_cases hn : 0 ≤ n ∧ n ≤ 4096
    · obtain ⟨m, rfl⟩ := Int.eq_ofNat_of_zero_le hn.1
      have hm : m ≤ 4096 := by omega
      rw [farA_yes t m ht hm]
      have HG := Lib.hid hG
      have HQ := Lib.hid q
      have HS := Lib.hid (farS_size t ht)
      clear q hG hn
      go_enter Tryd.func20, Tryd.ntmps20
      go_wp2_with fail
      refine (istok_y t w ht).mono ?_
      rintro e _ ⟨rfl, rfl⟩
      go_wp2_with fail
      refine (isst_y m w (by omega) (by omega)).mono ?_
      rintro e _ ⟨rfl, rfl⟩
      go_wp2_with fail
      refine (clone_any t w (by omega)).mono ?_
      rintro e w1 ⟨rfl, q1⟩
      have Q1 := Lib.hid (HQ.out.trans q1)
      clear q1
      go_wp2_with fail
      refine (walk_any t w1).mono ?_
      rintro e w2 ⟨rfl, rfl⟩
      have I0 := Lib.hid (WI.new Q1.out t)
      unfold stepV
      generalize w1.heap.size = g at *
      go_wp2_with fail
      go_loopw [5, 20] (fun a i wr => ∃ k : Nat, k ≤ m ∧ a = .string (farS t k) ∧ i = .int .i64 k ∧ Hid (WI W wr g (farS t k))) (fun _ i _ => m - (intOf i).toNat)
      case atStart => exact ⟨0, by omega, rfl, rfl, I0⟩
      case round =>
        obtain ⟨k, hk, rfl, rfl, I⟩ := hrel
        by_cases hlt : k < m
        · have k0 : (0 : Int) ≤ (k : Int) := by omega
          have k1 : (k : Int) < (m : Int) := by omega
          go_wp2_with fail
          refine (I.out.step HG.out (by rw [HS.out k]; decide)).mono ?_
          rintro e w3 ⟨rfl, h3⟩
          have I3 := Lib.hid h3
          clear h3
          go_wp2_with fail
          exact ⟨⟨k + 1, by omega, rfl, by go_num, I3⟩, by simp [intOf]; omega⟩
        · obtain rfl : k = m := by omega
          go_wp2_with fail
          go_ret
          exact ⟨rfl, I.out.q⟩
    · have e0 : farA t n = ⟨#[]⟩ := by unfold farA; rw [if_neg (fun h => hn h.2)]
      rw [e0]
      go_enter Tryd.func20, Tryd.ntmps20
      go_wp2_with fail
      refine (istok_y t w ht).mono ?_
      rintro e _ ⟨rfl, rfl⟩
      go_wp2_with fail
      refine (isst_n n w hn).mono ?_
      rintro e _ ⟨rfl, rfl⟩
      go_wp2_with fail
      go_ret
      exact ⟨rfl, q⟩
  · have e0 : farA t n = ⟨#[]⟩ := by unfold farA; rw [if_neg (fun h => ht h.1)]
    rw [e0]
    go_enter Tryd.func20, Tryd.ntmps20
    go_wp2_with fail
    refine (istok_n t w ht).mono ?_
    rintro e _ ⟨rfl, rfl⟩
    go_wp2_with fail
    go_ret
    exact ⟨rfl, q⟩

set_option maxHeartbeats 1000000 in
theorem rfar_any {W : World} (t : ByteArray) (n : Int) (w : World) (q : Q W w) :
    Calls Tryd.prog 21 #[.string t, .int .i64 n] w fun e w' => e = .returned (.string (farA t n)) ∧ Q W w' := by
  by_cases ht : t.size = 16
  · by_cases hn : 0 ≤ n ∧ n ≤ 4096
    · obtain ⟨m, rfl⟩ := Int.eq_ofNat_of_zero_le hn.1
      have hm : m ≤ 4096 := by omega
      rw [farA_yes t m ht hm]
      have HQ := Lib.hid q
      have HS := Lib.hid (farS_size t ht)
      have ht' : (t.size : Int) = 16 := by omega
      have m0 : (0 : Int) ≤ (m : Int) := by omega
      have m1 : (m : Int) ≤ 4096 := by omega
      clear q hn
      go_enter Tryd.func21, Tryd.ntmps21
      go_wp2_with fail
      go_loopw [5, 6] (fun a i wr => ∃ k : Nat, k ≤ m ∧ a = .string (farS t k) ∧ i = .int .i64 k ∧ Hid (Q W wr)) (fun _ i _ => m - (intOf i).toNat)
      case atStart => exact ⟨0, by omega, rfl, rfl, HQ⟩
      case round =>
        obtain ⟨k, hk, rfl, rfl, I⟩ := hrel
        by_cases hlt : k < m
        · have k0 : (0 : Int) ≤ (k : Int) := by omega
          have k1 : (k : Int) < (m : Int) := by omega
          go_wp2_with fail
          refine (rnext_any (farS t k) wr I.out (by rw [HS.out k]; decide)).mono ?_
          rintro e w3 ⟨rfl, h3⟩
          have I3 := Lib.hid h3
          clear h3
          go_wp2_with fail
          exact ⟨⟨k + 1, by omega, rfl, by go_num, I3⟩, by simp [intOf]; omega⟩
        · obtain rfl : k = m := by omega
          go_wp2_with fail
          go_ret
          exact ⟨rfl, I.out⟩
    · have e0 : farA t n = ⟨#[]⟩ := by unfold farA; rw [if_neg (fun h => hn h.2)]
      have ht' : (t.size : Int) = 16 := by omega
      rw [e0]
      by_cases h0 : n < 0
      · go_enter Tryd.func21, Tryd.ntmps21
        go_wp2_with fail
        go_ret
        exact ⟨rfl, q⟩
      · have h1 : 4096 < n := by omega
        have h0' : 0 ≤ n := by omega
        go_enter Tryd.func21, Tryd.ntmps21
        go_wp2_with fail
        go_ret
        exact ⟨rfl, q⟩
  · have e0 : farA t n = ⟨#[]⟩ := by unfold farA; rw [if_neg (fun h => ht h.1)]
    have ht' : ((t.size : Int) != 16) = true := by simp; omega
    rw [e0]
    go_enter Tryd.func21, Tryd.ntmps21
    go_wp2_with fail
    go_ret
    exact ⟨rfl, q⟩
end Go.Proofs.YtnjkikdcalfjgaaDoor.Pay
