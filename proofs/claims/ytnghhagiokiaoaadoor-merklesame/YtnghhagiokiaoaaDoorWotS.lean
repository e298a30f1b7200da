/-
  Layer 6: the program's own: single, Step, key, the closures of secrets and pieces.
-/
import Derived.Test.YtnghhagiokiaoaaDoorWot6
import Derived.Test.YtnghhagiokiaoaaDoorWotQ
namespace Go.Proofs.YtnghhagiokiaoaaDoor.Wot
open Go.RowKit
open Mem Sh
set_option linter.unusedVariables false

theorem clone_q {W : World} (s : ByteArray) (w : World) (q : Q W w) (hs : s.size ≤ 1000000000) : Calls Tryd.prog 43 #[.string s] w fun e w' => e = .returned (.string s) ∧ Q W w' := by
  have C := Lib.hid (Tryd.stringslite_Clone s w (by omega))
  have HQ := Lib.hid q
  clear q
  go_enter Tryd.func43, Tryd.ntmps43
  go_wp2_with fail
  refine C.out.mono ?_
  rintro e w' ⟨rfl, hb⟩
  go_wp2_with fail
  go_ret
  exact ⟨rfl, HQ.out.trans hb⟩
theorem single_x {W : World} (p : Nat) (x : ByteArray) (hx : one p = x) (w : World) (q : Q W w) (hp : p ≤ 17) :
    Calls Tryd.prog 83 #[.int .i64 p] w fun e w' => e = .returned (.string x) ∧ Q W w' := by
  have cv := conv1 w (p : Int)
  have p0 : (0 : Int) ≤ (p : Int) := by omega
  have p1 : (p : Int) ≤ 17 := by omega
  have HX : Hid (strOfNums [(p : Int)] = x) := hx
  go_enter Tryd.func83, Tryd.ntmps83
  go_wp2_with fail
  go_ret
  exact ⟨retS HX.out, q.alloc _⟩

set_option maxHeartbeats 2000000 in
theorem step_x {W : World} (p n : Nat) (x y : ByteArray) (hy : stp p x n = y) (w : World) (q : Q W w) (hG : GL W) (hp : p ≤ 17) (hx : x.size = 16) (hn : n ≤ 15) :
    Calls Tryd.prog 81 #[.int .i64 p, .string x, .int .i64 n] w fun e w' => e = .returned (.string y) ∧ Q W w' := by
  have p0 : (0 : Int) ≤ (p : Int) := by omega
  have p1 : (p : Int) ≤ 17 := by omega
  have n0 : (0 : Int) ≤ (n : Int) := by omega
  have n1 : (n : Int) ≤ 15 := by omega
  have hx' : (x.size : Int) = 16 := by omega
  have HQ := Lib.hid q
  have HY := Lib.hid hy
  have HZ := Lib.hid (stp_size p x hx)
  obtain ⟨o, eo⟩ : ∃ o, one p = o := ⟨_, rfl⟩
  have zo : o.size ≤ 1000000 := by rw [← eo, one_size]; omega
  have EO := Lib.hid eo
  clear q hy eo
  go_enter Tryd.func81, Tryd.ntmps81
  go_wp2_with fail
  refine (clone_q x w HQ.out (by omega)).mono ?_
  rintro e w0 ⟨rfl, q0⟩
  have Q0 := Lib.hid q0
  clear q0
  go_wp2_with fail
  go_loopw [7, 30] (fun t i wr => ∃ k : Nat, k ≤ n ∧ t = .string (stp p x k) ∧ i = .int .i64 k ∧ Hid (Q W wr)) (fun _ i _ => n - (intOf i).toNat)
  case atStart => exact ⟨0, by omega, rfl, rfl, Q0⟩
  case round =>
    obtain ⟨k, hk, rfl, rfl, I⟩ := hrel
    by_cases hlt : k < n
    · have k0 : (0 : Int) ≤ (k : Int) := by omega
      have k1 : (k : Int) < (n : Int) := by omega
      have hz := HZ.out k
      have HS : Hid (tagS wStep (two o (stp p x k)) 2 = stp p x (k + 1)) := by rw [← EO.out]; rfl
      obtain ⟨t, et⟩ : ∃ t, stp p x k = t := ⟨_, rfl⟩
      rw [et] at hz HS ⊢
      go_wp2_with fail
      refine (single_x p o EO.out wr I.out hp).mono ?_
      rintro e w1 ⟨rfl, q1⟩
      have Q1 := Lib.hid q1
      clear q1
      go_wp2_with fail
      refine (tag2_x wStep o t _ HS.out _ w1 _ rfl Q1.out hG (by decide) zo (by omega)).mono ?_
      rintro e w2 ⟨rfl, q2⟩
      have Q2 := Lib.hid q2
      clear q2
      go_wp2_with fail
      exact ⟨⟨k + 1, by omega, rfl, by go_num, Q2⟩, by simp [intOf]; omega⟩
    · obtain rfl : k = n := by omega
      go_wp2_with fail
      go_ret
      exact ⟨retS HY.out, I.out⟩
theorem step_bad {W : World} (p : Int) (x : ByteArray) (n : Int) (w : World) (q : Q W w) (h : ¬ stpOk p x n) :
    Calls Tryd.prog 81 #[.int .i64 p, .string x, .int .i64 n] w fun e w' => e = .returned (.string ⟨#[]⟩) ∧ Q W w' := by
  by_cases c1 : p < 0
  · go_enter Tryd.func81, Tryd.ntmps81
    go_wp2_with fail
    go_ret
    exact ⟨rfl, q⟩
  have d1 : 0 ≤ p := by omega
  by_cases c2 : 18 ≤ p
  · go_enter Tryd.func81, Tryd.ntmps81
    go_wp2_with fail
    go_ret
    exact ⟨rfl, q⟩
  have d2 : p ≤ 17 := by omega
  by_cases c3 : x.size = 16
  · have c3' : (x.size : Int) = 16 := by omega
    by_cases c4 : n < 0
    · go_enter Tryd.func81, Tryd.ntmps81
      go_wp2_with fail
      go_ret
      exact ⟨rfl, q⟩
    have d4 : 0 ≤ n := by omega
    have c5 : 15 < n := by
      by_cases c5 : 15 < n
      · exact c5
      · exact absurd ⟨d1, d2, c3, d4, by omega⟩ h
    go_enter Tryd.func81, Tryd.ntmps81
    go_wp2_with fail
    go_ret
    exact ⟨rfl, q⟩
  · have c3' : ((x.size : Int) != 16) = true := by simp; omega
    go_enter Tryd.func81, Tryd.ntmps81
    go_wp2_with fail
    go_ret
    exact ⟨rfl, q⟩

theorem key_x {W : World} (t x : ByteArray) (hx : tagS wPub (fun _ => t) 1 = x) (w : World) (q : Q W w) (hG : GL W) (ht : t.size ≤ 1000000) :
    Calls Tryd.prog 60 #[.string t] w fun e w' => e = .returned (.string x) ∧ Q W w' := by
  have C := Lib.hid fun T => tag1_x wPub t x hx T w _ rfl q hG (by decide) ht
  clear q hx
  go_enter Tryd.func60, Tryd.ntmps60
  go_wp2_with fail
  refine (C.out _).mono ?_
  rintro e w1 ⟨rfl, q1⟩
  go_wp2_with fail
  go_ret
  exact ⟨rfl, q1⟩

/-! ### The closures -/
/-- A text's box. -/
def bx (t : ByteArray) : Obj := .cells #[.string t] 9
theorem bx_cell (w : World) (t : ByteArray) : (w.alloc (bx t)).cell? ⟨w.heap.size, 0, none⟩ = some (.string t) := by unfold bx; rw [World.cell?_alloc_at _ _ _ _ rfl]; rfl
def secV (g : Nat) : Value := .func (.func 82) #[] #[.pointer (some ⟨g, 0, none⟩)]
def pieV (g : Nat) : Value := .func (.func 88) #[] #[.pointer (some ⟨g, 0, none⟩)]
theorem secrets_any (t : ByteArray) (w : World) : Calls Tryd.prog 62 #[.string t] w fun e w' => e = .returned (secV w.heap.size) ∧ w' = w.alloc (bx t) := by
  go_enter Tryd.func62, Tryd.ntmps62
  have hmf : ∀ (fn : Fn) (first cap : Array Value) (w : World), (Instr.makeFunc fn first cap).run Tryd.prog w = .ok (.func fn first cap) w := fun _ _ _ _ => rfl
  go_wp2_with fail
  go_ret
  exact ⟨rfl, rfl⟩
theorem pieces_any (t : ByteArray) (w : World) : Calls Tryd.prog 72 #[.string t] w fun e w' => e = .returned (pieV w.heap.size) ∧ w' = w.alloc (bx t) := by
  go_enter Tryd.func72, Tryd.ntmps72
  have hmf : ∀ (fn : Fn) (first cap : Array Value) (w : World), (Instr.makeFunc fn first cap).run Tryd.prog w = .ok (.func fn first cap) w := fun _ _ _ _ => rfl
  go_wp2_with fail
  go_ret
  exact ⟨rfl, rfl⟩
theorem piece_x {W : World} (g : Nat) (sig x : ByteArray) (p : Nat) (hx : part sig p = x) (w : World) (q : Q W w) (hc : w.cell? ⟨g, 0, none⟩ = some (.string sig)) (hz : sig.size = 288) (hp : p < 18) :
    Calls Tryd.prog 88 #[.int .i64 p, .pointer (some ⟨g, 0, none⟩)] w fun e w' => e = .returned (.string x) ∧ Q W w' := by
  have p0 : (0 : Int) ≤ (p : Int) := by omega
  have p1 : (p : Int) < 18 := by omega
  have hz' : (sig.size : Int) = 288 := by omega
  have e1 : IntKind.i64.wrap ((p : Int) * 16) = (p : Int) * 16 := by rw [IntKind.wrap_i64]; omega
  have e2 : IntKind.i64.wrap (((p : Int) + 1) * 16) = ((p : Int) + 1) * 16 := by rw [IntKind.wrap_i64]; omega
  have hx' : sig.extract ((p : Int) * 16).toNat (((p : Int) + 1) * 16).toNat = x := by rw [← hx]; unfold part; rw [show ((p : Int) * 16).toNat = 16 * p by omega, show (((p : Int) + 1) * 16).toNat = 16 * p + 16 by omega]
  have HQ := Lib.hid q
  clear q hx
  go_enter Tryd.func88, Tryd.ntmps88
  go_wp2_with fail
  go_ret
  exact ⟨rfl, HQ.out⟩
end Go.Proofs.YtnghhagiokiaoaaDoor.Wot
