/-
  Layer 6: the document's own answer: the walks of its one, Step, secret, Digits, Public, Sign, From, Verify.
-/
import Derived.Test.YtnghhagiokiaoaaDoorWot1
namespace Go.Proofs.YtnghhagiokiaoaaDoor.Wot
open Go.RowKit
open Mem Sh
set_option linter.unusedVariables false

theorem row1 (w : World) (t : ByteArray) (T : TypeId) : RowS (w.alloc (.cells #[.string t] T)) w.heap.size 0 1 (fun _ => t) := by
  intro i hi
  rw [World.cell?_alloc_at _ _ _ _ rfl, Nat.zero_add]
  obtain rfl : i = 0 := by omega
  rfl
theorem row2 (w : World) (a b : ByteArray) (T : TypeId) : RowS (w.alloc (.cells #[.string a, .string b] T)) w.heap.size 0 2 (two a b) := by
  intro i hi
  rw [World.cell?_alloc_at _ _ _ _ rfl, Nat.zero_add]
  match i, hi with
  | 0, _ => rfl
  | 1, _ => rfl
  | n + 2, h => omega
theorem tag1_x {W : World} (word t x : ByteArray) (hx : tagS word (fun _ => t) 1 = x) (T : TypeId) (w : World) (b : Nat) (hb : w.heap.size = b) (q : Q W w) (hG : GL W) (hw : word.size ≤ 1000000) (ht : t.size ≤ 1000000) :
    Calls Tryd.prog 59 #[.string word, .slice (some ⟨b, 0, none⟩) 1 1] (w.alloc (.cells #[.string t] T)) fun e w' => e = .returned (.string x) ∧ Q W w' := by
  subst hb; subst hx; exact tag_any word w.heap.size 0 1 1 (fun _ => t) _ (q.alloc _) hG (row1 w t T) (fun _ => by simp) hw (by omega) (fun _ => ht)
theorem rtag1_x {W : World} (word t x : ByteArray) (hx : tagS word (fun _ => t) 1 = x) (T : TypeId) (w : World) (b : Nat) (hb : w.heap.size = b) (q : Q W w) (hw : word.size ≤ 1000000) (ht : t.size ≤ 1000000) :
    Calls Tryd.prog 34 #[.string word, .slice (some ⟨b, 0, none⟩) 1 1] (w.alloc (.cells #[.string t] T)) fun e w' => e = .returned (.string x) ∧ Q W w' := by
  subst hb; subst hx; exact rtag_any word w.heap.size 0 1 1 (fun _ => t) _ (q.alloc _) (row1 w t T) (fun _ => by simp) hw (by omega) (fun _ => ht)
theorem tag2_x {W : World} (word a c x : ByteArray) (hx : tagS word (two a c) 2 = x) (T : TypeId) (w : World) (b : Nat) (hb : w.heap.size = b) (q : Q W w) (hG : GL W) (hw : word.size ≤ 1000000) (ha : a.size ≤ 1000000) (hc : c.size ≤ 1000000) :
    Calls Tryd.prog 59 #[.string word, .slice (some ⟨b, 0, none⟩) 2 2] (w.alloc (.cells #[.string a, .string c] T)) fun e w' => e = .returned (.string x) ∧ Q W w' := by
  subst hb; subst hx; exact tag_any word w.heap.size 0 2 2 (two a c) _ (q.alloc _) hG (row2 w a c T) (fun _ => by simp) hw (by omega) (two_size a c _ ha hc)
theorem rtag2_x {W : World} (word a c x : ByteArray) (hx : tagS word (two a c) 2 = x) (T : TypeId) (w : World) (b : Nat) (hb : w.heap.size = b) (q : Q W w) (hw : word.size ≤ 1000000) (ha : a.size ≤ 1000000) (hc : c.size ≤ 1000000) :
    Calls Tryd.prog 34 #[.string word, .slice (some ⟨b, 0, none⟩) 2 2] (w.alloc (.cells #[.string a, .string c] T)) fun e w' => e = .returned (.string x) ∧ Q W w' := by
  subst hb; subst hx; exact rtag_any word w.heap.size 0 2 2 (two a c) _ (q.alloc _) (row2 w a c T) (fun _ => by simp) hw (by omega) (two_size a c _ ha hc)

theorem rone_x {W : World} (p : Nat) (x : ByteArray) (hx : one p = x) (w : World) (q : Q W w) (hp : p ≤ 17) :
    Calls Tryd.prog 84 #[.int .i64 p] w fun e w' => e = .returned (.string x) ∧ Q W w' := by
  have cv := conv1 w (p : Int)
  have p0 : (0 : Int) ≤ (p : Int) := by omega
  have p1 : (p : Int) ≤ 17 := by omega
  have HX : Hid (strOfNums [(p : Int)] = x) := hx
  go_enter Tryd.func84, Tryd.ntmps84
  go_wp2_with fail
  go_ret
  exact ⟨retS HX.out, q.alloc _⟩

set_option maxHeartbeats 2000000 in
theorem rstep_x {W : World} (p n : Nat) (x y : ByteArray) (hy : stp p x n = y) (w : World) (q : Q W w) (hp : p ≤ 17) (hx : x.size = 16) (hn : n ≤ 15) :
    Calls Tryd.prog 65 #[.int .i64 p, .string x, .int .i64 n] w fun e w' => e = .returned (.string y) ∧ Q W w' := by
  have p0 : (0 : Int) ≤ (p : Int) := by omega
  have p1 : (p : Int) ≤ 17 := by omega
  have n0 : (0 : Int) ≤ (n : Int) := by omega
  have n1 : (n : Int) ≤ 15 := by omega
  have hx' : (x.size : Int) = 16 := by omega
  have HQ := Lib.hid q
  have HY := Lib.hid hy
  have HZ := Lib.hid (stp_size p x hx)
  obtain ⟨o, eo⟩ : ∃ o, one p = o := ⟨_, rfl⟩
  have zo : o.size ≤ 1000000 := by rw [← eo, one_size]; omega
  have EO := Lib.hid eo
  clear q hy eo
  go_enter Tryd.func65, Tryd.ntmps65
  go_wp2_with fail
  go_loopw [7, 8] (fun t i wr => ∃ k : Nat, k ≤ n ∧ t = .string (stp p x k) ∧ i = .int .i64 k ∧ Hid (Q W wr)) (fun _ i _ => n - (intOf i).toNat)
  case atStart => exact ⟨0, by omega, rfl, rfl, HQ⟩
  case round =>
    obtain ⟨k, hk, rfl, rfl, I⟩ := hrel
    by_cases hlt : k < n
    · have k0 : (0 : Int) ≤ (k : Int) := by omega
      have k1 : (k : Int) < (n : Int) := by omega
      have hz := HZ.out k
      have HS : Hid (tagS wStep (two o (stp p x k)) 2 = stp p x (k + 1)) := by rw [← EO.out]; rfl
      obtain ⟨t, et⟩ : ∃ t, stp p x k = t := ⟨_, rfl⟩
      rw [et] at hz HS ⊢
      go_wp2_with fail
      refine (rone_x p o EO.out wr I.out hp).mono ?_
      rintro e w1 ⟨rfl, q1⟩
      have Q1 := Lib.hid q1
      clear q1
      go_wp2_with fail
      refine (rtag2_x wStep o t _ HS.out _ w1 _ rfl Q1.out (by decide) zo (by omega)).mono ?_
      rintro e w2 ⟨rfl, q2⟩
      have Q2 := Lib.hid q2
      clear q2
      go_wp2_with fail
      exact ⟨⟨k + 1, by omega, rfl, by go_num, Q2⟩, by simp [intOf]; omega⟩
    · obtain rfl : k = n := by omega
      go_wp2_with fail
      go_ret
      exact ⟨retS HY.out, I.out⟩
theorem rstep_bad {W : World} (p : Int) (x : ByteArray) (n : Int) (w : World) (q : Q W w) (h : ¬ stpOk p x n) :
    Calls Tryd.prog 65 #[.int .i64 p, .string x, .int .i64 n] w fun e w' => e = .returned (.string ⟨#[]⟩) ∧ Q W w' := by
  by_cases c1 : p < 0
  · go_enter Tryd.func65, Tryd.ntmps65
    go_wp2_with fail
    go_ret
    exact ⟨rfl, q⟩
  have d1 : 0 ≤ p := by omega
  by_cases c2 : 17 < p
  · go_enter Tryd.func65, Tryd.ntmps65
    go_wp2_with fail
    go_ret
    exact ⟨rfl, q⟩
  have d2 : p ≤ 17 := by omega
  by_cases c3 : x.size = 16
  · have c3' : (x.size : Int) = 16 := by omega
    by_cases c4 : n < 0
    · go_enter Tryd.func65, Tryd.ntmps65
      go_wp2_with fail
      go_ret
      exact ⟨rfl, q⟩
    have d4 : 0 ≤ n := by omega
    have c5 : 15 < n := by
      by_cases c5 : 15 < n
      · exact c5
      · exact absurd ⟨d1, d2, c3, d4, by omega⟩ h
    go_enter Tryd.func65, Tryd.ntmps65
    go_wp2_with fail
    go_ret
    exact ⟨rfl, q⟩
  · have c3' : ((x.size : Int) != 16) = true := by simp; omega
    go_enter Tryd.func65, Tryd.ntmps65
    go_wp2_with fail
    go_ret
    exact ⟨rfl, q⟩
theorem rsecret_x {W : World} (s x : ByteArray) (p : Nat) (hx : sec s p = x) (w : World) (q : Q W w) (hs : s.size ≤ 1000000) (hp : p ≤ 17) :
    Calls Tryd.prog 66 #[.string s, .int .i64 p] w fun e w' => e = .returned (.string x) ∧ Q W w' := by
  have HX : Hid (tagS wSec (two s (one p)) 2 = x) := hx
  obtain ⟨o, eo⟩ : ∃ o, one p = o := ⟨_, rfl⟩
  have zo : o.size ≤ 1000000 := by rw [← eo, one_size]; omega
  rw [eo] at HX
  have C1 := Lib.hid (rone_x p o eo w q hp)
  clear q eo hx
  go_enter Tryd.func66, Tryd.ntmps66
  go_wp2_with fail
  refine C1.out.mono ?_
  rintro e w1 ⟨rfl, q1⟩
  have Q1 := Lib.hid q1
  clear q1
  go_wp2_with fail
  refine (rtag2_x wSec s o x HX.out _ w1 _ rfl Q1.out (by decide) hs zo).mono ?_
  rintro e w2 ⟨rfl, q2⟩
  go_wp2_with fail
  go_ret
  exact ⟨rfl, q2⟩

set_option maxHeartbeats 2000000 in
theorem rpublic_any {W : World} (s x : ByteArray) (hx : pub s = x) (w : World) (q : Q W w) (hs : s.size ≤ 1000000) :
    Calls Tryd.prog 44 #[.string s] w fun e w' => e = .returned (.string x) ∧ Q W w' := by
  have HZ := Lib.hid (cat_size (pubP s) (pubP_size s))
  have HQ := Lib.hid q
  have HX : Hid (tagS wPub (fun _ => cat (pubP s) 18) 1 = x) := hx
  clear q hx
  go_enter Tryd.func44, Tryd.ntmps44
  go_wp2_with fail
  go_loopw [3, 4] (fun a i wr => ∃ k : Nat, k ≤ 18 ∧ a = .string (cat (pubP s) k) ∧ i = .int .i64 k ∧ Hid (Q W wr)) (fun _ i _ => 18 - (intOf i).toNat)
  case atStart => exact ⟨0, by omega, rfl, rfl, HQ⟩
  case round =>
    obtain ⟨k, hk, rfl, rfl, I⟩ := hrel
    by_cases hlt : k < 18
    · have k0 : (0 : Int) ≤ (k : Int) := by omega
      have k1 : (k : Int) < 18 := by omega
      have hz := HZ.out k
      obtain ⟨t, et⟩ : ∃ t, sec s k = t := ⟨_, rfl⟩
      have zt : t.size = 16 := by rw [← et]; exact sec_size s k
      obtain ⟨y, ey⟩ : ∃ y, pubP s k = y := ⟨_, rfl⟩
      have EY : Hid (stp k t 15 = y) := by rw [← et]; exact ey
      have zy : y.size = 16 := by rw [← ey]; exact pubP_size s k
      have ET := Lib.hid et
      have HS : Hid (cat (pubP s) k ++ y = cat (pubP s) (k + 1)) := by rw [← ey]; rfl
      obtain ⟨c, ec⟩ : ∃ c, cat (pubP s) k = c := ⟨_, rfl⟩
      rw [ec] at hz HS ⊢
      have hz' : c.size ≤ 288 := by omega
      clear et ey ec hz
      go_wp2_with fail
      refine (rsecret_x s t k ET.out wr I.out hs (by omega)).mono ?_
      rintro e w1 ⟨rfl, q1⟩
      have Q1 := Lib.hid q1
      clear q1
      go_wp2_with fail
      refine (rstep_x k 15 t y EY.out w1 Q1.out (by omega) zt (by omega)).mono ?_
      rintro e w2 ⟨rfl, q2⟩
      have Q2 := Lib.hid q2
      clear q2
      go_wp2_with fail
      exact ⟨⟨k + 1, by omega, congrArg Value.string HS.out, by go_num, Q2⟩, by simp [intOf]; omega⟩
    · obtain rfl : k = 18 := by omega
      have hz := HZ.out 18
      obtain ⟨c, ec⟩ : ∃ c, cat (pubP s) 18 = c := ⟨_, rfl⟩
      rw [ec] at hz HX ⊢
      clear ec
      go_wp2_with fail
      refine (rtag1_x wPub c x HX.out _ wr _ rfl I.out (by decide) (by omega)).mono ?_
      rintro e w1 ⟨rfl, q1⟩
      go_wp2_with fail
      go_ret
      exact ⟨rfl, q1⟩
end Go.Proofs.YtnghhagiokiaoaaDoor.Wot
