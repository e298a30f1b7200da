/-
  Layer 7: the program's single, node, rootOf, seedOf, bound, isHash, areHashes, areLeaves, above.
-/
import Derived.Test.YtnghhagiokiaoaaDoorMer3
import Derived.Test.YtnghhagiokiaoaaDoorWotK
namespace Go.Proofs.YtnghhagiokiaoaaDoor.Mer
open Go.RowKit
open Mem Sh Wot
set_option linter.unusedVariables false

theorem msingle_x {W : World} (p : Nat) (x : ByteArray) (hx : one p = x) (w : World) (q : Q W w) (hp : p ≤ 255) :
    Calls Tryd.prog 49 #[.int .i64 p] w fun e w' => e = .returned (.string x) ∧ Q W w' := by
  have cv := conv1 w (p : Int)
  have p0 : (0 : Int) ≤ (p : Int) := by omega
  have p1 : (p : Int) ≤ 255 := by omega
  have HX : Hid (strOfNums [(p : Int)] = x) := hx
  go_enter Tryd.func49, Tryd.ntmps49
  go_wp2_with fail
  go_ret
  exact ⟨retS HX.out, q.alloc _⟩
theorem node_x {W : World} (a b x : ByteArray) (hx : nd a b = x) (w : World) (q : Q W w) (hG : GL W) (ha : a.size ≤ 1000000) (hb : b.size ≤ 1000000) :
    Calls Tryd.prog 39 #[.string a, .string b] w fun e w' => e = .returned (.string x) ∧ Q W w' := by
  have C := Lib.hid (fun T => tag2_x wNode a b x hx T w _ rfl q hG (by decide) ha hb)
  clear q hx hG
  go_enter Tryd.func39, Tryd.ntmps39
  go_wp2_with fail
  refine (C.out _).mono ?_
  rintro e w1 ⟨rfl, q1⟩
  go_wp2_with fail
  go_ret
  exact ⟨rfl, q1⟩
theorem rootOf_x {W : World} (h : Nat) (y x : ByteArray) (hx : rtS h y = x) (w : World) (q : Q W w) (hG : GL W) (hy : y.size ≤ 1000000) (hh : h ≤ 255) :
    Calls Tryd.prog 40 #[.int .i64 h, .string y] w fun e w' => e = .returned (.string x) ∧ Q W w' := by
  have HX : Hid (tagS wRoot (two (one h) y) 2 = x) := hx
  obtain ⟨o, eo⟩ : ∃ o, one h = o := ⟨_, rfl⟩
  have zo : o.size ≤ 1000000 := by rw [← eo, one_size]; omega
  rw [eo] at HX
  have C1 := Lib.hid (msingle_x h o eo w q hh)
  have HG := Lib.hid hG
  clear q eo hx hG
  go_enter Tryd.func40, Tryd.ntmps40
  go_wp2_with fail
  refine C1.out.mono ?_
  rintro e w1 ⟨rfl, q1⟩
  have Q1 := Lib.hid q1
  clear q1
  go_wp2_with fail
  refine (tag2_x wRoot o y x HX.out _ w1 _ rfl Q1.out HG.out (by decide) zo hy).mono ?_
  rintro e w2 ⟨rfl, q2⟩
  go_wp2_with fail
  go_ret
  exact ⟨rfl, q2⟩
theorem seedOf_x {W : World} (s x : ByteArray) (p : Nat) (hx : sdS s p = x) (w : World) (q : Q W w) (hG : GL W) (hs : s.size ≤ 1000000) (hp : p ≤ 255) :
    Calls Tryd.prog 42 #[.string s, .int .i64 p] w fun e w' => e = .returned (.string x) ∧ Q W w' := by
  have HX : Hid (tagS wLeaf (two s (one p)) 2 = x) := hx
  obtain ⟨o, eo⟩ : ∃ o, one p = o := ⟨_, rfl⟩
  have zo : o.size ≤ 1000000 := by rw [← eo, one_size]; omega
  rw [eo] at HX
  have C1 := Lib.hid (msingle_x p o eo w q hp)
  have HG := Lib.hid hG
  clear q eo hx hG
  go_enter Tryd.func42, Tryd.ntmps42
  go_wp2_with fail
  refine C1.out.mono ?_
  rintro e w1 ⟨rfl, q1⟩
  have Q1 := Lib.hid q1
  clear q1
  go_wp2_with fail
  refine (tag2_x wLeaf s o x HX.out _ w1 _ rfl Q1.out HG.out (by decide) hs zo).mono ?_
  rintro e w2 ⟨rfl, q2⟩
  go_wp2_with fail
  go_ret
  exact ⟨rfl, q2⟩
theorem bound_x {W : World} (r m x : ByteArray) (p : Nat) (hx : msgS r p m = x) (w : World) (q : Q W w) (hr : r.size ≤ 100000) (hm : m.size ≤ 100000) (hp : p ≤ 255) :
    Calls Tryd.prog 48 #[.string r, .int .i64 p, .string m] w fun e w' => e = .returned (.string x) ∧ Q W w' := by
  obtain ⟨o, eo⟩ : ∃ o, one p = o := ⟨_, rfl⟩
  have HX : Hid (r ++ o ++ m = x) := by rw [← eo]; exact hx
  have zo : o.size = 1 := by rw [← eo, one_size]
  have zro : (r ++ o).size = r.size + 1 := by rw [ByteArray.size_append, zo]
  have C1 := Lib.hid (msingle_x p o eo w q hp)
  clear q eo hx
  go_enter Tryd.func48, Tryd.ntmps48
  go_wp2_with fail
  refine C1.out.mono ?_
  rintro e w1 ⟨rfl, q1⟩
  have Q1 := Lib.hid q1
  clear q1
  go_wp2_with fail
  go_ret
  exact ⟨retS HX.out, Q1.out⟩
theorem isHash_y (s : ByteArray) (hs : s.size = 16) (w : World) : Calls Tryd.prog 37 #[.string s] w fun e w' => e = .returned (.bool true) ∧ w = w' := by
  have h : (s.size : Int) = 16 := by omega
  go_enter Tryd.func37, Tryd.ntmps37
  go_wp2_with fail
  go_ret
  exact ⟨rfl, rfl⟩
theorem isHash_n (s : ByteArray) (hs : s.size ≠ 16) (w : World) : Calls Tryd.prog 37 #[.string s] w fun e w' => e = .returned (.bool false) ∧ w = w' := by
  have h : ((s.size : Int) == 16) = false := by rw [beq_eq_false_iff_ne]; omega
  go_enter Tryd.func37, Tryd.ntmps37
  go_wp2_with fail
  go_ret
  exact ⟨rfl, rfl⟩
theorem notHash_y (s : ByteArray) (hs : s.size = 16) (w : World) : Calls Tryd.prog 58 #[.string s] w fun e w' => e = .returned (.bool false) ∧ w = w' := by
  go_enter Tryd.func58, Tryd.ntmps58
  go_wp2_with fail
  refine (isHash_y s hs w).mono ?_
  rintro e _ ⟨rfl, rfl⟩
  go_wp2_with fail
  go_ret
  exact ⟨rfl, rfl⟩
theorem notHash_n (s : ByteArray) (hs : s.size ≠ 16) (w : World) : Calls Tryd.prog 58 #[.string s] w fun e w' => e = .returned (.bool true) ∧ w = w' := by
  go_enter Tryd.func58, Tryd.ntmps58
  go_wp2_with fail
  refine (isHash_n s hs w).mono ?_
  rintro e _ ⟨rfl, rfl⟩
  go_wp2_with fail
  go_ret
  exact ⟨rfl, rfl⟩
def nhV : Value := .func (.func 58) #[] #[]
set_option maxHeartbeats 1000000 in
theorem index_y (g off n cap : Nat) (f : Nat → ByteArray) (w : World) (t : TR w g off n f) (hn : n ≤ 100000) (hz : ∀ i, i < n → (f i).size = 16) :
    Calls Tryd.prog 76 #[.slice (some ⟨g, off, none⟩) n cap, nhV] w fun e w' => e = .returned (.int .i64 (-1)) ∧ w = w' := by
  have HT := Lib.hid t
  have HZ := Lib.hid hz
  clear t hz
  unfold nhV
  go_enter Tryd.func76, Tryd.ntmps76
  go_wp2_with fail
  go_loopw [5, 8] (fun z i wr => ∃ k : Nat, k ≤ n ∧ i = .int .i64 k ∧ w = wr) (fun _ i _ => n - (intOf i).toNat)
  case atStart => exact ⟨0, by omega, rfl, rfl⟩
  case round =>
    obtain ⟨k, hk, rfl, rfl⟩ := hrel
    have k0 : (0 : Int) ≤ (k : Int) := by omega
    by_cases hlt : k < n
    · have k1 : (k : Int) < (n : Int) := by omega
      have hc := HT.out.r k hlt
      have hz := HZ.out k hlt
      generalize f k = x at *
      go_wp2_with fail
      refine (notHash_y x hz w).mono ?_
      rintro e _ ⟨rfl, rfl⟩
      go_wp2_with fail
      exact ⟨⟨k + 1, by omega, by go_num, trivial⟩, by simp [intOf]; omega⟩
    · obtain rfl : k = n := by omega
      have td : decide (k < k) = false := by simp
      go_wp2_with fail
      go_ret
      exact ⟨rfl, rfl⟩
set_option maxHeartbeats 1000000 in
theorem index_n (g off n cap : Nat) (f : Nat → ByteArray) (w : World) (t : TR w g off n f) (hn : n ≤ 100000) (hz : ∃ i, i < n ∧ (f i).size ≠ 16) :
    Calls Tryd.prog 76 #[.slice (some ⟨g, off, none⟩) n cap, nhV] w fun e w' => (∃ i : Nat, e = .returned (.int .i64 i)) ∧ w = w' := by
  have HT := Lib.hid t
  have HZ := Lib.hid hz
  clear t hz
  unfold nhV
  go_enter Tryd.func76, Tryd.ntmps76
  go_wp2_with fail
  go_loopw [5, 8] (fun z i wr => ∃ k : Nat, k ≤ n ∧ Hid (∀ j, j < k → (f j).size = 16) ∧ i = .int .i64 k ∧ w = wr) (fun _ i _ => n - (intOf i).toNat)
  case atStart => exact ⟨0, by omega, Lib.hid (fun j hj => by omega), rfl, rfl⟩
  case round =>
    obtain ⟨k, hk, J, rfl, rfl⟩ := hrel
    have k0 : (0 : Int) ≤ (k : Int) := by omega
    by_cases hlt : k < n
    · have k1 : (k : Int) < (n : Int) := by omega
      have hc := HT.out.r k hlt
      by_cases hz : (f k).size = 16
      · have J' : Hid (∀ j, j < k + 1 → (f j).size = 16) := fun j hj => by
          by_cases e : j = k
          · rw [e]; exact hz
          · exact J.out j (by omega)
        generalize f k = x at *
        go_wp2_with fail
        refine (notHash_y x hz w).mono ?_
        rintro e _ ⟨rfl, rfl⟩
        go_wp2_with fail
        exact ⟨⟨k + 1, by omega, J', by go_num, trivial⟩, by simp [intOf]; omega⟩
      · generalize f k = x at *
        go_wp2_with fail
        refine (notHash_n x hz w).mono ?_
        rintro e _ ⟨rfl, rfl⟩
        go_wp2_with fail
        go_ret
        exact ⟨⟨k, rfl⟩, rfl⟩
    · exfalso
      obtain ⟨i, hi, hne⟩ := HZ.out
      exact hne (J.out i (by omega))
theorem contains_y (g off n cap : Nat) (f : Nat → ByteArray) (w : World) (t : TR w g off n f) (hn : n ≤ 100000) (hz : ∀ i, i < n → (f i).size = 16) :
    Calls Tryd.prog 57 #[.slice (some ⟨g, off, none⟩) n cap, nhV] w fun e w' => e = .returned (.bool false) ∧ w = w' := by
  have C := Lib.hid (index_y g off n cap f w t hn hz)
  clear t hz
  unfold nhV at C ⊢
  go_enter Tryd.func57, Tryd.ntmps57
  go_wp2_with fail
  refine C.out.mono ?_
  rintro e _ ⟨rfl, rfl⟩
  go_wp2_with fail
  go_ret
  exact ⟨rfl, rfl⟩
theorem contains_n (g off n cap : Nat) (f : Nat → ByteArray) (w : World) (t : TR w g off n f) (hn : n ≤ 100000) (hz : ∃ i, i < n ∧ (f i).size ≠ 16) :
    Calls Tryd.prog 57 #[.slice (some ⟨g, off, none⟩) n cap, nhV] w fun e w' => e = .returned (.bool true) ∧ w = w' := by
  have C := Lib.hid (index_n g off n cap f w t hn hz)
  clear t hz
  unfold nhV at C ⊢
  go_enter Tryd.func57, Tryd.ntmps57
  go_wp2_with fail
  refine C.out.mono ?_
  rintro e _ ⟨⟨i, rfl⟩, rfl⟩
  have i0 : (0 : Int) ≤ (i : Int) := by omega
  go_wp2_with fail
  go_ret
  exact ⟨by simp, rfl⟩
theorem areHashes_y (g off n cap : Nat) (f : Nat → ByteArray) (w : World) (t : TR w g off n f) (hn : n ≤ 100000) (hz : ∀ i, i < n → (f i).size = 16) :
    Calls Tryd.prog 38 #[.slice (some ⟨g, off, none⟩) n cap] w fun e w' => e = .returned (.bool true) ∧ w = w' := by
  have C := Lib.hid (contains_y g off n cap f w t hn hz)
  clear t hz
  unfold nhV at C
  go_enter Tryd.func38, Tryd.ntmps38
  go_wp2_with fail
  refine C.out.mono ?_
  rintro e _ ⟨rfl, rfl⟩
  go_wp2_with fail
  go_ret
  exact ⟨rfl, rfl⟩
theorem areHashes_n (g off n cap : Nat) (f : Nat → ByteArray) (w : World) (t : TR w g off n f) (hn : n ≤ 100000) (hz : ∃ i, i < n ∧ (f i).size ≠ 16) :
    Calls Tryd.prog 38 #[.slice (some ⟨g, off, none⟩) n cap] w fun e w' => e = .returned (.bool false) ∧ w = w' := by
  have C := Lib.hid (contains_n g off n cap f w t hn hz)
  clear t hz
  unfold nhV at C
  go_enter Tryd.func38, Tryd.ntmps38
  go_wp2_with fail
  refine C.out.mono ?_
  rintro e _ ⟨rfl, rfl⟩
  go_wp2_with fail
  go_ret
  exact ⟨rfl, rfl⟩

/-! ### Leaves -/
def isPow (n : Nat) : Bool := n == 1 || n == 2 || n == 4 || n == 8 || n == 16
theorem and_pow (n : Nat) (h1 : 1 ≤ n) (h16 : n ≤ 16) : (bits BinOp.and .i64 (n : Int) ((n : Int) - 1) == 0) = isPow n := by
  have all : ∀ j : Fin 17, 1 ≤ j.val → (bits BinOp.and .i64 (j.val : Int) ((j.val : Int) - 1) == 0) = isPow j.val := by decide +kernel
  exact all ⟨n, by omega⟩ h1
theorem isPow_two (h : Nat) (hh : h ≤ 4) : isPow (2 ^ h) = true := by
  have all : ∀ j : Fin 5, isPow (2 ^ j.val) = true := by decide +kernel
  exact all ⟨h, by omega⟩
theorem isPow_h (n : Nat) (hp : isPow n = true) : ∃ h, h ≤ 4 ∧ n = 2 ^ h := by
  unfold isPow at hp
  simp only [Bool.or_eq_true, beq_iff_eq] at hp
  rcases hp with (((rfl | rfl) | rfl) | rfl) | rfl
  · exact ⟨0, by omega, rfl⟩
  · exact ⟨1, by omega, rfl⟩
  · exact ⟨2, by omega, rfl⟩
  · exact ⟨3, by omega, rfl⟩
  · exact ⟨4, by omega, rfl⟩
theorem areLeaves_y (g off n cap h : Nat) (f : Nat → ByteArray) (w : World) (t : TR w g off n f) (l : IsLv f n h) :
    Calls Tryd.prog 30 #[.slice (some ⟨g, off, none⟩) n cap] w fun e w' => e = .returned (.bool true) ∧ w = w' := by
  have C := Lib.hid (areHashes_y g off n cap f w t (by have := l.n16; omega) l.hz)
  have n1 : (1 : Int) ≤ (n : Int) := by have := l.n1; omega
  have n2 : (n : Int) ≤ 16 := by have := l.n16; omega
  have hp := and_pow n l.n1 l.n16
  rw [l.hn, isPow_two h l.hh, ← l.hn] at hp
  have hp' : bits BinOp.and .i64 (n : Int) ((n : Int) - 1) = 0 := by simpa using hp
  clear t l hp
  go_enter Tryd.func30, Tryd.ntmps30
  go_wp2_with fail
  refine C.out.mono ?_
  rintro e _ ⟨rfl, rfl⟩
  go_wp2_with fail
  go_ret
  exact ⟨rfl, rfl⟩
theorem areLeaves_n (g off n cap : Nat) (f : Nat → ByteArray) (w : World) (t : TR w g off n f) (hn : n ≤ 100000) (l : ¬ ∃ h, IsLv f n h) :
    Calls Tryd.prog 30 #[.slice (some ⟨g, off, none⟩) n cap] w fun e w' => e = .returned (.bool false) ∧ w = w' := by
  by_cases c1 : n = 0
  · subst c1
    clear t l
    go_enter Tryd.func30, Tryd.ntmps30
    go_wp2_with fail
    go_ret
    exact ⟨rfl, rfl⟩
  by_cases c2 : 16 < n
  · have d1 : (1 : Int) ≤ (n : Int) := by omega
    have d2 : (16 : Int) < (n : Int) := by omega
    clear t l
    go_enter Tryd.func30, Tryd.ntmps30
    go_wp2_with fail
    go_ret
    exact ⟨rfl, rfl⟩
  have d1 : (1 : Int) ≤ (n : Int) := by omega
  have d2 : (n : Int) ≤ 16 := by omega
  have hp := and_pow n (by omega) (by omega)
  by_cases c3 : isPow n = true
  · rw [c3] at hp
    have hp' : bits BinOp.and .i64 (n : Int) ((n : Int) - 1) = 0 := by simpa using hp
    obtain ⟨h, hh, hn2⟩ := isPow_h n c3
    have hz : ∃ i, i < n ∧ (f i).size ≠ 16 := by
      by_cases hc : ∃ i, i < n ∧ (f i).size ≠ 16
      · exact hc
      · exact absurd ⟨h, ⟨hh, hn2, fun i hi => by
          by_cases e : (f i).size = 16
          · exact e
          · exact absurd ⟨i, hi, e⟩ hc⟩⟩ l
    have C := Lib.hid (areHashes_n g off n cap f w t hn hz)
    clear t l hp hn2 hz c3
    go_enter Tryd.func30, Tryd.ntmps30
    go_wp2_with fail
    refine C.out.mono ?_
    rintro e _ ⟨rfl, rfl⟩
    go_wp2_with fail
    go_ret
    exact ⟨rfl, rfl⟩
  · rw [Bool.not_eq_true] at c3
    rw [c3] at hp
    clear t l c3
    go_enter Tryd.func30, Tryd.ntmps30
    go_wp2_with fail
    go_ret
    exact ⟨rfl, rfl⟩
end Go.Proofs.YtnghhagiokiaoaaDoor.Mer
