/-
  Layer 4: the walks of Count, of the document's own, and of Value.
-/
import Derived.Test.YtnjkikdcalfjgaaDoorPay2
namespace Go.Proofs.YtnjkikdcalfjgaaDoor.Pay
open Go.RowKit
open Mem Sh Num
set_option linter.unusedVariables false

/-- What Count tells: the least number of steps, of at most m. -/
def CntR (a t : ByteArray) (m : Nat) (r e : Int) : Prop :=
  (∃ k : Nat, k ≤ m ∧ farS t k = a ∧ (∀ j, j < k → farS t j ≠ a) ∧ r = k ∧ e = 0) ∨ ((∀ j, j ≤ m → farS t j ≠ a) ∧ r = 0 ∧ e = 4)
theorem cnt_one {a t : ByteArray} {m : Nat} {r e r' e' : Int} (h : CntR a t m r e) (h' : CntR a t m r' e') : r = r' ∧ e = e' := by
  rcases h with ⟨k, k1, k2, k3, rfl, rfl⟩ | ⟨n1, rfl, rfl⟩ <;> rcases h' with ⟨l, l1, l2, l3, rfl, rfl⟩ | ⟨n2, rfl, rfl⟩
  · have : k = l := by
      rcases Nat.lt_trichotomy k l with h | h | h
      · exact absurd k2 (l3 k h)
      · exact h
      · exact absurd l2 (k3 l h)
    subst this; exact ⟨rfl, rfl⟩
  · exact absurd k2 (n2 k k1)
  · exact absurd l2 (n1 l l1)
  · exact ⟨rfl, rfl⟩
theorem cnt_from (a t : ByteArray) (m : Nat) : ∀ d k, d + k = m + 1 → (∀ j, j < k → farS t j ≠ a) → ∃ r e, CntR a t m r e
  | 0, k, h, hj => ⟨0, 4, .inr ⟨fun j hm => hj j (by omega), rfl, rfl⟩⟩
  | d + 1, k, h, hj => by
    by_cases hk : farS t k = a
    · exact ⟨k, 0, .inl ⟨k, by omega, hk, hj, rfl, rfl⟩⟩
    · refine cnt_from a t m d (k + 1) (by omega) fun j hjk => ?_
      by_cases e : j = k
      · rw [e]; exact hk
      · exact hj j (by omega)
theorem cnt_ex (a t : ByteArray) (m : Nat) : ∃ r e, CntR a t m r e := cnt_from a t m (m + 1) 0 (by omega) (fun j h => by omega)
/-- What Count answers, of anything. -/
def CntA (a t : ByteArray) (m : Int) (r e : Int) : Prop :=
  (a.size = 16 ∧ t.size = 16 ∧ 0 ≤ m ∧ m ≤ 4096 ∧ CntR a t m.toNat r e) ∨ (¬ (a.size = 16 ∧ t.size = 16 ∧ 0 ≤ m ∧ m ≤ 4096) ∧ r = 0 ∧ e = 1)
theorem cntA_ex (a t : ByteArray) (m : Int) : ∃ r e, CntA a t m r e := by
  by_cases h : a.size = 16 ∧ t.size = 16 ∧ 0 ≤ m ∧ m ≤ 4096
  · obtain ⟨r, e, hr⟩ := cnt_ex a t m.toNat
    exact ⟨r, e, .inl ⟨h.1, h.2.1, h.2.2.1, h.2.2.2, hr⟩⟩
  · exact ⟨0, 1, .inr ⟨h, rfl, rfl⟩⟩
theorem ne_tl {x a : ByteArray} (h : x ≠ a) : (x.toList == a.toList) = false := by
  rw [beq_eq_false_iff_ne]
  intro e
  rw [ByteArray.toList_eq, ByteArray.toList_eq] at e
  exact h (ByteArray.ext (Array.ext' e))
theorem ret2e {k1 k2 : IntKind} {a b c d : Int} (h : a = c ∧ b = d) : Ending.returned (.tuple #[.int k1 a, .int k2 b]) = .returned (.tuple #[.int k1 c, .int k2 d]) := by rw [h.1, h.2]

set_option maxHeartbeats 1000000 in
theorem count_ok {W : World} (a t : ByteArray) (m : Nat) (r e : Int) (w : World) (q : Q W w) (hG : GL W) (ha : a.size = 16) (ht : t.size = 16) (hm : m ≤ 4096) (hre : CntR a t m r e) :
    Calls Tryd.prog 16 #[.string a, .string t, .int .i64 m] w fun x w' => x = .returned (.tuple #[.int .i64 r, .int .i64 e]) ∧ Q W w' := by
  have HG := Lib.hid hG
  have HQ := Lib.hid q
  have HS := Lib.hid (farS_size t ht)
  have HR := Lib.hid hre
  have m0 : (0 : Int) ≤ (m : Int) := by omega
  have m1 : (m : Int) ≤ 4096 := by omega
  clear q hG hre
  go_enter Tryd.func16, Tryd.ntmps16
  go_wp2_with fail
  refine (istok_y a w ha).mono ?_
  rintro x _ ⟨rfl, rfl⟩
  go_wp2_with fail
  refine (istok_y t w ht).mono ?_
  rintro x _ ⟨rfl, rfl⟩
  go_wp2_with fail
  refine (isst_y m w m0 m1).mono ?_
  rintro x _ ⟨rfl, rfl⟩
  go_wp2_with fail
  refine (walk_any t w).mono ?_
  rintro x w2 ⟨rfl, rfl⟩
  have I0 := Lib.hid (WI.new HQ.out t)
  unfold stepV
  generalize w.heap.size = g at *
  go_wp2_with fail
  go_loopw [8, 10] (fun st a1 wr => ∃ k : Nat, k ≤ m ∧ st = .int .i64 k ∧ a1 = .string (farS t k) ∧ Hid (WI W wr g (farS t k)) ∧ Hid (∀ j, j < k → farS t j ≠ a)) (fun st _ _ => m - (intOf st).toNat)
  case atStart => exact ⟨0, by omega, rfl, rfl, I0, fun j hj => by omega⟩
  case round =>
    obtain ⟨k, hk, rfl, rfl, I, HJ⟩ := hrel
    have k0 : (0 : Int) ≤ (k : Int) := by omega
    have I' := I
    obtain ⟨x, hx⟩ : ∃ x, farS t k = x := ⟨_, rfl⟩
    rw [hx] at I
    rw [hx]
    by_cases he : x = a
    · have HF : Hid (r = k ∧ e = 0) := cnt_one HR.out (.inl ⟨k, hk, by rw [hx, he], HJ.out, rfl, rfl⟩)
      subst he
      go_wp2_with fail
      go_ret2
      exact ⟨ret2e ⟨HF.out.1.symm, HF.out.2.symm⟩, I.out.q⟩
    · have tn := ne_tl he
      by_cases hkm : k = m
      · have HF : Hid (r = 0 ∧ e = 4) := cnt_one HR.out (.inr ⟨fun j hj => by
          by_cases ej : j = k
          · rw [ej, hx]; exact he
          · exact HJ.out j (by omega), rfl, rfl⟩)
        subst hkm
        go_wp2_with fail
        go_ret2
        exact ⟨ret2e ⟨HF.out.1.symm, HF.out.2.symm⟩, I.out.q⟩
      · have tk : ((k : Int) == (m : Int)) = false := by simp; omega
        go_wp2_with fail
        refine (I.out.step HG.out (by rw [← hx, HS.out k]; decide)).mono ?_
        rintro y w3 ⟨rfl, h3⟩
        have e3 : nextS x = farS t (k + 1) := by rw [← hx]; rfl
        rw [e3] at h3
        rw [e3]
        have I3 := Lib.hid h3
        clear h3 e3
        go_wp2_with fail
        exact ⟨⟨k + 1, by omega, by go_num, rfl, I3, fun j hj => by
          by_cases ej : j = k
          · rw [ej, hx]; exact he
          · exact HJ.out j (by omega)⟩, by simp [intOf]; omega⟩
theorem count_bad {W : World} (a t : ByteArray) (m : Int) (w : World) (q : Q W w) (hG : GL W) (h : ¬ (a.size = 16 ∧ t.size = 16 ∧ 0 ≤ m ∧ m ≤ 4096)) :
    Calls Tryd.prog 16 #[.string a, .string t, .int .i64 m] w fun x w' => x = .returned (.tuple #[.int .i64 0, .int .i64 1]) ∧ Q W w' := by
  by_cases ha : a.size = 16
  · by_cases ht : t.size = 16
    · have hn : ¬ (0 ≤ m ∧ m ≤ 4096) := fun hh => h ⟨ha, ht, hh⟩
      go_enter Tryd.func16, Tryd.ntmps16
      go_wp2_with fail
      refine (istok_y a w ha).mono ?_
      rintro x _ ⟨rfl, rfl⟩
      go_wp2_with fail
      refine (istok_y t w ht).mono ?_
      rintro x _ ⟨rfl, rfl⟩
      go_wp2_with fail
      refine (isst_n m w hn).mono ?_
      rintro x _ ⟨rfl, rfl⟩
      go_wp2_with fail
      go_ret2
      exact ⟨rfl, q⟩
    · go_enter Tryd.func16, Tryd.ntmps16
      go_wp2_with fail
      refine (istok_y a w ha).mono ?_
      rintro x _ ⟨rfl, rfl⟩
      go_wp2_with fail
      refine (istok_n t w ht).mono ?_
      rintro x _ ⟨rfl, rfl⟩
      go_wp2_with fail
      go_ret2
      exact ⟨rfl, q⟩
  · go_enter Tryd.func16, Tryd.ntmps16
    go_wp2_with fail
    refine (istok_n a w ha).mono ?_
    rintro x _ ⟨rfl, rfl⟩
    go_wp2_with fail
    go_ret2
    exact ⟨rfl, q⟩
theorem count_x {W : World} (a t : ByteArray) (m r e : Int) (h : CntA a t m r e) (w : World) (q : Q W w) (hG : GL W) :
    Calls Tryd.prog 16 #[.string a, .string t, .int .i64 m] w fun x w' => x = .returned (.tuple #[.int .i64 r, .int .i64 e]) ∧ Q W w' := by
  rcases h with ⟨ha, ht, h0, h1, hr⟩ | ⟨hn, rfl, rfl⟩
  · obtain ⟨n, rfl⟩ := Int.eq_ofNat_of_zero_le h0
    exact count_ok a t n r e w q hG ha ht (by omega) hr
  · exact count_bad a t m w q hG hn

set_option maxHeartbeats 1000000 in
theorem rcount_ok {W : World} (a t : ByteArray) (m : Nat) (r e : Int) (w : World) (q : Q W w) (ha : a.size = 16) (ht : t.size = 16) (hm : m ≤ 4096) (hre : CntR a t m r e) :
    Calls Tryd.prog 17 #[.string a, .string t, .int .i64 m] w fun x w' => x = .returned (.tuple #[.int .i64 r, .int .i64 e]) ∧ Q W w' := by
  have HQ := Lib.hid q
  have HS := Lib.hid (farS_size t ht)
  have HR := Lib.hid hre
  have ha' : (a.size : Int) = 16 := by omega
  have ht' : (t.size : Int) = 16 := by omega
  have m0 : (0 : Int) ≤ (m : Int) := by omega
  have m1 : (m : Int) ≤ 4096 := by omega
  clear q hre
  go_enter Tryd.func17, Tryd.ntmps17
  go_wp2_with fail
  go_loopw [8, 9] (fun a1 st wr => ∃ k : Nat, k ≤ m + 1 ∧ st = .int .i64 k ∧ a1 = .string (farS t k) ∧ Hid (Q W wr) ∧ Hid (∀ j, j < k → farS t j ≠ a)) (fun _ st _ => m + 1 - (intOf st).toNat)
  case atStart => exact ⟨0, by omega, rfl, rfl, HQ, fun j hj => by omega⟩
  case round =>
    obtain ⟨k, hk, rfl, rfl, I, HJ⟩ := hrel
    have k0 : (0 : Int) ≤ (k : Int) := by omega
    obtain ⟨x, hx⟩ : ∃ x, farS t k = x := ⟨_, rfl⟩
    rw [hx]
    by_cases hkm : k = m + 1
    · have HF : Hid (r = 0 ∧ e = 4) := cnt_one HR.out (.inr ⟨fun j hj => HJ.out j (by omega), rfl, rfl⟩)
      have tk : decide ((k : Int) ≤ (m : Int)) = false := by simp; omega
      go_wp2_with fail
      go_ret2
      exact ⟨ret2e ⟨HF.out.1.symm, HF.out.2.symm⟩, I.out⟩
    · have tk : (k : Int) ≤ (m : Int) := by omega
      by_cases he : x = a
      · have HF : Hid (r = k ∧ e = 0) := cnt_one HR.out (.inl ⟨k, by omega, by rw [hx, he], HJ.out, rfl, rfl⟩)
        subst he
        go_wp2_with fail
        go_ret2
        exact ⟨ret2e ⟨HF.out.1.symm, HF.out.2.symm⟩, I.out⟩
      · have tn := ne_tl he
        go_wp2_with fail
        refine (rnext_any x wr I.out (by rw [← hx, HS.out k]; decide)).mono ?_
        rintro y w3 ⟨rfl, h3⟩
        have e3 : nextS x = farS t (k + 1) := by rw [← hx]; rfl
        rw [e3]
        have I3 := Lib.hid h3
        clear h3 e3
        go_wp2_with fail
        exact ⟨⟨k + 1, by omega, by go_num, rfl, I3, fun j hj => by
          by_cases ej : j = k
          · rw [ej, hx]; exact he
          · exact HJ.out j (by omega)⟩, by simp [intOf]; omega⟩
theorem rcount_bad {W : World} (a t : ByteArray) (m : Int) (w : World) (q : Q W w) (h : ¬ (a.size = 16 ∧ t.size = 16 ∧ 0 ≤ m ∧ m ≤ 4096)) :
    Calls Tryd.prog 17 #[.string a, .string t, .int .i64 m] w fun x w' => x = .returned (.tuple #[.int .i64 0, .int .i64 1]) ∧ Q W w' := by
  by_cases ha : a.size = 16
  · have ha' : (a.size : Int) = 16 := by omega
    by_cases ht : t.size = 16
    · have ht' : (t.size : Int) = 16 := by omega
      by_cases h0 : m < 0
      · go_enter Tryd.func17, Tryd.ntmps17
        go_wp2_with fail
        go_ret2
        exact ⟨rfl, q⟩
      · have h0' : 0 ≤ m := by omega
        have h1 : 4096 < m := by
          by_cases h2 : 4096 < m
          · exact h2
          · exact absurd ⟨ha, ht, h0', by omega⟩ h
        go_enter Tryd.func17, Tryd.ntmps17
        go_wp2_with fail
        go_ret2
        exact ⟨rfl, q⟩
    · have ht' : ((t.size : Int) != 16) = true := by simp; omega
      go_enter Tryd.func17, Tryd.ntmps17
      go_wp2_with fail
      go_ret2
      exact ⟨rfl, q⟩
  · have ha' : ((a.size : Int) != 16) = true := by simp; omega
    go_enter Tryd.func17, Tryd.ntmps17
    go_wp2_with fail
    go_ret2
    exact ⟨rfl, q⟩
theorem rcount_x {W : World} (a t : ByteArray) (m r e : Int) (h : CntA a t m r e) (w : World) (q : Q W w) :
    Calls Tryd.prog 17 #[.string a, .string t, .int .i64 m] w fun x w' => x = .returned (.tuple #[.int .i64 r, .int .i64 e]) ∧ Q W w' := by
  rcases h with ⟨ha, ht, h0, h1, hr⟩ | ⟨hn, rfl, rfl⟩
  · obtain ⟨n, rfl⟩ := Int.eq_ofNat_of_zero_le h0
    exact rcount_ok a t n r e w q ha ht (by omega) hr
  · exact rcount_bad a t m w q hn

/-! ### Value -/
def valV (n u : Int) : Int := if 0 ≤ n then mulV n u else 0
def valE (n u : Int) : Int := if 0 ≤ n then mulE n u else 2
theorem value_any (n u : Int) (w : World) (h0 : -9223372036854775808 ≤ n) (h1 : n ≤ 9223372036854775807) (u0 : 0 ≤ u) (u1 : u ≤ 18446744073709551615) :
    Calls Tryd.prog 18 #[.int .i64 n, .int .u64 u] w fun e w' => e = .returned (.tuple #[.int .u64 (valV n u), .int .i64 (valE n u)]) ∧ w = w' := by
  by_cases h : 0 ≤ n
  · have ev : valV n u = mulV n u := if_pos h
    have ee : valE n u = mulE n u := if_pos h
    have o1 : ofV n = n := if_pos h
    have o2 : ofE n = 0 := if_pos h
    have C1 := Lib.hid (of_any n w h0 h1)
    rw [o1, o2] at C1
    have C2 := Lib.hid (mul_any n u w h (by omega) u0 u1)
    rw [ev, ee]
    clear ev ee o1 o2
    go_enter Tryd.func18, Tryd.ntmps18
    go_wp2_with fail
    refine C1.out.mono ?_
    rintro x _ ⟨rfl, rfl⟩
    go_wp2_with fail
    refine C2.out.mono ?_
    rintro x _ ⟨rfl, rfl⟩
    go_wp2_with fail
    go_ret2
    exact ⟨rfl, rfl⟩
  · have ev : valV n u = 0 := if_neg h
    have ee : valE n u = 2 := if_neg h
    have o1 : ofV n = 0 := if_neg h
    have o2 : ofE n = 2 := if_neg h
    have C1 := Lib.hid (of_any n w h0 h1)
    rw [o1, o2] at C1
    rw [ev, ee]
    clear ev ee o1 o2
    go_enter Tryd.func18, Tryd.ntmps18
    go_wp2_with fail
    refine C1.out.mono ?_
    rintro x _ ⟨rfl, rfl⟩
    go_wp2_with fail
    go_ret2
    exact ⟨rfl, rfl⟩
theorem rvalue_any (n u : Int) (w : World) (h0 : -9223372036854775808 ≤ n) (h1 : n ≤ 9223372036854775807) (u0 : 0 ≤ u) (u1 : u ≤ 18446744073709551615) :
    Calls Tryd.prog 19 #[.int .i64 n, .int .u64 u] w fun e w' => e = .returned (.tuple #[.int .u64 (valV n u), .int .i64 (valE n u)]) ∧ w = w' := by
  by_cases h : 0 ≤ n
  · have ev : valV n u = mulV n u := if_pos h
    have ee : valE n u = mulE n u := if_pos h
    have C2 := Lib.hid (rmul_any n u w h (by omega) u0 u1)
    rw [ev, ee]
    clear ev ee
    go_enter Tryd.func19, Tryd.ntmps19
    go_wp2_with fail
    refine C2.out.mono ?_
    rintro x _ ⟨rfl, rfl⟩
    go_wp2_with fail
    go_ret2
    exact ⟨rfl, rfl⟩
  · have ev : valV n u = 0 := if_neg h
    have ee : valE n u = 2 := if_neg h
    have h' : n < 0 := by omega
    rw [ev, ee]
    clear ev ee
    go_enter Tryd.func19, Tryd.ntmps19
    go_wp2_with fail
    go_ret2
    exact ⟨rfl, rfl⟩
end Go.Proofs.YtnjkikdcalfjgaaDoor.Pay
