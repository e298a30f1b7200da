/-
  Layer 4: the contracts with their answers as letters; the statements' own fixed calls.
-/
import Derived.Test.YtnjkikdcalfjgaaDoorPay4
namespace Go.Proofs.YtnjkikdcalfjgaaDoor.Pay
open Go.RowKit
open Mem Sh Num
set_option linter.unusedVariables false

theorem next_x {W : World} (t x : ByteArray) (hx : nextS t = x) (w : World) (q : Q W w) (hG : GL W) (ht : t.size ≤ 1000000) : Calls Tryd.prog 14 #[.string t] w fun e w' => e = .returned (.string x) ∧ Q W w' := by
  subst hx; exact next_any t w q hG ht
theorem rnext_x {W : World} (t x : ByteArray) (hx : nextS t = x) (w : World) (q : Q W w) (ht : t.size ≤ 1000000) : Calls Tryd.prog 15 #[.string t] w fun e w' => e = .returned (.string x) ∧ Q W w' := by
  subst hx; exact rnext_any t w q ht
theorem far_x {W : World} (t x : ByteArray) (n : Int) (hx : farA t n = x) (w : World) (q : Q W w) (hG : GL W) : Calls Tryd.prog 20 #[.string t, .int .i64 n] w fun e w' => e = .returned (.string x) ∧ Q W w' := by
  subst hx; exact far_any t n w q hG
theorem rfar_x {W : World} (t x : ByteArray) (n : Int) (hx : farA t n = x) (w : World) (q : Q W w) : Calls Tryd.prog 21 #[.string t, .int .i64 n] w fun e w' => e = .returned (.string x) ∧ Q W w' := by
  subst hx; exact rfar_any t n w q
theorem tag1_x {W : World} (word t x : ByteArray) (hx : tagS word (fun _ => t) 1 = x) (T : TypeId) (w : World) (b : Nat) (hb : w.heap.size = b) (q : Q W w) (hG : GL W) (hw : word.size ≤ 1000000) (ht : t.size ≤ 1000000) :
    Calls Tryd.prog 24 #[.string word, .slice (some ⟨b, 0, none⟩) 1 1] (w.alloc (.cells #[.string t] T)) fun e w' => e = .returned (.string x) ∧ Q W w' := by
  subst hx; subst hb; exact tag1 word t T w q hG hw ht
theorem anchor_x (g : Nat) (s x : ByteArray) (n : Nat) (hx : farS s n = x) (w : World) (h : CH w g s n) (hn : n ≤ 4096) : Calls Tryd.prog 11 #[.pointer (some ⟨g, 0, none⟩)] w fun e w' => e = .returned (.string x) ∧ w = w' := by
  subst hx; exact anchor_any g s n w h hn
theorem token_x (g : Nat) (s x : ByteArray) (n i : Nat) (hx : farS s (n - i) = x) (w : World) (h : CH w g s n) (hn : n ≤ 4096) (hi : i ≤ n) : Calls Tryd.prog 13 #[.pointer (some ⟨g, 0, none⟩), .int .i64 i] w fun e w' => e = .returned (.tuple #[.string x, .int .i64 0]) ∧ w = w' := by
  subst hx; exact token_ok g s n i w h hn hi
theorem rtoken_x {W : World} (sd0 x : ByteArray) (n i : Nat) (hx : farS (seedS sd0) (n - i) = x) (w : World) (q : Q W w) (hs : sd0.size ≤ 1000000) (hn : n ≤ 4096) (hi : i ≤ n) :
    Calls Tryd.prog 12 #[.string sd0, .int .i64 n, .int .i64 i] w fun e w' => e = .returned (.string x) ∧ Q W w' := by
  subst hx; exact rtoken_any sd0 n i w q hs hn hi
theorem value_x (n u v e : Int) (hv : valV n u = v) (he : valE n u = e) (w : World) (h0 : -9223372036854775808 ≤ n) (h1 : n ≤ 9223372036854775807) (u0 : 0 ≤ u) (u1 : u ≤ 18446744073709551615) :
    Calls Tryd.prog 18 #[.int .i64 n, .int .u64 u] w fun x w' => x = .returned (.tuple #[.int .u64 v, .int .i64 e]) ∧ w = w' := by
  subst hv; subst he; exact value_any n u w h0 h1 u0 u1
theorem rvalue_x (n u v e : Int) (hv : valV n u = v) (he : valE n u = e) (w : World) (h0 : -9223372036854775808 ≤ n) (h1 : n ≤ 9223372036854775807) (u0 : 0 ≤ u) (u1 : u ≤ 18446744073709551615) :
    Calls Tryd.prog 19 #[.int .i64 n, .int .u64 u] w fun x w' => x = .returned (.tuple #[.int .u64 v, .int .i64 e]) ∧ w = w' := by
  subst hv; subst he; exact rvalue_any n u w h0 h1 u0 u1

/-- What Count tells of tokens of one chain. -/
theorem cnt_chain (s a t : ByteArray) (hs : s.size = 16) (i d : Nat) (m : Nat) (hm : m ≤ 4096) (hd : d ≤ m) (ht : farS s i = t) (ha : farS s (i + d) = a) {r e : Int} (h : CntA a t m r e) :
    e = 0 ∧ 0 ≤ r ∧ r ≤ d ∧ CntR a t m r e := by
  have z : t.size = 16 := by rw [← ht]; exact farS_size s hs i
  have z' : a.size = 16 := by rw [← ha]; exact farS_size s hs _
  have hd' : farS t d = a := by rw [← ht, ← ha, farS_add]
  rcases h with ⟨_, _, _, _, h⟩ | ⟨hn, _, _⟩
  · rw [Int.toNat_natCast] at h
    have h' := h
    rcases h with ⟨k, k1, k2, k3, rfl, rfl⟩ | ⟨n1, _, _⟩
    · refine ⟨rfl, by omega, ?_, h'⟩
      by_cases hkd : d < k
      · exact absurd hd' (k3 d hkd)
      · omega
    · exact absurd hd' (n1 d hd)
  · exact absurd ⟨z', z, by omega, by omega⟩ hn
theorem fix_cnt (s : ByteArray) (hs : s.size = 16) {r e r' e' : Int} (h : CntA (farS s 3) (farS s 1) 3 r e) (h' : CntA (farS s 3) (farS s 1) 1 r' e') :
    e = 0 ∧ ((r = 2 ∧ e' = 4) ∨ (0 ≤ r ∧ r < 2 ∧ e' = 0)) := by
  obtain ⟨he, r0, r1, hr⟩ := cnt_chain s _ _ hs 1 2 3 (by omega) (by omega) rfl rfl h
  refine ⟨he, ?_⟩
  have z1 := farS_size s hs 1
  have z3 := farS_size s hs 3
  rcases h' with ⟨_, _, _, _, g⟩ | ⟨hn, _, _⟩
  · change CntR (farS s 3) (farS s 1) 1 r' e' at g
    rcases hr with ⟨k, k1, k2, k3, rfl, rfl⟩ | ⟨n1, _, e4⟩
    · by_cases hk : k = 2
      · left
        refine ⟨by omega, ?_⟩
        rcases g with ⟨l, l1, l2, _, _, _⟩ | ⟨_, _, g4⟩
        · exact absurd l2 (k3 l (by omega))
        · exact g4
      · right
        have := cnt_one g (.inl ⟨k, by omega, k2, k3, rfl, rfl⟩)
        exact ⟨by omega, by omega, this.2⟩
    · omega
  · exact absurd ⟨z3, z1, by decide, by decide⟩ hn

set_option maxHeartbeats 2000000 in
set_option maxRecDepth 100000 in
theorem fixed_any {W : World} (w : World) (q : Q W w) (hG : GL W) : Calls Tryd.prog 9 #[] w fun e w' => e = .returned (.bool true) ∧ Q W w' := by
  have HN := Lib.hid (new_ok ⟨#[115]⟩ 3 w q hG (by decide) (by decide) (by decide))
  have HZ := Lib.hid (seedS_size ⟨#[115]⟩)
  obtain ⟨s, hs⟩ : ∃ s, seedS ⟨#[115]⟩ = s := ⟨_, rfl⟩
  rw [hs] at HN HZ
  have HG := Lib.hid hG
  have ES : Hid (tagS sd (fun _ => ⟨#[115]⟩) 1 = s) := hs
  obtain ⟨a1, e1⟩ : ∃ a, farS s 1 = a := ⟨_, rfl⟩
  obtain ⟨a3, e3⟩ : ∃ a, farS s 3 = a := ⟨_, rfl⟩
  obtain ⟨y, ey⟩ : ∃ y, nextS ⟨#[116]⟩ = y := ⟨_, rfl⟩
  have EY : Hid (tagS pw (fun _ => ⟨#[116]⟩) 1 = y) := ey
  obtain ⟨r, e, hre⟩ := cntA_ex a3 a1 3
  obtain ⟨r', e', hre'⟩ := cntA_ex a3 a1 1
  have HC : Hid (e = 0 ∧ ((r = 2 ∧ e' = 4) ∨ (0 ≤ r ∧ r < 2 ∧ e' = 0))) := by
    subst e1; subst e3; exact fix_cnt s HZ.out hre hre'
  have Z1 : Hid (a1.size = 16) := by rw [← e1]; exact farS_size s HZ.out 1
  have E1 := Lib.hid e1
  have E3 := Lib.hid e3
  have EY' := Lib.hid ey
  have HR := Lib.hid hre
  have HR' := Lib.hid hre'
  clear hs e1 e3 ey hre hre' hG q
  go_enter Tryd.func9, Tryd.ntmps9
  go_wp2_with fail
  refine HN.out.mono ?_
  rintro x w1 ⟨g, rfl, hc1, q1⟩
  have H1 := Lib.hid (And.intro hc1 q1)
  have G1 := Lib.hid (HG.out.q q1)
  clear hc1 q1 HN
  as_aux_lemma =>
  go_wp2_with fail
  refine (new_bad ⟨#[115]⟩ 0 w1 (Q.refl w1) (by omega)).mono ?_
  rintro x w2 ⟨rfl, q2⟩
  have Q2 := Lib.hid q2
  clear q2
  go_wp2_with fail
  refine (token_x g s a1 3 2 E1.out w2 (H1.out.1.q Q2.out) (by decide) (by decide)).mono ?_
  rintro x _ ⟨rfl, rfl⟩
  go_wp2_with fail
  refine (token_x g s s 3 3 rfl w2 (H1.out.1.q Q2.out) (by decide) (by decide)).mono ?_
  rintro x _ ⟨rfl, rfl⟩
  go_wp2_with fail
  refine (token_bad g s 3 4 w2 (H1.out.1.q Q2.out) (by decide) (by decide)).mono ?_
  rintro x _ ⟨rfl, rfl⟩
  go_wp2_with fail
  refine (anchor_x g s a3 3 E3.out w2 (H1.out.1.q Q2.out) (by decide)).mono ?_
  rintro x _ ⟨rfl, rfl⟩
  go_wp2_with fail
  refine (count_x a3 a1 3 r e HR.out w2 Q2.out G1.out).mono ?_
  rintro x w3 ⟨rfl, q3⟩
  have Q3 := Lib.hid q3
  clear q3
  as_aux_lemma =>
  go_wp2_with fail
  refine (anchor_x g s a3 3 E3.out w3 (H1.out.1.q Q3.out) (by decide)).mono ?_
  rintro x _ ⟨rfl, rfl⟩
  go_wp2_with fail
  refine (count_x a3 a1 1 r' e' HR'.out w3 Q3.out G1.out).mono ?_
  rintro x w4 ⟨rfl, q4⟩
  have Q4 := Lib.hid q4
  clear q4
  go_wp2_with fail
  refine (count_x ⟨#[]⟩ a1 1 0 1 (.inr ⟨fun h => absurd h.1 (by decide), rfl, rfl⟩) w4 Q4.out G1.out).mono ?_
  rintro x w5 ⟨rfl, q5⟩
  have Q5 := Lib.hid q5
  clear q5
  go_wp2_with fail
  refine (value_x 3 5 15 0 (by decide) (by decide) w5 (by decide) (by decide) (by decide) (by decide)).mono ?_
  rintro x _ ⟨rfl, rfl⟩
  go_wp2_with fail
  refine (value_x (-1) 5 0 2 (by decide) (by decide) w5 (by decide) (by decide) (by decide) (by decide)).mono ?_
  rintro x _ ⟨rfl, rfl⟩
  go_wp2_with fail
  refine (value_x 4 9223372036854775808 0 2 (by decide) (by decide) w5 (by decide) (by decide) (by decide) (by decide)).mono ?_
  rintro x _ ⟨rfl, rfl⟩
  clear Q2 Q3 Q4 HR HR'
  obtain ⟨rfl, hc⟩ := HC.out
  clear HC
  rcases hc with ⟨rfl, rfl⟩ | ⟨r0, r1, rfl⟩
  all_goals (
    have rr := True.intro
    as_aux_lemma =>
    go_wp2_with fail
    refine (tag1_x sd ⟨#[115]⟩ s ES.out _ w5 _ rfl Q5.out G1.out (by decide) (by decide)).mono ?_
    rintro x w6 ⟨rfl, q6⟩
    have Q6 := Lib.hid q6
    clear q6 Q5
    go_wp2_with fail
    refine (next_x s a1 E1.out w6 Q6.out G1.out (by rw [HZ.out]; decide)).mono ?_
    rintro x w7 ⟨rfl, q7⟩
    have Q7 := Lib.hid q7
    clear q7 Q6
    as_aux_lemma =>
    go_wp2_with fail
    refine (next_x ⟨#[116]⟩ y EY'.out w7 Q7.out G1.out (by decide)).mono ?_
    rintro x w8 ⟨rfl, q8⟩
    have Q8 := Lib.hid q8
    clear q8 Q7
    go_wp2_with fail
    refine (tag1_x pw ⟨#[116]⟩ y EY.out _ w8 _ rfl Q8.out G1.out (by decide) (by decide)).mono ?_
    rintro x w9 ⟨rfl, q9⟩
    have Q9 := Lib.hid q9
    clear q9 Q8
    as_aux_lemma =>
    go_wp2_with fail
    refine (len_any g s 3 w9 (H1.out.1.q Q9.out) (by decide)).mono ?_
    rintro x _ ⟨rfl, rfl⟩
    go_wp2_with fail
    refine (far_x s a3 3 ((farA_yes s 3 HZ.out (by decide)).trans E3.out) w9 Q9.out G1.out).mono ?_
    rintro x w10 ⟨rfl, q10⟩
    have Q10 := Lib.hid q10
    clear q10 Q9
    go_wp2_with fail
    refine (anchor_x g s a3 3 E3.out w10 (H1.out.1.q Q10.out) (by decide)).mono ?_
    rintro x _ ⟨rfl, rfl⟩
    go_wp2_with fail
    refine (far_x ⟨#[116]⟩ ⟨#[]⟩ 1 (by unfold farA; rw [if_neg (fun h => absurd h.1 (by decide))]) w10 Q10.out G1.out).mono ?_
    rintro x w11 ⟨rfl, q11⟩
    go_wp2_with fail
    go_ret
    exact ⟨rfl, H1.out.2.trans q11⟩)
end Go.Proofs.YtnjkikdcalfjgaaDoor.Pay
