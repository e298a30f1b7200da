/-
  The contracts of num's calls as the laws use them: whatever was there is as it was.
-/
import Derived.Test.YtnihgcmlpgfaeaaFixed
import Derived.Lib.SmallJoins
import Derived.ProofKit
import Derived.OpenShut
import Derived.ShutString
namespace Go.Proofs.Ytnihgcmlpgfaeaa.Num
open Go.RowKit
set_option linter.unusedVariables false

/-- All that was there in W is there in w, as it was. -/
def Q (W w : World) : Prop := Below W.heap.size W w
theorem Q.refl (w : World) : Q w w := Below.refl _ _
theorem Q.trans {a b c : World} (h : Q a b) (k : Q b c) : Q a c := Below.trans h (Below.mono k h.size)
theorem Q.drewN {a b : World} (h : Q a b) (n : Nat) : Q a (b.drewN n) := below_drewN h n
theorem Q.drawn {a b c : World} (h : Q a b) (k : Drawn b c) : Q a c := by obtain ⟨n, rfl⟩ := k; exact h.drewN n
theorem Q.cell {a b : World} (h : Q a b) {p : Addr} (hp : p.block < a.heap.size) : b.cell? p = a.cell? p := Below.cell h hp

theorem muldiv_q {W : World} (a b c : Int) (w : World) (q : Q W w) (ha : 0 ≤ a) (ha' : a ≤ 18446744073709551615) (hb : 0 ≤ b) (hb' : b ≤ 18446744073709551615) (hc : 0 ≤ c) (hc' : c ≤ 18446744073709551615) :
    Calls Try.prog 17 #[.int .u64 a, .int .u64 b, .int .u64 c] w fun e w' => e = .returned (.tuple #[.int .u64 (mdV a b c), .int .i64 (mdE a b c)]) ∧ Q W w' :=
  (muldiv_any a b c w ha ha' hb hb' hc hc').mono fun _ _ ⟨he, hd⟩ => ⟨he, q.drawn hd⟩
theorem rem_q {W : World} (a b c : Int) (w : World) (q : Q W w) (ha : 0 ≤ a) (ha' : a ≤ 18446744073709551615) (hb : 0 ≤ b) (hb' : b ≤ 18446744073709551615) (hc : 0 ≤ c) (hc' : c ≤ 18446744073709551615) :
    Calls Try.prog 19 #[.int .u64 a, .int .u64 b, .int .u64 c] w fun e w' => e = .returned (.tuple #[.int .u64 (remV a b c), .int .i64 (remE a b c)]) ∧ Q W w' :=
  (rem_any a b c w ha ha' hb hb' hc hc').mono fun _ _ ⟨he, hd⟩ => ⟨he, q.drawn hd⟩
theorem put_q {W : World} (n : Int) (w : World) (q : Q W w) (h0 : 0 ≤ n) (h1 : n ≤ 18446744073709551615) :
    Calls Try.prog 28 #[.int .u64 n] w fun e w' => e = .returned (.string (putS n)) ∧ Q W w' :=
  (put_any n w h0 h1).mono fun _ _ ⟨he, hd⟩ => ⟨he, q.trans hd⟩
theorem fixed_q {W : World} (w : World) (q : Q W w) :
    Calls Try.prog 21 #[] w fun e w' => e = .returned (.bool true) ∧ Q W w' :=
  (fixed_any w).mono fun _ _ ⟨he, hd⟩ => ⟨he, q.trans hd⟩

/-- What a walk is told of a slice of integers that came in: it is nil; or it leads to a row of 'cap' cells, the numbers 'zs' (the first 'len' are its elements), each fitting its kind. -/
def IsRow (k : IntKind) (w : World) (a : Option Addr) (len cap : Nat) (zs : List Int) : Prop :=
  (a = none ∧ len = 0 ∧ cap = 0 ∧ zs = []) ∨
  ∃ x, a = some x ∧ len ≤ cap ∧ cap ≤ maxLen ∧ zs.length = cap ∧ (∀ i, i < zs.length → w.cell? (x.add i) = some (.int k (zs.getD i 0))) ∧ ∀ n ∈ zs, (Lit.int k n).wf = true
theorem row_cases {W : World} {a : Option Addr} {len cap : Nat} {z : List Int} (h : IsRow .u64 W a len cap z) :
    (len = 0) ∨ (0 < len ∧ ∃ b off, a = some ⟨b, off, none⟩ ∧ len ≤ cap ∧ cap ≤ maxLen ∧ b < W.heap.size ∧ Row W b off len (fun i => z.getD i 0) ∧ (∀ i, 0 ≤ z.getD i 0) ∧ ∀ i, z.getD i 0 ≤ 18446744073709551615) := by
  rcases h with ⟨_, h, _, _⟩ | ⟨x, rfl, hl, hm, hz, hc, hw⟩
  · exact .inl h
  · by_cases h0 : len = 0
    · exact .inl h0
    · refine .inr ⟨by omega, ?_⟩
      obtain ⟨b, off, rfl, hc'⟩ := ints_at hc (by omega)
      have hb := block_lt_of_cell (hc' 0 (by omega))
      have bd : ∀ i, 0 ≤ z.getD i 0 ∧ z.getD i 0 ≤ 18446744073709551615 := by
        intro i
        rw [List.getD_eq_getElem?_getD]
        by_cases hi : i < z.length
        · rw [List.getElem?_eq_getElem hi]
          exact bounds_u64 (hw _ (List.getElem_mem hi))
        · rw [List.getElem?_eq_none (by omega)]
          simp
      exact ⟨b, off, rfl, hl, hm, hb, fun i hi => hc' i (by omega), fun i => (bd i).1, fun i => (bd i).2⟩

/-! ### Bytes in order -/
def val : List Int → Int
  | [] => 0
  | d :: r => d * ((256 ^ r.length : Nat) : Int) + val r
def Digits (l : List Int) : Prop := ∀ d ∈ l, 0 ≤ d ∧ d ≤ 255
theorem val_bd : ∀ l, Digits l → 0 ≤ val l ∧ val l < ((256 ^ l.length : Nat) : Int)
  | [], _ => by simp [val]
  | d :: r, h => by
    have ⟨i0, i1⟩ := val_bd r fun x hx => h x (by simp [hx])
    have ⟨d0, d1⟩ := h d (by simp)
    have hp : (0 : Int) < ((256 ^ r.length : Nat) : Int) := by have := Nat.pow_pos (n := r.length) (show 0 < 256 by decide); omega
    simp only [val, List.length_cons, Nat.pow_succ]
    have m0 := Int.mul_nonneg d0 (Int.le_of_lt hp)
    have m1 := Int.mul_le_mul_of_nonneg_right d1 (Int.le_of_lt hp)
    omega
theorem u8_lt (a b : Int) (ha : 0 ≤ a ∧ a ≤ 255) (hb : 0 ≤ b ∧ b ≤ 255) : (UInt8.ofNat a.toNat < UInt8.ofNat b.toNat) ↔ a < b := by
  rw [UInt8.lt_iff_toNat_lt]
  simp only [UInt8.toNat_ofNat']
  omega
theorem u8_eq (a b : Int) (ha : 0 ≤ a ∧ a ≤ 255) (hb : 0 ≤ b ∧ b ≤ 255) : (UInt8.ofNat a.toNat = UInt8.ofNat b.toNat) ↔ a = b := by
  rw [← UInt8.toNat_inj]
  simp only [UInt8.toNat_ofNat']
  omega
theorem less_val : ∀ (l m : List Int), Digits l → Digits m → l.length = m.length →
    (Op.bytesLess (l.map fun n => UInt8.ofNat n.toNat) (m.map fun n => UInt8.ofNat n.toNat) = true ↔ val l < val m)
  | [], [], _, _, _ => by simp [Op.bytesLess, val]
  | [], _ :: _, _, _, h => by simp at h
  | _ :: _, [], _, _, h => by simp at h
  | a :: l, b :: m, hl, hm, h => by
    have hlen : l.length = m.length := by simpa using h
    have ih := less_val l m (fun x hx => hl x (by simp [hx])) (fun x hx => hm x (by simp [hx])) hlen
    have ha := hl a (by simp)
    have hb := hm b (by simp)
    obtain ⟨v0, v1⟩ := val_bd l fun x hx => hl x (by simp [hx])
    obtain ⟨v2, v3⟩ := val_bd m fun x hx => hm x (by simp [hx])
    simp only [List.map_cons, Op.bytesLess, val, Bool.or_eq_true, Bool.and_eq_true, decide_eq_true_eq, beq_iff_eq, u8_lt a b ha hb, u8_eq a b ha hb, ih]
    rw [hlen] at v1 ⊢
    have hp : (0 : Int) < ((256 ^ m.length : Nat) : Int) := by omega
    generalize ((256 ^ m.length : Nat) : Int) = p at *
    constructor
    · rintro (h | ⟨rfl, h⟩)
      · have := Int.mul_le_mul_of_nonneg_right (show a + 1 ≤ b by omega) (Int.le_of_lt hp)
        rw [Int.add_mul, Int.one_mul] at this
        omega
      · omega
    · intro h
      rcases Int.lt_trichotomy a b with c | c | c
      · exact .inl c
      · subst c; exact .inr ⟨rfl, by omega⟩
      · exfalso
        have := Int.mul_le_mul_of_nonneg_right (show b + 1 ≤ a by omega) (Int.le_of_lt hp)
        rw [Int.add_mul, Int.one_mul] at this
        omega
theorem putL_digits (n : Int) (h0 : 0 ≤ n) (h1 : n ≤ 18446744073709551615) : Digits (putL n) := by
  intro d hd
  simp only [putL, List.mem_cons, List.not_mem_nil, or_false] at hd
  rcases hd with h | h | h | h | h | h | h | h <;> subst h <;> omega
theorem putL_val (n : Int) (h0 : 0 ≤ n) (h1 : n ≤ 18446744073709551615) : val (putL n) = n := by
  simp only [putL, val, List.length_cons, List.length_nil]
  omega
theorem putS_less (a b : Int) (ha : 0 ≤ a) (ha' : a ≤ 18446744073709551615) (hb : 0 ≤ b) (hb' : b ≤ 18446744073709551615) :
    Op.bytesLess (putS a).toList (putS b).toList = decide (a < b) := by
  have h := less_val (putL a) (putL b) (putL_digits a ha ha') (putL_digits b hb hb') rfl
  rw [putL_val a ha ha', putL_val b hb hb'] at h
  rw [ByteArray.toList_eq, ByteArray.toList_eq]
  show Op.bytesLess ((putL a).map fun n => UInt8.ofNat n.toNat) ((putL b).map fun n => UInt8.ofNat n.toNat) = _
  rw [Bool.eq_iff_iff, h]
  simp
theorem putS_size (n : Int) : (putS n).size = 8 := by unfold putS; rw [strOfNums_size]; rfl
end Go.Proofs.Ytnihgcmlpgfaeaa.Num
