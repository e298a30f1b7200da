/-
  The sum of numbers that lie in a slice: the walk of num.Sum.
  Layer 9: the program's ID, Name, Whole.
  Layer 9: the program's Whole.
  Layer 9: the statements' CutOut.
  Layer 9: records, as they come in.
  Layer 9: sums in any order, and part by part, as plain numbers.
  Layer 9: append of a record to records of one's own, with where the new row lies.
  A region whose order is drawn, in which every operation has one answer whatever came ahead of it: one step for each operation, whatever the order.
  Layer 9: the calls whose answers the document fixes.
-/
import Derived.Test.YtjiepemapffgjaaGreatDoorHKit
import Derived.Test.YtjiepemapffgjaaGreatDoorHCoiA
import Derived.Test.YtjiepemapffgjaaGreatDoorHCoiB
import Derived.Deep.Slices
import Derived.Deep.Fields
import Derived.ChangeSame
import Derived.Maps.AppendAt
import Derived.Deep.RegionHeld
import Derived.Deep.MidRow
import Derived.Test.YtjiepemapffgjaaGreatDoorHCoiC
set_option maxRecDepth 100000
namespace Go.Proofs.YtjiepemapffgjaaGreatDoor.Num
open Go.RowKit
open Mem
set_option linter.unusedVariables false

/-- The sum of the first k. -/
def SU (f : Nat → Int) : Nat → Int
  | 0 => 0
  | k + 1 => SU f k + f k
def sumV (f : Nat → Int) (n : Nat) : Int := if SU f n ≤ 18446744073709551615 then SU f n else 0
def sumE (f : Nat → Int) (n : Nat) : Int := if SU f n ≤ 18446744073709551615 then 0 else 2
theorem SU_nonneg (f : Nat → Int) (h : ∀ i, 0 ≤ f i) : ∀ k, 0 ≤ SU f k
  | 0 => by simp [SU]
  | k + 1 => by have := SU_nonneg f h k; have := h k; simp only [SU]; omega
theorem SU_mono (f : Nat → Int) (h : ∀ i, 0 ≤ f i) (k : Nat) : ∀ d, SU f k ≤ SU f (k + d)
  | 0 => Int.le_refl _
  | d + 1 => by have := SU_mono f h k d; have := h (k + d); show _ ≤ SU f (k + d) + f (k + d); omega

/-- A slice's numbers: cell i behind its address holds number i. -/
def RowU (w : World) (b off len : Nat) (f : Nat → Int) : Prop := ∀ i, i < len → w.cell? ⟨b, off + i, none⟩ = some (.int .u64 (f i))

set_option maxHeartbeats 1000000 in
theorem sum_row (b off len cap : Nat) (f : Nat → Int) (w : World) (hl : len ≤ maxLen) (hr : RowU w b off len f) (h0 : ∀ i, 0 ≤ f i) (h1 : ∀ i, f i ≤ 18446744073709551615) :
    Calls Tryz.prog 50 #[.slice (some ⟨b, off, none⟩) len cap] w fun e w' => e = .returned (.tuple #[.int .u64 (sumV f len), .int .i64 (sumE f len)]) ∧ w = w' := by
  unfold maxLen at hl
  unfold sumV sumE
  have H0 := Lib.hid h0
  have H1 := Lib.hid h1
  have HR := Lib.hid hr
  clear h0 h1 hr
  obtain ⟨ans, ha⟩ : ∃ p : Int × Int, ((if SU f len ≤ 18446744073709551615 then SU f len else 0), (if SU f len ≤ 18446744073709551615 then (0 : Int) else 2)) = p := ⟨_, rfl⟩
  obtain ⟨rv, re⟩ := ans
  have HA := Lib.hid ha
  simp only [Prod.mk.injEq] at ha
  rw [ha.1, ha.2]
  clear ha
  go_enter Tryz.func50, Tryz.ntmps50
  go_wp2_with fail
  go_loop [4, 11] (fun a b => ∃ k : Nat, k ≤ len ∧ b = .int .i64 k ∧ a = .int .u64 (SU f k) ∧ SU f k ≤ 18446744073709551615) (fun _ b => len - (intOf b).toNat)
  case atStart => exact ⟨0, by omega, rfl, rfl, by simp [SU]⟩
  case round =>
    obtain ⟨k, hk, rfl, rfl, hb⟩ := hrel
    have s0 := SU_nonneg f H0.out k
    by_cases hlt : k < len
    · have hc := HR.out k hlt
      have f0 := H0.out k
      have f1 := H1.out k
      by_cases ho : SU f k + f k ≤ 18446744073709551615
      · have hV : addV (SU f k) (f k) = SU f (k + 1) := by unfold addV; rw [if_pos ho]; rfl
        have hE : addE (SU f k) (f k) = 0 := by unfold addE; rw [if_pos ho]
        have HB : Hid (SU f (k + 1) ≤ 18446744073709551615) := ho
        clear ho
        go_wp2_with (go_at_call 113; refine (add_any _ _ _ s0 hb f0 f1).mono ?_; rintro e w' ⟨rfl, rfl⟩)
        go_round
        case rel => exact ⟨k + 1, by omega, by go_num, rfl, HB.out⟩
        case measure => simp [intOf]; omega
      · have hE : addE (SU f k) (f k) = 2 := by unfold addE; rw [if_neg ho]
        have ov : ¬ SU f len ≤ 18446744073709551615 := by
          have m := SU_mono f H0.out (k + 1) (len - (k + 1))
          rw [show k + 1 + (len - (k + 1)) = len by omega] at m
          have : SU f (k + 1) = SU f k + f k := rfl
          omega
        have HF : Hid (rv = 0 ∧ re = 2) := by
          have h := HA.out
          rw [if_neg ov, if_neg ov] at h
          simp only [Prod.mk.injEq] at h
          exact ⟨h.1.symm, h.2.symm⟩
        clear ho ov
        go_wp2_with (go_at_call 113; refine (add_any _ _ _ s0 hb f0 f1).mono ?_; rintro e w' ⟨rfl, rfl⟩)
        go_ret2
        exact ⟨ret2 HF.out.1.symm HF.out.2.symm, rfl⟩
    · obtain rfl : k = len := by omega
      have HF : Hid (rv = SU f k ∧ re = 0) := by
        have h := HA.out
        rw [if_pos hb, if_pos hb] at h
        simp only [Prod.mk.injEq] at h
        exact ⟨h.1.symm, h.2.symm⟩
      go_wp2_with fail
      go_ret2
      exact ⟨ret2 HF.out.1.symm HF.out.2.symm, rfl⟩

theorem sum_none (a : Option Addr) (cap : Nat) (w : World) :
    Calls Tryz.prog 50 #[.slice a 0 cap] w fun e w' => e = .returned (.tuple #[.int .u64 0, .int .i64 0]) ∧ w = w' := by
  go_enter Tryz.func50, Tryz.ntmps50
  go_wp2
  go_rounds 1
  go_ret2
  exact ⟨rfl, rfl⟩
end Go.Proofs.YtjiepemapffgjaaGreatDoor.Num

namespace Go.Proofs.YtjiepemapffgjaaGreatDoor.Coi
open Go.RowKit
open Mem Num Cod Sh
set_option linter.unusedVariables false

def wTx : ByteArray := ⟨#[116, 120]⟩
def wLock : ByteArray := ⟨#[108, 111, 99, 107]⟩
def duo (a b : ByteArray) (i : Nat) : ByteArray := if i = 0 then a else b
theorem duo_size (a b : ByteArray) (n : Nat) (ha : a.size ≤ n) (hb : b.size ≤ n) (i : Nat) : (duo a b i).size ≤ n := by unfold duo; split <;> assumption
theorem tagS_size (word : ByteArray) (ps : Nat → ByteArray) (n : Nat) : (tagS word ps n).size = 16 := shortS_size _
theorem row1 (w : World) (t : ByteArray) (T : TypeId) : RowS (w.alloc (.cells #[.string t] T)) w.heap.size 0 1 (fun _ => t) := by
  intro i hi
  rw [World.cell?_alloc_at _ _ _ _ rfl, Nat.zero_add]
  obtain rfl : i = 0 := by omega
  rfl
theorem row2 (w : World) (a b : ByteArray) (T : TypeId) : RowS (w.alloc (.cells #[.string a, .string b] T)) w.heap.size 0 2 (duo a b) := by
  intro i hi
  rw [World.cell?_alloc_at _ _ _ _ rfl, Nat.zero_add]
  match i, hi with
  | 0, _ => rfl
  | 1, _ => rfl
  | n + 2, h => omega
theorem tag1_x {W : World} (word t x : ByteArray) (hx : tagS word (fun _ => t) 1 = x) (T : TypeId) (w : World) (b : Nat) (hb : w.heap.size = b) (q : Q W w) (hG : GL W) (hw : word.size ≤ 1000000) (ht : t.size ≤ 1000000) :
    Calls Tryz.prog 78 #[.string word, .slice (some ⟨b, 0, none⟩) 1 1] (w.alloc (.cells #[.string t] T)) fun e w' => e = .returned (.string x) ∧ Q W w' := by
  subst hb; subst hx; exact tag_any word w.heap.size 0 1 1 (fun _ => t) _ (q.alloc _) hG (row1 w t T) (fun _ => by simp) hw (by omega) (fun _ => ht)
theorem rtag1_x {W : World} (word t x : ByteArray) (hx : tagS word (fun _ => t) 1 = x) (T : TypeId) (w : World) (b : Nat) (hb : w.heap.size = b) (q : Q W w) (hw : word.size ≤ 1000000) (ht : t.size ≤ 1000000) :
    Calls Tryz.prog 79 #[.string word, .slice (some ⟨b, 0, none⟩) 1 1] (w.alloc (.cells #[.string t] T)) fun e w' => e = .returned (.string x) ∧ Q W w' := by
  subst hb; subst hx; exact rtag_any word w.heap.size 0 1 1 (fun _ => t) _ (q.alloc _) (row1 w t T) (fun _ => by simp) hw (by omega) (fun _ => ht)
theorem tag2_x {W : World} (word a c x : ByteArray) (hx : tagS word (duo a c) 2 = x) (T : TypeId) (w : World) (b : Nat) (hb : w.heap.size = b) (q : Q W w) (hG : GL W) (hw : word.size ≤ 1000000) (ha : a.size ≤ 1000000) (hc : c.size ≤ 1000000) :
    Calls Tryz.prog 78 #[.string word, .slice (some ⟨b, 0, none⟩) 2 2] (w.alloc (.cells #[.string a, .string c] T)) fun e w' => e = .returned (.string x) ∧ Q W w' := by
  subst hb; subst hx; exact tag_any word w.heap.size 0 2 2 (duo a c) _ (q.alloc _) hG (row2 w a c T) (fun _ => by simp) hw (by omega) (duo_size a c _ ha hc)
theorem rtag2_x {W : World} (word a c x : ByteArray) (hx : tagS word (duo a c) 2 = x) (T : TypeId) (w : World) (b : Nat) (hb : w.heap.size = b) (q : Q W w) (hw : word.size ≤ 1000000) (ha : a.size ≤ 1000000) (hc : c.size ≤ 1000000) :
    Calls Tryz.prog 79 #[.string word, .slice (some ⟨b, 0, none⟩) 2 2] (w.alloc (.cells #[.string a, .string c] T)) fun e w' => e = .returned (.string x) ∧ Q W w' := by
  subst hb; subst hx; exact rtag_any word w.heap.size 0 2 2 (duo a c) _ (q.alloc _) (row2 w a c T) (fun _ => by simp) hw (by omega) (duo_size a c _ ha hc)
def idS (t : TX) : ByteArray := tagS wTx (fun _ => coreS t) 1
theorem idS_size (t : TX) : (idS t).size = 16 := tagS_size _ _ _
def nmS (tx : ByteArray) (o : Int) : ByteArray := tagS wLock (duo tx (strOfNums [IntKind.u8.wrap o])) 2
set_option maxHeartbeats 4000000 in
set_option maxRecDepth 100000 in
theorem id_x (t : TX) (aI aO aW : Option Addr) (cI cO cW : Nat) (w : World) (hG : GL w) (h : TM w aI cI aO aW t) (hk : t.ok) :
    Calls Tryz.prog 21 #[txV t aI cI aO cO aW cW] w (Enc (RightT t) (idS t) w) := by
  have HR : Hid (∀ o, Calls Tryz.prog 19 #[txV t aI cI aO cO aW cW] (w.alloc o) (Enc (RightT t) (coreS t) (w.alloc o))) := fun o => core_x t aI aO aW cI cO cW _ (h.q ((Q.refl w).alloc o)) hk
  have HQ : Hid (∀ o, Q w (w.alloc o)) := fun o => (Q.refl w).alloc o
  clear h hk
  go_enter Tryz.func21, Tryz.ntmps21
  go_wp2_with fail
  refine (HR.out _).mono ?_
  rintro e w1 ⟨s, rfl, hz, q1⟩
  have Q1 := Lib.hid ((HQ.out _).trans q1)
  clear q1 HR HQ
  rcases hz with ⟨Z, hs⟩ | ⟨Z, rfl⟩
  · have Z1 := Lib.hid Z
    have hsz := coreS_size t Z
    have s0 : s.toList ≠ [] := by rw [ne_eq, tl_nil, hs]; have := coreS_pos t; omega
    have s1 : s.toList.isEmpty = false := by simpa using s0
    have HS : Hid (tagS wTx (fun _ => s) 1 = idS t) := by show _ = _; rw [hs]; rfl
    have zs : s.size ≤ 1000000 := by rw [hs]; omega
    clear Z hs hsz
    have C := Lib.hid fun T => tag1_x wTx s (idS t) HS.out T w1 _ rfl Q1.out hG (by decide) zs
    go_wp2_with fail
    refine (C.out _).mono ?_
    rintro e w2 ⟨rfl, q2⟩
    have Q2 := Lib.hid q2
    clear q2
    go_wp2_with fail
    go_ret
    exact Enc.yes Z1.out rfl Q2.out
  · have Z1 := Lib.hid Z
    clear Z
    go_wp2_with fail
    go_ret
    exact Enc.no Z1.out Q1.out
set_option maxHeartbeats 4000000 in
set_option maxRecDepth 100000 in
theorem name_x (tx : ByteArray) (o : Int) (w : World) (hG : GL w) (ht : tx.size ≤ 1000000) :
    Calls Tryz.prog 26 #[.agg #[.string tx, .int .i64 o]] w fun e w' => e = .returned (.string (nmS tx o)) ∧ Q w w' := by
  have HQ : Hid (∀ o, Q w (w.alloc o)) := fun o => (Q.refl w).alloc o
  obtain ⟨y, hy⟩ : ∃ y, IntKind.u8.wrap o = y := ⟨_, rfl⟩
  obtain ⟨b, hb⟩ : ∃ b, strOfNums [y] = b := ⟨_, rfl⟩
  have HS : Hid (tagS wLock (duo tx b) 2 = nmS tx o) := by show _ = _; unfold nmS; rw [hy, hb]
  have zb : b.size ≤ 1000000 := by rw [← hb, one_size]; omega
  have cv := Num.conv1 (w.alloc (.cells #[.string tx, .int .i64 o] 31)) y
  rw [hb, show (w.alloc (.cells #[.string tx, .int .i64 o] 31)).heap.size = w.heap.size + 1 by simp] at cv
  have C := Lib.hid fun (T : TypeId) (W1 : World) (bl : Nat) (hbl : W1.heap.size = bl) (q : Q w W1) => tag2_x wLock tx b (nmS tx o) HS.out T W1 bl hbl q hG (by decide) ht zb
  clear hb
  go_enter Tryz.func26, Tryz.ntmps26
  go_wp2_with fail
  refine (C.out _ _ _ (by simp) ((HQ.out _).alloc _)).mono ?_
  rintro e w2 ⟨rfl, q2⟩
  have Q2 := Lib.hid q2
  clear q2
  go_wp2_with fail
  go_ret
  exact ⟨rfl, Q2.out⟩
end Go.Proofs.YtjiepemapffgjaaGreatDoor.Coi

namespace Go.Proofs.YtjiepemapffgjaaGreatDoor.Coi
open Go.RowKit
open Mem Num Cod Sh
set_option linter.unusedVariables false

theorem info_u64 : (Tryz.prog.info? 24).map (fun i => (i.zero, i.size, i.bytes)) = some (some (.int .u64 0), 1, 8) := by kernel_rfl
def UC (x : Int) : List Value := [.int .u64 x]
def amt (f : Nat → OU) (i : Nat) : Int := (f i).amount
theorem sumV_in (f : Nat → Int) (h : ∀ i, 0 ≤ f i) (n : Nat) : U64 (sumV f n) := by
  unfold sumV; split
  · exact ⟨SU_nonneg f h n, ‹_›⟩
  · exact ⟨by decide, by decide⟩
set_option maxHeartbeats 4000000 in
set_option maxRecDepth 100000 in
theorem whole_x (a : Option Addr) (n cap : Nat) (f : Nat → OU) (w : World) (h : SL OU.cells 9 w a n f) (hn : n ≤ 100) (h0 : ∀ i, U64 (amt f i)) :
    Calls Tryz.prog 9 #[.slice a n cap] w fun e w' => e = .returned (.tuple #[.int .u64 (sumV (amt f) n), .int .i64 (sumE (amt f) n)]) ∧ Q w w' := by
  have HT := Lib.hid h
  have H0 := Lib.hid h0
  clear h h0
  obtain ⟨i0, hi0, hz0, hz1, hz2⟩ := info_of info_u64
  have O0 := Lib.hid (OR.nil 24 UC 1 w w.heap.size (amt f))
  go_enter Tryz.func9, Tryz.ntmps9
  go_wp2_with fail
  go_loopw [4, 6, 9] (fun v z i wr => ∃ (k : Nat) (b : Option Addr) (c : Nat), k ≤ n ∧ i = .int .i64 k ∧ v = .slice b k c ∧ Hid (OR 24 UC 1 wr w.heap.size b k c (amt f)) ∧ Hid (Q w wr)) (fun _ _ i _ => n - (intOf i).toNat)
  case atStart => exact ⟨0, none, 0, by omega, rfl, rfl, O0, Lib.hid (Q.refl w)⟩
  case round =>
    obtain ⟨k, b, c, hk, rfl, rfl, O, QR⟩ := hrel
    clear O0
    have k0 : (0 : Int) ≤ (k : Int) := by omega
    by_cases hlt : k < n
    · have k1 : (k : Int) < (n : Int) := by omega
      obtain ⟨bb, off, rfl, hrow⟩ := (HT.out.q QR.out).some_ (by omega)
      obtain ⟨c0, c1, c2, c3, c4, c5, c6, c7, c8⟩ := out_at (hrow k hlt)
      clear hrow
      obtain ⟨x, hx⟩ : ∃ x, f k = x := ⟨_, rfl⟩
      rw [hx] at c0 c1 c2 c3 c4 c5 c6 c7 c8
      obtain ⟨am, ham⟩ : ∃ m, x.amount = m := ⟨_, rfl⟩
      have HE : Hid (UC (amt f k) = [.int .u64 am]) := by show _ = _; unfold UC amt; rw [hx, ham]
      rw [ham] at c1
      clear hx
      have hsz := QR.out.size
      go_wp2_with (at_builtin; refine halt ?_)
      clear c0 c1 c2 c3 c4 c5 c6 c7 c8
      refine Lib.hid (wpList_append_own _ rfl (.tmp 13) (.tmp 16) 94 rfl w.heap.size 24 i0 _ 1 8 Tryz.underlying94 hi0 hz0 hz1 hz2 rfl (by decide) _ _ _ rfl ((O.out.q ((Q.refl wr).alloc _)).q ((Q.refl _).alloc _)) ⟨wr.heap.size + 1, 0, none⟩ 1 1 [.int .u64 am] rfl rfl ?news (by intro v hv; simp at hv; subst hv; rfl) (by unfold maxLen; omega) (by omega) (by simp; omega) ?_)
      case news =>
        intro j u hu
        rw [Go.WideShapes.add_plain, Nat.zero_add, World.cell?_alloc_at _ _ _ _ (by simp)]
        simpa using hu
      intro v3 w3 hown3 hgrow3 _hn
      have Q3 := Lib.hid (OR.more (w0 := w) ((O.out.q ((Q.refl wr).alloc _)).q ((Q.refl _).alloc _)) hgrow3 ((QR.out.alloc _).alloc _) (Nat.le_refl _))
      rw [← HE.out] at hown3
      obtain ⟨g3, cap3, rfl, o3⟩ := OR.next hown3
      have O3 := Lib.hid o3
      clear hgrow3 _hn hown3 o3 O QR
      go_wp2_with fail
      go_roundw
      case rel => exact ⟨k + 1, _, cap3, by omega, by go_num, rfl, O3, Q3⟩
      case measure => simp [intOf]; omega
    · obtain rfl : k = n := by omega
      have td : decide (k < k) = false := by simp
      have HC : Hid (Calls Tryz.prog 50 #[.slice b k c] wr fun e w' => e = .returned (.tuple #[.int .u64 (sumV (amt f) k), .int .i64 (sumE (amt f) k)]) ∧ wr = w') := by
        show Calls _ _ _ _ _
        rcases O.out.shape with ⟨rfl, h1, h2⟩ | ⟨g, rfl, h2, h3, h4, h5⟩
        · subst h1; subst h2
          have e1 : sumV (amt f) 0 = 0 := by unfold sumV; rw [if_pos (by show (0 : Int) ≤ _; omega)]; rfl
          have e2 : sumE (amt f) 0 = 0 := by unfold sumE; rw [if_pos (by show (0 : Int) ≤ _; omega)]
          rw [e1, e2]
          exact sum_none none 0 wr
        · refine sum_row g 0 k c (amt f) wr (by unfold maxLen; omega) (fun i hi => ?_) (fun i => (H0.out i).1) (fun i => (H0.out i).2)
          have := World.ownsRow.cells O.out (g := g) rfl _ _ (rc_get (C := UC) (k := 1) (fun x => rfl) i 0 (.int .u64 (amt f i)) rfl k hi)
          rw [Go.WideShapes.add_plain] at this
          simpa using this
      clear O
      go_wp2_with fail
      refine HC.out.mono ?_
      rintro e _ ⟨rfl, rfl⟩
      go_wp2_with fail
      go_ret2
      exact ⟨rfl, QR.out⟩
end Go.Proofs.YtjiepemapffgjaaGreatDoor.Coi

namespace Go.Proofs.YtjiepemapffgjaaGreatDoor.Coi
open Go.RowKit
open Mem Num Cod
set_option linter.unusedVariables false

/-- A text of at most so many bytes. -/
def cutS (s : ByteArray) (m : Int) : ByteArray := s.extract 0 (min (s.size : Int) m).toNat
theorem cutS_le (s : ByteArray) (m : Int) (k : Nat) (h : m = k) : (cutS s m).size ≤ k := by subst h; unfold cutS; rw [ByteArray.size_extract]; omega
def cutO (x : OU) : OU := ⟨x.kind, x.amount, cutS x.key 40, cutS x.gate 40, x.expiry, cutS x.anchor 40, x.unit, x.tokens, cutS x.of_ 40⟩
set_option maxHeartbeats 4000000 in
set_option maxRecDepth 100000 in
theorem cutout_x (x : OU) (w : World) (h1 : x.key.size ≤ maxLen) (h2 : x.gate.size ≤ maxLen) (h3 : x.anchor.size ≤ maxLen) (h4 : x.of_.size ≤ maxLen) :
    Calls Tryz.prog 49 #[ouV x] w fun e w' => e = .returned (ouV (cutO x)) ∧ Q w w' := by
  obtain ⟨kind, amount, key, gate, expiry, anchor, unit, tokens, of_⟩ := x
  dsimp only at *
  unfold maxLen at h1 h2 h3 h4
  obtain ⟨k2, e1⟩ : ∃ z, key.extract 0 (min (key.size : Int) 40).toNat = z := ⟨_, rfl⟩
  obtain ⟨g2, e2⟩ : ∃ z, gate.extract 0 (min (gate.size : Int) 40).toNat = z := ⟨_, rfl⟩
  obtain ⟨a2, e3⟩ : ∃ z, anchor.extract 0 (min (anchor.size : Int) 40).toNat = z := ⟨_, rfl⟩
  obtain ⟨o2, e4⟩ : ∃ z, of_.extract 0 (min (of_.size : Int) 40).toNat = z := ⟨_, rfl⟩
  have HE : Hid (cutO ⟨kind, amount, key, gate, expiry, anchor, unit, tokens, of_⟩ = ⟨kind, amount, k2, g2, expiry, a2, unit, tokens, o2⟩) := by show _ = _; rw [← e1, ← e2, ← e3, ← e4]; rfl
  go_enter Tryz.func49, Tryz.ntmps49
  go_wp2_with (with_reducible (show wpList _ _ _ (⟨_, Op.load 47 _, _, _, _, _⟩ :: _) _ _); refine halt ?_)
  have HQ : Hid (Q w ((w.alloc (.cells #[.int .i64 kind, .int .u64 amount, .string k2, .string g2, .int .i64 expiry, .string a2, .int .u64 unit, .int .i64 tokens, .string o2] 47)).alloc (.cells #[.int .i64 0, .int .u64 0, .string ⟨#[]⟩, .string ⟨#[]⟩, .int .i64 0, .string ⟨#[]⟩, .int .u64 0, .int .i64 0, .string ⟨#[]⟩] 47))) := ((Q.refl w).alloc _).alloc _
  have B1 : Hid (Box ((w.alloc (.cells #[.int .i64 kind, .int .u64 amount, .string k2, .string g2, .int .i64 expiry, .string a2, .int .u64 unit, .int .i64 tokens, .string o2] 47)).alloc (.cells #[.int .i64 0, .int .u64 0, .string ⟨#[]⟩, .string ⟨#[]⟩, .int .i64 0, .string ⟨#[]⟩, .int .u64 0, .int .i64 0, .string ⟨#[]⟩] 47)) w.heap.size [.int .i64 kind, .int .u64 amount, .string k2, .string g2, .int .i64 expiry, .string a2, .int .u64 unit, .int .i64 tokens, .string o2]) := (Box.new w [.int .i64 kind, .int .u64 amount, .string k2, .string g2, .int .i64 expiry, .string a2, .int .u64 unit, .int .i64 tokens, .string o2] 47).q ((Q.refl _).alloc _)
  have B2 : Hid (Box ((w.alloc (.cells #[.int .i64 kind, .int .u64 amount, .string k2, .string g2, .int .i64 expiry, .string a2, .int .u64 unit, .int .i64 tokens, .string o2] 47)).alloc (.cells #[.int .i64 0, .int .u64 0, .string ⟨#[]⟩, .string ⟨#[]⟩, .int .i64 0, .string ⟨#[]⟩, .int .u64 0, .int .i64 0, .string ⟨#[]⟩] 47)) (w.heap.size + 1) [.int .i64 0, .int .u64 0, .string ⟨#[]⟩, .string ⟨#[]⟩, .int .i64 0, .string ⟨#[]⟩, .int .u64 0, .int .i64 0, .string ⟨#[]⟩]) := by
    have := Box.new (w.alloc (.cells #[.int .i64 kind, .int .u64 amount, .string k2, .string g2, .int .i64 expiry, .string a2, .int .u64 unit, .int .i64 tokens, .string o2] 47)) [.int .i64 0, .int .u64 0, .string ⟨#[]⟩, .string ⟨#[]⟩, .int .i64 0, .string ⟨#[]⟩, .int .u64 0, .int .i64 0, .string ⟨#[]⟩] 47
    rw [show (w.alloc (.cells #[.int .i64 kind, .int .u64 amount, .string k2, .string g2, .int .i64 expiry, .string a2, .int .u64 unit, .int .i64 tokens, .string o2] 47)).heap.size = w.heap.size + 1 by simp] at this
    exact this
  generalize (w.alloc (.cells #[.int .i64 kind, .int .u64 amount, .string k2, .string g2, .int .i64 expiry, .string a2, .int .u64 unit, .int .i64 tokens, .string o2] 47)).alloc (.cells #[.int .i64 0, .int .u64 0, .string ⟨#[]⟩, .string ⟨#[]⟩, .int .i64 0, .string ⟨#[]⟩, .int .u64 0, .int .i64 0, .string ⟨#[]⟩] 47) = w2 at *
  refine Lib.hid (ld_box rfl 47 _ rfl w.heap.size _ rfl B1.out Tryz.underlying47 rfl (by kernel_rfl) ?_)
  refine st_box rfl 47 _ _ rfl (w.heap.size + 1) _ [.int .i64 kind, .int .u64 amount, .string k2, .string g2, .int .i64 expiry, .string a2, .int .u64 unit, .int .i64 tokens, .string o2] rfl rfl B2.out rfl (by kernel_rfl) (one9 rfl rfl rfl rfl rfl rfl rfl rfl rfl) ?_
  intro w3 B3 c3
  have HL : Hid ((loadVar 47 ⟨w.heap.size + 1, 0, none⟩).run Tryz.prog w3 = .ok (.agg #[.int .i64 kind, .int .u64 amount, .string k2, .string g2, .int .i64 expiry, .string a2, .int .u64 unit, .int .i64 tokens, .string o2]) w3) := B3.load _ Tryz.underlying47 rfl (by kernel_rfl)
  have Q3 : Hid (Q w w3) := c3.q HQ.out (by omega)
  clear c3 B3
  go_wp2_with fail
  (try simp only [Exit.inBlock, Exit.then])
  refine bodyPost_ret (results_cell rfl rfl HL.out) rfl ?_
  exact ⟨by rw [HE.out], Q3.out⟩
end Go.Proofs.YtjiepemapffgjaaGreatDoor.Coi

namespace Go.Proofs.YtjiepemapffgjaaGreatDoor.Coi
open Go.RowKit
open Mem Num Cod
set_option linter.unusedVariables false

structure OU.wide (x : OU) : Prop where
  kind : I64 x.kind
  amount : U64 x.amount
  key : x.key.size ≤ maxLen
  gate : x.gate.size ≤ maxLen
  expiry : I64 x.expiry
  anchor : x.anchor.size ≤ maxLen
  unit : U64 x.unit
  tokens : I64 x.tokens
  of_ : x.of_.size ≤ maxLen
structure IN.wide (x : IN) : Prop where
  tx : x.tx.size ≤ maxLen
  out : I64 x.out
  path : I64 x.path
  sig : x.sig.size ≤ maxLen
structure WN.wide (x : WN) : Prop where
  chan : x.chan.size ≤ maxLen
  serial : U64 x.serial
  face : U64 x.face
  wins : U64 x.wins
  many : U64 x.many
  commit : x.commit.size ≤ maxLen
  client : U64 x.client
  sig : x.sig.size ≤ maxLen
  salt : x.salt.size ≤ maxLen
  drawn : U64 x.drawn
/-- What a slice of records that came in holds. -/
structure Ins {α : Type} (C : α → List Value) (k : Nat) (P : α → Prop) (W : World) (a : Option Addr) (len cap : Nat) (f : Nat → α) : Prop where
  sl : SL C k W a len f
  le : len ≤ cap
  cap : cap ≤ maxLen
  ok : ∀ i, i < len → P (f i)
section
open Go.ChangeShapes Go.WideShapes Go.Deep
variable {H : Type} {enc : TypeId × Value → H} {w : World} {base : Nat} {spare : Nat → Bool} {held : Bool}
theorem int_cells : Tryz.prog.cellsOf 3 = 1 := by kernel_rfl
theorem u64_cells : Tryz.prog.cellsOf 24 = 1 := by kernel_rfl
theorem str_cells : Tryz.prog.cellsOf 9 = 1 := by kernel_rfl
theorem out_cells : Tryz.prog.cellsOf 47 = 9 := by kernel_rfl
set_option maxRecDepth 100000 in
theorem trod_out {fuel : Nat} {cs : List Value} {x : DataW H × List MemPlace} (hl : cs.length = 9) (h : DataW.trod enc Tryz.prog w base spare held fuel 47 cs = some x) : ∃ r : OU, cs = r.cells ∧ r.wide := by
  obtain ⟨ys, n', _, _, hlen, hyl, hf⟩ := DataW.trod_struct Tryz.underlying47 h
  obtain ⟨c0, c1, c2, c3, c4, c5, c6, c7, c8, rfl⟩ : ∃ c0 c1 c2 c3 c4 c5 c6 c7 c8, cs = [c0, c1, c2, c3, c4, c5, c6, c7, c8] := by
    match cs, hl with
    | [c0, c1, c2, c3, c4, c5, c6, c7, c8], _ => exact ⟨c0, c1, c2, c3, c4, c5, c6, c7, c8, rfl⟩
  obtain ⟨y0, y1, y2, y3, y4, y5, y6, y7, y8, rfl⟩ : ∃ y0 y1 y2 y3 y4 y5 y6 y7 y8, ys = [y0, y1, y2, y3, y4, y5, y6, y7, y8] := by
    match ys, hyl with
    | [y0, y1, y2, y3, y4, y5, y6, y7, y8], _ => exact ⟨y0, y1, y2, y3, y4, y5, y6, y7, y8, rfl⟩
  have g0 : DataW.trod enc Tryz.prog w base spare held n' 3 [c0] = some y0 := by have := hf 0 _ rfl; simpa [int_cells, u64_cells, str_cells] using this
  obtain ⟨v0, k0, _, b0⟩ := DataW.trod_int Tryz.underlying3 g0
  have g1 : DataW.trod enc Tryz.prog w base spare held n' 24 [c1] = some y1 := by have := hf 1 _ rfl; simpa [int_cells, u64_cells, str_cells] using this
  obtain ⟨v1, k1, _, b1⟩ := DataW.trod_int Tryz.underlying24 g1
  have g2 : DataW.trod enc Tryz.prog w base spare held n' 9 [c2] = some y2 := by have := hf 2 _ rfl; simpa [int_cells, u64_cells, str_cells] using this
  obtain ⟨v2, k2, _, b2⟩ := DataW.trod_string Tryz.underlying9 g2
  have g3 : DataW.trod enc Tryz.prog w base spare held n' 9 [c3] = some y3 := by have := hf 3 _ rfl; simpa [int_cells, u64_cells, str_cells] using this
  obtain ⟨v3, k3, _, b3⟩ := DataW.trod_string Tryz.underlying9 g3
  have g4 : DataW.trod enc Tryz.prog w base spare held n' 3 [c4] = some y4 := by have := hf 4 _ rfl; simpa [int_cells, u64_cells, str_cells] using this
  obtain ⟨v4, k4, _, b4⟩ := DataW.trod_int Tryz.underlying3 g4
  have g5 : DataW.trod enc Tryz.prog w base spare held n' 9 [c5] = some y5 := by have := hf 5 _ rfl; simpa [int_cells, u64_cells, str_cells] using this
  obtain ⟨v5, k5, _, b5⟩ := DataW.trod_string Tryz.underlying9 g5
  have g6 : DataW.trod enc Tryz.prog w base spare held n' 24 [c6] = some y6 := by have := hf 6 _ rfl; simpa [int_cells, u64_cells, str_cells] using this
  obtain ⟨v6, k6, _, b6⟩ := DataW.trod_int Tryz.underlying24 g6
  have g7 : DataW.trod enc Tryz.prog w base spare held n' 3 [c7] = some y7 := by have := hf 7 _ rfl; simpa [int_cells, u64_cells, str_cells] using this
  obtain ⟨v7, k7, _, b7⟩ := DataW.trod_int Tryz.underlying3 g7
  have g8 : DataW.trod enc Tryz.prog w base spare held n' 9 [c8] = some y8 := by have := hf 8 _ rfl; simpa [int_cells, u64_cells, str_cells] using this
  obtain ⟨v8, k8, _, b8⟩ := DataW.trod_string Tryz.underlying9 g8
  simp only [List.cons.injEq, and_true] at k0 k1 k2 k3 k4 k5 k6 k7 k8
  subst k0 k1 k2 k3 k4 k5 k6 k7 k8
  exact ⟨⟨v0, v1, v2, v3, v4, v5, v6, v7, v8⟩, rfl, ⟨bounds_i64 b0, bounds_u64 b1, b2, b3, bounds_i64 b4, b5, bounds_u64 b6, bounds_i64 b7, b8⟩⟩
set_option maxRecDepth 100000 in
theorem open_outs {fuel : Nat} {cs : List Value} {x : DataW H × List MemPlace} (h : DataW.trod enc Tryz.prog w base spare held fuel 23 cs = some x) :
    ∃ a len cap f, cs = [.slice a len cap] ∧ Ins OU.cells 9 OU.wide w a len cap f := by
  rcases open_slice Tryz.underlying23 h with ⟨h0, _⟩ | ⟨a, len, cap, m, n, D, Pl, hcs, hb, hl, hm, hmm, hx, hi⟩
  · exact ⟨none, 0, 0, fun _ => ⟨0, 0, ⟨#[]⟩, ⟨#[]⟩, 0, ⟨#[]⟩, 0, 0, ⟨#[]⟩⟩, h0, ⟨SL.nil rfl, Nat.le_refl _, Nat.zero_le _, fun i hi => by omega⟩⟩
  · have hlm : len ≤ m := by rw [hmm]; split <;> omega
    have hp : ∀ i, i < len → ∃ p : OU, (∀ j v, (p.cells)[j]? = some v → w.cell? ((a.add (i * 9)).add j) = some v) ∧ p.wide := by
      intro i hil
      obtain ⟨cs', hc, ht⟩ := hi i (by omega)
      rw [out_cells] at hc
      obtain ⟨_, hcl, hat⟩ := World.cells?_some hc
      obtain ⟨r, hr, wr⟩ := trod_out hcl ht
      subst hr
      refine ⟨r, fun j v hj => ?_, wr⟩
      have hjl := (List.getElem?_eq_some_iff.1 hj).1
      have := hat j (by rw [← hcl]; exact hjl)
      rw [hj] at this
      exact this
    have hF : ∃ f : Nat → OU, ∀ i, i < len → (∀ j v, ((f i).cells)[j]? = some v → w.cell? ((a.add (i * 9)).add j) = some v) ∧ (f i).wide :=
      ⟨fun i => if h : i < len then Classical.choose (hp i h) else ⟨0, 0, ⟨#[]⟩, ⟨#[]⟩, 0, ⟨#[]⟩, 0, 0, ⟨#[]⟩⟩, fun i hil => by simp only [dif_pos hil]; exact Classical.choose_spec (hp i hil)⟩
    obtain ⟨f, hf⟩ := hF
    refine ⟨some a, len, cap, f, hcs, ⟨?_, hl, hm, fun i hi => (hf i hi).2⟩⟩
    by_cases h0 : len = 0
    · exact SL.nil h0
    obtain ⟨b, off, spot⟩ := a
    obtain ⟨c0, hc0⟩ : ∃ c0, ((f 0).cells)[0]? = some c0 := ⟨_, rfl⟩
    have hs := (hf 0 (by omega)).1 0 _ hc0
    have hspot : spot = none := by simpa [Addr.add] using World.cell?_spot hs
    subst hspot
    refine .inr ⟨b, off, rfl, fun i hi j v hv => ?_⟩
    have := (hf i hi).1 j v hv
    rw [Go.WideShapes.add_plain, Go.WideShapes.add_plain] at this
    exact this
theorem inp_cells : Tryz.prog.cellsOf 53 = 4 := by kernel_rfl
theorem inp_sub_cells : Tryz.prog.cellsOf 31 = 2 := by kernel_rfl
set_option maxRecDepth 100000 in
theorem trod_inp {fuel : Nat} {cs : List Value} {x : DataW H × List MemPlace} (hl : cs.length = 4) (h : DataW.trod enc Tryz.prog w base spare held fuel 53 cs = some x) : ∃ r : IN, cs = r.cells ∧ r.wide := by
  obtain ⟨ys, n', _, _, hlen, hyl, hf⟩ := DataW.trod_struct Tryz.underlying53 h
  obtain ⟨c0, c1, c2, c3, rfl⟩ : ∃ c0 c1 c2 c3, cs = [c0, c1, c2, c3] := by
    match cs, hl with
    | [c0, c1, c2, c3], _ => exact ⟨c0, c1, c2, c3, rfl⟩
  obtain ⟨y0, y1, y2, rfl⟩ : ∃ y0 y1 y2, ys = [y0, y1, y2] := by
    match ys, hyl with
    | [y0, y1, y2], _ => exact ⟨y0, y1, y2, rfl⟩
  have e0 : DataW.trod enc Tryz.prog w base spare held n' 31 [c0, c1] = some y0 := by have := hf 0 _ rfl; simpa [int_cells, u64_cells, str_cells, inp_sub_cells] using this
  obtain ⟨zs, n2, _, _, hlen2, hzl, hg⟩ := DataW.trod_struct Tryz.underlying31 e0
  obtain ⟨z0, z1, rfl⟩ : ∃ z0 z1, zs = [z0, z1] := by
    match zs, hzl with
    | [z0, z1], _ => exact ⟨z0, z1, rfl⟩
  have g0 : DataW.trod enc Tryz.prog w base spare held n2 9 [c0] = some z0 := by have := hg 0 _ rfl; simpa [int_cells, u64_cells, str_cells, inp_sub_cells] using this
  obtain ⟨v0, k0, _, b0⟩ := DataW.trod_string Tryz.underlying9 g0
  have g1 : DataW.trod enc Tryz.prog w base spare held n2 3 [c1] = some z1 := by have := hg 1 _ rfl; simpa [int_cells, u64_cells, str_cells, inp_sub_cells] using this
  obtain ⟨v1, k1, _, b1⟩ := DataW.trod_int Tryz.underlying3 g1
  have g2 : DataW.trod enc Tryz.prog w base spare held n' 3 [c2] = some y1 := by have := hf 1 _ rfl; simpa [int_cells, u64_cells, str_cells, inp_sub_cells] using this
  obtain ⟨v2, k2, _, b2⟩ := DataW.trod_int Tryz.underlying3 g2
  have g3 : DataW.trod enc Tryz.prog w base spare held n' 9 [c3] = some y2 := by have := hf 2 _ rfl; simpa [int_cells, u64_cells, str_cells, inp_sub_cells] using this
  obtain ⟨v3, k3, _, b3⟩ := DataW.trod_string Tryz.underlying9 g3
  simp only [List.cons.injEq, and_true] at k0 k1 k2 k3
  subst k0 k1 k2 k3
  exact ⟨⟨v0, v1, v2, v3⟩, rfl, ⟨b0, bounds_i64 b1, bounds_i64 b2, b3⟩⟩
set_option maxRecDepth 100000 in
theorem open_inps {fuel : Nat} {cs : List Value} {x : DataW H × List MemPlace} (h : DataW.trod enc Tryz.prog w base spare held fuel 22 cs = some x) :
    ∃ a len cap f, cs = [.slice a len cap] ∧ Ins IN.cells 4 IN.wide w a len cap f := by
  rcases open_slice Tryz.underlying22 h with ⟨h0, _⟩ | ⟨a, len, cap, m, n, D, Pl, hcs, hb, hl, hm, hmm, hx, hi⟩
  · exact ⟨none, 0, 0, fun _ => ⟨⟨#[]⟩, 0, 0, ⟨#[]⟩⟩, h0, ⟨SL.nil rfl, Nat.le_refl _, Nat.zero_le _, fun i hi => by omega⟩⟩
  · have hlm : len ≤ m := by rw [hmm]; split <;> omega
    have hp : ∀ i, i < len → ∃ p : IN, (∀ j v, (p.cells)[j]? = some v → w.cell? ((a.add (i * 4)).add j) = some v) ∧ p.wide := by
      intro i hil
      obtain ⟨cs', hc, ht⟩ := hi i (by omega)
      rw [inp_cells] at hc
      obtain ⟨_, hcl, hat⟩ := World.cells?_some hc
      obtain ⟨r, hr, wr⟩ := trod_inp hcl ht
      subst hr
      refine ⟨r, fun j v hj => ?_, wr⟩
      have hjl := (List.getElem?_eq_some_iff.1 hj).1
      have := hat j (by rw [← hcl]; exact hjl)
      rw [hj] at this
      exact this
    have hF : ∃ f : Nat → IN, ∀ i, i < len → (∀ j v, ((f i).cells)[j]? = some v → w.cell? ((a.add (i * 4)).add j) = some v) ∧ (f i).wide :=
      ⟨fun i => if h : i < len then Classical.choose (hp i h) else ⟨⟨#[]⟩, 0, 0, ⟨#[]⟩⟩, fun i hil => by simp only [dif_pos hil]; exact Classical.choose_spec (hp i hil)⟩
    obtain ⟨f, hf⟩ := hF
    refine ⟨some a, len, cap, f, hcs, ⟨?_, hl, hm, fun i hi => (hf i hi).2⟩⟩
    by_cases h0 : len = 0
    · exact SL.nil h0
    obtain ⟨b, off, spot⟩ := a
    obtain ⟨c0, hc0⟩ : ∃ c0, ((f 0).cells)[0]? = some c0 := ⟨_, rfl⟩
    have hs := (hf 0 (by omega)).1 0 _ hc0
    have hspot : spot = none := by simpa [Addr.add] using World.cell?_spot hs
    subst hspot
    refine .inr ⟨b, off, rfl, fun i hi j v hv => ?_⟩
    have := (hf i hi).1 j v hv
    rw [Go.WideShapes.add_plain, Go.WideShapes.add_plain] at this
    exact this
theorem win_cells : Tryz.prog.cellsOf 155 = 10 := by kernel_rfl
theorem win_sub_cells : Tryz.prog.cellsOf 153 = 8 := by kernel_rfl
set_option maxRecDepth 100000 in
theorem trod_win {fuel : Nat} {cs : List Value} {x : DataW H × List MemPlace} (hl : cs.length = 10) (h : DataW.trod enc Tryz.prog w base spare held fuel 155 cs = some x) : ∃ r : WN, cs = r.cells ∧ r.wide := by
  obtain ⟨ys, n', _, _, hlen, hyl, hf⟩ := DataW.trod_struct Tryz.underlying155 h
  obtain ⟨c0, c1, c2, c3, c4, c5, c6, c7, c8, c9, rfl⟩ : ∃ c0 c1 c2 c3 c4 c5 c6 c7 c8 c9, cs = [c0, c1, c2, c3, c4, c5, c6, c7, c8, c9] := by
    match cs, hl with
    | [c0, c1, c2, c3, c4, c5, c6, c7, c8, c9], _ => exact ⟨c0, c1, c2, c3, c4, c5, c6, c7, c8, c9, rfl⟩
  obtain ⟨y0, y1, y2, rfl⟩ : ∃ y0 y1 y2, ys = [y0, y1, y2] := by
    match ys, hyl with
    | [y0, y1, y2], _ => exact ⟨y0, y1, y2, rfl⟩
  have e0 : DataW.trod enc Tryz.prog w base spare held n' 153 [c0, c1, c2, c3, c4, c5, c6, c7] = some y0 := by have := hf 0 _ rfl; simpa [int_cells, u64_cells, str_cells, win_sub_cells] using this
  obtain ⟨zs, n2, _, _, hlen2, hzl, hg⟩ := DataW.trod_struct Tryz.underlying153 e0
  obtain ⟨z0, z1, z2, z3, z4, z5, z6, z7, rfl⟩ : ∃ z0 z1 z2 z3 z4 z5 z6 z7, zs = [z0, z1, z2, z3, z4, z5, z6, z7] := by
    match zs, hzl with
    | [z0, z1, z2, z3, z4, z5, z6, z7], _ => exact ⟨z0, z1, z2, z3, z4, z5, z6, z7, rfl⟩
  have g0 : DataW.trod enc Tryz.prog w base spare held n2 9 [c0] = some z0 := by have := hg 0 _ rfl; simpa [int_cells, u64_cells, str_cells, win_sub_cells] using this
  obtain ⟨v0, k0, _, b0⟩ := DataW.trod_string Tryz.underlying9 g0
  have g1 : DataW.trod enc Tryz.prog w base spare held n2 24 [c1] = some z1 := by have := hg 1 _ rfl; simpa [int_cells, u64_cells, str_cells, win_sub_cells] using this
  obtain ⟨v1, k1, _, b1⟩ := DataW.trod_int Tryz.underlying24 g1
  have g2 : DataW.trod enc Tryz.prog w base spare held n2 24 [c2] = some z2 := by have := hg 2 _ rfl; simpa [int_cells, u64_cells, str_cells, win_sub_cells] using this
  obtain ⟨v2, k2, _, b2⟩ := DataW.trod_int Tryz.underlying24 g2
  have g3 : DataW.trod enc Tryz.prog w base spare held n2 24 [c3] = some z3 := by have := hg 3 _ rfl; simpa [int_cells, u64_cells, str_cells, win_sub_cells] using this
  obtain ⟨v3, k3, _, b3⟩ := DataW.trod_int Tryz.underlying24 g3
  have g4 : DataW.trod enc Tryz.prog w base spare held n2 24 [c4] = some z4 := by have := hg 4 _ rfl; simpa [int_cells, u64_cells, str_cells, win_sub_cells] using this
  obtain ⟨v4, k4, _, b4⟩ := DataW.trod_int Tryz.underlying24 g4
  have g5 : DataW.trod enc Tryz.prog w base spare held n2 9 [c5] = some z5 := by have := hg 5 _ rfl; simpa [int_cells, u64_cells, str_cells, win_sub_cells] using this
  obtain ⟨v5, k5, _, b5⟩ := DataW.trod_string Tryz.underlying9 g5
  have g6 : DataW.trod enc Tryz.prog w base spare held n2 24 [c6] = some z6 := by have := hg 6 _ rfl; simpa [int_cells, u64_cells, str_cells, win_sub_cells] using this
  obtain ⟨v6, k6, _, b6⟩ := DataW.trod_int Tryz.underlying24 g6
  have g7 : DataW.trod enc Tryz.prog w base spare held n2 9 [c7] = some z7 := by have := hg 7 _ rfl; simpa [int_cells, u64_cells, str_cells, win_sub_cells] using this
  obtain ⟨v7, k7, _, b7⟩ := DataW.trod_string Tryz.underlying9 g7
  have g8 : DataW.trod enc Tryz.prog w base spare held n' 9 [c8] = some y1 := by have := hf 1 _ rfl; simpa [int_cells, u64_cells, str_cells, win_sub_cells] using this
  obtain ⟨v8, k8, _, b8⟩ := DataW.trod_string Tryz.underlying9 g8
  have g9 : DataW.trod enc Tryz.prog w base spare held n' 24 [c9] = some y2 := by have := hf 2 _ rfl; simpa [int_cells, u64_cells, str_cells, win_sub_cells] using this
  obtain ⟨v9, k9, _, b9⟩ := DataW.trod_int Tryz.underlying24 g9
  simp only [List.cons.injEq, and_true] at k0 k1 k2 k3 k4 k5 k6 k7 k8 k9
  subst k0 k1 k2 k3 k4 k5 k6 k7 k8 k9
  exact ⟨⟨v0, v1, v2, v3, v4, v5, v6, v7, v8, v9⟩, rfl, ⟨b0, bounds_u64 b1, bounds_u64 b2, bounds_u64 b3, bounds_u64 b4, b5, bounds_u64 b6, b7, b8, bounds_u64 b9⟩⟩
set_option maxRecDepth 100000 in
theorem open_wins {fuel : Nat} {cs : List Value} {x : DataW H × List MemPlace} (h : DataW.trod enc Tryz.prog w base spare held fuel 25 cs = some x) :
    ∃ a len cap f, cs = [.slice a len cap] ∧ Ins WN.cells 10 WN.wide w a len cap f := by
  rcases open_slice Tryz.underlying25 h with ⟨h0, _⟩ | ⟨a, len, cap, m, n, D, Pl, hcs, hb, hl, hm, hmm, hx, hi⟩
  · exact ⟨none, 0, 0, fun _ => ⟨⟨#[]⟩, 0, 0, 0, 0, ⟨#[]⟩, 0, ⟨#[]⟩, ⟨#[]⟩, 0⟩, h0, ⟨SL.nil rfl, Nat.le_refl _, Nat.zero_le _, fun i hi => by omega⟩⟩
  · have hlm : len ≤ m := by rw [hmm]; split <;> omega
    have hp : ∀ i, i < len → ∃ p : WN, (∀ j v, (p.cells)[j]? = some v → w.cell? ((a.add (i * 10)).add j) = some v) ∧ p.wide := by
      intro i hil
      obtain ⟨cs', hc, ht⟩ := hi i (by omega)
      rw [win_cells] at hc
      obtain ⟨_, hcl, hat⟩ := World.cells?_some hc
      obtain ⟨r, hr, wr⟩ := trod_win hcl ht
      subst hr
      refine ⟨r, fun j v hj => ?_, wr⟩
      have hjl := (List.getElem?_eq_some_iff.1 hj).1
      have := hat j (by rw [← hcl]; exact hjl)
      rw [hj] at this
      exact this
    have hF : ∃ f : Nat → WN, ∀ i, i < len → (∀ j v, ((f i).cells)[j]? = some v → w.cell? ((a.add (i * 10)).add j) = some v) ∧ (f i).wide :=
      ⟨fun i => if h : i < len then Classical.choose (hp i h) else ⟨⟨#[]⟩, 0, 0, 0, 0, ⟨#[]⟩, 0, ⟨#[]⟩, ⟨#[]⟩, 0⟩, fun i hil => by simp only [dif_pos hil]; exact Classical.choose_spec (hp i hil)⟩
    obtain ⟨f, hf⟩ := hF
    refine ⟨some a, len, cap, f, hcs, ⟨?_, hl, hm, fun i hi => (hf i hi).2⟩⟩
    by_cases h0 : len = 0
    · exact SL.nil h0
    obtain ⟨b, off, spot⟩ := a
    obtain ⟨c0, hc0⟩ : ∃ c0, ((f 0).cells)[0]? = some c0 := ⟨_, rfl⟩
    have hs := (hf 0 (by omega)).1 0 _ hc0
    have hspot : spot = none := by simpa [Addr.add] using World.cell?_spot hs
    subst hspot
    refine .inr ⟨b, off, rfl, fun i hi j v hv => ?_⟩
    have := (hf i hi).1 j v hv
    rw [Go.WideShapes.add_plain, Go.WideShapes.add_plain] at this
    exact this
end
end Go.Proofs.YtjiepemapffgjaaGreatDoor.Coi

namespace Go.Proofs.YtjiepemapffgjaaGreatDoor.Coi
open Go.RowKit
open Mem Num
set_option linter.unusedVariables false

theorem SU_congr (f g : Nat → Int) : ∀ n, (∀ i, i < n → f i = g i) → SU f n = SU g n
  | 0, _ => rfl
  | n + 1, h => by show SU f n + f n = SU g n + g n; rw [SU_congr f g n (fun i hi => h i (by omega)), h n (by omega)]
theorem SU_shift (f : Nat → Int) : ∀ n, SU f (n + 1) = f 0 + SU (fun i => f (i + 1)) n
  | 0 => by show (0 : Int) + f 0 = f 0 + 0; omega
  | n + 1 => by show SU f (n + 1) + f (n + 1) = f 0 + (SU (fun i => f (i + 1)) n + f (n + 1)); rw [SU_shift f n]; omega
theorem SU_turn (f : Nat → Int) : ∀ n, SU (fun j => f (n - 1 - j)) n = SU f n
  | 0 => rfl
  | n + 1 => by
    rw [SU_shift]
    show f (n + 1 - 1 - 0) + SU (fun i => f (n + 1 - 1 - (i + 1))) n = SU f n + f n
    rw [SU_congr (fun i => f (n + 1 - 1 - (i + 1))) (fun j => f (n - 1 - j)) n (fun i hi => by show f _ = f _; congr 1; omega), SU_turn f n]
    show f n + SU f n = _; omega
theorem SU_split (f : Nat → Int) (k : Nat) : ∀ d, SU f (k + d) = SU f k + SU (fun i => f (k + i)) d
  | 0 => by show SU f k = SU f k + 0; omega
  | d + 1 => by show SU f (k + d) + f (k + d) = SU f k + (SU (fun i => f (k + i)) d + f (k + d)); rw [SU_split f k d]; omega
theorem sum_turn (f : Nat → Int) (n : Nat) : sumV (fun j => f (n - 1 - j)) n = sumV f n ∧ sumE (fun j => f (n - 1 - j)) n = sumE f n := by
  unfold sumV sumE; rw [SU_turn]; exact ⟨rfl, rfl⟩
theorem sum_parts (f : Nat → Int) (h0 : ∀ i, 0 ≤ f i) (n k : Nat) (hk : k ≤ n) (he : sumE f n = 0) :
    sumE f k = 0 ∧ sumE (fun i => f (k + i)) (n - k) = 0 ∧ sumV f k + sumV (fun i => f (k + i)) (n - k) = sumV f n ∧ sumV f n ≤ 18446744073709551615 := by
  have hs := SU_split f k (n - k)
  rw [Nat.add_sub_cancel' hk] at hs
  have a := SU_nonneg f h0 k
  have b := SU_nonneg (fun i => f (k + i)) (fun i => h0 _) (n - k)
  have hb : SU f n ≤ 18446744073709551615 := by
    unfold sumE at he; split at he
    · assumption
    · exact absurd he (by decide)
  unfold sumE sumV
  rw [if_pos (by omega), if_pos (by omega), if_pos (by omega), if_pos (by omega), if_pos hb]
  exact ⟨rfl, rfl, by omega, hb⟩
end Go.Proofs.YtjiepemapffgjaaGreatDoor.Coi

namespace Go.Proofs.YtjiepemapffgjaaGreatDoor.Coi
open Go.RowKit
open Mem Num Cod
set_option linter.unusedVariables false

/-- A row was made longer: it lies where it lay, or in the block that was just made. -/
structure Grow (w w' : World) (o : Option Nat) (g' : Nat) : Prop where
  gr : w.grownBy w' o
  at_ : o = some g' ∨ g' = w.heap.size
def blk (a : Option Addr) : Option Nat := a.map (·.block)
/-- Two rows do not lie in one block. -/
def Apart (a b : Option Addr) : Prop := ∀ x y, a = some x → b = some y → x.block ≠ y.block
theorem Apart.symm {a b : Option Addr} (h : Apart a b) : Apart b a := fun x y hx hy e => h y x hy hx e.symm
section
variable {α β : Type} {C : α → List Value} {D : β → List Value} {k k' : Nat} {t t' : TypeId} {w w' : World} {B B' n n' cap cap' g' : Nat} {a a' : Option Addr} {f : Nat → α} {h : Nat → β}
theorem own_blk (a : Option Addr) (n c : Nat) : (Value.slice a n c).ownBlock = blk a := by cases a <;> rfl
/-- Another row stays. -/
theorem OR.over (H : OR t' D k' w B' a' n' cap' h) (hne : Apart a a') (G : Grow w w' (blk a) g') : OR t' D k' w' B' a' n' cap' h ∧ Apart (some ⟨g', 0, none⟩) a' := by
  constructor
  · refine World.ownsRow.kept H G.gr ?_
    rw [own_blk]
    cases a' with
    | none => exact .inl rfl
    | some y =>
      refine .inr ?_
      cases a with
      | none => simp [blk]
      | some x =>
        have := hne x y rfl rfl
        simp only [blk, Option.map_some, ne_eq, Option.some.injEq]
        exact fun e => this e.symm
  · intro x y hx hy
    injection hx with hx; subst hx; subst hy
    show g' ≠ y.block
    rcases G.at_ with e | e
    · cases a with
      | none => cases e
      | some x =>
        have := hne x y rfl rfl
        simp only [blk, Option.map_some, Option.some.injEq] at e
        omega
    · rcases H.shape with ⟨e1, _⟩ | ⟨b, e1, _, hl, _⟩
      · cases e1
      · injection e1 with e1; subst e1; show g' ≠ b; omega
theorem OR.q_grow {W : World} (H : OR t C k w B a n cap f) (q : Q W w) (hB : W.heap.size ≤ B) (G : Grow w w' (blk a) g') : Q W w' := by
  refine Below.grown q G.gr q.size (fun j hj => ?_)
  rw [← own_blk a n cap] at hj
  exact Nat.le_trans hB (World.ownsRow.lt H j hj).1
theorem OR.made0 (t : TypeId) (C : α → List Value) (k : Nat) (w : World) (B : Nat) (hB : B ≤ w.heap.size) (f : Nat → α) : OR t C k (w.alloc (.cells #[] t)) B (some ⟨w.heap.size, 0, none⟩) 0 0 f :=
  ⟨by simp [rc], .inr ⟨w.heap.size, 0, #[], rfl, hB, heap_alloc_new w _, Nat.le_refl _, by unfold maxLen; omega, by simp, by simp [rc]⟩⟩
theorem wpl_app {P : Program} {ops : Array Oper} {rest : List Oper} {o : Oper} {c : Act} {Q : Exit → Act → World → Prop} (hgd : o.guard = none) (s x : Operand) (ts : TypeId)
    (ho : o.op = .call { callee := .builtin .append, args := #[s, x], argTypes := #[ts, ts] }) (i : TypeInfo) (z : Value) (bytes : Nat) (ht : P.underlying ts = some (.slice t)) (hi : P.info? t = some i) (hz : i.zero = some z)
    (hsize : i.size = k) (hby : i.bytes = bytes) (hzs : z.cells.size = k) (hsz : 0 < k) (hs : c.eval s = .slice a n cap) (H : OR t C k w B a n cap f)
    (g : Nat) (hx : c.eval x = .slice (some ⟨g, 0, none⟩) 1 1) (hl : (C (f n)).length = k) (hnews : ∀ j u, (C (f n))[j]? = some u → w.cell? ⟨g, j, none⟩ = some u) (h1 : ∀ u ∈ C (f n), u.oneCell' = true)
    (h63 : n + 1 ≤ 1000000) (hbytes : bytes ≤ 1000000) (hbase : B ≤ w.heap.size)
    (h : ∀ g' cap' w', OR t C k w' B (some ⟨g', 0, none⟩) (n + 1) cap' f → Grow w w' (blk a) g' → wpList P ops Q rest (c.put o.dst (.slice (some ⟨g', 0, none⟩) (n + 1) cap')) w') : wpList P ops Q (o :: rest) c w := by
  refine wpList_append_own_at w hgd s x ts ho B t i z k bytes ht hi hz hsize hby hzs hsz _ n (rc C f n) hs H ⟨g, 0, none⟩ 1 1 (C (f n)) hx (by rw [hl, Nat.one_mul]) (fun j u hj => ?_) h1 (by unfold maxLen; omega) ?_ hbase ?_
  · rw [Go.WideShapes.add_plain, Nat.zero_add]; exact hnews j u hj
  · calc (n + 1) * bytes ≤ 1000000 * 1000000 := Nat.mul_le_mul h63 hbytes
      _ ≤ _ := by decide
  · intro v' w' h2 h3 _ h5
    obtain ⟨g', cap', rfl, h2⟩ := OR.next h2
    rw [own_blk] at h3
    refine h g' cap' w' h2 ⟨h3, ?_⟩
    rw [own_blk, own_blk] at h5
    rcases h5 with h5 | h5
    · exact .inl h5.symm
    · simp only [blk, Option.map_some, Option.some.injEq] at h5; exact .inr h5
end
end Go.Proofs.YtjiepemapffgjaaGreatDoor.Coi

namespace Go.Proofs.YtjiepemapffgjaaGreatDoor.Plan
open Go
set_option linter.unusedVariables false

section
variable {P : Program} {ops : Array Oper} {Qx : Exit → Act → World → Prop} {V : Nat → Value → World → Prop} {T : World → World → Prop} {S : World → Prop} {a0 : Act}

/-- What an operation left. -/
def slot (a : Act) (o : Oper) : Value := match o.dst with | some d => a.tmps.getD d undef | none => undef
/-- Where the region stands: what was listed has its answer, all else is as it was. -/
structure Inv (ops : Array Oper) (V : Nat → Value → World → Prop) (S : World → Prop) (a0 : Act) (l : Array Bool) (a : Act) (w : World) : Prop where
  sz : a.tmps.size = a0.tmps.size
  df : a.defers = a0.defers
  lsz : l.size = ops.size
  old : ∀ s, (∀ (i : Nat) (o : Oper), ops[i]? = some o → o.dst ≠ some s) → a.tmps[s]? = a0.tmps[s]?
  val : ∀ (i : Nat) (o : Oper), ops[i]? = some o → l.getD i false = true → V i (slot a o) w
  st : S w
/-- No two operations answer in one place; places are there; what is waited for stands ahead. -/
def sound (ops : Array Oper) (n : Nat) : Bool :=
  (List.range ops.size).all fun i => match ops[i]? with
    | none => true
    | some o => (o.after.all fun e => !Region.binds .any e || Nat.blt e.on i) &&
      match o.dst with
      | none => true
      | some d => Nat.blt d n && (List.range i).all fun j => match ops[j]? with
        | none => true
        | some o' => match o'.dst with
          | none => true
          | some d' => !Nat.beq d d'
theorem sound_spec {n : Nat} (h : sound ops n = true) {i : Nat} {o : Oper} (hi : ops[i]? = some o) :
    (∀ e ∈ o.after, Region.binds .any e = true → e.on < i) ∧ ∀ d, o.dst = some d → d < n ∧ ∀ (j : Nat) (o' : Oper), j < i → ops[j]? = some o' → o'.dst ≠ some d := by
  unfold sound at h
  rw [List.all_eq_true] at h
  have hlt : i < ops.size := (Array.getElem?_eq_some_iff.1 hi).1
  have h1 := h i (List.mem_range.2 hlt)
  rw [hi] at h1
  dsimp only at h1
  rw [Bool.and_eq_true] at h1
  refine ⟨fun e he hb => ?_, fun d hd => ?_⟩
  · have := Array.all_eq_true_iff_forall_mem.1 h1.1 e he
    rw [hb] at this
    have h9 : Nat.blt e.on i = true := by simpa using this
    rwa [Nat.blt_eq] at h9
  · have h2 := h1.2
    rw [hd] at h2
    dsimp only at h2
    rw [Bool.and_eq_true] at h2
    refine ⟨by have h9 := h2.1; rwa [Nat.blt_eq] at h9, fun j o' hj hj' hd' => ?_⟩
    have h3 := List.all_eq_true.1 h2.2 j (List.mem_range.2 hj)
    rw [hj'] at h3
    dsimp only at h3
    rw [hd'] at h3
    simp at h3
theorem sound_ne {n : Nat} (h : sound ops n = true) {i j : Nat} {o o' : Oper} {d : Nat} (hi : ops[i]? = some o) (hj : ops[j]? = some o') (hij : i ≠ j) (hd : o.dst = some d) : o'.dst ≠ some d := by
  intro hd'
  rcases Nat.lt_or_gt_of_ne hij with h1 | h1
  · exact ((sound_spec h hj).2 d hd').2 i o h1 hi hd
  · exact ((sound_spec h hi).2 d hd).2 j o' h1 hj hd'
theorem getD_set_self {l : Array Bool} {i : Nat} (h : i < l.size) : (l.setIfInBounds i true).getD i false = true := by
  simp [Array.getD_eq_getD_getElem?, h]
theorem put_get {a : Act} {d s : Nat} {v : Value} (h : d ≠ s) : (a.put (some d) v).tmps[s]? = a.tmps[s]? := by
  simp [Act.put, h]
theorem put_self {a : Act} {d : Nat} {v : Value} (h : d < a.tmps.size) : (a.put (some d) v).tmps.getD d undef = v := by
  simp [Act.put, Array.getD_eq_getD_getElem?, h]
theorem Inv.put {i : Nat} {l : Array Bool} {a : Act} {w w' : World} {o : Oper} {v : Value} (hs : sound ops a0.tmps.size = true)
    (hV : ∀ i v w w', V i v w → T w w' → V i v w') (h : Inv ops V S a0 l a w) (hi : ops[i]? = some o) (t : T w w') (s : S w') (hv : V i (match o.dst with | some _ => v | none => undef) w') :
    Inv ops V S a0 (l.setIfInBounds i true) (a.put o.dst v) w' := by
  have hlt : i < ops.size := (Array.getElem?_eq_some_iff.1 hi).1
  refine ⟨?_, ?_, by simp [h.lsz], fun s hs' => ?_, fun j oj hj hl => ?_, s⟩
  · rw [← h.sz]; cases o.dst <;> simp [Act.put]
  · rw [← h.df]; cases o.dst <;> simp [Act.put]
  · cases hd : o.dst with
    | none => exact h.old s hs'
    | some d => rw [put_get (fun e => hs' i o hi (by rw [hd, e]))]; exact h.old s hs'
  · by_cases hij : i = j
    · subst hij
      obtain rfl : o = oj := Option.some.inj (hi.symm.trans hj)
      cases hd : o.dst with
      | none => rw [hd] at hv; simpa [slot, hd] using hv
      | some d =>
        rw [hd] at hv
        have hb : d < a.tmps.size := by rw [h.sz]; exact ((sound_spec hs hi).2 d hd).1
        simp only [slot, hd]
        rw [put_self hb]
        exact hv
    · have hl' : l.getD j false = true := by rw [getD_set_ne false hij] at hl; exact hl
      have h0 := hV j _ _ _ (h.val j oj hj hl') t
      cases hd : o.dst with
      | none => exact h0
      | some d =>
        have hne := sound_ne hs hi hj hij hd
        unfold slot at h0 ⊢
        cases hd' : oj.dst with
        | none => rw [hd'] at h0; exact h0
        | some d' =>
          rw [hd'] at h0
          dsimp only at h0 ⊢
          rw [Array.getD_eq_getD_getElem?, put_get (fun e => hne (by rw [hd', e])), ← Array.getD_eq_getD_getElem?]
          exact h0
/-- One operation's step. -/
def Step (P : Program) (ops : Array Oper) (V : Nat → Value → World → Prop) (T : World → World → Prop) (S : World → Prop) (a0 : Act) (Qx : Exit → Act → World → Prop) (i : Nat) (o : Oper) : Prop :=
  ∀ l a w, Inv ops V S a0 l a w → (∀ e ∈ o.after, Region.binds .any e = true → l.getD e.on false = true) →
    wpOp P ops Qx i (fun a' w' => ∃ v, a' = a.put o.dst v ∧ T w w' ∧ S w' ∧ V i (match o.dst with | some _ => v | none => undef) w') a w
theorem plan_any (hs : sound ops a0.tmps.size = true) (hV : ∀ i v w w', V i v w → T w w' → V i v w')
    (step : ∀ (i : Nat) (o : Oper), ops[i]? = some o → Step P ops V T S a0 Qx i o)
    (fin : ∀ l a w, (∀ i, i < ops.size → l.getD i false = true) → Inv ops V S a0 l a w → Qx .normal a w) :
    ∀ fuel l a w, l.toList.count false ≤ fuel → Inv ops V S a0 l a w → wpAny P .any ops Qx fuel l a w := by
  intro fuel
  induction fuel with
  | zero =>
    intro l a w hc h
    have hall : ∀ i, i < ops.size → l.getD i false = true := by
      intro i hi
      have h0 : false ∉ l.toList := List.count_eq_zero.1 (by omega)
      have hi' : i < l.size := by rw [h.lsz]; exact hi
      rw [Array.getD_eq_getD_getElem?, Array.getElem?_eq_getElem hi', Option.getD_some]
      cases hb : l[i] with
      | true => rfl
      | false => exact absurd (by rw [← hb]; exact Array.getElem_mem_toList hi') h0
    refine ⟨?_, fin l a w hall h⟩
    refine List.eq_nil_iff_forall_not_mem.2 fun j hj => ?_
    obtain ⟨h1, o, h2, _⟩ := mem_ready.1 hj
    have hlt : j < ops.size := (Array.getElem?_eq_some_iff.1 h2).1
    have := hall j hlt
    have hi' : j < l.size := by rw [h.lsz]; exact hlt
    rw [Array.getD_eq_getD_getElem?, Array.getElem?_eq_getElem hi', Option.getD_some] at this h1
    rw [this] at h1; cases h1
  | succ fuel ih =>
    intro l a w hc h
    refine ⟨fun hr => fin l a w (fun i => ?_) h, fun i hi => ?_⟩
    · induction i using Nat.strongRecOn with
      | ind i ihi =>
        intro hlt
        cases hb : l.getD i false with
        | true => rfl
        | false =>
          have hmem : i ∈ Region.ready .any ops l := by
            refine mem_ready.2 ⟨?_, ops[i], Array.getElem?_eq_getElem hlt, fun e he hbd => ?_⟩
            · have hi' : i < l.size := by rw [h.lsz]; exact hlt
              rw [Array.getD_eq_getD_getElem?, Array.getElem?_eq_getElem hi', Option.getD_some] at hb ⊢
              exact hb
            · have := (sound_spec hs (Array.getElem?_eq_getElem hlt)).1 e he hbd
              exact ihi e.on this (by omega)
          rw [hr] at hmem; cases hmem
    · obtain ⟨h1, o, h2, h3⟩ := mem_ready.1 hi
      refine wpOp_mono ?_ (step i o h2 l a w h h3)
      rintro a' w' ⟨v, rfl, t, s, hv⟩
      refine ih _ _ _ ?_ (h.put hs hV h2 t s hv)
      have hlt : i < ops.size := (Array.getElem?_eq_some_iff.1 h2).1
      have hi' : i < l.toList.length := by rw [Array.length_toList, h.lsz]; exact hlt
      rw [Array.toList_setIfInBounds, List.count_set hi']
      have hb : l.toList[i] = false := by
        rw [Array.getElem_toList]
        rw [Array.getD_eq_getD_getElem?, Array.getElem?_eq_getElem (by simpa using hi'), Option.getD_some] at h1
        exact h1
      have hpos : 0 < l.toList.count false := List.count_pos_iff.2 (by rw [← hb]; exact List.getElem_mem hi')
      have e1 : (false == false) = true := rfl
      have e2 : (true == false) = false := rfl
      rw [hb, e1, e2]
      simp only [if_true, Bool.false_eq_true, if_false]
      omega
/-- **The region, whatever its order.** -/
theorem wp_plan {id : Nat} {a : Act} {w : World} (V : Nat → Value → World → Prop) (T : World → World → Prop) (S : World → Prop) (hm : P.follows .mixedOrders = true) (hs : sound ops a.tmps.size = true) (hV : ∀ i v w w', V i v w → T w w' → V i v w') (hS : S w.drew)
    (step : ∀ (i : Nat) (o : Oper), ops[i]? = some o → Step P ops V T S a Qx i o)
    (fin : ∀ l a' w', (∀ i, i < ops.size → l.getD i false = true) → Inv ops V S a l a' w' → Qx .normal a' w') : (Code.region id ops true).wp P Qx a w := by
  refine wp_region_any hm ?_
  refine plan_any (a0 := a) hs hV step fin _ _ _ _ ?_ ⟨rfl, rfl, by simp, fun _ _ => rfl, fun i o hi hl => ?_, hS⟩
  · simp
  · have hlt : i < ops.size := (Array.getElem?_eq_some_iff.1 hi).1
    simp [Array.getD_eq_getD_getElem?, hlt] at hl
/-- An operation with one answer in every world that meets S. -/
theorem Step.pure {i : Nat} {o : Oper} (hi : ops[i]? = some o) (v : Value) (hT : ∀ w, T w w)
    (h : ∀ l a w, Inv ops V S a0 l a w → (∀ e ∈ o.after, Region.binds .any e = true → l.getD e.on false = true) →
      Region.wanted o (yielded ops a.tmps) = true ∧ (execOp a.eval o).run P w = .ok (.value v) w ∧ V i (match o.dst with | some _ => v | none => undef) w) : Step P ops V T S a0 Qx i o := by
  intro l a w hI hl
  obtain ⟨h1, h2, h3⟩ := h l a w hI hl
  unfold wpOp
  rw [hi]
  dsimp only
  rw [if_pos h1]
  refine .inl ?_
  unfold Oper.wp
  rw [h2, Oper.upon_value]
  exact ⟨v, rfl, hT w, hI.st, h3⟩
/-- Any operation that is done. -/
theorem Step.done {i : Nat} {o : Oper} (hi : ops[i]? = some o)
    (h : ∀ l a w, Inv ops V S a0 l a w → (∀ e ∈ o.after, Region.binds .any e = true → l.getD e.on false = true) →
      Region.wanted o (yielded ops a.tmps) = true ∧ o.wp P a w (fun a' w' => ∃ v, a' = a.put o.dst v ∧ T w w' ∧ S w' ∧ V i (match o.dst with | some _ => v | none => undef) w') Qx) : Step P ops V T S a0 Qx i o := by
  intro l a w hI hl
  obtain ⟨h1, h2⟩ := h l a w hI hl
  unfold wpOp
  rw [hi]
  dsimp only
  rw [if_pos h1]
  exact .inl h2
/-- An operation whose guard says no. -/
theorem Step.skip {i : Nat} {o : Oper} (hi : ops[i]? = some o) (hT : ∀ w, T w w)
    (h : ∀ l a w, Inv ops V S a0 l a w → (∀ e ∈ o.after, Region.binds .any e = true → l.getD e.on false = true) →
      Region.wanted o (yielded ops a.tmps) = false ∧ V i undef w) : Step P ops V T S a0 Qx i o := by
  intro l a w hI hl
  obtain ⟨h1, h2⟩ := h l a w hI hl
  unfold wpOp
  rw [hi]
  dsimp only
  rw [h1]
  refine ⟨undef, rfl, hT w, hI.st, ?_⟩
  cases o.dst <;> exact h2
/-- A call. -/
theorem Step.call {i : Nat} {o : Oper} {R : Value → World → World → Prop} (hi : ops[i]? = some o)
    (h : ∀ l a w, Inv ops V S a0 l a w → (∀ e ∈ o.after, Region.binds .any e = true → l.getD e.on false = true) →
      Region.wanted o (yielded ops a.tmps) = true ∧ ∃ f args, (execOp a.eval o).run P w = .ok (.enter f args) w ∧
        Calls P f args w fun e w' => ∃ v, e = .returned v ∧ T w w' ∧ S w' ∧ V i (match o.dst with | some _ => v | none => undef) w') : Step P ops V T S a0 Qx i o := by
  refine Step.done hi fun l a w hI hl => ?_
  obtain ⟨h1, f, args, h2, h3⟩ := h l a w hI hl
  refine ⟨h1, ?_⟩
  unfold Oper.wp
  rw [h2, Oper.upon_enter]
  refine h3.mono ?_
  rintro e w' ⟨v, rfl, t, s, hv⟩
  exact ⟨v, rfl, t, s, hv⟩
/-- What a slot that no operation writes holds. -/
def free (ops : Array Oper) (s : Nat) : Bool := ops.all fun o => match o.dst with | some d => !Nat.beq d s | none => true
theorem Inv.base {l : Array Bool} {a : Act} {w : World} (h : Inv ops V S a0 l a w) (s : Nat) (hf : free ops s = true) : a.eval (.tmp s) = a0.eval (.tmp s) := by
  show a.tmps.getD s undef = a0.tmps.getD s undef
  rw [Array.getD_eq_getD_getElem?, Array.getD_eq_getD_getElem?, h.old s]
  intro i o hi hd
  have := Array.all_eq_true_iff_forall_mem.1 hf o (Array.mem_of_getElem? hi)
  rw [hd] at this
  simp at this
/-- What an operation that came ahead left. -/
theorem Inv.at_ {l : Array Bool} {a : Act} {w : World} (h : Inv ops V S a0 l a w) (j d : Nat) (o : Oper) (hj : ops[j]? = some o) (hd : o.dst = some d) (hl : l.getD j false = true) : V j (a.eval (.tmp d)) w := by
  have := h.val j o hj hl
  unfold slot at this
  rw [hd] at this
  exact this
theorem wanted_of {o : Oper} {a : Act} {j d : Nat} {oj : Oper} {b : Bool} (hg : o.guard = some (j, b)) (hj : ops[j]? = some oj) (hd : oj.dst = some d) (hlt : d < a.tmps.size) (hv : a.eval (.tmp d) = .bool b) : Region.wanted o (yielded ops a.tmps) = true := by
  have h : a.tmps[d]? = some (.bool b) := by
    have : a.tmps.getD d undef = .bool b := hv
    rw [Array.getD_eq_getD_getElem?, Array.getElem?_eq_getElem hlt, Option.getD_some] at this
    rw [Array.getElem?_eq_getElem hlt, this]
  unfold Region.wanted yielded
  rw [hg]
  dsimp only
  rw [hj]
  simp [hd, h]
theorem wanted_none {o : Oper} {a : Act} (hg : o.guard = none) : Region.wanted o (yielded ops a.tmps) = true := by
  unfold Region.wanted; rw [hg]
theorem unwanted_of {o : Oper} {a : Act} {j d : Nat} {oj : Oper} {b : Bool} (hg : o.guard = some (j, b)) (hj : ops[j]? = some oj) (hd : oj.dst = some d) (hv : a.eval (.tmp d) = undef ∨ a.eval (.tmp d) = .bool (!b)) : Region.wanted o (yielded ops a.tmps) = false := by
  unfold Region.wanted yielded
  rw [hg]
  dsimp only
  rw [hj]
  have hv' : a.tmps.getD d undef = undef ∨ a.tmps.getD d undef = .bool (!b) := hv
  rw [Array.getD_eq_getD_getElem?] at hv'
  simp only [Option.bind_some, hd]
  cases h : a.tmps[d]? with
  | none => rfl
  | some x =>
    rw [h, Option.getD_some] at hv'
    rcases hv' with rfl | rfl
    · rfl
    · cases b <;> rfl
end
/-! ### What an operation does, from its operands' values -/
section
variable {P : Program} {o : Oper} {a : Act} {w : World} {x y z : Operand} {X Y Z v : Value}
theorem ex_move (ho : o.op = .move x) (hx : a.eval x = v) : (execOp a.eval o).run P w = .ok (.value v) w := by
  unfold execOp; simp only [ho, hx, Sem.run_pure]
theorem ex_assign (ho : o.op = .assign x) (hx : a.eval x = v) : (execOp a.eval o).run P w = .ok (.value v) w := by
  unfold execOp; simp only [ho, hx, Sem.run_pure]
theorem ex_pick_t (ho : o.op = .pick x y z) (hx : a.eval x = .bool true) (hy : a.eval y = v) : (execOp a.eval o).run P w = .ok (.value v) w := by
  unfold execOp; simp only [ho, hx, hy]; rfl
theorem ex_pick_f (ho : o.op = .pick x y z) (hx : a.eval x = .bool false) (hz : a.eval z = v) : (execOp a.eval o).run P w = .ok (.value v) w := by
  unfold execOp; simp only [ho, hx, hz]; rfl
theorem ex_bin {op : BinOp} {T T' : TypeId} (ho : o.op = .binOp op T x y T') (hx : a.eval x = X) (hy : a.eval y = Y)
    (h : (do eqGuard op T x y X Y; binOp op T X Y : Sem Value).run P w = .ok v w) : (execOp a.eval o).run P w = .ok (.value v) w := by
  unfold execOp; simp only [ho, hx, hy]
  simp only [Sem.run_bind] at h ⊢
  rw [h]; rfl
theorem ex_un {op : UnOp} {T : TypeId} (ho : o.op = .unOp op T x) (hx : a.eval x = X) (h : (Op.unary op X).run P w = .ok v w) : (execOp a.eval o).run P w = .ok (.value v) w := by
  unfold execOp; simp only [ho, hx]; rw [Sem.run_bind, h]; rfl
theorem ex_conv {s d : TypeId} (ho : o.op = .convert s d x) (hx : a.eval x = X) (h : (convert s d X).run P w = .ok v w) : (execOp a.eval o).run P w = .ok (.value v) w := by
  unfold execOp; simp only [ho, hx]; rw [Sem.run_bind, h]; rfl
theorem ex_load (ty : TypeId) (ho : o.op = .load ty x) (b : Nat) (cs : List Value) (d : TypeDesc) (hx : a.eval x = .pointer (some ⟨b, 0, none⟩)) (hr : w.rangeAt b 0 cs)
    (hu : P.underlying ty = some d) (hd : d.isRow = true) (hi : (P.info? ty).map (·.size) = some cs.length) : (execOp a.eval o).run P w = .ok (.value (.agg cs.toArray)) w := by
  unfold execOp
  simp only [ho, hx, Instr.loadAt, Instr.sureAddr, Sem.run_bind, Sem.run_pure, Result.andThen_ok, run_loadVar_mid w b 0 ty cs d hr hu hd hi]
end
/-! ### For the writing out -/
section
variable {P : Program} {ops : Array Oper} {Qx : Exit → Act → World → Prop} {V : Nat → Value → World → Prop} {T : World → World → Prop} {S : World → Prop} {a0 : Act}
theorem pget_at {l : List Oper} (h : ops = l.toArray) (i : Nat) {o : Oper} (e : l[i]? = some o) : ops[i]? = some o := by rw [h]; simpa using e
theorem at_eq {k : Nat} {X x : Value} {w : World} (hv : V k = fun v _ => v = X) (h : V k x w) : x = X := by rw [hv] at h; exact h
theorem at_mk {k : Nat} {X x : Value} {w : World} (hv : V k = fun v _ => v = X) (e : x = X) : V k x w := by rw [hv]; exact e
theorem at_p {k : Nat} {p : Value → World → Prop} {x : Value} {w : World} (hv : V k = p) (h : V k x w) : p x w := by rw [hv] at h; exact h
theorem p_at {k : Nat} {p : Value → World → Prop} {x : Value} {w : World} (hv : V k = p) (h : p x w) : V k x w := by rw [hv]; exact h
theorem hl_at {o : Oper} {l : Array Bool} (hl : ∀ e ∈ o.after, Region.binds .any e = true → l.getD e.on false = true) (idx : Nat) {e : Edge} (h : o.after[idx]? = some e) (hb : Region.binds .any e = true) : l.getD e.on false = true :=
  hl e (Array.mem_of_getElem? h) hb
theorem lt_of {l : Array Bool} {a : Act} {w : World} {n d : Nat} (h : Inv ops V S a0 l a w) (hz : a0.tmps.size = n) (hd : Nat.blt d n = true) : d < a.tmps.size := by
  rw [h.sz, hz]; rwa [Nat.blt_eq] at hd
def StepsFrom (P : Program) (ops : Array Oper) (V : Nat → Value → World → Prop) (T : World → World → Prop) (S : World → Prop) (a0 : Act) (Qx : Exit → Act → World → Prop) : Nat → List Oper → Prop
  | _, [] => True
  | k, o :: r => Step P ops V T S a0 Qx k o ∧ StepsFrom P ops V T S a0 Qx (k + 1) r
theorem sf_cons {k : Nat} {o : Oper} {r : List Oper} (h : Step P ops V T S a0 Qx k o) (t : StepsFrom P ops V T S a0 Qx (k + 1) r) : StepsFrom P ops V T S a0 Qx k (o :: r) := ⟨h, t⟩
theorem steps_from : ∀ (l : List Oper) (k : Nat), StepsFrom P ops V T S a0 Qx k l → ∀ (i : Nat) (o : Oper), l[i]? = some o → Step P ops V T S a0 Qx (k + i) o
  | [], _, _, i, o, h => by simp at h
  | o' :: r, k, h, 0, o, e => by
    simp only [List.getElem?_cons_zero, Option.some.injEq] at e
    subst e
    exact h.1
  | o' :: r, k, h, i + 1, o, e => by
    simp only [List.getElem?_cons_succ] at e
    have := steps_from r (k + 1) h.2 i o e
    rwa [show k + 1 + i = k + (i + 1) by omega] at this
theorem steps_all {l : List Oper} (hO : ops = l.toArray) (h : StepsFrom P ops V T S a0 Qx 0 l) (i : Nat) (o : Oper) (e : ops[i]? = some o) : Step P ops V T S a0 Qx i o := by
  have := steps_from l 0 h i o (by rw [hO] at e; simpa using e)
  rwa [Nat.zero_add] at this
def StableL (T : World → World → Prop) : List (Value → World → Prop) → Prop
  | [] => True
  | p :: r => (∀ v w w', p v w → T w w' → p v w') ∧ StableL T r
theorem sl_cons {p : Value → World → Prop} {r : List (Value → World → Prop)} (h : ∀ v w w', p v w → T w w' → p v w') (t : StableL T r) : StableL T (p :: r) := ⟨h, t⟩
theorem stable_all : ∀ (l : List (Value → World → Prop)), StableL T l → ∀ (i : Nat) v w w', l.getD i (fun _ _ => True) v w → T w w' → l.getD i (fun _ _ => True) v w'
  | [], _, i, v, w, w', h, _ => by simp
  | p :: r, h, 0, v, w, w', hp, t => by simp only [List.getD_cons_zero] at hp ⊢; exact h.1 v w w' hp t
  | p :: r, h, i + 1, v, w, w', hp, t => by simp only [List.getD_cons_succ] at hp ⊢; exact stable_all r h.2 i v w w' hp t
theorem stable_of {VL : List (Value → World → Prop)} (hV : V = fun i => VL.getD i (fun _ _ => True)) (h : StableL T VL) (i : Nat) (v : Value) (w w' : World) (hp : V i v w) (t : T w w') : V i v w' := by
  rw [hV] at hp ⊢; exact stable_all VL h i v w w' hp t
theorem region_gen3 {id : Nat} {fl : Bool} {a : Act} {w : World} (h : ∀ OPS QQ A, OPS = ops → QQ = Qx → A = a → (Code.region id OPS fl).wp P QQ A w) : (Code.region id ops fl).wp P Qx a w := h _ _ _ rfl rfl rfl
theorem vat {VL : List (Value → World → Prop)} (hV : V = fun i => VL.getD i (fun _ _ => True)) (i : Nat) : V i = VL.getD i (fun _ _ => True) := by rw [hV]
end
section
variable {P : Program} {o : Oper} {a : Act} {w : World} {x y z : Operand} {X Y Z v : Value} {K : Act → World → Prop} {Qx : Exit → Act → World → Prop}
theorem ev_const (a : Act) (v : Value) : a.eval (.const v) = v := rfl
theorem ex_call {f : FuncId} {ar : Array Operand} {args : Array Value} {ats : Array TypeId} (ho : o.op = .call ⟨.value (.func f), ar, ats⟩) (ha : ar.map a.eval = args) {fn : Func} (hf : P.funcs[f]? = some fn)
    (hn : (fn.name == "runtime.NumGoroutine") = false) (hb : fn.body.isNone = false) : (execOp a.eval o).run P w = .ok (.enter f args) w := by
  subst ha
  unfold execOp
  simp only [ho]
  have hn' : ¬ fn.name = "runtime.NumGoroutine" := by intro e; rw [e] at hn; simp at hn
  have hb' : ¬ fn.body = none := by intro e; rw [e] at hb; simp at hb
  simp [resolve, Deferred.ofValue, invoke, callFunc, hf, hn', hb', Act.eval]
theorem ex_len {T : TypeId} {s : ByteArray} {n : Int} (ho : o.op = .call ⟨.builtin .len, #[x], #[T]⟩) (hT : P.underlying T = some .string) (hx : a.eval x = .string s) (hs : (s.size : Int) = n) : (execOp a.eval o).run P w = .ok (.value (.int .i64 n)) w := by
  subst hs
  unfold execOp
  simp only [ho, resolve, List.map_toArray, List.map_cons, List.map_nil, hx]
  simp [invoke, builtin, go_sem, Builtin.len_, run_underlying hT]
theorem ex_build {t : TypeId} {parts : Array (Nat × Operand)} {cs : Array Value} (ho : o.op = .build t parts) (hb : P.built t (parts.map fun (i, x) => (i, a.eval x)).toList = some cs) : (execOp a.eval o).run P w = .ok (.value (.agg cs)) w := by
  unfold execOp
  simp only [ho, Sem.run_bind, run_build w t _ cs hb, Result.andThen_ok, Sem.run_pure]
theorem wp_enter {f : FuncId} {args : Array Value} (h1 : (execOp a.eval o).run P w = .ok (.enter f args) w) (h : Calls P f args w fun
      | .returned v, w'' => K (a.put o.dst v) w''
      | .panicked chain, w'' => Qx (.panic chain) a w''
      | .outgrown, _ => LetsOut Qx) : o.wp P a w K Qx := by
  unfold Oper.wp
  rw [h1, Oper.upon_enter]
  exact h
theorem wp_value (h1 : (execOp a.eval o).run P w = .ok (.value v) w) (h : K (a.put o.dst v) w) : o.wp P a w K Qx := by
  unfold Oper.wp
  rw [h1, Oper.upon_value]
  exact h
end
end Go.Proofs.YtjiepemapffgjaaGreatDoor.Plan

namespace Go.Proofs.YtjiepemapffgjaaGreatDoor.Coi
open Go.RowKit
open Mem Num Cod Sh
set_option linter.unusedVariables false
set_option linter.unusedSimpArgs false

def h16 : ByteArray := ⟨#[48, 49, 50, 51, 52, 53, 54, 55, 56, 57, 97, 98, 99, 100, 101, 102]⟩
def fxI : IN := ⟨h16, 1, 1, ⟨#[115]⟩⟩
def fxO : OU := ⟨1, 5, h16, ⟨#[]⟩, 0, ⟨#[]⟩, 0, 0, ⟨#[]⟩⟩
def fxT : TX := ⟨1, fun _ => fxI, 1, fun _ => fxO, PF.zero⟩
def fxC : ByteArray := ⟨#[67, 1, 48, 49, 50, 51, 52, 53, 54, 55, 56, 57, 97, 98, 99, 100, 101, 102, 1, 1, 1, 1, 0, 0, 0, 0, 0, 0, 0, 5, 48, 49, 50, 51, 52, 53, 54, 55, 56, 57, 97, 98, 99, 100, 101, 102]⟩
def fxS : ByteArray := ⟨#[0, 46, 67, 1, 48, 49, 50, 51, 52, 53, 54, 55, 56, 57, 97, 98, 99, 100, 101, 102, 1, 1, 1, 1, 0, 0, 0, 0, 0, 0, 0, 5, 48, 49, 50, 51, 52, 53, 54, 55, 56, 57, 97, 98, 99, 100, 101, 102, 0, 1, 115, 0, 13, 0, 0, 0, 0, 0, 0, 0, 0, 0, 0, 0, 0, 0]⟩
theorem fx_core : coreS fxT = fxC := by decide +kernel
theorem fx_tx : txB fxT = fxS := by decide +kernel
theorem fx_pz : pfB PF.zero = ⟨#[0, 0, 0, 0, 0, 0, 0, 0, 0, 0, 0, 0, 0]⟩ := by decide +kernel
theorem fx_in : InR fxI := ⟨by decide, by decide, by decide, by decide, by decide, by decide⟩
theorem fx_out : Fit fxO := ⟨by decide, by decide, .inl ⟨rfl, rfl, rfl, rfl, rfl, rfl, rfl⟩⟩
theorem fx_inok : fxI.ok := ⟨by decide, ⟨by decide, by decide⟩, ⟨by decide, by decide⟩, by decide⟩
theorem fx_outok : fxO.ok := ⟨⟨by decide, by decide⟩, ⟨by decide, by decide⟩, by decide, by decide, ⟨by decide, by decide⟩, by decide, ⟨by decide, by decide⟩, ⟨by decide, by decide⟩, by decide⟩
theorem fx_right : RightT fxT := by
  refine ⟨by decide, by decide, fun i _ => fx_in, ?_, by decide, by decide, fun i _ => fx_out, ⟨by decide, .inl rfl, by decide, fun i hi => absurd hi (by show ¬ i < 0; omega)⟩⟩
  rintro ⟨i, hi, j, hj, _⟩
  have : i < 1 := hi
  omega
theorem fx_ok : fxT.ok := ⟨by decide, fun i _ => fx_inok, by decide, fun i _ => fx_outok, PFz_ok⟩
def fxL : OU := ⟨2, 1, h16, h16, 9, h16, 2, 3, ⟨#[]⟩⟩
def fxP : OU := ⟨3, 1, h16, h16, 9, ⟨#[]⟩, 0, 0, h16⟩
def fxN : OU := ⟨1, 1, h16, ⟨#[]⟩, 0, ⟨#[]⟩, 0, 0, h16⟩
theorem fx_fits : Fit fxL ∧ Fit fxP ∧ ¬ Fit fxN := by
  refine ⟨⟨by decide, by decide, .inr (.inl ⟨rfl, by decide, by decide, by decide, by decide, by decide, by decide, rfl⟩)⟩, ⟨by decide, by decide, .inr (.inr ⟨rfl, by decide, by decide, by decide, by decide, rfl, rfl, rfl⟩)⟩, ?_⟩
  rintro ⟨_, _, h | h | h⟩
  · exact absurd h.2.2.2.2.2.2 (by decide)
  · exact absurd h.1 (by decide)
  · exact absurd h.1 (by decide)
theorem zero_right : ¬ RightT TX.zero := fun h => absurd h.1 (by decide)
theorem SL.one {α : Type} {C : α → List Value} {k : Nat} (w : World) (x : α) (t : TypeId) : SL C k (w.alloc (.cells (C x).toArray t)) (some ⟨w.heap.size, 0, none⟩) 1 (fun _ => x) := by
  refine .inr ⟨w.heap.size, 0, rfl, fun i hi j v hv => ?_⟩
  obtain rfl : i = 0 := by omega
  rw [World.cell?_alloc_at _ _ _ _ (by simp)]
  simpa using hv
theorem built_fxp (v0 : ByteArray) : Tryz.prog.built 31 [(0, .string v0), (1, .int .i64 1)] = some #[.string v0, .int .i64 1] := by kernel_rfl
theorem wpl_fxp {ops : Array Oper} {rest : List Oper} {o : Oper} {a : Act} {w : World} {Q : Exit → Act → World → Prop} (hg : o.guard = none) {n0 : Nat} (v0 : ByteArray) (ho : o.op = .build 31 #[(0, .tmp n0), (1, .const (.int .i64 1))]) (d : Option Tmp) (hd : o.dst = d) (h0 : a.eval (.tmp n0) = .string v0) (h : wpList Tryz.prog ops Q rest (a.put d (.agg #[.string v0, .int .i64 1])) w) : wpList Tryz.prog ops Q (o :: rest) a w := by
  refine wpList_buildTo hg 31 _ ho d hd _ ?_ h
  simp only [List.map_toArray, List.map_cons, List.map_nil, h0]
  exact built_fxp v0
theorem built_fxi (v0 : ByteArray) : Tryz.prog.built 53 [(0, .agg #[.string v0, .int .i64 1]), (1, .int .i64 1), (2, .string ⟨#[115]⟩)] = some #[.string v0, .int .i64 1, .int .i64 1, .string ⟨#[115]⟩] := by kernel_rfl
theorem wpl_fxi {ops : Array Oper} {rest : List Oper} {o : Oper} {a : Act} {w : World} {Q : Exit → Act → World → Prop} (hg : o.guard = none) {n0 : Nat} (v0 : ByteArray) (ho : o.op = .build 53 #[(0, .tmp n0), (1, .const (.int .i64 1)), (2, .const (.string ⟨#[115]⟩))]) (d : Option Tmp) (hd : o.dst = d) (h0 : a.eval (.tmp n0) = .agg #[.string v0, .int .i64 1]) (h : wpList Tryz.prog ops Q rest (a.put d (.agg #[.string v0, .int .i64 1, .int .i64 1, .string ⟨#[115]⟩])) w) : wpList Tryz.prog ops Q (o :: rest) a w := by
  refine wpList_buildTo hg 53 _ ho d hd _ ?_ h
  simp only [List.map_toArray, List.map_cons, List.map_nil, h0]
  exact built_fxi v0
theorem built_fxo (v0 : ByteArray) : Tryz.prog.built 47 [(0, .int .i64 1), (1, .int .u64 5), (2, .string v0)] = some #[.int .i64 1, .int .u64 5, .string v0, .string ⟨#[]⟩, .int .i64 0, .string ⟨#[]⟩, .int .u64 0, .int .i64 0, .string ⟨#[]⟩] := by kernel_rfl
theorem wpl_fxo {ops : Array Oper} {rest : List Oper} {o : Oper} {a : Act} {w : World} {Q : Exit → Act → World → Prop} (hg : o.guard = none) {n2 : Nat} (v0 : ByteArray) (ho : o.op = .build 47 #[(0, .const (.int .i64 1)), (1, .const (.int .u64 5)), (2, .tmp n2)]) (d : Option Tmp) (hd : o.dst = d) (h2 : a.eval (.tmp n2) = .string v0) (h : wpList Tryz.prog ops Q rest (a.put d (.agg #[.int .i64 1, .int .u64 5, .string v0, .string ⟨#[]⟩, .int .i64 0, .string ⟨#[]⟩, .int .u64 0, .int .i64 0, .string ⟨#[]⟩])) w) : wpList Tryz.prog ops Q (o :: rest) a w := by
  refine wpList_buildTo hg 47 _ ho d hd _ ?_ h
  simp only [List.map_toArray, List.map_cons, List.map_nil, h2]
  exact built_fxo v0
theorem built_fxl (v0 : ByteArray) : Tryz.prog.built 47 [(0, .int .i64 2), (1, .int .u64 1), (2, .string v0), (3, .string v0), (4, .int .i64 9), (5, .string v0), (6, .int .u64 2), (7, .int .i64 3)] = some #[.int .i64 2, .int .u64 1, .string v0, .string v0, .int .i64 9, .string v0, .int .u64 2, .int .i64 3, .string ⟨#[]⟩] := by kernel_rfl
theorem wpl_fxl {ops : Array Oper} {rest : List Oper} {o : Oper} {a : Act} {w : World} {Q : Exit → Act → World → Prop} (hg : o.guard = none) {n2 n3 n5 : Nat} (v0 : ByteArray) (ho : o.op = .build 47 #[(0, .const (.int .i64 2)), (1, .const (.int .u64 1)), (2, .tmp n2), (3, .tmp n3), (4, .const (.int .i64 9)), (5, .tmp n5), (6, .const (.int .u64 2)), (7, .const (.int .i64 3))]) (d : Option Tmp) (hd : o.dst = d) (h2 : a.eval (.tmp n2) = .string v0) (h3 : a.eval (.tmp n3) = .string v0) (h5 : a.eval (.tmp n5) = .string v0) (h : wpList Tryz.prog ops Q rest (a.put d (.agg #[.int .i64 2, .int .u64 1, .string v0, .string v0, .int .i64 9, .string v0, .int .u64 2, .int .i64 3, .string ⟨#[]⟩])) w) : wpList Tryz.prog ops Q (o :: rest) a w := by
  refine wpList_buildTo hg 47 _ ho d hd _ ?_ h
  simp only [List.map_toArray, List.map_cons, List.map_nil, h2, h3, h5]
  exact built_fxl v0
theorem built_fxq (v0 : ByteArray) : Tryz.prog.built 47 [(0, .int .i64 3), (1, .int .u64 1), (2, .string v0), (3, .string v0), (4, .int .i64 9), (8, .string v0)] = some #[.int .i64 3, .int .u64 1, .string v0, .string v0, .int .i64 9, .string ⟨#[]⟩, .int .u64 0, .int .i64 0, .string v0] := by kernel_rfl
theorem wpl_fxq {ops : Array Oper} {rest : List Oper} {o : Oper} {a : Act} {w : World} {Q : Exit → Act → World → Prop} (hg : o.guard = none) {n2 n3 n5 : Nat} (v0 : ByteArray) (ho : o.op = .build 47 #[(0, .const (.int .i64 3)), (1, .const (.int .u64 1)), (2, .tmp n2), (3, .tmp n3), (4, .const (.int .i64 9)), (8, .tmp n5)]) (d : Option Tmp) (hd : o.dst = d) (h2 : a.eval (.tmp n2) = .string v0) (h3 : a.eval (.tmp n3) = .string v0) (h5 : a.eval (.tmp n5) = .string v0) (h : wpList Tryz.prog ops Q rest (a.put d (.agg #[.int .i64 3, .int .u64 1, .string v0, .string v0, .int .i64 9, .string ⟨#[]⟩, .int .u64 0, .int .i64 0, .string v0])) w) : wpList Tryz.prog ops Q (o :: rest) a w := by
  refine wpList_buildTo hg 47 _ ho d hd _ ?_ h
  simp only [List.map_toArray, List.map_cons, List.map_nil, h2, h3, h5]
  exact built_fxq v0
theorem built_fxa (v0 : Int) : Tryz.prog.built 47 [(1, .int .u64 v0)] = some #[.int .i64 0, .int .u64 v0, .string ⟨#[]⟩, .string ⟨#[]⟩, .int .i64 0, .string ⟨#[]⟩, .int .u64 0, .int .i64 0, .string ⟨#[]⟩] := by kernel_rfl
theorem wpl_fxa {ops : Array Oper} {rest : List Oper} {o : Oper} {a : Act} {w : World} {Q : Exit → Act → World → Prop} (hg : o.guard = none) (v0 : Int) (ho : o.op = .build 47 #[(1, .const (.int .u64 v0))]) (d : Option Tmp) (hd : o.dst = d)  (h : wpList Tryz.prog ops Q rest (a.put d (.agg #[.int .i64 0, .int .u64 v0, .string ⟨#[]⟩, .string ⟨#[]⟩, .int .i64 0, .string ⟨#[]⟩, .int .u64 0, .int .i64 0, .string ⟨#[]⟩])) w) : wpList Tryz.prog ops Q (o :: rest) a w := by
  refine wpList_buildTo hg 47 _ ho d hd _ ?_ h
  simp only [List.map_toArray, List.map_cons, List.map_nil]
  exact built_fxa v0
theorem built_fxt (v0 v1 : Nat) : Tryz.prog.built 29 [(0, .slice (some ⟨v0, 0, none⟩) 1 1), (1, .slice (some ⟨v1, 0, none⟩) 1 1)] = some #[.slice (some ⟨v0, 0, none⟩) 1 1, .slice (some ⟨v1, 0, none⟩) 1 1, .int .u64 0, .string ⟨#[]⟩, .string ⟨#[]⟩, .slice none 0 0] := by kernel_rfl
theorem wpl_fxt {ops : Array Oper} {rest : List Oper} {o : Oper} {a : Act} {w : World} {Q : Exit → Act → World → Prop} (hg : o.guard = none) {n0 n1 : Nat} (v0 v1 : Nat) (ho : o.op = .build 29 #[(0, .tmp n0), (1, .tmp n1)]) (d : Option Tmp) (hd : o.dst = d) (h0 : a.eval (.tmp n0) = .slice (some ⟨v0, 0, none⟩) 1 1) (h1 : a.eval (.tmp n1) = .slice (some ⟨v1, 0, none⟩) 1 1) (h : wpList Tryz.prog ops Q rest (a.put d (.agg #[.slice (some ⟨v0, 0, none⟩) 1 1, .slice (some ⟨v1, 0, none⟩) 1 1, .int .u64 0, .string ⟨#[]⟩, .string ⟨#[]⟩, .slice none 0 0])) w) : wpList Tryz.prog ops Q (o :: rest) a w := by
  refine wpList_buildTo hg 29 _ ho d hd _ ?_ h
  simp only [List.map_toArray, List.map_cons, List.map_nil, h0, h1]
  exact built_fxt v0 v1
theorem info_inx : (Tryz.prog.info? 53).map (fun i => (i.zero, i.size, i.bytes)) = some (some (.agg #[.string ⟨#[]⟩, .int .i64 0, .int .i64 0, .string ⟨#[]⟩]), 4, 48) := by kernel_rfl
theorem fill_inx (v0 : ByteArray) (v1 v2 : Int) (v3 : ByteArray) : Instr.fill (fun i => some (i * 4, 4)) ((Array.range (1 * 4)).map ((Value.agg #[.string ⟨#[]⟩, .int .i64 0, .int .i64 0, .string ⟨#[]⟩]).cells[· % (Value.agg #[.string ⟨#[]⟩, .int .i64 0, .int .i64 0, .string ⟨#[]⟩]).cells.size]!)) [(0, .agg #[.string v0, .int .i64 v1, .int .i64 v2, .string v3])] = some #[.string v0, .int .i64 v1, .int .i64 v2, .string v3] := by kernel_rfl
theorem wpo_rowinx {o : Oper} {a : Act} {w : World} {K : Act → World → Prop} {Q : Exit → Act → World → Prop} {n0 : Nat} (v0 : ByteArray) (v1 v2 : Int) (v3 : ByteArray) (ho : o.op = .buildSlice 22 1 #[(0, .tmp n0)]) (h0 : a.eval (.tmp n0) = .agg #[.string v0, .int .i64 v1, .int .i64 v2, .string v3])
    (h : K (a.put o.dst (.slice (some ⟨w.heap.size, 0, none⟩) 1 1)) (w.alloc (.cells #[.string v0, .int .i64 v1, .int .i64 v2, .string v3] 53))) : o.wp Tryz.prog a w K Q := by
  obtain ⟨i0, hi0, hz0, hz1, hz2⟩ := info_of info_inx
  refine wp_buildSlice 22 53 1 _ ho #[.string v0, .int .i64 v1, .int .i64 v2, .string v3] i0 _ Tryz.underlying22 hi0 hz0 (by rw [hz1]; decide) (by rw [hz1]; decide) ?_ h
  rw [hz1]
  simp only [List.map_toArray, List.map_cons, List.map_nil, h0]
  exact fill_inx v0 v1 v2 v3
theorem wpr_inx {ops : Array Oper} {rest : List Oper} {o : Oper} {a : Act} {w : World} {Q : Exit → Act → World → Prop} (hg : o.guard = none) {n0 : Nat} (v0 : ByteArray) (v1 v2 : Int) (v3 : ByteArray) (ho : o.op = .buildSlice 22 1 #[(0, .tmp n0)]) (h0 : a.eval (.tmp n0) = .agg #[.string v0, .int .i64 v1, .int .i64 v2, .string v3])
    (h : wpList Tryz.prog ops Q rest (a.put o.dst (.slice (some ⟨w.heap.size, 0, none⟩) 1 1)) (w.alloc (.cells #[.string v0, .int .i64 v1, .int .i64 v2, .string v3] 53))) : wpList Tryz.prog ops Q (o :: rest) a w :=
  wpList_plain hg fun _ hK => wpo_rowinx v0 v1 v2 v3 ho h0 (hK _ _ h)
theorem wpr_out {ops : Array Oper} {rest : List Oper} {o : Oper} {a : Act} {w : World} {Q : Exit → Act → World → Prop} (hg : o.guard = none) {n0 : Nat} (v0 v1 : Int) (v2 v3 : ByteArray) (v4 : Int) (v5 : ByteArray) (v6 v7 : Int) (v8 : ByteArray) (ho : o.op = .buildSlice 23 1 #[(0, .tmp n0)]) (h0 : a.eval (.tmp n0) = .agg #[.int .i64 v0, .int .u64 v1, .string v2, .string v3, .int .i64 v4, .string v5, .int .u64 v6, .int .i64 v7, .string v8])
    (h : wpList Tryz.prog ops Q rest (a.put o.dst (.slice (some ⟨w.heap.size, 0, none⟩) 1 1)) (w.alloc (.cells #[.int .i64 v0, .int .u64 v1, .string v2, .string v3, .int .i64 v4, .string v5, .int .u64 v6, .int .i64 v7, .string v8] 47))) : wpList Tryz.prog ops Q (o :: rest) a w :=
  wpList_plain hg fun _ hK => wpo_rowout v0 v1 v2 v3 v4 v5 v6 v7 v8 ho h0 (hK _ _ h)
theorem fill_out2 (v0 v1 : Int) : Instr.fill (fun i => some (i * 9, 9)) ((Array.range (2 * 9)).map ((Value.agg #[.int .i64 0, .int .u64 0, .string ⟨#[]⟩, .string ⟨#[]⟩, .int .i64 0, .string ⟨#[]⟩, .int .u64 0, .int .i64 0, .string ⟨#[]⟩]).cells[· % (Value.agg #[.int .i64 0, .int .u64 0, .string ⟨#[]⟩, .string ⟨#[]⟩, .int .i64 0, .string ⟨#[]⟩, .int .u64 0, .int .i64 0, .string ⟨#[]⟩]).cells.size]!)) [(0, .agg #[.int .i64 0, .int .u64 v0, .string ⟨#[]⟩, .string ⟨#[]⟩, .int .i64 0, .string ⟨#[]⟩, .int .u64 0, .int .i64 0, .string ⟨#[]⟩]), (1, .agg #[.int .i64 0, .int .u64 v1, .string ⟨#[]⟩, .string ⟨#[]⟩, .int .i64 0, .string ⟨#[]⟩, .int .u64 0, .int .i64 0, .string ⟨#[]⟩])] = some #[.int .i64 0, .int .u64 v0, .string ⟨#[]⟩, .string ⟨#[]⟩, .int .i64 0, .string ⟨#[]⟩, .int .u64 0, .int .i64 0, .string ⟨#[]⟩, .int .i64 0, .int .u64 v1, .string ⟨#[]⟩, .string ⟨#[]⟩, .int .i64 0, .string ⟨#[]⟩, .int .u64 0, .int .i64 0, .string ⟨#[]⟩] := by kernel_rfl
theorem wpr_out2 {ops : Array Oper} {rest : List Oper} {o : Oper} {a : Act} {w : World} {Q : Exit → Act → World → Prop} (hg : o.guard = none) {n0 n1 : Nat} (v0 v1 : Int) (ho : o.op = .buildSlice 23 2 #[(0, .tmp n0), (1, .tmp n1)]) (h0 : a.eval (.tmp n0) = .agg #[.int .i64 0, .int .u64 v0, .string ⟨#[]⟩, .string ⟨#[]⟩, .int .i64 0, .string ⟨#[]⟩, .int .u64 0, .int .i64 0, .string ⟨#[]⟩]) (h1 : a.eval (.tmp n1) = .agg #[.int .i64 0, .int .u64 v1, .string ⟨#[]⟩, .string ⟨#[]⟩, .int .i64 0, .string ⟨#[]⟩, .int .u64 0, .int .i64 0, .string ⟨#[]⟩])
    (h : wpList Tryz.prog ops Q rest (a.put o.dst (.slice (some ⟨w.heap.size, 0, none⟩) 2 2)) (w.alloc (.cells #[.int .i64 0, .int .u64 v0, .string ⟨#[]⟩, .string ⟨#[]⟩, .int .i64 0, .string ⟨#[]⟩, .int .u64 0, .int .i64 0, .string ⟨#[]⟩, .int .i64 0, .int .u64 v1, .string ⟨#[]⟩, .string ⟨#[]⟩, .int .i64 0, .string ⟨#[]⟩, .int .u64 0, .int .i64 0, .string ⟨#[]⟩] 47))) : wpList Tryz.prog ops Q (o :: rest) a w := by
  obtain ⟨i0, hi0, hz0, hz1, hz2⟩ := info_of info_out
  refine wpList_buildSlice hg 23 47 2 _ ho #[.int .i64 0, .int .u64 v0, .string ⟨#[]⟩, .string ⟨#[]⟩, .int .i64 0, .string ⟨#[]⟩, .int .u64 0, .int .i64 0, .string ⟨#[]⟩, .int .i64 0, .int .u64 v1, .string ⟨#[]⟩, .string ⟨#[]⟩, .int .i64 0, .string ⟨#[]⟩, .int .u64 0, .int .i64 0, .string ⟨#[]⟩] i0 _ Tryz.underlying23 hi0 hz0 (by rw [hz1]; decide) (by rw [hz1]; decide) ?_ h
  rw [hz1]
  simp only [List.map_toArray, List.map_cons, List.map_nil, h0, h1]
  exact fill_out2 v0 v1
def fxA (v : Int) : OU := ⟨0, v, ⟨#[]⟩, ⟨#[]⟩, 0, ⟨#[]⟩, 0, 0, ⟨#[]⟩⟩
def fxF (v0 v1 : Int) (i : Nat) : OU := if i = 0 then fxA v0 else if i = 1 then fxA v1 else fxA 0
theorem fxF_sl (w : World) (v0 v1 : Int) (t : TypeId) : SL OU.cells 9 (w.alloc (.cells #[.int .i64 0, .int .u64 v0, .string ⟨#[]⟩, .string ⟨#[]⟩, .int .i64 0, .string ⟨#[]⟩, .int .u64 0, .int .i64 0, .string ⟨#[]⟩, .int .i64 0, .int .u64 v1, .string ⟨#[]⟩, .string ⟨#[]⟩, .int .i64 0, .string ⟨#[]⟩, .int .u64 0, .int .i64 0, .string ⟨#[]⟩] t)) (some ⟨w.heap.size, 0, none⟩) 2 (fxF v0 v1) := by
  refine .inr ⟨w.heap.size, 0, rfl, fun i hi j v hv => ?_⟩
  rw [World.cell?_alloc_at _ _ _ _ (by simp)]
  have hj : j < 9 := by have := (List.getElem?_eq_some_iff.1 hv).1; simpa [OU.cells] using this
  rcases (by omega : i = 0 ∨ i = 1) with rfl | rfl
  · rcases (by omega : j = 0 ∨ j = 1 ∨ j = 2 ∨ j = 3 ∨ j = 4 ∨ j = 5 ∨ j = 6 ∨ j = 7 ∨ j = 8) with rfl | rfl | rfl | rfl | rfl | rfl | rfl | rfl | rfl <;> exact hv
  · rcases (by omega : j = 0 ∨ j = 1 ∨ j = 2 ∨ j = 3 ∨ j = 4 ∨ j = 5 ∨ j = 6 ∨ j = 7 ∨ j = 8) with rfl | rfl | rfl | rfl | rfl | rfl | rfl | rfl | rfl <;> exact hv
theorem fxF_in (v0 v1 : Int) (h0 : U64 v0) (h1 : U64 v1) (i : Nat) : U64 (amt (fxF v0 v1) i) := by
  unfold amt fxF
  split
  · exact h0
  split
  · exact h1
  · exact ⟨by decide, by decide⟩
theorem fx_sum1 : sumV (amt (fxF 3 4)) 2 = 7 ∧ sumE (amt (fxF 3 4)) 2 = 0 := by decide
theorem fx_sum2 : sumE (amt (fxF 9223372036854775808 9223372036854775808)) 2 = 2 := by decide
/-- What stays while the calls are done. -/
structure FX (W : World) (bI bO b2 : Nat) (w : World) : Prop where
  q : Q W w
  b : Box w b2 [.slice (some ⟨bI, 0, none⟩) 1 1, .slice (some ⟨bO, 0, none⟩) 1 1, .int .u64 0, .string ⟨#[]⟩, .string ⟨#[]⟩, .slice none 0 0]
  t : TM w (some ⟨bI, 0, none⟩) 1 (some ⟨bO, 0, none⟩) none fxT
theorem FX.up {W w w' : World} {bI bO b2 : Nat} (h : FX W bI bO b2 w) (q : Q w w') : FX W bI bO b2 w' := ⟨h.q.trans q, h.b.q q, h.t.q q⟩
structure FU (b5 : Nat) (u : TX) (aI : Option Addr) (cI : Nat) (aO : Option Addr) (cO : Nat) (aW : Option Addr) (cW : Nat) (w : World) : Prop where
  b : Box w b5 [.slice aI u.nI cI, .slice aO u.nO cO, .int .u64 u.p.amount, .string u.p.sig, .string u.p.token, .slice aW u.p.n cW]
  t : TM w aI cI aO aW u
theorem FU.up {b5 cI cO cW : Nat} {u : TX} {aI aO aW : Option Addr} {w w' : World} (h : FU b5 u aI cI aO cO aW cW w) (q : Q w w') : FU b5 u aI cI aO cO aW cW w' := ⟨h.b.q q, h.t.q q⟩
theorem region_gen {P : Program} {id : Nat} {ops : Array Oper} {fl : Bool} {Q : Exit → Act → World → Prop} {a : Act} {w : World} (h : ∀ OPS QQ, OPS = ops → QQ = Q → (Code.region id OPS fl).wp P QQ a w) : (Code.region id ops fl).wp P Q a w := h _ _ rfl rfl
theorem wpAnyH_to {P : Program} {md : Region.Mode} {ops : Array Oper} {Q : Exit → Act → World → Prop} {S : World → Prop} {f f' : Nat} {l l' : Array Bool} {a : Act} {w : World} (h : wpAnyH P md ops Q S f' l' a w) (e : (f, l) = (f', l')) : wpAnyH P md ops Q S f l a w := by
  injection e with e1 e2
  subst e1; subst e2; exact h
theorem Box.range {w : World} {b : Nat} {cs : List Value} (h : Box w b cs) : w.rangeAt b 0 cs := fun j v hv => by rw [Nat.zero_add]; exact h.at_ j v hv
theorem tag1_at (word t x : ByteArray) (hx : tagS word (fun _ => t) 1 = x) (T : TypeId) (wB w : World) (qb : Q (wB.alloc (.cells #[.string t] T)) w) (hG : GL w) (hw : word.size ≤ 1000000) (ht : t.size ≤ 1000000) :
    Calls Tryz.prog 78 #[.string word, .slice (some ⟨wB.heap.size, 0, none⟩) 1 1] w fun e w' => e = .returned (.string x) ∧ Q w w' := by
  subst hx
  have hlt : wB.heap.size < w.heap.size := by have := qb.size; simp at this; omega
  exact tag_any word wB.heap.size 0 1 1 (fun _ => t) w (Q.refl w) hG ((row1 wB t T).q qb (by simp)) (fun _ => hlt) hw (by omega) (fun _ => ht)
theorem duo_at (word a c x : ByteArray) (hx : tagS word (duo a c) 2 = x) (T : TypeId) (wB w : World) (qb : Q (wB.alloc (.cells #[.string a, .string c] T)) w) (hG : GL w) (hw : word.size ≤ 1000000) (ha : a.size ≤ 1000000) (hc : c.size ≤ 1000000) :
    Calls Tryz.prog 78 #[.string word, .slice (some ⟨wB.heap.size, 0, none⟩) 2 2] w fun e w' => e = .returned (.string x) ∧ Q w w' := by
  subst hx
  have hlt : wB.heap.size < w.heap.size := by have := qb.size; simp at this; omega
  exact tag_any word wB.heap.size 0 2 2 (duo a c) w (Q.refl w) hG ((row2 wB a c T).q qb (by simp)) (fun _ => hlt) hw (by omega) (duo_size a c _ ha hc)
theorem conv_at (w : World) (b : Nat) (x : Int) (h : w.cell? ⟨b, 0, none⟩ = some (.int .u8 x)) :
    (convert 130 9 (.slice (some ⟨b, 0, none⟩) 1 1)).run Tryz.prog w = .ok (.string (strOfNums [x])) w := by
  refine run_convert_bytes_arg _ 130 5 Tryz.underlying130 Tryz.underlying5 _ 0 1 1 [x] rfl ?_ 9 Tryz.underlying9
  intro i hi
  match i, hi with
  | 0, _ => simpa using h
  | n + 1, h => omega
theorem built_fxp2 (v0 : ByteArray) : Tryz.prog.built 31 [(0, .string v0), (1, .int .i64 2)] = some #[.string v0, .int .i64 2] := by kernel_rfl
theorem built_fxn (v0 : ByteArray) : Tryz.prog.built 47 [(0, .int .i64 1), (1, .int .u64 1), (2, .string v0), (8, .string v0)] = some #[.int .i64 1, .int .u64 1, .string v0, .string ⟨#[]⟩, .int .i64 0, .string ⟨#[]⟩, .int .u64 0, .int .i64 0, .string v0] := by kernel_rfl
open Plan
theorem info_str : (Tryz.prog.info? 9).map (fun i => (i.zero, i.size, i.bytes)) = some (some (.string ⟨#[]⟩), 1, 16) := by kernel_rfl
theorem info_u8 : (Tryz.prog.info? 5).map (fun i => (i.zero, i.size, i.bytes)) = some (some (.int .u8 0), 1, 1) := by kernel_rfl
theorem fill_s1 (s : ByteArray) : Instr.fill (fun i => some (i * 1, 1)) ((Array.range (1 * 1)).map ((Value.string ⟨#[]⟩).cells[· % (Value.string ⟨#[]⟩).cells.size]!)) [(0, .string s)] = some #[.string s] := by kernel_rfl
theorem fill_s2 (s t : ByteArray) : Instr.fill (fun i => some (i * 1, 1)) ((Array.range (2 * 1)).map ((Value.string ⟨#[]⟩).cells[· % (Value.string ⟨#[]⟩).cells.size]!)) [(0, .string s), (1, .string t)] = some #[.string s, .string t] := by kernel_rfl
theorem fill_u1 (v : Int) : Instr.fill (fun i => some (i * 1, 1)) ((Array.range (1 * 1)).map ((Value.int .u8 0).cells[· % (Value.int .u8 0).cells.size]!)) [(0, .int .u8 v)] = some #[.int .u8 v] := by kernel_rfl
section
variable {o : Oper} {a : Act} {w : World} {K : Act → World → Prop} {Q : Exit → Act → World → Prop} {x y : Operand}
theorem wpo_s1 (s : ByteArray) (ho : o.op = .buildSlice 126 1 #[(0, x)]) (h0 : a.eval x = .string s)
    (h : K (a.put o.dst (.slice (some ⟨w.heap.size, 0, none⟩) 1 1)) (w.alloc (.cells #[.string s] 9))) : o.wp Tryz.prog a w K Q := by
  obtain ⟨i0, hi0, hz0, hz1, hz2⟩ := info_of info_str
  refine wp_buildSlice 126 9 1 _ ho #[.string s] i0 _ Tryz.underlying126 hi0 hz0 (by rw [hz1]; decide) (by rw [hz1]; decide) ?_ h
  rw [hz1]
  simp only [List.map_toArray, List.map_cons, List.map_nil, h0]
  exact fill_s1 s
theorem wpo_s2 (s t : ByteArray) (ho : o.op = .buildSlice 126 2 #[(0, x), (1, y)]) (h0 : a.eval x = .string s) (h1 : a.eval y = .string t)
    (h : K (a.put o.dst (.slice (some ⟨w.heap.size, 0, none⟩) 2 2)) (w.alloc (.cells #[.string s, .string t] 9))) : o.wp Tryz.prog a w K Q := by
  obtain ⟨i0, hi0, hz0, hz1, hz2⟩ := info_of info_str
  refine wp_buildSlice 126 9 2 _ ho #[.string s, .string t] i0 _ Tryz.underlying126 hi0 hz0 (by rw [hz1]; decide) (by rw [hz1]; decide) ?_ h
  rw [hz1]
  simp only [List.map_toArray, List.map_cons, List.map_nil, h0, h1]
  exact fill_s2 s t
theorem wpo_u1 (v : Int) (ho : o.op = .buildSlice 130 1 #[(0, x)]) (h0 : a.eval x = .int .u8 v)
    (h : K (a.put o.dst (.slice (some ⟨w.heap.size, 0, none⟩) 1 1)) (w.alloc (.cells #[.int .u8 v] 5))) : o.wp Tryz.prog a w K Q := by
  obtain ⟨i0, hi0, hz0, hz1, hz2⟩ := info_of info_u8
  refine wp_buildSlice 130 5 1 _ ho #[.int .u8 v] i0 _ Tryz.underlying130 hi0 hz0 (by rw [hz1]; decide) (by rw [hz1]; decide) ?_ h
  rw [hz1]
  simp only [List.map_toArray, List.map_cons, List.map_nil, h0]
  exact fill_u1 v
end
theorem eqs_same (x y : Operand) (s : ByteArray) (w : World) (T : TypeId) : (do eqGuard .eql T x y (.string s) (.string s); binOp .eql T (.string s) (.string s) : Sem Value).run Tryz.prog w = .ok (.bool true) w := by
  simp [eqGuard, binOp, Op.stringOp]
theorem cats {x y : Operand} {s t r : ByteArray} {w : World} (hs : s.size ≤ 1000000) (ht : t.size ≤ 1000000) (h : s ++ t = r) : (do eqGuard .add 9 x y (.string s) (.string t); binOp .add 9 (.string s) (.string t) : Sem Value).run Tryz.prog w = .ok (.string r) w := by
  subst h
  simp [eqGuard, binOp, run_string_add_sum _ s t (by omega)]
set_option maxHeartbeats 40000000 in
set_option maxRecDepth 100000 in
theorem fixed_x {W : World} (hG : GL W) (w : World) (q : Q W w) : Calls Tryz.prog 28 #[] w fun e w' => e = .returned (.bool true) ∧ Q W w' := by
  obtain ⟨h, hh⟩ : ∃ h, h16 = h := ⟨_, rfl⟩
  have hh' : (⟨#[48, 49, 50, 51, 52, 53, 54, 55, 56, 57, 97, 98, 99, 100, 101, 102]⟩ : ByteArray) = h := hh
  have zh : h.size = 16 := by rw [← hh]; rfl
  obtain ⟨c1, d1⟩ : ∃ c, (⟨#[67, 1]⟩ : ByteArray) ++ h = c := ⟨_, rfl⟩
  obtain ⟨c2, d2⟩ : ∃ c, c1 ++ (⟨#[1, 1, 1, 1, 0, 0, 0, 0, 0, 0, 0, 5]⟩ : ByteArray) = c := ⟨_, rfl⟩
  obtain ⟨c, d3⟩ : ∃ x, c2 ++ h = x := ⟨_, rfl⟩
  have y1 : c1.size = 18 := by rw [← d1, ByteArray.size_append, zh]; rfl
  have y2 : c2.size = 30 := by rw [← d2, ByteArray.size_append, y1]; rfl
  have y3 : c.size = 46 := by rw [← d3, ByteArray.size_append, y2, zh]
  have HC : Hid (coreS fxT = c) := by show _ = _; rw [fx_core, ← d3, ← d2, ← d1, ← hh]; decide +kernel
  have HW := Lib.hid q
  clear q
  go_enter Tryz.func28, Tryz.ntmps28
  go_wp2_with (with_reducible (show wpList _ _ _ (⟨_, Op.build 31 _, _, _, _, _⟩ :: _) _ _); refine halt ?_)
  simp only [hh']
  refine Lib.hid (wpl_fxp rfl h rfl _ rfl rfl ?_)
  refine wpl_fxi rfl h rfl _ rfl rfl ?_
  refine wpr_inx rfl h 1 1 ⟨#[115]⟩ rfl rfl ?_
  go_wp2_with (with_reducible (show wpList _ _ _ (⟨_, Op.build 47 _, _, _, _, _⟩ :: _) _ _); refine halt ?_)
  refine Lib.hid (wpl_fxo rfl h rfl _ rfl rfl ?_)
  refine wpr_out rfl 1 5 h ⟨#[]⟩ 0 ⟨#[]⟩ 0 0 ⟨#[]⟩ rfl rfl ?_
  refine wpl_fxt rfl w.heap.size (w.alloc (.cells #[.string h, .int .i64 1, .int .i64 1, .string ⟨#[115]⟩] 53)).heap.size rfl _ rfl rfl rfl ?_
  refine wpList_allocZ rfl 29 rfl #[.slice none 0 0, .slice none 0 0, .int .u64 0, .string ⟨#[]⟩, .string ⟨#[]⟩, .slice none 0 0] zeroT ?_
  have SI : Hid (SL IN.cells 4 (w.alloc (.cells #[.string h, .int .i64 1, .int .i64 1, .string ⟨#[115]⟩] 53)) (some ⟨w.heap.size, 0, none⟩) 1 (fun _ => fxI)) := by have := SL.one (C := IN.cells) (k := 4) w fxI 53; unfold fxI at this; rw [hh] at this; show SL _ _ _ _ _ _; unfold fxI; rw [hh]; exact this
  have Q1 := Lib.hid (HW.out.alloc (.cells #[.string h, .int .i64 1, .int .i64 1, .string ⟨#[115]⟩] 53))
  generalize hwI : w.alloc (.cells #[.string h, .int .i64 1, .int .i64 1, .string ⟨#[115]⟩] 53) = wI at *
  have hbI : w.heap.size < wI.heap.size := by rw [← hwI]; simp
  clear hwI
  generalize w.heap.size = bI at *
  clear HW
  have SO : Hid (SL OU.cells 9 (wI.alloc (.cells #[.int .i64 1, .int .u64 5, .string h, .string ⟨#[]⟩, .int .i64 0, .string ⟨#[]⟩, .int .u64 0, .int .i64 0, .string ⟨#[]⟩] 47)) (some ⟨wI.heap.size, 0, none⟩) 1 (fun _ => fxO)) := by have := SL.one (C := OU.cells) (k := 9) wI fxO 47; unfold fxO at this; rw [hh] at this; show SL _ _ _ _ _ _; unfold fxO; rw [hh]; exact this
  have SI2 := Lib.hid (SI.out.q ((Q.refl wI).alloc (.cells #[.int .i64 1, .int .u64 5, .string h, .string ⟨#[]⟩, .int .i64 0, .string ⟨#[]⟩, .int .u64 0, .int .i64 0, .string ⟨#[]⟩] 47)))
  have Q2 := Lib.hid (Q1.out.alloc (.cells #[.int .i64 1, .int .u64 5, .string h, .string ⟨#[]⟩, .int .i64 0, .string ⟨#[]⟩, .int .u64 0, .int .i64 0, .string ⟨#[]⟩] 47))
  generalize hwO : wI.alloc (.cells #[.int .i64 1, .int .u64 5, .string h, .string ⟨#[]⟩, .int .i64 0, .string ⟨#[]⟩, .int .u64 0, .int .i64 0, .string ⟨#[]⟩] 47) = wO at *
  have hbO : wI.heap.size < wO.heap.size := by rw [← hwO]; simp
  clear hwO
  generalize wI.heap.size = bO at *
  clear Q1 SI
  refine st_box rfl 29 _ _ rfl wO.heap.size _ [.slice (some ⟨bI, 0, none⟩) 1 1, .slice (some ⟨bO, 0, none⟩) 1 1, .int .u64 0, .string ⟨#[]⟩, .string ⟨#[]⟩, .slice none 0 0] rfl rfl (Box.new wO [.slice none 0 0, .slice none 0 0, .int .u64 0, .string ⟨#[]⟩, .string ⟨#[]⟩, .slice none 0 0] 29) rfl (by kernel_rfl) (one6 rfl rfl rfl rfl rfl rfl) ?_
  intro w3 B3 c3
  have F3 : Hid (FX W bI bO wO.heap.size w3) := ⟨c3.q (Q2.out.alloc _) Q2.out.size, B3, ⟨(SI2.out.q ((Q.refl wO).alloc _)).ch c3 (fun x hx => by injection hx with hx; subst hx; show bI ≠ wO.heap.size; omega), by decide, (SO.out.q ((Q.refl wO).alloc _)).ch c3 (fun x hx => by injection hx with hx; subst hx; show bO ≠ wO.heap.size; omega), SL.nil rfl⟩⟩
  generalize wO.heap.size = b2 at *
  clear B3 c3 Q2 SI2 SO hbI hbO
  as_aux_lemma =>
  have m0 := F3.out.b.at_ 0 _ rfl
  have m1 := F3.out.b.at_ 1 _ rfl
  have m2 := F3.out.b.at_ 2 _ rfl
  have m3 := F3.out.b.at_ 3 _ rfl
  have m4 := F3.out.b.at_ 4 _ rfl
  have m5 := F3.out.b.at_ 5 _ rfl
  go_wp2_with fail
  refine (encode_x fxT (some ⟨bI, 0, none⟩) (some ⟨bO, 0, none⟩) none 1 1 0 _ F3.out.t fx_ok).mono ?_
  rintro e w4 ⟨s, rfl, hz, q4⟩
  have HS : Hid (s = txB fxT) := hz.elim (fun x => x.2) (fun x => absurd fx_right x.1)
  have zs : s.size = 66 := by rw [HS.out, fx_tx]; rfl
  have F4 := Lib.hid (F3.out.up q4)
  clear hz q4 F3
  clear m0 m1 m2 m3 m4 m5
  as_aux_lemma =>
  have DD := Lib.hid (de_ok small_wrap fxT fx_right fx_ok)
  rw [← HS.out] at DD
  go_wp2_with fail
  refine (decode_x s (by omega) _).mono ?_
  rintro e w5 ⟨aI, cI, aO, cO, aW, cW, rfl, t5, q5⟩
  rw [DD.out.1]
  have US := Lib.hid DD.out.2
  have UK := Lib.hid (deV_ok small_wrap s)
  obtain ⟨u, hu⟩ : ∃ u, deV IntKind.i64.wrap s = u := ⟨_, rfl⟩
  rw [hu] at t5 US UK ⊢
  have F5 := Lib.hid (F4.out.up q5)
  have T5 := Lib.hid t5
  clear t5 q5 F4 DD hu
  go_wp2_with (with_reducible (show wpList _ _ _ (⟨_, Op.alloc 29 , _, _, _, _⟩ :: _) _ _); refine halt ?_)
  refine Lib.hid (wpList_allocZ rfl 29 rfl #[.slice none 0 0, .slice none 0 0, .int .u64 0, .string ⟨#[]⟩, .string ⟨#[]⟩, .slice none 0 0] zeroT ?_)
  refine st_box rfl 29 _ _ rfl w5.heap.size _ [.slice aI u.nI cI, .slice aO u.nO cO, .int .u64 u.p.amount, .string u.p.sig, .string u.p.token, .slice aW u.p.n cW] rfl rfl (Box.new w5 [.slice none 0 0, .slice none 0 0, .int .u64 0, .string ⟨#[]⟩, .string ⟨#[]⟩, .slice none 0 0] 29) rfl (by kernel_rfl) (one6 rfl rfl rfl rfl rfl rfl) ?_
  intro w6 B6 c6
  have q6 : Q w5 w6 := c6.q ((Q.refl w5).alloc _) (Nat.le_refl _)
  have F6 := Lib.hid (F5.out.up q6)
  have U6 : Hid (FU w5.heap.size u aI cI aO cO aW cW w6) := ⟨B6, T5.out.q q6⟩
  generalize w5.heap.size = b5 at *
  clear B6 c6 q6 F5 T5
  as_aux_lemma =>
  obtain ⟨sx, hsx⟩ : ∃ x, s ++ (⟨#[120]⟩ : ByteArray) = x := ⟨_, rfl⟩
  have zsx : sx.size = 67 := by rw [← hsx, ByteArray.size_append, zs]; rfl
  have DM : Hid (deE IntKind.i64.wrap sx = 4) := by show _ = _; rw [← hsx, HS.out]; exact de_more small_wrap fxT fx_right fx_ok _ (by decide)
  go_wp2_with fail
  refine (decode_x sx (by omega) _).mono ?_
  rintro e w7 ⟨aI7, cI7, aO7, cO7, aW7, cW7, rfl, _, q7⟩
  rw [DM.out]
  obtain ⟨u7, hu7⟩ : ∃ u, deV IntKind.i64.wrap sx = u := ⟨_, rfl⟩
  rw [hu7]
  go_wp2_with (with_reducible (show wpList _ _ _ (⟨_, Op.alloc 29 , _, _, _, _⟩ :: _) _ _); refine halt ?_)
  refine Lib.hid (wpList_allocZ rfl 29 rfl #[.slice none 0 0, .slice none 0 0, .int .u64 0, .string ⟨#[]⟩, .string ⟨#[]⟩, .slice none 0 0] zeroT ?_)
  refine st_box rfl 29 _ _ rfl w7.heap.size _ [.slice aI7 u7.nI cI7, .slice aO7 u7.nO cO7, .int .u64 u7.p.amount, .string u7.p.sig, .string u7.p.token, .slice aW7 u7.p.n cW7] rfl rfl (Box.new w7 [.slice none 0 0, .slice none 0 0, .int .u64 0, .string ⟨#[]⟩, .string ⟨#[]⟩, .slice none 0 0] 29) rfl (by kernel_rfl) (one6 rfl rfl rfl rfl rfl rfl) ?_
  intro w8 _ c8
  have r7 : Q w7 w8 := c8.q ((Q.refl w7).alloc _) (Nat.le_refl _)
  have F8 := Lib.hid ((F6.out.up q7).up r7)
  have U8 := Lib.hid ((U6.out.up q7).up r7)
  clear c8 q7 r7 hu7 F6 U6
  as_aux_lemma =>
  have DS : Hid (deE IntKind.i64.wrap (⟨#[]⟩ : ByteArray) = 3) := de_short _
  go_wp2_with fail
  refine (decode_x ⟨#[]⟩ (by decide) _).mono ?_
  rintro e w9 ⟨aI9, cI9, aO9, cO9, aW9, cW9, rfl, _, q9⟩
  rw [DS.out]
  obtain ⟨u9, hu9⟩ : ∃ u, deV IntKind.i64.wrap ⟨#[]⟩ = u := ⟨_, rfl⟩
  rw [hu9]
  go_wp2_with (with_reducible (show wpList _ _ _ (⟨_, Op.alloc 29 , _, _, _, _⟩ :: _) _ _); refine halt ?_)
  refine Lib.hid (wpList_allocZ rfl 29 rfl #[.slice none 0 0, .slice none 0 0, .int .u64 0, .string ⟨#[]⟩, .string ⟨#[]⟩, .slice none 0 0] zeroT ?_)
  refine st_box rfl 29 _ _ rfl w9.heap.size _ [.slice aI9 u9.nI cI9, .slice aO9 u9.nO cO9, .int .u64 u9.p.amount, .string u9.p.sig, .string u9.p.token, .slice aW9 u9.p.n cW9] rfl rfl (Box.new w9 [.slice none 0 0, .slice none 0 0, .int .u64 0, .string ⟨#[]⟩, .string ⟨#[]⟩, .slice none 0 0] 29) rfl (by kernel_rfl) (one6 rfl rfl rfl rfl rfl rfl) ?_
  intro w10 _ c10
  have r9 : Q w9 w10 := c10.q ((Q.refl w9).alloc _) (Nat.le_refl _)
  have F10 := Lib.hid ((F8.out.up q9).up r9)
  have U10 := Lib.hid ((U8.out.up q9).up r9)
  clear c10 q9 r9 hu9 F8 U8
  as_aux_lemma =>
  go_wp2_with (with_reducible (show wpList _ _ _ (⟨_, Op.build 47 _, _, _, _, _⟩ :: _) _ _); refine halt ?_)
  refine Lib.hid (wpl_fxa rfl 3 rfl _ rfl ?_)
  refine wpl_fxa rfl 4 rfl _ rfl ?_
  refine wpr_out2 rfl 3 4 rfl rfl rfl ?_
  have SF := Lib.hid (fxF_sl w10 3 4 47)
  have F10' := Lib.hid (F10.out.up ((Q.refl w10).alloc (.cells #[.int .i64 0, .int .u64 3, .string ⟨#[]⟩, .string ⟨#[]⟩, .int .i64 0, .string ⟨#[]⟩, .int .u64 0, .int .i64 0, .string ⟨#[]⟩, .int .i64 0, .int .u64 4, .string ⟨#[]⟩, .string ⟨#[]⟩, .int .i64 0, .string ⟨#[]⟩, .int .u64 0, .int .i64 0, .string ⟨#[]⟩] 47)))
  have U10' := Lib.hid (U10.out.up ((Q.refl w10).alloc (.cells #[.int .i64 0, .int .u64 3, .string ⟨#[]⟩, .string ⟨#[]⟩, .int .i64 0, .string ⟨#[]⟩, .int .u64 0, .int .i64 0, .string ⟨#[]⟩, .int .i64 0, .int .u64 4, .string ⟨#[]⟩, .string ⟨#[]⟩, .int .i64 0, .string ⟨#[]⟩, .int .u64 0, .int .i64 0, .string ⟨#[]⟩] 47)))
  generalize w10.alloc (.cells #[.int .i64 0, .int .u64 3, .string ⟨#[]⟩, .string ⟨#[]⟩, .int .i64 0, .string ⟨#[]⟩, .int .u64 0, .int .i64 0, .string ⟨#[]⟩, .int .i64 0, .int .u64 4, .string ⟨#[]⟩, .string ⟨#[]⟩, .int .i64 0, .string ⟨#[]⟩, .int .u64 0, .int .i64 0, .string ⟨#[]⟩] 47) = v10 at *
  clear F10 U10
  go_wp2_with fail
  refine (whole_x _ 2 2 (fxF 3 4) _ SF.out (by omega) (fxF_in _ _ ⟨by decide, by decide⟩ ⟨by decide, by decide⟩)).mono ?_
  rintro e w11 ⟨rfl, q11⟩
  rw [fx_sum1.1, fx_sum1.2]
  have F11 := Lib.hid (F10'.out.up q11)
  have U11 := Lib.hid (U10'.out.up q11)
  clear q11 F10' U10' SF
  as_aux_lemma =>
  go_wp2_with (with_reducible (show wpList _ _ _ (⟨_, Op.build 47 _, _, _, _, _⟩ :: _) _ _); refine halt ?_)
  refine Lib.hid (wpl_fxa rfl 9223372036854775808 rfl _ rfl ?_)
  refine wpl_fxa rfl 9223372036854775808 rfl _ rfl ?_
  refine wpr_out2 rfl 9223372036854775808 9223372036854775808 rfl rfl rfl ?_
  have SF := Lib.hid (fxF_sl w11 9223372036854775808 9223372036854775808 47)
  have F11' := Lib.hid (F11.out.up ((Q.refl w11).alloc (.cells #[.int .i64 0, .int .u64 9223372036854775808, .string ⟨#[]⟩, .string ⟨#[]⟩, .int .i64 0, .string ⟨#[]⟩, .int .u64 0, .int .i64 0, .string ⟨#[]⟩, .int .i64 0, .int .u64 9223372036854775808, .string ⟨#[]⟩, .string ⟨#[]⟩, .int .i64 0, .string ⟨#[]⟩, .int .u64 0, .int .i64 0, .string ⟨#[]⟩] 47)))
  have U11' := Lib.hid (U11.out.up ((Q.refl w11).alloc (.cells #[.int .i64 0, .int .u64 9223372036854775808, .string ⟨#[]⟩, .string ⟨#[]⟩, .int .i64 0, .string ⟨#[]⟩, .int .u64 0, .int .i64 0, .string ⟨#[]⟩, .int .i64 0, .int .u64 9223372036854775808, .string ⟨#[]⟩, .string ⟨#[]⟩, .int .i64 0, .string ⟨#[]⟩, .int .u64 0, .int .i64 0, .string ⟨#[]⟩] 47)))
  generalize w11.alloc (.cells #[.int .i64 0, .int .u64 9223372036854775808, .string ⟨#[]⟩, .string ⟨#[]⟩, .int .i64 0, .string ⟨#[]⟩, .int .u64 0, .int .i64 0, .string ⟨#[]⟩, .int .i64 0, .int .u64 9223372036854775808, .string ⟨#[]⟩, .string ⟨#[]⟩, .int .i64 0, .string ⟨#[]⟩, .int .u64 0, .int .i64 0, .string ⟨#[]⟩] 47) = v11 at *
  clear F11 U11
  go_wp2_with fail
  refine (whole_x _ 2 2 (fxF 9223372036854775808 9223372036854775808) _ SF.out (by omega) (fxF_in _ _ ⟨by decide, by decide⟩ ⟨by decide, by decide⟩)).mono ?_
  rintro e w12 ⟨rfl, q12⟩
  rw [fx_sum2]
  have F12 := Lib.hid (F11'.out.up q12)
  have U12 := Lib.hid (U11'.out.up q12)
  clear q12 F11' U11' SF
  as_aux_lemma =>
  go_wp2_with (with_reducible (show wpList _ _ _ (⟨_, Op.build 47 _, _, _, _, _⟩ :: _) _ _); refine halt ?_)
  refine Lib.hid (wpl_fxl rfl h rfl _ rfl rfl rfl rfl ?_)
  refine wpList_allocZ rfl 47 rfl #[.int .i64 0, .int .u64 0, .string ⟨#[]⟩, .string ⟨#[]⟩, .int .i64 0, .string ⟨#[]⟩, .int .u64 0, .int .i64 0, .string ⟨#[]⟩] zero9 ?_
  refine st_box rfl 47 _ _ rfl w12.heap.size _ [.int .i64 2, .int .u64 1, .string h, .string h, .int .i64 9, .string h, .int .u64 2, .int .i64 3, .string ⟨#[]⟩] rfl rfl (Box.new w12 [.int .i64 0, .int .u64 0, .string ⟨#[]⟩, .string ⟨#[]⟩, .int .i64 0, .string ⟨#[]⟩, .int .u64 0, .int .i64 0, .string ⟨#[]⟩] 47) rfl (by kernel_rfl) (one9 rfl rfl rfl rfl rfl rfl rfl rfl rfl) ?_
  intro w13 B13 c13
  have r12 : Q w12 w13 := c13.q ((Q.refl w12).alloc _) (Nat.le_refl _)
  have F13 := Lib.hid (F12.out.up r12)
  have U13 := Lib.hid (U12.out.up r12)
  have L13 := Lib.hid B13
  generalize w12.heap.size = bl12 at *
  clear B13 c13 r12 F12 U12
  as_aux_lemma =>
  go_wp2_with (with_reducible (show wpList _ _ _ (⟨_, Op.build 47 _, _, _, _, _⟩ :: _) _ _); refine halt ?_)
  refine Lib.hid (wpl_fxq rfl h rfl _ rfl rfl rfl rfl ?_)
  refine wpList_allocZ rfl 47 rfl #[.int .i64 0, .int .u64 0, .string ⟨#[]⟩, .string ⟨#[]⟩, .int .i64 0, .string ⟨#[]⟩, .int .u64 0, .int .i64 0, .string ⟨#[]⟩] zero9 ?_
  refine st_box rfl 47 _ _ rfl w13.heap.size _ [.int .i64 3, .int .u64 1, .string h, .string h, .int .i64 9, .string ⟨#[]⟩, .int .u64 0, .int .i64 0, .string h] rfl rfl (Box.new w13 [.int .i64 0, .int .u64 0, .string ⟨#[]⟩, .string ⟨#[]⟩, .int .i64 0, .string ⟨#[]⟩, .int .u64 0, .int .i64 0, .string ⟨#[]⟩] 47) rfl (by kernel_rfl) (one9 rfl rfl rfl rfl rfl rfl rfl rfl rfl) ?_
  intro w14 B14 c14
  have r13 : Q w13 w14 := c14.q ((Q.refl w13).alloc _) (Nat.le_refl _)
  have F14 := Lib.hid (F13.out.up r13)
  have U14 := Lib.hid (U13.out.up r13)
  have L14 := Lib.hid B14
  have L14p := Lib.hid (L13.out.q r13)
  generalize w13.heap.size = bl13 at *
  clear B14 c14 r13 F13 U13
  as_aux_lemma =>
  have m0 := F14.out.b.at_ 0 _ rfl
  have m1 := F14.out.b.at_ 1 _ rfl
  have m2 := F14.out.b.at_ 2 _ rfl
  have m3 := F14.out.b.at_ 3 _ rfl
  have m4 := F14.out.b.at_ 4 _ rfl
  have m5 := F14.out.b.at_ 5 _ rfl
  have RC : Hid (∀ w', Q w14 w' → (fun w' => FX W bI bO b2 w' ∧ FU b5 u aI cI aO cO aW cW w' ∧ Box w' bl12 [.int .i64 2, .int .u64 1, .string h, .string h, .int .i64 9, .string h, .int .u64 2, .int .i64 3, .string ⟨#[]⟩] ∧ Box w' bl13 [.int .i64 3, .int .u64 1, .string h, .string h, .int .i64 9, .string ⟨#[]⟩, .int .u64 0, .int .i64 0, .string h]) w') := fun w' q => ⟨F14.out.up q, U14.out.up q, L14p.out.q q, L14.out.q q⟩
  have hS0 : Q w14 w14.drew := (Q.refl w14).drew
  have CORE : Hid (∀ w', FX W bI bO b2 w' → Calls Tryz.prog 19 #[.agg #[.slice (some ⟨bI, 0, none⟩) 1 1, .slice (some ⟨bO, 0, none⟩) 1 1, .int .u64 0, .string ⟨#[]⟩, .string ⟨#[]⟩, .slice none 0 0]] w' fun e w'' => e = .returned (.string c) ∧ Q w' w'') := fun w' f => (core_x fxT (some ⟨bI, 0, none⟩) (some ⟨bO, 0, none⟩) none 1 1 0 w' f.t fx_ok).mono fun e w'' ⟨s, h1, h2, h3⟩ => ⟨by rw [h1, h2.elim (fun x => x.2.trans HC.out) (fun x => absurd fx_right x.1)], h3⟩
  obtain ⟨ii, hii⟩ : ∃ i, idS fxT = i := ⟨_, rfl⟩
  have TI : Hid (tagS wTx (fun _ => c) 1 = ii) := by show _ = _; rw [← hii, ← HC.out]; rfl
  have CID : Hid (∀ w', FX W bI bO b2 w' → Calls Tryz.prog 21 #[.agg #[.slice (some ⟨bI, 0, none⟩) 1 1, .slice (some ⟨bO, 0, none⟩) 1 1, .int .u64 0, .string ⟨#[]⟩, .string ⟨#[]⟩, .slice none 0 0]] w' fun e w'' => e = .returned (.string ii) ∧ Q w' w'') := fun w' f => (id_x fxT (some ⟨bI, 0, none⟩) (some ⟨bO, 0, none⟩) none 1 1 0 w' (hG.q f.q) f.t fx_ok).mono fun e w'' ⟨s, h1, h2, h3⟩ => ⟨by rw [h1, h2.elim (fun x => x.2.trans hii) (fun x => absurd fx_right x.1)], h3⟩
  obtain ⟨pz, hpz⟩ : ∃ i, pfB PF.zero = i := ⟨_, rfl⟩
  have zpz : pz.size = 13 := by rw [← hpz, fx_pz]; rfl
  have CENC : Hid (∀ w', Calls Tryz.prog 81 #[.agg #[.int .u64 0, .string ⟨#[]⟩, .string ⟨#[]⟩, .slice none 0 0]] w' fun e w'' => e = .returned (.string pz) ∧ Q w' w'') := fun w' => (nencode_x PF.zero none 0 w' (SL.nil rfl) PFz_ok).mono fun e w'' ⟨s, h1, h2, h3⟩ => ⟨by rw [h1, h2.elim (fun x => x.2.trans hpz) (fun x => absurd fx_right.2.2.2.2.2.2.2 x.1)], h3⟩
  have CSAM : Hid (∀ w', FX W bI bO b2 w' → FU b5 u aI cI aO cO aW cW w' → Calls Tryz.prog 16 #[.agg #[.slice (some ⟨bI, 0, none⟩) 1 1, .slice (some ⟨bO, 0, none⟩) 1 1, .int .u64 0, .string ⟨#[]⟩, .string ⟨#[]⟩, .slice none 0 0], .agg #[.slice aI u.nI cI, .slice aO u.nO cO, .int .u64 u.p.amount, .string u.p.sig, .string u.p.token, .slice aW u.p.n cW]] w' fun e w'' => e = .returned (.bool true) ∧ Q w' w'') := fun w' f g => (same_x fxT u (some ⟨bI, 0, none⟩) (some ⟨bO, 0, none⟩) none aI aO aW 1 1 0 cI cO cW w' f.t g.t fx_ok UK.out).mono fun e w'' ⟨b, h1, h2, h3⟩ => ⟨by rw [h1, h2.2 US.out.symm], h3⟩
  obtain ⟨nn, hnn⟩ : ∃ i, nmS h 2 = i := ⟨_, rfl⟩
  have TN : Hid (tagS wLock (duo h ⟨#[2]⟩) 2 = nn) := by show _ = _; rw [← hnn]; unfold nmS; rw [show strOfNums [IntKind.u8.wrap 2] = ⟨#[2]⟩ by decide +kernel]
  have CNAM : Hid (∀ w', Q W w' → Calls Tryz.prog 26 #[.agg #[.string h, .int .i64 2]] w' fun e w'' => e = .returned (.string nn) ∧ Q w' w'') := fun w' q => (name_x h 2 w' (hG.q q) (by omega)).mono fun e w'' ⟨h1, h2⟩ => ⟨by rw [h1, hnn], h2⟩
  have CF1 : Hid (∀ w', Calls Tryz.prog 12 #[.agg #[.int .i64 2, .int .u64 1, .string h, .string h, .int .i64 9, .string h, .int .u64 2, .int .i64 3, .string ⟨#[]⟩]] w' fun e w'' => e = .returned (.bool true) ∧ Q w' w'') := fun w' => by have := fits_x fxL w'; unfold fxL at this; rw [hh] at this; refine this.mono fun e w'' ⟨h1, h2⟩ => ⟨?_, h2⟩; rw [h1, ← hh]; exact retB (by have := fx_fits.1; simpa [fxL] using this)
  have CF2 : Hid (∀ w', Calls Tryz.prog 12 #[.agg #[.int .i64 3, .int .u64 1, .string h, .string h, .int .i64 9, .string ⟨#[]⟩, .int .u64 0, .int .i64 0, .string h]] w' fun e w'' => e = .returned (.bool true) ∧ Q w' w'') := fun w' => by have := fits_x fxP w'; unfold fxP at this; rw [hh] at this; refine this.mono fun e w'' ⟨h1, h2⟩ => ⟨?_, h2⟩; rw [h1, ← hh]; exact retB (by have := fx_fits.2.1; simpa [fxP] using this)
  have CF3 : Hid (∀ w', Calls Tryz.prog 12 #[.agg #[.int .i64 1, .int .u64 1, .string h, .string ⟨#[]⟩, .int .i64 0, .string ⟨#[]⟩, .int .u64 0, .int .i64 0, .string h]] w' fun e w'' => e = .returned (.bool false) ∧ Q w' w'') := fun w' => by have := fits_x fxN w'; unfold fxN at this; rw [hh] at this; refine this.mono fun e w'' ⟨h1, h2⟩ => ⟨?_, h2⟩; rw [h1, ← hh]; exact retB (by have := fx_fits.2.2; simpa [fxN] using this)
  have CRZ : Hid (∀ w', Calls Tryz.prog 17 #[.agg #[.slice none 0 0, .slice none 0 0, .int .u64 0, .string ⟨#[]⟩, .string ⟨#[]⟩, .slice none 0 0]] w' fun e w'' => e = .returned (.bool false) ∧ Q w' w'') := fun w' => (right_x TX.zero none none none 0 0 0 w' ⟨SL.nil rfl, Nat.le_refl _, SL.nil rfl, SL.nil rfl⟩ TXz_ok).mono fun e w'' ⟨b, h1, h2, h3⟩ => ⟨by rw [h1]; exact retB (by rw [← Bool.not_eq_true, h2]; exact zero_right), h3⟩
  have CIZ : Hid (∀ w', Q W w' → Calls Tryz.prog 21 #[.agg #[.slice none 0 0, .slice none 0 0, .int .u64 0, .string ⟨#[]⟩, .string ⟨#[]⟩, .slice none 0 0]] w' fun e w'' => e = .returned (.string ⟨#[]⟩) ∧ Q w' w'') := fun w' q => (id_x TX.zero none none none 0 0 0 w' (hG.q q) ⟨SL.nil rfl, Nat.le_refl _, SL.nil rfl, SL.nil rfl⟩ TXz_ok).mono fun e w'' ⟨s, h1, h2, h3⟩ => ⟨by rw [h1, h2.elim (fun x => absurd x.1 zero_right) (fun x => x.2)], h3⟩
  obtain ⟨l46, hl⟩ : ∃ x, strOfNums [46] = x := ⟨_, rfl⟩
  have CL := Lib.hid hl
  have zl : l46.size = 1 := by rw [← hl]; exact one_size 46
  obtain ⟨g1, e1⟩ : ∃ x, (⟨#[0]⟩ : ByteArray) ++ l46 = x := ⟨_, rfl⟩
  obtain ⟨g2, e2⟩ : ∃ x, g1 ++ c = x := ⟨_, rfl⟩
  obtain ⟨g3, e3⟩ : ∃ x, g2 ++ (⟨#[0, 1, 115, 0, 13]⟩ : ByteArray) = x := ⟨_, rfl⟩
  have e4 : g3 ++ pz = s := by rw [← e3, ← e2, ← e1, ← hl, ← hpz, ← HC.out, HS.out, fx_core, fx_tx, fx_pz]; decide +kernel
  have x1 : g1.size = 2 := by rw [← e1, ByteArray.size_append, zl]; rfl
  have x2 : g2.size = 48 := by rw [← e2, ByteArray.size_append, x1, y3]
  have x3 : g3.size = 53 := by rw [← e3, ByteArray.size_append, x2]; rfl
  have zc : c.size ≤ 1000000 := by omega
  have y3' : (c.size : Int) = 46 := by omega
  clear hl hpz hii hnn d1 d2 d3 hsx y1 y2 DM DS F14 U14 L14 L14p m0 m1 m2 m3 m4 m5 US UK zsx
  go_wp2_with fail
  as_aux_lemma =>
  refine region_gen3 ?_
  intro OPS QQ A0 hO hQQ hA
  have RC : ∀ w', Q w14 w' → (fun w' => FX W bI bO b2 w' ∧ FU b5 u aI cI aO cO aW cW w' ∧ Box w' bl12 [.int .i64 2, .int .u64 1, .string h, .string h, .int .i64 9, .string h, .int .u64 2, .int .i64 3, .string ⟨#[]⟩] ∧ Box w' bl13 [.int .i64 3, .int .u64 1, .string h, .string h, .int .i64 9, .string ⟨#[]⟩, .int .u64 0, .int .i64 0, .string h]) w' := RC.out
  have hz : A0.tmps.size = 160 := by rw [hA]; rfl
  have hs : sound OPS A0.tmps.size = true := by rw [hz, hO]; kernel_rfl
  have b_1 : A0.eval (.tmp 1) = .string h := by rw [hA]; rfl
  have fr_1 : free OPS 1 = true := by rw [hO]; kernel_rfl
  have b_2 : A0.eval (.tmp 2) = .pointer (some ⟨b2, 0, none⟩) := by rw [hA]; rfl
  have fr_2 : free OPS 2 = true := by rw [hO]; kernel_rfl
  have b_3 : A0.eval (.tmp 3) = .string c := by rw [hA]; rfl
  have fr_3 : free OPS 3 = true := by rw [hO]; kernel_rfl
  have b_4 : A0.eval (.tmp 4) = .string s := by rw [hA]; rfl
  have fr_4 : free OPS 4 = true := by rw [hO]; kernel_rfl
  have b_5 : A0.eval (.tmp 5) = .pointer (some ⟨b5, 0, none⟩) := by rw [hA]; rfl
  have fr_5 : free OPS 5 = true := by rw [hO]; kernel_rfl
  have b_6 : A0.eval (.tmp 6) = .int .i64 0 := by rw [hA]; rfl
  have fr_6 : free OPS 6 = true := by rw [hO]; kernel_rfl
  have b_8 : A0.eval (.tmp 8) = .int .i64 4 := by rw [hA]; rfl
  have fr_8 : free OPS 8 = true := by rw [hO]; kernel_rfl
  have b_10 : A0.eval (.tmp 10) = .int .i64 3 := by rw [hA]; rfl
  have fr_10 : free OPS 10 = true := by rw [hO]; kernel_rfl
  have b_11 : A0.eval (.tmp 11) = .int .u64 7 := by rw [hA]; rfl
  have fr_11 : free OPS 11 = true := by rw [hO]; kernel_rfl
  have b_12 : A0.eval (.tmp 12) = .int .i64 0 := by rw [hA]; rfl
  have fr_12 : free OPS 12 = true := by rw [hO]; kernel_rfl
  have b_14 : A0.eval (.tmp 14) = .int .i64 2 := by rw [hA]; rfl
  have fr_14 : free OPS 14 = true := by rw [hO]; kernel_rfl
  have b_15 : A0.eval (.tmp 15) = .pointer (some ⟨bl12, 0, none⟩) := by rw [hA]; rfl
  have fr_15 : free OPS 15 = true := by rw [hO]; kernel_rfl
  have b_16 : A0.eval (.tmp 16) = .pointer (some ⟨bl13, 0, none⟩) := by rw [hA]; rfl
  have fr_16 : free OPS 16 = true := by rw [hO]; kernel_rfl
  obtain ⟨VV, hVV⟩ : ∃ V : Nat → Value → World → Prop, V = fun i => ([fun v _ => v = .agg #[.slice (some ⟨bI, 0, none⟩) 1 1, .slice (some ⟨bO, 0, none⟩) 1 1, .int .u64 0, .string ⟨#[]⟩, .string ⟨#[]⟩, .slice none 0 0], fun v _ => v = .string c, fun v _ => v = .string c, fun v _ => v = .bool true, fun v _ => v = .bool true, fun v _ => v = .agg #[.slice (some ⟨bI, 0, none⟩) 1 1, .slice (some ⟨bO, 0, none⟩) 1 1, .int .u64 0, .string ⟨#[]⟩, .string ⟨#[]⟩, .slice none 0 0], fun v _ => v = .string ii, fun v _ => v = .string c, fun v w => ∃ wB : World, v = .slice (some ⟨wB.heap.size, 0, none⟩) 1 1 ∧ Q (wB.alloc (.cells #[.string c] 9)) w, fun v _ => v = .string ii, fun v _ => v = .bool true, fun v _ => v = .bool true, fun v _ => v = .bool true, fun v _ => v = .string s, fun v _ => v = .string c, fun v _ => v = .int .i64 46, fun v _ => v = .int .u8 46, fun v w => ∃ wB : World, v = .slice (some ⟨wB.heap.size, 0, none⟩) 1 1 ∧ Q (wB.alloc (.cells #[.int .u8 46] 5)) w, fun v _ => v = .string l46, fun v _ => v = .string g1, fun v _ => v = .string c, fun v _ => v = .string g2, fun v _ => v = .string g3, fun v _ => v = .agg #[.int .u64 0, .string ⟨#[]⟩, .string ⟨#[]⟩, .slice none 0 0], fun v _ => v = .string pz, fun v _ => v = .string s, fun v _ => v = .bool true, fun v _ => v = .bool true, fun v _ => v = .bool true, fun v _ => v = .agg #[.slice (some ⟨bI, 0, none⟩) 1 1, .slice (some ⟨bO, 0, none⟩) 1 1, .int .u64 0, .string ⟨#[]⟩, .string ⟨#[]⟩, .slice none 0 0], fun v _ => v = .agg #[.slice aI u.nI cI, .slice aO u.nO cO, .int .u64 u.p.amount, .string u.p.sig, .string u.p.token, .slice aW u.p.n cW], fun v _ => v = .bool true, fun v _ => v = .bool true, fun v _ => v = .bool true, fun v _ => v = .int .i64 0, fun v _ => v = .bool true, fun v _ => v = .bool true, fun v _ => v = .bool true, fun v _ => v = .int .i64 4, fun v _ => v = .bool true, fun v _ => v = .bool true, fun v _ => v = .bool true, fun v _ => v = .int .i64 3, fun v _ => v = .bool true, fun v _ => v = .bool true, fun v _ => v = .bool true, fun v _ => v = .int .u64 7, fun v _ => v = .bool true, fun v _ => v = .bool true, fun v _ => v = .bool true, fun v _ => v = .int .i64 0, fun v _ => v = .bool true, fun v _ => v = .bool true, fun v _ => v = .bool true, fun v _ => v = .int .i64 2, fun v _ => v = .bool true, fun v _ => v = .bool true, fun v _ => v = .bool true, fun v _ => v = .string h, fun v _ => v = .agg #[.string h, .int .i64 2], fun v _ => v = .string nn, fun v _ => v = .string h, fun v w => ∃ wB : World, v = .slice (some ⟨wB.heap.size, 0, none⟩) 2 2 ∧ Q (wB.alloc (.cells #[.string h, .string ⟨#[2]⟩] 9)) w, fun v _ => v = .string nn, fun v _ => v = .bool true, fun v _ => v = .bool true, fun v _ => v = .bool true, fun v _ => v = .agg #[.int .i64 2, .int .u64 1, .string h, .string h, .int .i64 9, .string h, .int .u64 2, .int .i64 3, .string ⟨#[]⟩], fun v _ => v = .bool true, fun v _ => v = .bool true, fun v _ => v = .bool true, fun v _ => v = .agg #[.int .i64 3, .int .u64 1, .string h, .string h, .int .i64 9, .string ⟨#[]⟩, .int .u64 0, .int .i64 0, .string h], fun v _ => v = .bool true, fun v _ => v = .bool true, fun v _ => v = .bool true, fun v _ => v = .string h, fun v _ => v = .string h, fun v _ => v = .agg #[.int .i64 1, .int .u64 1, .string h, .string ⟨#[]⟩, .int .i64 0, .string ⟨#[]⟩, .int .u64 0, .int .i64 0, .string h], fun v _ => v = .bool false, fun v _ => v = .bool true, fun v _ => v = .bool true, fun v _ => v = .bool true, fun v _ => v = .agg #[.slice none 0 0, .slice none 0 0, .int .u64 0, .string ⟨#[]⟩, .string ⟨#[]⟩, .slice none 0 0], fun v _ => v = .bool false, fun v _ => v = .bool true, fun v _ => v = .bool true, fun v _ => v = .bool true, fun v _ => v = .agg #[.slice none 0 0, .slice none 0 0, .int .u64 0, .string ⟨#[]⟩, .string ⟨#[]⟩, .slice none 0 0], fun v _ => v = .string ⟨#[]⟩, fun v _ => v = .bool true, fun v _ => v = .bool true, fun v _ => v = .bool true] : List (Value → World → Prop)).getD i (fun _ _ => True) := ⟨_, rfl⟩
  have v_0 : VV 0 = fun v _ => v = .agg #[.slice (some ⟨bI, 0, none⟩) 1 1, .slice (some ⟨bO, 0, none⟩) 1 1, .int .u64 0, .string ⟨#[]⟩, .string ⟨#[]⟩, .slice none 0 0] := vat hVV 0
  have v_1 : VV 1 = fun v _ => v = .string c := vat hVV 1
  have v_2 : VV 2 = fun v _ => v = .string c := vat hVV 2
  have v_3 : VV 3 = fun v _ => v = .bool true := vat hVV 3
  have v_4 : VV 4 = fun v _ => v = .bool true := vat hVV 4
  have v_5 : VV 5 = fun v _ => v = .agg #[.slice (some ⟨bI, 0, none⟩) 1 1, .slice (some ⟨bO, 0, none⟩) 1 1, .int .u64 0, .string ⟨#[]⟩, .string ⟨#[]⟩, .slice none 0 0] := vat hVV 5
  have v_6 : VV 6 = fun v _ => v = .string ii := vat hVV 6
  have v_7 : VV 7 = fun v _ => v = .string c := vat hVV 7
  have v_8 : VV 8 = fun v w => ∃ wB : World, v = .slice (some ⟨wB.heap.size, 0, none⟩) 1 1 ∧ Q (wB.alloc (.cells #[.string c] 9)) w := vat hVV 8
  have v_9 : VV 9 = fun v _ => v = .string ii := vat hVV 9
  have v_10 : VV 10 = fun v _ => v = .bool true := vat hVV 10
  have v_11 : VV 11 = fun v _ => v = .bool true := vat hVV 11
  have v_12 : VV 12 = fun v _ => v = .bool true := vat hVV 12
  have v_13 : VV 13 = fun v _ => v = .string s := vat hVV 13
  have v_14 : VV 14 = fun v _ => v = .string c := vat hVV 14
  have v_15 : VV 15 = fun v _ => v = .int .i64 46 := vat hVV 15
  have v_16 : VV 16 = fun v _ => v = .int .u8 46 := vat hVV 16
  have v_17 : VV 17 = fun v w => ∃ wB : World, v = .slice (some ⟨wB.heap.size, 0, none⟩) 1 1 ∧ Q (wB.alloc (.cells #[.int .u8 46] 5)) w := vat hVV 17
  have v_18 : VV 18 = fun v _ => v = .string l46 := vat hVV 18
  have v_19 : VV 19 = fun v _ => v = .string g1 := vat hVV 19
  have v_20 : VV 20 = fun v _ => v = .string c := vat hVV 20
  have v_21 : VV 21 = fun v _ => v = .string g2 := vat hVV 21
  have v_22 : VV 22 = fun v _ => v = .string g3 := vat hVV 22
  have v_23 : VV 23 = fun v _ => v = .agg #[.int .u64 0, .string ⟨#[]⟩, .string ⟨#[]⟩, .slice none 0 0] := vat hVV 23
  have v_24 : VV 24 = fun v _ => v = .string pz := vat hVV 24
  have v_25 : VV 25 = fun v _ => v = .string s := vat hVV 25
  have v_26 : VV 26 = fun v _ => v = .bool true := vat hVV 26
  have v_27 : VV 27 = fun v _ => v = .bool true := vat hVV 27
  have v_28 : VV 28 = fun v _ => v = .bool true := vat hVV 28
  have v_29 : VV 29 = fun v _ => v = .agg #[.slice (some ⟨bI, 0, none⟩) 1 1, .slice (some ⟨bO, 0, none⟩) 1 1, .int .u64 0, .string ⟨#[]⟩, .string ⟨#[]⟩, .slice none 0 0] := vat hVV 29
  have v_30 : VV 30 = fun v _ => v = .agg #[.slice aI u.nI cI, .slice aO u.nO cO, .int .u64 u.p.amount, .string u.p.sig, .string u.p.token, .slice aW u.p.n cW] := vat hVV 30
  have v_31 : VV 31 = fun v _ => v = .bool true := vat hVV 31
  have v_32 : VV 32 = fun v _ => v = .bool true := vat hVV 32
  have v_33 : VV 33 = fun v _ => v = .bool true := vat hVV 33
  have v_34 : VV 34 = fun v _ => v = .int .i64 0 := vat hVV 34
  have v_35 : VV 35 = fun v _ => v = .bool true := vat hVV 35
  have v_36 : VV 36 = fun v _ => v = .bool true := vat hVV 36
  have v_37 : VV 37 = fun v _ => v = .bool true := vat hVV 37
  have v_38 : VV 38 = fun v _ => v = .int .i64 4 := vat hVV 38
  have v_39 : VV 39 = fun v _ => v = .bool true := vat hVV 39
  have v_40 : VV 40 = fun v _ => v = .bool true := vat hVV 40
  have v_41 : VV 41 = fun v _ => v = .bool true := vat hVV 41
  have v_42 : VV 42 = fun v _ => v = .int .i64 3 := vat hVV 42
  have v_43 : VV 43 = fun v _ => v = .bool true := vat hVV 43
  have v_44 : VV 44 = fun v _ => v = .bool true := vat hVV 44
  have v_45 : VV 45 = fun v _ => v = .bool true := vat hVV 45
  have v_46 : VV 46 = fun v _ => v = .int .u64 7 := vat hVV 46
  have v_47 : VV 47 = fun v _ => v = .bool true := vat hVV 47
  have v_48 : VV 48 = fun v _ => v = .bool true := vat hVV 48
  have v_49 : VV 49 = fun v _ => v = .bool true := vat hVV 49
  have v_50 : VV 50 = fun v _ => v = .int .i64 0 := vat hVV 50
  have v_51 : VV 51 = fun v _ => v = .bool true := vat hVV 51
  have v_52 : VV 52 = fun v _ => v = .bool true := vat hVV 52
  have v_53 : VV 53 = fun v _ => v = .bool true := vat hVV 53
  have v_54 : VV 54 = fun v _ => v = .int .i64 2 := vat hVV 54
  have v_55 : VV 55 = fun v _ => v = .bool true := vat hVV 55
  have v_56 : VV 56 = fun v _ => v = .bool true := vat hVV 56
  have v_57 : VV 57 = fun v _ => v = .bool true := vat hVV 57
  have v_58 : VV 58 = fun v _ => v = .string h := vat hVV 58
  have v_59 : VV 59 = fun v _ => v = .agg #[.string h, .int .i64 2] := vat hVV 59
  have v_60 : VV 60 = fun v _ => v = .string nn := vat hVV 60
  have v_61 : VV 61 = fun v _ => v = .string h := vat hVV 61
  have v_62 : VV 62 = fun v w => ∃ wB : World, v = .slice (some ⟨wB.heap.size, 0, none⟩) 2 2 ∧ Q (wB.alloc (.cells #[.string h, .string ⟨#[2]⟩] 9)) w := vat hVV 62
  have v_63 : VV 63 = fun v _ => v = .string nn := vat hVV 63
  have v_64 : VV 64 = fun v _ => v = .bool true := vat hVV 64
  have v_65 : VV 65 = fun v _ => v = .bool true := vat hVV 65
  have v_66 : VV 66 = fun v _ => v = .bool true := vat hVV 66
  have v_67 : VV 67 = fun v _ => v = .agg #[.int .i64 2, .int .u64 1, .string h, .string h, .int .i64 9, .string h, .int .u64 2, .int .i64 3, .string ⟨#[]⟩] := vat hVV 67
  have v_68 : VV 68 = fun v _ => v = .bool true := vat hVV 68
  have v_69 : VV 69 = fun v _ => v = .bool true := vat hVV 69
  have v_70 : VV 70 = fun v _ => v = .bool true := vat hVV 70
  have v_71 : VV 71 = fun v _ => v = .agg #[.int .i64 3, .int .u64 1, .string h, .string h, .int .i64 9, .string ⟨#[]⟩, .int .u64 0, .int .i64 0, .string h] := vat hVV 71
  have v_72 : VV 72 = fun v _ => v = .bool true := vat hVV 72
  have v_73 : VV 73 = fun v _ => v = .bool true := vat hVV 73
  have v_74 : VV 74 = fun v _ => v = .bool true := vat hVV 74
  have v_75 : VV 75 = fun v _ => v = .string h := vat hVV 75
  have v_76 : VV 76 = fun v _ => v = .string h := vat hVV 76
  have v_77 : VV 77 = fun v _ => v = .agg #[.int .i64 1, .int .u64 1, .string h, .string ⟨#[]⟩, .int .i64 0, .string ⟨#[]⟩, .int .u64 0, .int .i64 0, .string h] := vat hVV 77
  have v_78 : VV 78 = fun v _ => v = .bool false := vat hVV 78
  have v_79 : VV 79 = fun v _ => v = .bool true := vat hVV 79
  have v_80 : VV 80 = fun v _ => v = .bool true := vat hVV 80
  have v_81 : VV 81 = fun v _ => v = .bool true := vat hVV 81
  have v_82 : VV 82 = fun v _ => v = .agg #[.slice none 0 0, .slice none 0 0, .int .u64 0, .string ⟨#[]⟩, .string ⟨#[]⟩, .slice none 0 0] := vat hVV 82
  have v_83 : VV 83 = fun v _ => v = .bool false := vat hVV 83
  have v_84 : VV 84 = fun v _ => v = .bool true := vat hVV 84
  have v_85 : VV 85 = fun v _ => v = .bool true := vat hVV 85
  have v_86 : VV 86 = fun v _ => v = .bool true := vat hVV 86
  have v_87 : VV 87 = fun v _ => v = .agg #[.slice none 0 0, .slice none 0 0, .int .u64 0, .string ⟨#[]⟩, .string ⟨#[]⟩, .slice none 0 0] := vat hVV 87
  have v_88 : VV 88 = fun v _ => v = .string ⟨#[]⟩ := vat hVV 88
  have v_89 : VV 89 = fun v _ => v = .bool true := vat hVV 89
  have v_90 : VV 90 = fun v _ => v = .bool true := vat hVV 90
  have v_91 : VV 91 = fun v _ => v = .bool true := vat hVV 91
  have hV := stable_of (T := Q) hVV ((sl_cons (fun _ _ _ h _ => h) (sl_cons (fun _ _ _ h _ => h) (sl_cons (fun _ _ _ h _ => h) (sl_cons (fun _ _ _ h _ => h) (sl_cons (fun _ _ _ h _ => h) (sl_cons (fun _ _ _ h _ => h) (sl_cons (fun _ _ _ h _ => h) (sl_cons (fun _ _ _ h _ => h) (sl_cons (fun _ _ _ h q => by obtain ⟨wB, h1, h2⟩ := h; exact ⟨wB, h1, h2.trans q⟩) (sl_cons (fun _ _ _ h _ => h) (sl_cons (fun _ _ _ h _ => h) (sl_cons (fun _ _ _ h _ => h) (sl_cons (fun _ _ _ h _ => h) (sl_cons (fun _ _ _ h _ => h) (sl_cons (fun _ _ _ h _ => h) (sl_cons (fun _ _ _ h _ => h) (sl_cons (fun _ _ _ h _ => h) (sl_cons (fun _ _ _ h q => by obtain ⟨wB, h1, h2⟩ := h; exact ⟨wB, h1, h2.trans q⟩) (sl_cons (fun _ _ _ h _ => h) (sl_cons (fun _ _ _ h _ => h) (sl_cons (fun _ _ _ h _ => h) (sl_cons (fun _ _ _ h _ => h) (sl_cons (fun _ _ _ h _ => h) (sl_cons (fun _ _ _ h _ => h) (sl_cons (fun _ _ _ h _ => h) (sl_cons (fun _ _ _ h _ => h) (sl_cons (fun _ _ _ h _ => h) (sl_cons (fun _ _ _ h _ => h) (sl_cons (fun _ _ _ h _ => h) (sl_cons (fun _ _ _ h _ => h) (sl_cons (fun _ _ _ h _ => h) (sl_cons (fun _ _ _ h _ => h) (sl_cons (fun _ _ _ h _ => h) (sl_cons (fun _ _ _ h _ => h) (sl_cons (fun _ _ _ h _ => h) (sl_cons (fun _ _ _ h _ => h) (sl_cons (fun _ _ _ h _ => h) (sl_cons (fun _ _ _ h _ => h) (sl_cons (fun _ _ _ h _ => h) (sl_cons (fun _ _ _ h _ => h) (sl_cons (fun _ _ _ h _ => h) (sl_cons (fun _ _ _ h _ => h) (sl_cons (fun _ _ _ h _ => h) (sl_cons (fun _ _ _ h _ => h) (sl_cons (fun _ _ _ h _ => h) (sl_cons (fun _ _ _ h _ => h) (sl_cons (fun _ _ _ h _ => h) (sl_cons (fun _ _ _ h _ => h) (sl_cons (fun _ _ _ h _ => h) (sl_cons (fun _ _ _ h _ => h) (sl_cons (fun _ _ _ h _ => h) (sl_cons (fun _ _ _ h _ => h) (sl_cons (fun _ _ _ h _ => h) (sl_cons (fun _ _ _ h _ => h) (sl_cons (fun _ _ _ h _ => h) (sl_cons (fun _ _ _ h _ => h) (sl_cons (fun _ _ _ h _ => h) (sl_cons (fun _ _ _ h _ => h) (sl_cons (fun _ _ _ h _ => h) (sl_cons (fun _ _ _ h _ => h) (sl_cons (fun _ _ _ h _ => h) (sl_cons (fun _ _ _ h _ => h) (sl_cons (fun _ _ _ h q => by obtain ⟨wB, h1, h2⟩ := h; exact ⟨wB, h1, h2.trans q⟩) (sl_cons (fun _ _ _ h _ => h) (sl_cons (fun _ _ _ h _ => h) (sl_cons (fun _ _ _ h _ => h) (sl_cons (fun _ _ _ h _ => h) (sl_cons (fun _ _ _ h _ => h) (sl_cons (fun _ _ _ h _ => h) (sl_cons (fun _ _ _ h _ => h) (sl_cons (fun _ _ _ h _ => h) (sl_cons (fun _ _ _ h _ => h) (sl_cons (fun _ _ _ h _ => h) (sl_cons (fun _ _ _ h _ => h) (sl_cons (fun _ _ _ h _ => h) (sl_cons (fun _ _ _ h _ => h) (sl_cons (fun _ _ _ h _ => h) (sl_cons (fun _ _ _ h _ => h) (sl_cons (fun _ _ _ h _ => h) (sl_cons (fun _ _ _ h _ => h) (sl_cons (fun _ _ _ h _ => h) (sl_cons (fun _ _ _ h _ => h) (sl_cons (fun _ _ _ h _ => h) (sl_cons (fun _ _ _ h _ => h) (sl_cons (fun _ _ _ h _ => h) (sl_cons (fun _ _ _ h _ => h) (sl_cons (fun _ _ _ h _ => h) (sl_cons (fun _ _ _ h _ => h) (sl_cons (fun _ _ _ h _ => h) (sl_cons (fun _ _ _ h _ => h) (sl_cons (fun _ _ _ h _ => h) (sl_cons (fun _ _ _ h _ => h) trivial)))))))))))))))))))))))))))))))))))))))))))))))))))))))))))))))))))))))))))))))))))))))))))))
  clear hVV
  have i_0 := pget_at hO 0 rfl
  have i_1 := pget_at hO 1 rfl
  have i_2 := pget_at hO 2 rfl
  have i_3 := pget_at hO 3 rfl
  have i_4 := pget_at hO 4 rfl
  have i_5 := pget_at hO 5 rfl
  have i_6 := pget_at hO 6 rfl
  have i_7 := pget_at hO 7 rfl
  have i_8 := pget_at hO 8 rfl
  have i_9 := pget_at hO 9 rfl
  have i_10 := pget_at hO 10 rfl
  have i_11 := pget_at hO 11 rfl
  have i_12 := pget_at hO 12 rfl
  have i_13 := pget_at hO 13 rfl
  have i_14 := pget_at hO 14 rfl
  have i_15 := pget_at hO 15 rfl
  have i_16 := pget_at hO 16 rfl
  have i_17 := pget_at hO 17 rfl
  have i_18 := pget_at hO 18 rfl
  have i_19 := pget_at hO 19 rfl
  have i_20 := pget_at hO 20 rfl
  have i_21 := pget_at hO 21 rfl
  have i_22 := pget_at hO 22 rfl
  have i_23 := pget_at hO 23 rfl
  have i_24 := pget_at hO 24 rfl
  have i_25 := pget_at hO 25 rfl
  have i_26 := pget_at hO 26 rfl
  have i_27 := pget_at hO 27 rfl
  have i_28 := pget_at hO 28 rfl
  have i_29 := pget_at hO 29 rfl
  have i_30 := pget_at hO 30 rfl
  have i_31 := pget_at hO 31 rfl
  have i_32 := pget_at hO 32 rfl
  have i_33 := pget_at hO 33 rfl
  have i_34 := pget_at hO 34 rfl
  have i_35 := pget_at hO 35 rfl
  have i_36 := pget_at hO 36 rfl
  have i_37 := pget_at hO 37 rfl
  have i_38 := pget_at hO 38 rfl
  have i_39 := pget_at hO 39 rfl
  have i_40 := pget_at hO 40 rfl
  have i_41 := pget_at hO 41 rfl
  have i_42 := pget_at hO 42 rfl
  have i_43 := pget_at hO 43 rfl
  have i_44 := pget_at hO 44 rfl
  have i_45 := pget_at hO 45 rfl
  have i_46 := pget_at hO 46 rfl
  have i_47 := pget_at hO 47 rfl
  have i_48 := pget_at hO 48 rfl
  have i_49 := pget_at hO 49 rfl
  have i_50 := pget_at hO 50 rfl
  have i_51 := pget_at hO 51 rfl
  have i_52 := pget_at hO 52 rfl
  have i_53 := pget_at hO 53 rfl
  have i_54 := pget_at hO 54 rfl
  have i_55 := pget_at hO 55 rfl
  have i_56 := pget_at hO 56 rfl
  have i_57 := pget_at hO 57 rfl
  have i_58 := pget_at hO 58 rfl
  have i_59 := pget_at hO 59 rfl
  have i_60 := pget_at hO 60 rfl
  have i_61 := pget_at hO 61 rfl
  have i_62 := pget_at hO 62 rfl
  have i_63 := pget_at hO 63 rfl
  have i_64 := pget_at hO 64 rfl
  have i_65 := pget_at hO 65 rfl
  have i_66 := pget_at hO 66 rfl
  have i_67 := pget_at hO 67 rfl
  have i_68 := pget_at hO 68 rfl
  have i_69 := pget_at hO 69 rfl
  have i_70 := pget_at hO 70 rfl
  have i_71 := pget_at hO 71 rfl
  have i_72 := pget_at hO 72 rfl
  have i_73 := pget_at hO 73 rfl
  have i_74 := pget_at hO 74 rfl
  have i_75 := pget_at hO 75 rfl
  have i_76 := pget_at hO 76 rfl
  have i_77 := pget_at hO 77 rfl
  have i_78 := pget_at hO 78 rfl
  have i_79 := pget_at hO 79 rfl
  have i_80 := pget_at hO 80 rfl
  have i_81 := pget_at hO 81 rfl
  have i_82 := pget_at hO 82 rfl
  have i_83 := pget_at hO 83 rfl
  have i_84 := pget_at hO 84 rfl
  have i_85 := pget_at hO 85 rfl
  have i_86 := pget_at hO 86 rfl
  have i_87 := pget_at hO 87 rfl
  have i_88 := pget_at hO 88 rfl
  have i_89 := pget_at hO 89 rfl
  have i_90 := pget_at hO 90 rfl
  have i_91 := pget_at hO 91 rfl
  have s_0 := Step.pure (P := Tryz.prog) (V := VV) (T := Q) (S := (Q w14)) (a0 := A0) (Qx := QQ) i_0 (.agg #[.slice (some ⟨bI, 0, none⟩) 1 1, .slice (some ⟨bO, 0, none⟩) 1 1, .int .u64 0, .string ⟨#[]⟩, .string ⟨#[]⟩, .slice none 0 0]) (Q.refl ·) (fun l a w hI hl => ⟨wanted_none rfl, ex_load 29 rfl b2 [.slice (some ⟨bI, 0, none⟩) 1 1, .slice (some ⟨bO, 0, none⟩) 1 1, .int .u64 0, .string ⟨#[]⟩, .string ⟨#[]⟩, .slice none 0 0] _ ((hI.base 2 fr_2).trans b_2) ((RC w hI.st).1.b.range) Tryz.underlying29 rfl (by kernel_rfl), at_mk v_0 rfl⟩)
  have s_1 := Step.call (P := Tryz.prog) (V := VV) (T := Q) (S := (Q w14)) (a0 := A0) (Qx := QQ) (R := fun _ _ _ => True) i_1 (fun l a w hI hl => by
    refine ⟨wanted_none rfl, 19, #[.agg #[.slice (some ⟨bI, 0, none⟩) 1 1, .slice (some ⟨bO, 0, none⟩) 1 1, .int .u64 0, .string ⟨#[]⟩, .string ⟨#[]⟩, .slice none 0 0]], ?_, ?_⟩
    · exact ex_call rfl (by simp only [List.map_toArray, List.map_cons, List.map_nil, ev_const, (show a.eval (.tmp 69) = _ from (at_eq v_0 (hI.at_ 0 69 _ i_0 rfl (hl_at hl 0 rfl rfl))))]) Tryz.func19 (by kernel_rfl) (by kernel_rfl)
    · exact (CORE.out _ (RC w hI.st).1).mono fun e w' hc => by
        obtain ⟨rfl, hq⟩ := hc
        exact ⟨_, rfl, hq, hI.st.trans hq, at_mk v_1 rfl⟩)
  have s_2 := Step.pure (P := Tryz.prog) (V := VV) (T := Q) (S := (Q w14)) (a0 := A0) (Qx := QQ) i_2 (.string c) (Q.refl ·) (fun l a w hI hl => ⟨wanted_none rfl, ex_move rfl ((hI.base 3 fr_3).trans b_3), at_mk v_2 rfl⟩)
  have s_3 := Step.pure (P := Tryz.prog) (V := VV) (T := Q) (S := (Q w14)) (a0 := A0) (Qx := QQ) i_3 (.bool true) (Q.refl ·) (fun l a w hI hl => ⟨wanted_none rfl, ex_bin rfl (at_eq v_1 (hI.at_ 1 70 _ i_1 rfl (hl_at hl 0 rfl rfl))) (at_eq v_2 (hI.at_ 2 71 _ i_2 rfl (hl_at hl 1 rfl rfl))) (eqs_same _ _ _ _ _), at_mk v_3 rfl⟩)
  have s_4 := Step.pure (P := Tryz.prog) (V := VV) (T := Q) (S := (Q w14)) (a0 := A0) (Qx := QQ) i_4 (.bool true) (Q.refl ·) (fun l a w hI hl => ⟨wanted_none rfl, ex_move rfl (at_eq v_3 (hI.at_ 3 72 _ i_3 rfl (hl_at hl 0 rfl rfl))), at_mk v_4 rfl⟩)
  have s_5 := Step.pure (P := Tryz.prog) (V := VV) (T := Q) (S := (Q w14)) (a0 := A0) (Qx := QQ) i_5 (.agg #[.slice (some ⟨bI, 0, none⟩) 1 1, .slice (some ⟨bO, 0, none⟩) 1 1, .int .u64 0, .string ⟨#[]⟩, .string ⟨#[]⟩, .slice none 0 0]) (Q.refl ·) (fun l a w hI hl => ⟨wanted_of rfl i_4 rfl (lt_of hI hz rfl) (at_eq v_4 (hI.at_ 4 73 _ i_4 rfl (hl_at hl 0 rfl rfl))), ex_load 29 rfl b2 [.slice (some ⟨bI, 0, none⟩) 1 1, .slice (some ⟨bO, 0, none⟩) 1 1, .int .u64 0, .string ⟨#[]⟩, .string ⟨#[]⟩, .slice none 0 0] _ ((hI.base 2 fr_2).trans b_2) ((RC w hI.st).1.b.range) Tryz.underlying29 rfl (by kernel_rfl), at_mk v_5 rfl⟩)
  have s_6 := Step.call (P := Tryz.prog) (V := VV) (T := Q) (S := (Q w14)) (a0 := A0) (Qx := QQ) (R := fun _ _ _ => True) i_6 (fun l a w hI hl => by
    refine ⟨wanted_of rfl i_4 rfl (lt_of hI hz rfl) (at_eq v_4 (hI.at_ 4 73 _ i_4 rfl (hl_at hl 1 rfl rfl))), 21, #[.agg #[.slice (some ⟨bI, 0, none⟩) 1 1, .slice (some ⟨bO, 0, none⟩) 1 1, .int .u64 0, .string ⟨#[]⟩, .string ⟨#[]⟩, .slice none 0 0]], ?_, ?_⟩
    · exact ex_call rfl (by simp only [List.map_toArray, List.map_cons, List.map_nil, ev_const, (show a.eval (.tmp 74) = _ from (at_eq v_5 (hI.at_ 5 74 _ i_5 rfl (hl_at hl 0 rfl rfl))))]) Tryz.func21 (by kernel_rfl) (by kernel_rfl)
    · exact (CID.out _ (RC w hI.st).1).mono fun e w' hc => by
        obtain ⟨rfl, hq⟩ := hc
        exact ⟨_, rfl, hq, hI.st.trans hq, at_mk v_6 rfl⟩)
  have s_7 := Step.pure (P := Tryz.prog) (V := VV) (T := Q) (S := (Q w14)) (a0 := A0) (Qx := QQ) i_7 (.string c) (Q.refl ·) (fun l a w hI hl => ⟨wanted_of rfl i_4 rfl (lt_of hI hz rfl) (at_eq v_4 (hI.at_ 4 73 _ i_4 rfl (hl_at hl 0 rfl rfl))), ex_move rfl ((hI.base 3 fr_3).trans b_3), at_mk v_7 rfl⟩)
  have s_8 := Step.done (P := Tryz.prog) (V := VV) (T := Q) (S := (Q w14)) (a0 := A0) (Qx := QQ) i_8 (fun l a w hI hl => by
    refine ⟨wanted_of rfl i_4 rfl (lt_of hI hz rfl) (at_eq v_4 (hI.at_ 4 73 _ i_4 rfl (hl_at hl 1 rfl rfl))), ?_⟩
    refine wpo_s1 (c) rfl (at_eq v_7 (hI.at_ 7 76 _ i_7 rfl (hl_at hl 0 rfl rfl))) ?_
    exact ⟨_, rfl, (Q.refl w).alloc _, hI.st.alloc _, p_at v_8 ⟨w, rfl, Q.refl _⟩⟩)
  have s_9 := Step.done (P := Tryz.prog) (V := VV) (T := Q) (S := (Q w14)) (a0 := A0) (Qx := QQ) i_9 (fun l a w hI hl => by
    obtain ⟨wB, eB, qB⟩ := at_p v_8 (hI.at_ 8 77 _ i_8 rfl (hl_at hl 0 rfl rfl))
    refine ⟨wanted_of rfl i_4 rfl (lt_of hI hz rfl) (at_eq v_4 (hI.at_ 4 73 _ i_4 rfl (hl_at hl 2 rfl rfl))), ?_⟩
    refine wp_enter (f := 78) (args := #[.string ⟨#[116, 120]⟩, .slice (some ⟨wB.heap.size, 0, none⟩) 1 1]) ?_ ?_
    · exact ex_call rfl (by simp only [List.map_toArray, List.map_cons, List.map_nil, ev_const, eB]) Tryz.func78 (by kernel_rfl) (by kernel_rfl)
    · refine (tag1_at wTx c ii TI.out 9 wB w qB (hG.q (RC w hI.st).1.q) (by decide) zc).mono fun e w' hc => ?_
      obtain ⟨rfl, hq⟩ := hc
      exact ⟨_, rfl, hq, hI.st.trans hq, at_mk v_9 rfl⟩)
  have s_10 := Step.pure (P := Tryz.prog) (V := VV) (T := Q) (S := (Q w14)) (a0 := A0) (Qx := QQ) i_10 (.bool true) (Q.refl ·) (fun l a w hI hl => ⟨wanted_of rfl i_4 rfl (lt_of hI hz rfl) (at_eq v_4 (hI.at_ 4 73 _ i_4 rfl (hl_at hl 2 rfl rfl))), ex_bin rfl (at_eq v_6 (hI.at_ 6 75 _ i_6 rfl (hl_at hl 0 rfl rfl))) (at_eq v_9 (hI.at_ 9 78 _ i_9 rfl (hl_at hl 1 rfl rfl))) (eqs_same _ _ _ _ _), at_mk v_10 rfl⟩)
  have s_11 := Step.pure (P := Tryz.prog) (V := VV) (T := Q) (S := (Q w14)) (a0 := A0) (Qx := QQ) i_11 (.bool true) (Q.refl ·) (fun l a w hI hl => ⟨wanted_none rfl, ex_pick_t rfl (at_eq v_4 (hI.at_ 4 73 _ i_4 rfl (hl_at hl 0 rfl rfl))) (at_eq v_10 (hI.at_ 10 79 _ i_10 rfl (hl_at hl 1 rfl rfl))), at_mk v_11 rfl⟩)
  have s_12 := Step.pure (P := Tryz.prog) (V := VV) (T := Q) (S := (Q w14)) (a0 := A0) (Qx := QQ) i_12 (.bool true) (Q.refl ·) (fun l a w hI hl => ⟨wanted_none rfl, ex_move rfl (at_eq v_11 (hI.at_ 11 80 _ i_11 rfl (hl_at hl 0 rfl rfl))), at_mk v_12 rfl⟩)
  have s_13 := Step.pure (P := Tryz.prog) (V := VV) (T := Q) (S := (Q w14)) (a0 := A0) (Qx := QQ) i_13 (.string s) (Q.refl ·) (fun l a w hI hl => ⟨wanted_of rfl i_12 rfl (lt_of hI hz rfl) (at_eq v_12 (hI.at_ 12 81 _ i_12 rfl (hl_at hl 0 rfl rfl))), ex_move rfl ((hI.base 4 fr_4).trans b_4), at_mk v_13 rfl⟩)
  have s_14 := Step.pure (P := Tryz.prog) (V := VV) (T := Q) (S := (Q w14)) (a0 := A0) (Qx := QQ) i_14 (.string c) (Q.refl ·) (fun l a w hI hl => ⟨wanted_of rfl i_12 rfl (lt_of hI hz rfl) (at_eq v_12 (hI.at_ 12 81 _ i_12 rfl (hl_at hl 0 rfl rfl))), ex_move rfl ((hI.base 3 fr_3).trans b_3), at_mk v_14 rfl⟩)
  have s_15 := Step.pure (P := Tryz.prog) (V := VV) (T := Q) (S := (Q w14)) (a0 := A0) (Qx := QQ) i_15 (.int .i64 46) (Q.refl ·) (fun l a w hI hl => ⟨wanted_of rfl i_12 rfl (lt_of hI hz rfl) (at_eq v_12 (hI.at_ 12 81 _ i_12 rfl (hl_at hl 1 rfl rfl))), ex_len rfl Tryz.underlying9 (at_eq v_14 (hI.at_ 14 83 _ i_14 rfl (hl_at hl 0 rfl rfl))) y3', at_mk v_15 rfl⟩)
  have s_16 := Step.pure (P := Tryz.prog) (V := VV) (T := Q) (S := (Q w14)) (a0 := A0) (Qx := QQ) i_16 (.int .u8 46) (Q.refl ·) (fun l a w hI hl => ⟨wanted_of rfl i_12 rfl (lt_of hI hz rfl) (at_eq v_12 (hI.at_ 12 81 _ i_12 rfl (hl_at hl 1 rfl rfl))), ex_conv rfl (at_eq v_15 (hI.at_ 15 84 _ i_15 rfl (hl_at hl 0 rfl rfl))) (by kernel_rfl), at_mk v_16 rfl⟩)
  have s_17 := Step.done (P := Tryz.prog) (V := VV) (T := Q) (S := (Q w14)) (a0 := A0) (Qx := QQ) i_17 (fun l a w hI hl => by
    refine ⟨wanted_of rfl i_12 rfl (lt_of hI hz rfl) (at_eq v_12 (hI.at_ 12 81 _ i_12 rfl (hl_at hl 1 rfl rfl))), ?_⟩
    refine wpo_u1 (46) rfl (at_eq v_16 (hI.at_ 16 85 _ i_16 rfl (hl_at hl 0 rfl rfl))) ?_
    exact ⟨_, rfl, (Q.refl w).alloc _, hI.st.alloc _, p_at v_17 ⟨w, rfl, Q.refl _⟩⟩)
  have s_18 := Step.done (P := Tryz.prog) (V := VV) (T := Q) (S := (Q w14)) (a0 := A0) (Qx := QQ) i_18 (fun l a w hI hl => by
    obtain ⟨wB, eB, qB⟩ := at_p v_17 (hI.at_ 17 86 _ i_17 rfl (hl_at hl 0 rfl rfl))
    refine ⟨wanted_of rfl i_12 rfl (lt_of hI hz rfl) (at_eq v_12 (hI.at_ 12 81 _ i_12 rfl (hl_at hl 1 rfl rfl))), ?_⟩
    refine wp_value (v := .string l46) (ex_conv rfl eB ?_) ⟨_, rfl, Q.refl _, hI.st, at_mk v_18 rfl⟩
    have cv := conv_at w wB.heap.size 46 (Q.cell' qB (by rw [World.cell?_alloc_at _ _ _ _ rfl]; rfl))
    rw [CL.out] at cv
    exact cv)
  have s_19 := Step.pure (P := Tryz.prog) (V := VV) (T := Q) (S := (Q w14)) (a0 := A0) (Qx := QQ) i_19 (.string g1) (Q.refl ·) (fun l a w hI hl => ⟨wanted_of rfl i_12 rfl (lt_of hI hz rfl) (at_eq v_12 (hI.at_ 12 81 _ i_12 rfl (hl_at hl 1 rfl rfl))), ex_bin rfl rfl (at_eq v_18 (hI.at_ 18 87 _ i_18 rfl (hl_at hl 0 rfl rfl))) (cats (by first | decide | omega) (by first | decide | omega) e1), at_mk v_19 rfl⟩)
  have s_20 := Step.pure (P := Tryz.prog) (V := VV) (T := Q) (S := (Q w14)) (a0 := A0) (Qx := QQ) i_20 (.string c) (Q.refl ·) (fun l a w hI hl => ⟨wanted_of rfl i_12 rfl (lt_of hI hz rfl) (at_eq v_12 (hI.at_ 12 81 _ i_12 rfl (hl_at hl 0 rfl rfl))), ex_move rfl ((hI.base 3 fr_3).trans b_3), at_mk v_20 rfl⟩)
  have s_21 := Step.pure (P := Tryz.prog) (V := VV) (T := Q) (S := (Q w14)) (a0 := A0) (Qx := QQ) i_21 (.string g2) (Q.refl ·) (fun l a w hI hl => ⟨wanted_of rfl i_12 rfl (lt_of hI hz rfl) (at_eq v_12 (hI.at_ 12 81 _ i_12 rfl (hl_at hl 2 rfl rfl))), ex_bin rfl (at_eq v_19 (hI.at_ 19 88 _ i_19 rfl (hl_at hl 0 rfl rfl))) (at_eq v_20 (hI.at_ 20 89 _ i_20 rfl (hl_at hl 1 rfl rfl))) (cats (by first | decide | omega) (by first | decide | omega) e2), at_mk v_21 rfl⟩)
  have s_22 := Step.pure (P := Tryz.prog) (V := VV) (T := Q) (S := (Q w14)) (a0 := A0) (Qx := QQ) i_22 (.string g3) (Q.refl ·) (fun l a w hI hl => ⟨wanted_of rfl i_12 rfl (lt_of hI hz rfl) (at_eq v_12 (hI.at_ 12 81 _ i_12 rfl (hl_at hl 1 rfl rfl))), ex_bin rfl (at_eq v_21 (hI.at_ 21 90 _ i_21 rfl (hl_at hl 0 rfl rfl))) rfl (cats (by first | decide | omega) (by first | decide | omega) e3), at_mk v_22 rfl⟩)
  have s_23 := Step.pure (P := Tryz.prog) (V := VV) (T := Q) (S := (Q w14)) (a0 := A0) (Qx := QQ) i_23 (.agg #[.int .u64 0, .string ⟨#[]⟩, .string ⟨#[]⟩, .slice none 0 0]) (Q.refl ·) (fun l a w hI hl => ⟨wanted_of rfl i_12 rfl (lt_of hI hz rfl) (at_eq v_12 (hI.at_ 12 81 _ i_12 rfl (hl_at hl 0 rfl rfl))), ex_build rfl (by simp only [List.map_toArray, List.map_cons, List.map_nil]; exact built_pzero), at_mk v_23 rfl⟩)
  have s_24 := Step.call (P := Tryz.prog) (V := VV) (T := Q) (S := (Q w14)) (a0 := A0) (Qx := QQ) (R := fun _ _ _ => True) i_24 (fun l a w hI hl => by
    refine ⟨wanted_of rfl i_12 rfl (lt_of hI hz rfl) (at_eq v_12 (hI.at_ 12 81 _ i_12 rfl (hl_at hl 1 rfl rfl))), 81, #[.agg #[.int .u64 0, .string ⟨#[]⟩, .string ⟨#[]⟩, .slice none 0 0]], ?_, ?_⟩
    · exact ex_call rfl (by simp only [List.map_toArray, List.map_cons, List.map_nil, ev_const, (show a.eval (.tmp 92) = _ from (at_eq v_23 (hI.at_ 23 92 _ i_23 rfl (hl_at hl 0 rfl rfl))))]) Tryz.func81 (by kernel_rfl) (by kernel_rfl)
    · exact (CENC.out _).mono fun e w' hc => by
        obtain ⟨rfl, hq⟩ := hc
        exact ⟨_, rfl, hq, hI.st.trans hq, at_mk v_24 rfl⟩)
  have s_25 := Step.pure (P := Tryz.prog) (V := VV) (T := Q) (S := (Q w14)) (a0 := A0) (Qx := QQ) i_25 (.string s) (Q.refl ·) (fun l a w hI hl => ⟨wanted_of rfl i_12 rfl (lt_of hI hz rfl) (at_eq v_12 (hI.at_ 12 81 _ i_12 rfl (hl_at hl 2 rfl rfl))), ex_bin rfl (at_eq v_22 (hI.at_ 22 91 _ i_22 rfl (hl_at hl 0 rfl rfl))) (at_eq v_24 (hI.at_ 24 93 _ i_24 rfl (hl_at hl 1 rfl rfl))) (cats (by first | decide | omega) (by first | decide | omega) e4), at_mk v_25 rfl⟩)
  have s_26 := Step.pure (P := Tryz.prog) (V := VV) (T := Q) (S := (Q w14)) (a0 := A0) (Qx := QQ) i_26 (.bool true) (Q.refl ·) (fun l a w hI hl => ⟨wanted_of rfl i_12 rfl (lt_of hI hz rfl) (at_eq v_12 (hI.at_ 12 81 _ i_12 rfl (hl_at hl 2 rfl rfl))), ex_bin rfl (at_eq v_13 (hI.at_ 13 82 _ i_13 rfl (hl_at hl 0 rfl rfl))) (at_eq v_25 (hI.at_ 25 94 _ i_25 rfl (hl_at hl 1 rfl rfl))) (eqs_same _ _ _ _ _), at_mk v_26 rfl⟩)
  have s_27 := Step.pure (P := Tryz.prog) (V := VV) (T := Q) (S := (Q w14)) (a0 := A0) (Qx := QQ) i_27 (.bool true) (Q.refl ·) (fun l a w hI hl => ⟨wanted_none rfl, ex_pick_t rfl (at_eq v_12 (hI.at_ 12 81 _ i_12 rfl (hl_at hl 0 rfl rfl))) (at_eq v_26 (hI.at_ 26 95 _ i_26 rfl (hl_at hl 1 rfl rfl))), at_mk v_27 rfl⟩)
  have s_28 := Step.pure (P := Tryz.prog) (V := VV) (T := Q) (S := (Q w14)) (a0 := A0) (Qx := QQ) i_28 (.bool true) (Q.refl ·) (fun l a w hI hl => ⟨wanted_none rfl, ex_move rfl (at_eq v_27 (hI.at_ 27 96 _ i_27 rfl (hl_at hl 0 rfl rfl))), at_mk v_28 rfl⟩)
  have s_29 := Step.pure (P := Tryz.prog) (V := VV) (T := Q) (S := (Q w14)) (a0 := A0) (Qx := QQ) i_29 (.agg #[.slice (some ⟨bI, 0, none⟩) 1 1, .slice (some ⟨bO, 0, none⟩) 1 1, .int .u64 0, .string ⟨#[]⟩, .string ⟨#[]⟩, .slice none 0 0]) (Q.refl ·) (fun l a w hI hl => ⟨wanted_of rfl i_28 rfl (lt_of hI hz rfl) (at_eq v_28 (hI.at_ 28 97 _ i_28 rfl (hl_at hl 0 rfl rfl))), ex_load 29 rfl b2 [.slice (some ⟨bI, 0, none⟩) 1 1, .slice (some ⟨bO, 0, none⟩) 1 1, .int .u64 0, .string ⟨#[]⟩, .string ⟨#[]⟩, .slice none 0 0] _ ((hI.base 2 fr_2).trans b_2) ((RC w hI.st).1.b.range) Tryz.underlying29 rfl (by kernel_rfl), at_mk v_29 rfl⟩)
  have s_30 := Step.pure (P := Tryz.prog) (V := VV) (T := Q) (S := (Q w14)) (a0 := A0) (Qx := QQ) i_30 (.agg #[.slice aI u.nI cI, .slice aO u.nO cO, .int .u64 u.p.amount, .string u.p.sig, .string u.p.token, .slice aW u.p.n cW]) (Q.refl ·) (fun l a w hI hl => ⟨wanted_of rfl i_28 rfl (lt_of hI hz rfl) (at_eq v_28 (hI.at_ 28 97 _ i_28 rfl (hl_at hl 0 rfl rfl))), ex_load 29 rfl b5 [.slice aI u.nI cI, .slice aO u.nO cO, .int .u64 u.p.amount, .string u.p.sig, .string u.p.token, .slice aW u.p.n cW] _ ((hI.base 5 fr_5).trans b_5) ((RC w hI.st).2.1.b.range) Tryz.underlying29 rfl (by kernel_rfl), at_mk v_30 rfl⟩)
  have s_31 := Step.call (P := Tryz.prog) (V := VV) (T := Q) (S := (Q w14)) (a0 := A0) (Qx := QQ) (R := fun _ _ _ => True) i_31 (fun l a w hI hl => by
    refine ⟨wanted_of rfl i_28 rfl (lt_of hI hz rfl) (at_eq v_28 (hI.at_ 28 97 _ i_28 rfl (hl_at hl 2 rfl rfl))), 16, #[.agg #[.slice (some ⟨bI, 0, none⟩) 1 1, .slice (some ⟨bO, 0, none⟩) 1 1, .int .u64 0, .string ⟨#[]⟩, .string ⟨#[]⟩, .slice none 0 0], .agg #[.slice aI u.nI cI, .slice aO u.nO cO, .int .u64 u.p.amount, .string u.p.sig, .string u.p.token, .slice aW u.p.n cW]], ?_, ?_⟩
    · exact ex_call rfl (by simp only [List.map_toArray, List.map_cons, List.map_nil, ev_const, (show a.eval (.tmp 98) = _ from (at_eq v_29 (hI.at_ 29 98 _ i_29 rfl (hl_at hl 0 rfl rfl)))), (show a.eval (.tmp 99) = _ from (at_eq v_30 (hI.at_ 30 99 _ i_30 rfl (hl_at hl 1 rfl rfl))))]) Tryz.func16 (by kernel_rfl) (by kernel_rfl)
    · exact (CSAM.out _ (RC w hI.st).1 (RC w hI.st).2.1).mono fun e w' hc => by
        obtain ⟨rfl, hq⟩ := hc
        exact ⟨_, rfl, hq, hI.st.trans hq, at_mk v_31 rfl⟩)
  have s_32 := Step.pure (P := Tryz.prog) (V := VV) (T := Q) (S := (Q w14)) (a0 := A0) (Qx := QQ) i_32 (.bool true) (Q.refl ·) (fun l a w hI hl => ⟨wanted_none rfl, ex_pick_t rfl (at_eq v_28 (hI.at_ 28 97 _ i_28 rfl (hl_at hl 0 rfl rfl))) (at_eq v_31 (hI.at_ 31 100 _ i_31 rfl (hl_at hl 1 rfl rfl))), at_mk v_32 rfl⟩)
  have s_33 := Step.pure (P := Tryz.prog) (V := VV) (T := Q) (S := (Q w14)) (a0 := A0) (Qx := QQ) i_33 (.bool true) (Q.refl ·) (fun l a w hI hl => ⟨wanted_none rfl, ex_move rfl (at_eq v_32 (hI.at_ 32 101 _ i_32 rfl (hl_at hl 0 rfl rfl))), at_mk v_33 rfl⟩)
  have s_34 := Step.pure (P := Tryz.prog) (V := VV) (T := Q) (S := (Q w14)) (a0 := A0) (Qx := QQ) i_34 (.int .i64 0) (Q.refl ·) (fun l a w hI hl => ⟨wanted_of rfl i_33 rfl (lt_of hI hz rfl) (at_eq v_33 (hI.at_ 33 102 _ i_33 rfl (hl_at hl 0 rfl rfl))), ex_move rfl ((hI.base 6 fr_6).trans b_6), at_mk v_34 rfl⟩)
  have s_35 := Step.pure (P := Tryz.prog) (V := VV) (T := Q) (S := (Q w14)) (a0 := A0) (Qx := QQ) i_35 (.bool true) (Q.refl ·) (fun l a w hI hl => ⟨wanted_of rfl i_33 rfl (lt_of hI hz rfl) (at_eq v_33 (hI.at_ 33 102 _ i_33 rfl (hl_at hl 1 rfl rfl))), ex_bin rfl (at_eq v_34 (hI.at_ 34 103 _ i_34 rfl (hl_at hl 0 rfl rfl))) rfl (by kernel_rfl), at_mk v_35 rfl⟩)
  have s_36 := Step.pure (P := Tryz.prog) (V := VV) (T := Q) (S := (Q w14)) (a0 := A0) (Qx := QQ) i_36 (.bool true) (Q.refl ·) (fun l a w hI hl => ⟨wanted_none rfl, ex_pick_t rfl (at_eq v_33 (hI.at_ 33 102 _ i_33 rfl (hl_at hl 0 rfl rfl))) (at_eq v_35 (hI.at_ 35 104 _ i_35 rfl (hl_at hl 1 rfl rfl))), at_mk v_36 rfl⟩)
  have s_37 := Step.pure (P := Tryz.prog) (V := VV) (T := Q) (S := (Q w14)) (a0 := A0) (Qx := QQ) i_37 (.bool true) (Q.refl ·) (fun l a w hI hl => ⟨wanted_none rfl, ex_move rfl (at_eq v_36 (hI.at_ 36 105 _ i_36 rfl (hl_at hl 0 rfl rfl))), at_mk v_37 rfl⟩)
  have s_38 := Step.pure (P := Tryz.prog) (V := VV) (T := Q) (S := (Q w14)) (a0 := A0) (Qx := QQ) i_38 (.int .i64 4) (Q.refl ·) (fun l a w hI hl => ⟨wanted_of rfl i_37 rfl (lt_of hI hz rfl) (at_eq v_37 (hI.at_ 37 106 _ i_37 rfl (hl_at hl 0 rfl rfl))), ex_move rfl ((hI.base 8 fr_8).trans b_8), at_mk v_38 rfl⟩)
  have s_39 := Step.pure (P := Tryz.prog) (V := VV) (T := Q) (S := (Q w14)) (a0 := A0) (Qx := QQ) i_39 (.bool true) (Q.refl ·) (fun l a w hI hl => ⟨wanted_of rfl i_37 rfl (lt_of hI hz rfl) (at_eq v_37 (hI.at_ 37 106 _ i_37 rfl (hl_at hl 1 rfl rfl))), ex_bin rfl (at_eq v_38 (hI.at_ 38 107 _ i_38 rfl (hl_at hl 0 rfl rfl))) rfl (by kernel_rfl), at_mk v_39 rfl⟩)
  have s_40 := Step.pure (P := Tryz.prog) (V := VV) (T := Q) (S := (Q w14)) (a0 := A0) (Qx := QQ) i_40 (.bool true) (Q.refl ·) (fun l a w hI hl => ⟨wanted_none rfl, ex_pick_t rfl (at_eq v_37 (hI.at_ 37 106 _ i_37 rfl (hl_at hl 0 rfl rfl))) (at_eq v_39 (hI.at_ 39 108 _ i_39 rfl (hl_at hl 1 rfl rfl))), at_mk v_40 rfl⟩)
  have s_41 := Step.pure (P := Tryz.prog) (V := VV) (T := Q) (S := (Q w14)) (a0 := A0) (Qx := QQ) i_41 (.bool true) (Q.refl ·) (fun l a w hI hl => ⟨wanted_none rfl, ex_move rfl (at_eq v_40 (hI.at_ 40 109 _ i_40 rfl (hl_at hl 0 rfl rfl))), at_mk v_41 rfl⟩)
  have s_42 := Step.pure (P := Tryz.prog) (V := VV) (T := Q) (S := (Q w14)) (a0 := A0) (Qx := QQ) i_42 (.int .i64 3) (Q.refl ·) (fun l a w hI hl => ⟨wanted_of rfl i_41 rfl (lt_of hI hz rfl) (at_eq v_41 (hI.at_ 41 110 _ i_41 rfl (hl_at hl 0 rfl rfl))), ex_move rfl ((hI.base 10 fr_10).trans b_10), at_mk v_42 rfl⟩)
  have s_43 := Step.pure (P := Tryz.prog) (V := VV) (T := Q) (S := (Q w14)) (a0 := A0) (Qx := QQ) i_43 (.bool true) (Q.refl ·) (fun l a w hI hl => ⟨wanted_of rfl i_41 rfl (lt_of hI hz rfl) (at_eq v_41 (hI.at_ 41 110 _ i_41 rfl (hl_at hl 1 rfl rfl))), ex_bin rfl (at_eq v_42 (hI.at_ 42 111 _ i_42 rfl (hl_at hl 0 rfl rfl))) rfl (by kernel_rfl), at_mk v_43 rfl⟩)
  have s_44 := Step.pure (P := Tryz.prog) (V := VV) (T := Q) (S := (Q w14)) (a0 := A0) (Qx := QQ) i_44 (.bool true) (Q.refl ·) (fun l a w hI hl => ⟨wanted_none rfl, ex_pick_t rfl (at_eq v_41 (hI.at_ 41 110 _ i_41 rfl (hl_at hl 0 rfl rfl))) (at_eq v_43 (hI.at_ 43 112 _ i_43 rfl (hl_at hl 1 rfl rfl))), at_mk v_44 rfl⟩)
  have s_45 := Step.pure (P := Tryz.prog) (V := VV) (T := Q) (S := (Q w14)) (a0 := A0) (Qx := QQ) i_45 (.bool true) (Q.refl ·) (fun l a w hI hl => ⟨wanted_none rfl, ex_move rfl (at_eq v_44 (hI.at_ 44 113 _ i_44 rfl (hl_at hl 0 rfl rfl))), at_mk v_45 rfl⟩)
  have s_46 := Step.pure (P := Tryz.prog) (V := VV) (T := Q) (S := (Q w14)) (a0 := A0) (Qx := QQ) i_46 (.int .u64 7) (Q.refl ·) (fun l a w hI hl => ⟨wanted_of rfl i_45 rfl (lt_of hI hz rfl) (at_eq v_45 (hI.at_ 45 114 _ i_45 rfl (hl_at hl 0 rfl rfl))), ex_move rfl ((hI.base 11 fr_11).trans b_11), at_mk v_46 rfl⟩)
  have s_47 := Step.pure (P := Tryz.prog) (V := VV) (T := Q) (S := (Q w14)) (a0 := A0) (Qx := QQ) i_47 (.bool true) (Q.refl ·) (fun l a w hI hl => ⟨wanted_of rfl i_45 rfl (lt_of hI hz rfl) (at_eq v_45 (hI.at_ 45 114 _ i_45 rfl (hl_at hl 1 rfl rfl))), ex_bin rfl (at_eq v_46 (hI.at_ 46 115 _ i_46 rfl (hl_at hl 0 rfl rfl))) rfl (by kernel_rfl), at_mk v_47 rfl⟩)
  have s_48 := Step.pure (P := Tryz.prog) (V := VV) (T := Q) (S := (Q w14)) (a0 := A0) (Qx := QQ) i_48 (.bool true) (Q.refl ·) (fun l a w hI hl => ⟨wanted_none rfl, ex_pick_t rfl (at_eq v_45 (hI.at_ 45 114 _ i_45 rfl (hl_at hl 0 rfl rfl))) (at_eq v_47 (hI.at_ 47 116 _ i_47 rfl (hl_at hl 1 rfl rfl))), at_mk v_48 rfl⟩)
  have s_49 := Step.pure (P := Tryz.prog) (V := VV) (T := Q) (S := (Q w14)) (a0 := A0) (Qx := QQ) i_49 (.bool true) (Q.refl ·) (fun l a w hI hl => ⟨wanted_none rfl, ex_move rfl (at_eq v_48 (hI.at_ 48 117 _ i_48 rfl (hl_at hl 0 rfl rfl))), at_mk v_49 rfl⟩)
  have s_50 := Step.pure (P := Tryz.prog) (V := VV) (T := Q) (S := (Q w14)) (a0 := A0) (Qx := QQ) i_50 (.int .i64 0) (Q.refl ·) (fun l a w hI hl => ⟨wanted_of rfl i_49 rfl (lt_of hI hz rfl) (at_eq v_49 (hI.at_ 49 118 _ i_49 rfl (hl_at hl 0 rfl rfl))), ex_move rfl ((hI.base 12 fr_12).trans b_12), at_mk v_50 rfl⟩)
  have s_51 := Step.pure (P := Tryz.prog) (V := VV) (T := Q) (S := (Q w14)) (a0 := A0) (Qx := QQ) i_51 (.bool true) (Q.refl ·) (fun l a w hI hl => ⟨wanted_of rfl i_49 rfl (lt_of hI hz rfl) (at_eq v_49 (hI.at_ 49 118 _ i_49 rfl (hl_at hl 1 rfl rfl))), ex_bin rfl (at_eq v_50 (hI.at_ 50 119 _ i_50 rfl (hl_at hl 0 rfl rfl))) rfl (by kernel_rfl), at_mk v_51 rfl⟩)
  have s_52 := Step.pure (P := Tryz.prog) (V := VV) (T := Q) (S := (Q w14)) (a0 := A0) (Qx := QQ) i_52 (.bool true) (Q.refl ·) (fun l a w hI hl => ⟨wanted_none rfl, ex_pick_t rfl (at_eq v_49 (hI.at_ 49 118 _ i_49 rfl (hl_at hl 0 rfl rfl))) (at_eq v_51 (hI.at_ 51 120 _ i_51 rfl (hl_at hl 1 rfl rfl))), at_mk v_52 rfl⟩)
  have s_53 := Step.pure (P := Tryz.prog) (V := VV) (T := Q) (S := (Q w14)) (a0 := A0) (Qx := QQ) i_53 (.bool true) (Q.refl ·) (fun l a w hI hl => ⟨wanted_none rfl, ex_move rfl (at_eq v_52 (hI.at_ 52 121 _ i_52 rfl (hl_at hl 0 rfl rfl))), at_mk v_53 rfl⟩)
  have s_54 := Step.pure (P := Tryz.prog) (V := VV) (T := Q) (S := (Q w14)) (a0 := A0) (Qx := QQ) i_54 (.int .i64 2) (Q.refl ·) (fun l a w hI hl => ⟨wanted_of rfl i_53 rfl (lt_of hI hz rfl) (at_eq v_53 (hI.at_ 53 122 _ i_53 rfl (hl_at hl 0 rfl rfl))), ex_move rfl ((hI.base 14 fr_14).trans b_14), at_mk v_54 rfl⟩)
  have s_55 := Step.pure (P := Tryz.prog) (V := VV) (T := Q) (S := (Q w14)) (a0 := A0) (Qx := QQ) i_55 (.bool true) (Q.refl ·) (fun l a w hI hl => ⟨wanted_of rfl i_53 rfl (lt_of hI hz rfl) (at_eq v_53 (hI.at_ 53 122 _ i_53 rfl (hl_at hl 1 rfl rfl))), ex_bin rfl (at_eq v_54 (hI.at_ 54 123 _ i_54 rfl (hl_at hl 0 rfl rfl))) rfl (by kernel_rfl), at_mk v_55 rfl⟩)
  have s_56 := Step.pure (P := Tryz.prog) (V := VV) (T := Q) (S := (Q w14)) (a0 := A0) (Qx := QQ) i_56 (.bool true) (Q.refl ·) (fun l a w hI hl => ⟨wanted_none rfl, ex_pick_t rfl (at_eq v_53 (hI.at_ 53 122 _ i_53 rfl (hl_at hl 0 rfl rfl))) (at_eq v_55 (hI.at_ 55 124 _ i_55 rfl (hl_at hl 1 rfl rfl))), at_mk v_56 rfl⟩)
  have s_57 := Step.pure (P := Tryz.prog) (V := VV) (T := Q) (S := (Q w14)) (a0 := A0) (Qx := QQ) i_57 (.bool true) (Q.refl ·) (fun l a w hI hl => ⟨wanted_none rfl, ex_move rfl (at_eq v_56 (hI.at_ 56 125 _ i_56 rfl (hl_at hl 0 rfl rfl))), at_mk v_57 rfl⟩)
  have s_58 := Step.pure (P := Tryz.prog) (V := VV) (T := Q) (S := (Q w14)) (a0 := A0) (Qx := QQ) i_58 (.string h) (Q.refl ·) (fun l a w hI hl => ⟨wanted_of rfl i_57 rfl (lt_of hI hz rfl) (at_eq v_57 (hI.at_ 57 126 _ i_57 rfl (hl_at hl 0 rfl rfl))), ex_move rfl ((hI.base 1 fr_1).trans b_1), at_mk v_58 rfl⟩)
  have s_59 := Step.pure (P := Tryz.prog) (V := VV) (T := Q) (S := (Q w14)) (a0 := A0) (Qx := QQ) i_59 (.agg #[.string h, .int .i64 2]) (Q.refl ·) (fun l a w hI hl => ⟨wanted_of rfl i_57 rfl (lt_of hI hz rfl) (at_eq v_57 (hI.at_ 57 126 _ i_57 rfl (hl_at hl 1 rfl rfl))), ex_build rfl (by simp only [List.map_toArray, List.map_cons, List.map_nil, (show a.eval (.tmp 127) = _ from (at_eq v_58 (hI.at_ 58 127 _ i_58 rfl (hl_at hl 0 rfl rfl))))]; exact built_fxp2 h), at_mk v_59 rfl⟩)
  have s_60 := Step.call (P := Tryz.prog) (V := VV) (T := Q) (S := (Q w14)) (a0 := A0) (Qx := QQ) (R := fun _ _ _ => True) i_60 (fun l a w hI hl => by
    refine ⟨wanted_of rfl i_57 rfl (lt_of hI hz rfl) (at_eq v_57 (hI.at_ 57 126 _ i_57 rfl (hl_at hl 1 rfl rfl))), 26, #[.agg #[.string h, .int .i64 2]], ?_, ?_⟩
    · exact ex_call rfl (by simp only [List.map_toArray, List.map_cons, List.map_nil, ev_const, (show a.eval (.tmp 128) = _ from (at_eq v_59 (hI.at_ 59 128 _ i_59 rfl (hl_at hl 0 rfl rfl))))]) Tryz.func26 (by kernel_rfl) (by kernel_rfl)
    · exact (CNAM.out _ (RC w hI.st).1.q).mono fun e w' hc => by
        obtain ⟨rfl, hq⟩ := hc
        exact ⟨_, rfl, hq, hI.st.trans hq, at_mk v_60 rfl⟩)
  have s_61 := Step.pure (P := Tryz.prog) (V := VV) (T := Q) (S := (Q w14)) (a0 := A0) (Qx := QQ) i_61 (.string h) (Q.refl ·) (fun l a w hI hl => ⟨wanted_of rfl i_57 rfl (lt_of hI hz rfl) (at_eq v_57 (hI.at_ 57 126 _ i_57 rfl (hl_at hl 0 rfl rfl))), ex_move rfl ((hI.base 1 fr_1).trans b_1), at_mk v_61 rfl⟩)
  have s_62 := Step.done (P := Tryz.prog) (V := VV) (T := Q) (S := (Q w14)) (a0 := A0) (Qx := QQ) i_62 (fun l a w hI hl => by
    refine ⟨wanted_of rfl i_57 rfl (lt_of hI hz rfl) (at_eq v_57 (hI.at_ 57 126 _ i_57 rfl (hl_at hl 1 rfl rfl))), ?_⟩
    refine wpo_s2 (h) (⟨#[2]⟩) rfl (at_eq v_61 (hI.at_ 61 130 _ i_61 rfl (hl_at hl 0 rfl rfl))) rfl ?_
    exact ⟨_, rfl, (Q.refl w).alloc _, hI.st.alloc _, p_at v_62 ⟨w, rfl, Q.refl _⟩⟩)
  have s_63 := Step.done (P := Tryz.prog) (V := VV) (T := Q) (S := (Q w14)) (a0 := A0) (Qx := QQ) i_63 (fun l a w hI hl => by
    obtain ⟨wB, eB, qB⟩ := at_p v_62 (hI.at_ 62 131 _ i_62 rfl (hl_at hl 0 rfl rfl))
    refine ⟨wanted_of rfl i_57 rfl (lt_of hI hz rfl) (at_eq v_57 (hI.at_ 57 126 _ i_57 rfl (hl_at hl 2 rfl rfl))), ?_⟩
    refine wp_enter (f := 78) (args := #[.string ⟨#[108, 111, 99, 107]⟩, .slice (some ⟨wB.heap.size, 0, none⟩) 2 2]) ?_ ?_
    · exact ex_call rfl (by simp only [List.map_toArray, List.map_cons, List.map_nil, ev_const, eB]) Tryz.func78 (by kernel_rfl) (by kernel_rfl)
    · refine (duo_at wLock h ⟨#[2]⟩ nn TN.out 9 wB w qB (hG.q (RC w hI.st).1.q) (by decide) (by omega) (by decide)).mono fun e w' hc => ?_
      obtain ⟨rfl, hq⟩ := hc
      exact ⟨_, rfl, hq, hI.st.trans hq, at_mk v_63 rfl⟩)
  have s_64 := Step.pure (P := Tryz.prog) (V := VV) (T := Q) (S := (Q w14)) (a0 := A0) (Qx := QQ) i_64 (.bool true) (Q.refl ·) (fun l a w hI hl => ⟨wanted_of rfl i_57 rfl (lt_of hI hz rfl) (at_eq v_57 (hI.at_ 57 126 _ i_57 rfl (hl_at hl 2 rfl rfl))), ex_bin rfl (at_eq v_60 (hI.at_ 60 129 _ i_60 rfl (hl_at hl 0 rfl rfl))) (at_eq v_63 (hI.at_ 63 132 _ i_63 rfl (hl_at hl 1 rfl rfl))) (eqs_same _ _ _ _ _), at_mk v_64 rfl⟩)
  have s_65 := Step.pure (P := Tryz.prog) (V := VV) (T := Q) (S := (Q w14)) (a0 := A0) (Qx := QQ) i_65 (.bool true) (Q.refl ·) (fun l a w hI hl => ⟨wanted_none rfl, ex_pick_t rfl (at_eq v_57 (hI.at_ 57 126 _ i_57 rfl (hl_at hl 0 rfl rfl))) (at_eq v_64 (hI.at_ 64 133 _ i_64 rfl (hl_at hl 1 rfl rfl))), at_mk v_65 rfl⟩)
  have s_66 := Step.pure (P := Tryz.prog) (V := VV) (T := Q) (S := (Q w14)) (a0 := A0) (Qx := QQ) i_66 (.bool true) (Q.refl ·) (fun l a w hI hl => ⟨wanted_none rfl, ex_move rfl (at_eq v_65 (hI.at_ 65 134 _ i_65 rfl (hl_at hl 0 rfl rfl))), at_mk v_66 rfl⟩)
  have s_67 := Step.pure (P := Tryz.prog) (V := VV) (T := Q) (S := (Q w14)) (a0 := A0) (Qx := QQ) i_67 (.agg #[.int .i64 2, .int .u64 1, .string h, .string h, .int .i64 9, .string h, .int .u64 2, .int .i64 3, .string ⟨#[]⟩]) (Q.refl ·) (fun l a w hI hl => ⟨wanted_of rfl i_66 rfl (lt_of hI hz rfl) (at_eq v_66 (hI.at_ 66 135 _ i_66 rfl (hl_at hl 0 rfl rfl))), ex_load 47 rfl bl12 [.int .i64 2, .int .u64 1, .string h, .string h, .int .i64 9, .string h, .int .u64 2, .int .i64 3, .string ⟨#[]⟩] _ ((hI.base 15 fr_15).trans b_15) ((RC w hI.st).2.2.1.range) Tryz.underlying47 rfl (by kernel_rfl), at_mk v_67 rfl⟩)
  have s_68 := Step.call (P := Tryz.prog) (V := VV) (T := Q) (S := (Q w14)) (a0 := A0) (Qx := QQ) (R := fun _ _ _ => True) i_68 (fun l a w hI hl => by
    refine ⟨wanted_of rfl i_66 rfl (lt_of hI hz rfl) (at_eq v_66 (hI.at_ 66 135 _ i_66 rfl (hl_at hl 1 rfl rfl))), 12, #[.agg #[.int .i64 2, .int .u64 1, .string h, .string h, .int .i64 9, .string h, .int .u64 2, .int .i64 3, .string ⟨#[]⟩]], ?_, ?_⟩
    · exact ex_call rfl (by simp only [List.map_toArray, List.map_cons, List.map_nil, ev_const, (show a.eval (.tmp 136) = _ from (at_eq v_67 (hI.at_ 67 136 _ i_67 rfl (hl_at hl 0 rfl rfl))))]) Tryz.func12 (by kernel_rfl) (by kernel_rfl)
    · exact (CF1.out _).mono fun e w' hc => by
        obtain ⟨rfl, hq⟩ := hc
        exact ⟨_, rfl, hq, hI.st.trans hq, at_mk v_68 rfl⟩)
  have s_69 := Step.pure (P := Tryz.prog) (V := VV) (T := Q) (S := (Q w14)) (a0 := A0) (Qx := QQ) i_69 (.bool true) (Q.refl ·) (fun l a w hI hl => ⟨wanted_none rfl, ex_pick_t rfl (at_eq v_66 (hI.at_ 66 135 _ i_66 rfl (hl_at hl 0 rfl rfl))) (at_eq v_68 (hI.at_ 68 137 _ i_68 rfl (hl_at hl 1 rfl rfl))), at_mk v_69 rfl⟩)
  have s_70 := Step.pure (P := Tryz.prog) (V := VV) (T := Q) (S := (Q w14)) (a0 := A0) (Qx := QQ) i_70 (.bool true) (Q.refl ·) (fun l a w hI hl => ⟨wanted_none rfl, ex_move rfl (at_eq v_69 (hI.at_ 69 138 _ i_69 rfl (hl_at hl 0 rfl rfl))), at_mk v_70 rfl⟩)
  have s_71 := Step.pure (P := Tryz.prog) (V := VV) (T := Q) (S := (Q w14)) (a0 := A0) (Qx := QQ) i_71 (.agg #[.int .i64 3, .int .u64 1, .string h, .string h, .int .i64 9, .string ⟨#[]⟩, .int .u64 0, .int .i64 0, .string h]) (Q.refl ·) (fun l a w hI hl => ⟨wanted_of rfl i_70 rfl (lt_of hI hz rfl) (at_eq v_70 (hI.at_ 70 139 _ i_70 rfl (hl_at hl 0 rfl rfl))), ex_load 47 rfl bl13 [.int .i64 3, .int .u64 1, .string h, .string h, .int .i64 9, .string ⟨#[]⟩, .int .u64 0, .int .i64 0, .string h] _ ((hI.base 16 fr_16).trans b_16) ((RC w hI.st).2.2.2.range) Tryz.underlying47 rfl (by kernel_rfl), at_mk v_71 rfl⟩)
  have s_72 := Step.call (P := Tryz.prog) (V := VV) (T := Q) (S := (Q w14)) (a0 := A0) (Qx := QQ) (R := fun _ _ _ => True) i_72 (fun l a w hI hl => by
    refine ⟨wanted_of rfl i_70 rfl (lt_of hI hz rfl) (at_eq v_70 (hI.at_ 70 139 _ i_70 rfl (hl_at hl 1 rfl rfl))), 12, #[.agg #[.int .i64 3, .int .u64 1, .string h, .string h, .int .i64 9, .string ⟨#[]⟩, .int .u64 0, .int .i64 0, .string h]], ?_, ?_⟩
    · exact ex_call rfl (by simp only [List.map_toArray, List.map_cons, List.map_nil, ev_const, (show a.eval (.tmp 140) = _ from (at_eq v_71 (hI.at_ 71 140 _ i_71 rfl (hl_at hl 0 rfl rfl))))]) Tryz.func12 (by kernel_rfl) (by kernel_rfl)
    · exact (CF2.out _).mono fun e w' hc => by
        obtain ⟨rfl, hq⟩ := hc
        exact ⟨_, rfl, hq, hI.st.trans hq, at_mk v_72 rfl⟩)
  have s_73 := Step.pure (P := Tryz.prog) (V := VV) (T := Q) (S := (Q w14)) (a0 := A0) (Qx := QQ) i_73 (.bool true) (Q.refl ·) (fun l a w hI hl => ⟨wanted_none rfl, ex_pick_t rfl (at_eq v_70 (hI.at_ 70 139 _ i_70 rfl (hl_at hl 0 rfl rfl))) (at_eq v_72 (hI.at_ 72 141 _ i_72 rfl (hl_at hl 1 rfl rfl))), at_mk v_73 rfl⟩)
  have s_74 := Step.pure (P := Tryz.prog) (V := VV) (T := Q) (S := (Q w14)) (a0 := A0) (Qx := QQ) i_74 (.bool true) (Q.refl ·) (fun l a w hI hl => ⟨wanted_none rfl, ex_move rfl (at_eq v_73 (hI.at_ 73 142 _ i_73 rfl (hl_at hl 0 rfl rfl))), at_mk v_74 rfl⟩)
  have s_75 := Step.pure (P := Tryz.prog) (V := VV) (T := Q) (S := (Q w14)) (a0 := A0) (Qx := QQ) i_75 (.string h) (Q.refl ·) (fun l a w hI hl => ⟨wanted_of rfl i_74 rfl (lt_of hI hz rfl) (at_eq v_74 (hI.at_ 74 143 _ i_74 rfl (hl_at hl 0 rfl rfl))), ex_move rfl ((hI.base 1 fr_1).trans b_1), at_mk v_75 rfl⟩)
  have s_76 := Step.pure (P := Tryz.prog) (V := VV) (T := Q) (S := (Q w14)) (a0 := A0) (Qx := QQ) i_76 (.string h) (Q.refl ·) (fun l a w hI hl => ⟨wanted_of rfl i_74 rfl (lt_of hI hz rfl) (at_eq v_74 (hI.at_ 74 143 _ i_74 rfl (hl_at hl 0 rfl rfl))), ex_move rfl ((hI.base 1 fr_1).trans b_1), at_mk v_76 rfl⟩)
  have s_77 := Step.pure (P := Tryz.prog) (V := VV) (T := Q) (S := (Q w14)) (a0 := A0) (Qx := QQ) i_77 (.agg #[.int .i64 1, .int .u64 1, .string h, .string ⟨#[]⟩, .int .i64 0, .string ⟨#[]⟩, .int .u64 0, .int .i64 0, .string h]) (Q.refl ·) (fun l a w hI hl => ⟨wanted_of rfl i_74 rfl (lt_of hI hz rfl) (at_eq v_74 (hI.at_ 74 143 _ i_74 rfl (hl_at hl 2 rfl rfl))), ex_build rfl (by simp only [List.map_toArray, List.map_cons, List.map_nil, (show a.eval (.tmp 144) = _ from (at_eq v_75 (hI.at_ 75 144 _ i_75 rfl (hl_at hl 0 rfl rfl)))), (show a.eval (.tmp 145) = _ from (at_eq v_76 (hI.at_ 76 145 _ i_76 rfl (hl_at hl 1 rfl rfl))))]; exact built_fxn h), at_mk v_77 rfl⟩)
  have s_78 := Step.call (P := Tryz.prog) (V := VV) (T := Q) (S := (Q w14)) (a0 := A0) (Qx := QQ) (R := fun _ _ _ => True) i_78 (fun l a w hI hl => by
    refine ⟨wanted_of rfl i_74 rfl (lt_of hI hz rfl) (at_eq v_74 (hI.at_ 74 143 _ i_74 rfl (hl_at hl 1 rfl rfl))), 12, #[.agg #[.int .i64 1, .int .u64 1, .string h, .string ⟨#[]⟩, .int .i64 0, .string ⟨#[]⟩, .int .u64 0, .int .i64 0, .string h]], ?_, ?_⟩
    · exact ex_call rfl (by simp only [List.map_toArray, List.map_cons, List.map_nil, ev_const, (show a.eval (.tmp 146) = _ from (at_eq v_77 (hI.at_ 77 146 _ i_77 rfl (hl_at hl 0 rfl rfl))))]) Tryz.func12 (by kernel_rfl) (by kernel_rfl)
    · exact (CF3.out _).mono fun e w' hc => by
        obtain ⟨rfl, hq⟩ := hc
        exact ⟨_, rfl, hq, hI.st.trans hq, at_mk v_78 rfl⟩)
  have s_79 := Step.pure (P := Tryz.prog) (V := VV) (T := Q) (S := (Q w14)) (a0 := A0) (Qx := QQ) i_79 (.bool true) (Q.refl ·) (fun l a w hI hl => ⟨wanted_of rfl i_74 rfl (lt_of hI hz rfl) (at_eq v_74 (hI.at_ 74 143 _ i_74 rfl (hl_at hl 1 rfl rfl))), ex_un rfl (at_eq v_78 (hI.at_ 78 147 _ i_78 rfl (hl_at hl 0 rfl rfl))) (by kernel_rfl), at_mk v_79 rfl⟩)
  have s_80 := Step.pure (P := Tryz.prog) (V := VV) (T := Q) (S := (Q w14)) (a0 := A0) (Qx := QQ) i_80 (.bool true) (Q.refl ·) (fun l a w hI hl => ⟨wanted_none rfl, ex_pick_t rfl (at_eq v_74 (hI.at_ 74 143 _ i_74 rfl (hl_at hl 0 rfl rfl))) (at_eq v_79 (hI.at_ 79 148 _ i_79 rfl (hl_at hl 1 rfl rfl))), at_mk v_80 rfl⟩)
  have s_81 := Step.pure (P := Tryz.prog) (V := VV) (T := Q) (S := (Q w14)) (a0 := A0) (Qx := QQ) i_81 (.bool true) (Q.refl ·) (fun l a w hI hl => ⟨wanted_none rfl, ex_move rfl (at_eq v_80 (hI.at_ 80 149 _ i_80 rfl (hl_at hl 0 rfl rfl))), at_mk v_81 rfl⟩)
  have s_82 := Step.pure (P := Tryz.prog) (V := VV) (T := Q) (S := (Q w14)) (a0 := A0) (Qx := QQ) i_82 (.agg #[.slice none 0 0, .slice none 0 0, .int .u64 0, .string ⟨#[]⟩, .string ⟨#[]⟩, .slice none 0 0]) (Q.refl ·) (fun l a w hI hl => ⟨wanted_of rfl i_81 rfl (lt_of hI hz rfl) (at_eq v_81 (hI.at_ 81 150 _ i_81 rfl (hl_at hl 0 rfl rfl))), ex_build rfl (by simp only [List.map_toArray, List.map_cons, List.map_nil]; exact built_tzero), at_mk v_82 rfl⟩)
  have s_83 := Step.call (P := Tryz.prog) (V := VV) (T := Q) (S := (Q w14)) (a0 := A0) (Qx := QQ) (R := fun _ _ _ => True) i_83 (fun l a w hI hl => by
    refine ⟨wanted_of rfl i_81 rfl (lt_of hI hz rfl) (at_eq v_81 (hI.at_ 81 150 _ i_81 rfl (hl_at hl 1 rfl rfl))), 17, #[.agg #[.slice none 0 0, .slice none 0 0, .int .u64 0, .string ⟨#[]⟩, .string ⟨#[]⟩, .slice none 0 0]], ?_, ?_⟩
    · exact ex_call rfl (by simp only [List.map_toArray, List.map_cons, List.map_nil, ev_const, (show a.eval (.tmp 151) = _ from (at_eq v_82 (hI.at_ 82 151 _ i_82 rfl (hl_at hl 0 rfl rfl))))]) Tryz.func17 (by kernel_rfl) (by kernel_rfl)
    · exact (CRZ.out _).mono fun e w' hc => by
        obtain ⟨rfl, hq⟩ := hc
        exact ⟨_, rfl, hq, hI.st.trans hq, at_mk v_83 rfl⟩)
  have s_84 := Step.pure (P := Tryz.prog) (V := VV) (T := Q) (S := (Q w14)) (a0 := A0) (Qx := QQ) i_84 (.bool true) (Q.refl ·) (fun l a w hI hl => ⟨wanted_of rfl i_81 rfl (lt_of hI hz rfl) (at_eq v_81 (hI.at_ 81 150 _ i_81 rfl (hl_at hl 1 rfl rfl))), ex_un rfl (at_eq v_83 (hI.at_ 83 152 _ i_83 rfl (hl_at hl 0 rfl rfl))) (by kernel_rfl), at_mk v_84 rfl⟩)
  have s_85 := Step.pure (P := Tryz.prog) (V := VV) (T := Q) (S := (Q w14)) (a0 := A0) (Qx := QQ) i_85 (.bool true) (Q.refl ·) (fun l a w hI hl => ⟨wanted_none rfl, ex_pick_t rfl (at_eq v_81 (hI.at_ 81 150 _ i_81 rfl (hl_at hl 0 rfl rfl))) (at_eq v_84 (hI.at_ 84 153 _ i_84 rfl (hl_at hl 1 rfl rfl))), at_mk v_85 rfl⟩)
  have s_86 := Step.pure (P := Tryz.prog) (V := VV) (T := Q) (S := (Q w14)) (a0 := A0) (Qx := QQ) i_86 (.bool true) (Q.refl ·) (fun l a w hI hl => ⟨wanted_none rfl, ex_move rfl (at_eq v_85 (hI.at_ 85 154 _ i_85 rfl (hl_at hl 0 rfl rfl))), at_mk v_86 rfl⟩)
  have s_87 := Step.pure (P := Tryz.prog) (V := VV) (T := Q) (S := (Q w14)) (a0 := A0) (Qx := QQ) i_87 (.agg #[.slice none 0 0, .slice none 0 0, .int .u64 0, .string ⟨#[]⟩, .string ⟨#[]⟩, .slice none 0 0]) (Q.refl ·) (fun l a w hI hl => ⟨wanted_of rfl i_86 rfl (lt_of hI hz rfl) (at_eq v_86 (hI.at_ 86 155 _ i_86 rfl (hl_at hl 0 rfl rfl))), ex_build rfl (by simp only [List.map_toArray, List.map_cons, List.map_nil]; exact built_tzero), at_mk v_87 rfl⟩)
  have s_88 := Step.call (P := Tryz.prog) (V := VV) (T := Q) (S := (Q w14)) (a0 := A0) (Qx := QQ) (R := fun _ _ _ => True) i_88 (fun l a w hI hl => by
    refine ⟨wanted_of rfl i_86 rfl (lt_of hI hz rfl) (at_eq v_86 (hI.at_ 86 155 _ i_86 rfl (hl_at hl 1 rfl rfl))), 21, #[.agg #[.slice none 0 0, .slice none 0 0, .int .u64 0, .string ⟨#[]⟩, .string ⟨#[]⟩, .slice none 0 0]], ?_, ?_⟩
    · exact ex_call rfl (by simp only [List.map_toArray, List.map_cons, List.map_nil, ev_const, (show a.eval (.tmp 156) = _ from (at_eq v_87 (hI.at_ 87 156 _ i_87 rfl (hl_at hl 0 rfl rfl))))]) Tryz.func21 (by kernel_rfl) (by kernel_rfl)
    · exact (CIZ.out _ (RC w hI.st).1.q).mono fun e w' hc => by
        obtain ⟨rfl, hq⟩ := hc
        exact ⟨_, rfl, hq, hI.st.trans hq, at_mk v_88 rfl⟩)
  have s_89 := Step.pure (P := Tryz.prog) (V := VV) (T := Q) (S := (Q w14)) (a0 := A0) (Qx := QQ) i_89 (.bool true) (Q.refl ·) (fun l a w hI hl => ⟨wanted_of rfl i_86 rfl (lt_of hI hz rfl) (at_eq v_86 (hI.at_ 86 155 _ i_86 rfl (hl_at hl 1 rfl rfl))), ex_bin rfl (at_eq v_88 (hI.at_ 88 157 _ i_88 rfl (hl_at hl 0 rfl rfl))) rfl (by kernel_rfl), at_mk v_89 rfl⟩)
  have s_90 := Step.pure (P := Tryz.prog) (V := VV) (T := Q) (S := (Q w14)) (a0 := A0) (Qx := QQ) i_90 (.bool true) (Q.refl ·) (fun l a w hI hl => ⟨wanted_none rfl, ex_pick_t rfl (at_eq v_86 (hI.at_ 86 155 _ i_86 rfl (hl_at hl 0 rfl rfl))) (at_eq v_89 (hI.at_ 89 158 _ i_89 rfl (hl_at hl 1 rfl rfl))), at_mk v_90 rfl⟩)
  have s_91 := Step.pure (P := Tryz.prog) (V := VV) (T := Q) (S := (Q w14)) (a0 := A0) (Qx := QQ) i_91 (.bool true) (Q.refl ·) (fun l a w hI hl => ⟨wanted_none rfl, ex_assign rfl (at_eq v_90 (hI.at_ 90 159 _ i_90 rfl (hl_at hl 0 rfl rfl))), at_mk v_91 rfl⟩)
  refine wp_plan VV Q (Q w14) (by kernel_rfl) hs hV hS0 (steps_all hO ((sf_cons s_0 (sf_cons s_1 (sf_cons s_2 (sf_cons s_3 (sf_cons s_4 (sf_cons s_5 (sf_cons s_6 (sf_cons s_7 (sf_cons s_8 (sf_cons s_9 (sf_cons s_10 (sf_cons s_11 (sf_cons s_12 (sf_cons s_13 (sf_cons s_14 (sf_cons s_15 (sf_cons s_16 (sf_cons s_17 (sf_cons s_18 (sf_cons s_19 (sf_cons s_20 (sf_cons s_21 (sf_cons s_22 (sf_cons s_23 (sf_cons s_24 (sf_cons s_25 (sf_cons s_26 (sf_cons s_27 (sf_cons s_28 (sf_cons s_29 (sf_cons s_30 (sf_cons s_31 (sf_cons s_32 (sf_cons s_33 (sf_cons s_34 (sf_cons s_35 (sf_cons s_36 (sf_cons s_37 (sf_cons s_38 (sf_cons s_39 (sf_cons s_40 (sf_cons s_41 (sf_cons s_42 (sf_cons s_43 (sf_cons s_44 (sf_cons s_45 (sf_cons s_46 (sf_cons s_47 (sf_cons s_48 (sf_cons s_49 (sf_cons s_50 (sf_cons s_51 (sf_cons s_52 (sf_cons s_53 (sf_cons s_54 (sf_cons s_55 (sf_cons s_56 (sf_cons s_57 (sf_cons s_58 (sf_cons s_59 (sf_cons s_60 (sf_cons s_61 (sf_cons s_62 (sf_cons s_63 (sf_cons s_64 (sf_cons s_65 (sf_cons s_66 (sf_cons s_67 (sf_cons s_68 (sf_cons s_69 (sf_cons s_70 (sf_cons s_71 (sf_cons s_72 (sf_cons s_73 (sf_cons s_74 (sf_cons s_75 (sf_cons s_76 (sf_cons s_77 (sf_cons s_78 (sf_cons s_79 (sf_cons s_80 (sf_cons s_81 (sf_cons s_82 (sf_cons s_83 (sf_cons s_84 (sf_cons s_85 (sf_cons s_86 (sf_cons s_87 (sf_cons s_88 (sf_cons s_89 (sf_cons s_90 (sf_cons s_91 trivial)))))))))))))))))))))))))))))))))))))))))))))))))))))))))))))))))))))))))))))))))))))))))))))) ?_
  intro l a' w' hall h
  have e0 : a'.eval (.tmp 0) = .bool true := at_eq v_91 (h.at_ 91 0 _ i_91 rfl (hall 91 (by rw [hO]; decide)))
  have hd : a'.defers = [] := by rw [h.df, hA]
  have hst := (RC w' h.st).1.q
  rw [hQQ]
  clear h hall
  go_wp2_with fail
  (try simp only [Exit.inBlock, Exit.then])
  refine bodyPost_ret (results_tmp rfl _ _ _) hd ?_
  exact ⟨congrArg Ending.returned e0, hst⟩
end Go.Proofs.YtjiepemapffgjaaGreatDoor.Coi
