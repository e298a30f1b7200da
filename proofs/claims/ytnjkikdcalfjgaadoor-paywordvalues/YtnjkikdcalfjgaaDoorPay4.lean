/-
  Layer 4: chains: the walks of New, Anchor, Token and Len, and of the document's Token.
-/
import Derived.Test.YtnjkikdcalfjgaaDoorPay3
import Derived.Laws.MakeOwn
namespace Go.Proofs.YtnjkikdcalfjgaaDoor.Pay
open Go.RowKit
open Mem Sh Num
set_option linter.unusedVariables false

/-- A row of texts, all empty. -/
def zs (m : Nat) : Obj := .cells (madeCells #[.string ⟨#[]⟩] m) 9
theorem infoT : (Tryd.prog.info? 9).map (fun i => (i.zero, i.size, i.bytes)) = some (some (.string ⟨#[]⟩), 1, 16) := by kernel_rfl
theorem makeT (w : World) (m : Nat) (h : m ≤ 100000) : (Instr.makeSlice 48 (.int .i64 (m : Int)) (.int .i64 (m : Int))).run Tryd.prog w = .ok (.slice (some ⟨w.heap.size, 0, none⟩) m m) (w.alloc (zs m)) := by
  obtain ⟨i, hi, hz0, hz1, hz2⟩ := info_parts infoT
  have := run_make (P := Tryd.prog) w 48 9 i _ Tryd.underlying48 hi hz0 .i64 .i64 (m : Int) (m : Int) (by omega) (Int.le_refl _) (by rw [hz2]; omega) (by omega)
  rw [this, hz1, Int.toNat_natCast, Nat.mul_one]
  rfl
theorem zs_cell (w : World) (m j : Nat) (h : j < m) : (w.alloc (zs m)).cell? ⟨w.heap.size, j, none⟩ = some (.string ⟨#[]⟩) := by
  unfold zs
  rw [World.cell?_alloc_at _ _ _ _ rfl]
  show (madeCells _ m)[j]? = _
  rw [← Array.getElem?_toList, toList_madeCells_one]
  simp [h]

/-- A chain's tokens that are there: k of them, from the last one down. -/
structure NR (w : World) (gt : Nat) (s : ByteArray) (n k : Nat) : Prop where
  tk : ∀ j, j < k → w.cell? ⟨gt, n - j, none⟩ = some (.string (farS s j))
  all : ∀ j, j ≤ n → ∃ v, w.cell? ⟨gt, j, none⟩ = some v
  fz : ∀ j, w.frozen? ⟨gt, j, none⟩ = false
theorem NR.lt {w : World} {gt : Nat} {s : ByteArray} {n k : Nat} (h : NR w gt s n k) : gt < w.heap.size := by obtain ⟨v, hv⟩ := h.all 0 (by omega); exact World.block_lt_of_cell? _ _ hv
theorem NR.new (w : World) (s : ByteArray) (n : Nat) : NR (w.alloc (zs (n + 1))) w.heap.size s n 0 :=
  ⟨fun j h => by omega, fun j h => ⟨_, zs_cell w (n + 1) j (by omega)⟩, fun j => made_frozen w _ _ _⟩
theorem NR.ch {w w' : World} {gt g : Nat} {s : ByteArray} {n k : Nat} (h : NR w gt s n k) (c : Ch g w w') (hg : gt ≠ g) : NR w' gt s n k :=
  ⟨fun j hj => c.cell (h.tk j hj) hg, fun j hj => by obtain ⟨v, hv⟩ := h.all j hj; exact ⟨v, c.cell hv hg⟩, fun j => by rw [c.frozen (a := ⟨gt, j, none⟩) h.lt hg]; exact h.fz j⟩
theorem NR.q {w w' : World} {gt : Nat} {s : ByteArray} {n k : Nat} (h : NR w gt s n k) (c : Q w w') : NR w' gt s n k :=
  h.ch (Ch.of_q c w.heap.size) (by have := h.lt; omega)
theorem NR.set {w : World} {gt : Nat} {s : ByteArray} {n k i : Nat} (h : NR w gt s n k) (hk : i + k = n) : NR (w.setCell ⟨gt, i, none⟩ (.string (farS s k))) gt s n (k + 1) := by
  obtain ⟨v, hv⟩ := h.all i (by omega)
  refine ⟨fun j hj => ?_, fun j hj => ?_, fun j => by rw [World.frozen?_setCell]; exact h.fz j⟩
  · by_cases e : j = k
    · subst e
      rw [show n - j = i by omega]
      exact World.cell?_setCell_same _ _ _ hv
    · rw [World.cell?_setCell_other (h := by intro h; injection h; omega)]
      exact h.tk j (by omega)
  · by_cases e : j = i
    · subst e; exact ⟨_, World.cell?_setCell_same _ _ _ hv⟩
    · rw [World.cell?_setCell_other (h := by intro h; injection h; omega)]
      exact h.all j hj

theorem WI.step2 {W w : World} {g : Nat} {t : ByteArray} (h : WI W w g t) (hG : GL W) (ht : t.size ≤ 1000000) :
    Calls Tryd.prog 35 #[.pointer (some ⟨g, 0, none⟩)] w fun e w' => e = .returned (.string (nextS t)) ∧ WI W w' g (nextS t) ∧ Ch g w w' :=
  (step_any g t w h.b (hG.q h.q) (by have := hG.lt; have := h.lo; omega) ht).mono fun e w' ⟨he, hb, hc⟩ => ⟨he, ⟨hc.q h.q h.lo, h.lo, hb⟩, hc⟩

/-- A chain at g, of n tokens of s. -/
def CH (w : World) (g : Nat) (s : ByteArray) (n : Nat) : Prop :=
  ∃ gt, w.cell? ⟨g, 0, none⟩ = some (.slice (some ⟨gt, 0, none⟩) (n + 1) (n + 1)) ∧ ∀ j, j ≤ n → w.cell? ⟨gt, j, none⟩ = some (.string (farS s (n - j)))
theorem CH.q {w w' : World} {g : Nat} {s : ByteArray} {n : Nat} (h : CH w g s n) (q : Q w w') : CH w' g s n := by
  obtain ⟨gt, h1, h2⟩ := h
  exact ⟨gt, by rw [q.cell (p := ⟨g, 0, none⟩) (World.block_lt_of_cell? _ _ h1)]; exact h1, fun j hj => by rw [q.cell (p := ⟨gt, j, none⟩) (World.block_lt_of_cell? _ _ (h2 j hj))]; exact h2 j hj⟩

set_option maxHeartbeats 1000000 in
set_option maxRecDepth 100000 in
theorem new_ok {W : World} (sd0 : ByteArray) (n : Nat) (w : World) (q : Q W w) (hG : GL W) (h1 : 1 ≤ n) (h2 : n ≤ 4096) (hs : sd0.size ≤ 1000000) :
    Calls Tryd.prog 8 #[.string sd0, .int .i64 n] w fun e w' => ∃ g, e = .returned (.tuple #[.pointer (some ⟨g, 0, none⟩), .int .i64 0]) ∧ CH w' g (seedS sd0) n ∧ Q W w' := by
  have HG := Lib.hid hG
  have HQ := Lib.hid q
  have n0 : ((n : Int) == 0) = false := by simp; omega
  have n1 : (1 : Int) ≤ (n : Int) := by omega
  have n2 : (n : Int) ≤ 4096 := by omega
  have HM := makeT w (n + 1) (by omega)
  rw [Int.natCast_add, Int.natCast_one] at HM
  have HSS := Lib.hid (seedS_size sd0)
  have HT : Hid (∀ T (w1 : World) b, w1.heap.size = b → GL w1 → Calls Tryd.prog 24 #[.string sd, .slice (some ⟨b, 0, none⟩) 1 1] (w1.alloc (.cells #[.string sd0] T)) fun e w' => e = .returned (.string (seedS sd0)) ∧ Q w1 w') :=
    fun T w1 b hb hG1 => by subst hb; exact tag1 sd sd0 T w1 (Q.refl w1) hG1 (by decide) hs
  obtain ⟨s, hs'⟩ : ∃ s, seedS sd0 = s := ⟨_, rfl⟩
  rw [hs'] at HT HSS
  rw [hs']
  clear hs' q hG
  go_enter Tryd.func8, Tryd.ntmps8
  go_wp2_with fail
  refine (isst_y n w (by omega) n2).mono ?_
  rintro x _ ⟨rfl, rfl⟩
  go_wp2_with fail
  have N1 := Lib.hid (NR.new w s n)
  have Q1 := Lib.hid (HQ.out.alloc (zs (n + 1)))
  have L1 := Lib.hid HQ.out.size
  refine (HT.out _ (w.alloc (zs (n + 1))) _ (by simp) (HG.out.q Q1.out)).mono ?_
  rintro x w2 ⟨rfl, q2⟩
  have N2 := Lib.hid (N1.out.q q2)
  have Q2 := Lib.hid (Q1.out.trans q2)
  clear q2 HM N1 Q1
  generalize w.heap.size = gt at *
  obtain ⟨v, hv⟩ := N2.out.all n (by omega)
  have hf := N2.out.fz n
  have N3 := Lib.hid (N2.out.set (i := n) (by omega))
  have Q3 := Lib.hid ((Ch.set w2 gt n (.string s)).q Q2.out L1.out)
  change Hid (NR (w2.setCell ⟨gt, n, none⟩ (.string s)) gt s n 1) at N3
  have hc3 := N3.out.tk 0 (by omega)
  change (w2.setCell ⟨gt, n, none⟩ (.string s)).cell? ⟨gt, n, none⟩ = some (.string s) at hc3
  go_wp2_with fail
  generalize w2.setCell ⟨gt, n, none⟩ (.string s) = w3 at *
  refine (walk_any s w3).mono ?_
  rintro x w4 ⟨rfl, rfl⟩
  have I4 := Lib.hid (WI.new Q3.out s)
  have E4 : Hid (gt ≠ w3.heap.size) := by have := N3.out.lt; show gt ≠ w3.heap.size; omega
  have N4 := Lib.hid (N3.out.q ((Q.refl w3).alloc (bx s)))
  unfold stepV
  clear hc3 hv hf N2 Q2 N3 Q3
  generalize w3.heap.size = gb at *
  go_wp2_with fail
  go_loopw [8] (fun z wr => ∃ k : Nat, k ≤ n ∧ z = .int .i64 ((n : Int) - 1 - k) ∧ Hid (WI W wr gb (farS s k)) ∧ Hid (NR wr gt s n (k + 1))) (fun z _ => (intOf z + 1).toNat)
  case atStart => exact ⟨0, by omega, by go_num, I4, N4⟩
  case round =>
    obtain ⟨k, hk, rfl, I, N⟩ := hrel
    by_cases hlt : k < n
    · obtain ⟨i, hi⟩ : ∃ i : Nat, i + (k + 1) = n := ⟨n - (k + 1), by omega⟩
      have ei : (n : Int) - 1 - k = (i : Int) := by omega
      rw [ei]
      have i0 : (0 : Int) ≤ (i : Int) := by omega
      have i1 : (i : Int) < (n : Int) + 1 := by omega
      go_wp2_with fail
      refine (I.out.step2 HG.out (by rw [farS_size s HSS.out k]; decide)).mono ?_
      rintro y w5 ⟨rfl, h5, c5⟩
      have N5 := Lib.hid (N.out.ch c5 E4.out)
      obtain ⟨v, hv⟩ := N5.out.all i (by omega)
      have hf := N5.out.fz i
      have N6 := Lib.hid (N5.out.set (i := i) hi)
      have I6 : Hid (WI W (w5.setCell ⟨gt, i, none⟩ (.string (farS s (k + 1)))) gb (farS s (k + 1))) :=
        ⟨(Ch.set w5 gt i _).q h5.q L1.out, h5.lo, Box.ch h5.b (Ch.set w5 gt i _) (fun e => E4.out e.symm)⟩
      clear h5 c5 N5 N I
      rw [show nextS (farS s k) = farS s (k + 1) from rfl]
      obtain ⟨x, hx⟩ : ∃ x, farS s (k + 1) = x := ⟨_, rfl⟩
      rw [hx]
      go_wp2_with fail
      subst hx
      exact ⟨⟨k + 1, by omega, by go_num, I6, N6⟩, by simp [intOf]⟩
    · obtain rfl : k = n := by omega
      have ei : (k : Int) - 1 - k = -1 := by omega
      rw [ei]
      go_wp2_with fail
      go_ret2
      refine ⟨wr.heap.size, rfl, ⟨gt, ?_, fun j hj => ?_⟩, I.out.q.alloc _⟩
      · rw [World.cell?_alloc_at _ _ _ _ rfl]; rfl
      · have := N.out.tk (k - j) (by omega)
        rw [show k - (k - j) = j by omega] at this
        rw [((Q.refl wr).alloc _).cell (p := ⟨gt, j, none⟩) N.out.lt]
        exact this
theorem new_bad {W : World} (sd0 : ByteArray) (n : Int) (w : World) (q : Q W w) (h : n < 1 ∨ 4096 < n) :
    Calls Tryd.prog 8 #[.string sd0, .int .i64 n] w fun e w' => e = .returned (.tuple #[.pointer none, .int .i64 1]) ∧ Q W w' := by
  by_cases h0 : n = 0
  · subst h0
    go_enter Tryd.func8, Tryd.ntmps8
    go_wp2_with fail
    go_ret2
    exact ⟨rfl, q⟩
  · have n0 : (n == 0) = false := by simp; omega
    go_enter Tryd.func8, Tryd.ntmps8
    go_wp2_with fail
    refine (isst_n n w (by omega)).mono ?_
    rintro x _ ⟨rfl, rfl⟩
    go_wp2_with fail
    go_ret2
    exact ⟨rfl, q⟩

theorem len_any (g : Nat) (s : ByteArray) (n : Nat) (w : World) (h : CH w g s n) (hn : n ≤ 4096) : Calls Tryd.prog 10 #[.pointer (some ⟨g, 0, none⟩)] w fun e w' => e = .returned (.int .i64 n) ∧ w = w' := by
  obtain ⟨gt, hc, _⟩ := h
  go_enter Tryd.func10, Tryd.ntmps10
  go_wp2_with fail
  go_ret
  exact ⟨ret1 (by omega), rfl⟩
theorem anchor_any (g : Nat) (s : ByteArray) (n : Nat) (w : World) (h : CH w g s n) (hn : n ≤ 4096) : Calls Tryd.prog 11 #[.pointer (some ⟨g, 0, none⟩)] w fun e w' => e = .returned (.string (farS s n)) ∧ w = w' := by
  obtain ⟨gt, hc, hr⟩ := h
  have h0 := hr 0 (by omega)
  rw [Nat.sub_zero] at h0
  clear hr
  generalize farS s n = x at *
  go_enter Tryd.func11, Tryd.ntmps11
  go_wp2_with fail
  go_ret
  exact ⟨rfl, rfl⟩
theorem token_ok (g : Nat) (s : ByteArray) (n i : Nat) (w : World) (h : CH w g s n) (hn : n ≤ 4096) (hi : i ≤ n) : Calls Tryd.prog 13 #[.pointer (some ⟨g, 0, none⟩), .int .i64 i] w fun e w' => e = .returned (.tuple #[.string (farS s (n - i)), .int .i64 0]) ∧ w = w' := by
  have HL := Lib.hid (len_any g s n w h hn)
  obtain ⟨gt, hc, hr⟩ := h
  have h0 := hr i hi
  have i0 : (0 : Int) ≤ (i : Int) := by omega
  have i1 : (i : Int) ≤ (n : Int) := by omega
  have i2 : (i : Int) < (n : Int) + 1 := by omega
  clear hr
  generalize farS s (n - i) = x at *
  go_enter Tryd.func13, Tryd.ntmps13
  go_wp2_with fail
  refine HL.out.mono ?_
  rintro y _ ⟨rfl, rfl⟩
  go_wp2_with fail
  go_ret2
  exact ⟨rfl, rfl⟩
theorem token_bad (g : Nat) (s : ByteArray) (n : Nat) (i : Int) (w : World) (h : CH w g s n) (hn : n ≤ 4096) (hi : i < 0 ∨ n < i) : Calls Tryd.prog 13 #[.pointer (some ⟨g, 0, none⟩), .int .i64 i] w fun e w' => e = .returned (.tuple #[.string ⟨#[]⟩, .int .i64 1]) ∧ w = w' := by
  have HL := Lib.hid (len_any g s n w h hn)
  by_cases h0 : i < 0
  · go_enter Tryd.func13, Tryd.ntmps13
    go_wp2_with fail
    go_ret2
    exact ⟨rfl, rfl⟩
  · have h1 : (n : Int) < i := by omega
    have h0' : 0 ≤ i := by omega
    go_enter Tryd.func13, Tryd.ntmps13
    go_wp2_with fail
    refine HL.out.mono ?_
    rintro y _ ⟨rfl, rfl⟩
    go_wp2_with fail
    go_ret2
    exact ⟨rfl, rfl⟩
theorem rtoken_any {W : World} (sd0 : ByteArray) (n i : Nat) (w : World) (q : Q W w) (hs : sd0.size ≤ 1000000) (hn : n ≤ 4096) (hi : i ≤ n) :
    Calls Tryd.prog 12 #[.string sd0, .int .i64 n, .int .i64 i] w fun e w' => e = .returned (.string (farS (seedS sd0) (n - i))) ∧ Q W w' := by
  have HT := Lib.hid (fun T => rtag1 sd sd0 T w q (by decide) hs)
  have HF := Lib.hid (fun w1 (q1 : Q W w1) => rfar_any (seedS sd0) ((n - i : Nat) : Int) w1 q1)
  rw [farA_yes _ _ (seedS_size sd0) (by omega)] at HF
  change Hid (∀ T, Calls _ _ #[.string sd, _] _ fun e w' => e = .returned (.string (seedS sd0)) ∧ _) at HT
  have e1 : (n : Int) - i = ((n - i : Nat) : Int) := by omega
  generalize seedS sd0 = s at *
  generalize farS s (n - i) = x at *
  generalize n - i = d at *
  clear q
  go_enter Tryd.func12, Tryd.ntmps12
  go_wp2_with fail
  refine (HT.out _).mono ?_
  rintro y w1 ⟨rfl, q1⟩
  go_wp2_with fail
  refine (HF.out w1 q1).mono ?_
  rintro y w2 ⟨rfl, q2⟩
  go_wp2_with fail
  go_ret
  exact ⟨rfl, q2⟩
end Go.Proofs.YtnjkikdcalfjgaaDoor.Pay
