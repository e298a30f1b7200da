/-
  The program's layer 2: the walk of Tag.
-/
import Derived.Test.YtnghhagiokiaoaaDoorShaP7
import Derived.Test.YtnghhagiokiaoaaDoorShaR6
namespace Go.Proofs.YtnghhagiokiaoaaDoor.Sh
open Go.RowKit
open Mem
set_option linter.unusedVariables false

/-- A Hash above w that took s, w being as it was. -/
structure TI (w : World) (g : Nat) (s : ByteArray) (wr : World) : Prop where
  hr : HR wr g s
  lo : w.heap.size ≤ g
  q : Q w wr
  gl : GL wr
theorem TI.alloc {w : World} {g : Nat} {s : ByteArray} {wr : World} (h : TI w g s wr) (o : Obj) : TI w g s (wr.alloc o) := ⟨HC.q h.hr ((Q.refl _).alloc _), h.lo, h.q.alloc _, h.gl.q ((Q.refl _).alloc _)⟩
theorem TI.write {w : World} {g : Nat} {s : ByteArray} {wr : World} (h : TI w g s wr) (h1 : 1 < w.heap.size) (p : ByteArray) (hs : s.size + p.size ≤ 2000000000) :
    Calls Tryd.prog 78 #[.pointer (some ⟨g, 0, none⟩), .string p] wr fun e w' => e = .returned (.tuple #[]) ∧ TI w g (s ++ p) w' :=
  (write_any g s p wr h.hr h.gl (by have := h.lo; omega) hs).mono fun e w' ⟨he, h2, h3⟩ => ⟨he, h2, h.lo, Below.trans h.q (h3.mono h.lo), h.gl.below h3 (by have := h.lo; omega)⟩
theorem TI.new (w : World) (hG : GL w) : Calls Tryd.prog 77 #[] w fun e w' => ∃ g, e = .returned (.pointer (some ⟨g, 0, none⟩)) ∧ TI w g ByteArray.empty w' :=
  (new_any w (Q.refl w) hG).mono fun e w' ⟨g, he, h1, h2, h3⟩ => ⟨g, he, h1, h2, h3, hG.q h3⟩
theorem TI.sum {w : World} {g : Nat} {s : ByteArray} {wr : World} (h : TI w g s wr) (hs : s.size ≤ 1000000000) :
    Calls Tryd.prog 79 #[.pointer (some ⟨g, 0, none⟩)] wr fun e w' => e = .returned (.string (shaS s)) ∧ TI w g s w' :=
  (hsum_any g s wr h.hr h.gl hs).mono fun e w' ⟨he, h2⟩ => ⟨he, HC.q h.hr h2, h.lo, h.q.trans h2, h.gl.q h2⟩

set_option maxHeartbeats 1000000 in
set_option maxRecDepth 100000 in
theorem tag_any {W : World} (word : ByteArray) (g off n cap : Nat) (ps : Nat → ByteArray) (w : World) (q : Q W w) (hG : GL W) (hr : RowS w g off n ps) (hg : 0 < n → g < w.heap.size) (hw : word.size ≤ 1000000) (hn : n ≤ 100) (hp : ∀ i, (ps i).size ≤ 1000000) :
    Calls Tryd.prog 59 #[.string word, .slice (some ⟨g, off, none⟩) n cap] w fun e w' => e = .returned (.string (tagS word ps n)) ∧ Q W w' := by
  have HR := Lib.hid hr
  have HP := Lib.hid hp
  have HG := Lib.hid hg
  have HZ := Lib.hid (tg_size word ps 1000000 hp)
  have HGL := Lib.hid (hG.q q)
  have h1w := (hG.q q).lt
  clear hr hp hg hG
  have HT : Hid (ByteArray.empty ++ strOfNums [(word.size : Int) % 256] ++ word = tg word ps 0) := by show _ = strOfNums [(word.size : Int) % 256] ++ word; simp
  have HF : Hid ((shaS (tg word ps n)).extract 0 16 = tagS word ps n) := rfl
  go_enter Tryd.func59, Tryd.ntmps59
  go_wp2_with fail
  refine (TI.new w HGL.out).mono ?_
  rintro e w1 ⟨gh, rfl, hi1⟩
  have H1 := Lib.hid hi1
  have cv := conv1 w1 ((word.size : Int) % 256)
  clear hi1
  go_wp2_with fail
  refine ((H1.out.alloc _).write h1w (strOfNums [(word.size : Int) % 256]) (by simp [strOfNums_size])).mono ?_
  rintro e w2 ⟨rfl, hi2⟩
  have H2 := Lib.hid hi2
  clear hi2 cv
  go_wp2_with fail
  refine (H2.out.write h1w word (by simp [strOfNums_size]; omega)).mono ?_
  rintro e w3 ⟨rfl, hi3⟩
  rw [HT.out] at hi3
  have H3 := Lib.hid hi3
  clear hi3 HT H2 H1
  go_wp2_with fail
  as_aux_lemma =>
  go_loopw [21] (fun i wr => ∃ k : Nat, k ≤ n ∧ i = .int .i64 k ∧ Hid (TI w gh (tg word ps k) wr)) (fun i _ => n - (intOf i).toNat)
  case atStart => exact ⟨0, by omega, rfl, H3⟩
  case round =>
    obtain ⟨k, hk, rfl, I⟩ := hrel
    clear H3
    have hz := HZ.out k
    have hzk : (tg word ps k).size ≤ 1000001 + 100 * 1000002 := by
      have : k * (1000000 + 2) ≤ 100 * (1000000 + 2) := Nat.mul_le_mul_right _ (by omega)
      omega
    clear hz
    by_cases hlt : k < n
    · have k0 : (0 : Int) ≤ (k : Int) := by omega
      have k1 : (k : Int) < (n : Int) := by omega
      have tk : decide ((k : Int) < (n : Int)) = true := by simp; omega
      have hc : wr.cell? ⟨g, off + k, none⟩ = some (.string (ps k)) := by rw [I.out.q.cell (p := ⟨g, off + k, none⟩) (HG.out (by omega))]; exact HR.out k hlt
      have hpk := HP.out k
      have HS : Hid (tg word ps k ++ strOfNums [((ps k).size : Int) / 256 % 256, ((ps k).size : Int) % 256] ++ ps k = tg word ps (k + 1)) := by
        show _ = tg word ps k ++ (strOfNums [((ps k).size : Int) / 256 % 256, ((ps k).size : Int) % 256] ++ ps k)
        rw [ByteArray.append_assoc]
      have cv' := conv2 wr (((ps k).size : Int) / 256 % 256) (((ps k).size : Int) % 256)
      generalize ps k = p at *
      generalize tg word ps k = tk' at *
      go_wp2_with fail
      refine ((I.out.alloc _).write h1w (strOfNums [(p.size : Int) / 256 % 256, (p.size : Int) % 256]) (by simp [strOfNums_size]; omega)).mono ?_
      rintro e w4 ⟨rfl, hi4⟩
      have H4 := Lib.hid hi4
      clear hi4 cv' hc
      go_wp2_with fail
      refine (H4.out.write h1w p (by simp [strOfNums_size]; omega)).mono ?_
      rintro e w5 ⟨rfl, hi5⟩
      rw [HS.out] at hi5
      have H5 := Lib.hid hi5
      clear hi5
      go_wp2_with fail
      exact ⟨⟨k + 1, by omega, by go_num, H5⟩, by simp [intOf]; omega⟩
    · obtain rfl : k = n := by omega
      have hsz := shaS_size (tg word ps k)
      go_wp2_with fail
      refine (I.out.sum (by omega)).mono ?_
      rintro e w4 ⟨rfl, hi4⟩
      have H4 := Lib.hid hi4
      clear hi4 I
      generalize shaS (tg word ps k) = x at *
      go_wp2_with fail
      go_ret
      exact ⟨retS HF.out, q.trans H4.out.q⟩

set_option maxHeartbeats 1000000 in
set_option maxRecDepth 100000 in
theorem tag_none {W : World} (word : ByteArray) (a : Option Addr) (cap : Nat) (ps : Nat → ByteArray) (w : World) (q : Q W w) (hG : GL W) (hw : word.size ≤ 1000000) :
    Calls Tryd.prog 59 #[.string word, .slice a 0 cap] w fun e w' => e = .returned (.string (tagS word ps 0)) ∧ Q W w' := by
  have HGL := Lib.hid (hG.q q)
  have h1w := (hG.q q).lt
  clear hG
  have HT : Hid (ByteArray.empty ++ strOfNums [(word.size : Int) % 256] ++ word = tg word ps 0) := by show _ = strOfNums [(word.size : Int) % 256] ++ word; simp
  have hzk : (tg word ps 0).size ≤ 1000001 := by rw [← HT.out]; simp [strOfNums_size]; omega
  have HF : Hid ((shaS (tg word ps 0)).extract 0 16 = tagS word ps 0) := rfl
  go_enter Tryd.func59, Tryd.ntmps59
  go_wp2_with fail
  refine (TI.new w HGL.out).mono ?_
  rintro e w1 ⟨gh, rfl, hi1⟩
  have H1 := Lib.hid hi1
  have cv := conv1 w1 ((word.size : Int) % 256)
  clear hi1
  go_wp2_with fail
  refine ((H1.out.alloc _).write h1w (strOfNums [(word.size : Int) % 256]) (by simp [strOfNums_size])).mono ?_
  rintro e w2 ⟨rfl, hi2⟩
  have H2 := Lib.hid hi2
  clear hi2 cv
  go_wp2_with fail
  refine (H2.out.write h1w word (by simp [strOfNums_size]; omega)).mono ?_
  rintro e w3 ⟨rfl, hi3⟩
  rw [HT.out] at hi3
  have H3 := Lib.hid hi3
  clear hi3 HT H2 H1
  go_wp2_with fail
  refine wp_loop_rounds 1 ?_
  rw [rounds_succ]
  have hsz := shaS_size (tg word ps 0)
  go_wp2_with fail
  refine (H3.out.sum (by omega)).mono ?_
  rintro e w4 ⟨rfl, hi4⟩
  have H4 := Lib.hid hi4
  clear hi4 H3
  generalize shaS (tg word ps 0) = x at *
  go_wp2_with fail
  go_ret
  exact ⟨retS HF.out, q.trans H4.out.q⟩
theorem HR.q {w w' : World} {g : Nat} {s : ByteArray} (h : HR w g s) (q : Q w w') : HR w' g s := HC.q h q
theorem shortS_size (s : ByteArray) : (shortS s).size = 16 := by unfold shortS; rw [ByteArray.size_extract, shaS_size]; rfl
end Go.Proofs.YtnghhagiokiaoaaDoor.Sh
