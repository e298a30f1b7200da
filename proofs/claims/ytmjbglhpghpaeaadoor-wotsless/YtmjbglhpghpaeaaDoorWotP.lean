/-
  Layer 6: the program's digits, Digits, Sign, From, Verify.
-/
import Derived.Test.YtmjbglhpghpaeaaDoorWotD
namespace Go.Proofs.YtmjbglhpghpaeaaDoor.Wot
open Go.RowKit
open Mem Sh
set_option linter.unusedVariables false

theorem there_q {w w' : World} {b o n : Nat} (h : w.there b o n) (q : Q w w') (hb : b < w.heap.size) : w'.there b o n := fun j hj =>
  ⟨by rw [q.cell (p := ⟨b, o + j, none⟩) hb]; exact (h j hj).1, by rw [q.frozen (p := ⟨b, o + j, none⟩) hb]; exact (h j hj).2⟩

set_option maxHeartbeats 1000000 in
set_option maxRecDepth 100000 in
theorem digits_arr {W : World} (m : ByteArray) (w : World) (q : Q W w) (hG : GL W) (hms : m.size ≤ 1000000) :
    Calls Tryd.prog 24 #[.string m] w fun e w' => e = .returned (arr .i64 18 (dig m)) ∧ Q W w' := by
  obtain ⟨h, eh⟩ : ∃ h, hm m = h := ⟨_, rfl⟩
  have zh : h.size = 16 := by rw [← eh]; exact hm_size m
  have hlt : w.heap.size < (w.alloc (.cells Z18 38)).heap.size := by simp
  have T0 := Lib.hid (there_new w 18 (.int .i64 0) 38)
  have C := Lib.hid (fun T => tag1_x (W := w.alloc (.cells Z18 38)) wMsg m h eh T (w.alloc (.cells Z18 38)) _ rfl (Q.refl _) (hG.q (q.alloc _)) (by decide) hms)
  have HD : Hid (arr .i64 18 (digH h) = arr .i64 18 (dig m)) := by show _ = _; unfold dig; rw [eh]
  have HQ := Lib.hid q
  have HA := Lib.hid ((Q.refl w).alloc (.cells Z18 38))
  have hsz : (w.alloc (.cells Z18 38)).heap.size = w.heap.size + 1 := by simp
  rw [hsz] at C
  clear q eh
  go_enter Tryd.func24, Tryd.ntmps24
  go_wp2_with fail
  refine (C.out _).mono ?_
  rintro e w1 ⟨rfl, q1⟩
  have CS := Lib.hid (spread_any h w1 zh)
  have Q1 := Lib.hid q1
  clear q1 C
  unfold arr at CS
  have HC := Lib.hid (cl_len .i64 18 (digH h))
  have HO := Lib.hid (cl_one .i64 18 (digH h))
  have HL := Lib.hid fun (w' : World) (th : w'.there w.heap.size 0 18) => load18 (Row.stored (k := .i64) (f := digH h) th)
  generalize cl .i64 18 (digH h) = C at *
  go_wp2_with fail
  refine CS.out.mono ?_
  rintro e w2 ⟨rfl, q2⟩
  have T2 := Lib.hid (there_q T0.out (Q1.out.trans q2) hlt)
  have Q2 := Lib.hid (HA.out.trans (Q1.out.trans q2))
  have HT2 : Hid (w2.there w.heap.size 0 C.toArray.size) := by show World.there _ w.heap.size 0 C.length; rw [HC.out]; exact T2.out
  have HI2 : Hid ((Tryd.prog.info? 38).map (·.size) = some C.toArray.size) := by show _ = some C.length; rw [HC.out]; exact info18
  have HL2 := Lib.hid (HL.out w2 T2.out)
  clear q2 CS HL
  go_wp2_with (with_reducible (show wpList _ _ _ (⟨_, Op.store 38 _ _, _, _, _, _⟩ :: _) _ _); refine wpList_store_mid rfl 38 _ _ rfl w.heap.size 0 C.toArray rfl rfl HT2.out HI2.out HO.out ?_)
  try simp only [Exit.inBlock, Exit.then]
  refine bodyPost_ret (results_cell rfl rfl HL2.out) rfl ?_
  exact ⟨by rw [HD.out], HQ.out.trans (Q.setCells Q2.out (Nat.le_refl _) 0 C)⟩

theorem slice_all (w : World) (g : Nat) : (Instr.sliceAt 38 (.pointer (some ⟨g, 0, none⟩)) none none none).run Tryd.prog w = .ok (.slice (some ⟨g, 0, none⟩) 18 18) w := by kernel_rfl

set_option maxHeartbeats 1000000 in
set_option maxRecDepth 100000 in
theorem digits_any {W : World} (m : ByteArray) (w : World) (q : Q W w) (hG : GL W) (hms : m.size ≤ 1000000) :
    Calls Tryd.prog 10 #[.string m] w (OwnRow .i64 W (dig m) 18) := by
  have CD := Lib.hid (digits_arr m w q hG hms)
  unfold arr at CD
  have HC := Lib.hid (cl_len .i64 18 (dig m))
  have HO := Lib.hid (cl_one .i64 18 (dig m))
  have HR := Lib.hid fun (w' : World) (g : Nat) (th : w'.there g 0 18) => Row.stored (k := .i64) (f := dig m) th
  generalize cl .i64 18 (dig m) = C at *
  clear q
  go_enter Tryd.func10, Tryd.ntmps10
  go_wp2_with fail
  refine CD.out.mono ?_
  rintro e w1 ⟨rfl, q1⟩
  have T1 := Lib.hid (there_new w1 18 (.int .i64 0) 38)
  have F1 := Lib.hid (made_frozen w1 Z18 38)
  have Q1 := Lib.hid (q1.alloc (.cells Z18 38))
  have hlo := q1.size
  have HT2 : Hid ((w1.alloc (.cells Z18 38)).there w1.heap.size 0 C.toArray.size) := by show World.there _ w1.heap.size 0 C.length; rw [HC.out]; exact T1.out
  have HI2 : Hid ((Tryd.prog.info? 38).map (·.size) = some C.toArray.size) := by show _ = some C.length; rw [HC.out]; exact info18
  have hsl := slice_all
  clear q1 CD
  go_wp2_with (with_reducible (show wpList _ _ _ (⟨_, Op.store 38 _ _, _, _, _, _⟩ :: _) _ _); refine halt ?_)
  show Hid (wpList _ _ _ _ _ (w1.alloc (.cells Z18 38)))
  refine Lib.hid (wpList_store_mid rfl 38 _ _ rfl w1.heap.size 0 C.toArray rfl rfl HT2.out HI2.out HO.out ?_)
  go_wp2_with fail
  go_ret
  refine ⟨w1.heap.size, 18, rfl, by omega, by unfold maxLen; omega, HR.out _ _ T1.out, fun i => ?_, hlo, ?_, Q.setCells Q1.out hlo 0 C⟩
  · rw [World.frozen?_setCells]; exact F1.out i
  · rw [setCells_size]; simp
end Go.Proofs.YtmjbglhpghpaeaaDoor.Wot
