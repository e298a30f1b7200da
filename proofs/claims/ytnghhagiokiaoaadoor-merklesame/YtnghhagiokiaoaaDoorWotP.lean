/-
  Layer 6: the program's digits, Digits, Sign, From, Verify.
-/
import Derived.Test.YtnghhagiokiaoaaDoorWotD
namespace Go.Proofs.YtnghhagiokiaoaaDoor.Wot
open Go.RowKit
open Mem Sh
set_option linter.unusedVariables false

theorem there_q {w w' : World} {b o n : Nat} (h : w.there b o n) (q : Q w w') (hb : b < w.heap.size) : w'.there b o n := fun j hj =>
  ⟨by rw [q.cell (p := ⟨b, o + j, none⟩) hb]; exact (h j hj).1, by rw [q.frozen (p := ⟨b, o + j, none⟩) hb]; exact (h j hj).2⟩

set_option maxHeartbeats 1000000 in
set_option maxRecDepth 100000 in
theorem digits_arr {W : World} (m : ByteArray) (w : World) (q : Q W w) (hG : GL W) (hms : m.size ≤ 1000000) :
    Calls Tryd.prog 67 #[.string m] w fun e w' => e = .returned (arr .i64 18 (dig m)) ∧ Q W w' := by
  obtain ⟨h, eh⟩ : ∃ h, hm m = h := ⟨_, rfl⟩
  have zh : h.size = 16 := by rw [← eh]; exact hm_size m
  have hlt : w.heap.size < (w.alloc (.cells Z18 76)).heap.size := by simp
  have T0 := Lib.hid (there_new w 18 (.int .i64 0) 76)
  have C := Lib.hid (fun T => tag1_x (W := w.alloc (.cells Z18 76)) wMsg m h eh T (w.alloc (.cells Z18 76)) _ rfl (Q.refl _) (hG.q (q.alloc _)) (by decide) hms)
  have HD : Hid (arr .i64 18 (digH h) = arr .i64 18 (dig m)) := by show _ = _; unfold dig; rw [eh]
  have HQ := Lib.hid q
  have HA := Lib.hid ((Q.refl w).alloc (.cells Z18 76))
  have hsz : (w.alloc (.cells Z18 76)).heap.size = w.heap.size + 1 := by simp
  rw [hsz] at C
  clear q eh
  go_enter Tryd.func67, Tryd.ntmps67
  go_wp2_with fail
  refine (C.out _).mono ?_
  rintro e w1 ⟨rfl, q1⟩
  have CS := Lib.hid (spread_any h w1 zh)
  have Q1 := Lib.hid q1
  clear q1 C
  unfold arr at CS
  have HC := Lib.hid (cl_len .i64 18 (digH h))
  have HO := Lib.hid (cl_one .i64 18 (digH h))
  have HL := Lib.hid fun (w' : World) (th : w'.there w.heap.size 0 18) => load18 (Row.stored (k := .i64) (f := digH h) th)
  generalize cl .i64 18 (digH h) = C at *
  go_wp2_with fail
  refine CS.out.mono ?_
  rintro e w2 ⟨rfl, q2⟩
  have T2 := Lib.hid (there_q T0.out (Q1.out.trans q2) hlt)
  have Q2 := Lib.hid (HA.out.trans (Q1.out.trans q2))
  have HT2 : Hid (w2.there w.heap.size 0 C.toArray.size) := by show World.there _ w.heap.size 0 C.length; rw [HC.out]; exact T2.out
  have HI2 : Hid ((Tryd.prog.info? 76).map (·.size) = some C.toArray.size) := by show _ = some C.length; rw [HC.out]; exact info18
  have HL2 := Lib.hid (HL.out w2 T2.out)
  clear q2 CS HL
  go_wp2_with (with_reducible (show wpList _ _ _ (⟨_, Op.store 76 _ _, _, _, _, _⟩ :: _) _ _); refine wpList_store_mid rfl 76 _ _ rfl w.heap.size 0 C.toArray rfl rfl HT2.out HI2.out HO.out ?_)
  try simp only [Exit.inBlock, Exit.then]
  refine bodyPost_ret (results_cell rfl rfl HL2.out) rfl ?_
  exact ⟨by rw [HD.out], HQ.out.trans (Q.setCells Q2.out (Nat.le_refl _) 0 C)⟩

theorem slice_all (w : World) (g : Nat) : (Instr.sliceAt 76 (.pointer (some ⟨g, 0, none⟩)) none none none).run Tryd.prog w = .ok (.slice (some ⟨g, 0, none⟩) 18 18) w := by kernel_rfl

end Go.Proofs.YtnghhagiokiaoaaDoor.Wot
