/-
  Layer 6: the program's Public, Sign, From, Verify.
-/
import Derived.Test.YtnghhagiokiaoaaDoorWotP
namespace Go.Proofs.YtnghhagiokiaoaaDoor.Wot
open Go.RowKit
open Mem Sh
set_option linter.unusedVariables false

theorem egS : ∀ args w, (callFunc 82 args).run Tryd.prog w = .ok (.enter 82 args) w := enters_of Tryd.func82 (by kernel_rfl) rfl
theorem egP : ∀ args w, (callFunc 88 args).run Tryd.prog w = .ok (.enter 88 args) w := enters_of Tryd.func88 (by kernel_rfl) rfl
theorem sec_ends (g : Nat) (s : ByteArray) (d : Nat → Int) (w : World) (hG : GL w) (hc : w.cell? ⟨g, 0, none⟩ = some (.string s)) (hs : s.size ≤ 1000000) (hd : ∀ i, 0 ≤ d i ∧ d i ≤ 15)
    (x : ByteArray) (hx : cat (fun i => stp i (sec s i) (d i).toNat) 18 = x) :
    Calls Tryd.prog 61 #[secV g, arr .i64 18 d] w fun e w' => e = .returned (.string x) ∧ Q w w' := by
  subst hx
  exact ends_any 82 g egS (sec s) d w hG (fun wr hq i hi => secret_x g s _ i rfl wr (Q.refl wr) (hG.q hq) ((hq.cell (p := ⟨g, 0, none⟩) (World.block_lt_of_cell? _ _ hc)).trans hc) hs (by omega)) (fun i _ => sec_size s i) hd
theorem pie_ends (g : Nat) (sig : ByteArray) (d : Nat → Int) (w : World) (hG : GL w) (hc : w.cell? ⟨g, 0, none⟩ = some (.string sig)) (hs : sig.size = 288) (hd : ∀ i, 0 ≤ d i ∧ d i ≤ 15)
    (x : ByteArray) (hx : cat (fun i => stp i (part sig i) (d i).toNat) 18 = x) :
    Calls Tryd.prog 61 #[pieV g, arr .i64 18 d] w fun e w' => e = .returned (.string x) ∧ Q w w' := by
  subst hx
  exact ends_any 88 g egP (part sig) d w hG (fun wr hq i hi => piece_x g sig _ i rfl wr (Q.refl wr) ((hq.cell (p := ⟨g, 0, none⟩) (World.block_lt_of_cell? _ _ hc)).trans hc) hs hi) (fun i hi => part_size sig hs i hi) hd

set_option maxHeartbeats 2000000 in
set_option maxRecDepth 100000 in
theorem public_x {W : World} (s x : ByteArray) (hx : pub s = x) (w : World) (q : Q W w) (hG : GL W) (hs : s.size ≤ 1000000) :
    Calls Tryd.prog 41 #[.string s] w fun e w' => e = .returned (.string x) ∧ Q W w' := by
  have HX : Hid (tagS wPub (fun _ => cat (pubP s) 18) 1 = x) := hx
  have HZ := Lib.hid (cat_size (pubP s) (pubP_size s) 18)
  have HQ := Lib.hid (q.alloc (.cells Z18 76))
  have RZ : Hid (Row .i64 (w.alloc (.cells Z18 76)) w.heap.size 0 18 (fun _ => 0)) := Row.made .i64 w 18 0 76
  have HL : Hid (w.heap.size < (w.alloc (.cells Z18 76)).heap.size) := by simp [Hid]
  clear q hx
  go_enter Tryd.func41, Tryd.ntmps41
  go_wp2_with fail
  show Code.wp _ _ _ _ (w.alloc (.cells Z18 76))
  generalize (w.alloc (.cells Z18 76)) = w0 at *
  generalize w.heap.size = g at *
  have HR : Hid (∀ w', Q w0 w' → w'.rangeAt g 0 (cl .i64 18 fun _ => 0)) := fun w' h => (RZ.out.q h HL.out).range
  have CR := Lib.hid fun w => rest_any (fun _ => 0) w (fun _ => ⟨by omega, by omega⟩)
  unfold arr at CR
  have HC := Lib.hid (cl_len .i64 18 fun _ => 0)
  generalize (cl .i64 18 fun _ => 0) = C at *
  have HI3 : Hid ((Tryd.prog.info? 76).map (·.size) = some C.length) := by rw [HC.out]; exact info18
  have HS0 := HR.out _ (Q.refl w0).drew
  have HGL := Lib.hid (hG.q HQ.out)
  refine wp_region_held_drew (S := fun w' => w'.rangeAt g 0 C) (by kernel_rfl) HS0 (fun hHeld => ?_)
  refine wpAnyH_take (i := 0) (v := ?_) (by simp only [List.getElem?_toArray, List.getElem?_cons_zero]; rfl) (by kernel_rfl) (by kernel_rfl) (by kernel_rfl) (by exact fun _ _ _ h => h) (Or.inl ⟨by rfl, ?_⟩) (by assumption) ?_
  rotate_left
  · (intro wx hSw; (try dsimp only at hSw); go_simp; (try rw [if_neg (by omega)]); try (with_reducible rfl))
  try simp only [Act.put, List.setIfInBounds_toArray, List.set_cons_zero, List.set_cons_succ]
  refine wpAnyH_take (i := 2) (v := .agg C.toArray) (by simp only [List.getElem?_toArray, List.getElem?_cons_zero, List.getElem?_cons_succ]; rfl) (by kernel_rfl) (by kernel_rfl) (by kernel_rfl) (by exact fun _ _ _ h => h) (yieldsIf_load_mid rfl 76 _ rfl g 0 rfl C _ (fun _ h => h) Tryd.underlying76 rfl HI3.out) (by assumption) ?_
  try simp only [Act.put, List.setIfInBounds_toArray, List.set_cons_zero, List.set_cons_succ]
  refine wpAnyH_ready (rs := [1]) (by kernel_rfl) (by simp) ?_
  refine AllReadyH.cons (by simp only [List.getElem?_toArray, List.getElem?_cons_succ, List.getElem?_cons_zero]; rfl) (fun K hK => ?_) AllReadyH.nil
  go_simp
  refine (secrets_any s _).mono ?_
  rintro r w1 ⟨rfl, hw1⟩
  have Q1 : Hid (Q w0 w1) := by rw [hw1]; exact (Q.refl w0).drew.alloc _
  have B1 : Hid (w1.cell? ⟨w0.drew.heap.size, 0, none⟩ = some (.string s)) := by rw [hw1]; exact bx_cell _ _
  clear hw1
  generalize w0.drew.heap.size = gs at *
  dsimp only
  refine hK.out _ _ (HR.out _ Q1.out) (fun hHeld1 => ?_)
  clear hK K
  try simp only [Act.put, List.setIfInBounds_toArray, List.set_cons_zero, List.set_cons_succ]
  refine wpAnyH_ready (rs := [3]) (by kernel_rfl) (by simp) ?_
  refine AllReadyH.cons (by simp only [List.getElem?_toArray, List.getElem?_cons_succ, List.getElem?_cons_zero]; rfl) (fun K hK => ?_) AllReadyH.nil
  go_simp
  refine (CR.out _).mono ?_
  rintro r w2 ⟨rfl, q2⟩
  have Q2 := Lib.hid (Q1.out.trans q2)
  have B2 : Hid (w2.cell? ⟨gs, 0, none⟩ = some (.string s)) := (q2.cell (p := ⟨gs, 0, none⟩) (World.block_lt_of_cell? _ _ B1.out)).trans B1.out
  clear q2 CR
  dsimp only
  refine hK.out _ _ (HR.out _ Q2.out) (fun hHeld3 => ?_)
  clear hK K
  try simp only [Act.put, List.setIfInBounds_toArray, List.set_cons_zero, List.set_cons_succ]
  refine wpAnyH_ready (rs := [4]) (by kernel_rfl) (by simp) ?_
  refine AllReadyH.cons (by simp only [List.getElem?_toArray, List.getElem?_cons_succ, List.getElem?_cons_zero]; rfl) (fun K hK => ?_) AllReadyH.nil
  go_simp
  refine (sec_ends gs s (fun _ => 15) w2 (HGL.out.q Q2.out) B2.out hs (fun _ => ⟨by omega, by omega⟩) _ (show cat _ 18 = cat (pubP s) 18 from rfl)).mono ?_
  rintro r w3 ⟨rfl, q3⟩
  have Q3 := Lib.hid (Q2.out.trans q3)
  clear q3
  generalize cat (pubP s) 18 = c at *
  dsimp only
  refine hK.out _ _ (HR.out _ Q3.out) (fun hHeld4 => ?_)
  clear hK K
  try simp only [Act.put, List.setIfInBounds_toArray, List.set_cons_zero, List.set_cons_succ]
  refine wpAnyH_ready (rs := [5]) (by kernel_rfl) (by simp) ?_
  refine AllReadyH.cons (by simp only [List.getElem?_toArray, List.getElem?_cons_succ, List.getElem?_cons_zero]; rfl) (fun K hK => ?_) AllReadyH.nil
  go_simp
  refine (key_x c x HX.out w3 Q3.out HGL.out (by have := HZ.out; omega)).mono ?_
  rintro r w4 ⟨rfl, q4⟩
  have Q4 := Lib.hid q4
  clear q4
  dsimp only
  refine hK.out _ _ (HR.out _ Q4.out) (fun hHeld5 => ?_)
  clear hK K
  try simp only [Act.put, List.setIfInBounds_toArray, List.set_cons_zero, List.set_cons_succ]
  refine wpAnyH_take (i := 6) (v := ?_) (by simp only [List.getElem?_toArray, List.getElem?_cons_zero, List.getElem?_cons_succ]; rfl) (by kernel_rfl) (by kernel_rfl) (by kernel_rfl) (by exact fun _ _ _ h => h) (Or.inl ⟨by rfl, ?_⟩) (by assumption) ?_
  rotate_left
  · (intro wx hSw; (try dsimp only at hSw); go_simp; (try rw [if_neg (by omega)]); try (with_reducible rfl))
  try simp only [Act.put, List.setIfInBounds_toArray, List.set_cons_zero, List.set_cons_succ]
  refine wpAnyH_done (by kernel_rfl) ?_ _
  go_wp2_with fail
  go_ret
  exact ⟨rfl, HQ.out.trans Q4.out⟩

set_option maxHeartbeats 1000000 in
theorem sign_x {W : World} (s m x : ByteArray) (hx : sgn s m = x) (w : World) (q : Q W w) (hG : GL W) (hs : s.size ≤ 1000000) (hms : m.size ≤ 1000000) :
    Calls Tryd.prog 47 #[.string s, .string m] w fun e w' => e = .returned (.string x) ∧ Q W w' := by
  have HX := Lib.hid hx
  have HQ := Lib.hid q
  have HGL := Lib.hid (hG.q q)
  clear q hx
  go_enter Tryd.func47, Tryd.ntmps47
  go_wp2_with fail
  refine (secrets_any s _).mono ?_
  rintro r w1 ⟨rfl, hw1⟩
  have Q1 : Hid (Q w w1) := by rw [hw1]; exact (Q.refl w).alloc _
  have B1 : Hid (w1.cell? ⟨w.heap.size, 0, none⟩ = some (.string s)) := by rw [hw1]; exact bx_cell _ _
  clear hw1
  generalize w.heap.size = gs at *
  have CD := Lib.hid (digits_arr m w1 (Q.refl w1) (HGL.out.q Q1.out) hms)
  have CE := Lib.hid fun w2 h1 h2 => sec_ends gs s (dig m) w2 h1 h2 hs (dig_bd m) x HX.out
  generalize arr .i64 18 (dig m) = A at *
  go_wp2_with fail
  refine CD.out.mono ?_
  rintro r w2 ⟨rfl, q2⟩
  have Q2 := Lib.hid (Q1.out.trans q2)
  have B2 : Hid (w2.cell? ⟨gs, 0, none⟩ = some (.string s)) := (q2.cell (p := ⟨gs, 0, none⟩) (World.block_lt_of_cell? _ _ B1.out)).trans B1.out
  clear q2 CD
  go_wp2_with fail
  refine (CE.out w2 (HGL.out.q Q2.out) B2.out).mono ?_
  rintro r w3 ⟨rfl, q3⟩
  go_wp2_with fail
  go_ret
  exact ⟨rfl, HQ.out.trans (Q2.out.trans q3)⟩

set_option maxHeartbeats 1000000 in
theorem from_x {W : World} (m sig x : ByteArray) (hx : frm m sig = x) (w : World) (q : Q W w) (hG : GL W) (hz : sig.size = 288) (hms : m.size ≤ 1000000) :
    Calls Tryd.prog 52 #[.string m, .string sig] w fun e w' => e = .returned (.tuple #[.string x, .int .i64 0]) ∧ Q W w' := by
  have HX : Hid (tagS wPub (fun _ => cat (frmP m sig) 18) 1 = x) := hx
  have HZ : Hid ((cat (frmP m sig) 18).size ≤ 16 * 18) := cat_size_le (frmP m sig) 16 18 (fun i hi => Nat.le_of_eq (stp_size _ _ (part_size sig hz i hi) _)) 18 (Nat.le_refl _)
  have HQ := Lib.hid q
  have HGL := Lib.hid (hG.q q)
  have hz' : (sig.size : Int) = 288 := by omega
  clear q hx
  go_enter Tryd.func52, Tryd.ntmps52
  go_wp2_with fail
  refine (pieces_any sig _).mono ?_
  rintro r w1 ⟨rfl, hw1⟩
  have Q1 : Hid (Q w w1) := by rw [hw1]; exact (Q.refl w).alloc _
  have B1 : Hid (w1.cell? ⟨w.heap.size, 0, none⟩ = some (.string sig)) := by rw [hw1]; exact bx_cell _ _
  clear hw1
  generalize w.heap.size = gs at *
  have CD := Lib.hid (digits_arr m w1 (Q.refl w1) (HGL.out.q Q1.out) hms)
  have CR := Lib.hid fun w2 => rest_any (dig m) w2 (dig_bd m)
  have CE := Lib.hid fun w2 h1 h2 => pie_ends gs sig (fun j => 15 - dig m j) w2 h1 h2 hz (fun i => ⟨by have := dig_bd m i; omega, by have := dig_bd m i; omega⟩) (cat (frmP m sig) 18) rfl
  generalize arr .i64 18 (dig m) = A at *
  generalize arr .i64 18 (fun j => 15 - dig m j) = A' at *
  generalize cat (frmP m sig) 18 = c at *
  go_wp2_with fail
  refine CD.out.mono ?_
  rintro r w2 ⟨rfl, q2⟩
  have Q2 := Lib.hid (Q1.out.trans q2)
  have B2 : Hid (w2.cell? ⟨gs, 0, none⟩ = some (.string sig)) := (q2.cell (p := ⟨gs, 0, none⟩) (World.block_lt_of_cell? _ _ B1.out)).trans B1.out
  clear q2 CD
  go_wp2_with fail
  refine (CR.out w2).mono ?_
  rintro r w3 ⟨rfl, q3⟩
  have Q3 := Lib.hid (Q2.out.trans q3)
  have B3 : Hid (w3.cell? ⟨gs, 0, none⟩ = some (.string sig)) := (q3.cell (p := ⟨gs, 0, none⟩) (World.block_lt_of_cell? _ _ B2.out)).trans B2.out
  clear q3 CR
  go_wp2_with fail
  refine (CE.out w3 (HGL.out.q Q3.out) B3.out).mono ?_
  rintro r w4 ⟨rfl, q4⟩
  have Q4 := Lib.hid (Q3.out.trans q4)
  clear q4 CE
  go_wp2_with fail
  refine (key_x c x HX.out w4 Q4.out HGL.out (by have := HZ.out; omega)).mono ?_
  rintro r w5 ⟨rfl, q5⟩
  go_wp2_with fail
  go_ret2
  exact ⟨rfl, HQ.out.trans q5⟩
theorem from_bad {W : World} (m sig : ByteArray) (w : World) (q : Q W w) (hz : sig.size ≠ 288) :
    Calls Tryd.prog 52 #[.string m, .string sig] w fun e w' => e = .returned (.tuple #[.string ⟨#[]⟩, .int .i64 4]) ∧ Q W w' := by
  have hz' : ((sig.size : Int) != 288) = true := by simp; omega
  go_enter Tryd.func52, Tryd.ntmps52
  go_wp2_with fail
  go_ret2
  exact ⟨rfl, q⟩
end Go.Proofs.YtnghhagiokiaoaaDoor.Wot
