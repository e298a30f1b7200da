import Derived.Laws.BitsAllLaws
import Derived.Laws.Bits64b
import Derived.OpenShut
import Derived.Test.YtobfgljkckcmcaaGreatDoorYHMem
import Derived.Lib.AppendStr
set_option maxRecDepth 100000
namespace Go.Proofs.YtobfgljkckcmcaaGreatDoor.Sh
set_option linter.unusedVariables false
open Mem
/-- A word: below 2^32. -/
def Wd (x : Int) : Prop := 0 ≤ x ∧ x ≤ 4294967295
def xr (a b : Int) : Int := bits .xor .u32 a b
def an (a b : Int) : Int := bits .and .u32 a b
def ad (a b : Int) : Int := IntKind.u32.wrap (a + b)
/-- A word turned to the right. -/
def rot (x n : Int) : Int := bits .or .u32 (x / 2 ^ n.toNat) (IntKind.u32.wrap (x * 2 ^ (32 - n).toNat))
def s0 (x : Int) : Int := xr (xr (rot x 7) (rot x 18)) (x / 8)
def s1 (x : Int) : Int := xr (xr (rot x 17) (rot x 19)) (x / 1024)
def S0 (x : Int) : Int := xr (xr (rot x 2) (rot x 13)) (rot x 22)
def S1 (x : Int) : Int := xr (xr (rot x 6) (rot x 11)) (rot x 25)
def ch (e f g : Int) : Int := xr (an e f) (an (4294967295 - e) g)
def mj (a b c : Int) : Int := xr (xr (an a b) (an a c)) (an b c)
theorem ad_wd (a b : Int) : Wd (ad a b) := by unfold ad Wd; rw [IntKind.wrap_u32']; omega
/-- The words of 64 bytes: the first sixteen. -/
def wd (b : Nat → Int) (t : Nat) : Int := b (4 * t) * 16777216 + b (4 * t + 1) * 65536 + b (4 * t + 2) * 256 + b (4 * t + 3)
/-- The first n of them, zeros behind. -/
def w16 (b : Nat → Int) (n : Nat) : Nat → Int := fun t => if t < n then wd b t else 0
/-- .. and k more. -/
def wrow (b : Nat → Int) : Nat → Nat → Int
 | 0 => w16 b 16
 | k + 1 => upd (wrow b k) (16 + k) (ad (ad (ad (s1 (wrow b k (14 + k))) (wrow b k (9 + k))) (s0 (wrow b k (1 + k)))) (wrow b k k))
def Byts (b : Nat → Int) : Prop := ∀ j, 0 ≤ b j ∧ b j ≤ 255
theorem wd_wd (b : Nat → Int) (h : Byts b) (t : Nat) : Wd (wd b t) := by
 have := h (4 * t); have := h (4 * t + 1); have := h (4 * t + 2); have := h (4 * t + 3)
 unfold wd Wd; omega
theorem w16_wd (b : Nat → Int) (h : Byts b) (n t : Nat) : Wd (w16 b n t) := by
 unfold w16
 split
 · exact wd_wd b h t
 · unfold Wd; omega
theorem w16_succ (b : Nat → Int) (n : Nat) : upd (w16 b n) n (wd b n) = w16 b (n + 1) := by
 funext t
 unfold upd w16
 by_cases h : t = n
 · subst h; rw [if_pos rfl, if_pos (by omega)]
 · rw [if_neg h]
   by_cases h2 : t < n
   · rw [if_pos h2, if_pos (by omega)]
   · rw [if_neg h2, if_neg (by omega)]
theorem upd_wd {o : Nat → Int} (h : ∀ i, Wd (o i)) (x : Nat) {v : Int} (hv : Wd v) : ∀ i, Wd (upd o x v i) := by
 intro i; unfold upd; split
 · exact hv
 · exact h i
theorem wrow_wd (b : Nat → Int) (h : Byts b) : ∀ k t, Wd (wrow b k t)
 | 0 => w16_wd b h 16
 | k + 1 => upd_wd (wrow_wd b h k) _ (ad_wd _ _)
/-- One round: what p, q are, and the state behind it. -/
def rp (k w : Nat → Int) (t : Nat) (v : Nat → Int) : Int := ad (ad (ad (ad (v 7) (S1 (v 4))) (ch (v 4) (v 5) (v 6))) (k t)) (w t)
def rq (v : Nat → Int) : Int := ad (S0 (v 0)) (mj (v 0) (v 1) (v 2))
def round (k w : Nat → Int) (t : Nat) (v : Nat → Int) : Nat → Int := fun i => if i = 0 then ad (rp k w t v) (rq v) else if i = 4 then ad (v 3) (rp k w t v) else v (i - 1)
def rounds (k w : Nat → Int) (v : Nat → Int) : Nat → Nat → Int
 | 0 => v
 | t + 1 => round k w t (rounds k w v t)
theorem round_wd (k w : Nat → Int) (t : Nat) (v : Nat → Int) (h : ∀ i, Wd (v i)) : ∀ i, Wd (round k w t v i) := by
 intro i; unfold round; split
 · exact ad_wd _ _
 · split
   · exact ad_wd _ _
   · exact h _
theorem rounds_wd (k w : Nat → Int) (v : Nat → Int) (h : ∀ i, Wd (v i)) : ∀ t i, Wd (rounds k w v t i)
 | 0 => h
 | t + 1 => round_wd k w t _ (rounds_wd k w v h t)
/-- A state behind 64 bytes. -/
def stepS (k : Nat → Int) (st b : Nat → Int) : Nat → Int := fun i => ad (rounds k (wrow b 48) st 64 i) (st i)
theorem stepS_wd (k st b : Nat → Int) : ∀ i, Wd (stepS k st b i) := fun i => ad_wd _ _
open Go.RowKit
theorem r_any (x n : Int) (w : World) (h0 : 0 ≤ x) (h1 : x ≤ 4294967295) (n0 : 1 ≤ n) (n1 : n ≤ 31) :
 Calls Tryz.prog 157 #[.int .u32 x, .int .i64 n] w fun e w' => e = .returned (.int .u32 (rot x n)) ∧ ∃ m, w' = w.drewN m := by
 obtain ⟨k, rfl⟩ := Int.eq_ofNat_of_zero_le (show 0 ≤ n by omega)
 have e2 : IntKind.i64.wrap (32 - (k : Int)) = 32 - (k : Int) := IntWalk.i64_in _ ⟨by omega, by omega⟩
 have e3 : (0 : Int) ≤ 32 - (k : Int) := by omega
 have HE : Hid (bits BinOp.or IntKind.u32 (x / 2 ^ k) (x * 2 ^ (32 - k) % 4294967296) = rot x k) := by
  unfold rot
  rw [Int.toNat_natCast, show (32 - (k : Int)).toNat = 32 - k by omega, IntKind.wrap_u32']
  rfl
 go_enter Tryz.func157, Tryz.ntmps157
 go_wp2_with fail
 go_quiet (fail)
 rename_i nq
 go_wp2_with fail
 go_ret
 exact ⟨ret1 HE.out, nq, rfl⟩
def z64 : Obj := .cells (Array.replicate 64 (.int .u32 0)) 179
theorem make64 (w : World) : (Instr.makeSlice 202 (.int .i64 64) (.int .i64 64)).run Tryz.prog w = .ok (.slice (some ⟨w.heap.size, 0, none⟩) 64 64) (w.alloc z64) := by kernel_rfl
/-- What holds behind the words that are laid. -/
structure WI (W : World) (b : Nat → Int) (g off gz : Nat) (o : Nat → Int) (wr : World) : Prop where
 rb : Row .u8 wr g off 64 b
 rz : Row .u32 wr gz 0 64 o
 fz : ∀ j, wr.frozen? ⟨gz, j, none⟩ = false
 lt : gz < wr.heap.size
 q : Q W wr
theorem WI.set {W : World} {b : Nat → Int} {g off gz : Nat} {o : Nat → Int} {wr w2 : World} (h : WI W b g off gz o wr) (hne : g ≠ gz) (hz : W.heap.size ≤ gz) (x : Nat) (hx : x < 64) (v : Int) (hw : ∃ n, w2 = wr.drewN n) :
 WI W b g off gz (upd o x v) (w2.setCell ⟨gz, x, none⟩ (.int .u32 v)) := by
 obtain ⟨n, rfl⟩ := hw
 refine ⟨(h.rb.drewN n).other hne _, (h.rz.drewN n).set x hx v, fun j => ?_, ?_, (h.q.drewN n).setCell hz _⟩
 · have := h.fz j
   simpa using this
 · have := h.lt
   simpa using this
set_option maxHeartbeats 4000000 in
theorem words_any {W : World} (g off cap : Nat) (b : Nat → Int) (w : World) (q : Q W w) (hb : Row .u8 w g off 64 b) (hB : Byts b) (hg : g < w.heap.size) :
 Calls Tryz.prog 156 #[.slice (some ⟨g, off, none⟩) 64 cap] w (OwnRow .u32 W (wrow b 48) 64) := by
 have hmk := make64
 have I0 : Hid (WI W b g off w.heap.size (w16 b 0) (w.alloc z64)) := ⟨hb.q (Q.alloc (Q.refl _) _) hg, Row.made .u32 w 64 0 _, made_frozen w _ _, by simp, q.alloc _⟩
 have HB := Lib.hid hB
 have hz := q.size
 have hne : g ≠ w.heap.size := by omega
 clear hb hB q
 go_enter Tryz.func156, Tryz.ntmps156
 go_wp2_with fail
 clear hmk
 generalize w.heap.size = gz at *
 go_loopw [4] (fun i wr => ∃ k : Nat, k ≤ 16 ∧ i = .int .i64 k ∧ Hid (WI W b g off gz (w16 b k) wr)) (fun i _ => 16 - (intOf i).toNat)
 case atStart => exact ⟨0, by omega, rfl, I0⟩
 case round =>
  obtain ⟨k, hk, rfl, I⟩ := hrel
  clear I0
  by_cases hlt : k < 16
  · have k0 : (0 : Int) ≤ (k : Int) := by omega
    have k1 : (k : Int) < 16 := by omega
    have tk : decide ((k : Int) < 16) = true := by simp; omega
    have c0 := I.out.rb (4 * k) (by omega)
    have c1 := I.out.rb (4 * k + 1) (by omega)
    have c2 := I.out.rb (4 * k + 2) (by omega)
    have c3 := I.out.rb (4 * k + 3) (by omega)
    have f0 := I.out.fz k
    have cz : wr.cell? ⟨gz, k, none⟩ = some (.int .u32 (w16 b k k)) := I.out.rz.at0 k (by omega)
    obtain ⟨p0, q0⟩ := HB.out (4 * k)
    obtain ⟨p1, q1⟩ := HB.out (4 * k + 1)
    obtain ⟨p2, q2⟩ := HB.out (4 * k + 2)
    obtain ⟨p3, q3⟩ := HB.out (4 * k + 3)
    have J := Lib.hid fun w2 h => I.out.set (w2 := w2) hne hz k (by omega) (wd b k) h
    have HW : Hid (wd b k = b (4 * k) * 16777216 + b (4 * k + 1) * 65536 + b (4 * k + 2) * 256 + b (4 * k + 3)) := rfl
    generalize b (4 * k) = b0 at *
    generalize b (4 * k + 1) = b1 at *
    generalize b (4 * k + 2) = b2 at *
    generalize b (4 * k + 3) = b3 at *
    clear I
    go_wp2_with fail
    go_region
    go_wp2_with fail
    have J' := J.out wr.drew ⟨1, rfl⟩
    rw [w16_succ, HW.out] at J'
    exact ⟨⟨k + 1, by omega, by go_num, J'⟩, by simp [intOf]; omega⟩
  · obtain rfl : k = 16 := by omega
    have I1 : Hid (WI W b g off gz (wrow b 0) wr) := I
    have e16 : ((16 : Nat) : Int) = 16 := rfl
    rw [e16]
    clear I e16
    go_wp2_with fail
    go_loopw [5] (fun i wr => ∃ k : Nat, k ≤ 48 ∧ i = .int .i64 (16 + (k : Int)) ∧ Hid (WI W b g off gz (wrow b k) wr)) (fun i _ => 64 - (intOf i).toNat)
    case atStart => exact ⟨0, by omega, rfl, I1⟩
    case round =>
     obtain ⟨k, hk, rfl, I⟩ := hrel
     clear I1
     by_cases hlt : k < 48
     · have tk : decide (16 + (k : Int) < 64) = true := by simp; omega
       have k0 : (0 : Int) ≤ (k : Int) := by omega
       have k1 : (k : Int) < 48 := by omega
       have c15 : wr.cell? ⟨gz, 16 + k - 15, none⟩ = some (.int .u32 (wrow b k (1 + k))) := by rw [show 16 + k - 15 = 1 + k by omega]; exact I.out.rz.at0 (1 + k) (by omega)
       have c2 : wr.cell? ⟨gz, 16 + k - 2, none⟩ = some (.int .u32 (wrow b k (14 + k))) := by rw [show 16 + k - 2 = 14 + k by omega]; exact I.out.rz.at0 (14 + k) (by omega)
       have c7 : wr.cell? ⟨gz, 16 + k - 7, none⟩ = some (.int .u32 (wrow b k (9 + k))) := by rw [show 16 + k - 7 = 9 + k by omega]; exact I.out.rz.at0 (9 + k) (by omega)
       have c16 : wr.cell? ⟨gz, 16 + k - 16, none⟩ = some (.int .u32 (wrow b k (k))) := by rw [show 16 + k - 16 = k by omega]; exact I.out.rz.at0 (k) (by omega)
       have c16b := I.out.rz.at0 k (by omega)
       have cz := I.out.rz.at0 (16 + k) (by omega)
       have f0 := I.out.fz (16 + k)
       obtain ⟨p15, q15⟩ := wrow_wd b HB.out k (1 + k)
       obtain ⟨p2, q2⟩ := wrow_wd b HB.out k (14 + k)
       have J : Hid (∀ w2, (∃ n, w2 = wr.drewN n) → WI W b g off gz (wrow b (k + 1)) (w2.setCell ⟨gz, 16 + k, none⟩ (.int .u32 (ad (ad (ad (s1 (wrow b k (14 + k))) (wrow b k (9 + k))) (s0 (wrow b k (1 + k)))) (wrow b k k))))) := fun w2 h => I.out.set (w2 := w2) hne hz (16 + k) (by omega) _ h
       generalize wrow b k (1 + k) = x at *
       generalize wrow b k (14 + k) = y at *
       generalize wrow b k (9 + k) = y7 at *
       generalize wrow b k k = y16 at *
       have rs0 : bits BinOp.xor IntKind.u32 (bits BinOp.xor IntKind.u32 (rot x 7) (rot x 18)) (x / 8) = s0 x := rfl
       have rs1 : bits BinOp.xor IntKind.u32 (bits BinOp.xor IntKind.u32 (rot y 17) (rot y 19)) (y / 1024) = s1 y := rfl
       generalize s0 x = z0 at *
       generalize s1 y = z1 at *
       clear I
       go_wp2_with (go_at_call 157; refine (r_any _ _ _ (by assumption) (by assumption) (by omega) (by omega)).mono ?_; rintro e w' ⟨rfl, nr, rfl⟩)
       have HV : Hid (ad (ad (ad z1 y7) z0) y16 = (z1 + y7 + z0 + y16) % 4294967296) := by show _ = _; unfold ad; simp only [IntKind.wrap_u32']; omega
       go_region
       go_wp2_with fail
       have J' := J.out
       rw [HV.out] at J'
       exact ⟨⟨k + 1, by omega, by go_num, J' _ ⟨_, rfl⟩⟩, by simp [intOf]; omega⟩
     · obtain rfl : k = 48 := by omega
       have HI := I
       clear I
       go_wp2_with fail
       go_ret
       exact ⟨gz, 64, rfl, by omega, by decide +kernel, HI.out.rz, HI.out.fz, hz, HI.out.lt, HI.out.q⟩
theorem cap_8 : ¬ 281474976710656 < Builtin.nextslicecap 8 0 * Tryz.t179.bytes := by decide +kernel
/-- The world behind 'append([]uint32{}, st...)'. -/
def WV (w1 : World) (st : Nat → Int) (C : Nat) : World := ((w1.alloc (.cells #[] 179)).alloc (.cells (#[.int .u32 (st 0), .int .u32 (st 1), .int .u32 (st 2), .int .u32 (st 3), .int .u32 (st 4), .int .u32 (st 5), .int .u32 (st 6), .int .u32 (st 7)] ++ Builtin.zeroCells #[.int .u32 0] C) 179)).drew
theorem WV_row (w : World) (f : Nat → Int) (C : Nat) : Row .u32 (WV w f C) (w.heap.size + 1) 0 8 f := by
 intro i hi
 show World.cell? ((w.alloc (.cells #[] 179)).alloc _) _ = _
 rw [World.cell?_alloc_at _ _ _ _ (by simp), Nat.zero_add, Array.getElem?_append_left (by simpa using hi)]
 match i, hi with
 | 0, _ => rfl
 | 1, _ => rfl
 | 2, _ => rfl
 | 3, _ => rfl
 | 4, _ => rfl
 | 5, _ => rfl
 | 6, _ => rfl
 | 7, _ => rfl
 | n + 8, h => omega
theorem WV_frozen (w : World) (f : Nat → Int) (C i : Nat) : (WV w f C).frozen? ⟨w.heap.size + 1, i, none⟩ = false := by
 show World.frozen? ((w.alloc (.cells #[] 179)).alloc _) _ = _
 rw [World.frozen?_alloc_at _ _ _ _ (by simp)]
theorem WV_q (w : World) (f : Nat → Int) (C : Nat) : Q w (WV w f C) := (((Q.refl w).alloc _).alloc _).drew
theorem WV_size (w : World) (f : Nat → Int) (C : Nat) : (WV w f C).heap.size = w.heap.size + 2 := by
 show ((w.alloc (.cells #[] 179)).alloc _).heap.size = _
 simp
/-- What holds while the state v is turned. -/
structure SI (W : World) (gs gk gw gv : Nat) (st kf wf v : Nat → Int) (wr : World) : Prop where
 rs : Row .u32 wr gs 0 8 st
 rk : Row .u32 wr gk 0 64 kf
 rw : Row .u32 wr gw 0 64 wf
 rv : Row .u32 wr gv 0 8 v
 fz : ∀ j, wr.frozen? ⟨gv, j, none⟩ = false
 lt : gv < wr.heap.size
 q : Q W wr
theorem SI.set {W : World} {gs gk gw gv : Nat} {st kf wf v : Nat → Int} {wr w2 : World} (h : SI W gs gk gw gv st kf wf v wr) (h1 : gs ≠ gv) (h2 : gk ≠ gv) (h3 : gw ≠ gv) (hz : W.heap.size ≤ gv) (x : Nat) (hx : x < 8) (u : Int) (hw : ∃ n, w2 = wr.drewN n) :
 SI W gs gk gw gv st kf wf (upd v x u) (w2.setCell ⟨gv, x, none⟩ (.int .u32 u)) := by
 obtain ⟨n, rfl⟩ := hw
 refine ⟨(h.rs.drewN n).other h1 _, (h.rk.drewN n).other h2 _, (h.rw.drewN n).other h3 _, (h.rv.drewN n).set x hx u, fun j => ?_, ?_, (h.q.drewN n).setCell hz _⟩
 · have := h.fz j
   simpa using this
 · have := h.lt
   simpa using this
theorem SI.congr {W : World} {gs gk gw gv : Nat} {st kf wf v v' : Nat → Int} {wr : World} (h : SI W gs gk gw gv st kf wf v wr) (e : ∀ i, i < 8 → v i = v' i) : SI W gs gk gw gv st kf wf v' wr :=
 ⟨h.rs, h.rk, h.rw, fun i hi => by rw [← e i hi]; exact h.rv i hi, h.fz, h.lt, h.q⟩
theorem SI.drewN {W : World} {gs gk gw gv : Nat} {st kf wf v : Nat → Int} {wr : World} (h : SI W gs gk gw gv st kf wf v wr) (n : Nat) : SI W gs gk gw gv st kf wf v (wr.drewN n) :=
 ⟨h.rs.drewN n, h.rk.drewN n, h.rw.drewN n, h.rv.drewN n, fun j => h.fz j, h.lt, h.q.drewN n⟩
/-- The state, moved by one from place m on. -/
def shf (V : Nat → Int) (m : Nat) : Nat → Int := fun j => if m < j then V (j - 1) else V j
theorem shf_step (V : Nat → Int) (m : Nat) (hm : 0 < m) (j : Nat) : upd (shf V m) m (V (m - 1)) j = shf V (m - 1) j := by
 unfold upd shf
 by_cases h : j = m
 · subst h; rw [if_pos rfl, if_pos (by omega)]
 · rw [if_neg h]
   by_cases h2 : m < j
   · rw [if_pos h2, if_pos (by omega)]
   · rw [if_neg h2, if_neg (by omega)]
theorem shf_end (k w : Nat → Int) (t : Nat) (V : Nat → Int) (j : Nat) : upd (upd (shf V 0) 4 (ad (V 3) (rp k w t V))) 0 (ad (rp k w t V) (rq V)) j = round k w t V j := by
 unfold upd shf round
 by_cases h0 : j = 0
 · rw [if_pos h0, if_pos h0]
 · rw [if_neg h0, if_neg h0]
   by_cases h4 : j = 4
   · rw [if_pos h4, if_pos h4]
   · rw [if_neg h4, if_neg h4, if_pos (by omega)]
def fin (V st : Nat → Int) (m : Nat) : Nat → Int := fun j => if j < m then ad (V j) (st j) else V j
theorem fin_step (V st : Nat → Int) (m j : Nat) : upd (fin V st m) m (ad (V m) (st m)) j = fin V st (m + 1) j := by
 unfold upd fin
 by_cases h : j = m
 · subst h; rw [if_pos rfl, if_pos (by omega)]
 · rw [if_neg h]
   by_cases h2 : j < m
   · rw [if_pos h2, if_pos (by omega)]
   · rw [if_neg h2, if_neg (by omega)]
set_option maxHeartbeats 4000000 in
theorem step_any {W : World} (gs cs gb off cb gk ck : Nat) (st b kf : Nat → Int) (w : World) (q : Q W w) (hs : Row .u32 w gs 0 8 st) (hb : Row .u8 w gb off 64 b) (hk : Row .u32 w gk 0 64 kf) (hB : Byts b)
 (wst : ∀ i, Wd (st i)) (wkf : ∀ i, Wd (kf i)) :
 Calls Tryz.prog 151 #[.slice (some ⟨gs, 0, none⟩) 8 cs, .slice (some ⟨gb, off, none⟩) 64 cb, .slice (some ⟨gk, 0, none⟩) 64 ck] w (OwnRow .u32 W (stepS kf st b) 8) := by
 have ls := hs.lt (by omega)
 have lb := hb.lt (by omega)
 have lk := hk.lt (by omega)
 have HS := Lib.hid hs
 have HK := Lib.hid hk
 have HWS := Lib.hid wst
 have HWK := Lib.hid wkf
 have hc := cap_8
 clear hs hk wst wkf
 go_enter Tryz.func151, Tryz.ntmps151
 go_wp2_with fail
 refine (words_any gb off cb b w (Q.refl w) hb hB lb).mono ?_
 rintro e w1 ⟨gw, cw, rfl, w1a, w1b, hrw, hfw, hgw, hlw, hq1⟩
 have hz1 := hq1.size
 have HS1 : Hid (Row .u32 w1 gs 0 8 st) := HS.out.q hq1 ls
 have HK1 : Hid (Row .u32 w1 gk 0 64 kf) := HK.out.q hq1 lk
 have HW1 := Lib.hid hrw
 have hlt1 : gs < w1.heap.size := by omega
 have d0 := HS1.out.at0 0 (by omega)
 have d1 := HS1.out.at0 1 (by omega)
 have d2 := HS1.out.at0 2 (by omega)
 have d3 := HS1.out.at0 3 (by omega)
 have d4 := HS1.out.at0 4 (by omega)
 have d5 := HS1.out.at0 5 (by omega)
 have d6 := HS1.out.at0 6 (by omega)
 have d7 := HS1.out.at0 7 (by omega)
 have HQ1 : Hid (Q W w1) := q.trans hq1
 have hWw := q.size
 clear hrw hfw HS HK hb hB q hq1
 go_wp2_with fail
 have hC1 : 8 ≤ (Question.appendCap 8 0 179).cut (w1.tape w1.drawn (Question.appendCap 8 0 179)) := grownCap_ge w1 8 0 179
 have hC2 : (Question.appendCap 8 0 179).cut (w1.tape w1.drawn (Question.appendCap 8 0 179)) ≤ maxLen := grownCap_le_maxLen w1 8 0 179 (by unfold maxLen; omega)
 generalize (Question.appendCap 8 0 179).cut (w1.tape w1.drawn (Question.appendCap 8 0 179)) = C at *
 have I0 : Hid (SI W gs gk gw (w1.heap.size + 1) st kf (wrow b 48) (rounds kf (wrow b 48) st 0) (WV w1 st (C - 8))) :=
  ⟨HS1.out.q (WV_q _ _ _) (by omega), HK1.out.q (WV_q _ _ _) (by omega), HW1.out.q (WV_q _ _ _) hlw, WV_row _ _ _, WV_frozen _ _ _, by rw [WV_size]; omega, HQ1.out.trans (WV_q _ _ _)⟩
 have eW : ((w1.alloc (Obj.cells #[] 179)).alloc (Obj.cells (#[Value.int IntKind.u32 (st 0), Value.int IntKind.u32 (st 1), Value.int IntKind.u32 (st 2), Value.int IntKind.u32 (st 3), Value.int IntKind.u32 (st 4), Value.int IntKind.u32 (st 5), Value.int IntKind.u32 (st 6), Value.int IntKind.u32 (st 7)] ++ Builtin.zeroCells #[Value.int IntKind.u32 0] (C - 8)) 179)).drew = WV w1 st (C - 8) := rfl
 rw [eW]
 have n1 : gs ≠ w1.heap.size + 1 := by omega
 have n2 : gk ≠ w1.heap.size + 1 := by omega
 have n3 : gw ≠ w1.heap.size + 1 := by omega
 have hz : W.heap.size ≤ w1.heap.size + 1 := by omega
 clear eW d0 d1 d2 d3 d4 d5 d6 d7 HS1 HK1 HW1 hc HQ1
 generalize WV w1 st (C - 8) = wv at *
 obtain ⟨gv, hgv⟩ : ∃ gv, w1.heap.size + 1 = gv := ⟨_, rfl⟩
 rw [hgv] at I0 n1 n2 n3 hz
 rw [hgv]
 clear hgv hWw hz1 hlw hlt1 ls lb lk hgw
 go_loopw [9] (fun i wr => ∃ t : Nat, t ≤ 64 ∧ i = .int .i64 t ∧ Hid (SI W gs gk gw gv st kf (wrow b 48) (rounds kf (wrow b 48) st t) wr)) (fun i _ => 64 - (intOf i).toNat)
 case atStart => exact ⟨0, by omega, rfl, I0⟩
 case round =>
  obtain ⟨t, ht, rfl, I⟩ := hrel
  clear I0
  by_cases hlt : t < 64
  · have t0 : (0 : Int) ≤ (t : Int) := by omega
    have t1 : (t : Int) < 64 := by omega
    have tt : decide ((t : Int) < 64) = true := by simp; omega
    have wV := rounds_wd kf (wrow b 48) st HWS.out t
    have HRV : Hid (rounds kf (wrow b 48) st (t + 1) = round kf (wrow b 48) t (rounds kf (wrow b 48) st t)) := rfl
    generalize rounds kf (wrow b 48) st t = V at *
    have e0 := I.out.rv.at0 0 (by omega)
    have e1 := I.out.rv.at0 1 (by omega)
    have e2 := I.out.rv.at0 2 (by omega)
    have e3 := I.out.rv.at0 3 (by omega)
    have e4 := I.out.rv.at0 4 (by omega)
    have e5 := I.out.rv.at0 5 (by omega)
    have e6 := I.out.rv.at0 6 (by omega)
    have e7 := I.out.rv.at0 7 (by omega)
    have ek := I.out.rk.at0 t hlt
    have ew := I.out.rw.at0 t hlt
    obtain ⟨a0, b0⟩ := wV 0
    obtain ⟨a4, b4⟩ := wV 4
    have HWV := Lib.hid wV
    clear wV
    have HP : Hid (rp kf (wrow b 48) t V = ad (ad (ad (ad (V 7) (S1 (V 4))) (ch (V 4) (V 5) (V 6))) (kf t)) (wrow b 48 t)) := rfl
    have HQ : Hid (rq V = ad (S0 (V 0)) (mj (V 0) (V 1) (V 2))) := rfl
    generalize V 0 = v0 at *
    generalize V 1 = v1 at *
    generalize V 2 = v2 at *
    generalize V 4 = v4 at *
    generalize V 5 = v5 at *
    generalize V 6 = v6 at *
    generalize V 7 = v7 at *
    generalize kf t = kt at *
    generalize wrow b 48 t = wt at *
    have r1 : bits BinOp.xor IntKind.u32 (bits BinOp.xor IntKind.u32 (rot v4 6) (rot v4 11)) (rot v4 25) = S1 v4 := rfl
    have r2 : bits BinOp.xor IntKind.u32 (bits BinOp.and IntKind.u32 v4 v5) (bits BinOp.and IntKind.u32 (4294967295 - v4) v6) = ch v4 v5 v6 := rfl
    generalize S1 v4 = z1 at *
    generalize ch v4 v5 v6 = zc at *
    have HP' : Hid (rp kf (wrow b 48) t V = ((v7 + z1 + zc + kt) % 4294967296 + wt) % 4294967296) := by
     show _ = _
     rw [HP.out]; unfold ad; simp only [IntKind.wrap_u32']; omega
    clear HP
    go_wp2_with fail
    go_quiet ((go_at_call 157; exact Calls.quiet_of (r_any _ _ _ a4 b4 (by omega) (by omega))))
    rename_i nq
    go_wp2_with fail
    have I2 := Lib.hid (I.out.drewN nq)
    have f0 : (wr.drewN nq).cell? ⟨gv, 0, none⟩ = some (.int .u32 v0) := e0
    have f1 : (wr.drewN nq).cell? ⟨gv, 1, none⟩ = some (.int .u32 v1) := e1
    have f2 : (wr.drewN nq).cell? ⟨gv, 2, none⟩ = some (.int .u32 v2) := e2
    have f3 : (wr.drewN nq).cell? ⟨gv, 3, none⟩ = some (.int .u32 (V 3)) := e3
    have p0 : 0 ≤ ((v7 + z1 + zc + kt) % 4294967296 + wt) % 4294967296 ∧ ((v7 + z1 + zc + kt) % 4294967296 + wt) % 4294967296 ≤ 4294967295 := by omega
    clear e0 e1 e2 e3 e4 e5 e6 e7 ek ew I r1 r2
    generalize wr.drewN nq = wr2 at *
    generalize ((v7 + z1 + zc + kt) % 4294967296 + wt) % 4294967296 = p at *
    have r3 : bits BinOp.xor IntKind.u32 (bits BinOp.xor IntKind.u32 (rot v0 2) (rot v0 13)) (rot v0 22) = S0 v0 := rfl
    have r4 : bits BinOp.xor IntKind.u32 (bits BinOp.xor IntKind.u32 (bits BinOp.and IntKind.u32 v0 v1) (bits BinOp.and IntKind.u32 v0 v2)) (bits BinOp.and IntKind.u32 v1 v2) = mj v0 v1 v2 := rfl
    generalize S0 v0 = z0 at *
    generalize mj v0 v1 v2 = zm at *
    have HQ' : Hid (rq V = (z0 + zm) % 4294967296) := by
     show _ = _
     rw [HQ.out]; unfold ad; simp only [IntKind.wrap_u32']
    clear HQ
    go_quiet ((go_at_call 157; exact Calls.quiet_of (r_any _ _ _ a0 b0 (by omega) (by omega))))
    go_wp2_with fail
    have I3 : Hid (SI W gs gk gw gv st kf (wrow b 48) (shf V 7) (wr2.drewN nq)) := (I2.out.drewN nq).congr fun j hj => by unfold shf; rw [if_neg (by omega)]
    have q0 : 0 ≤ (z0 + zm) % 4294967296 ∧ (z0 + zm) % 4294967296 ≤ 4294967295 := by omega
    clear f0 f1 f2 f3 r3 r4 I2
    generalize wr2.drewN nq = wr3 at *
    generalize (z0 + zm) % 4294967296 = qv at *
    go_loopw [12] (fun i wr => ∃ m : Nat, m ≤ 7 ∧ i = .int .i64 m ∧ Hid (SI W gs gk gw gv st kf (wrow b 48) (shf V m) wr)) (fun i _ => (intOf i).toNat)
    case atStart => exact ⟨7, by omega, rfl, I3⟩
    case round =>
     obtain ⟨m, hm, rfl, J⟩ := hrel
     clear I3
     by_cases hpos : 0 < m
     · have m0 : (0 : Int) < (m : Int) := by omega
       have m7 : (m : Int) ≤ 7 := by omega
       have c1 : wr.cell? ⟨gv, m - 1, none⟩ = some (.int .u32 (V (m - 1))) := by
        have := J.out.rv.at0 (m - 1) (by omega)
        unfold shf at this
        rwa [if_neg (by omega)] at this
       have c2 := J.out.rv.at0 m (by omega)
       have c3 := J.out.fz m
       have J2 : Hid (SI W gs gk gw gv st kf (wrow b 48) (shf V (m - 1)) (wr.setCell ⟨gv, m, none⟩ (.int .u32 (V (m - 1))))) := (J.out.set n1 n2 n3 hz m (by omega) _ ⟨0, rfl⟩).congr fun j _ => shf_step V m hpos j
       clear J
       generalize V (m - 1) = vm at *
       go_wp2_with fail
       exact ⟨⟨m - 1, by omega, by go_num, J2⟩, by simp [intOf]; omega⟩
     · obtain rfl : m = 0 := by omega
       have c4 : wr.cell? ⟨gv, 4, none⟩ = some (.int .u32 (V 3)) := J.out.rv.at0 4 (by omega)
       have c0 : wr.cell? ⟨gv, 0, none⟩ = some (.int .u32 (V 0)) := J.out.rv.at0 0 (by omega)
       have d4 := J.out.fz 4
       have d0 := J.out.fz 0
       have J2 := (J.out.set n1 n2 n3 hz 4 (by omega) (ad (V 3) (rp kf (wrow b 48) t V)) ⟨0, rfl⟩).set n1 n2 n3 hz 0 (by omega) (ad (rp kf (wrow b 48) t V) (rq V)) ⟨0, rfl⟩
       have J3 := J2.congr fun j _ => shf_end kf (wrow b 48) t V j
       rw [← HRV.out, HP'.out, HQ'.out] at J3
       have A1 : Hid (ad (V 3) p = (V 3 + p) % 4294967296) := by show _ = _; unfold ad; rw [IntKind.wrap_u32']
       have A2 : Hid (ad p qv = (p + qv) % 4294967296) := by show _ = _; unfold ad; rw [IntKind.wrap_u32']
       have H3 := Lib.hid J3
       clear J J2 J3
       generalize V 3 = v3 at *
       generalize V 0 = v00 at *
       go_wp2_with fail
       have H := H3.out
       rw [A1.out, A2.out] at H
       exact ⟨⟨t + 1, by omega, by go_num, H⟩, by simp [intOf]; omega⟩
  · obtain rfl : t = 64 := by omega
    have wV := Lib.hid (rounds_wd kf (wrow b 48) st HWS.out 64)
    have HF : Hid (stepS kf st b = fun i => ad (rounds kf (wrow b 48) st 64 i) (st i)) := rfl
    generalize rounds kf (wrow b 48) st 64 = V at *
    have I4 : Hid (SI W gs gk gw gv st kf (wrow b 48) (fin V st 0) wr) := I.out.congr fun j _ => by unfold fin; rw [if_neg (by omega)]
    have e64 : ((64 : Nat) : Int) = 64 := rfl
    rw [e64]
    clear I e64
    go_wp2_with fail
    go_loopw [13] (fun i wr => ∃ m : Nat, m ≤ 8 ∧ i = .int .i64 m ∧ Hid (SI W gs gk gw gv st kf (wrow b 48) (fin V st m) wr)) (fun i _ => 8 - (intOf i).toNat)
    case atStart => exact ⟨0, by omega, rfl, I4⟩
    case round =>
     obtain ⟨m, hm, rfl, J⟩ := hrel
     clear I4
     by_cases hlt' : m < 8
     · have m0 : (0 : Int) ≤ (m : Int) := by omega
       have m8 : (m : Int) < 8 := by omega
       have tm : decide ((m : Int) < 8) = true := by simp; omega
       have c1 : wr.cell? ⟨gv, m, none⟩ = some (.int .u32 (V m)) := by
        have := J.out.rv.at0 m hlt'
        unfold fin at this
        rwa [if_neg (by omega)] at this
       have c2 := J.out.rs.at0 m hlt'
       have c3 := J.out.fz m
       obtain ⟨b0, b1⟩ := wV.out m
       obtain ⟨b2, b3⟩ := HWS.out m
       have J2 : Hid (∀ w2, (∃ n, w2 = wr.drewN n) → SI W gs gk gw gv st kf (wrow b 48) (fin V st (m + 1)) (w2.setCell ⟨gv, m, none⟩ (.int .u32 (ad (V m) (st m))))) := fun w2 h => (J.out.set n1 n2 n3 hz m hlt' _ h).congr fun j _ => fin_step V st m j
       have A1 : Hid (ad (V m) (st m) = (V m + st m) % 4294967296) := by show _ = _; unfold ad; rw [IntKind.wrap_u32']
       clear J
       generalize V m = vm at *
       generalize st m = sm at *
       go_wp2_with fail
       go_region
       go_wp2_with fail
       have H := J2.out
       rw [A1.out] at H
       exact ⟨⟨m + 1, by omega, by go_num, H wr.drew ⟨1, rfl⟩⟩, by simp [intOf]; omega⟩
     · obtain rfl : m = 8 := by omega
       have R : Hid (Row .u32 wr gv 0 8 (stepS kf st b)) := by
        intro i hi
        rw [HF.out]
        have := J.out.rv i hi
        unfold fin at this
        rwa [if_pos hi] at this
       have HJ := J
       clear J HF
       go_wp2_with fail
       go_ret
       exact ⟨gv, C, rfl, hC1, hC2, R.out, HJ.out.fz, hz, HJ.out.lt, HJ.out.q⟩
def Kl : List Int := [1116352408, 1899447441, 3049323471, 3921009573, 961987163, 1508970993, 2453635748, 2870763221,
 3624381080, 310598401, 607225278, 1426881987, 1925078388, 2162078206, 2614888103, 3248222580,
 3835390401, 4022224774, 264347078, 604807628, 770255983, 1249150122, 1555081692, 1996064986,
 2554220882, 2821834349, 2952996808, 3210313671, 3336571891, 3584528711, 113926993, 338241895,
 666307205, 773529912, 1294757372, 1396182291, 1695183700, 1986661051, 2177026350, 2456956037,
 2730485921, 2820302411, 3259730800, 3345764771, 3516065817, 3600352804, 4094571909, 275423344,
 430227734, 506948616, 659060556, 883997877, 958139571, 1322822218, 1537002063, 1747873779,
 1955562222, 2024104815, 2227730452, 2361852424, 2428436474, 2756734187, 3204031479, 3329325298]
def K (i : Nat) : Int := Kl.getD i 0
def Il : List Int := [1779033703, 3144134277, 1013904242, 2773480762, 1359893119, 2600822924, 528734635, 1541459225]
def I0 (i : Nat) : Int := Il.getD i 0
theorem getD_wd (l : List Int) (h : ∀ x ∈ l, Wd x) (i : Nat) : Wd (l.getD i 0) := by
 rw [List.getD_eq_getElem?_getD]
 by_cases hi : i < l.length
 · rw [List.getElem?_eq_getElem hi]; exact h _ (List.getElem_mem hi)
 · rw [List.getElem?_eq_none (by omega)]; unfold Wd; simp
theorem K_wd (i : Nat) : Wd (K i) := getD_wd Kl (by unfold Wd; decide +kernel) i
theorem I0_wd (i : Nat) : Wd (I0 i) := getD_wd Il (by unfold Wd; decide +kernel) i
theorem row_list (k : IntKind) (w : World) (l : List Int) (t : TypeId) : Row k (w.alloc (.cells (l.map (Value.int k)).toArray t)) w.heap.size 0 l.length (fun i => l.getD i 0) := by
 intro i hi
 rw [World.cell?_alloc_at _ _ _ _ rfl, Nat.zero_add]
 simp [hi]
def kobj : Obj := .cells (Kl.map (Value.int .u32)).toArray 179
theorem keys_any {W : World} (w : World) (q : Q W w) : Calls Tryz.prog 150 #[] w (OwnRow .u32 W K 64) := by
 have R : Hid (Row .u32 (w.alloc kobj) w.heap.size 0 64 K) := row_list .u32 w Kl _
 have F : Hid (∀ i, (w.alloc kobj).frozen? ⟨w.heap.size, i, none⟩ = false) := made_frozen w _ _
 have hs := q.size
 have hq : Hid (Q W (w.alloc kobj)) := q.alloc _
 have hz : (w.alloc kobj).heap.size = w.heap.size + 1 := by simp
 go_enter Tryz.func150, Tryz.ntmps150
 go_wp2
 go_ret
 exact ⟨w.heap.size, 64, rfl, by omega, by decide +kernel, R.out, F.out, hs, show w.heap.size < (w.alloc kobj).heap.size by omega, hq.out⟩
def vals (k : IntKind) (l : List Int) : List Value := l.map (Value.int k)
theorem vals_append (k : IntKind) (l m : List Int) : vals k l ++ vals k m = vals k (l ++ m) := by unfold vals; rw [List.map_append]
/-- A row of one's own, told as numbers. -/
theorem own_row {k : IntKind} {w : World} {base : Nat} {t : TypeId} {v : Value} {n : Nat} {l : List Int} (h : w.ownsRow base t 1 v (n + 1) (vals k l)) :
 ∃ g cap, v = .slice (some ⟨g, 0, none⟩) (n + 1) cap ∧ n + 1 ≤ cap ∧ cap ≤ maxLen ∧ Row k w g 0 (n + 1) (fun j => l.getD j 0) ∧ (∀ i, w.frozen? ⟨g, i, none⟩ = false) ∧ base ≤ g ∧ g < w.heap.size := by
 obtain ⟨g, cap, rfl⟩ := ownsRow_succ h
 have hl := h.lt g rfl
 obtain ⟨c1, c2⟩ : n + 1 ≤ cap ∧ cap ≤ maxLen := by
  obtain ⟨_, h | ⟨g', cap', cur, h, _, _, h4, h5, _⟩⟩ := h
  · simp at h
  · simp only [Value.slice.injEq] at h
    obtain ⟨_, _, rfl⟩ := h
    exact ⟨h4, h5⟩
 have hlen : l.length = n + 1 := by have := h.1; unfold vals at this; simpa using this
 refine ⟨g, cap, rfl, c1, c2, fun j hj => ?_, fun i => h.frozenAt i, hl.1, hl.2⟩
 rw [Nat.zero_add, h.cellAt j (by omega)]
 unfold vals
 show _ = some (Value.int k (l.getD j 0))
 rw [List.getElem?_map, List.getD_eq_getElem?_getD, List.getElem?_eq_getElem (show j < l.length by omega)]
 rfl
def sb (s : ByteArray) : List Int := s.data.toList.map fun b => (b.toNat : Int)
theorem sb_len (s : ByteArray) : (sb s).length = s.size := by unfold sb; rw [List.length_map, Array.length_toList]; rfl
theorem sb_cells (s : ByteArray) : Lib.strCells s = vals .u8 (sb s) := by unfold Lib.strCells vals sb; rw [List.map_map]; rfl
def dv (n : Int) : Nat → Int
 | 0 => n
 | j + 1 => dv n j / 256
theorem dv_bd (n : Int) (h : 0 ≤ n) : ∀ j, 0 ≤ dv n j ∧ dv n j ≤ n
 | 0 => ⟨h, Int.le_refl _⟩
 | j + 1 => by have := dv_bd n h j; show 0 ≤ dv n j / 256 ∧ dv n j / 256 ≤ _; omega
def zn (n : Nat) : Nat := (119 - n % 64) % 64
def tl (n : Int) : Nat → List Int
 | 0 => []
 | m + 1 => tl n m ++ [dv n (7 - m) % 256]
theorem tl_len (n : Int) : ∀ m, (tl n m).length = m
 | 0 => rfl
 | m + 1 => by show (tl n m ++ _).length = _; rw [List.length_append, tl_len n m]; rfl
def pad0 (s : ByteArray) (z : Nat) : List Int := sb s ++ ([128] ++ List.replicate z 0)
theorem pad0_succ (s : ByteArray) (z : Nat) : pad0 s z ++ [0] = pad0 s (z + 1) := by
 unfold pad0
 rw [List.append_assoc, List.append_assoc, List.replicate_succ']
def padL (s : ByteArray) : List Int := pad0 s (zn s.size) ++ tl (8 * (s.size : Int)) 8
theorem padL_len (s : ByteArray) : (padL s).length = s.size + 1 + zn s.size + 8 := by
 unfold padL pad0
 rw [List.length_append, tl_len, List.length_append, sb_len, List.length_append, List.length_replicate]
 simp; omega
theorem infoB : (Tryz.prog.info? 5).map (fun i => (i.zero, i.size, i.bytes)) = some (some (.int .u8 0), 1, 1) := by kernel_rfl
def slen : Value → Nat
 | .slice _ n _ => n
 | _ => 0
set_option maxHeartbeats 4000000 in
theorem padded_any {W : World} (s : ByteArray) (w : World) (q : Q W w) (hs : s.size ≤ 1000000000) :
 Calls Tryz.prog 149 #[.string s] w (OwnRow .u8 W (fun j => (padL s).getD j 0) (padL s).length) := by
 obtain ⟨i0, hi0, hz0, hz1, hz2⟩ := info_parts infoB
 have o0 : (w.alloc (.cells #[] 5)).ownsRow W.heap.size 5 1 (.slice (some ⟨w.heap.size, 0, none⟩) 0 0) 0 [] := World.ownsRow_lit w #[] 0 q.size (by decide +kernel) rfl
 have q0 : Q W (w.alloc (.cells #[] 5)) := q.alloc _
 have hsz := q.size
 have HC := Lib.hid (sb_cells s)
 have hmx : s.size + 100 ≤ maxLen := by unfold maxLen; omega
 go_enter Tryz.func149, Tryz.ntmps149
 go_wp2_with (first
  | (at_builtin; (refine Lib.wpList_append_own_string _ rfl (.tmp 8) (.tmp 9) 121 9 rfl W.heap.size 5 i0 Tryz.underlying121 Tryz.underlying9 hi0 hz0 hz1 hz2 (.slice (some ⟨w.heap.size, 0, none⟩) 0 0) 0 [] rfl o0 s rfl (by omega) (by omega) (by simp; omega) ?_); intro v1 w1 hown1 hgrow1 _hn1; simp only [Nat.zero_add, List.nil_append] at hown1; rw [HC.out] at hown1; have hq1 : Q W w1 := Below.grown q0 hgrow1 q0.size (fun j hj => (o0.lt j hj).1); have hsz1 := hq1.size; clear hgrow1 _hn1 o0 q0)
  | (at_builtin; (refine wpList_append_own _ rfl (.tmp 11) (.tmp 12) 121 rfl W.heap.size 5 i0 (.int .u8 0) 1 1 Tryz.underlying121 hi0 hz0 hz1 hz2 rfl (by decide) _ _ _ rfl (hown1.alloc _) ⟨w1.heap.size, 0, none⟩ 1 1 [.int .u8 128] rfl rfl (cell_one_new _ _ _) (fun x hx => by simp at hx; subst hx; rfl) (by omega) (by omega) (by simp; omega) ?_); intro v2 w2 hown2 hgrow2 _hn))
 have hqa : Q W (w1.alloc (.cells #[.int .u8 128] 5)) := hq1.alloc _
 have hq2 : Q W w2 := Below.grown hqa hgrow2 hqa.size (fun j hj => (hown1.lt j hj).1)
 have hown3 : w2.ownsRow W.heap.size 5 1 v2 (s.size + 1) (vals .u8 (pad0 s 0)) := by
  rw [show [Value.int IntKind.u8 128] = vals .u8 [128] from rfl, vals_append] at hown2
  exact hown2
 obtain ⟨g2, cap2, rfl⟩ := ownsRow_succ hown3
 clear hgrow2 _hn hown2 hown1 hqa hq1 hsz1 q hsz HC
 go_loopw [3] (fun v wr => ∃ (z N g cap : Nat), z ≤ zn s.size ∧ Hid (N = s.size + z + 1) ∧ v = .slice (some ⟨g, 0, none⟩) N cap ∧ wr.ownsRow W.heap.size 5 1 v N (vals .u8 (pad0 s z)) ∧ Q W wr) (fun v _ => s.size + 1 + zn s.size - slen v)
 case atStart => exact ⟨0, s.size + 1, g2, cap2, by omega, rfl, rfl, hown3, hq2⟩
 case round =>
  obtain ⟨z, N, g, cap, hz, HN, rfl, hown, hq⟩ := hrel
  clear hown3 hq2
  have hsz := hq.size
  have hN1 : N ≤ s.size + 64 := by have := HN.out; unfold zn at hz; omega
  by_cases hlt : z < zn s.size
  · have td : ((N : Int) % 64 != 56) = true := by have := HN.out; unfold zn at hlt; simp; omega
    have HP := Lib.hid (pad0_succ s z)
    go_wp2_with (at_builtin; (refine wpList_append_own _ rfl (.tmp 18) (.tmp 19) 121 rfl W.heap.size 5 i0 (.int .u8 0) 1 1 Tryz.underlying121 hi0 hz0 hz1 hz2 rfl (by decide) _ _ _ rfl (hown.alloc _) ⟨wr.heap.size, 0, none⟩ 1 1 [.int .u8 0] rfl rfl (cell_one_new _ _ _) (fun x hx => by simp at hx; subst hx; rfl) (by omega) (by omega) (by simp; omega) ?_); intro v' w3 hown3 hgrow3 _hn)
    have hqa : Q W (wr.alloc (.cells #[.int .u8 0] 5)) := hq.alloc _
    have hq3 : Q W w3 := Below.grown hqa hgrow3 hqa.size (fun j hj => (hown.lt j hj).1)
    rw [show [Value.int IntKind.u8 0] = vals .u8 [0] from rfl, vals_append, HP.out] at hown3
    obtain ⟨g3, cap3, rfl⟩ := ownsRow_succ hown3
    clear hgrow3 _hn
    exact ⟨⟨z + 1, N + 1, g3, cap3, by omega, by have := HN.out; show _ = _; omega, rfl, hown3, hq3⟩, by have := HN.out; show s.size + 1 + zn s.size - (N + 1) < s.size + 1 + zn s.size - N; omega⟩
  · obtain rfl : z = zn s.size := by omega
    have td : ((N : Int) % 64 != 56) = false := by have := HN.out; unfold zn at this; simp; omega
    have HF : Hid (padL s = pad0 s (zn s.size) ++ tl (8 * (s.size : Int)) 8) := rfl
    have HLen : Hid ((padL s).length = N + 8) := by have := HN.out; have := padL_len s; show _ = _; omega
    obtain ⟨L, hLe⟩ : ∃ L, 8 * (s.size : Int) = L := ⟨_, rfl⟩
    have hL0 : 0 ≤ L := by omega
    have hL1 : L ≤ 8000000000 := by omega
    rw [hLe] at HF
    generalize pad0 s (zn s.size) = PZ at *
    have h0 : wr.ownsRow W.heap.size 5 1 (.slice (some ⟨g, 0, none⟩) N cap) N (vals .u8 (PZ ++ tl L 0)) := by rw [show PZ ++ tl L 0 = PZ by simp [tl]]; exact hown
    clear hown hlt hz HN
    go_wp2_with fail
    clear hLe
    go_loopw [3, 5] (fun v i wr => ∃ (m M g cap : Nat), m ≤ 8 ∧ i = .int .i64 (7 - (m : Int)) ∧ Hid (M = N + m) ∧ v = .slice (some ⟨g, 0, none⟩) M cap ∧ wr.ownsRow W.heap.size 5 1 v M (vals .u8 (PZ ++ tl L m)) ∧ Q W wr) (fun _ i _ => (intOf i + 1).toNat)
    case atStart => exact ⟨0, N, g, cap, by omega, rfl, rfl, rfl, h0, hq⟩
    case round =>
     obtain ⟨m, M, g', cap', hm, rfl, HM, rfl, hown, hq'⟩ := hrel
     clear h0
     have hsz' := hq'.size
     have hM1 : M ≤ s.size + 72 := by have := HM.out; omega
     by_cases hlt : m < 8
     · obtain ⟨i, hi, hi7⟩ : ∃ i : Nat, 7 - (m : Int) = (i : Int) ∧ i = 7 - m := ⟨7 - m, by omega, rfl⟩
       have HI := Lib.hid hi7
       have hi8 : i ≤ 7 := by omega
       rw [hi]
       clear hi hi7
       go_wp2_with fail
       go_loop [6, 7] (fun n k => ∃ t : Nat, t ≤ i ∧ k = .int .i64 t ∧ n = .int .i64 (dv L t)) (fun _ k => i - (intOf k).toNat)
       case atStart => exact ⟨0, by omega, rfl, rfl⟩
       case round =>
        obtain ⟨t, ht, rfl, rfl⟩ := hrel
        obtain ⟨y0, y1⟩ := dv_bd L hL0 t
        by_cases hlt' : t < i
        · have hti : (t : Int) < (i : Int) := by omega
          have HH : Hid (dv L t / 256 = dv L (t + 1)) := rfl
          generalize dv L t = y at *
          go_wp2_with fail
          go_round
          case rel => exact ⟨t + 1, by omega, by go_num, by rw [HH.out]⟩
          case measure => simp [intOf]; omega
        · obtain rfl : t = i := by omega
          have HT : Hid (tl L m ++ [dv L t % 256] = tl L (m + 1)) := by rw [HI.out]; rfl
          have d0 : 0 ≤ dv L t % 256 := by omega
          have d1 : dv L t % 256 ≤ 255 := by omega
          generalize dv L t = y at *
          go_wp2_with (at_builtin; (refine wpList_append_own _ rfl (.tmp 36) (.tmp 40) 121 rfl W.heap.size 5 i0 (.int .u8 0) 1 1 Tryz.underlying121 hi0 hz0 hz1 hz2 rfl (by decide) _ _ _ rfl (hown.alloc _) ⟨wr.heap.size, 0, none⟩ 1 1 [.int .u8 (y % 256)] rfl rfl (cell_one_new _ _ _) (fun x hx => by simp at hx; subst hx; rfl) (by omega) (by omega) (by simp; omega) ?_); intro v' w3 hown3 hgrow3 _hn)
          have hqa : Q W (wr.alloc (.cells #[.int .u8 (y % 256)] 5)) := hq'.alloc _
          have hq3 : Q W w3 := Below.grown hqa hgrow3 hqa.size (fun j hj => (hown.lt j hj).1)
          rw [show [Value.int IntKind.u8 (y % 256)] = vals .u8 [y % 256] from rfl, vals_append, List.append_assoc, HT.out] at hown3
          obtain ⟨g3, cap3, rfl⟩ := ownsRow_succ hown3
          clear hgrow3 _hn
          have HI' := HI.out
          exact ⟨⟨m + 1, M + 1, g3, cap3, by omega, congrArg (Value.int .i64) (by omega), by have := HM.out; show _ = _; omega, rfl, hown3, hq3⟩, by simp [intOf]⟩
     · obtain rfl : m = 8 := by omega
       have em : 7 - ((8 : Nat) : Int) = -1 := rfl
       rw [em]
       clear em
       have eM : Hid (M = N + 8) := HM
       rw [← HF.out] at hown
       have hown' : wr.ownsRow W.heap.size 5 1 (.slice (some ⟨g', 0, none⟩) M cap') (N + 7 + 1) (vals .u8 (padL s)) := by rw [show N + 7 + 1 = M by have := eM.out; omega]; exact hown
       obtain ⟨g4, cap4, e4, r1, r2, r3, r4, r5, r6⟩ := own_row hown'
       have E4 := Lib.hid e4
       have R := Lib.hid (And.intro r1 (And.intro r2 (And.intro r3 (And.intro r4 (And.intro r5 r6)))))
       clear e4 r1 r2 r3 r4 r5 r6 hown hown' HM
       go_wp2_with fail
       go_ret
       obtain ⟨r1, r2, r3, r4, r5, r6⟩ := R.out
       have hl := HLen.out
       refine ⟨g4, cap4, ?_, ?_, r2, ?_, r4, r5, r6, hq'⟩
       · rw [hl]; exact congrArg Ending.returned E4.out
       · rw [hl]; exact r1
       · rw [hl]; exact r3
def pb (s : ByteArray) (j : Nat) : Int := (padL s).getD j 0
def blk (s : ByteArray) : Nat → Nat → Int
 | 0 => I0
 | m + 1 => stepS K (blk s m) (fun j => pb s (64 * m + j))
theorem blk_wd (s : ByteArray) : ∀ m i, Wd (blk s m i)
 | 0 => I0_wd
 | m + 1 => stepS_wd _ _ _
def shaSt (s : ByteArray) : Nat → Int := blk s ((padL s).length / 64)
def ob (st : Nat → Int) : Nat → List Int
 | 0 => []
 | m + 1 => ob st m ++ [st m / 16777216, st m / 65536 % 256, st m / 256 % 256, st m % 256]
theorem ob_len (st : Nat → Int) : ∀ m, (ob st m).length = 4 * m
 | 0 => rfl
 | m + 1 => by show (ob st m ++ _).length = _; rw [List.length_append, ob_len st m]; simp; omega
/-- The sum of any bytes: 32 bytes. -/
def shaS (s : ByteArray) : ByteArray := strOfNums (ob (shaSt s) 8)
theorem shaS_size (s : ByteArray) : (shaS s).size = 32 := by unfold shaS; rw [strOfNums_size, ob_len]
theorem pad_mult (s : ByteArray) : (padL s).length = 64 * ((padL s).length / 64) := by
 rw [padL_len]; unfold zn; omega
theorem byts_dv (n : Int) (m : Nat) : ∀ x ∈ tl n m, 0 ≤ x ∧ x ≤ 255 := by
 induction m with
 | zero => intro x hx; simp [tl] at hx
 | succ m ih =>
  intro x hx
  simp only [tl, List.mem_append, List.mem_singleton] at hx
  rcases hx with h | rfl
  · exact ih x h
  · omega
theorem padL_byts (s : ByteArray) : ∀ x ∈ padL s, 0 ≤ x ∧ x ≤ 255 := by
 intro x hx
 unfold padL pad0 sb at hx
 simp only [List.mem_append, List.mem_map, List.mem_cons, List.not_mem_nil, or_false, List.mem_replicate] at hx
 rcases hx with (⟨b, _, rfl⟩ | rfl | ⟨_, rfl⟩) | h
 · have := b.toNat_lt; omega
 · omega
 · omega
 · exact byts_dv _ _ x h
theorem pb_byts (s : ByteArray) : Byts (pb s) := by
 intro j
 unfold pb
 rw [List.getD_eq_getElem?_getD]
 by_cases h : j < (padL s).length
 · rw [List.getElem?_eq_getElem h]; exact padL_byts s _ (List.getElem_mem h)
 · rw [List.getElem?_eq_none (by omega)]; simp
def iobj : Obj := .cells (Il.map (Value.int .u32)).toArray 179
theorem row_sub {k : IntKind} {w : World} {g n : Nat} {f : Nat → Int} (h : Row k w g 0 n f) (a l : Nat) (hl : a + l ≤ n) : Row k w g a l (fun j => f (a + j)) :=
 fun j hj => by have := h (a + j) (by omega); rwa [Nat.zero_add] at this
set_option maxHeartbeats 4000000 in
theorem rsum_any {W : World} (s : ByteArray) (w : World) (q : Q W w) (hs : s.size ≤ 1000000000) :
 Calls Tryz.prog 134 #[.string s] w fun e w' => e = .returned (.string (shaS s)) ∧ Q W w' := by
 obtain ⟨i0, hi0, hz0, hz1, hz2⟩ := info_parts infoB
 have ri : Hid (Row .u32 (w.alloc iobj) w.heap.size 0 8 I0) := row_list .u32 w Il _
 have q0 : Hid (Q W (w.alloc iobj)) := q.alloc _
 have hsi : (w.alloc iobj).heap.size = w.heap.size + 1 := by simp
 have HPL := Lib.hid (padL_len s)
 have HPM := Lib.hid (pad_mult s)
 have hzn : zn s.size ≤ 63 := by unfold zn; omega
 go_enter Tryz.func134, Tryz.ntmps134
 go_wp2_with fail
 refine (padded_any (W := w.alloc iobj) s (w.alloc iobj) (Q.refl _) hs).mono ?_
 rintro e w1 ⟨gb, cb, rfl, b1, b2, rb, _, b3, b4, qb⟩
 go_wp2_with fail
 refine (keys_any (W := w1) w1 (Q.refl _)).mono ?_
 rintro e w2 ⟨gk, ck, rfl, k1, k2, rk, _, k3, k4, qk⟩
 have RB : Hid (Row .u8 w2 gb 0 (padL s).length (pb s)) := rb.q qk b4
 have RK := Lib.hid rk
 have RI : Hid (Row .u32 w2 w.heap.size 0 8 (blk s 0)) := ri.out.q (qb.trans qk) (by omega)
 have hq2 : Q W w2 := (q0.out.trans qb).trans qk
 have HSt : Hid (shaSt s = blk s ((padL s).length / 64)) := rfl
 clear rb rk qb qk q0 ri q hsi
 have hpl := HPL.out
 have hpm := HPM.out
 obtain ⟨nb, hnb⟩ : ∃ nb, (padL s).length / 64 = nb := ⟨_, rfl⟩
 rw [hnb] at hpm HSt
 have HNB := Lib.hid hpm
 have hln : (padL s).length ≤ 1000000080 := by omega
 generalize (padL s).length = LEN at *
 have hLEN : LEN ≤ 64 * nb := by omega
 have hLEN' : 64 * nb ≤ LEN := by omega
 clear hpl hpm hnb HPL HPM
 unfold maxLen at b2
 go_wp2_with fail
 generalize w.heap.size = gi at *
 go_loopw [3, 6] (fun v i wr => ∃ (m g cap : Nat), m ≤ nb ∧ i = .int .i64 (64 * (m : Int)) ∧ v = .slice (some ⟨g, 0, none⟩) 8 cap ∧ Hid (Row .u32 wr g 0 8 (blk s m)) ∧ Hid (Row .u8 wr gb 0 LEN (pb s)) ∧ Hid (Row .u32 wr gk 0 64 K) ∧ Q W wr) (fun _ i _ => 64 * nb - (intOf i).toNat)
 case atStart => exact ⟨0, gi, 8, by omega, rfl, rfl, RI, RB, RK, hq2⟩
 case round =>
  obtain ⟨m, g, cap, hm, rfl, rfl, RV, RB', RK', hq⟩ := hrel
  clear RI RB RK hq2
  by_cases hlt : m < nb
  · have m0 : (0 : Int) ≤ (m : Int) := by omega
    have m1 : 64 * (m : Int) + 64 ≤ (LEN : Int) := by omega
    have lb := RB'.out.lt (by omega)
    have lk := RK'.out.lt (by omega)
    have HB1 : Hid (blk s (m + 1) = stepS K (blk s m) (fun j => pb s (64 * m + j))) := rfl
    have RS := Lib.hid (row_sub RB'.out (64 * m) 64 (by omega))
    have BS : Hid (Byts (fun j => pb s (64 * m + j))) := fun j => pb_byts s (64 * m + j)
    have td : decide (64 * (m : Int) < (LEN : Int)) = true := by simp; omega
    go_wp2_with fail
    refine (step_any (W := wr) g cap gb (64 * m) (cb - 64 * m) gk ck (blk s m) (fun j => pb s (64 * m + j)) K wr (Q.refl _) RV.out RS.out RK'.out BS.out (blk_wd s m) K_wd).mono ?_
    rintro e w3 ⟨g3, c3, rfl, x1, x2, r3, _, x3, x4, q3⟩
    have R3 : Hid (Row .u32 w3 g3 0 8 (blk s (m + 1))) := by rw [HB1.out]; exact r3
    have RB3 : Hid (Row .u8 w3 gb 0 LEN (pb s)) := RB'.out.q q3 lb
    have RK3 : Hid (Row .u32 w3 gk 0 64 K) := RK'.out.q q3 lk
    have hq3 := hq.trans q3
    clear r3 RS BS HB1
    go_wp2_with fail
    exact ⟨⟨m + 1, g3, c3, by omega, congrArg (Value.int .i64) (by omega), rfl, R3, RB3, RK3, hq3⟩, by simp [intOf]; omega⟩
  · obtain rfl : m = nb := by omega
    have td : decide (64 * (m : Int) < (LEN : Int)) = false := by simp; omega
    have RV' : Hid (Row .u32 wr g 0 8 (shaSt s)) := by rw [HSt.out]; exact RV.out
    have WV' : Hid (∀ i, Wd (shaSt s i)) := by rw [HSt.out]; exact blk_wd s m
    have HSS : Hid (shaS s = strOfNums (ob (shaSt s) 8)) := rfl
    clear RV HSt HNB RB' RK'
    generalize shaSt s = st at *
    obtain ⟨w5, rfl⟩ : ∃ w5, w5 = wr := ⟨_, rfl⟩
    have o0 : (w5.alloc (.cells #[] 5)).ownsRow w5.heap.size 5 1 (.slice (some ⟨w5.heap.size, 0, none⟩) 0 0) 0 (vals .u8 (ob st 0)) := World.ownsRow_lit w5 #[] 0 (Nat.le_refl _) (by decide +kernel) rfl
    have hg5 := RV'.out.lt (by omega)
    have q50 : Q w5 (w5.alloc (.cells #[] 5)) := (Q.refl w5).alloc _
    go_wp2_with fail
    go_loopw [7, 8] (fun v i wr => ∃ k : Nat, k ≤ 8 ∧ i = .int .i64 k ∧ wr.ownsRow w5.heap.size 5 1 v (4 * k) (vals .u8 (ob st k)) ∧ Q w5 wr) (fun _ i _ => 8 - (intOf i).toNat)
    case atStart => exact ⟨0, by omega, rfl, o0, q50⟩
    case round =>
     obtain ⟨i, hi, rfl, hown0, hq0⟩ := hrel
     clear o0 q50
     have hszr := hq0.size
     by_cases hlt' : i < 8
     · have i0' : (0 : Int) ≤ (i : Int) := by omega
       have i8 : (i : Int) < 8 := by omega
       have ti : decide ((i : Int) < 8) = true := by simp; omega
       have cx5 := RV'.out.at0 i hlt'
       have cxr : wr.cell? ⟨g, i, none⟩ = some (.int .u32 (st i)) := by rw [hq0.cell (p := ⟨g, i, none⟩) hg5]; exact cx5
       obtain ⟨s0', s1'⟩ := WV'.out i
       have HO : Hid (ob st (i + 1) = ob st i ++ [st i / 16777216, st i / 65536 % 256, st i / 256 % 256, st i % 256]) := rfl
       generalize st i = x at *
       go_wp2_with (first
        | (at_builtin; (refine wpList_append_own _ rfl (.tmp 32) (.tmp 39) 121 rfl w5.heap.size 5 i0 (.int .u8 0) 1 1 Tryz.underlying121 hi0 hz0 hz1 hz2 rfl (by decide) _ _ _ rfl (hown0.alloc _) ⟨wr.heap.size, 0, none⟩ 1 1 [.int .u8 (x / 16777216)] rfl rfl (cell_one_new _ _ _) (fun x hx => by simp at hx; subst hx; rfl) (by unfold maxLen; omega) (by omega) (by simp; omega) ?_); intro va wa howna hga _hn; rw [show [Value.int IntKind.u8 (x / 16777216)] = vals .u8 [(x / 16777216)] from rfl, vals_append] at howna; have hqa := hq0.alloc (.cells #[.int .u8 (x / 16777216)] 5); have hqA : Q w5 wa := Below.grown hqa hga hqa.size (fun j hj => (hown0.lt j hj).1); have hszwa := hqA.size; have cwa : wa.cell? ⟨g, i, none⟩ = some (.int .u32 x) := by rw [hqA.cell (p := ⟨g, i, none⟩) hg5]; exact cx5)
        | (at_builtin; (refine wpList_append_own _ rfl (.tmp 41) (.tmp 49) 121 rfl w5.heap.size 5 i0 (.int .u8 0) 1 1 Tryz.underlying121 hi0 hz0 hz1 hz2 rfl (by decide) _ _ _ rfl (howna.alloc _) ⟨wa.heap.size, 0, none⟩ 1 1 [.int .u8 (x / 65536 % 256)] rfl rfl (cell_one_new _ _ _) (fun x hx => by simp at hx; subst hx; rfl) (by unfold maxLen; omega) (by omega) (by simp; omega) ?_); intro vb wb hownb hgb _hn; rw [show [Value.int IntKind.u8 (x / 65536 % 256)] = vals .u8 [(x / 65536 % 256)] from rfl, vals_append] at hownb; have hqa := hqA.alloc (.cells #[.int .u8 (x / 65536 % 256)] 5); have hqB : Q w5 wb := Below.grown hqa hgb hqa.size (fun j hj => (howna.lt j hj).1); have hszwb := hqB.size; have cwb : wb.cell? ⟨g, i, none⟩ = some (.int .u32 x) := by rw [hqB.cell (p := ⟨g, i, none⟩) hg5]; exact cx5)
        | (at_builtin; (refine wpList_append_own _ rfl (.tmp 51) (.tmp 59) 121 rfl w5.heap.size 5 i0 (.int .u8 0) 1 1 Tryz.underlying121 hi0 hz0 hz1 hz2 rfl (by decide) _ _ _ rfl (hownb.alloc _) ⟨wb.heap.size, 0, none⟩ 1 1 [.int .u8 (x / 256 % 256)] rfl rfl (cell_one_new _ _ _) (fun x hx => by simp at hx; subst hx; rfl) (by unfold maxLen; omega) (by omega) (by simp; omega) ?_); intro vc wc hownc hgc _hn; rw [show [Value.int IntKind.u8 (x / 256 % 256)] = vals .u8 [(x / 256 % 256)] from rfl, vals_append] at hownc; have hqa := hqB.alloc (.cells #[.int .u8 (x / 256 % 256)] 5); have hqC : Q w5 wc := Below.grown hqa hgc hqa.size (fun j hj => (hownb.lt j hj).1); have hszwc := hqC.size; have cwc : wc.cell? ⟨g, i, none⟩ = some (.int .u32 x) := by rw [hqC.cell (p := ⟨g, i, none⟩) hg5]; exact cx5)
        | (at_builtin; (refine wpList_append_own _ rfl (.tmp 61) (.tmp 68) 121 rfl w5.heap.size 5 i0 (.int .u8 0) 1 1 Tryz.underlying121 hi0 hz0 hz1 hz2 rfl (by decide) _ _ _ rfl (hownc.alloc _) ⟨wc.heap.size, 0, none⟩ 1 1 [.int .u8 (x % 256)] rfl rfl (cell_one_new _ _ _) (fun x hx => by simp at hx; subst hx; rfl) (by unfold maxLen; omega) (by omega) (by simp; omega) ?_); intro vd wd hownd hgd _hn; rw [show [Value.int IntKind.u8 (x % 256)] = vals .u8 [(x % 256)] from rfl, vals_append] at hownd; have hqa := hqC.alloc (.cells #[.int .u8 (x % 256)] 5); have hqD : Q w5 wd := Below.grown hqa hgd hqa.size (fun j hj => (hownc.lt j hj).1); have hszwd := hqD.size; have cwd : wd.cell? ⟨g, i, none⟩ = some (.int .u32 x) := by rw [hqD.cell (p := ⟨g, i, none⟩) hg5]; exact cx5))
       simp only [List.append_assoc, List.cons_append, List.nil_append] at hownd
       rw [← HO.out] at hownd
       exact ⟨⟨i + 1, by omega, by go_num, by rw [show 4 * (i + 1) = 4 * i + 1 + 1 + 1 + 1 by omega]; exact hownd, hqD⟩, by simp [intOf]; omega⟩
     · obtain rfl : i = 8 := by omega
       obtain ⟨g2, cap2, e2, r1, r2, r3, r4, r5, r6⟩ := own_row (show wr.ownsRow w5.heap.size 5 1 _ (31 + 1) (vals .u8 (ob st 8)) from hown0)
       subst e2
       have hcv := run_convert_bytes_arg (P := Tryz.prog) wr 121 5 Tryz.underlying121 Tryz.underlying5 g2 0 32 cap2 (ob st 8) (ob_len st 8) (fun j hj => r3 j hj) 9 Tryz.underlying9
       clear r1 r2 r3 r4 r5 r6 hown0 WV' RV'
       go_wp2_with fail
       go_ret
       exact ⟨retS HSS.out.symm, hq.trans hq0⟩
/-- Its first half. -/
def shortS (s : ByteArray) : ByteArray := (shaS s).extract 0 16
theorem rshort_any {W : World} (s : ByteArray) (w : World) (q : Q W w) (hs : s.size ≤ 1000000000) :
 Calls Tryz.prog 110 #[.string s] w fun e w' => e = .returned (.string (shortS s)) ∧ Q W w' := by
 have hz := shaS_size s
 have HS : Hid (shortS s = (shaS s).extract 0 16) := rfl
 go_enter Tryz.func110, Tryz.ntmps110
 go_wp2_with (go_at_call 134; refine (rsum_any s _ q hs).mono ?_; rintro e w' ⟨rfl, hq⟩)
 go_ret
 exact ⟨retS HS.out.symm, hq⟩
def dtab : ByteArray := ⟨#[48, 49, 50, 51, 52, 53, 54, 55, 56, 57, 97, 98, 99, 100, 101, 102]⟩
/-- A digit to the base 16. -/
def hd (j : Int) : Int := if j < 10 then 48 + j else 87 + j
def hexL : List Int → List Int
 | [] => []
 | x :: r => hd (x / 16) :: hd (x % 16) :: hexL r
def hexS (s : ByteArray) : ByteArray := strOfNums (hexL (sb s))
def hexK (s : ByteArray) (k : Nat) : ByteArray := strOfNums (hexL ((sb s).take k))
theorem conv2 (w : World) (a b : Int) :
 (convert 121 9 (.slice (some ⟨w.heap.size, 0, none⟩) 2 2)).run Tryz.prog (w.alloc (.cells #[.int .u8 a, .int .u8 b] 5)) = .ok (.string (strOfNums [a, b])) (w.alloc (.cells #[.int .u8 a, .int .u8 b] 5)) := by
 refine run_convert_bytes_arg _ 121 5 Tryz.underlying121 Tryz.underlying5 _ 0 2 2 [a, b] rfl ?_ 9 Tryz.underlying9
 intro i hi
 match i, hi with
 | 0, _ => simp
 | 1, _ => simp
 | n + 2, h => omega
/-- A row of texts. -/
def RowS (w : World) (b off len : Nat) (f : Nat → ByteArray) : Prop := ∀ i, i < len → w.cell? ⟨b, off + i, none⟩ = some (.string (f i))
theorem RowS.q {w w' : World} {g off n : Nat} {f : Nat → ByteArray} (h : RowS w g off n f) (q : Q w w') (hg : g < w.heap.size) : RowS w' g off n f :=
 fun i hi => by rw [q.cell (p := ⟨g, off + i, none⟩) hg]; exact h i hi
/-- The bytes of a word and parts, each with its length. -/
def tg (word : ByteArray) (ps : Nat → ByteArray) : Nat → ByteArray
 | 0 => strOfNums [(word.size : Int) % 256] ++ word
 | k + 1 => tg word ps k ++ (strOfNums [((ps k).size : Int) / 256 % 256, ((ps k).size : Int) % 256] ++ ps k)
theorem tg_size (word : ByteArray) (ps : Nat → ByteArray) (b : Nat) (h : ∀ i, (ps i).size ≤ b) : ∀ k, (tg word ps k).size ≤ word.size + 1 + k * (b + 2)
 | 0 => by show (strOfNums _ ++ word).size ≤ _; rw [ByteArray.size_append, strOfNums_size]; simp; omega
 | k + 1 => by
  have := tg_size word ps b h k
  have := h k
  show (tg word ps k ++ (strOfNums _ ++ ps k)).size ≤ _
  rw [ByteArray.size_append, ByteArray.size_append, strOfNums_size, Nat.add_mul]
  simp; omega
def tagS (word : ByteArray) (ps : Nat → ByteArray) (n : Nat) : ByteArray := shortS (tg word ps n)
theorem conv1 (w : World) (x : Int) :
 (convert 121 9 (.slice (some ⟨w.heap.size, 0, none⟩) 1 1)).run Tryz.prog (w.alloc (.cells #[.int .u8 x] 5)) = .ok (.string (strOfNums [x])) (w.alloc (.cells #[.int .u8 x] 5)) := by
 refine run_convert_bytes_arg _ 121 5 Tryz.underlying121 Tryz.underlying5 _ 0 1 1 [x] rfl ?_ 9 Tryz.underlying9
 intro i hi
 match i, hi with
 | 0, _ => simp
 | n + 1, h => omega
set_option maxHeartbeats 2000000 in
theorem rtag_any {W : World} (word : ByteArray) (g off n cap : Nat) (ps : Nat → ByteArray) (w : World) (q : Q W w) (hr : RowS w g off n ps) (hg : 0 < n → g < w.heap.size) (hw : word.size ≤ 1000000) (hn : n ≤ 100) (hp : ∀ i, (ps i).size ≤ 1000000) :
 Calls Tryz.prog 72 #[.string word, .slice (some ⟨g, off, none⟩) n cap] w fun e w' => e = .returned (.string (tagS word ps n)) ∧ Q W w' := by
 have HR := Lib.hid hr
 have HP := Lib.hid hp
 have HG := Lib.hid hg
 have HZ := Lib.hid (tg_size word ps 1000000 hp)
 clear hr hp hg
 have cv := conv1 w ((word.size : Int) % 256)
 have z1 := strOfNums_size
 have HT : Hid (strOfNums [(word.size : Int) % 256] ++ word = tg word ps 0) := rfl
 have HF : Hid (tagS word ps n = shortS (tg word ps n)) := rfl
 go_enter Tryz.func72, Tryz.ntmps72
 go_wp2_with fail
 go_loopw [5, 6] (fun o i wr => ∃ k : Nat, k ≤ n ∧ i = .int .i64 k ∧ o = .string (tg word ps k) ∧ Q w wr) (fun _ i _ => n - (intOf i).toNat)
 case atStart => exact ⟨0, by omega, rfl, congrArg Value.string HT.out, (Q.refl w).alloc _⟩
 case round =>
  obtain ⟨k, hk, rfl, rfl, hq⟩ := hrel
  clear cv
  have hz := HZ.out k
  have hzk : (tg word ps k).size ≤ 1000001 + 100 * 1000002 := by
   have : k * (1000000 + 2) ≤ 100 * (1000000 + 2) := Nat.mul_le_mul_right _ (by omega)
   omega
  clear hz
  by_cases hlt : k < n
  · have k0 : (0 : Int) ≤ (k : Int) := by omega
    have k1 : (k : Int) < (n : Int) := by omega
    have tk : decide ((k : Int) < (n : Int)) = true := by simp; omega
    have hc : wr.cell? ⟨g, off + k, none⟩ = some (.string (ps k)) := by rw [hq.cell (p := ⟨g, off + k, none⟩) (HG.out (by omega))]; exact HR.out k hlt
    have hgr : g < wr.heap.size := by have := hq.size; have := HG.out (by omega); omega
    have hpk := HP.out k
    have HS : Hid (tg word ps (k + 1) = tg word ps k ++ (strOfNums [((ps k).size : Int) / 256 % 256, ((ps k).size : Int) % 256] ++ ps k)) := rfl
    have cv' : (convert 121 9 (.slice (some ⟨wr.heap.size, 0, none⟩) 2 2)).run Tryz.prog (wr.alloc (.cells #[.int .u8 (((ps k).size : Int) / 256 % 256), .int .u8 (((ps k).size : Int) % 256)] 5)).drew = .ok (.string (strOfNums [((ps k).size : Int) / 256 % 256, ((ps k).size : Int) % 256])) (wr.alloc (.cells #[.int .u8 (((ps k).size : Int) / 256 % 256), .int .u8 (((ps k).size : Int) % 256)] 5)).drew := conv2 wr.drew _ _
    generalize ps k = p at *
    generalize tg word ps k = tk' at *
    go_wp2_with fail
    go_region
    go_wp2_with fail
    exact ⟨⟨k + 1, by omega, by go_num, congrArg Value.string HS.out.symm, hq.trans (((Q.refl wr).alloc _).drew)⟩, by simp [intOf]; omega⟩
  · obtain rfl : k = n := by omega
    go_wp2_with (go_at_call 110; refine (rshort_any (W := w) _ _ hq (by omega)).mono ?_; rintro e w' ⟨rfl, hq'⟩)
    go_ret
    exact ⟨retS HF.out.symm, q.trans hq'⟩
end Go.Proofs.YtobfgljkckcmcaaGreatDoor.Sh
