import Derived.Test.YtobfgljkckcmcaaGreatDoorXJCopA
import Derived.Test.YtobfgljkckcmcaaGreatDoorXJDecA
import Derived.Test.YtobfgljkckcmcaaGreatDoorXJCoiD
set_option maxRecDepth 100000
namespace Go.Proofs.YtobfgljkckcmcaaGreatDoor.Coi
open Go.RowKit
open Mem Num Cod Plan
set_option linter.unusedVariables false
set_option linter.unusedSimpArgs false
theorem onec6 {v0 v1 v2 v3 v4 v5 : Value} (h0 : v0.oneCell' = true) (h1 : v1.oneCell' = true) (h2 : v2.oneCell' = true) (h3 : v3.oneCell' = true) (h4 : v4.oneCell' = true) (h5 : v5.oneCell' = true) : ∀ v ∈ [v0, v1, v2, v3, v4, v5], v.oneCell' = true := by
 intro v hv; simp at hv; rcases hv with rfl | rfl | rfl | rfl | rfl | rfl <;> assumption
theorem built_ctx (a0 : Option Addr) (n0_ c0 : Nat) (a1 : Option Addr) (n1_ c1 : Nat) (v0 : Int) (v1 v2 : ByteArray) (a2 : Option Addr) (n2_ c2 : Nat) : Tryz.prog.built 29 [(0, .slice a0 n0_ c0), (1, .slice a1 n1_ c1), (2, .agg #[.int .u64 v0, .string v1, .string v2, .slice a2 n2_ c2])] = some #[.slice a0 n0_ c0, .slice a1 n1_ c1, .int .u64 v0, .string v1, .string v2, .slice a2 n2_ c2] := by kernel_rfl
theorem wpo_ctx {o : Oper} {a : Act} {w : World} {K : Act → World → Prop} {Q : Exit → Act → World → Prop} {n0 n1 n2 : Nat} (a0 : Option Addr) (n0_ c0 : Nat) (a1 : Option Addr) (n1_ c1 : Nat) (v0 : Int) (v1 v2 : ByteArray) (a2 : Option Addr) (n2_ c2 : Nat) (ho : o.op = .build 29 #[(0, .tmp n0), (1, .tmp n1), (2, .tmp n2)]) (h0 : a.eval (.tmp n0) = .slice a0 n0_ c0) (h1 : a.eval (.tmp n1) = .slice a1 n1_ c1) (h2 : a.eval (.tmp n2) = .agg #[.int .u64 v0, .string v1, .string v2, .slice a2 n2_ c2]) (h : K (a.put o.dst (.agg #[.slice a0 n0_ c0, .slice a1 n1_ c1, .int .u64 v0, .string v1, .string v2, .slice a2 n2_ c2])) w) : o.wp Tryz.prog a w K Q := by
 have e : Tryz.prog.built 29 ((#[(0, .tmp n0), (1, .tmp n1), (2, .tmp n2)] : Array (Nat × Operand)).map fun (i, x) => (i, a.eval x)).toList = some #[.slice a0 n0_ c0, .slice a1 n1_ c1, .int .u64 v0, .string v1, .string v2, .slice a2 n2_ c2] := by
  simp only [List.map_toArray, List.map_cons, List.map_nil, h0, h1, h2]
  exact built_ctx a0 n0_ c0 a1 n1_ c1 v0 v1 v2 a2 n2_ c2
 refine wp_build 29 _ ho (by rw [e]; rfl) ?_
 rw [e]
 exact h
theorem wpr_winx {ops : Array Oper} {rest : List Oper} {o : Oper} {a : Act} {w : World} {Q : Exit → Act → World → Prop} (hg : o.guard = none) {n0 : Nat} (v0 : ByteArray) (v1 v2 v3 v4 : Int) (v5 : ByteArray) (v6 : Int) (v7 v8 : ByteArray) (v9 : Int) (ho : o.op = .buildSlice 25 1 #[(0, .tmp n0)]) (h0 : a.eval (.tmp n0) = .agg #[.string v0, .int .u64 v1, .int .u64 v2, .int .u64 v3, .int .u64 v4, .string v5, .int .u64 v6, .string v7, .string v8, .int .u64 v9])
 (h : wpList Tryz.prog ops Q rest (a.put o.dst (.slice (some ⟨w.heap.size, 0, none⟩) 1 1)) (w.alloc (.cells #[.string v0, .int .u64 v1, .int .u64 v2, .int .u64 v3, .int .u64 v4, .string v5, .int .u64 v6, .string v7, .string v8, .int .u64 v9] 135))) : wpList Tryz.prog ops Q (o :: rest) a w :=
 wpList_plain hg fun _ hK => wpo_rowwin v0 v1 v2 v3 v4 v5 v6 v7 v8 v9 ho h0 (hK _ _ h)
set_option maxHeartbeats 8000000 in
theorem copiesI_x (a : Option Addr) (n cap : Nat) (f : Nat → IN) (w : World) (h : SL IN.cells 4 w a n f) (hn : n ≤ 100) (hk : ∀ i, i < n → (f i).ok) :
 Calls Tryz.prog 48 #[.slice a n cap, .func (.func 49) #[] #[]] w fun e w' => ∃ a' c', e = .returned (.slice a' n c') ∧ OR 53 IN.cells 4 w' w.heap.size a' n c' f ∧ Q w w' := by
 have HT := Lib.hid h
 have HK := Lib.hid hk
 clear h hk
 obtain ⟨i0, hi0, hz0, hz1, hz2⟩ := info_of info_inx
 have O0 := Lib.hid (OR.nil 53 IN.cells 4 w w.heap.size f)
 go_enter Tryz.func48, Tryz.ntmps48
 go_wp2_with fail
 go_loopw [5, 7, 10] (fun v z i wr => ∃ (k : Nat) (b : Option Addr) (c : Nat), k ≤ n ∧ i = .int .i64 k ∧ v = .slice b k c ∧ Hid (OR 53 IN.cells 4 wr w.heap.size b k c f) ∧ Hid (Q w wr)) (fun _ _ i _ => n - (intOf i).toNat)
 case atStart => exact ⟨0, none, 0, by omega, rfl, rfl, O0, Lib.hid (Q.refl w)⟩
 case round =>
  obtain ⟨k, b, c, hk, rfl, rfl, O, QR⟩ := hrel
  clear O0
  have k0 : (0 : Int) ≤ (k : Int) := by omega
  by_cases hlt : k < n
  · have k1 : (k : Int) < (n : Int) := by omega
    obtain ⟨bb, off, rfl, hrow⟩ := (HT.out.q QR.out).some_ (by omega)
    obtain ⟨c0, c1, c2, c3⟩ := in_at (hrow k hlt)
    clear hrow
    have XK := Lib.hid (HK.out k hlt)
    obtain ⟨x, hx⟩ : ∃ x, f k = x := ⟨_, rfl⟩
    rw [hx] at c0 c1 c2 c3 XK
    have HX := Lib.hid hx
    clear hx
    go_wp2_with fail
    clear c0 c1 c2 c3
    refine (copyin_x x _ XK.out).mono ?_
    rintro e w1 ⟨rfl, q1⟩
    have qa : Q wr w1 := ((Q.refl wr).alloc _).trans q1
    have hsz := QR.out.size
    have hsz1 := qa.size
    have O1 := Lib.hid (O.out.q (qa.alloc (.cells (IN.cells x).toArray 53)))
    have Q1 := Lib.hid (QR.out.trans (qa.alloc (.cells (IN.cells x).toArray 53)))
    clear q1 O QR qa
    go_wp2_with (with_reducible (show wpList _ _ _ (⟨_, Op.buildSlice 22 _ _, _, _, _, _⟩ :: _) _ _); refine halt ?_)
    refine Lib.hid (wpr_inx rfl x.tx x.out x.path x.sig rfl rfl ?_)
    refine wpl_app rfl (.tmp 14) (.tmp 18) 22 rfl i0 _ 48 Tryz.underlying22 hi0 hz0 hz1 hz2 rfl (by decide) rfl O1.out w1.heap.size rfl rfl (fun j u hj => ?_) ?_ (by omega) (by decide) (by simp; omega) ?_
    · rw [HX.out] at hj
      rw [World.cell?_alloc_at _ _ _ _ rfl]
      unfold IN.cells at hj
      simpa using hj
    · rw [HX.out]
      exact (onec4 rfl rfl rfl rfl)
    intro g' cap' w' O2 G
    have Q2 := Lib.hid (O1.out.q_grow Q1.out (Nat.le_refl _) G)
    have O2 := Lib.hid O2
    clear O1 Q1 G
    go_wp2_with fail
    go_roundw
    case rel => exact ⟨k + 1, _, cap', by omega, by go_num, rfl, O2, Q2⟩
    case measure => simp [intOf]; omega
  · obtain rfl : k = n := by omega
    have td : decide (k < k) = false := by simp
    go_wp2_with fail
    go_ret
    exact ⟨_, _, rfl, O.out, QR.out⟩
set_option maxHeartbeats 8000000 in
theorem copiesO_x (a : Option Addr) (n cap : Nat) (f : Nat → OU) (w : World) (h : SL OU.cells 9 w a n f) (hn : n ≤ 100) (hk : ∀ i, i < n → (f i).ok) :
 Calls Tryz.prog 50 #[.slice a n cap, .func (.func 51) #[] #[]] w fun e w' => ∃ a' c', e = .returned (.slice a' n c') ∧ OR 47 OU.cells 9 w' w.heap.size a' n c' f ∧ Q w w' := by
 have HT := Lib.hid h
 have HK := Lib.hid hk
 clear h hk
 obtain ⟨i0, hi0, hz0, hz1, hz2⟩ := info_of info_out
 have O0 := Lib.hid (OR.nil 47 OU.cells 9 w w.heap.size f)
 go_enter Tryz.func50, Tryz.ntmps50
 go_wp2_with fail
 go_loopw [5, 7, 10] (fun v z i wr => ∃ (k : Nat) (b : Option Addr) (c : Nat), k ≤ n ∧ i = .int .i64 k ∧ v = .slice b k c ∧ Hid (OR 47 OU.cells 9 wr w.heap.size b k c f) ∧ Hid (Q w wr)) (fun _ _ i _ => n - (intOf i).toNat)
 case atStart => exact ⟨0, none, 0, by omega, rfl, rfl, O0, Lib.hid (Q.refl w)⟩
 case round =>
  obtain ⟨k, b, c, hk, rfl, rfl, O, QR⟩ := hrel
  clear O0
  have k0 : (0 : Int) ≤ (k : Int) := by omega
  by_cases hlt : k < n
  · have k1 : (k : Int) < (n : Int) := by omega
    obtain ⟨bb, off, rfl, hrow⟩ := (HT.out.q QR.out).some_ (by omega)
    obtain ⟨c0, c1, c2, c3, c4, c5, c6, c7, c8⟩ := out_at (hrow k hlt)
    clear hrow
    have XK := Lib.hid (HK.out k hlt)
    obtain ⟨x, hx⟩ : ∃ x, f k = x := ⟨_, rfl⟩
    rw [hx] at c0 c1 c2 c3 c4 c5 c6 c7 c8 XK
    have HX := Lib.hid hx
    clear hx
    go_wp2_with fail
    clear c0 c1 c2 c3 c4 c5 c6 c7 c8
    refine (copyout_x x _ XK.out).mono ?_
    rintro e w1 ⟨rfl, q1⟩
    have qa : Q wr w1 := ((Q.refl wr).alloc _).trans q1
    have hsz := QR.out.size
    have hsz1 := qa.size
    have O1 := Lib.hid (O.out.q (qa.alloc (.cells (OU.cells x).toArray 47)))
    have Q1 := Lib.hid (QR.out.trans (qa.alloc (.cells (OU.cells x).toArray 47)))
    clear q1 O QR qa
    go_wp2_with (with_reducible (show wpList _ _ _ (⟨_, Op.buildSlice 23 _ _, _, _, _, _⟩ :: _) _ _); refine halt ?_)
    refine Lib.hid (wpr_out rfl x.kind x.amount x.key x.gate x.expiry x.anchor x.unit x.tokens x.of_ rfl rfl ?_)
    refine wpl_app rfl (.tmp 14) (.tmp 18) 23 rfl i0 _ 104 Tryz.underlying23 hi0 hz0 hz1 hz2 rfl (by decide) rfl O1.out w1.heap.size rfl rfl (fun j u hj => ?_) ?_ (by omega) (by decide) (by simp; omega) ?_
    · rw [HX.out] at hj
      rw [World.cell?_alloc_at _ _ _ _ rfl]
      unfold OU.cells at hj
      simpa using hj
    · rw [HX.out]
      exact (onec9 rfl rfl rfl rfl rfl rfl rfl rfl rfl)
    intro g' cap' w' O2 G
    have Q2 := Lib.hid (O1.out.q_grow Q1.out (Nat.le_refl _) G)
    have O2 := Lib.hid O2
    clear O1 Q1 G
    go_wp2_with fail
    go_roundw
    case rel => exact ⟨k + 1, _, cap', by omega, by go_num, rfl, O2, Q2⟩
    case measure => simp [intOf]; omega
  · obtain rfl : k = n := by omega
    have td : decide (k < k) = false := by simp
    go_wp2_with fail
    go_ret
    exact ⟨_, _, rfl, O.out, QR.out⟩
set_option maxHeartbeats 8000000 in
theorem copiesW_x (a : Option Addr) (n cap : Nat) (f : Nat → WN) (w : World) (h : SL WN.cells 10 w a n f) (hn : n ≤ 100) (hk : ∀ i, i < n → (f i).ok) :
 Calls Tryz.prog 94 #[.slice a n cap, .func (.func 95) #[] #[]] w fun e w' => ∃ a' c', e = .returned (.slice a' n c') ∧ OR 135 WN.cells 10 w' w.heap.size a' n c' f ∧ Q w w' := by
 have HT := Lib.hid h
 have HK := Lib.hid hk
 clear h hk
 obtain ⟨i0, hi0, hz0, hz1, hz2⟩ := info_of info_win
 have O0 := Lib.hid (OR.nil 135 WN.cells 10 w w.heap.size f)
 go_enter Tryz.func94, Tryz.ntmps94
 go_wp2_with fail
 go_loopw [5, 7, 10] (fun v z i wr => ∃ (k : Nat) (b : Option Addr) (c : Nat), k ≤ n ∧ i = .int .i64 k ∧ v = .slice b k c ∧ Hid (OR 135 WN.cells 10 wr w.heap.size b k c f) ∧ Hid (Q w wr)) (fun _ _ i _ => n - (intOf i).toNat)
 case atStart => exact ⟨0, none, 0, by omega, rfl, rfl, O0, Lib.hid (Q.refl w)⟩
 case round =>
  obtain ⟨k, b, c, hk, rfl, rfl, O, QR⟩ := hrel
  clear O0
  have k0 : (0 : Int) ≤ (k : Int) := by omega
  by_cases hlt : k < n
  · have k1 : (k : Int) < (n : Int) := by omega
    obtain ⟨bb, off, rfl, hrow⟩ := (HT.out.q QR.out).some_ (by omega)
    obtain ⟨c0, c1, c2, c3, c4, c5, c6, c7, c8, c9⟩ := win_at (hrow k hlt)
    clear hrow
    have XK := Lib.hid (HK.out k hlt)
    obtain ⟨x, hx⟩ : ∃ x, f k = x := ⟨_, rfl⟩
    rw [hx] at c0 c1 c2 c3 c4 c5 c6 c7 c8 c9 XK
    have HX := Lib.hid hx
    clear hx
    go_wp2_with fail
    clear c0 c1 c2 c3 c4 c5 c6 c7 c8 c9
    refine (copywin_x x _ XK.out).mono ?_
    rintro e w1 ⟨rfl, q1⟩
    have qa : Q wr w1 := ((Q.refl wr).alloc _).trans q1
    have hsz := QR.out.size
    have hsz1 := qa.size
    have O1 := Lib.hid (O.out.q (qa.alloc (.cells (WN.cells x).toArray 135)))
    have Q1 := Lib.hid (QR.out.trans (qa.alloc (.cells (WN.cells x).toArray 135)))
    clear q1 O QR qa
    go_wp2_with (with_reducible (show wpList _ _ _ (⟨_, Op.buildSlice 25 _ _, _, _, _, _⟩ :: _) _ _); refine halt ?_)
    refine Lib.hid (wpr_winx rfl x.chan x.serial x.face x.wins x.many x.commit x.client x.sig x.salt x.drawn rfl rfl ?_)
    refine wpl_app rfl (.tmp 14) (.tmp 18) 25 rfl i0 _ 112 Tryz.underlying25 hi0 hz0 hz1 hz2 rfl (by decide) rfl O1.out w1.heap.size rfl rfl (fun j u hj => ?_) ?_ (by omega) (by decide) (by simp; omega) ?_
    · rw [HX.out] at hj
      rw [World.cell?_alloc_at _ _ _ _ rfl]
      unfold WN.cells at hj
      simpa using hj
    · rw [HX.out]
      exact (onec10 rfl rfl rfl rfl rfl rfl rfl rfl rfl rfl)
    intro g' cap' w' O2 G
    have Q2 := Lib.hid (O1.out.q_grow Q1.out (Nat.le_refl _) G)
    have O2 := Lib.hid O2
    clear O1 Q1 G
    go_wp2_with fail
    go_roundw
    case rel => exact ⟨k + 1, _, cap', by omega, by go_num, rfl, O2, Q2⟩
    case measure => simp [intOf]; omega
  · obtain rfl : k = n := by omega
    have td : decide (k < k) = false := by simp
    go_wp2_with fail
    go_ret
    exact ⟨_, _, rfl, O.out, QR.out⟩
set_option maxHeartbeats 8000000 in
theorem copyproof_x (p : PF) (ad : Option Addr) (c : Nat) (w0 : World) (hw : SL WN.cells 10 w0 ad p.n p.w) (hk : p.ok) :
 Calls Tryz.prog 52 #[pfV p ad c] w0 fun e w' => ∃ a' c', e = .returned (pfV p a' c') ∧ OR 135 WN.cells 10 w' w0.heap.size a' p.n c' p.w ∧ Q w0 w' := by
 have z_sg := hk.sig
 have z_tk := hk.token
 have zn := hk.n
 have HK := Lib.hid hk.w
 obtain ⟨am, sg, tk, n, f⟩ := p
 dsimp only at *
 have HT := Lib.hid hw
 clear hw hk
 go_enter Tryz.func52, Tryz.ntmps52
 go_wp2_with fail
 have HQ : Hid (Q w0 ((w0.alloc (.cells #[.int .u64 am, .string sg, .string tk, .slice ad n c] 27)).alloc (.cells #[.int .u64 0, .string ⟨#[]⟩, .string ⟨#[]⟩, .slice none 0 0] 27))) := ((Q.refl w0).alloc _).alloc _
 have B1 : Hid (Box ((w0.alloc (.cells #[.int .u64 am, .string sg, .string tk, .slice ad n c] 27)).alloc (.cells #[.int .u64 0, .string ⟨#[]⟩, .string ⟨#[]⟩, .slice none 0 0] 27)) w0.heap.size [.int .u64 am, .string sg, .string tk, .slice ad n c]) := (Box.new w0 [.int .u64 am, .string sg, .string tk, .slice ad n c] 27).q ((Q.refl _).alloc _)
 have B2 : Hid (Box ((w0.alloc (.cells #[.int .u64 am, .string sg, .string tk, .slice ad n c] 27)).alloc (.cells #[.int .u64 0, .string ⟨#[]⟩, .string ⟨#[]⟩, .slice none 0 0] 27)) (w0.heap.size + 1) [.int .u64 0, .string ⟨#[]⟩, .string ⟨#[]⟩, .slice none 0 0]) := by
  have := Box.new (w0.alloc (.cells #[.int .u64 am, .string sg, .string tk, .slice ad n c] 27)) [.int .u64 0, .string ⟨#[]⟩, .string ⟨#[]⟩, .slice none 0 0] 27
  rw [show (w0.alloc (.cells #[.int .u64 am, .string sg, .string tk, .slice ad n c] 27)).heap.size = w0.heap.size + 1 by simp] at this
  exact this
 generalize (w0.alloc (.cells #[.int .u64 am, .string sg, .string tk, .slice ad n c] 27)).alloc (.cells #[.int .u64 0, .string ⟨#[]⟩, .string ⟨#[]⟩, .slice none 0 0] 27) = wA at *
 have hb2 : w0.heap.size ≤ w0.heap.size + 1 := by omega
 have n12 : w0.heap.size + 1 ≠ w0.heap.size := by omega
 obtain ⟨b2, hb⟩ : ∃ b, w0.heap.size + 1 = b := ⟨_, rfl⟩
 rw [hb] at B2 hb2 n12 ⊢
 obtain ⟨b1, hb'⟩ : ∃ b, w0.heap.size = b := ⟨_, rfl⟩
 have hb1 : w0.heap.size ≤ b1 := by omega
 rw [hb'] at B1 n12 ⊢
 clear hb hb'
 have l1 := B1.out.lt
 have l2 := B2.out.lt
 have lA := HQ.out.size
 have CW : Hid (∀ w, Q w0 w → wA.heap.size ≤ w.heap.size → Calls Tryz.prog 94 #[.slice ad n c, .func (.func 95) #[] #[]] w fun e w' => ∃ a' c', e = .returned (.slice a' n c') ∧ OR 135 WN.cells 10 w' wA.heap.size a' n c' f ∧ Q w w') := fun w q hl => (copiesW_x ad n c f w (HT.out.q q) zn HK.out).mono fun e w' h => by
  obtain ⟨a', c', h0, h1, h2⟩ := h
  exact ⟨a', c', h0, h1.downd hl, h2⟩
 clear HT HK
 have hS0 : (fun w => Ch b1 wA w ∧ Box w b1 [.int .u64 am, .string sg, .string tk, .slice ad n c]) wA.drew := ⟨(Ch.refl b1 wA).drew, B1.out.q (Q.refl wA).drew⟩
 refine region_gen3 ?_
 intro OPS QQ A0 hO hQQ hA
 have hz : A0.tmps.size = 16 := by rw [hA]; rfl
 have hs : sound OPS A0.tmps.size = true := by rw [hz, hO]; kernel_rfl
 have b_1 : A0.eval (.tmp 1) = .pointer (some ⟨b1, 0, none⟩) := by rw [hA]; rfl
 have fr_1 : free OPS 1 = true := by rw [hO]; kernel_rfl
 have b_2 : A0.eval (.tmp 2) = .pointer (some ⟨b2, 0, none⟩) := by rw [hA]; rfl
 have fr_2 : free OPS 2 = true := by rw [hO]; kernel_rfl
 obtain ⟨VV, hVV⟩ : ∃ V : Nat → Value → World → Prop, V = fun i => ([fun v _ => v = .pointer (some ⟨b1, 1, none⟩), fun v _ => v = .string sg, fun v _ => v = .string sg, fun v _ => v = .pointer (some ⟨b1, 2, none⟩), fun v _ => v = .string tk, fun v _ => v = .string tk, fun v _ => v = .pointer (some ⟨b1, 3, none⟩), fun v _ => v = .slice ad n c, fun v w => ∃ a' c', v = .slice a' n c' ∧ OR 135 WN.cells 10 w wA.heap.size a' n c' f, fun v _ => v = .pointer (some ⟨b1, 1, none⟩), fun _ _ => True, fun v _ => v = .pointer (some ⟨b1, 2, none⟩), fun _ _ => True, fun v _ => v = .pointer (some ⟨b1, 3, none⟩)] : List (Value → World → Prop)).getD i (fun _ _ => True) := ⟨_, rfl⟩
 have v_0 : VV 0 = fun v _ => v = .pointer (some ⟨b1, 1, none⟩) := vat hVV 0
 have v_1 : VV 1 = fun v _ => v = .string sg := vat hVV 1
 have v_2 : VV 2 = fun v _ => v = .string sg := vat hVV 2
 have v_3 : VV 3 = fun v _ => v = .pointer (some ⟨b1, 2, none⟩) := vat hVV 3
 have v_4 : VV 4 = fun v _ => v = .string tk := vat hVV 4
 have v_5 : VV 5 = fun v _ => v = .string tk := vat hVV 5
 have v_6 : VV 6 = fun v _ => v = .pointer (some ⟨b1, 3, none⟩) := vat hVV 6
 have v_7 : VV 7 = fun v _ => v = .slice ad n c := vat hVV 7
 have v_8 : VV 8 = fun v w => ∃ a' c', v = .slice a' n c' ∧ OR 135 WN.cells 10 w wA.heap.size a' n c' f := vat hVV 8
 have v_9 : VV 9 = fun v _ => v = .pointer (some ⟨b1, 1, none⟩) := vat hVV 9
 have v_10 : VV 10 = fun _ _ => True := vat hVV 10
 have v_11 : VV 11 = fun v _ => v = .pointer (some ⟨b1, 2, none⟩) := vat hVV 11
 have v_12 : VV 12 = fun _ _ => True := vat hVV 12
 have v_13 : VV 13 = fun v _ => v = .pointer (some ⟨b1, 3, none⟩) := vat hVV 13
 have hV := stablex_of (T := Ch b1) (p := 14) hVV ((sx_cons (fun _ _ _ h _ => h) (sx_cons (fun _ _ _ h _ => h) (sx_cons (fun _ _ _ h _ => h) (sx_cons (fun _ _ _ h _ => h) (sx_cons (fun _ _ _ h _ => h) (sx_cons (fun _ _ _ h _ => h) (sx_cons (fun _ _ _ h _ => h) (sx_cons (fun _ _ _ h _ => h) (sx_cons (fun v w w' h t => by obtain ⟨a', c', h1, h2⟩ := h; exact ⟨a', c', h1, h2.low t l1⟩) (sx_cons (fun _ _ _ h _ => h) (sx_cons (fun _ _ _ h _ => h) (sx_cons (fun _ _ _ h _ => h) (sx_cons (fun _ _ _ h _ => h) (sx_cons (fun _ _ _ h _ => h) trivial)))))))))))))))
 clear hVV
 have i_0 := pget_at hO 0 rfl
 have i_1 := pget_at hO 1 rfl
 have i_2 := pget_at hO 2 rfl
 have i_3 := pget_at hO 3 rfl
 have i_4 := pget_at hO 4 rfl
 have i_5 := pget_at hO 5 rfl
 have i_6 := pget_at hO 6 rfl
 have i_7 := pget_at hO 7 rfl
 have i_8 := pget_at hO 8 rfl
 have i_9 := pget_at hO 9 rfl
 have i_10 := pget_at hO 10 rfl
 have i_11 := pget_at hO 11 rfl
 have i_12 := pget_at hO 12 rfl
 have i_13 := pget_at hO 13 rfl
 have i_14 := pget_at hO 14 rfl
 have MK37 := @Step2.pure Tryz.prog OPS QQ VV (Ch b1) (fun w => Ch b1 wA w ∧ Box w b1 [.int .u64 am, .string sg, .string tk, .slice ad n c]) A0 14
 have s_0 := MK37 i_0 (by rw [hO]; kernel_rfl) (.pointer (some ⟨b1, 1, none⟩)) (Ch.refl b1 ·) (fun l a w hI hl hS => ⟨wanted_none rfl, (by have e0 : a.eval (.tmp 1) = _ := ((hI.base 1 fr_1).trans b_1); generalize a.eval = ρ at e0 ⊢; simp [go_sem, e0]), at_mk v_0 rfl⟩)
 have s_1 := MK37 i_1 (by rw [hO]; kernel_rfl) (.string sg) (Ch.refl b1 ·) (fun l a w hI hl hS => ⟨wanted_none rfl, (by have e0 : a.eval (.tmp 3) = _ := (at_eq v_0 (hI.at_ 0 3 _ i_0 rfl (hl_at hl 0 rfl rfl))); have x0 := hS.2.at_ 1 _ rfl; generalize a.eval = ρ at e0 ⊢; simp [go_sem, e0, x0]), at_mk v_1 rfl⟩)
 have MK38 := @Step2.done Tryz.prog OPS QQ VV (Ch b1) (fun w => Ch b1 wA w ∧ Box w b1 [.int .u64 am, .string sg, .string tk, .slice ad n c]) A0 14
 have s_2 := MK38 i_2 (by rw [hO]; kernel_rfl) (fun l a w hI hl hS => by
  refine ⟨wanted_none rfl, ?_⟩
  refine wp_enter (f := 93) (args := #[.string sg]) ?_ ?_
  · exact ex_call rfl (by simp only [List.map_toArray, List.map_cons, List.map_nil, ev_const, (show a.eval (.tmp 4) = _ from (at_eq v_1 (hI.at_ 1 4 _ i_1 rfl (hl_at hl 0 rfl rfl))))]) Tryz.func93 (by kernel_rfl) (by kernel_rfl)
  · refine (clone_any sg w (by omega)).mono fun e w' hc => ?_
    obtain ⟨rfl, hq⟩ := hc
    exact ⟨_, rfl, Ch.of_q hq b1, ⟨hS.1.trans (Ch.of_q hq b1), hS.2.q hq⟩, at_mk v_2 rfl⟩)
 have s_3 := MK37 i_3 (by rw [hO]; kernel_rfl) (.pointer (some ⟨b1, 2, none⟩)) (Ch.refl b1 ·) (fun l a w hI hl hS => ⟨wanted_none rfl, (by have e0 : a.eval (.tmp 1) = _ := ((hI.base 1 fr_1).trans b_1); generalize a.eval = ρ at e0 ⊢; simp [go_sem, e0]), at_mk v_3 rfl⟩)
 have s_4 := MK37 i_4 (by rw [hO]; kernel_rfl) (.string tk) (Ch.refl b1 ·) (fun l a w hI hl hS => ⟨wanted_none rfl, (by have e0 : a.eval (.tmp 6) = _ := (at_eq v_3 (hI.at_ 3 6 _ i_3 rfl (hl_at hl 0 rfl rfl))); have x0 := hS.2.at_ 2 _ rfl; generalize a.eval = ρ at e0 ⊢; simp [go_sem, e0, x0]), at_mk v_4 rfl⟩)
 have s_5 := MK38 i_5 (by rw [hO]; kernel_rfl) (fun l a w hI hl hS => by
  refine ⟨wanted_none rfl, ?_⟩
  refine wp_enter (f := 93) (args := #[.string tk]) ?_ ?_
  · exact ex_call rfl (by simp only [List.map_toArray, List.map_cons, List.map_nil, ev_const, (show a.eval (.tmp 7) = _ from (at_eq v_4 (hI.at_ 4 7 _ i_4 rfl (hl_at hl 0 rfl rfl))))]) Tryz.func93 (by kernel_rfl) (by kernel_rfl)
  · refine (clone_any tk w (by omega)).mono fun e w' hc => ?_
    obtain ⟨rfl, hq⟩ := hc
    exact ⟨_, rfl, Ch.of_q hq b1, ⟨hS.1.trans (Ch.of_q hq b1), hS.2.q hq⟩, at_mk v_5 rfl⟩)
 have s_6 := MK37 i_6 (by rw [hO]; kernel_rfl) (.pointer (some ⟨b1, 3, none⟩)) (Ch.refl b1 ·) (fun l a w hI hl hS => ⟨wanted_none rfl, (by have e0 : a.eval (.tmp 1) = _ := ((hI.base 1 fr_1).trans b_1); generalize a.eval = ρ at e0 ⊢; simp [go_sem, e0]), at_mk v_6 rfl⟩)
 have s_7 := MK37 i_7 (by rw [hO]; kernel_rfl) (.slice ad n c) (Ch.refl b1 ·) (fun l a w hI hl hS => ⟨wanted_none rfl, (by have e0 : a.eval (.tmp 9) = _ := (at_eq v_6 (hI.at_ 6 9 _ i_6 rfl (hl_at hl 0 rfl rfl))); have x0 := hS.2.at_ 3 _ rfl; generalize a.eval = ρ at e0 ⊢; simp [go_sem, e0, x0]), at_mk v_7 rfl⟩)
 have s_8 := MK38 i_8 (by rw [hO]; kernel_rfl) (fun l a w hI hl hS => by
  refine ⟨wanted_none rfl, ?_⟩
  refine wp_enter (f := 94) (args := #[.slice ad n c, .func (.func 95) #[] #[]]) ?_ ?_
  · exact ex_call rfl (by simp only [List.map_toArray, List.map_cons, List.map_nil, (show a.eval (.tmp 10) = _ from (at_eq v_7 (hI.at_ 7 10 _ i_7 rfl (hl_at hl 0 rfl rfl))))]; rfl) Tryz.func94 (by kernel_rfl) (by kernel_rfl)
  · refine (CW.out w (hS.1.q HQ.out hb1) hS.1.size).mono fun e w' hc => ?_
    obtain ⟨a', c', rfl, ho, hq⟩ := hc
    exact ⟨_, rfl, Ch.of_q hq b1, ⟨hS.1.trans (Ch.of_q hq b1), hS.2.q hq⟩, p_at v_8 ⟨a', c', rfl, ho⟩⟩)
 have s_9 := MK37 i_9 (by rw [hO]; kernel_rfl) (.pointer (some ⟨b1, 1, none⟩)) (Ch.refl b1 ·) (fun l a w hI hl hS => ⟨wanted_none rfl, (by have e0 : a.eval (.tmp 1) = _ := ((hI.base 1 fr_1).trans b_1); generalize a.eval = ρ at e0 ⊢; simp [go_sem, e0]), at_mk v_9 rfl⟩)
 have s_10 := MK38 i_10 (by rw [hO]; kernel_rfl) (fun l a w hI hl hS => by
  refine ⟨wanted_none rfl, ?_⟩
  refine wpo_st1 9 _ _ rfl (at_eq v_9 (hI.at_ 9 12 _ i_9 rfl (hl_at hl 0 rfl rfl))) (at_eq v_2 (hI.at_ 2 5 _ i_2 rfl (hl_at hl 1 rfl rfl))) hS.2 rfl (fun w hc hf => by simp [go_sem, hc, hf]) ?_
  intro w' hB hC
  exact ⟨_, rfl, hC, ⟨hS.1.trans hC, hB⟩, p_at v_10 trivial⟩)
 have s_11 := MK37 i_11 (by rw [hO]; kernel_rfl) (.pointer (some ⟨b1, 2, none⟩)) (Ch.refl b1 ·) (fun l a w hI hl hS => ⟨wanted_none rfl, (by have e0 : a.eval (.tmp 1) = _ := ((hI.base 1 fr_1).trans b_1); generalize a.eval = ρ at e0 ⊢; simp [go_sem, e0]), at_mk v_11 rfl⟩)
 have s_12 := MK38 i_12 (by rw [hO]; kernel_rfl) (fun l a w hI hl hS => by
  refine ⟨wanted_none rfl, ?_⟩
  refine wpo_st1 9 _ _ rfl (at_eq v_11 (hI.at_ 11 13 _ i_11 rfl (hl_at hl 0 rfl rfl))) (at_eq v_5 (hI.at_ 5 8 _ i_5 rfl (hl_at hl 1 rfl rfl))) hS.2 rfl (fun w hc hf => by simp [go_sem, hc, hf]) ?_
  intro w' hB hC
  exact ⟨_, rfl, hC, ⟨hS.1.trans hC, hB⟩, p_at v_12 trivial⟩)
 have s_13 := MK37 i_13 (by rw [hO]; kernel_rfl) (.pointer (some ⟨b1, 3, none⟩)) (Ch.refl b1 ·) (fun l a w hI hl hS => ⟨wanted_none rfl, (by have e0 : a.eval (.tmp 1) = _ := ((hI.base 1 fr_1).trans b_1); generalize a.eval = ρ at e0 ⊢; simp [go_sem, e0]), at_mk v_13 rfl⟩)
 refine wp_plan2 VV (Ch b1) (fun w => Ch b1 wA w ∧ Box w b1 [.int .u64 am, .string sg, .string tk, .slice ad n c]) 14 14 (by kernel_rfl) hs (by rw [hO]; rfl) (by rw [hO]; kernel_rfl) hV hS0 (steps2_all hO _ rfl ((s2_cons s_0 (s2_cons s_1 (s2_cons s_2 (s2_cons s_3 (s2_cons s_4 (s2_cons s_5 (s2_cons s_6 (s2_cons s_7 (s2_cons s_8 (s2_cons s_9 (s2_cons s_10 (s2_cons s_11 (s2_cons s_12 (s2_cons s_13 trivial)))))))))))))))) ?_
 intro l a w hall hln hI
 have hS := hI.st hln
 obtain ⟨a', c', ev, O⟩ := (at_p v_8 (hI.at_ 8 11 _ i_8 rfl (hall 8 (by decide))))
 refine fin_of i_14 (wanted_none rfl) ?_
 refine wpo_st1 25 _ _ rfl (at_eq v_13 (hI.at_ 13 14 _ i_13 rfl (hall 13 (by decide)))) ev hS.2 rfl (fun w hc hf => by simp [go_sem, hc, hf]) ?_
 intro w3 B3 c3
 have C3 : Hid (Ch b1 wA w3) := hS.1.trans c3
 have B3 : Hid (Box w3 b1 [.int .u64 am, .string sg, .string tk, .slice a' n c']) := B3
 have O3 := Lib.hid (O.low c3 l1)
 rw [hQQ]
 obtain ⟨ts, ds⟩ := a
 have hd : ds = [] := by have := hI.df; rw [hA] at this; exact this
 have hts : ts.size = 16 := by have := hI.sz; rw [hz] at this; exact this
 have f1 : ts.getD 1 undef = .pointer (some ⟨b1, 0, none⟩) := ((hI.base 1 fr_1).trans b_1)
 have f2 : ts.getD 2 undef = .pointer (some ⟨b2, 0, none⟩) := ((hI.base 2 fr_2).trans b_2)
 obtain ⟨tl0, rfl⟩ : ∃ tl : List Value, ts = tl.toArray := ⟨ts.toList, by simp⟩
 have htl0 : tl0.length = 16 := by simpa using hts
 clear hts
 obtain ⟨y0, tl1, et, htl1⟩ := len_succ htl0
 clear htl0
 subst et
 obtain ⟨y1, tl2, et, htl2⟩ := len_succ htl1
 clear htl1
 subst et
 obtain ⟨y2, tl3, et, htl3⟩ := len_succ htl2
 clear htl2
 subst et
 obtain ⟨y3, tl4, et, htl4⟩ := len_succ htl3
 clear htl3
 subst et
 obtain ⟨y4, tl5, et, htl5⟩ := len_succ htl4
 clear htl4
 subst et
 obtain ⟨y5, tl6, et, htl6⟩ := len_succ htl5
 clear htl5
 subst et
 obtain ⟨y6, tl7, et, htl7⟩ := len_succ htl6
 clear htl6
 subst et
 obtain ⟨y7, tl8, et, htl8⟩ := len_succ htl7
 clear htl7
 subst et
 obtain ⟨y8, tl9, et, htl9⟩ := len_succ htl8
 clear htl8
 subst et
 obtain ⟨y9, tl10, et, htl10⟩ := len_succ htl9
 clear htl9
 subst et
 obtain ⟨y10, tl11, et, htl11⟩ := len_succ htl10
 clear htl10
 subst et
 obtain ⟨y11, tl12, et, htl12⟩ := len_succ htl11
 clear htl11
 subst et
 obtain ⟨y12, tl13, et, htl13⟩ := len_succ htl12
 clear htl12
 subst et
 obtain ⟨y13, tl14, et, htl14⟩ := len_succ htl13
 clear htl13
 subst et
 obtain ⟨y14, tl15, et, htl15⟩ := len_succ htl14
 clear htl14
 subst et
 obtain ⟨y15, tl16, et, htl16⟩ := len_succ htl15
 clear htl15
 subst et
 have et := List.eq_nil_of_length_eq_zero htl16
 clear htl16
 subst et
 have g1 : y1 = .pointer (some ⟨b1, 0, none⟩) := f1
 have g2 : y2 = .pointer (some ⟨b2, 0, none⟩) := f2
 clear f1 f2
 subst hd g1 g2
 clear hI hall hln c3 hS hS0 hV hs hz hQQ hA hO O ev CW v_0 i_0 s_0 v_1 i_1 s_1 v_2 i_2 s_2 v_3 i_3 s_3 v_4 i_4 s_4 v_5 i_5 s_5 v_6 i_6 s_6 v_7 i_7 s_7 v_8 i_8 s_8 v_9 i_9 s_9 v_10 i_10 s_10 v_11 i_11 s_11 v_12 i_12 s_12 v_13 i_13 s_13 i_14
 as_aux_lemma =>
 go_wp2_with (with_reducible (show wpList _ _ _ (⟨_, Op.load 27 _, _, _, _, _⟩ :: _) _ _); refine halt ?_)
 refine Lib.hid (ld_box rfl 27 _ rfl b1 _ rfl B3.out Tryz.underlying27 rfl (by kernel_rfl) ?_)
 refine st_box rfl 27 _ _ rfl b2 _ [.int .u64 am, .string sg, .string tk, .slice a' n c'] rfl rfl (B2.out.ch C3.out n12) rfl (by kernel_rfl) (onec4 rfl rfl rfl rfl) ?_
 intro w5 B5 c5
 have HL : Hid ((loadVar 27 ⟨b2, 0, none⟩).run Tryz.prog w5 = .ok (.agg #[.int .u64 am, .string sg, .string tk, .slice a' n c']) w5) := B5.load _ Tryz.underlying27 rfl (by kernel_rfl)
 have Q5 : Hid (Q w0 w5) := c5.q (C3.out.q HQ.out hb1) hb2
 have O5 := Lib.hid ((O3.out.low c5 l2).downd lA)
 clear B5 c5 O3
 go_wp2_with fail
 (try simp only [Exit.inBlock, Exit.then])
 refine bodyPost_ret (results_cell rfl rfl HL.out) rfl ?_
 exact ⟨a', c', rfl, O5.out, Q5.out⟩
set_option maxHeartbeats 8000000 in
theorem copy_x (t : TX) (aI : Option Addr) (cI : Nat) (aO : Option Addr) (cO : Nat) (aW : Option Addr) (cW : Nat) (w0 : World) (hi : SL IN.cells 4 w0 aI t.nI t.ins) (ho : SL OU.cells 9 w0 aO t.nO t.outs) (hw : SL WN.cells 10 w0 aW t.p.n t.p.w) (hk : t.ok) :
 Calls Tryz.prog 12 #[txV t aI cI aO cO aW cW] w0 fun e w' => ∃ eI dI eO dO eW dW, e = .returned (txV t eI dI eO dO eW dW) ∧ OR 53 IN.cells 4 w' w0.heap.size eI t.nI dI t.ins ∧ OR 47 OU.cells 9 w' w0.heap.size eO t.nO dO t.outs ∧ OR 135 WN.cells 10 w' w0.heap.size eW t.p.n dW t.p.w ∧ Q w0 w' := by
 have HP : Hid (∀ w, Q w0 w → Calls Tryz.prog 52 #[pfV t.p aW cW] w fun e w' => ∃ a' c', e = .returned (pfV t.p a' c') ∧ OR 135 WN.cells 10 w' w.heap.size a' t.p.n c' t.p.w ∧ Q w w') := fun w q => copyproof_x t.p aW cW w (hw.q q) hk.p
 have HI : Hid (∀ w, Q w0 w → Calls Tryz.prog 48 #[.slice aI t.nI cI, .func (.func 49) #[] #[]] w fun e w' => ∃ a' c', e = .returned (.slice a' t.nI c') ∧ OR 53 IN.cells 4 w' w.heap.size a' t.nI c' t.ins ∧ Q w w') := fun w q => copiesI_x aI t.nI cI t.ins w (hi.q q) hk.nI hk.ins
 have HO : Hid (∀ w, Q w0 w → Calls Tryz.prog 50 #[.slice aO t.nO cO, .func (.func 51) #[] #[]] w fun e w' => ∃ a' c', e = .returned (.slice a' t.nO c') ∧ OR 47 OU.cells 9 w' w.heap.size a' t.nO c' t.outs ∧ Q w w') := fun w q => copiesO_x aO t.nO cO t.outs w (ho.q q) hk.nO hk.outs
 clear hi ho hw hk
 obtain ⟨nI, fI, nO, fO, pf⟩ := t
 obtain ⟨am, sg, tk, n, fW⟩ := pf
 dsimp only at *
 go_enter Tryz.func12, Tryz.ntmps12
 go_wp2_with fail
 have HQ : Hid (Q w0 ((w0.alloc (.cells #[.slice aI nI cI, .slice aO nO cO, .int .u64 am, .string sg, .string tk, .slice aW n cW] 29)).alloc (.cells #[.slice none 0 0, .slice none 0 0, .int .u64 0, .string ⟨#[]⟩, .string ⟨#[]⟩, .slice none 0 0] 29))) := ((Q.refl w0).alloc _).alloc _
 have B1 : Hid (Box ((w0.alloc (.cells #[.slice aI nI cI, .slice aO nO cO, .int .u64 am, .string sg, .string tk, .slice aW n cW] 29)).alloc (.cells #[.slice none 0 0, .slice none 0 0, .int .u64 0, .string ⟨#[]⟩, .string ⟨#[]⟩, .slice none 0 0] 29)) w0.heap.size [.slice aI nI cI, .slice aO nO cO, .int .u64 am, .string sg, .string tk, .slice aW n cW]) := (Box.new w0 [.slice aI nI cI, .slice aO nO cO, .int .u64 am, .string sg, .string tk, .slice aW n cW] 29).q ((Q.refl _).alloc _)
 have B2 : Hid (Box ((w0.alloc (.cells #[.slice aI nI cI, .slice aO nO cO, .int .u64 am, .string sg, .string tk, .slice aW n cW] 29)).alloc (.cells #[.slice none 0 0, .slice none 0 0, .int .u64 0, .string ⟨#[]⟩, .string ⟨#[]⟩, .slice none 0 0] 29)) (w0.heap.size + 1) [.slice none 0 0, .slice none 0 0, .int .u64 0, .string ⟨#[]⟩, .string ⟨#[]⟩, .slice none 0 0]) := by
  have := Box.new (w0.alloc (.cells #[.slice aI nI cI, .slice aO nO cO, .int .u64 am, .string sg, .string tk, .slice aW n cW] 29)) [.slice none 0 0, .slice none 0 0, .int .u64 0, .string ⟨#[]⟩, .string ⟨#[]⟩, .slice none 0 0] 29
  rw [show (w0.alloc (.cells #[.slice aI nI cI, .slice aO nO cO, .int .u64 am, .string sg, .string tk, .slice aW n cW] 29)).heap.size = w0.heap.size + 1 by simp] at this
  exact this
 generalize (w0.alloc (.cells #[.slice aI nI cI, .slice aO nO cO, .int .u64 am, .string sg, .string tk, .slice aW n cW] 29)).alloc (.cells #[.slice none 0 0, .slice none 0 0, .int .u64 0, .string ⟨#[]⟩, .string ⟨#[]⟩, .slice none 0 0] 29) = wA at *
 have hb2 : w0.heap.size ≤ w0.heap.size + 1 := by omega
 have n12 : w0.heap.size + 1 ≠ w0.heap.size := by omega
 obtain ⟨b2, hb⟩ : ∃ b, w0.heap.size + 1 = b := ⟨_, rfl⟩
 rw [hb] at B2 hb2 n12 ⊢
 obtain ⟨b1, hb'⟩ : ∃ b, w0.heap.size = b := ⟨_, rfl⟩
 have hb1 : w0.heap.size ≤ b1 := by omega
 rw [hb'] at B1 n12 ⊢
 clear hb hb'
 have hS0 : Q wA wA.drew := (Q.refl wA).drew
 refine region_gen3 ?_
 intro OPS QQ A0 hO hQQ hA
 have hz : A0.tmps.size = 13 := by rw [hA]; rfl
 have hs : sound OPS A0.tmps.size = true := by rw [hz, hO]; kernel_rfl
 have b_1 : A0.eval (.tmp 1) = .pointer (some ⟨b1, 0, none⟩) := by rw [hA]; rfl
 have fr_1 : free OPS 1 = true := by rw [hO]; kernel_rfl
 have b_2 : A0.eval (.tmp 2) = .pointer (some ⟨b2, 0, none⟩) := by rw [hA]; rfl
 have fr_2 : free OPS 2 = true := by rw [hO]; kernel_rfl
 obtain ⟨VV, hVV⟩ : ∃ V : Nat → Value → World → Prop, V = fun i => ([fun v _ => v = .pointer (some ⟨b1, 0, none⟩), fun v _ => v = .slice aI nI cI, fun v w => ∃ a' c', v = .slice a' nI c' ∧ OR 53 IN.cells 4 w wA.heap.size a' nI c' fI, fun v _ => v = .pointer (some ⟨b1, 1, none⟩), fun v _ => v = .slice aO nO cO, fun v w => ∃ a' c', v = .slice a' nO c' ∧ OR 47 OU.cells 9 w wA.heap.size a' nO c' fO, fun v _ => v = .pointer (some ⟨b1, 2, none⟩), fun v _ => v = .agg #[.int .u64 am, .string sg, .string tk, .slice aW n cW], fun v w => ∃ a' c', v = .agg #[.int .u64 am, .string sg, .string tk, .slice a' n c'] ∧ OR 135 WN.cells 10 w wA.heap.size a' n c' fW, fun v w => ∃ eI dI eO dO eW dW, v = .agg #[.slice eI nI dI, .slice eO nO dO, .int .u64 am, .string sg, .string tk, .slice eW n dW] ∧ OR 53 IN.cells 4 w wA.heap.size eI nI dI fI ∧ OR 47 OU.cells 9 w wA.heap.size eO nO dO fO ∧ OR 135 WN.cells 10 w wA.heap.size eW n dW fW] : List (Value → World → Prop)).getD i (fun _ _ => True) := ⟨_, rfl⟩
 have v_0 : VV 0 = fun v _ => v = .pointer (some ⟨b1, 0, none⟩) := vat hVV 0
 have v_1 : VV 1 = fun v _ => v = .slice aI nI cI := vat hVV 1
 have v_2 : VV 2 = fun v w => ∃ a' c', v = .slice a' nI c' ∧ OR 53 IN.cells 4 w wA.heap.size a' nI c' fI := vat hVV 2
 have v_3 : VV 3 = fun v _ => v = .pointer (some ⟨b1, 1, none⟩) := vat hVV 3
 have v_4 : VV 4 = fun v _ => v = .slice aO nO cO := vat hVV 4
 have v_5 : VV 5 = fun v w => ∃ a' c', v = .slice a' nO c' ∧ OR 47 OU.cells 9 w wA.heap.size a' nO c' fO := vat hVV 5
 have v_6 : VV 6 = fun v _ => v = .pointer (some ⟨b1, 2, none⟩) := vat hVV 6
 have v_7 : VV 7 = fun v _ => v = .agg #[.int .u64 am, .string sg, .string tk, .slice aW n cW] := vat hVV 7
 have v_8 : VV 8 = fun v w => ∃ a' c', v = .agg #[.int .u64 am, .string sg, .string tk, .slice a' n c'] ∧ OR 135 WN.cells 10 w wA.heap.size a' n c' fW := vat hVV 8
 have v_9 : VV 9 = fun v w => ∃ eI dI eO dO eW dW, v = .agg #[.slice eI nI dI, .slice eO nO dO, .int .u64 am, .string sg, .string tk, .slice eW n dW] ∧ OR 53 IN.cells 4 w wA.heap.size eI nI dI fI ∧ OR 47 OU.cells 9 w wA.heap.size eO nO dO fO ∧ OR 135 WN.cells 10 w wA.heap.size eW n dW fW := vat hVV 9
 have hV := stablex_of (T := Q) (p := 10) hVV ((sx_cons (fun _ _ _ h _ => h) (sx_cons (fun _ _ _ h _ => h) (sx_cons (fun v w w' h t => by obtain ⟨a', c', h1, h2⟩ := h; exact ⟨a', c', h1, h2.q t⟩) (sx_cons (fun _ _ _ h _ => h) (sx_cons (fun _ _ _ h _ => h) (sx_cons (fun v w w' h t => by obtain ⟨a', c', h1, h2⟩ := h; exact ⟨a', c', h1, h2.q t⟩) (sx_cons (fun _ _ _ h _ => h) (sx_cons (fun _ _ _ h _ => h) (sx_cons (fun v w w' h t => by obtain ⟨a', c', h1, h2⟩ := h; exact ⟨a', c', h1, h2.q t⟩) (sx_cons (fun v w w' h t => by obtain ⟨eI, dI, eO, dO, eW, dW, h1, h2, h3, h4⟩ := h; exact ⟨eI, dI, eO, dO, eW, dW, h1, h2.q t, h3.q t, h4.q t⟩) trivial)))))))))))
 clear hVV
 have i_0 := pget_at hO 0 rfl
 have i_1 := pget_at hO 1 rfl
 have i_2 := pget_at hO 2 rfl
 have i_3 := pget_at hO 3 rfl
 have i_4 := pget_at hO 4 rfl
 have i_5 := pget_at hO 5 rfl
 have i_6 := pget_at hO 6 rfl
 have i_7 := pget_at hO 7 rfl
 have i_8 := pget_at hO 8 rfl
 have i_9 := pget_at hO 9 rfl
 have i_10 := pget_at hO 10 rfl
 have MK39 := @Step2.pure Tryz.prog OPS QQ VV Q (Q wA) A0 10
 have s_0 := MK39 i_0 (by rw [hO]; kernel_rfl) (.pointer (some ⟨b1, 0, none⟩)) (Q.refl ·) (fun l a w hI hl hS => ⟨wanted_none rfl, (by have e0 : a.eval (.tmp 1) = _ := ((hI.base 1 fr_1).trans b_1); generalize a.eval = ρ at e0 ⊢; simp [go_sem, e0]), at_mk v_0 rfl⟩)
 have s_1 := MK39 i_1 (by rw [hO]; kernel_rfl) (.slice aI nI cI) (Q.refl ·) (fun l a w hI hl hS => ⟨wanted_none rfl, (by have e0 : a.eval (.tmp 3) = _ := (at_eq v_0 (hI.at_ 0 3 _ i_0 rfl (hl_at hl 0 rfl rfl))); have x0 := (B1.out.q hS).at_ 0 _ rfl; generalize a.eval = ρ at e0 ⊢; simp [go_sem, e0, x0]), at_mk v_1 rfl⟩)
 have MK40 := @Step2.done Tryz.prog OPS QQ VV Q (Q wA) A0 10
 have s_2 := MK40 i_2 (by rw [hO]; kernel_rfl) (fun l a w hI hl hS => by
  refine ⟨wanted_none rfl, ?_⟩
  refine wp_enter (f := 48) (args := #[.slice aI nI cI, .func (.func 49) #[] #[]]) ?_ ?_
  · exact ex_call rfl (by simp only [List.map_toArray, List.map_cons, List.map_nil, (show a.eval (.tmp 4) = _ from (at_eq v_1 (hI.at_ 1 4 _ i_1 rfl (hl_at hl 0 rfl rfl))))]; rfl) Tryz.func48 (by kernel_rfl) (by kernel_rfl)
  · refine (HI.out w (HQ.out.trans hS)).mono fun e w' hc => ?_
    obtain ⟨a', c', rfl, ho, hq⟩ := hc
    exact ⟨_, rfl, hq, hS.trans hq, p_at v_2 ⟨a', c', rfl, ho.downd hS.size⟩⟩)
 have s_3 := MK39 i_3 (by rw [hO]; kernel_rfl) (.pointer (some ⟨b1, 1, none⟩)) (Q.refl ·) (fun l a w hI hl hS => ⟨wanted_none rfl, (by have e0 : a.eval (.tmp 1) = _ := ((hI.base 1 fr_1).trans b_1); generalize a.eval = ρ at e0 ⊢; simp [go_sem, e0]), at_mk v_3 rfl⟩)
 have s_4 := MK39 i_4 (by rw [hO]; kernel_rfl) (.slice aO nO cO) (Q.refl ·) (fun l a w hI hl hS => ⟨wanted_none rfl, (by have e0 : a.eval (.tmp 6) = _ := (at_eq v_3 (hI.at_ 3 6 _ i_3 rfl (hl_at hl 0 rfl rfl))); have x0 := (B1.out.q hS).at_ 1 _ rfl; generalize a.eval = ρ at e0 ⊢; simp [go_sem, e0, x0]), at_mk v_4 rfl⟩)
 have s_5 := MK40 i_5 (by rw [hO]; kernel_rfl) (fun l a w hI hl hS => by
  refine ⟨wanted_none rfl, ?_⟩
  refine wp_enter (f := 50) (args := #[.slice aO nO cO, .func (.func 51) #[] #[]]) ?_ ?_
  · exact ex_call rfl (by simp only [List.map_toArray, List.map_cons, List.map_nil, (show a.eval (.tmp 7) = _ from (at_eq v_4 (hI.at_ 4 7 _ i_4 rfl (hl_at hl 0 rfl rfl))))]; rfl) Tryz.func50 (by kernel_rfl) (by kernel_rfl)
  · refine (HO.out w (HQ.out.trans hS)).mono fun e w' hc => ?_
    obtain ⟨a', c', rfl, ho, hq⟩ := hc
    exact ⟨_, rfl, hq, hS.trans hq, p_at v_5 ⟨a', c', rfl, ho.downd hS.size⟩⟩)
 have s_6 := MK39 i_6 (by rw [hO]; kernel_rfl) (.pointer (some ⟨b1, 2, none⟩)) (Q.refl ·) (fun l a w hI hl hS => ⟨wanted_none rfl, (by have e0 : a.eval (.tmp 1) = _ := ((hI.base 1 fr_1).trans b_1); generalize a.eval = ρ at e0 ⊢; simp [go_sem, e0]), at_mk v_6 rfl⟩)
 have s_7 := MK39 i_7 (by rw [hO]; kernel_rfl) (.agg #[.int .u64 am, .string sg, .string tk, .slice aW n cW]) (Q.refl ·) (fun l a w hI hl hS => ⟨wanted_none rfl, ex_loado 27 rfl b1 2 [.int .u64 am, .string sg, .string tk, .slice aW n cW] _ (at_eq v_6 (hI.at_ 6 9 _ i_6 rfl (hl_at hl 0 rfl rfl))) ((B1.out.q hS).rangeo 2 (r := []) rfl) Tryz.underlying27 rfl (by kernel_rfl), at_mk v_7 rfl⟩)
 have s_8 := MK40 i_8 (by rw [hO]; kernel_rfl) (fun l a w hI hl hS => by
  refine ⟨wanted_none rfl, ?_⟩
  refine wp_enter (f := 52) (args := #[.agg #[.int .u64 am, .string sg, .string tk, .slice aW n cW]]) ?_ ?_
  · exact ex_call rfl (by simp only [List.map_toArray, List.map_cons, List.map_nil, (show a.eval (.tmp 10) = _ from (at_eq v_7 (hI.at_ 7 10 _ i_7 rfl (hl_at hl 0 rfl rfl))))]) Tryz.func52 (by kernel_rfl) (by kernel_rfl)
  · refine (HP.out w (HQ.out.trans hS)).mono fun e w' hc => ?_
    obtain ⟨a', c', rfl, ho, hq⟩ := hc
    exact ⟨_, rfl, hq, hS.trans hq, p_at v_8 ⟨a', c', rfl, ho.downd hS.size⟩⟩)
 have s_9 := MK40 i_9 (by rw [hO]; kernel_rfl) (fun l a w hI hl hS => by
  obtain ⟨eI, dI, e5, o5⟩ := at_p v_2 (hI.at_ 2 5 _ i_2 rfl (hl_at hl 0 rfl rfl))
  obtain ⟨eO, dO, e8, o8⟩ := at_p v_5 (hI.at_ 5 8 _ i_5 rfl (hl_at hl 1 rfl rfl))
  obtain ⟨eW, dW, e11, o11⟩ := at_p v_8 (hI.at_ 8 11 _ i_8 rfl (hl_at hl 2 rfl rfl))
  refine ⟨wanted_none rfl, ?_⟩
  refine wpo_ctx eI nI dI eO nO dO am sg tk eW n dW rfl e5 e8 e11 ?_
  exact ⟨_, rfl, Q.refl w, hS, p_at v_9 ⟨eI, dI, eO, dO, eW, dW, rfl, o5, o8, o11⟩⟩)
 refine wp_plan2 VV (Q) (Q wA) 10 10 (by kernel_rfl) hs (by rw [hO]; rfl) (by rw [hO]; kernel_rfl) hV hS0 (steps2_all hO _ rfl ((s2_cons s_0 (s2_cons s_1 (s2_cons s_2 (s2_cons s_3 (s2_cons s_4 (s2_cons s_5 (s2_cons s_6 (s2_cons s_7 (s2_cons s_8 (s2_cons s_9 trivial)))))))))))) ?_
 intro l a w hall hln hI
 have hS := hI.st hln
 obtain ⟨eI, dI, eO, dO, eW, dW, ev, o5, o8, o11⟩ := (at_p v_9 (hI.at_ 9 12 _ i_9 rfl (hall 9 (by decide))))
 refine fin_of i_10 (wanted_none rfl) ?_
 refine wpo_st_box 29 _ _ rfl b2 _ [.slice eI nI dI, .slice eO nO dO, .int .u64 am, .string sg, .string tk, .slice eW n dW] ((hI.base 2 fr_2).trans b_2) ev (B2.out.q hS) rfl (by kernel_rfl) (onec6 rfl rfl rfl rfl rfl rfl) ?_
 intro w3 B3 c3
 have e2 : a.tmps.getD 2 undef = .pointer (some ⟨b2, 0, none⟩) := ((hI.base 2 fr_2).trans b_2)
 have hd : a.defers = [] := by rw [hI.df, hA]
 have HL : Hid ((loadVar 29 ⟨b2, 0, none⟩).run Tryz.prog w3 = .ok (.agg #[.slice eI nI dI, .slice eO nO dO, .int .u64 am, .string sg, .string tk, .slice eW n dW]) w3) := B3.load _ Tryz.underlying29 rfl (by kernel_rfl)
 have Q3 : Hid (Q w0 w3) := c3.q (HQ.out.trans hS) hb2
 have l2 : b2 < wA.heap.size := B2.out.lt
 have hx : ∀ {α : Type} {ty : TypeId} {C : α → List Value} {k : Nat} {ad : Option Addr} {n c : Nat} {f : Nat → α}, OR ty C k w wA.heap.size ad n c f → OR ty C k w3 w0.heap.size ad n c f := fun h => (h.low c3 l2).downd HQ.out.size
 have O5 := Lib.hid (hx o5)
 have O8 := Lib.hid (hx o8)
 have O11 := Lib.hid (hx o11)
 rw [hQQ]
 clear hI hall hln c3 B3 hS hx o5 o8 o11
 go_wp2_with fail
 (try simp only [Exit.inBlock, Exit.then])
 refine bodyPost_ret (results_cell rfl e2 HL.out) hd ?_
 exact ⟨eI, dI, eO, dO, eW, dW, rfl, O5.out, O8.out, O11.out, Q3.out⟩
end Go.Proofs.YtobfgljkckcmcaaGreatDoor.Coi
