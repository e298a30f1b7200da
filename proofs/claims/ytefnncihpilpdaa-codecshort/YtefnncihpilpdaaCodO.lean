/-
  Layer 3: the order of what is written; four Writers side by side.
-/
import Derived.Test.YtefnncihpilpdaaCodT2
namespace Go.Proofs.Ytefnncihpilpdaa.Cod
open Go.RowKit
open Mem Num
set_option linter.unusedVariables false

theorem less_self : ∀ l : List UInt8, Op.bytesLess l l = false
  | [] => rfl
  | a :: l => by simp [Op.bytesLess, less_self l]
theorem putS_eq (a b : Int) (ha : 0 ≤ a) (ha' : a ≤ 18446744073709551615) (hb : 0 ≤ b) (hb' : b ≤ 18446744073709551615) :
    ((putS a).toList == (putS b).toList) = decide (a = b) := by
  by_cases h : a = b
  · subst h; simp
  · rw [decide_eq_false h]
    apply Bool.eq_false_iff.2
    intro k
    have k' := eq_of_beq k
    have l1 := putS_less a b ha ha' hb hb'
    have l2 := putS_less b a hb hb' ha ha'
    rw [k', less_self] at l1
    rw [← k', less_self] at l2
    have := of_decide_eq_false l1.symm
    have := of_decide_eq_false l2.symm
    omega
theorem blobS_list (s : ByteArray) : (blobS s).toList = UInt8.ofNat ((s.size : Int) / 256).toNat :: UInt8.ofNat ((s.size : Int) % 256).toNat :: s.toList := by
  unfold blobS
  rw [ByteArray.toList_eq, ByteArray.toList_eq]
  simp [strOfNums]
theorem blobS_less (p q : ByteArray) (hp : p.size ≤ 300) (hq : q.size ≤ 300) :
    Op.bytesLess (blobS p).toList (blobS q).toList = (decide (p.size < q.size) || (decide (p.size = q.size) && Op.bytesLess p.toList q.toList)) := by
  rw [blobS_list, blobS_list]
  have a1 : (0 : Int) ≤ (p.size : Int) / 256 ∧ (p.size : Int) / 256 ≤ 255 := by omega
  have a2 : (0 : Int) ≤ (q.size : Int) / 256 ∧ (q.size : Int) / 256 ≤ 255 := by omega
  have b1 : (0 : Int) ≤ (p.size : Int) % 256 ∧ (p.size : Int) % 256 ≤ 255 := by omega
  have b2 : (0 : Int) ≤ (q.size : Int) % 256 ∧ (q.size : Int) % 256 ≤ 255 := by omega
  rw [Bool.eq_iff_iff]
  simp only [Op.bytesLess, Bool.or_eq_true, Bool.and_eq_true, decide_eq_true_eq, beq_iff_eq, u8_lt _ _ a1 a2, u8_eq _ _ a1 a2, u8_lt _ _ b1 b2, u8_eq _ _ b1 b2]
  constructor
  · rintro (h | ⟨h1, h | ⟨h2, h3⟩⟩)
    · left; omega
    · left; omega
    · right; exact ⟨by omega, h3⟩
  · rintro (h | ⟨h1, h2⟩)
    · by_cases k : (p.size : Int) / 256 < (q.size : Int) / 256
      · exact .inl k
      · exact .inr ⟨by omega, .inl (by omega)⟩
    · exact .inr ⟨by omega, .inr ⟨by omega, h2⟩⟩

/-- A new Writer among others. -/
theorem WR.fresh {w : World} {g K : Nat} {t : TypeId} (hc : ∀ o, w.cell? ⟨g, o, none⟩ = #[Value.pointer none, .int .i64 0, .int .i64 0][o]?) (hf : ∀ j, w.frozen? ⟨g, j, none⟩ = false) (hg : g ≤ K) (hK : K < w.heap.size) : WR w g K ByteArray.empty 0 :=
  ⟨⟨none, [], hc 0, rfl, rfl⟩, hc 1, hc 2, hf, hg, hK, fun h => absurd rfl h⟩
theorem wrT_new (t : ByteArray) : wrT ByteArray.empty 0 t 0 = t := by unfold wrT; rw [if_pos rfl, if_pos rfl, ByteArray.empty_append]

structure OI (W : World) (g : Nat) (x y u v : ByteArray) (w : World) : Prop where
  x : WR w g (g + 3) x 0
  y : WR w (g + 1) (g + 3) y 0
  u : WR w (g + 2) (g + 3) u 0
  v : WR w (g + 3) (g + 3) v 0
  q : Q W w
  le : W.heap.size ≤ g
section
variable {W w w' : World} {g : Nat} {x y u v t : ByteArray}
theorem OI.up (h : OI W g x y u v w) (q : Q w w') : OI W g x y u v w' := ⟨h.x.q q, h.y.q q, h.u.q q, h.v.q q, h.q.trans q, h.le⟩
theorem OI.num1 (h : OI W g ByteArray.empty y u v w) (n : Int) (n0 : 0 ≤ n) (n1 : n ≤ 18446744073709551615) :
    Calls Try.prog 36 #[.pointer (some ⟨g, 0, none⟩), .int .u64 n] w fun r w' => r = .returned (.tuple #[]) ∧ OI W g (putS n) y u v w' :=
  (num_x h.x n (by decide) n0 n1 (wrT_new _)).mono fun r w' ⟨a, b, c⟩ => ⟨a, b, h.y.ch' c (by omega) (by omega), h.u.ch' c (by omega) (by omega), h.v.ch' c (by omega) (by omega), c.q h.q h.le, h.le⟩
theorem OI.num2 (h : OI W g x ByteArray.empty u v w) (n : Int) (n0 : 0 ≤ n) (n1 : n ≤ 18446744073709551615) :
    Calls Try.prog 36 #[.pointer (some ⟨g + 1, 0, none⟩), .int .u64 n] w fun r w' => r = .returned (.tuple #[]) ∧ OI W g x (putS n) u v w' :=
  (num_x h.y n (by decide) n0 n1 (wrT_new _)).mono fun r w' ⟨a, b, c⟩ => ⟨a, h.x.ch' c (by omega) (by omega), b, h.u.ch' c (by omega) (by omega), h.v.ch' c (by omega) (by omega), c.q h.q (by have := h.le; omega), h.le⟩
theorem wbE_small (s : ByteArray) (hs : s.size ≤ 300) : wbE s = 0 := by unfold wbE; rw [if_pos (by omega)]
theorem OI.blob3 (h : OI W g x y ByteArray.empty v w) (s : ByteArray) (hs : s.size ≤ 300) :
    Calls Try.prog 37 #[.pointer (some ⟨g + 2, 0, none⟩), .string s] w fun r w' => r = .returned (.tuple #[]) ∧ OI W g x y (blobS s) v w' :=
  (blob_x h.u s (by decide) (by rw [wbE_small s hs]; exact wrT_new _) (by rw [wbE_small s hs]; rfl)).mono fun r w' ⟨a, b, c⟩ => ⟨a, h.x.ch' c (by omega) (by omega), h.y.ch' c (by omega) (by omega), b, h.v.ch' c (by omega) (by omega), c.q h.q (by have := h.le; omega), h.le⟩
theorem OI.blob4 (h : OI W g x y u ByteArray.empty w) (s : ByteArray) (hs : s.size ≤ 300) :
    Calls Try.prog 37 #[.pointer (some ⟨g + 3, 0, none⟩), .string s] w fun r w' => r = .returned (.tuple #[]) ∧ OI W g x y u (blobS s) w' :=
  (blob_x h.v s (by decide) (by rw [wbE_small s hs]; exact wrT_new _) (by rw [wbE_small s hs]; rfl)).mono fun r w' ⟨a, b, c⟩ => ⟨a, h.x.ch' c (by omega) (by omega), h.y.ch' c (by omega) (by omega), h.u.ch' c (by omega) (by omega), b, c.q h.q (by have := h.le; omega), h.le⟩
end

def newO (t : TypeId) : Obj := .cells #[.pointer none, .int .i64 0, .int .i64 0] t
theorem WR.among {V w : World} {g K : Nat} {t : TypeId} (hg : V.heap.size = g) (q : Q (V.alloc (newO t)) w) (hK : g ≤ K) (hw : K < w.heap.size) : WR w g K ByteArray.empty 0 := by
  subst hg
  have hc : ∀ o, (V.alloc (newO t)).cell? ⟨V.heap.size, o, none⟩ = #[Value.pointer none, .int .i64 0, .int .i64 0][o]? := fun o => by unfold newO; rw [World.cell?_alloc_at _ _ _ _ rfl]
  have hl : V.heap.size < (V.alloc (newO t)).heap.size := by simp
  refine WR.fresh (t := t) (fun o => ?_) (fun j => ?_) hK hw
  · rw [q.cell (p := ⟨V.heap.size, o, none⟩) hl]; exact hc o
  · rw [q.frozen (p := ⟨V.heap.size, j, none⟩) hl]; exact made_frozen V _ _ j
theorem OI.start (W V : World) (g : Nat) (hg : V.heap.size = g) (q : Q W V) (t : TypeId) : OI W g ByteArray.empty ByteArray.empty ByteArray.empty ByteArray.empty ((((V.alloc (newO t)).alloc (newO t)).alloc (newO t)).alloc (newO t)).drew := by
  subst hg
  have z1 : (V.alloc (newO t)).heap.size = V.heap.size + 1 := by simp
  have z2 : ((V.alloc (newO t)).alloc (newO t)).heap.size = V.heap.size + 2 := by simp
  have z3 : (((V.alloc (newO t)).alloc (newO t)).alloc (newO t)).heap.size = V.heap.size + 3 := by simp
  have z4 : ((((V.alloc (newO t)).alloc (newO t)).alloc (newO t)).alloc (newO t)).drew.heap.size = V.heap.size + 4 := by
    show ((((V.alloc (newO t)).alloc (newO t)).alloc (newO t)).alloc (newO t)).heap.size = _
    simp
  refine ⟨WR.among (V := V) rfl ((((Q.refl _).alloc _).alloc _).alloc _).drew (by omega) (by omega), WR.among z1 (((Q.refl _).alloc _).alloc _).drew (by omega) (by omega), WR.among z2 ((Q.refl _).alloc _).drew (by omega) (by omega), WR.among z3 (Q.refl _).drew (by omega) (by omega), ((((q.alloc _).alloc _).alloc _).alloc _).drew, q.size⟩

section
open Go.ChangeShapes Go.WideShapes Go.Deep
theorem okWide_array {P : Program} {w : World} {r : Reach} {base n : Nat} {t e : TypeId} {v : Value} (ht : P.underlying t = some (.array n e)) (h : Value.okWide P w r base t v) : ∃ cs, v = .agg cs ∧ cs.size = P.cellsOf t := by
  unfold Value.okWide at h
  cases v <;> simp_all [Program.underlying]
theorem arr2_open {W : World} {base : Nat} {v : Value} {H : Type} {enc : TypeId × Value → H} {d : DataW H} {p : List MemPlace}
    (hv : Value.okWide Try.prog W .any base 57 v) (h : DataW.Trod enc Try.prog W 0 (fun _ => true) true 57 v d p) :
    ∃ a b : Int, v = .agg #[.int .u64 a, .int .u64 b] ∧ (Lit.int .u64 a).wf = true ∧ (Lit.int .u64 b).wf = true := by
  have c1 : Try.prog.cellsOf 37 = 1 := by kernel_rfl
  have c2 : Try.prog.cellsOf 57 = 2 := by kernel_rfl
  obtain ⟨cs, rfl, hsz⟩ := okWide_array Try.underlying57 hv
  obtain ⟨x0, x1, rfl⟩ := Joins.array2 (hsz.trans c2)
  obtain ⟨fuel, hf⟩ := h
  obtain ⟨xs, m, _, _, _, hl, hg⟩ := DataW.trod_array Try.underlying57 hf
  have g0 := hg 0 (by omega)
  have g1 := hg 1 (by omega)
  rw [List.getElem?_eq_getElem (by omega)] at g0 g1
  obtain ⟨a, ea, _, wa⟩ := DataW.trod_int Try.underlying37 g0
  obtain ⟨b, eb, _, wb⟩ := DataW.trod_int Try.underlying37 g1
  simp [Value.cells, c1] at ea eb
  subst ea eb
  exact ⟨a, b, rfl, wa, wb⟩
theorem arr2s_open {W : World} {base : Nat} {v : Value} {H : Type} {enc : TypeId × Value → H} {d : DataW H} {p : List MemPlace}
    (hv : Value.okWide Try.prog W .any base 58 v) (h : DataW.Trod enc Try.prog W 0 (fun _ => true) true 58 v d p) :
    ∃ a b : ByteArray, v = .agg #[.string a, .string b] ∧ a.size ≤ maxLen ∧ b.size ≤ maxLen := by
  have c1 : Try.prog.cellsOf 9 = 1 := by kernel_rfl
  have c2 : Try.prog.cellsOf 58 = 2 := by kernel_rfl
  obtain ⟨cs, rfl, hsz⟩ := okWide_array Try.underlying58 hv
  obtain ⟨x0, x1, rfl⟩ := Joins.array2 (hsz.trans c2)
  obtain ⟨fuel, hf⟩ := h
  obtain ⟨xs, m, _, _, _, hl, hg⟩ := DataW.trod_array Try.underlying58 hf
  have g0 := hg 0 (by omega)
  have g1 := hg 1 (by omega)
  rw [List.getElem?_eq_getElem (by omega)] at g0 g1
  obtain ⟨a, ea, _, wa⟩ := DataW.trod_string Try.underlying9 g0
  obtain ⟨b, eb, _, wb⟩ := DataW.trod_string Try.underlying9 g1
  simp [Value.cells, c1] at ea eb
  subst ea eb
  exact ⟨a, b, rfl, wa, wb⟩
end
end Go.Proofs.Ytefnncihpilpdaa.Cod
