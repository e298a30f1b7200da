import Derived.Laws.BitsAllLaws
import Derived.Laws.Bits64b
import Derived.OpenShut
import Derived.Test.YtjiepemapffgjaaGreatDoorXHMem
import Derived.Lib.AppendStr
set_option maxRecDepth 100000
namespace Go.Proofs.YtjiepemapffgjaaGreatDoor.Sh
set_option linter.unusedVariables false
open Mem

/-- A word: below 2^32. -/
def Wd (x : Int) : Prop := 0 ≤ x ∧ x ≤ 4294967295
def xr (a b : Int) : Int := bits .xor .u32 a b
def an (a b : Int) : Int := bits .and .u32 a b
def ad (a b : Int) : Int := IntKind.u32.wrap (a + b)
/-- A word turned to the right. -/
def rot (x n : Int) : Int := bits .or .u32 (x / 2 ^ n.toNat) (IntKind.u32.wrap (x * 2 ^ (32 - n).toNat))
def s0 (x : Int) : Int := xr (xr (rot x 7) (rot x 18)) (x / 8)
def s1 (x : Int) : Int := xr (xr (rot x 17) (rot x 19)) (x / 1024)
def S0 (x : Int) : Int := xr (xr (rot x 2) (rot x 13)) (rot x 22)
def S1 (x : Int) : Int := xr (xr (rot x 6) (rot x 11)) (rot x 25)
def ch (e f g : Int) : Int := xr (an e f) (an (4294967295 - e) g)
def mj (a b c : Int) : Int := xr (xr (an a b) (an a c)) (an b c)

theorem ad_wd (a b : Int) : Wd (ad a b) := by unfold ad Wd; rw [IntKind.wrap_u32']; omega

/-- The words of 64 bytes: the first sixteen. -/
def wd (b : Nat → Int) (t : Nat) : Int := b (4 * t) * 16777216 + b (4 * t + 1) * 65536 + b (4 * t + 2) * 256 + b (4 * t + 3)
/-- The first n of them, zeros behind. -/
def w16 (b : Nat → Int) (n : Nat) : Nat → Int := fun t => if t < n then wd b t else 0
/-- .. and k more. -/
def wrow (b : Nat → Int) : Nat → Nat → Int
  | 0 => w16 b 16
  | k + 1 => upd (wrow b k) (16 + k) (ad (ad (ad (s1 (wrow b k (14 + k))) (wrow b k (9 + k))) (s0 (wrow b k (1 + k)))) (wrow b k k))
def Byts (b : Nat → Int) : Prop := ∀ j, 0 ≤ b j ∧ b j ≤ 255
theorem wd_wd (b : Nat → Int) (h : Byts b) (t : Nat) : Wd (wd b t) := by
  have := h (4 * t); have := h (4 * t + 1); have := h (4 * t + 2); have := h (4 * t + 3)
  unfold wd Wd; omega
theorem w16_wd (b : Nat → Int) (h : Byts b) (n t : Nat) : Wd (w16 b n t) := by
  unfold w16
  split
  · exact wd_wd b h t
  · unfold Wd; omega
theorem w16_succ (b : Nat → Int) (n : Nat) : upd (w16 b n) n (wd b n) = w16 b (n + 1) := by
  funext t
  unfold upd w16
  by_cases h : t = n
  · subst h; rw [if_pos rfl, if_pos (by omega)]
  · rw [if_neg h]
    by_cases h2 : t < n
    · rw [if_pos h2, if_pos (by omega)]
    · rw [if_neg h2, if_neg (by omega)]
theorem upd_wd {o : Nat → Int} (h : ∀ i, Wd (o i)) (x : Nat) {v : Int} (hv : Wd v) : ∀ i, Wd (upd o x v i) := by
  intro i; unfold upd; split
  · exact hv
  · exact h i
theorem wrow_wd (b : Nat → Int) (h : Byts b) : ∀ k t, Wd (wrow b k t)
  | 0 => w16_wd b h 16
  | k + 1 => upd_wd (wrow_wd b h k) _ (ad_wd _ _)

/-- One round: what p, q are, and the state behind it. -/
def rp (k w : Nat → Int) (t : Nat) (v : Nat → Int) : Int := ad (ad (ad (ad (v 7) (S1 (v 4))) (ch (v 4) (v 5) (v 6))) (k t)) (w t)
def rq (v : Nat → Int) : Int := ad (S0 (v 0)) (mj (v 0) (v 1) (v 2))
def round (k w : Nat → Int) (t : Nat) (v : Nat → Int) : Nat → Int := fun i => if i = 0 then ad (rp k w t v) (rq v) else if i = 4 then ad (v 3) (rp k w t v) else v (i - 1)
def rounds (k w : Nat → Int) (v : Nat → Int) : Nat → Nat → Int
  | 0 => v
  | t + 1 => round k w t (rounds k w v t)
theorem round_wd (k w : Nat → Int) (t : Nat) (v : Nat → Int) (h : ∀ i, Wd (v i)) : ∀ i, Wd (round k w t v i) := by
  intro i; unfold round; split
  · exact ad_wd _ _
  · split
    · exact ad_wd _ _
    · exact h _
theorem rounds_wd (k w : Nat → Int) (v : Nat → Int) (h : ∀ i, Wd (v i)) : ∀ t i, Wd (rounds k w v t i)
  | 0 => h
  | t + 1 => round_wd k w t _ (rounds_wd k w v h t)
/-- A state behind 64 bytes. -/
def stepS (k : Nat → Int) (st b : Nat → Int) : Nat → Int := fun i => ad (rounds k (wrow b 48) st 64 i) (st i)
theorem stepS_wd (k st b : Nat → Int) : ∀ i, Wd (stepS k st b i) := fun i => ad_wd _ _
end Go.Proofs.YtjiepemapffgjaaGreatDoor.Sh

namespace Go.Proofs.YtjiepemapffgjaaGreatDoor.Sh
open Go.RowKit
open Mem
set_option linter.unusedVariables false

def z64 : Obj := .cells (Array.replicate 64 (.int .u32 0)) 204
/-- What holds behind the words that are laid. -/
structure WI (W : World) (b : Nat → Int) (g off gz : Nat) (o : Nat → Int) (wr : World) : Prop where
  rb : Row .u8 wr g off 64 b
  rz : Row .u32 wr gz 0 64 o
  fz : ∀ j, wr.frozen? ⟨gz, j, none⟩ = false
  lt : gz < wr.heap.size
  q : Q W wr

theorem WI.set {W : World} {b : Nat → Int} {g off gz : Nat} {o : Nat → Int} {wr w2 : World} (h : WI W b g off gz o wr) (hne : g ≠ gz) (hz : W.heap.size ≤ gz) (x : Nat) (hx : x < 64) (v : Int) (hw : ∃ n, w2 = wr.drewN n) :
    WI W b g off gz (upd o x v) (w2.setCell ⟨gz, x, none⟩ (.int .u32 v)) := by
  obtain ⟨n, rfl⟩ := hw
  refine ⟨(h.rb.drewN n).other hne _, (h.rz.drewN n).set x hx v, fun j => ?_, ?_, (h.q.drewN n).setCell hz _⟩
  · have := h.fz j
    simpa using this
  · have := h.lt
    simpa using this

end Go.Proofs.YtjiepemapffgjaaGreatDoor.Sh

namespace Go.Proofs.YtjiepemapffgjaaGreatDoor.Sh
open Go.RowKit
open Mem
set_option linter.unusedVariables false

/-- The world behind 'append([]uint32{}, st...)'. -/
def WV (w1 : World) (st : Nat → Int) (C : Nat) : World := ((w1.alloc (.cells #[] 204)).alloc (.cells (#[.int .u32 (st 0), .int .u32 (st 1), .int .u32 (st 2), .int .u32 (st 3), .int .u32 (st 4), .int .u32 (st 5), .int .u32 (st 6), .int .u32 (st 7)] ++ Builtin.zeroCells #[.int .u32 0] C) 204)).drew
/-- What holds while the state v is turned. -/
structure SI (W : World) (gs gk gw gv : Nat) (st kf wf v : Nat → Int) (wr : World) : Prop where
  rs : Row .u32 wr gs 0 8 st
  rk : Row .u32 wr gk 0 64 kf
  rw : Row .u32 wr gw 0 64 wf
  rv : Row .u32 wr gv 0 8 v
  fz : ∀ j, wr.frozen? ⟨gv, j, none⟩ = false
  lt : gv < wr.heap.size
  q : Q W wr
theorem SI.set {W : World} {gs gk gw gv : Nat} {st kf wf v : Nat → Int} {wr w2 : World} (h : SI W gs gk gw gv st kf wf v wr) (h1 : gs ≠ gv) (h2 : gk ≠ gv) (h3 : gw ≠ gv) (hz : W.heap.size ≤ gv) (x : Nat) (hx : x < 8) (u : Int) (hw : ∃ n, w2 = wr.drewN n) :
    SI W gs gk gw gv st kf wf (upd v x u) (w2.setCell ⟨gv, x, none⟩ (.int .u32 u)) := by
  obtain ⟨n, rfl⟩ := hw
  refine ⟨(h.rs.drewN n).other h1 _, (h.rk.drewN n).other h2 _, (h.rw.drewN n).other h3 _, (h.rv.drewN n).set x hx u, fun j => ?_, ?_, (h.q.drewN n).setCell hz _⟩
  · have := h.fz j
    simpa using this
  · have := h.lt
    simpa using this
theorem SI.congr {W : World} {gs gk gw gv : Nat} {st kf wf v v' : Nat → Int} {wr : World} (h : SI W gs gk gw gv st kf wf v wr) (e : ∀ i, i < 8 → v i = v' i) : SI W gs gk gw gv st kf wf v' wr :=
  ⟨h.rs, h.rk, h.rw, fun i hi => by rw [← e i hi]; exact h.rv i hi, h.fz, h.lt, h.q⟩
theorem SI.drewN {W : World} {gs gk gw gv : Nat} {st kf wf v : Nat → Int} {wr : World} (h : SI W gs gk gw gv st kf wf v wr) (n : Nat) : SI W gs gk gw gv st kf wf v (wr.drewN n) :=
  ⟨h.rs.drewN n, h.rk.drewN n, h.rw.drewN n, h.rv.drewN n, fun j => h.fz j, h.lt, h.q.drewN n⟩

/-- The state, moved by one from place m on. -/
def shf (V : Nat → Int) (m : Nat) : Nat → Int := fun j => if m < j then V (j - 1) else V j
def fin (V st : Nat → Int) (m : Nat) : Nat → Int := fun j => if j < m then ad (V j) (st j) else V j
end Go.Proofs.YtjiepemapffgjaaGreatDoor.Sh

namespace Go.Proofs.YtjiepemapffgjaaGreatDoor.Sh
open Go.RowKit
open Mem
set_option linter.unusedVariables false

def Kl : List Int := [1116352408, 1899447441, 3049323471, 3921009573, 961987163, 1508970993, 2453635748, 2870763221,
  3624381080, 310598401, 607225278, 1426881987, 1925078388, 2162078206, 2614888103, 3248222580,
  3835390401, 4022224774, 264347078, 604807628, 770255983, 1249150122, 1555081692, 1996064986,
  2554220882, 2821834349, 2952996808, 3210313671, 3336571891, 3584528711, 113926993, 338241895,
  666307205, 773529912, 1294757372, 1396182291, 1695183700, 1986661051, 2177026350, 2456956037,
  2730485921, 2820302411, 3259730800, 3345764771, 3516065817, 3600352804, 4094571909, 275423344,
  430227734, 506948616, 659060556, 883997877, 958139571, 1322822218, 1537002063, 1747873779,
  1955562222, 2024104815, 2227730452, 2361852424, 2428436474, 2756734187, 3204031479, 3329325298]
def K (i : Nat) : Int := Kl.getD i 0
def Il : List Int := [1779033703, 3144134277, 1013904242, 2773480762, 1359893119, 2600822924, 528734635, 1541459225]
def I0 (i : Nat) : Int := Il.getD i 0
theorem getD_wd (l : List Int) (h : ∀ x ∈ l, Wd x) (i : Nat) : Wd (l.getD i 0) := by
  rw [List.getD_eq_getElem?_getD]
  by_cases hi : i < l.length
  · rw [List.getElem?_eq_getElem hi]; exact h _ (List.getElem_mem hi)
  · rw [List.getElem?_eq_none (by omega)]; unfold Wd; simp
theorem I0_wd (i : Nat) : Wd (I0 i) := getD_wd Il (by unfold Wd; decide +kernel) i

def kobj : Obj := .cells (Kl.map (Value.int .u32)).toArray 204
def vals (k : IntKind) (l : List Int) : List Value := l.map (Value.int k)
theorem vals_append (k : IntKind) (l m : List Int) : vals k l ++ vals k m = vals k (l ++ m) := by unfold vals; rw [List.map_append]
/-- A row of one's own, told as numbers. -/
theorem own_row {k : IntKind} {w : World} {base : Nat} {t : TypeId} {v : Value} {n : Nat} {l : List Int} (h : w.ownsRow base t 1 v (n + 1) (vals k l)) :
    ∃ g cap, v = .slice (some ⟨g, 0, none⟩) (n + 1) cap ∧ n + 1 ≤ cap ∧ cap ≤ maxLen ∧ Row k w g 0 (n + 1) (fun j => l.getD j 0) ∧ (∀ i, w.frozen? ⟨g, i, none⟩ = false) ∧ base ≤ g ∧ g < w.heap.size := by
  obtain ⟨g, cap, rfl⟩ := ownsRow_succ h
  have hl := h.lt g rfl
  obtain ⟨c1, c2⟩ : n + 1 ≤ cap ∧ cap ≤ maxLen := by
    obtain ⟨_, h | ⟨g', cap', cur, h, _, _, h4, h5, _⟩⟩ := h
    · simp at h
    · simp only [Value.slice.injEq] at h
      obtain ⟨_, _, rfl⟩ := h
      exact ⟨h4, h5⟩
  have hlen : l.length = n + 1 := by have := h.1; unfold vals at this; simpa using this
  refine ⟨g, cap, rfl, c1, c2, fun j hj => ?_, fun i => h.frozenAt i, hl.1, hl.2⟩
  rw [Nat.zero_add, h.cellAt j (by omega)]
  unfold vals
  show _ = some (Value.int k (l.getD j 0))
  rw [List.getElem?_map, List.getD_eq_getElem?_getD, List.getElem?_eq_getElem (show j < l.length by omega)]
  rfl

def sb (s : ByteArray) : List Int := s.data.toList.map fun b => (b.toNat : Int)
theorem sb_len (s : ByteArray) : (sb s).length = s.size := by unfold sb; rw [List.length_map, Array.length_toList]; rfl
def dv (n : Int) : Nat → Int
  | 0 => n
  | j + 1 => dv n j / 256
theorem dv_bd (n : Int) (h : 0 ≤ n) : ∀ j, 0 ≤ dv n j ∧ dv n j ≤ n
  | 0 => ⟨h, Int.le_refl _⟩
  | j + 1 => by have := dv_bd n h j; show 0 ≤ dv n j / 256 ∧ dv n j / 256 ≤ _; omega
def zn (n : Nat) : Nat := (119 - n % 64) % 64
def tl (n : Int) : Nat → List Int
  | 0 => []
  | m + 1 => tl n m ++ [dv n (7 - m) % 256]
theorem tl_len (n : Int) : ∀ m, (tl n m).length = m
  | 0 => rfl
  | m + 1 => by show (tl n m ++ _).length = _; rw [List.length_append, tl_len n m]; rfl
def pad0 (s : ByteArray) (z : Nat) : List Int := sb s ++ ([128] ++ List.replicate z 0)
def padL (s : ByteArray) : List Int := pad0 s (zn s.size) ++ tl (8 * (s.size : Int)) 8
theorem infoB : (Tryz.prog.info? 5).map (fun i => (i.zero, i.size, i.bytes)) = some (some (.int .u8 0), 1, 1) := by kernel_rfl

def slen : Value → Nat
  | .slice _ n _ => n
  | _ => 0

end Go.Proofs.YtjiepemapffgjaaGreatDoor.Sh

namespace Go.Proofs.YtjiepemapffgjaaGreatDoor.Sh
open Go.RowKit
open Mem
set_option linter.unusedVariables false

def pb (s : ByteArray) (j : Nat) : Int := (padL s).getD j 0
def blk (s : ByteArray) : Nat → Nat → Int
  | 0 => I0
  | m + 1 => stepS K (blk s m) (fun j => pb s (64 * m + j))
theorem blk_wd (s : ByteArray) : ∀ m i, Wd (blk s m i)
  | 0 => I0_wd
  | m + 1 => stepS_wd _ _ _
def shaSt (s : ByteArray) : Nat → Int := blk s ((padL s).length / 64)
def ob (st : Nat → Int) : Nat → List Int
  | 0 => []
  | m + 1 => ob st m ++ [st m / 16777216, st m / 65536 % 256, st m / 256 % 256, st m % 256]
theorem ob_len (st : Nat → Int) : ∀ m, (ob st m).length = 4 * m
  | 0 => rfl
  | m + 1 => by show (ob st m ++ _).length = _; rw [List.length_append, ob_len st m]; simp; omega
/-- The sum of any bytes: 32 bytes. -/
def shaS (s : ByteArray) : ByteArray := strOfNums (ob (shaSt s) 8)
theorem shaS_size (s : ByteArray) : (shaS s).size = 32 := by unfold shaS; rw [strOfNums_size, ob_len]
theorem byts_dv (n : Int) (m : Nat) : ∀ x ∈ tl n m, 0 ≤ x ∧ x ≤ 255 := by
  induction m with
  | zero => intro x hx; simp [tl] at hx
  | succ m ih =>
    intro x hx
    simp only [tl, List.mem_append, List.mem_singleton] at hx
    rcases hx with h | rfl
    · exact ih x h
    · omega
def iobj : Obj := .cells (Il.map (Value.int .u32)).toArray 204
/-- Its first half. -/
def shortS (s : ByteArray) : ByteArray := (shaS s).extract 0 16
end Go.Proofs.YtjiepemapffgjaaGreatDoor.Sh

namespace Go.Proofs.YtjiepemapffgjaaGreatDoor.Sh
open Go.RowKit
open Mem
set_option linter.unusedVariables false

def dtab : ByteArray := ⟨#[48, 49, 50, 51, 52, 53, 54, 55, 56, 57, 97, 98, 99, 100, 101, 102]⟩
/-- A digit to the base 16. -/
def hd (j : Int) : Int := if j < 10 then 48 + j else 87 + j
def hexL : List Int → List Int
  | [] => []
  | x :: r => hd (x / 16) :: hd (x % 16) :: hexL r
def hexS (s : ByteArray) : ByteArray := strOfNums (hexL (sb s))
def hexK (s : ByteArray) (k : Nat) : ByteArray := strOfNums (hexL ((sb s).take k))
theorem conv2 (w : World) (a b : Int) :
    (convert 130 9 (.slice (some ⟨w.heap.size, 0, none⟩) 2 2)).run Tryz.prog (w.alloc (.cells #[.int .u8 a, .int .u8 b] 5)) = .ok (.string (strOfNums [a, b])) (w.alloc (.cells #[.int .u8 a, .int .u8 b] 5)) := by
  refine run_convert_bytes_arg _ 130 5 Tryz.underlying130 Tryz.underlying5 _ 0 2 2 [a, b] rfl ?_ 9 Tryz.underlying9
  intro i hi
  match i, hi with
  | 0, _ => simp
  | 1, _ => simp
  | n + 2, h => omega

end Go.Proofs.YtjiepemapffgjaaGreatDoor.Sh

namespace Go.Proofs.YtjiepemapffgjaaGreatDoor.Sh
open Go.RowKit
open Mem
set_option linter.unusedVariables false

/-- A row of texts. -/
def RowS (w : World) (b off len : Nat) (f : Nat → ByteArray) : Prop := ∀ i, i < len → w.cell? ⟨b, off + i, none⟩ = some (.string (f i))
theorem RowS.q {w w' : World} {g off n : Nat} {f : Nat → ByteArray} (h : RowS w g off n f) (q : Q w w') (hg : g < w.heap.size) : RowS w' g off n f :=
  fun i hi => by rw [q.cell (p := ⟨g, off + i, none⟩) hg]; exact h i hi

/-- The bytes of a word and parts, each with its length. -/
def tg (word : ByteArray) (ps : Nat → ByteArray) : Nat → ByteArray
  | 0 => strOfNums [(word.size : Int) % 256] ++ word
  | k + 1 => tg word ps k ++ (strOfNums [((ps k).size : Int) / 256 % 256, ((ps k).size : Int) % 256] ++ ps k)
theorem tg_size (word : ByteArray) (ps : Nat → ByteArray) (b : Nat) (h : ∀ i, (ps i).size ≤ b) : ∀ k, (tg word ps k).size ≤ word.size + 1 + k * (b + 2)
  | 0 => by show (strOfNums _ ++ word).size ≤ _; rw [ByteArray.size_append, strOfNums_size]; simp; omega
  | k + 1 => by
    have := tg_size word ps b h k
    have := h k
    show (tg word ps k ++ (strOfNums _ ++ ps k)).size ≤ _
    rw [ByteArray.size_append, ByteArray.size_append, strOfNums_size, Nat.add_mul]
    simp; omega
def tagS (word : ByteArray) (ps : Nat → ByteArray) (n : Nat) : ByteArray := shortS (tg word ps n)

theorem conv1 (w : World) (x : Int) :
    (convert 130 9 (.slice (some ⟨w.heap.size, 0, none⟩) 1 1)).run Tryz.prog (w.alloc (.cells #[.int .u8 x] 5)) = .ok (.string (strOfNums [x])) (w.alloc (.cells #[.int .u8 x] 5)) := by
  refine run_convert_bytes_arg _ 130 5 Tryz.underlying130 Tryz.underlying5 _ 0 1 1 [x] rfl ?_ 9 Tryz.underlying9
  intro i hi
  match i, hi with
  | 0, _ => simp
  | n + 1, h => omega

end Go.Proofs.YtjiepemapffgjaaGreatDoor.Sh

