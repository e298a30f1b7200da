/-
  For every input the law CodecHalf (two readers, one behind the place of the other, read the same) returns true and leaves its arguments as they were. No condition.
-/
import Derived.Test.YtefnncihpilpdaaCodT2
namespace Go.Proofs.Ytefnncihpilpdaa.codecHalf
open Go.ChangeShapes Go.WideShapes Go.ChangeAt Go.RowKit
open Go.ChangeMaps (open_string shut_string)
open Mem Num Cod
set_option linter.unusedVariables false

set_option maxHeartbeats 4000000 in
set_option maxRecDepth 100000 in
theorem walk (W : World) (s : ByteArray) (hs : s.size ≤ maxLen) (a : Option Addr) (len cap : Nat) (f : Nat → Pt) (hp : IsParts W a len cap f) :
    Calls Try.prog 9 #[.string s, .slice a len cap] W fun e W' => e = .returned (.bool true) ∧ Below W.heap.size W W' := by
  have HP := Lib.hid (parts_cases hp)
  clear hp
  unfold maxLen at hs
  have ht := cut_le s 300 300 rfl
  obtain ⟨S, het⟩ : ∃ t, s.extract 0 (min (s.size : Int) 300).toNat = t := ⟨_, rfl⟩
  rw [het] at ht
  have HS : Hid (S.size ≤ 1000000000) := by show _ ≤ _; omega
  go_enter Try.func9, Try.ntmps9
  go_wp2_with fail
  refine (read_any S W).mono ?_
  rintro r w1 ⟨rfl, h1, q1⟩
  have I0 : Hid (EI W W.heap.size (rest S 0) 0 w1) := ⟨by rw [show rest S 0 = S by unfold rest; exact ByteArray.extract_zero_size]; exact h1, q1⟩
  clear h1 q1 het hs
  have G1 : Hid (W.heap.size ≤ W.heap.size) := Nat.le_refl _
  go_wp2_with fail
  go_loopw [7] (fun v wr => ∃ (k a : Nat) (e : Int), k ≤ len ∧ v = .int .i64 k ∧ Hid (EI W W.heap.size (rest S a) e wr) ∧ Hid (a ≤ S.size ∧ (e = 0 ∨ e = 3 ∨ e = 5))) (fun v _ => len - (intOf v).toNat)
  case atStart => exact ⟨0, 0, 0, by omega, rfl, I0, ⟨Nat.zero_le _, .inl rfl⟩⟩
  case round =>
    obtain ⟨k, a0, e, hk, rfl, HI0, HX0⟩ := hrel
    clear I0
    by_cases hlt : k < len ∧ k < 10
    · obtain ⟨hl1, hl2⟩ := hlt
      obtain ⟨b, off, rfl, _, hrow, _⟩ := (HP.out.resolve_left (by omega)).2.2.2
      have ha := HX0.out.1
      have hrs : (rest S a0).size = S.size - a0 := rest_size S a0
      have HR : S.extract a0 S.size = rest S a0 := rfl
      have es : ((S.size : Int) - ((S.size - a0 : Nat) : Int)) = (a0 : Int) := by omega
      have HA := Lib.hid ha
      go_wp2_with fail
      refine (left_x HI0.out.r (v := ((S.size - a0 : Nat) : Int)) (by rw [hrs])).mono ?_
      rintro r w' ⟨rfl, rfl⟩
      go_wp2_with fail
      refine (read_any (rest S a0) wr).mono ?_
      rintro r wb ⟨rfl, hb, qb⟩
      have HC := Lib.hid hb
      have HI1 := Lib.hid (HI0.out.r.q qb)
      have QB : Hid (Q W wb) := HI0.out.q.trans qb
      have G2 : Hid (W.heap.size ≤ wr.heap.size) := HI0.out.q.size
      have G3 : Hid (W.heap.size ≠ wr.heap.size) := Nat.ne_of_lt HI0.out.r.lt
      clear hb qb HI0
      generalize wr.heap.size = gc at *
      have HB : Hid (∀ w', Q W w' → w'.cell? ⟨b, off + k * 3 + 1, none⟩ = some (.int .i64 (f k).n)) := fun w' q => (hrow.q q k hl1).2.1
      have b0 := (hrow.q QB.out k hl1).1
      clear hrow ha HR es
      generalize (f k).k = K at *
      generalize (f k).n = N at *
      by_cases he : e = 0
      · subst he
        have HI1 : Hid (PI W W.heap.size gc (rest S a0) 0 (rest S a0) 0 wb) := ⟨HI1.out, HC.out, QB.out⟩
        clear HC HX0
        by_cases hz : (rest S a0).size = 0
        · have EE : Hid (endE (rest S a0) 0 = 0) := by show _ = _; unfold endE; rw [if_pos rfl, if_pos hz]
          clear hz hrs
          go_wp2_with fail
          refine (end_x HI1.out.r EE.out).mono ?_
          rintro r w' ⟨rfl, rfl⟩
          by_cases h0 : K = 0
          · subst h0
            as_aux_lemma =>
            obtain ⟨v, a', e', hp1, hp2, hp3, hp4⟩ := pair_byte (W := W) HS.out HA.out G1.out G2.out G3.out
            have C1 := Lib.hid hp1
            have C2 := Lib.hid hp2
            have HX : Hid (a' ≤ S.size ∧ (e' = 0 ∨ e' = 3 ∨ e' = 5)) := ⟨hp3, hp4⟩
            clear hp1 hp2 hp3 hp4
            go_wp2_with fail
            refine (C1.out _ HI1.out).mono ?_
            rintro r w2 ⟨rfl, h2⟩
            have H2 := Lib.hid h2
            clear h2 C1 HI1
            go_wp2_with fail
            refine (C2.out _ H2.out).mono ?_
            rintro r w3 ⟨rfl, h3⟩
            have H3 := Lib.hid h3
            clear h3 C2 H2
            go_wp2_with fail
            refine (left_any _ _ _ _ H3.out.r).mono ?_
            rintro r w' ⟨rfl, rfl⟩
            go_wp2_with fail
            refine (left_any _ _ _ _ H3.out.c).mono ?_
            rintro r w' ⟨rfl, rfl⟩
            go_wp2_with fail
            refine (end_any _ _ _ _ H3.out.r).mono ?_
            rintro r w' ⟨rfl, rfl⟩
            go_wp2_with fail
            refine (end_any _ _ _ _ H3.out.c).mono ?_
            rintro r w' ⟨rfl, rfl⟩
            have HN : Hid (EI W W.heap.size (rest S a') e' w3) := ⟨H3.out.r, H3.out.q⟩
            clear H3
            go_wp2_with fail
            go_roundw
            case rel => exact ⟨k + 1, a', e', by omega, by go_num, HN, HX⟩
            case measure => simp [intOf]; omega
          · have h0' : (K == 0) = false := by simpa using h0
            by_cases h1 : K = 1
            · subst h1
              clear h0 h0'
              as_aux_lemma =>
              obtain ⟨v, a', e', hp1, hp2, hp3, hp4⟩ := pair_num (W := W) HS.out HA.out G1.out G2.out G3.out
              have C1 := Lib.hid hp1
              have C2 := Lib.hid hp2
              have HX : Hid (a' ≤ S.size ∧ (e' = 0 ∨ e' = 3 ∨ e' = 5)) := ⟨hp3, hp4⟩
              clear hp1 hp2 hp3 hp4
              go_wp2_with fail
              refine (C1.out _ HI1.out).mono ?_
              rintro r w2 ⟨rfl, h2⟩
              have H2 := Lib.hid h2
              clear h2 C1 HI1
              go_wp2_with fail
              refine (C2.out _ H2.out).mono ?_
              rintro r w3 ⟨rfl, h3⟩
              have H3 := Lib.hid h3
              clear h3 C2 H2
              go_wp2_with fail
              refine (left_any _ _ _ _ H3.out.r).mono ?_
              rintro r w' ⟨rfl, rfl⟩
              go_wp2_with fail
              refine (left_any _ _ _ _ H3.out.c).mono ?_
              rintro r w' ⟨rfl, rfl⟩
              go_wp2_with fail
              refine (end_any _ _ _ _ H3.out.r).mono ?_
              rintro r w' ⟨rfl, rfl⟩
              go_wp2_with fail
              refine (end_any _ _ _ _ H3.out.c).mono ?_
              rintro r w' ⟨rfl, rfl⟩
              have HN : Hid (EI W W.heap.size (rest S a') e' w3) := ⟨H3.out.r, H3.out.q⟩
              clear H3
              go_wp2_with fail
              go_roundw
              case rel => exact ⟨k + 1, a', e', by omega, by go_num, HN, HX⟩
              case measure => simp [intOf]; omega
            · have h1' : (K == 1) = false := by simpa using h1
              by_cases h2 : K = 2
              · subst h2
                clear h0 h0' h1 h1'
                as_aux_lemma =>
                obtain ⟨v, a', e', hp1, hp2, hp3, hp4⟩ := pair_blob (m := N) (W := W) HS.out HA.out G1.out G2.out G3.out
                have C1 := Lib.hid hp1
                have C2 := Lib.hid hp2
                have HX : Hid (a' ≤ S.size ∧ (e' = 0 ∨ e' = 3 ∨ e' = 5)) := ⟨hp3, hp4⟩
                clear hp1 hp2 hp3 hp4
                have HD : Hid (PI W W.heap.size gc (rest S a0) 0 (rest S a0) 0 wb.drew) := HI1.out.up (Q.refl _).drew
                have b1' := HB.out _ HD.out.q
                go_wp2_with fail
                refine wp_region_held_drew (S := fun w' => w'.cell? ⟨b, off + k * 3 + 1, none⟩ = some (.int .i64 N)) (by kernel_rfl) b1' (fun hHeld => ?_)
                refine wpAnyH_take (i := 0) (v := ?_) (by simp only [List.getElem?_toArray, List.getElem?_cons_zero]; rfl) (by kernel_rfl) (by kernel_rfl) (by kernel_rfl) (by exact fun _ _ _ h => h) (Or.inl ⟨by rfl, ?_⟩) (by assumption) ?_
                rotate_left
                · (intro wx hSw; (try dsimp only at hSw); go_simp; (try rw [if_neg (by omega)]); try (with_reducible rfl))
                try simp only [Act.put, List.setIfInBounds_toArray, List.set_cons_zero, List.set_cons_succ]
                refine wpAnyH_take (i := 1) (v := ?_) (by simp only [List.getElem?_toArray, List.getElem?_cons_zero, List.getElem?_cons_succ]; rfl) (by kernel_rfl) (by kernel_rfl) (by kernel_rfl) (by exact fun _ _ _ h => h) (Or.inl ⟨by rfl, ?_⟩) (by assumption) ?_
                rotate_left
                · (intro wx hSw; (try dsimp only at hSw); go_simp; (try rw [if_neg (by omega)]); try (with_reducible rfl))
                try simp only [Act.put, List.setIfInBounds_toArray, List.set_cons_zero, List.set_cons_succ]
                refine wpAnyH_take (i := 2) (v := ?_) (by simp only [List.getElem?_toArray, List.getElem?_cons_zero, List.getElem?_cons_succ]; rfl) (by kernel_rfl) (by kernel_rfl) (by kernel_rfl) (by exact fun _ _ _ h => h) (Or.inl ⟨by rfl, ?_⟩) (by assumption) ?_
                rotate_left
                · (intro wx hSw; (try dsimp only at hSw); go_simp; (try rw [if_neg (by omega)]); try (with_reducible rfl))
                try simp only [Act.put, List.setIfInBounds_toArray, List.set_cons_zero, List.set_cons_succ]
                refine wpAnyH_take (i := 3) (v := ?_) (by simp only [List.getElem?_toArray, List.getElem?_cons_zero, List.getElem?_cons_succ]; rfl) (by kernel_rfl) (by kernel_rfl) (by kernel_rfl) (by exact fun _ _ _ h => h) (Or.inl ⟨by rfl, ?_⟩) (by assumption) ?_
                rotate_left
                · (intro wx hSw; (try dsimp only at hSw); go_simp; (try rw [if_neg (by omega)]); try (with_reducible rfl))
                try simp only [Act.put, List.setIfInBounds_toArray, List.set_cons_zero, List.set_cons_succ]
                refine wpAnyH_take (i := 4) (v := ?_) (by simp only [List.getElem?_toArray, List.getElem?_cons_zero, List.getElem?_cons_succ]; rfl) (by kernel_rfl) (by kernel_rfl) (by kernel_rfl) (by exact fun _ _ _ h => h) (Or.inl ⟨by rfl, ?_⟩) (by assumption) ?_
                rotate_left
                · (intro wx hSw; (try dsimp only at hSw); go_simp; (try rw [if_neg (by omega)]); try (with_reducible rfl))
                try simp only [Act.put, List.setIfInBounds_toArray, List.set_cons_zero, List.set_cons_succ]
                refine wpAnyH_take (i := 5) (v := ?_) (by simp only [List.getElem?_toArray, List.getElem?_cons_zero, List.getElem?_cons_succ]; rfl) (by kernel_rfl) (by kernel_rfl) (by kernel_rfl) (by exact fun _ _ _ h => h) (Or.inl ⟨by rfl, ?_⟩) (by assumption) ?_
                rotate_left
                · (intro wx hSw; (try dsimp only at hSw); go_simp; (try rw [if_neg (by omega)]); try (with_reducible rfl))
                try simp only [Act.put, List.setIfInBounds_toArray, List.set_cons_zero, List.set_cons_succ]
                refine wpAnyH_take (i := 7) (v := ?_) (by simp only [List.getElem?_toArray, List.getElem?_cons_zero, List.getElem?_cons_succ]; rfl) (by kernel_rfl) (by kernel_rfl) (by kernel_rfl) (by exact fun _ _ _ h => h) (Or.inl ⟨by rfl, ?_⟩) (by assumption) ?_
                rotate_left
                · (intro wx hSw; (try dsimp only at hSw); go_simp; (try rw [if_neg (by omega)]); try (with_reducible rfl))
                try simp only [Act.put, List.setIfInBounds_toArray, List.set_cons_zero, List.set_cons_succ]
                refine wpAnyH_take (i := 8) (v := ?_) (by simp only [List.getElem?_toArray, List.getElem?_cons_zero, List.getElem?_cons_succ]; rfl) (by kernel_rfl) (by kernel_rfl) (by kernel_rfl) (by exact fun _ _ _ h => h) (Or.inl ⟨by rfl, ?_⟩) (by assumption) ?_
                rotate_left
                · (intro wx hSw; (try dsimp only at hSw); go_simp; (try rw [if_neg (by omega)]); try (with_reducible rfl))
                try simp only [Act.put, List.setIfInBounds_toArray, List.set_cons_zero, List.set_cons_succ]
                refine wpAnyH_take (i := 9) (v := ?_) (by simp only [List.getElem?_toArray, List.getElem?_cons_zero, List.getElem?_cons_succ]; rfl) (by kernel_rfl) (by kernel_rfl) (by kernel_rfl) (by exact fun _ _ _ h => h) (Or.inl ⟨by rfl, ?_⟩) (by assumption) ?_
                rotate_left
                · (intro wx hSw; (try dsimp only at hSw); go_simp; (try rw [if_neg (by omega)]); try (with_reducible rfl))
                try simp only [Act.put, List.setIfInBounds_toArray, List.set_cons_zero, List.set_cons_succ]
                refine wpAnyH_take (i := 10) (v := ?_) (by simp only [List.getElem?_toArray, List.getElem?_cons_zero, List.getElem?_cons_succ]; rfl) (by kernel_rfl) (by kernel_rfl) (by kernel_rfl) (by exact fun _ _ _ h => h) (Or.inl ⟨by rfl, ?_⟩) (by assumption) ?_
                rotate_left
                · (intro wx hSw; (try dsimp only at hSw); go_simp; (try rw [if_neg (by omega)]); try (with_reducible rfl))
                try simp only [Act.put, List.setIfInBounds_toArray, List.set_cons_zero, List.set_cons_succ]
                refine wpAnyH_take (i := 11) (v := ?_) (by simp only [List.getElem?_toArray, List.getElem?_cons_zero, List.getElem?_cons_succ]; rfl) (by kernel_rfl) (by kernel_rfl) (by kernel_rfl) (by exact fun _ _ _ h => h) (Or.inl ⟨by rfl, ?_⟩) (by assumption) ?_
                rotate_left
                · (intro wx hSw; (try dsimp only at hSw); go_simp; (try rw [if_neg (by omega)]); try (with_reducible rfl))
                try simp only [Act.put, List.setIfInBounds_toArray, List.set_cons_zero, List.set_cons_succ]
                refine wpAnyH_take (i := 12) (v := ?_) (by simp only [List.getElem?_toArray, List.getElem?_cons_zero, List.getElem?_cons_succ]; rfl) (by kernel_rfl) (by kernel_rfl) (by kernel_rfl) (by exact fun _ _ _ h => h) (Or.inl ⟨by rfl, ?_⟩) (by assumption) ?_
                rotate_left
                · (intro wx hSw; (try dsimp only at hSw); go_simp; (try rw [if_neg (by omega)]); try (with_reducible rfl))
                try simp only [Act.put, List.setIfInBounds_toArray, List.set_cons_zero, List.set_cons_succ]
                refine wpAnyH_ready (rs := [6]) (by kernel_rfl) (by simp) ?_
                refine AllReadyH.cons (by simp only [List.getElem?_toArray, List.getElem?_cons_succ, List.getElem?_cons_zero]; rfl) (fun K hK => ?_) AllReadyH.nil
                go_simp
                refine (C1.out _ HD.out).mono ?_
                rintro r w2 ⟨rfl, h2⟩
                have b2 := HB.out _ h2.q
                have H2 := Lib.hid h2
                clear h2 C1 HI1 HD
                dsimp only
                refine hK.out _ _ b2 (fun hHeld6 => ?_)
                clear hK K
                try simp only [Act.put, List.setIfInBounds_toArray, List.set_cons_zero, List.set_cons_succ]
                refine wpAnyH_ready (rs := [13]) (by kernel_rfl) (by simp) ?_
                refine AllReadyH.cons (by simp only [List.getElem?_toArray, List.getElem?_cons_succ, List.getElem?_cons_zero]; rfl) (fun K hK => ?_) AllReadyH.nil
                go_simp
                refine (C2.out _ H2.out).mono ?_
                rintro r w3 ⟨rfl, h3⟩
                have b3 := HB.out _ h3.q
                have H3 := Lib.hid h3
                clear h3 C2 H2
                dsimp only
                refine hK.out _ _ b3 (fun hHeld13 => ?_)
                clear hK K
                try simp only [Act.put, List.setIfInBounds_toArray, List.set_cons_zero, List.set_cons_succ]
                refine wpAnyH_take (i := 14) (v := ?_) (by simp only [List.getElem?_toArray, List.getElem?_cons_zero, List.getElem?_cons_succ]; rfl) (by kernel_rfl) (by kernel_rfl) (by kernel_rfl) (by exact fun _ _ _ h => h) (Or.inl ⟨by rfl, ?_⟩) (by assumption) ?_
                rotate_left
                · (intro wx hSw; (try dsimp only at hSw); go_simp; (try rw [if_neg (by omega)]); try (with_reducible rfl))
                try simp only [Act.put, List.setIfInBounds_toArray, List.set_cons_zero, List.set_cons_succ]
                refine wpAnyH_take (i := 15) (v := ?_) (by simp only [List.getElem?_toArray, List.getElem?_cons_zero, List.getElem?_cons_succ]; rfl) (by kernel_rfl) (by kernel_rfl) (by kernel_rfl) (by exact fun _ _ _ h => h) (Or.inl ⟨by rfl, ?_⟩) (by assumption) ?_
                rotate_left
                · (intro wx hSw; (try dsimp only at hSw); go_simp; (try rw [if_neg (by omega)]); try (with_reducible rfl))
                try simp only [Act.put, List.setIfInBounds_toArray, List.set_cons_zero, List.set_cons_succ]
                refine wpAnyH_done (by kernel_rfl) ?_ _
                go_wp2_with fail
                refine (left_any _ _ _ _ H3.out.r).mono ?_
                rintro r w' ⟨rfl, rfl⟩
                go_wp2_with fail
                refine (left_any _ _ _ _ H3.out.c).mono ?_
                rintro r w' ⟨rfl, rfl⟩
                go_wp2_with fail
                refine (end_any _ _ _ _ H3.out.r).mono ?_
                rintro r w' ⟨rfl, rfl⟩
                go_wp2_with fail
                refine (end_any _ _ _ _ H3.out.c).mono ?_
                rintro r w' ⟨rfl, rfl⟩
                have HN : Hid (EI W W.heap.size (rest S a') e' w3) := ⟨H3.out.r, H3.out.q⟩
                clear H3
                go_wp2_with fail
                go_roundw
                case rel => exact ⟨k + 1, a', e', by omega, by go_num, HN, HX⟩
                case measure => simp [intOf]; omega
              · have h2' : (K == 2) = false := by simpa using h2
                as_aux_lemma =>
                obtain ⟨v, a', e', hp1, hp2, hp3, hp4⟩ := pair_hash (W := W) HS.out HA.out G1.out G2.out G3.out
                have C1 := Lib.hid hp1
                have C2 := Lib.hid hp2
                have HX : Hid (a' ≤ S.size ∧ (e' = 0 ∨ e' = 3 ∨ e' = 5)) := ⟨hp3, hp4⟩
                clear hp1 hp2 hp3 hp4
                go_wp2_with fail
                refine (C1.out _ HI1.out).mono ?_
                rintro r w2 ⟨rfl, h2⟩
                have H2 := Lib.hid h2
                clear h2 C1 HI1
                go_wp2_with fail
                refine (C2.out _ H2.out).mono ?_
                rintro r w3 ⟨rfl, h3⟩
                have H3 := Lib.hid h3
                clear h3 C2 H2
                go_wp2_with fail
                refine (left_any _ _ _ _ H3.out.r).mono ?_
                rintro r w' ⟨rfl, rfl⟩
                go_wp2_with fail
                refine (left_any _ _ _ _ H3.out.c).mono ?_
                rintro r w' ⟨rfl, rfl⟩
                go_wp2_with fail
                refine (end_any _ _ _ _ H3.out.r).mono ?_
                rintro r w' ⟨rfl, rfl⟩
                go_wp2_with fail
                refine (end_any _ _ _ _ H3.out.c).mono ?_
                rintro r w' ⟨rfl, rfl⟩
                have HN : Hid (EI W W.heap.size (rest S a') e' w3) := ⟨H3.out.r, H3.out.q⟩
                clear H3
                go_wp2_with fail
                go_roundw
                case rel => exact ⟨k + 1, a', e', by omega, by go_num, HN, HX⟩
                case measure => simp [intOf]; omega
        · have EE : Hid (endE (rest S a0) 0 = 4) := by show _ = _; unfold endE; rw [if_pos rfl, if_neg hz]
          clear hz hrs
          go_wp2_with fail
          refine (end_x HI1.out.r EE.out).mono ?_
          rintro r w' ⟨rfl, rfl⟩
          go_wp2_with fail
          refine (end_x HI1.out.r EE.out).mono ?_
          rintro r w' ⟨rfl, rfl⟩
          by_cases h0 : K = 0
          · subst h0
            as_aux_lemma =>
            obtain ⟨v, a', e', hp1, hp2, hp3, hp4⟩ := pair_byte (W := W) HS.out HA.out G1.out G2.out G3.out
            have C1 := Lib.hid hp1
            have C2 := Lib.hid hp2
            have HX : Hid (a' ≤ S.size ∧ (e' = 0 ∨ e' = 3 ∨ e' = 5)) := ⟨hp3, hp4⟩
            clear hp1 hp2 hp3 hp4
            go_wp2_with fail
            refine (C1.out _ HI1.out).mono ?_
            rintro r w2 ⟨rfl, h2⟩
            have H2 := Lib.hid h2
            clear h2 C1 HI1
            go_wp2_with fail
            refine (C2.out _ H2.out).mono ?_
            rintro r w3 ⟨rfl, h3⟩
            have H3 := Lib.hid h3
            clear h3 C2 H2
            go_wp2_with fail
            refine (left_any _ _ _ _ H3.out.r).mono ?_
            rintro r w' ⟨rfl, rfl⟩
            go_wp2_with fail
            refine (left_any _ _ _ _ H3.out.c).mono ?_
            rintro r w' ⟨rfl, rfl⟩
            go_wp2_with fail
            refine (end_any _ _ _ _ H3.out.r).mono ?_
            rintro r w' ⟨rfl, rfl⟩
            go_wp2_with fail
            refine (end_any _ _ _ _ H3.out.c).mono ?_
            rintro r w' ⟨rfl, rfl⟩
            have HN : Hid (EI W W.heap.size (rest S a') e' w3) := ⟨H3.out.r, H3.out.q⟩
            clear H3
            go_wp2_with fail
            go_roundw
            case rel => exact ⟨k + 1, a', e', by omega, by go_num, HN, HX⟩
            case measure => simp [intOf]; omega
          · have h0' : (K == 0) = false := by simpa using h0
            by_cases h1 : K = 1
            · subst h1
              clear h0 h0'
              as_aux_lemma =>
              obtain ⟨v, a', e', hp1, hp2, hp3, hp4⟩ := pair_num (W := W) HS.out HA.out G1.out G2.out G3.out
              have C1 := Lib.hid hp1
              have C2 := Lib.hid hp2
              have HX : Hid (a' ≤ S.size ∧ (e' = 0 ∨ e' = 3 ∨ e' = 5)) := ⟨hp3, hp4⟩
              clear hp1 hp2 hp3 hp4
              go_wp2_with fail
              refine (C1.out _ HI1.out).mono ?_
              rintro r w2 ⟨rfl, h2⟩
              have H2 := Lib.hid h2
              clear h2 C1 HI1
              go_wp2_with fail
              refine (C2.out _ H2.out).mono ?_
              rintro r w3 ⟨rfl, h3⟩
              have H3 := Lib.hid h3
              clear h3 C2 H2
              go_wp2_with fail
              refine (left_any _ _ _ _ H3.out.r).mono ?_
              rintro r w' ⟨rfl, rfl⟩
              go_wp2_with fail
              refine (left_any _ _ _ _ H3.out.c).mono ?_
              rintro r w' ⟨rfl, rfl⟩
              go_wp2_with fail
              refine (end_any _ _ _ _ H3.out.r).mono ?_
              rintro r w' ⟨rfl, rfl⟩
              go_wp2_with fail
              refine (end_any _ _ _ _ H3.out.c).mono ?_
              rintro r w' ⟨rfl, rfl⟩
              have HN : Hid (EI W W.heap.size (rest S a') e' w3) := ⟨H3.out.r, H3.out.q⟩
              clear H3
              go_wp2_with fail
              go_roundw
              case rel => exact ⟨k + 1, a', e', by omega, by go_num, HN, HX⟩
              case measure => simp [intOf]; omega
            · have h1' : (K == 1) = false := by simpa using h1
              by_cases h2 : K = 2
              · subst h2
                clear h0 h0' h1 h1'
                as_aux_lemma =>
                obtain ⟨v, a', e', hp1, hp2, hp3, hp4⟩ := pair_blob (m := N) (W := W) HS.out HA.out G1.out G2.out G3.out
                have C1 := Lib.hid hp1
                have C2 := Lib.hid hp2
                have HX : Hid (a' ≤ S.size ∧ (e' = 0 ∨ e' = 3 ∨ e' = 5)) := ⟨hp3, hp4⟩
                clear hp1 hp2 hp3 hp4
                have HD : Hid (PI W W.heap.size gc (rest S a0) 0 (rest S a0) 0 wb.drew) := HI1.out.up (Q.refl _).drew
                have b1' := HB.out _ HD.out.q
                go_wp2_with fail
                refine wp_region_held_drew (S := fun w' => w'.cell? ⟨b, off + k * 3 + 1, none⟩ = some (.int .i64 N)) (by kernel_rfl) b1' (fun hHeld => ?_)
                refine wpAnyH_take (i := 0) (v := ?_) (by simp only [List.getElem?_toArray, List.getElem?_cons_zero]; rfl) (by kernel_rfl) (by kernel_rfl) (by kernel_rfl) (by exact fun _ _ _ h => h) (Or.inl ⟨by rfl, ?_⟩) (by assumption) ?_
                rotate_left
                · (intro wx hSw; (try dsimp only at hSw); go_simp; (try rw [if_neg (by omega)]); try (with_reducible rfl))
                try simp only [Act.put, List.setIfInBounds_toArray, List.set_cons_zero, List.set_cons_succ]
                refine wpAnyH_take (i := 1) (v := ?_) (by simp only [List.getElem?_toArray, List.getElem?_cons_zero, List.getElem?_cons_succ]; rfl) (by kernel_rfl) (by kernel_rfl) (by kernel_rfl) (by exact fun _ _ _ h => h) (Or.inl ⟨by rfl, ?_⟩) (by assumption) ?_
                rotate_left
                · (intro wx hSw; (try dsimp only at hSw); go_simp; (try rw [if_neg (by omega)]); try (with_reducible rfl))
                try simp only [Act.put, List.setIfInBounds_toArray, List.set_cons_zero, List.set_cons_succ]
                refine wpAnyH_take (i := 2) (v := ?_) (by simp only [List.getElem?_toArray, List.getElem?_cons_zero, List.getElem?_cons_succ]; rfl) (by kernel_rfl) (by kernel_rfl) (by kernel_rfl) (by exact fun _ _ _ h => h) (Or.inl ⟨by rfl, ?_⟩) (by assumption) ?_
                rotate_left
                · (intro wx hSw; (try dsimp only at hSw); go_simp; (try rw [if_neg (by omega)]); try (with_reducible rfl))
                try simp only [Act.put, List.setIfInBounds_toArray, List.set_cons_zero, List.set_cons_succ]
                refine wpAnyH_take (i := 3) (v := ?_) (by simp only [List.getElem?_toArray, List.getElem?_cons_zero, List.getElem?_cons_succ]; rfl) (by kernel_rfl) (by kernel_rfl) (by kernel_rfl) (by exact fun _ _ _ h => h) (Or.inl ⟨by rfl, ?_⟩) (by assumption) ?_
                rotate_left
                · (intro wx hSw; (try dsimp only at hSw); go_simp; (try rw [if_neg (by omega)]); try (with_reducible rfl))
                try simp only [Act.put, List.setIfInBounds_toArray, List.set_cons_zero, List.set_cons_succ]
                refine wpAnyH_take (i := 4) (v := ?_) (by simp only [List.getElem?_toArray, List.getElem?_cons_zero, List.getElem?_cons_succ]; rfl) (by kernel_rfl) (by kernel_rfl) (by kernel_rfl) (by exact fun _ _ _ h => h) (Or.inl ⟨by rfl, ?_⟩) (by assumption) ?_
                rotate_left
                · (intro wx hSw; (try dsimp only at hSw); go_simp; (try rw [if_neg (by omega)]); try (with_reducible rfl))
                try simp only [Act.put, List.setIfInBounds_toArray, List.set_cons_zero, List.set_cons_succ]
                refine wpAnyH_take (i := 5) (v := ?_) (by simp only [List.getElem?_toArray, List.getElem?_cons_zero, List.getElem?_cons_succ]; rfl) (by kernel_rfl) (by kernel_rfl) (by kernel_rfl) (by exact fun _ _ _ h => h) (Or.inl ⟨by rfl, ?_⟩) (by assumption) ?_
                rotate_left
                · (intro wx hSw; (try dsimp only at hSw); go_simp; (try rw [if_neg (by omega)]); try (with_reducible rfl))
                try simp only [Act.put, List.setIfInBounds_toArray, List.set_cons_zero, List.set_cons_succ]
                refine wpAnyH_take (i := 7) (v := ?_) (by simp only [List.getElem?_toArray, List.getElem?_cons_zero, List.getElem?_cons_succ]; rfl) (by kernel_rfl) (by kernel_rfl) (by kernel_rfl) (by exact fun _ _ _ h => h) (Or.inl ⟨by rfl, ?_⟩) (by assumption) ?_
                rotate_left
                · (intro wx hSw; (try dsimp only at hSw); go_simp; (try rw [if_neg (by omega)]); try (with_reducible rfl))
                try simp only [Act.put, List.setIfInBounds_toArray, List.set_cons_zero, List.set_cons_succ]
                refine wpAnyH_take (i := 8) (v := ?_) (by simp only [List.getElem?_toArray, List.getElem?_cons_zero, List.getElem?_cons_succ]; rfl) (by kernel_rfl) (by kernel_rfl) (by kernel_rfl) (by exact fun _ _ _ h => h) (Or.inl ⟨by rfl, ?_⟩) (by assumption) ?_
                rotate_left
                · (intro wx hSw; (try dsimp only at hSw); go_simp; (try rw [if_neg (by omega)]); try (with_reducible rfl))
                try simp only [Act.put, List.setIfInBounds_toArray, List.set_cons_zero, List.set_cons_succ]
                refine wpAnyH_take (i := 9) (v := ?_) (by simp only [List.getElem?_toArray, List.getElem?_cons_zero, List.getElem?_cons_succ]; rfl) (by kernel_rfl) (by kernel_rfl) (by kernel_rfl) (by exact fun _ _ _ h => h) (Or.inl ⟨by rfl, ?_⟩) (by assumption) ?_
                rotate_left
                · (intro wx hSw; (try dsimp only at hSw); go_simp; (try rw [if_neg (by omega)]); try (with_reducible rfl))
                try simp only [Act.put, List.setIfInBounds_toArray, List.set_cons_zero, List.set_cons_succ]
                refine wpAnyH_take (i := 10) (v := ?_) (by simp only [List.getElem?_toArray, List.getElem?_cons_zero, List.getElem?_cons_succ]; rfl) (by kernel_rfl) (by kernel_rfl) (by kernel_rfl) (by exact fun _ _ _ h => h) (Or.inl ⟨by rfl, ?_⟩) (by assumption) ?_
                rotate_left
                · (intro wx hSw; (try dsimp only at hSw); go_simp; (try rw [if_neg (by omega)]); try (with_reducible rfl))
                try simp only [Act.put, List.setIfInBounds_toArray, List.set_cons_zero, List.set_cons_succ]
                refine wpAnyH_take (i := 11) (v := ?_) (by simp only [List.getElem?_toArray, List.getElem?_cons_zero, List.getElem?_cons_succ]; rfl) (by kernel_rfl) (by kernel_rfl) (by kernel_rfl) (by exact fun _ _ _ h => h) (Or.inl ⟨by rfl, ?_⟩) (by assumption) ?_
                rotate_left
                · (intro wx hSw; (try dsimp only at hSw); go_simp; (try rw [if_neg (by omega)]); try (with_reducible rfl))
                try simp only [Act.put, List.setIfInBounds_toArray, List.set_cons_zero, List.set_cons_succ]
                refine wpAnyH_take (i := 12) (v := ?_) (by simp only [List.getElem?_toArray, List.getElem?_cons_zero, List.getElem?_cons_succ]; rfl) (by kernel_rfl) (by kernel_rfl) (by kernel_rfl) (by exact fun _ _ _ h => h) (Or.inl ⟨by rfl, ?_⟩) (by assumption) ?_
                rotate_left
                · (intro wx hSw; (try dsimp only at hSw); go_simp; (try rw [if_neg (by omega)]); try (with_reducible rfl))
                try simp only [Act.put, List.setIfInBounds_toArray, List.set_cons_zero, List.set_cons_succ]
                refine wpAnyH_ready (rs := [6]) (by kernel_rfl) (by simp) ?_
                refine AllReadyH.cons (by simp only [List.getElem?_toArray, List.getElem?_cons_succ, List.getElem?_cons_zero]; rfl) (fun K hK => ?_) AllReadyH.nil
                go_simp
                refine (C1.out _ HD.out).mono ?_
                rintro r w2 ⟨rfl, h2⟩
                have b2 := HB.out _ h2.q
                have H2 := Lib.hid h2
                clear h2 C1 HI1 HD
                dsimp only
                refine hK.out _ _ b2 (fun hHeld6 => ?_)
                clear hK K
                try simp only [Act.put, List.setIfInBounds_toArray, List.set_cons_zero, List.set_cons_succ]
                refine wpAnyH_ready (rs := [13]) (by kernel_rfl) (by simp) ?_
                refine AllReadyH.cons (by simp only [List.getElem?_toArray, List.getElem?_cons_succ, List.getElem?_cons_zero]; rfl) (fun K hK => ?_) AllReadyH.nil
                go_simp
                refine (C2.out _ H2.out).mono ?_
                rintro r w3 ⟨rfl, h3⟩
                have b3 := HB.out _ h3.q
                have H3 := Lib.hid h3
                clear h3 C2 H2
                dsimp only
                refine hK.out _ _ b3 (fun hHeld13 => ?_)
                clear hK K
                try simp only [Act.put, List.setIfInBounds_toArray, List.set_cons_zero, List.set_cons_succ]
                refine wpAnyH_take (i := 14) (v := ?_) (by simp only [List.getElem?_toArray, List.getElem?_cons_zero, List.getElem?_cons_succ]; rfl) (by kernel_rfl) (by kernel_rfl) (by kernel_rfl) (by exact fun _ _ _ h => h) (Or.inl ⟨by rfl, ?_⟩) (by assumption) ?_
                rotate_left
                · (intro wx hSw; (try dsimp only at hSw); go_simp; (try rw [if_neg (by omega)]); try (with_reducible rfl))
                try simp only [Act.put, List.setIfInBounds_toArray, List.set_cons_zero, List.set_cons_succ]
                refine wpAnyH_take (i := 15) (v := ?_) (by simp only [List.getElem?_toArray, List.getElem?_cons_zero, List.getElem?_cons_succ]; rfl) (by kernel_rfl) (by kernel_rfl) (by kernel_rfl) (by exact fun _ _ _ h => h) (Or.inl ⟨by rfl, ?_⟩) (by assumption) ?_
                rotate_left
                · (intro wx hSw; (try dsimp only at hSw); go_simp; (try rw [if_neg (by omega)]); try (with_reducible rfl))
                try simp only [Act.put, List.setIfInBounds_toArray, List.set_cons_zero, List.set_cons_succ]
                refine wpAnyH_done (by kernel_rfl) ?_ _
                go_wp2_with fail
                refine (left_any _ _ _ _ H3.out.r).mono ?_
                rintro r w' ⟨rfl, rfl⟩
                go_wp2_with fail
                refine (left_any _ _ _ _ H3.out.c).mono ?_
                rintro r w' ⟨rfl, rfl⟩
                go_wp2_with fail
                refine (end_any _ _ _ _ H3.out.r).mono ?_
                rintro r w' ⟨rfl, rfl⟩
                go_wp2_with fail
                refine (end_any _ _ _ _ H3.out.c).mono ?_
                rintro r w' ⟨rfl, rfl⟩
                have HN : Hid (EI W W.heap.size (rest S a') e' w3) := ⟨H3.out.r, H3.out.q⟩
                clear H3
                go_wp2_with fail
                go_roundw
                case rel => exact ⟨k + 1, a', e', by omega, by go_num, HN, HX⟩
                case measure => simp [intOf]; omega
              · have h2' : (K == 2) = false := by simpa using h2
                as_aux_lemma =>
                obtain ⟨v, a', e', hp1, hp2, hp3, hp4⟩ := pair_hash (W := W) HS.out HA.out G1.out G2.out G3.out
                have C1 := Lib.hid hp1
                have C2 := Lib.hid hp2
                have HX : Hid (a' ≤ S.size ∧ (e' = 0 ∨ e' = 3 ∨ e' = 5)) := ⟨hp3, hp4⟩
                clear hp1 hp2 hp3 hp4
                go_wp2_with fail
                refine (C1.out _ HI1.out).mono ?_
                rintro r w2 ⟨rfl, h2⟩
                have H2 := Lib.hid h2
                clear h2 C1 HI1
                go_wp2_with fail
                refine (C2.out _ H2.out).mono ?_
                rintro r w3 ⟨rfl, h3⟩
                have H3 := Lib.hid h3
                clear h3 C2 H2
                go_wp2_with fail
                refine (left_any _ _ _ _ H3.out.r).mono ?_
                rintro r w' ⟨rfl, rfl⟩
                go_wp2_with fail
                refine (left_any _ _ _ _ H3.out.c).mono ?_
                rintro r w' ⟨rfl, rfl⟩
                go_wp2_with fail
                refine (end_any _ _ _ _ H3.out.r).mono ?_
                rintro r w' ⟨rfl, rfl⟩
                go_wp2_with fail
                refine (end_any _ _ _ _ H3.out.c).mono ?_
                rintro r w' ⟨rfl, rfl⟩
                have HN : Hid (EI W W.heap.size (rest S a') e' w3) := ⟨H3.out.r, H3.out.q⟩
                clear H3
                go_wp2_with fail
                go_roundw
                case rel => exact ⟨k + 1, a', e', by omega, by go_num, HN, HX⟩
                case measure => simp [intOf]; omega
      · have he' : e = 3 ∨ e = 5 := HX0.out.2.resolve_left he
        have EE : Hid (endE (rest S a0) e = e) := by show _ = _; unfold endE; rw [if_neg he]
        have e0 : (e != 0) = true := by simpa using he
        have e4 : (e != 4) = true := by rcases he' with rfl | rfl <;> rfl
        have e0' : (e == 0) = false := by simpa using he
        have e4' : (e == 4) = false := by rcases he' with rfl | rfl <;> rfl
        clear he he'
        as_aux_lemma =>
        go_wp2_with fail
        refine (end_x HI1.out EE.out).mono ?_
        rintro r w' ⟨rfl, rfl⟩
        go_wp2_with fail
        refine (end_x HI1.out EE.out).mono ?_
        rintro r w' ⟨rfl, rfl⟩
        go_wp2_with fail
        refine (fixed_any _ QB.out).mono ?_
        rintro r wz ⟨rfl, qz⟩
        go_wp2_with fail
        go_ret
        exact ⟨rfl, qz⟩
    · as_aux_lemma =>
      by_cases hl1 : k < len
      · have hl2 : ¬ k < 10 := fun h => hlt ⟨hl1, h⟩
        clear hlt
        go_wp2_with fail
        refine (fixed_any _ HI0.out.q).mono ?_
        rintro r wz ⟨rfl, qz⟩
        go_wp2_with fail
        go_ret
        exact ⟨rfl, qz⟩
      · clear hlt
        go_wp2_with fail
        refine (fixed_any _ HI0.out.q).mono ?_
        rintro r wz ⟨rfl, qz⟩
        go_wp2_with fail
        go_ret
        exact ⟨rfl, qz⟩

theorem own : ownKnob Try.prog.godebug = none := by kernel_rfl
theorem laidOut : laidOutB Try.prog = true := by kernel_rfl

set_option maxRecDepth 100000 in
theorem lifted (os : Os) (started : os.Started) (H : Type) (enc : TypeId × Value → H) :
    ReturnsInHanded {} Try.checked os 9 .any (Rows.codecHalfSpec.pre6 enc Try.prog Try.f9 Rows.codecHalfRow.domain false) (Rows.codecHalfSpec.post enc Try.prog Try.f9 false true false false) := by
  refine returnsInHanded_of_change (C := Try.checked) own started (by kernel_rfl) Try.func9
    (ChangeSpec.witness6 (enc := enc) (C := Try.checked) false ⟨#[], #[.string ⟨#[]⟩, .slice none 0 0], []⟩ 8 (by kernel_rfl) (by kernel_rfl) (by kernel_rfl) (by kernel_rfl)) ?_
  intro W base args ds gs before hval0 hW hcnd _
  have hval : ∀ (j : Nat) t v, Try.f9.params[j]? = some t → args[j]? = some v → Value.okWide Try.prog W .any base t v := hval0
  have hW' := hW
  obtain ⟨p, q, hA0, hV, rfl, hfz, hnd⟩ := hW
  have hA : DataW.TrodAll enc Try.prog W 0 (fun _ => true) true Try.f9.params.toList args.toList ds p := hA0
  rw [Try.params9] at hA hval
  obtain ⟨v0, vs0, d0, ds0, p0, q0, hargs, rfl, rfl, h0, r0⟩ := trodAll_cons hA
  obtain ⟨v1, vs1, d1, ds1, p1, q1, rfl, rfl, rfl, h1, r1⟩ := trodAll_cons r0
  obtain ⟨rfl, rfl, rfl⟩ := trodAll_nil r1
  obtain rfl : args = #[v0, v1] := by cases args; simp_all
  obtain ⟨rfl, rfl⟩ := trodVars_none hV
  have k0 := h0
  have lt0 : ∀ x ∈ p0, x.block < W.heap.size := by obtain ⟨m, hm⟩ := k0; exact DataW.trod_lt m _ _ _ hm
  obtain ⟨a0, rfl, e0, f0, w0⟩ := open_string Try.underlying9 (hval 0 9 v0 rfl rfl) h0
  have k1 := h1
  have lt1 : ∀ x ∈ p1, x.block < W.heap.size := by obtain ⟨m, hm⟩ := k1; exact DataW.trod_lt m _ _ _ hm
  obtain ⟨a1, len1, cap1, rfl⟩ := okWide_slice Try.underlying22 (hval 1 22 v1 rfl rfl)
  obtain ⟨z1, w1⟩ : ∃ f, IsParts W a1 len1 cap1 f := by
    obtain ⟨fuel, hf⟩ := h1
    obtain ⟨a, l, c, f, hcs, hip⟩ := open_parts hf
    simp [Value.cells] at hcs
    obtain ⟨rfl, rfl, rfl⟩ := hcs
    exact ⟨f, hip⟩
  clear hA0 hval0
  refine (walk W a0 w0 a1 len1 cap1 z1 w1).mono fun e W' ⟨he, bel⟩ => ?_
  subst he
  exact ⟨_, rfl, _, _, _, [], _, [], hW', trodAll_mk1 (shut_bool Try.underlying4 _), (trodAll_cons_mk (Below.trod laidOut (by kernel_rfl) (of_decide_eq_true (by kernel_rfl)) k0 bel lt0) (trodAll_cons_mk (Below.trod laidOut (by kernel_rfl) (of_decide_eq_true (by kernel_rfl)) k1 bel lt1) trodAll_mk0)), rfl, bel.frame _, fun h => by cases h⟩

theorem over : Rows.codecHalfRow.holds Try.pinned (OpenSpec.ofChange Rows.codecHalfSpec) :=
  OpenClaim.holds_of_wide 9 Try.f9 rfl rfl rfl rfl rfl rfl rfl ⟨rfl, rfl, rfl, rfl, rfl⟩ rfl rfl rfl rfl rfl (by kernel_rfl) Try.func9 (by kernel_rfl)
    (of_decide_eq_true (by kernel_rfl)) (by unfold Func.isWrapper; first | (rw [if_pos (by decide +kernel)]; kernel_rfl) | (rw [if_neg (by decide +kernel)]; exact ⟨rfl, rfl⟩))
    (fun os started H enc _ => lifted os started H enc)

end Go.Proofs.Ytefnncihpilpdaa.codecHalf
namespace Go.Proofs.Ytefnncihpilpdaa
theorem codecHalf_holds : Rows.CodecHalfSaid := codecHalf.over
#print axioms codecHalf_holds
end Go.Proofs.Ytefnncihpilpdaa
