/-
  The bytes of a page, plainly; the widths of fields.
-/
import Derived.Test.YtpikaagdiafieaaMjB3
namespace Go.Proofs.Ytpikaagdiafieaa
open Go.RowKit
def headW : List Int := [8, 8, 8, 40, 64]
def headV (P : MP) : List Nat := [P.kind.toNat, P.part.toNat, P.bad.length + P.recs.length, 0, P.gen.toNat]
def recW : List Int := [8, 8, 64]
def recV (r : MR) : List Nat := [r.kind.toNat, r.block.toNat, r.value.toNat]
def headB (P : MP) : List Nat := splice (List.replicate 256 0) 0 (packL headW (headV P))
def partB (P : MP) (x : List Nat) : List Nat := splice (splice (splice x 16 (packL [64] [P.seq.toNat])) 24 (bitsTo P.bad P.bad.length)) 32 (packL (List.replicate P.bad.length 24) (natsL P.wear))
/-- The first k records behind the head. -/
def recsB (x : List Nat) (l : List MR) : Nat → List Nat
  | 0 => x
  | k + 1 => splice (recsB x l k) (16 + 10 * k) (packL recW (recV (eR l k)))
/-- The bytes of a page. -/
def writeL (P : MP) : List Nat := if P.kind = 1 then partB P (headB P) else recsB (headB P) P.recs P.recs.length
theorem bytes_head : bytesW headW = 16 := by decide
theorem bytes_seq : bytesW [64] = 8 := by decide
theorem bytes_rec : bytesW recW = 10 := by decide
theorem sumW_rep (n : Nat) : sumW (List.replicate n 24) = 24 * (n : Int) := by
  induction n with
  | zero => rfl
  | succ n ih => rw [List.replicate_succ, sumW, ih]; omega
theorem bytes_wear (n : Nat) : bytesW (List.replicate n 24) = 3 * n := by
  unfold bytesW atW
  rw [List.length_replicate, List.take_of_length_le (by simp), sumW_rep]
  omega
theorem widthOk_wear {n : Nat} (h : n ≤ 64) : widthOk (List.replicate n 24) = true := by
  unfold widthOk
  rw [List.length_replicate, decide_eq_true h, Bool.true_and, List.all_eq_true]
  intro x hx
  rw [List.eq_of_mem_replicate hx]
  rfl
theorem fits1 {a : Nat} {v : Nat} {x : Int} (h : v < 2 ^ a) (hx : x.toNat = a) : v < 2 ^ x.toNat := by rw [hx]; exact h
theorem headOk {P : MP} (h : okMP P = true) : packOk headW (headV P) = true := by
  obtain ⟨hg, hk⟩ := okMP_iff.1 h
  have hg2 := hg.2
  have hb : P.kind.toNat < 256 ∧ P.part.toNat < 256 ∧ P.bad.length + P.recs.length < 256 ∧ P.gen.toNat < 18446744073709551616 := by
    rcases hk with ⟨hk1, hp, hs, hn, hm, hww, hr⟩ | ⟨hk2, hp, hs, hn, hm, hr, hall⟩ <;> omega
  unfold packOk
  rw [show widthOk headW = true from by decide, Bool.true_and, fitB_iff]
  refine ⟨rfl, fun i hi => ?_⟩
  have hi' : i < 5 := hi
  match i, hi' with
  | 0, _ => exact fits1 (a := 8) hb.1 rfl
  | 1, _ => exact fits1 (a := 8) hb.2.1 rfl
  | 2, _ => exact fits1 (a := 8) hb.2.2.1 rfl
  | 3, _ => exact fits1 (a := 40) (v := 0) (by decide) rfl
  | 4, _ => exact fits1 (a := 64) hb.2.2.2 rfl
theorem seqOk {x : Int} (h : x ≤ 1152921504606846976) : packOk [64] [x.toNat] = true := by
  unfold packOk
  rw [show widthOk [64] = true from by decide, Bool.true_and, fitB_iff]
  refine ⟨rfl, fun i hi => ?_⟩
  have hi' : i < 1 := hi
  match i, hi' with
  | 0, _ => exact fits1 (a := 64) (v := x.toNat) (show x.toNat < 18446744073709551616 by omega) rfl
theorem recOk {r : MR} (h : okMR r = true) : packOk recW (recV r) = true := by
  have hb : r.kind.toNat < 256 ∧ r.block.toNat < 256 ∧ r.value.toNat < 18446744073709551616 := by
    rcases okMR_facts h with ⟨h1, h2, h3, h4⟩ | ⟨h1, h2, h3, h4⟩ | ⟨h1, h2, h3, h4⟩
    · omega
    · rw [okWear_iff] at h4; omega
    · omega
  unfold packOk
  rw [show widthOk recW = true from by decide, Bool.true_and, fitB_iff]
  refine ⟨rfl, fun i hi => ?_⟩
  have hi' : i < 3 := hi
  match i, hi' with
  | 0, _ => exact fits1 (a := 8) hb.1 rfl
  | 1, _ => exact fits1 (a := 8) hb.2.1 rfl
  | 2, _ => exact fits1 (a := 64) hb.2.2 rfl
theorem eI_rep {n i : Nat} (h : i < n) : eI (List.replicate n 24) i = 24 := by simp [eI, h]
theorem wearOk {xs : List Int} {n : Nat} (hl : xs.length = n) (hn : n ≤ 64) (h : ∀ j, j < n → 0 ≤ eI xs j ∧ eI xs j ≤ 16777215) : packOk (List.replicate n 24) (natsL xs) = true := by
  unfold packOk
  rw [widthOk_wear hn, Bool.true_and, fitB_iff]
  refine ⟨by simp [natsL, hl], fun i hi => ?_⟩
  rw [List.length_replicate] at hi
  rw [eI_rep hi]
  have := h i hi
  have e : (natsL xs).getD i 0 = (eI xs i).toNat := by
    simp only [natsL, eI, List.getD_eq_getElem?_getD, List.getElem?_map]
    cases xs[i]? <;> rfl
  rw [e]
  show (eI xs i).toNat < 16777216
  omega
theorem headB_length {P : MP} (h : okMP P = true) : (headB P).length = 256 := by
  unfold headB
  rw [splice_length (by rw [packL_length (headOk h), bytes_head, List.length_replicate]; omega), List.length_replicate]
theorem okMP_part {P : MP} (h : okMP P = true) (hk : P.kind = 1) : okPart P := by
  obtain ⟨hg, h1 | h2⟩ := okMP_iff.1 h
  · exact h1.2
  · omega
theorem okMP_recs {P : MP} (h : okMP P = true) (hk : ¬ P.kind = 1) : P.kind = 2 ∧ okRecs P := by
  obtain ⟨hg, h1 | h2⟩ := okMP_iff.1 h
  · exact absurd h1.1 hk
  · exact h2
theorem recsB_length {x : List Nat} {l : List MR} (hx : x.length = 256) (hl : l.length ≤ 24) (h : l.all okMR = true) : ∀ k, k ≤ l.length → (recsB x l k).length = 256
  | 0, _ => hx
  | k + 1, hk => by
    have ih := recsB_length hx hl h k (by omega)
    have hr : okMR (eR l k) = true := by
      have := List.all_eq_true.1 h l[k] (List.getElem_mem (by omega))
      have e : eR l k = l[k] := by simp [eR, show k < l.length by omega]
      rw [e]; exact this
    rw [recsB, splice_length (by rw [packL_length (recOk hr), bytes_rec, ih]; omega), ih]
theorem in_litI (w : World) {cs : Array Value} {xs : List Int} {n : Nat} (h : cs.toList = valsI xs) (hn : xs.length = n) (hr : n ≤ 140737488355328) :
    InI (w.alloc (.cells cs 3)) (some ⟨w.heap.size, 0, none⟩) n n xs := by
  have hs : cs.size = n * 1 := by rw [← Array.length_toList, h, valsI_length, hn, Nat.mul_one]
  have ho := World.ownsRow_lit (e := 3) (size := 1) (base := 0) w cs n (Nat.zero_le _) (by unfold maxLen; omega) hs
  rw [h] at ho
  obtain ⟨p, c, hv, hin⟩ := in_of_ownsI ho (by omega)
  cases hv
  exact hin
theorem in_lit64 (w : World) {cs : Array Value} {xs : List Nat} {n : Nat} (h : cs.toList = vals64 xs) (hn : xs.length = n) (hb : ∀ x ∈ xs, x < 18446744073709551616) (hr : n ≤ 140737488355328) :
    In64 (w.alloc (.cells cs 103)) (some ⟨w.heap.size, 0, none⟩) n n xs := by
  have hs : cs.size = n * 1 := by rw [← Array.length_toList, h, vals64_length, hn, Nat.mul_one]
  have ho := World.ownsRow_lit (e := 103) (size := 1) (base := 0) w cs n (Nat.zero_le _) (by unfold maxLen; omega) hs
  rw [h] at ho
  obtain ⟨p, c, hv, hin⟩ := in64_of_owns ho hb hr
  cases hv
  exact hin
/-- A slice of widths in new memory. -/
def ResW (ws : List Int) (w : World) (e : Ending) (w' : World) : Prop := ∃ g c, e = .returned (.slice (some ⟨g, 0, none⟩) ws.length c) ∧ InI w' (some ⟨g, 0, none⟩) ws.length c ws ∧ Below w.heap.size w w'
theorem headW_any (w : World) : Calls Try.prog 80 #[] w (ResW headW w) := by
  go_enter Try.func80, Try.ntmps80
  go_wp2
  go_ret
  exact ⟨_, _, rfl, in_litI w rfl rfl (by decide), below_alloc _ _⟩
theorem seqW_any (w : World) : Calls Try.prog 81 #[] w (ResW [64] w) := by
  go_enter Try.func81, Try.ntmps81
  go_wp2
  go_ret
  exact ⟨_, _, rfl, in_litI w rfl rfl (by decide), below_alloc _ _⟩
theorem recW_any (w : World) : Calls Try.prog 85 #[] w (ResW recW w) := by
  go_enter Try.func85, Try.ntmps85
  go_wp2
  go_ret
  exact ⟨_, _, rfl, in_litI w rfl rfl (by decide), below_alloc _ _⟩
theorem wearW_any (n : Nat) (h1 : 1 ≤ n) (hn : n ≤ 64) (w : World) : Calls Try.prog 83 #[.int .i64 (n : Int)] w (ResW (List.replicate n 24) w) := by
  have hin : InI (w.alloc (.cells #[.int .i64 24] 3)) (some ⟨w.heap.size, 0, none⟩) 1 1 [24] := in_litI w rfl rfl (by decide)
  go_enter Try.func83, Try.ntmps83
  go_wp2_with (go_at_call 92; refine (repeat_any 24 _ _ 1 n h1 (by omega) _ hin).mono ?_; rintro e w1 ⟨rfl, hb1, hbel1⟩)
  go_ret
  obtain ⟨p, c, hv, hii⟩ := in_of_ownsI (owns_of_blkI (B := 0) (Nat.zero_le _) (n := n) (by simp) (by unfold maxLen; omega) hb1) (by omega)
  cases hv
  rw [World.size_alloc] at hii
  refine ⟨_, _, by rw [List.length_replicate]; rfl, by rw [List.length_replicate]; exact hii, bt (below_alloc _ _) hbel1⟩
theorem wearW_any' (n : Nat) (h1 : 1 ≤ n) (hn : n ≤ 64) (w : World) : Calls Try.prog 83 #[.int .i64 (n : Int)] w fun e w' => ∃ g c, e = .returned (.slice (some ⟨g, 0, none⟩) n c) ∧ InI w' (some ⟨g, 0, none⟩) n c (List.replicate n 24) ∧ Below w.heap.size w w' :=
  (wearW_any n h1 hn w).mono (fun e w' ⟨g, c, h1, h2, h3⟩ => ⟨g, c, by rw [h1, List.length_replicate], by rw [List.length_replicate] at h2; exact h2, h3⟩)
end Go.Proofs.Ytpikaagdiafieaa
