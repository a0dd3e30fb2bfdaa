/-
  What the reference's State, Tear and Erased answer; Decode in one shape.
-/
import Derived.Test.YtmagcohdhljaeaaPgRefDec
namespace Go.Proofs.Ytmagcohdhljaeaa
open Go.RowKit
set_option maxRecDepth 100000 in
set_option maxHeartbeats 2000000 in
theorem qstate_any (P : List Nat) (hP : IsP P) (w : World) : Calls Try.prog 18 #[.agg (vals P).toArray] w fun e w' => e = .returned (.int .i64 (decE P)) ∧ Below w.heap.size w w' := by
  have b0 := Blk.new w 29 (vals P)
  have hbel := below_alloc w (.cells (vals P).toArray 29)
  go_enter Try.func18, Try.ntmps18
  go_wp2_with (refine wpList_load_mid rfl 29 _ rfl w.heap.size 0 rfl (vals P) _ (b0.page hP.1) Try.underlying29 rfl (sizeP hP.1) ?_)
  refine (qdecode_any P hP _).mono ?_
  rintro e w1 ⟨⟨_, rfl⟩ | ⟨h0, p, c, rfl, _⟩, hb1⟩
  · have hB := bt hbel hb1
    go_wp2
    go_ret
    exact ⟨rfl, bt hB (below_alloc _ _)⟩
  · have H0 : Hid (decE P = 0) := h0
    clear h0
    have hB := bt hbel hb1
    go_wp2
    go_ret
    exact ⟨by rw [H0.out]; rfl, bt hB (below_alloc _ _)⟩
set_option maxRecDepth 100000 in
theorem qtear_any (P ms : List Nat) (hP : IsP P) (q : Option Addr) (m d : Nat) (w : World) (hm : In w q m d ms) :
    Calls Try.prog 20 #[.agg (vals P).toArray, .slice q m d] w fun e w' => e = .returned (.agg (vals (maskL P ms)).toArray) ∧ Below w.heap.size w w' := by
  have hz := zeroPage
  have b0 : Blk ((w.alloc (.cells (vals P).toArray 29)).alloc (.cells (vals (fillP 0)).toArray 29)) w.heap.size 29 (vals P) := (Blk.new w 29 _).alloc _
  have b1 : Blk ((w.alloc (.cells (vals P).toArray 29)).alloc (.cells (vals (fillP 0)).toArray 29)) (w.heap.size + 1) 29 (vals (fillP 0)) := by
    have := Blk.new (w.alloc (.cells (vals P).toArray 29)) 29 (vals (fillP 0)); rwa [World.size_alloc] at this
  have hbel : Below w.heap.size w ((w.alloc (.cells (vals P).toArray 29)).alloc (.cells (vals (fillP 0)).toArray 29)) := (below_alloc w _).alloc (by simp) _
  have HL : Hid ((maskL P ms).length = 288) := by show _ = _; rw [maskL_length]; exact hP.1
  go_enter Try.func20, Try.ntmps20
  go_wp2_with (first
    | (refine wpList_load_mid rfl 29 _ rfl w.heap.size 0 rfl (vals P) _ (b0.page hP.1) Try.underlying29 rfl (sizeP hP.1) ?_)
    | (go_at_call 41; refine (qbytes_any P hP _).mono ?_; rintro e w1 ⟨p1, c1, rfl, hin1, hb1⟩; have hB1 := bt hbel hb1; have b2 := b1.kept hb1)
    | (go_at_call 44; refine (refMask_any p1 q 288 c1 m d P ms _ hin1 (hm.below hB1)).mono ?_; rintro e w2 ⟨p2, c2, rfl, hin2, hb2⟩; have hB2 := bt hB1 hb2; have b3 := b2.kept hb2)
    | (go_at_call 36; refine (qof_any p2 c2 (maskL P ms) _ hin2).mono ?_; rintro e w3 ⟨rfl, hb3⟩; have hB3 := bt hB2 hb3; have b4 := b3.kept hb3)
    | (refine wpList_store_blk rfl 29 _ _ rfl _ _ (vals (maskL P ms)) rfl rfl b4 (page_fits HL.out (fillP_length 0)) (sizeP HL.out) (vals_one _) ?_; intro w5 h5 ht5))
  rw [page_whole HL.out (fillP_length 0)] at h5
  exact ret_page Try.results20 rfl h5 HL.out rfl ⟨rfl, ht5.below hB3 (by omega)⟩
theorem rep_snoc (b k : Nat) : vals (List.replicate k b) ++ [.int .u8 (b : Int)] = vals (List.replicate (k + 1) b) := by
  rw [List.replicate_succ', vals_append]; rfl
set_option maxRecDepth 100000 in
set_option maxHeartbeats 2000000 in
theorem qerased_any (w : World) : Calls Try.prog 22 #[] w fun e w' => e = .returned (.agg (vals (fillP 255)).toArray) ∧ Below w.heap.size w w' := by
  have hz := zeroPage
  obtain ⟨i0, hi, hz0, hz1, hz2⟩ := info_parts info5
  have b0 := Blk.new w 29 (vals (fillP 0))
  have hbel := below_alloc w (.cells (vals (fillP 0)).toArray 29)
  have HF : Hid (List.replicate 288 255 = fillP 255) := rfl
  go_enter Try.func22, Try.ntmps22
  go_wp2
  generalize w.alloc (.cells (vals (fillP 0)).toArray 29) = W at *
  have hlW : w.heap.size < W.heap.size := b0.lt
  go_loopw [1, 2] (fun v i wr => ∃ k : Nat, k ≤ 288 ∧ i = .int .i64 k ∧ wr.ownsRow W.heap.size 5 1 v k (vals (List.replicate k 255)) ∧ Below W.heap.size W wr) (fun _ i _ => 288 - (intOf i).toNat)
  case atStart => exact ⟨0, by omega, rfl, World.ownsRow_nil _ _ _ _, Below.refl _ _⟩
  case round =>
    obtain ⟨k, hk, rfl, hown, hbl⟩ := hrel
    obtain ⟨p3, c3, rfl⟩ := owns_slice hown
    by_cases hlt : k < 288
    · go_wp2_with (at_builtin; refine wpList_append_own _ rfl (.tmp 7) (.tmp 8) 24 rfl W.heap.size 5 i0 (.int .u8 0) 1 1 Try.underlying24 hi hz0 hz1 hz2 rfl (by decide) _ k _ rfl (hown.alloc _) ⟨wr.heap.size, 0, none⟩ 1 1 [.int .u8 255] rfl rfl (one_cell_at _ _) (by intro u hu; simp at hu; subst hu; rfl) (by unfold maxLen; omega) (by omega) (by have := hbl.size; simp; omega) ?_; intro v4 w4 hown4 hgrow4 _; have hr4 : w4.ownsRow W.heap.size 5 1 v4 (k + 1) (vals (List.replicate (k + 1) 255)) := by { rw [← rep_snoc]; exact hown4 }; have hb4 : Below W.heap.size W w4 := (hbl.alloc hbl.size _).grown hgrow4 (by have := hbl.size; simp; omega) (fun q hq => (hown.lt q hq).1))
      go_roundw
      case rel => exact ⟨k + 1, by omega, by go_num, hr4, hb4⟩
      case measure => simp [intOf]; omega
    · have hk2 : k = 288 := by omega
      subst hk2
      rw [HF.out] at hown
      obtain ⟨p5, c5, hv5, hin5⟩ := in_of_owns hown (isP_fill 255 (by decide)).2 (by omega)
      cases hv5
      have b1 := b0.kept hbl
      have hB1 := bt hbel hbl
      go_wp2_with (first
        | (go_at_call 36; refine (qof_any p3 c3 (fillP 255) _ hin5).mono ?_; rintro e w6 ⟨rfl, hb6⟩; have hB6 := bt hB1 hb6; have b6 := b1.kept hb6)
        | (refine wpList_store_blk rfl 29 (.tmp 0) (.tmp 11) rfl _ _ (vals (fillP 255)) rfl rfl b6 (page_fits (fillP_length 255) (fillP_length 0)) (sizeP (fillP_length 255)) (vals_one _) ?_; intro w7 h7 ht7))
      rw [page_whole (fillP_length 255) (fillP_length 0)] at h7
      exact ret_page Try.results22 rfl h7 (fillP_length 255) rfl ⟨rfl, ht7.below hB6 (Nat.le_refl _)⟩
/-- What Decode answers, in one shape. -/
def dh (P : List Nat) (x : Int) : Int := if decE P = 0 then x else 0
def dD (P : List Nat) : List Nat := if decE P = 0 then P.take 256 else []
def dN (P : List Nat) : Nat := if decE P = 0 then 256 else 0
theorem decode_uni (P : List Nat) (hP : IsP P) (w : World) :
    Calls Try.prog 14 #[.agg (vals P).toArray] w fun e w' => ∃ p c, e = .returned (.tuple #[.agg #[.int .i64 (dh P (hv0 P)), .int .i64 (dh P (hv1 P)), .int .i64 (dh P (hv2 P)), .int .i64 (dh P (hv3 P))], .slice p (dN P) c, .int .i64 (decE P)]) ∧ In w' p (dN P) c (dD P) ∧ Below w.heap.size w w' := by
  refine (decode_any P hP w).mono ?_
  rintro e w1 ⟨⟨hne, rfl⟩ | ⟨h0, p, c, rfl, hin⟩, hb⟩
  · refine ⟨none, 0, ?_, ?_, hb⟩
    · unfold dh dN; rw [if_neg hne, if_neg hne, if_neg hne, if_neg hne, if_neg hne]
    · unfold dN dD; rw [if_neg hne, if_neg hne]; exact In.empty _
  · refine ⟨p, c, ?_, ?_, hb⟩
    · unfold dh dN; rw [if_pos h0, if_pos h0, if_pos h0, if_pos h0, if_pos h0, h0]
    · unfold dN dD; rw [if_pos h0, if_pos h0]; exact hin
theorem qdecode_uni (P : List Nat) (hP : IsP P) (w : World) :
    Calls Try.prog 15 #[.agg (vals P).toArray] w fun e w' => ∃ p c, e = .returned (.tuple #[.agg #[.int .i64 (dh P (hv0 P)), .int .i64 (dh P (hv1 P)), .int .i64 (dh P (hv2 P)), .int .i64 (dh P (hv3 P))], .slice p (dN P) c, .int .i64 (decE P)]) ∧ In w' p (dN P) c (dD P) ∧ Below w.heap.size w w' := by
  refine (qdecode_any P hP w).mono ?_
  rintro e w1 ⟨⟨hne, rfl⟩ | ⟨h0, p, c, rfl, hin⟩, hb⟩
  · refine ⟨none, 0, ?_, ?_, hb⟩
    · unfold dh dN; rw [if_neg hne, if_neg hne, if_neg hne, if_neg hne, if_neg hne]
    · unfold dN dD; rw [if_neg hne, if_neg hne]; exact In.empty _
  · refine ⟨p, c, ?_, ?_, hb⟩
    · unfold dh dN; rw [if_pos h0, if_pos h0, if_pos h0, if_pos h0, if_pos h0, h0]
    · unfold dN dD; rw [if_pos h0, if_pos h0]; exact hin
end Go.Proofs.Ytmagcohdhljaeaa
