/-
  What Tear and Erased answer.
-/
import Derived.Test.YtmagcohdhljaeaaPgSplit
namespace Go.Proofs.Ytmagcohdhljaeaa
open Go.RowKit
theorem Blk.page {w : World} {g : Nat} {t : TypeId} {P : List Nat} (h : Blk w g t (vals P)) (hl : P.length = 288) : w.rangeAt g 0 (vals P) :=
  h.range 0 288 _ (by rw [List.drop_zero, List.take_of_length_le (by rw [vals_length, hl]; exact Nat.le_refl _)])
theorem page_fits {P Q : List Nat} (hP : P.length = 288) (hQ : Q.length = 288) : 0 + (vals P).length ≤ (vals Q).length := by rw [vals_length, vals_length, hP, hQ]; exact Nat.le_refl _
theorem page_whole {P Q : List Nat} (hP : P.length = 288) (hQ : Q.length = 288) : (vals Q).take 0 ++ vals P ++ (vals Q).drop (0 + (vals P).length) = vals P := whole_row (by rw [vals_length, vals_length, hP, hQ])
set_option maxRecDepth 100000 in
theorem tear_any (P ms : List Nat) (hP : IsP P) (q : Option Addr) (m d : Nat) (w : World) (hm : In w q m d ms) :
    Calls Try.prog 19 #[.agg (vals P).toArray, .slice q m d] w fun e w' => e = .returned (.agg (vals (maskL P ms)).toArray) ∧ Below w.heap.size w w' := by
  have hz := zeroPage
  have b0 : Blk ((w.alloc (.cells (vals P).toArray 29)).alloc (.cells (vals (fillP 0)).toArray 29)) w.heap.size 29 (vals P) := (Blk.new w 29 _).alloc _
  have b1 : Blk ((w.alloc (.cells (vals P).toArray 29)).alloc (.cells (vals (fillP 0)).toArray 29)) (w.heap.size + 1) 29 (vals (fillP 0)) := by
    have := Blk.new (w.alloc (.cells (vals P).toArray 29)) 29 (vals (fillP 0)); rwa [World.size_alloc] at this
  have hbel : Below w.heap.size w ((w.alloc (.cells (vals P).toArray 29)).alloc (.cells (vals (fillP 0)).toArray 29)) := (below_alloc w _).alloc (by simp) _
  have hML : (maskL P ms).length = 288 := by rw [maskL_length]; exact hP.1
  have HL : Hid ((maskL P ms).length = 288) := hML
  clear hML
  go_enter Try.func19, Try.ntmps19
  go_wp2_with (first
    | (refine wpList_load_mid rfl 29 _ rfl w.heap.size 0 rfl (vals P) _ (b0.page hP.1) Try.underlying29 rfl (sizeP hP.1) ?_)
    | (go_at_call 32; refine (join_any P hP _).mono ?_; rintro e w1 ⟨p1, c1, rfl, hin1, hb1⟩; have hB1 := bt hbel hb1; have b2 := b1.kept hb1)
    | (go_at_call 43; refine (mask_any p1 q 288 c1 m d P ms _ hin1 (hm.below hB1)).mono ?_; rintro e w2 ⟨p2, c2, rfl, hin2, hb2⟩; have hB2 := bt hB1 hb2; have b3 := b2.kept hb2)
    | (go_at_call 33; refine (split_any p2 c2 (maskL P ms) _ hin2).mono ?_; rintro e w3 ⟨rfl, hb3⟩; have hB3 := bt hB2 hb3; have b4 := b3.kept hb3)
    | (refine wpList_store_blk rfl 29 _ _ rfl _ _ (vals (maskL P ms)) rfl rfl b4 (page_fits HL.out (fillP_length 0)) (sizeP HL.out) (vals_one _) ?_; intro w5 h5 ht5))
  rw [page_whole HL.out (fillP_length 0)] at h5
  exact ret_page Try.results19 rfl h5 HL.out rfl ⟨rfl, ht5.below hB3 (by omega)⟩
/-- A page of zeros, torn by a mask of ones: all bits are 1. -/
theorem mask_erased : maskL (fillP 0) [255] = fillP 255 := by decide +kernel
set_option maxRecDepth 100000 in
theorem erasedP_any (w : World) : Calls Try.prog 21 #[] w fun e w' => e = .returned (.agg (vals (fillP 255)).toArray) ∧ Below w.heap.size w w' := by
  have hz := zeroPage
  have b0 := Blk.new w 29 (vals (fillP 0))
  have hin0 := in_lit (w.alloc (.cells (vals (fillP 0)).toArray 29)) (cs := #[Value.int .u8 255]) (xs := [255]) (n := 1) rfl rfl (by decide) (by decide)
  rw [World.size_alloc] at hin0
  go_enter Try.func21, Try.ntmps21
  go_wp2_with (first
    | (go_at_call 19; refine (tear_any (fillP 0) [255] (isP_fill 0 (by decide)) _ 1 1 _ hin0).mono ?_; rintro e w1 ⟨rfl, hb1⟩; rw [mask_erased])
    | (refine wpList_store_blk rfl 29 _ _ rfl _ _ (vals (fillP 255)) rfl rfl ((b0.alloc _).kept hb1) (page_fits (fillP_length 255) (fillP_length 0)) (sizeP (fillP_length 255)) (vals_one _) ?_; intro w5 h5 ht5))
  rw [page_whole (fillP_length 255) (fillP_length 0)] at h5
  exact ret_page Try.results21 rfl h5 (fillP_length 255) rfl ⟨rfl, ht5.below (bt (bt (below_alloc w _) (below_alloc _ _)) hb1) (Nat.le_refl _)⟩
end Go.Proofs.Ytmagcohdhljaeaa
