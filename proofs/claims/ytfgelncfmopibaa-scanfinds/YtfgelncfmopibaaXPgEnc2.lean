/-
  Encode, walked.
-/
import Derived.Test.YtfgelncfmopibaaXPgEnc
namespace Go.Proofs.Ytfgelncfmopibaa.Pg
open Go.RowKit
set_option maxRecDepth 100000 in
set_option maxHeartbeats 2000000 in
theorem encode_head (k g s t : Int) (p : Option Addr) (n c : Nat) (w : World) (hok : chkB k g s t = false) :
    Calls Try.prog 59 #[.agg #[.int .i64 k, .int .i64 g, .int .i64 s, .int .i64 t], .slice p n c] w fun e w' => e = .returned (.tuple #[.agg (vals (fillP 0)).toArray, .int .i64 30]) ∧ Below w.heap.size w w' := by
  have hz := zeroPage
  have b1 : Blk ((w.alloc (.cells #[.int .i64 k, .int .i64 g, .int .i64 s, .int .i64 t] 31)).alloc (.cells (vals (fillP 0)).toArray 74)) (w.heap.size + 1) 74 (vals (fillP 0)) := by
    have := Blk.new (w.alloc (.cells #[.int .i64 k, .int .i64 g, .int .i64 s, .int .i64 t] 31)) 74 (vals (fillP 0)); rwa [World.size_alloc] at this
  have hbel : Below w.heap.size w ((w.alloc (.cells #[.int .i64 k, .int .i64 g, .int .i64 s, .int .i64 t] 31)).alloc (.cells (vals (fillP 0)).toArray 74)) := (below_alloc w _).alloc (by simp) _
  have HE : Hid (chkE k g s t = 30) := by show _ = _; unfold chkE; rw [hok]; rfl
  clear hok
  go_enter Try.func59, Try.ntmps59
  go_wp2_with (first
    | (go_at_call 42; refine (check_any k g s t _).mono ?_; rintro e w1 ⟨rfl, hb1⟩; rw [HE.out]; have b2 := b1.kept hb1; have hB1 := bt hbel hb1)
    | (refine wpList_store_blk rfl 74 _ _ rfl _ _ (vals (fillP 0)) rfl rfl b2 (page_fits (fillP_length 0) (fillP_length 0)) (sizeP (fillP_length 0)) (vals_one _) ?_; intro w5 h5 ht5))
  rw [page_whole (fillP_length 0) (fillP_length 0)] at h5
  exact ret_page2 Try.results59 rfl h5 (fillP_length 0) rfl ⟨rfl, ht5.below hB1 (by omega)⟩
set_option maxRecDepth 100000 in
set_option maxHeartbeats 2000000 in
theorem encode_long (k g s t : Int) (p : Option Addr) (n c : Nat) (w : World) (hok : chkB k g s t = true) (hn : 256 < n) :
    Calls Try.prog 59 #[.agg #[.int .i64 k, .int .i64 g, .int .i64 s, .int .i64 t], .slice p n c] w fun e w' => e = .returned (.tuple #[.agg (vals (fillP 0)).toArray, .int .i64 3]) ∧ Below w.heap.size w w' := by
  have hz := zeroPage
  have b1 : Blk ((w.alloc (.cells #[.int .i64 k, .int .i64 g, .int .i64 s, .int .i64 t] 31)).alloc (.cells (vals (fillP 0)).toArray 74)) (w.heap.size + 1) 74 (vals (fillP 0)) := by
    have := Blk.new (w.alloc (.cells #[.int .i64 k, .int .i64 g, .int .i64 s, .int .i64 t] 31)) 74 (vals (fillP 0)); rwa [World.size_alloc] at this
  have hbel : Below w.heap.size w ((w.alloc (.cells #[.int .i64 k, .int .i64 g, .int .i64 s, .int .i64 t] 31)).alloc (.cells (vals (fillP 0)).toArray 74)) := (below_alloc w _).alloc (by simp) _
  have HE : Hid (chkE k g s t = 0) := by show _ = _; unfold chkE; rw [hok]; rfl
  clear hok
  have hn1 : (256 : Int) < (n : Int) := by omega
  go_enter Try.func59, Try.ntmps59
  go_wp2_with (first
    | (go_at_call 42; refine (check_any k g s t _).mono ?_; rintro e w1 ⟨rfl, hb1⟩; rw [HE.out]; have b2 := b1.kept hb1; have hB1 := bt hbel hb1)
    | (refine wpList_store_blk rfl 74 _ _ rfl _ _ (vals (fillP 0)) rfl rfl b2 (page_fits (fillP_length 0) (fillP_length 0)) (sizeP (fillP_length 0)) (vals_one _) ?_; intro w5 h5 ht5))
  rw [page_whole (fillP_length 0) (fillP_length 0)] at h5
  exact ret_page2 Try.results59 rfl h5 (fillP_length 0) rfl ⟨rfl, ht5.below hB1 (by omega)⟩
theorem seal_284 (p : Option Addr) (c : Nat) (xs : List Nat) (w : World) (hx : In w p 284 c xs) :
    Calls Try.prog 90 #[.slice p 284 c] w fun e w' => ∃ p' c', e = .returned (.tuple #[.slice p' 288 c', .int .i64 0]) ∧ In w' p' 288 c' (xs ++ cnt xs) ∧ Below w.heap.size w w' := seal_short p 284 c xs w hx (by decide)
theorem wrap4 {k g s t : Nat} (h : chkB k g s t = true) : IntKind.u64.wrap (k : Int) = (k : Int) ∧ IntKind.u64.wrap (g : Int) = (g : Int) ∧ IntKind.u64.wrap (s : Int) = (s : Int) ∧ IntKind.u64.wrap (t : Int) = (t : Int) := by
  have hc := chkB_iff.1 h
  have hw : ∀ x : Nat, (x : Int) ≤ 1152921504606846976 → IntKind.u64.wrap (x : Int) = (x : Int) := by
    intro x hx
    have h1 : (x : Int) % 18446744073709551616 = (x : Int) := by omega
    have h2 : IntKind.u64.wrap (x : Int) = (x : Int) % 18446744073709551616 := rfl
    rw [h2, h1]
  exact ⟨hw k (by omega), hw g (by omega), hw s (by omega), hw t (by omega)⟩
theorem lim4 {k g s t : Nat} (h : chkB k g s t = true) : ∀ x ∈ [k, 0, g, s, t, 0], x < 18446744073709551616 := by
  have hc := chkB_iff.1 h
  intro x hx
  simp only [List.mem_cons, List.not_mem_nil, or_false] at hx
  omega
set_option maxRecDepth 100000 in
set_option maxHeartbeats 4000000 in
theorem encode_ok (k g s t : Nat) (p : Option Addr) (n c : Nat) (data : List Nat) (w : World) (hd : In w p n c data) (hok : chkB k g s t = true) (hn : n ≤ 256) :
    Calls Try.prog 59 #[.agg #[.int .i64 k, .int .i64 g, .int .i64 s, .int .i64 t], .slice p n c] w fun e w' => e = .returned (.tuple #[.agg (vals (encL k g s t data)).toArray, .int .i64 0]) ∧ Below w.heap.size w w' := by
  have hz := zeroPage
  have b1 : Blk ((w.alloc (.cells #[.int .i64 k, .int .i64 g, .int .i64 s, .int .i64 t] 31)).alloc (.cells (vals (fillP 0)).toArray 74)) (w.heap.size + 1) 74 (vals (fillP 0)) := by
    have := Blk.new (w.alloc (.cells #[.int .i64 k, .int .i64 g, .int .i64 s, .int .i64 t] 31)) 74 (vals (fillP 0)); rwa [World.size_alloc] at this
  have b0 : Blk ((w.alloc (.cells #[.int .i64 k, .int .i64 g, .int .i64 s, .int .i64 t] 31)).alloc (.cells (vals (fillP 0)).toArray 74)) w.heap.size 31 [.int .i64 k, .int .i64 g, .int .i64 s, .int .i64 t] := (Blk.new' w 31 #[.int .i64 k, .int .i64 g, .int .i64 s, .int .i64 t]).alloc _
  have hbel : Below w.heap.size w ((w.alloc (.cells #[.int .i64 k, .int .i64 g, .int .i64 s, .int .i64 t] 31)).alloc (.cells (vals (fillP 0)).toArray 74)) := (below_alloc w _).alloc (by simp) _
  have HE : Hid (chkE k g s t = 0) := by show _ = _; unfold chkE; rw [hok]; rfl
  have HOK : Hid (chkB k g s t = true) := hok
  clear hok
  have hn1 : ¬ (256 : Int) < (n : Int) := by omega
  go_enter Try.func59, Try.ntmps59
  go_wp2_with (go_at_call 42; refine (check_any k g s t _).mono ?_; rintro e w1 ⟨rfl, hb1⟩; rw [HE.out]; have b2 := b1.kept hb1; have hB1 := bt hbel hb1; have b3 := b0.kept hb1)
  have c0 := b3.cell' (i := 0) rfl
  have c1 := b3.cell' (i := 1) rfl
  have c2 := b3.cell' (i := 2) rfl
  have c3 := b3.cell' (i := 3) rfl
  clear b0 b1 hbel hb1
  have HW : Hid (IntKind.u64.wrap (k : Int) = (k : Int) ∧ IntKind.u64.wrap (g : Int) = (g : Int) ∧ IntKind.u64.wrap (s : Int) = (s : Int) ∧ IntKind.u64.wrap (t : Int) = (t : Int)) := wrap4 HOK.out
  have HL : Hid (∀ x ∈ [k, 0, g, s, t, 0], x < 18446744073709551616) := lim4 HOK.out
  go_region_held3 (fun w' => w'.cell? ⟨w.heap.size, 0, none⟩ = some (.int .i64 k) ∧ w'.cell? ⟨w.heap.size, 1, none⟩ = some (.int .i64 g) ∧ w'.cell? ⟨w.heap.size, 2, none⟩ = some (.int .i64 s) ∧ w'.cell? ⟨w.heap.size, 3, none⟩ = some (.int .i64 t))
    (first | exact hS3 | go_keep | exact cells4_below hb2 (by assumption))
    (first
      | (go_at_call 88; refine (widths_any _).mono ?_; rintro e w2 ⟨p2, rfl, hin2, hb2⟩)
      | (guard_target = Calls _ 89 #[_, Value.slice (some ⟨w2.heap.size, 0, none⟩) _ _] _ _; go_at_call 89; rw [HW.out.1, HW.out.2.1, HW.out.2.2.1, HW.out.2.2.2]; refine (pack_head p2 _ k g s t _ HOK.out (hin2.below (below_alloc _ _)) (in_lit64 w2 (xs := [k, 0, g, s, t, 0]) (n := 6) rfl rfl HL.out (by decide))).mono ?_; rintro e w3 ⟨p3, d3, rfl, hin3, hb3⟩; have hB3 : Below w1.heap.size w1 w3 := bt (bt (((Below.refl w1.heap.size w1).drew).trans hb2) (below_alloc w2 _)) hb3; have hS3 := cells4_below hB3 ⟨b3.cell' (i := 0) rfl, b3.cell' (i := 1) rfl, b3.cell' (i := 2) rfl, b3.cell' (i := 3) rfl⟩)
      | (go_at_call 89; rw [HW.out.1, HW.out.2.1, HW.out.2.2.1, HW.out.2.2.2] at hb2 ⊢; refine (pack_head p2 _ k g s t _ HOK.out hin2 ((in_lit64 w1.drew (xs := [k, 0, g, s, t, 0]) (n := 6) rfl rfl HL.out (by decide)).below hb2)).mono ?_; rintro e w3 ⟨p3, d3, rfl, hin3, hb3⟩; have hB3 : Below w1.heap.size w1 w3 := bt (bt (((Below.refl w1.heap.size w1).drew).trans (below_alloc w1.drew _)) hb2) hb3; have hS3 := cells4_below hB3 ⟨b3.cell' (i := 0) rfl, b3.cell' (i := 1) rfl, b3.cell' (i := 2) rfl, b3.cell' (i := 3) rfl⟩))
  all_goals
    clear hS3 hb3 hb2 hin2 c0 c1 c2 c3
    have hB4 := bt hB1 hB3
    have b4 := b2.kept hB3
    have hlt : w.heap.size + 1 < w3.heap.size := b4.lt
    have hd3 := hd.below hB4
    have HD : Hid (data.length ≤ 256) := by show _ ≤ _; rw [hd.len]; exact hn
    clear hB1 hB3 b2 b3 hd
    obtain ⟨w4, hcp4, hX4, ht4⟩ := copy_gen (o := 0) (L := 256) (Blk.new w3 74 (vals (fillP 0))) (by rw [fillP_length]; decide) (hd3.below (below_alloc _ _))
    have hB34 : Below w3.heap.size w3 w4 := ht4.below (below_alloc w3 _) (Nat.le_refl _)
    obtain ⟨w5, hcp5, hX5, ht5⟩ := copy_gen (o := 256) (L := 32) hX4 (by rw [layAt_length _ _ _ _ (by rw [fillP_length]; decide), fillP_length]; decide) (hin3.below hB34)
    have hB35 : Below w3.heap.size w3 w5 := ht5.below hB34 (Nat.le_refl _)
    change Blk w5 w3.heap.size 74 (vals (rawL k g s t data)) at hX5
    have hR := rawL_isP HOK.out HD.out hd3.byte
    have HT : Hid ((rawL k g s t data).take 284 = bodyL k g s t data) := rawL_take HOK.out HD.out
    have hP := encL_isP HOK.out HD.out hd3.byte
    have HP : Hid (encL k g s t data = bodyL k g s t data ++ cnt (bodyL k g s t data)) := rfl
    have b5 := b4.kept hB35
    have hB5 := bt hB4 hB35
    clear hX4 ht4 ht5 hB34 hB35 hB4 b4 hin3 hd3
    generalize rawL k g s t data = raw at *
    obtain ⟨enc, hen⟩ : ∃ e, encL k g s t data = e := ⟨_, rfl⟩
    have HEN : Hid (encL k g s t data = enc) := hen
    rw [hen] at hP HP
    clear hen
    generalize bodyL k g s t data = bod at *
    go_wp2_with (first
      | (refine wpList_load_mid rfl 74 _ rfl w3.heap.size 0 rfl (vals raw) _ (hX5.page hR.1) Try.underlying74 rfl (sizeP hR.1) ?_)
      | (go_at_call 57; refine (join_any raw hR _).mono ?_; rintro e w6 ⟨p6, c6, rfl, hin6, hb6⟩; have b6 := b5.kept hb6; have hB6 := bt hB5 hb6; have hsf : ∀ W, (Instr.slice 75 (.slice p6 288 c6) none (some (.int .i64 284)) none).run Try.prog W = .ok (.slice p6 284 c6) W := slice_front p6 288 c6 284 (by decide) hin6.cap; have hin7 := hin6.front 284 (by decide); rw [HT.out] at hin7)
      | (go_at_call 90; refine (seal_284 p6 c6 bod _ hin7).mono ?_; rintro e w7 ⟨p7, c7, rfl, hin8, hb7⟩; rw [← HP.out] at hin8; have b7 := b6.kept hb7; have hB7 := bt hB6 hb7)
      | (go_at_call 91; refine (split_any p7 c7 enc _ hin8).mono ?_; rintro e w8 ⟨rfl, hb8⟩; have b8 := b7.kept hb8; have hB8 := bt hB7 hb8)
      | (refine wpList_store_blk rfl 74 _ _ rfl _ _ (vals enc) rfl rfl b8 (page_fits hP.1 (fillP_length 0)) (sizeP hP.1) (vals_one _) ?_; intro w9 h9 ht9))
    rw [page_whole hP.1 (fillP_length 0)] at h9
    exact ret_page2 Try.results59 rfl h9 hP.1 rfl ⟨by rw [HEN.out]; rfl, ht9.below hB8 (by omega)⟩
theorem encode_any (k g s t : Int) (p : Option Addr) (n c : Nat) (data : List Nat) (w : World) (hd : In w p n c data) :
    Calls Try.prog 59 #[.agg #[.int .i64 k, .int .i64 g, .int .i64 s, .int .i64 t], .slice p n c] w fun e w' => e = .returned (.tuple #[.agg (vals (encP k g s t data)).toArray, .int .i64 (encE k g s t data)]) ∧ Below w.heap.size w w' := by
  have hl := hd.len
  cases hok : chkB k g s t with
  | false =>
    have e1 : encE k g s t data = 30 := by unfold encE; rw [hok]; rfl
    have e2 : encP k g s t data = fillP 0 := by unfold encP; rw [e1]; rfl
    rw [e1, e2]
    exact encode_head k g s t p n c w hok
  | true =>
    by_cases hn : 256 < n
    · have e1 : encE k g s t data = 3 := by unfold encE; rw [hok, if_pos rfl, if_pos (by omega)]
      have e2 : encP k g s t data = fillP 0 := by unfold encP; rw [e1]; rfl
      rw [e1, e2]
      exact encode_long k g s t p n c w hok hn
    · have e1 : encE k g s t data = 0 := by unfold encE; rw [hok, if_pos rfl, if_neg (by omega)]
      have e2 : encP k g s t data = encL k g s t data := by unfold encP; rw [e1]; rfl
      rw [e1, e2]
      have hc := chkB_iff.1 hok
      obtain ⟨k', rfl⟩ := Int.eq_ofNat_of_zero_le (show 0 ≤ k by omega)
      obtain ⟨g', rfl⟩ := Int.eq_ofNat_of_zero_le (show 0 ≤ g by omega)
      obtain ⟨s', rfl⟩ := Int.eq_ofNat_of_zero_le (show 0 ≤ s by omega)
      obtain ⟨t', rfl⟩ := Int.eq_ofNat_of_zero_le (show 0 ≤ t by omega)
      exact encode_ok k' g' s' t' p n c data w hd hok (by omega)
end Go.Proofs.Ytfgelncfmopibaa.Pg
