/-
  What the reference's Check, of and Bytes answer.
-/
import Derived.Test.YtmagcohdhljaeaaPgLift
import Derived.Test.YtmagcohdhljaeaaRefPack
import Derived.Test.YtmagcohdhljaeaaRefMask
namespace Go.Proofs.Ytmagcohdhljaeaa
open Go.RowKit
theorem qcheck_any (k g s t : Int) (w : World) :
    Calls Try.prog 13 #[.agg #[.int .i64 k, .int .i64 g, .int .i64 s, .int .i64 t]] w fun e w' => e = .returned (.int .i64 (chkE k g s t)) ∧ Below w.heap.size w w' := by
  by_cases h1 : k < 1
  · rw [chk_no (by omega)]
    go_enter Try.func13, Try.ntmps13
    go_wp2
    go_ret
    exact ⟨rfl, below_alloc _ _⟩
  by_cases h2 : 3 < k
  · rw [chk_no (by omega)]
    go_enter Try.func13, Try.ntmps13
    go_wp2
    go_ret
    exact ⟨rfl, below_alloc _ _⟩
  by_cases h3 : g < 0
  · rw [chk_no (by omega)]
    go_enter Try.func13, Try.ntmps13
    go_wp2
    go_ret
    exact ⟨rfl, below_alloc _ _⟩
  by_cases h4 : 1048576 ≤ g
  · rw [chk_no (by omega)]
    go_enter Try.func13, Try.ntmps13
    go_wp2
    go_ret
    exact ⟨rfl, below_alloc _ _⟩
  by_cases h5 : s < 1
  · rw [chk_no (by omega)]
    go_enter Try.func13, Try.ntmps13
    go_wp2
    go_ret
    exact ⟨rfl, below_alloc _ _⟩
  by_cases h7 : t < s
  · rw [chk_no (by omega)]
    go_enter Try.func13, Try.ntmps13
    go_wp2
    go_ret
    exact ⟨rfl, below_alloc _ _⟩
  by_cases h8 : 1152921504606846976 < t
  · rw [chk_no (by omega)]
    go_enter Try.func13, Try.ntmps13
    go_wp2
    go_ret
    exact ⟨rfl, below_alloc _ _⟩
  by_cases h9 : k = 1
  · have hb : (k != 1) = false := by rw [h9]; rfl
    rw [chk_ok (by omega)]
    clear h9
    go_enter Try.func13, Try.ntmps13
    go_wp2
    go_ret
    exact ⟨rfl, below_alloc _ _⟩
  have hb : (k != 1) = true := by rw [bne_iff_ne]; exact h9
  by_cases h10 : t = s
  · have hc : (t != s) = false := by rw [h10]; simp
    rw [chk_ok (by omega)]
    clear h9 h10
    go_enter Try.func13, Try.ntmps13
    go_wp2
    go_ret
    exact ⟨rfl, below_alloc _ _⟩
  · have hc : (t != s) = true := by rw [bne_iff_ne]; exact h10
    rw [chk_no (by omega)]
    clear h9 h10
    go_enter Try.func13, Try.ntmps13
    go_wp2
    go_ret
    exact ⟨rfl, below_alloc _ _⟩
/-- The first k bytes of xs, then zeros. -/
def partX (xs : List Nat) (k : Nat) : List Nat := xs.take k ++ List.replicate (288 - k) 0
theorem partX_zero (xs : List Nat) : partX xs 0 = fillP 0 := by rw [partX, fillP, List.take_zero, List.nil_append, Nat.sub_zero]
theorem partX_all {xs : List Nat} (h : xs.length = 288) : partX xs 288 = xs := by
  unfold partX; rw [List.take_of_length_le (by omega), Nat.sub_self, List.replicate_zero, List.append_nil]
theorem partX_length {xs : List Nat} (h : xs.length = 288) (k : Nat) (hk : k ≤ 288) : (partX xs k).length = 288 := by
  unfold partX; rw [List.length_append, List.length_take, List.length_replicate]; omega
theorem partX_set {xs : List Nat} (h : xs.length = 288) (k : Nat) (hk : k < 288) : (vals (partX xs k)).set k (.int .u8 (el xs k)) = vals (partX xs (k + 1)) := by
  have hl : (vals (xs.take k)).length = k := by rw [vals_length, List.length_take]; omega
  obtain ⟨m, hm⟩ : ∃ m, 288 - k = m + 1 := ⟨287 - k, by omega⟩
  have hm' : 288 - (k + 1) = m := by omega
  unfold partX
  rw [hm, hm', vals_append, vals_append, List.set_append_right _ _ (by omega), hl, Nat.sub_self, List.replicate_succ, take_succ_getD xs k (by omega), vals_append, List.append_assoc]
  rfl
theorem partX_get {xs : List Nat} (h : xs.length = 288) (k i : Nat) (hk : k ≤ 288) (hi : i < 288) : ∃ u, (vals (partX xs k))[i]? = some u :=
  ⟨_, vals_get (partX xs k) i (by rw [partX_length h k hk]; exact hi)⟩
set_option maxRecDepth 100000 in
set_option maxHeartbeats 2000000 in
theorem qof_any (p : Option Addr) (c : Nat) (xs : List Nat) (w : World) (hx : In w p 288 c xs) :
    Calls Try.prog 36 #[.slice p 288 c] w fun e w' => e = .returned (.agg (vals xs).toArray) ∧ Below w.heap.size w w' := by
  have hz := zeroPage
  have HX : Hid (xs.length = 288) := hx.len
  obtain ⟨b, o, rfl, hb, hc⟩ := hx.at' (by decide)
  have HC : Hid (∀ i, i < 288 → w.cell? ⟨b, o + i, none⟩ = some (.int .u8 (el xs i))) := hc
  clear hc
  go_enter Try.func36, Try.ntmps36
  go_wp2
  have b0 : Blk ((w.alloc (.cells (vals (fillP 0)).toArray 29)).alloc (.cells (vals (fillP 0)).toArray 29)) (w.heap.size + 1) 29 (vals (partX xs 0)) := by
    rw [partX_zero]; have := Blk.new (w.alloc (.cells (vals (fillP 0)).toArray 29)) 29 (vals (fillP 0)); rwa [World.size_alloc] at this
  have b1 : Blk ((w.alloc (.cells (vals (fillP 0)).toArray 29)).alloc (.cells (vals (fillP 0)).toArray 29)) w.heap.size 29 (vals (fillP 0)) := (Blk.new w 29 _).alloc _
  go_loopw [4] (fun i wr => ∃ k : Nat, k ≤ 256 ∧ i = .int .i64 k ∧ Blk wr (w.heap.size + 1) 29 (vals (partX xs k)) ∧ Blk wr w.heap.size 29 (vals (fillP 0)) ∧ Below w.heap.size w wr) (fun i _ => 256 - (intOf i).toNat)
  case atStart => exact ⟨0, by omega, rfl, b0, b1, (below_alloc w _).alloc (by simp) _⟩
  case round =>
    clear b0 b1
    obtain ⟨k, hk, rfl, h0, h1, hbl⟩ := hrel
    by_cases hlt : k < 256
    · obtain ⟨u, hu⟩ := partX_get HX.out k k (by omega) (by omega)
      have hc0 := h0.cell' hu
      have hf0 := h0.frozen k
      have hcx : wr.cell? ⟨b, o + k, none⟩ = some (.int .u8 (el xs k)) := (hbl.cell (p := ⟨b, o + k, none⟩) hb).trans (HC.out k (by omega))
      go_wp2
      go_roundw
      case rel =>
        have h2 := h0.set k (.int .u8 (el xs k))
        rw [partX_set HX.out k (by omega)] at h2
        exact ⟨k + 1, by omega, by go_num, h2, h1.setOther _ _ (by simp), hbl.setCell (p := ⟨w.heap.size + 1, k, none⟩) (by simp) _⟩
      case measure => simp [intOf]; omega
    · have hk2 : k = 256 := by omega
      subst hk2
      go_wp2
      go_loopw [5] (fun i wr => ∃ k : Nat, k ≤ 32 ∧ i = .int .i64 k ∧ Blk wr (w.heap.size + 1) 29 (vals (partX xs (256 + k))) ∧ Blk wr w.heap.size 29 (vals (fillP 0)) ∧ Below w.heap.size w wr) (fun i _ => 32 - (intOf i).toNat)
      case atStart => exact ⟨0, by omega, rfl, h0, h1, hbl⟩
      case round =>
        clear h0 h1 hbl
        obtain ⟨k, hk, rfl, h0, h1, hbl⟩ := hrel
        by_cases hlt : k < 32
        · obtain ⟨u, hu⟩ := partX_get HX.out (256 + k) (256 + k) (by omega) (by omega)
          have hc0 := h0.cell' hu
          have hf0 := h0.frozen (256 + k)
          have hcx : wr.cell? ⟨b, o + (256 + k), none⟩ = some (.int .u8 (el xs (256 + k))) := (hbl.cell (p := ⟨b, o + (256 + k), none⟩) hb).trans (HC.out (256 + k) (by omega))
          go_wp2
          go_roundw
          case rel =>
            have h2 := h0.set (256 + k) (.int .u8 (el xs (256 + k)))
            rw [partX_set HX.out (256 + k) (by omega)] at h2
            exact ⟨k + 1, by omega, by go_num, h2, h1.setOther _ _ (by simp), hbl.setCell (p := ⟨w.heap.size + 1, 256 + k, none⟩) (by simp) _⟩
          case measure => simp [intOf]; omega
        · have hk2 : k = 32 := by omega
          subst hk2
          rw [show 256 + 32 = 288 from rfl, partX_all HX.out] at h0
          go_wp2_with (first
            | (refine wpList_load_mid rfl 29 (.tmp 3) rfl (w.heap.size + 1) 0 rfl (vals xs) _ (h0.page HX.out) Try.underlying29 rfl (sizeP HX.out) ?_)
            | (refine wpList_store_blk rfl 29 (.tmp 2) (.tmp 29) rfl _ _ (vals xs) rfl rfl h1 (page_fits HX.out (fillP_length 0)) (sizeP HX.out) (vals_one _) ?_; intro w5 h5 ht5))
          rw [page_whole HX.out (fillP_length 0)] at h5
          exact ret_page Try.results36 rfl h5 HX.out rfl ⟨rfl, ht5.below hbl (Nat.le_refl _)⟩
set_option maxRecDepth 100000 in
set_option maxHeartbeats 2000000 in
theorem qbytes_any (P : List Nat) (hP : IsP P) (w : World) :
    Calls Try.prog 41 #[.agg (vals P).toArray] w fun e w' => ∃ p c, e = .returned (.slice p 288 c) ∧ In w' p 288 c P ∧ Below w.heap.size w w' := by
  obtain ⟨i0, hi, hz0, hz1, hz2⟩ := info_parts info5
  have b0 := Blk.new w 29 (vals P)
  have hbel := below_alloc w (.cells (vals P).toArray 29)
  generalize hW : w.alloc (.cells (vals P).toArray 29) = W at *
  have hlt : w.heap.size < W.heap.size := b0.lt
  go_enter Try.func41, Try.ntmps41
  go_wp2_with (first
    | (at_builtin; refine wpList_append_own _ rfl (.tmp 4) (.tmp 6) 24 rfl w.heap.size 5 i0 (.int .u8 0) 1 1 Try.underlying24 hi hz0 hz1 hz2 rfl (by decide) (.slice none 0 0) 0 [] rfl (World.ownsRow_nil _ _ _ _) ⟨w.heap.size, 0, none⟩ 256 256 (vals (P.take 256)) rfl (by rw [vals_length, List.length_take, hP.1]; rfl) (bytesTake b0) (vals_one _) (by unfold maxLen; omega) (by omega) (by omega) ?_; intro v1 w1 hown1 hgrow1 _; rw [List.nil_append, Nat.zero_add] at hown1; have b1 := Blk.grown b0 hgrow1 (by simp [Value.ownBlock]); have hb1 : Below w.heap.size w w1 := hbel.grown hgrow1 (by omega) (fun k hk => by simp [Value.ownBlock] at hk))
    | (at_builtin; refine wpList_append_own _ rfl (.tmp 8) (.tmp 10) 24 rfl w.heap.size 5 i0 (.int .u8 0) 1 1 Try.underlying24 hi hz0 hz1 hz2 rfl (by decide) _ 256 (vals (P.take 256)) rfl hown1 ⟨w.heap.size, 256, none⟩ 32 32 (vals (P.drop 256)) rfl (by rw [vals_length, List.length_drop, hP.1]) (bytesDrop b1) (vals_one _) (by unfold maxLen; omega) (by omega) hb1.size ?_; intro v2 w2 hown2 hgrow2 _; rw [← vals_append, List.take_append_drop] at hown2; have hb2 : Below w.heap.size w w2 := hb1.grown hgrow2 hb1.size (fun k hk => (hown1.lt k hk).1)))
  go_ret
  obtain ⟨p', c', hv, hin⟩ := in_of_owns hown2 hP.2 (by omega)
  exact ⟨p', c', congrArg Ending.returned hv, hin, hb2⟩
end Go.Proofs.Ytmagcohdhljaeaa
