/-
  What strings.IndexRune answers for a valid rune above 127, or for one that is not valid.
-/
import Derived.Test.YtikigfjdddgkpaaDtNm1
import Derived.Deep.LoopGhost
namespace Go.Proofs.Ytikigfjdddgkpaa
open Go.RowKit Go.Shelf
theorem indexByte_any (s : ByteArray) (c : Int) (w : World) : Calls Try.prog 66 #[.string s, .int .u8 c] w fun e w' => e = .returned (.int .i64 (Lib.indexByte s.data.toList c.toNat.toUInt8)) ∧ w' = w :=
  Any.strings_IndexByte { idxAny with } s c w
set_option maxHeartbeats 8000000 in
set_option maxRecDepth 1000000 in
theorem indexRune_bad (r : Int) (w : World) (h : 128 ≤ r) (he : r ≠ 65533) (hv : validRune r = false) : Calls Try.prog 61 #[.string badS, .int .i32 r] w fun e w' => e = .returned (.int .i64 (-1)) ∧ w' = w := by
  have h1 : ¬ r < 128 := by omega
  go_enter Try.func61, Try.ntmps61
  go_wp2_with (go_at_call 67; refine (validRune_any _ _).mono ?_; rintro e w' ⟨rfl, hw⟩; subst hw; rw [hv])
  go_ret
  exact ⟨rfl, rfl⟩
set_option maxHeartbeats 8000000 in
set_option maxRecDepth 1000000 in
theorem indexRune_high (r : Int) (w : World) (h : 128 ≤ r) (he : r ≠ 65533) (hv : validRune r = true) : Calls Try.prog 61 #[.string badS, .int .i32 r] w fun e w' => e = .returned (.int .i64 (-1)) ∧ ∃ k, w' = w.drewN k := by
  have h1 : ¬ r < 128 := by omega
  obtain ⟨f2, f4, fl⟩ := encode_facts r (by rw [validRune_eq]; exact hv) h
  obtain ⟨rs, hrs⟩ : ∃ rs, rs = Utf8.encode r := ⟨_, rfl⟩
  rw [← hrs] at f2 f4 fl
  have hcv : ∀ W, (convert 21 9 (.int .i32 r)).run Try.prog W = .ok (.string rs) W := fun W => by rw [hrs]; exact run_convert_int_string W 21 9 .i32 r (by kernel_rfl) Try.underlying9
  clear hrs
  by_cases h2 : rs.size = 2
  · have hl := fl (by omega)
    obtain ⟨x, hx, hx128⟩ : ∃ x : Nat, (∀ W, (Instr.index 9 (.string rs) (.int .i64 1)).run Try.prog W = .ok (.int .u8 (x : Int)) W) ∧ 128 ≤ x := by
      refine ⟨(rs[1]'(by omega)).toNat, fun W => ?_, by simp only [h2] at hl; exact hl⟩
      rw [run_index_string W 9 rs .i64 1 Try.underlying9, dif_pos (by omega)]
      rfl
    have hb : ∀ W, (Instr.index 9 (.string badS) (.int .i64 1)).run Try.prog W = .ok (.int .u8 47) W := fun W => by
      rw [run_index_string W 9 badS .i64 1 Try.underlying9, dif_pos (by decide)]
      rfl
    have h2i : (rs.size : Int) = 2 := by omega
    have hne : ((47 : Int) != (x : Int)) = true := by rw [bne_iff_ne]; omega
    have hsl : ∀ W, (Instr.slice 9 (.string badS) (some (.int .i64 2)) none none).run Try.prog W = .ok (.string (badS.extract 2 2)) W := fun W => by
      rw [run_slice_string_from_if W 9 badS .i64 2 Try.underlying9, if_pos (by decide)]
      rfl
    have hwr : IntKind.i64.wrap 2 = 2 := by decide
    clear hl fl f2 f4 h2
    go_enter Try.func61, Try.ntmps61
    go_wp2_with (go_at_call 67; refine (validRune_any _ _).mono ?_; rintro e w' ⟨rfl, hw⟩; subst hw; rw [hv])
    go_step3
    go_wp2
    go_rounds 1
    go_step3
    go_wp2
    go_quiet (fail)
    generalize hW : World.drewN w' nq = W
    go_wp2
    go_quiet ((go_at_call 66; exact Calls.quiet_of_same (indexByte_any _ _ _)))
    go_wp2
    simp only [Exit.noGoto_ret, Exit.then, Exit.inBlock]
    go_ret
    exact ⟨rfl, _, by rw [← hW, World.drewN_drewN]⟩
  · have hn : ¬ ((rs.size : Int) - 1 < 2) := by omega
    go_enter Try.func61, Try.ntmps61
    go_wp2_with (go_at_call 67; refine (validRune_any _ _).mono ?_; rintro e w' ⟨rfl, hw⟩; subst hw; rw [hv])
    go_step3
    go_wp2
    go_rounds 1
    rw [Exit.noGoto_ret]
    go_ret
    exact ⟨rfl, 0, rfl⟩
end Go.Proofs.Ytikigfjdddgkpaa
