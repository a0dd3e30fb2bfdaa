/-
  What inode.Same, Free, entriesMayBe, rootMayBe, kindMayBe and Check answer.
-/
import Derived.Test.YtgeomfgfeemciaaInA
import Derived.Test.YtgeomfgfeemciaaInC
namespace Go.Proofs.Ytgeomfgfeemciaa
open Go.RowKit
theorem ret_ino {fn : Func} {p : Tmp} (h : fn.results = #[.cell p 24]) {R : Ending → World → Prop} {a : Act} {w : World} {g : Nat} {t : TypeId} {x0 x1 x2 x3 x4 x5 x6 : Value} (hp : a.tmps.getD p undef = .pointer (some ⟨g, 0, none⟩))
    (hb : Blk w g t [x0, x1, x2, x3, x4, x5, x6]) (hd : a.defers = []) (hR : R (.returned (.agg #[x0, x1, x2, x3, x4, x5, x6])) w) : bodyPost Try.prog fn R .ret a w :=
  bodyPost_ret (results_cell_row h _ _ g t #[x0, x1, x2, x3, x4, x5, x6] (0, 0) _ hp hb Try.underlying24 rfl (by kernel_rfl)) hd hR
theorem ret_inoE {fn : Func} {p u : Tmp} (h : fn.results = #[.cell p 24, .tmp u]) {R : Ending → World → Prop} {a : Act} {w : World} {g : Nat} {t : TypeId} {x0 x1 x2 x3 x4 x5 x6 v : Value} (hp : a.tmps.getD p undef = .pointer (some ⟨g, 0, none⟩))
    (hb : Blk w g t [x0, x1, x2, x3, x4, x5, x6]) (hd : a.defers = []) (hu : a.tmps.getD u undef = v) (hR : R (.returned (.tuple #[.agg #[x0, x1, x2, x3, x4, x5, x6], v])) w) : bodyPost Try.prog fn R .ret a w := by
  refine bodyPost_ret (v := .tuple #[.agg #[x0, x1, x2, x3, x4, x5, x6], v]) ?_ hd hR
  rw [results_cell_tmp h, hp, hu]
  have := run_loadVar_mid w g 0 24 [x0, x1, x2, x3, x4, x5, x6] _ (hb.range 0 7 _ rfl) Try.underlying24 rfl (by kernel_rfl)
  simp only [asAddr, Sem.run_pure, Result.andThen_ok, this]
theorem size_ino {x0 x1 x2 x3 x4 x5 x6 : Value} : (Try.prog.info? 24).map (·.size) = some [x0, x1, x2, x3, x4, x5, x6].length := by kernel_rfl
theorem one7 {a b c d e f : Int} {p : Option Addr} {n m : Nat} : ∀ v ∈ [Value.int .i64 a, .int .i64 b, .int .i64 c, .int .i64 d, .int .i64 e, .int .i64 f, .slice p n m], v.oneCell' = true := by simp [Value.oneCell']
def sameB (x y : Ino) : Bool := (x.kd == y.kd) && (x.lk == y.lk) && (x.sz == y.sz) && (x.nx == y.nx) && (x.ge == y.ge) && (x.dp == y.dp) && eqEB x.rt y.rt
theorem sameB_iff {x y : Ino} : sameB x y = true ↔ x = y := by
  obtain ⟨a1, a2, a3, a4, a5, a6, a7⟩ := x
  obtain ⟨b1, b2, b3, b4, b5, b6, b7⟩ := y
  simp [sameB, eqEB_iff, and_assoc]
set_option linter.unusedSimpArgs false in
set_option linter.unusedVariables false in
set_option maxRecDepth 100000 in
set_option maxHeartbeats 4000000 in
theorem same_any (x y : Ino) (p q : Option Addr) (n c m d : Nat) (w : World) (hx : InE w p n c x.rt) (hy : InE w q m d y.rt) : Calls Try.prog 16 #[x.val p n c, y.val q m d] w fun e w' => e = .returned (.bool (sameB x y)) ∧ Below w.heap.size w w' := by
  obtain ⟨kd, lk, sz, nx, ge, dp, rt⟩ := x
  obtain ⟨kd2, lk2, sz2, nx2, ge2, dp2, rt2⟩ := y
  dsimp only at hx hy
  by_cases h0 : kd = kd2
  · subst h0
    by_cases h1 : lk = lk2
    · subst h1
      by_cases h2 : sz = sz2
      · subst h2
        by_cases h3 : nx = nx2
        · subst h3
          by_cases h4 : ge = ge2
          · subst h4
            by_cases h5 : dp = dp2
            · subst h5
              have HE : Hid (sameB ⟨kd, lk, sz, nx, ge, dp, rt⟩ ⟨kd, lk, sz, nx, ge, dp, rt2⟩ = eqEB rt rt2) := by show _ = _; unfold sameB; dsimp only; simp
              have hx1 := (hx.below (below_alloc w (.cells #[.int .i64 kd, .int .i64 lk, .int .i64 sz, .int .i64 nx, .int .i64 ge, .int .i64 dp, .slice p n c] 24))).below (below_alloc _ (.cells #[.int .i64 kd, .int .i64 lk, .int .i64 sz, .int .i64 nx, .int .i64 ge, .int .i64 dp, .slice q m d] 24))
              have hy1 := (hy.below (below_alloc w (.cells #[.int .i64 kd, .int .i64 lk, .int .i64 sz, .int .i64 nx, .int .i64 ge, .int .i64 dp, .slice p n c] 24))).below (below_alloc _ (.cells #[.int .i64 kd, .int .i64 lk, .int .i64 sz, .int .i64 nx, .int .i64 ge, .int .i64 dp, .slice q m d] 24))
              go_enter Try.func16, Try.ntmps16
              go_wp2_with fail
              refine (equalE_any p q n c m d rt rt2 _ hx1 hy1).mono ?_
              rintro e w3 ⟨rfl, hb3⟩
              cases he : eqEB rt rt2 <;> go_wp2 <;> go_ret <;> exact ⟨ret_bool (HE.out.trans he).symm, bt (bt (below_alloc _ _) (below_alloc _ _)) hb3⟩
            · have hne : (dp == dp2) = false := by rw [beq_eq_false_iff_ne]; exact h5
              have HE : Hid (sameB ⟨kd, lk, sz, nx, ge, dp, rt⟩ ⟨kd, lk, sz, nx, ge, dp2, rt2⟩ = false) := by show _ = _; unfold sameB; dsimp only; rw [hne]; simp
              go_enter Try.func16, Try.ntmps16
              go_wp2
              go_ret
              exact ⟨ret_bool HE.out.symm, bt (below_alloc _ _) (below_alloc _ _)⟩
          · have hne : (ge == ge2) = false := by rw [beq_eq_false_iff_ne]; exact h4
            have HE : Hid (sameB ⟨kd, lk, sz, nx, ge, dp, rt⟩ ⟨kd, lk, sz, nx, ge2, dp2, rt2⟩ = false) := by show _ = _; unfold sameB; dsimp only; rw [hne]; simp
            go_enter Try.func16, Try.ntmps16
            go_wp2
            go_ret
            exact ⟨ret_bool HE.out.symm, bt (below_alloc _ _) (below_alloc _ _)⟩
        · have hne : (nx == nx2) = false := by rw [beq_eq_false_iff_ne]; exact h3
          have HE : Hid (sameB ⟨kd, lk, sz, nx, ge, dp, rt⟩ ⟨kd, lk, sz, nx2, ge2, dp2, rt2⟩ = false) := by show _ = _; unfold sameB; dsimp only; rw [hne]; simp
          go_enter Try.func16, Try.ntmps16
          go_wp2
          go_ret
          exact ⟨ret_bool HE.out.symm, bt (below_alloc _ _) (below_alloc _ _)⟩
      · have hne : (sz == sz2) = false := by rw [beq_eq_false_iff_ne]; exact h2
        have HE : Hid (sameB ⟨kd, lk, sz, nx, ge, dp, rt⟩ ⟨kd, lk, sz2, nx2, ge2, dp2, rt2⟩ = false) := by show _ = _; unfold sameB; dsimp only; rw [hne]; simp
        go_enter Try.func16, Try.ntmps16
        go_wp2
        go_ret
        exact ⟨ret_bool HE.out.symm, bt (below_alloc _ _) (below_alloc _ _)⟩
    · have hne : (lk == lk2) = false := by rw [beq_eq_false_iff_ne]; exact h1
      have HE : Hid (sameB ⟨kd, lk, sz, nx, ge, dp, rt⟩ ⟨kd, lk2, sz2, nx2, ge2, dp2, rt2⟩ = false) := by show _ = _; unfold sameB; dsimp only; rw [hne]; simp
      go_enter Try.func16, Try.ntmps16
      go_wp2
      go_ret
      exact ⟨ret_bool HE.out.symm, bt (below_alloc _ _) (below_alloc _ _)⟩
  · have hne : (kd == kd2) = false := by rw [beq_eq_false_iff_ne]; exact h0
    have HE : Hid (sameB ⟨kd, lk, sz, nx, ge, dp, rt⟩ ⟨kd2, lk2, sz2, nx2, ge2, dp2, rt2⟩ = false) := by show _ = _; unfold sameB; dsimp only; rw [hne]; simp
    go_enter Try.func16, Try.ntmps16
    go_wp2
    go_ret
    exact ⟨ret_bool HE.out.symm, bt (below_alloc _ _) (below_alloc _ _)⟩
set_option linter.unusedSimpArgs false in
set_option linter.unusedVariables false in
set_option maxRecDepth 100000 in
set_option maxHeartbeats 4000000 in
theorem free_any (ge : Int) (w : World) : Calls Try.prog 17 #[.int .i64 ge] w fun e w' => e = .returned (.agg #[.int .i64 0, .int .i64 0, .int .i64 0, .int .i64 0, .int .i64 (if inB ge 0 4294967295 = true then ge else 0), .int .i64 0, .slice none 0 0]) ∧ Below w.heap.size w w' := by
  have hb0 := below_alloc w (.cells #[.int .i64 0, .int .i64 0, .int .i64 0, .int .i64 0, .int .i64 0, .int .i64 0, .slice none 0 0] 24)
  have r0 := Blk.new' w 24 #[.int .i64 0, .int .i64 0, .int .i64 0, .int .i64 0, .int .i64 0, .int .i64 0, .slice none 0 0]
  cases h : inB ge 0 4294967295 with
  | true =>
    rw [if_pos rfl]
    go_enter Try.func17, Try.ntmps17
    go_wp2_with (first
      | (go_at_call 42; refine (withinL_any _ _ _ _).mono ?_; rintro e w' ⟨rfl, hw'⟩; have hw2 := hw'.symm; subst hw2; clear hw'; rw [h])
      | (refine wpList_store_blk rfl 24 (.tmp 2) (.tmp 7) rfl _ 0 [.int .i64 0, .int .i64 0, .int .i64 0, .int .i64 0, .int .i64 ge, .int .i64 0, .slice none 0 0] rfl rfl r0 (by simp) size_ino one7 ?_; intro w8 b8 t8))
    exact ret_ino rfl rfl b8 rfl ⟨rfl, t8.below hb0 (Nat.le_refl _)⟩
  | false =>
    rw [if_neg (by decide)]
    go_enter Try.func17, Try.ntmps17
    go_wp2_with (first
      | (go_at_call 42; refine (withinL_any _ _ _ _).mono ?_; rintro e w' ⟨rfl, hw'⟩; have hw2 := hw'.symm; subst hw2; clear hw'; rw [h])
      | (refine wpList_store_blk rfl 24 (.tmp 2) (.tmp 7) rfl _ 0 [.int .i64 0, .int .i64 0, .int .i64 0, .int .i64 0, .int .i64 0, .int .i64 0, .slice none 0 0] rfl rfl r0 (by simp) size_ino one7 ?_; intro w8 b8 t8))
    exact ret_ino rfl rfl b8 rfl ⟨rfl, t8.below hb0 (Nat.le_refl _)⟩
set_option linter.unusedSimpArgs false in
set_option linter.unusedVariables false in
set_option maxRecDepth 100000 in
set_option maxHeartbeats 4000000 in
theorem entries_any (p : Option Addr) (n c : Nat) (l : List Ext) (w : World) (h : InE w p n c l) :
    Calls Try.prog 54 #[.slice p n c] w fun e w' => e = .returned (.bool (entsB l)) ∧ Below w.heap.size w w' := by
  have hroom := h.room
  have HL : Hid (l.length = n) := h.len
  go_enter Try.func54, Try.ntmps54
  go_wp2
  go_loopw [7] (fun i wr => ∃ k : Nat, k ≤ n ∧ i = .int .i64 k ∧ (∀ j, j < k → entAt l j = true) ∧ Below w.heap.size w wr) (fun i _ => n - (intOf i).toNat)
  case atStart => exact ⟨0, Nat.zero_le _, rfl, fun j hj => absurd hj (Nat.not_lt_zero _), Below.refl _ _⟩
  case round =>
    obtain ⟨k, hk, rfl, hok, hbel⟩ := hrel
    by_cases hlt : k < n
    · have hki : (k : Int) < (n : Int) := by omega
      have HOK : Hid (∀ j, j < k → entAt l j = true) := hok
      have hin := h.below hbel
      obtain ⟨b, o, hpe, hbl, hc⟩ := hin.at' (by omega)
      subst hpe
      obtain ⟨e0, e1, e2⟩ := hc k hlt
      have HN : Hid (entAt l k = false → entsB l = false) := fun hh => entsB_no (by rw [HL.out]; exact hlt) hh
      have HNX : Hid (entAt l k = true → ∀ j, j < k + 1 → entAt l j = true) := fun hh j hj => by
        rcases Nat.lt_succ_iff_lt_or_eq.1 hj with h' | h'
        · exact HOK.out j h'
        · rw [h']; exact hh
      have k0 := Blk.new' wr 51 #[.int .i64 (eE l k).lo, .int .i64 (eE l k).ln, .int .i64 (eE l k).ph]
      have hbw := hbel.trans ((below_alloc wr (.cells #[.int .i64 (eE l k).lo, .int .i64 (eE l k).ln, .int .i64 (eE l k).ph] 51)).mono hbel.size)
      cases g1 : inB (eE l k).lo 0 65535 with
      | false =>
        have HF : Hid (entsB l = false) := HN.out (by unfold entAt; rw [g1]; rfl)
        clear hok hin hc
        generalize eE l k = e at *
        go_wp2_with (go_at_call 52; refine (within_any _ _ _ _).mono ?_; rintro e w' ⟨rfl, hw'⟩; have hw2 := hw'.symm; subst hw2; clear hw'; first | rw [g1] | rw [g3])
        go_ret
        exact ⟨ret_bool HF.out.symm, hbw⟩
      | true =>
        by_cases z2 : (eE l k).ln = 0
        · cases g3 : inB (eE l k).ph 1 8191 with
          | false =>
            have HF : Hid (entsB l = false) := HN.out (by unfold entAt; rw [g3]; simp)
            have y2 : ((eE l k).ln != 0) = false := by rw [z2]; rfl
            clear hok hin hc z2
            generalize eE l k = e at *
            go_wp2_with (go_at_call 52; refine (within_any _ _ _ _).mono ?_; rintro e w' ⟨rfl, hw'⟩; have hw2 := hw'.symm; subst hw2; clear hw'; first | rw [g1] | rw [g3])
            go_ret
            exact ⟨ret_bool HF.out.symm, hbw⟩
          | true =>
            have y2 : ((eE l k).ln != 0) = false := by rw [z2]; rfl
            rcases Nat.eq_zero_or_pos k with hz | hz
            · have HF := HNX.out (by unfold entAt; rw [g1, g3, z2]; simp [hz])
              have hk0 : ¬ (k : Int) > 0 := by omega
              have hk1 : ¬ 0 < k := by omega
              have HF2 : Hid _ := HF
              clear hok hin hc hz z2 HF
              generalize eE l k = e at *
              go_upto_region 6 with (go_at_call 52; refine (within_any _ _ _ _).mono ?_; rintro e w' ⟨rfl, hw'⟩; have hw2 := hw'.symm; subst hw2; clear hw'; first | rw [g1] | rw [g3])
              go_quiet (fail)
              go_wp2
              go_roundw
              case rel => exact ⟨k + 1, by omega, by go_num, HF2.out, below_drewN hbw _⟩
              case measure => simp [intOf]; omega
            · obtain ⟨f0, f1, f2⟩ := hc (k - 1) (by omega)
              have f0' := (below_alloc wr (.cells #[.int .i64 (eE l k).lo, .int .i64 (eE l k).ln, .int .i64 (eE l k).ph] 51)).cell (p := ⟨b, o + (k - 1) * 3, none⟩) hbl
              rw [f0] at f0'
              have hk0 : (k : Int) > 0 := by omega
              have hks : (k : Int) - 1 = ((k - 1 : Nat) : Int) := by omega
              have hkn : k - 1 < n := by omega
              by_cases z4 : (eE l k).lo ≤ (eE l (k - 1)).lo
              · have HF : Hid (entsB l = false) := HN.out (by unfold entAt; rw [show decide ((eE l (k - 1)).lo < (eE l k).lo) = false from by rw [decide_eq_false_iff_not]; omega, show (k == 0) = false from by rw [beq_eq_false_iff_ne]; omega]; simp)
                clear hok hin hc z2 HN HNX
                generalize eE l k = e at *
                generalize eE l (k - 1) = e2 at *
                generalize k - 1 = k1 at *
                go_upto_region 6 with (go_at_call 52; refine (within_any _ _ _ _).mono ?_; rintro e w' ⟨rfl, hw'⟩; have hw2 := hw'.symm; subst hw2; clear hw'; first | rw [g1] | rw [g3])
                go_quiet (fail)
                go_wp2
                go_ret
                exact ⟨ret_bool HF.out.symm, below_drewN hbw _⟩
              · have HF := HNX.out (by unfold entAt; rw [g1, g3, z2, show decide ((eE l (k - 1)).lo < (eE l k).lo) = true from by rw [decide_eq_true_eq]; omega]; simp)
                have HF2 : Hid _ := HF
                clear hok hin hc z2 HF HN HNX
                generalize eE l k = e at *
                generalize eE l (k - 1) = e2 at *
                generalize k - 1 = k1 at *
                go_upto_region 6 with (go_at_call 52; refine (within_any _ _ _ _).mono ?_; rintro e w' ⟨rfl, hw'⟩; have hw2 := hw'.symm; subst hw2; clear hw'; first | rw [g1] | rw [g3])
                go_quiet (fail)
                go_wp2
                go_roundw
                case rel => exact ⟨k + 1, by omega, by go_num, HF2.out, below_drewN hbw _⟩
                case measure => simp [intOf]; omega
        · have HF : Hid (entsB l = false) := HN.out (by unfold entAt; rw [show ((eE l k).ln == 0) = false from by rw [beq_eq_false_iff_ne]; exact z2]; simp)
          have y2 : ((eE l k).ln != 0) = true := by rw [bne_iff_ne]; exact z2
          clear hok hin hc z2
          generalize eE l k = e at *
          go_wp2_with (go_at_call 52; refine (within_any _ _ _ _).mono ?_; rintro e w' ⟨rfl, hw'⟩; have hw2 := hw'.symm; subst hw2; clear hw'; first | rw [g1] | rw [g3])
          go_ret
          exact ⟨ret_bool HF.out.symm, hbw⟩
    · have hkn : ¬ (k : Int) < (n : Int) := by omega
      have HF : Hid (entsB l = true) := entsB_iff.2 fun j hj => hok j (by rw [HL.out] at hj; omega)
      clear hok
      go_wp2
      go_ret
      exact ⟨ret_bool HF.out.symm, hbel⟩
end Go.Proofs.Ytgeomfgfeemciaa
