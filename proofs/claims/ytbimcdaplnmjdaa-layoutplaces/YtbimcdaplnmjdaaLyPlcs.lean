/-
  LayoutPlaces returns true.
-/
import Derived.Test.YtbimcdaplnmjdaaLyLive
import Derived.Test.YtbimcdaplnmjdaaLyKind
import Derived.Test.YtbimcdaplnmjdaaLyMapT
import Derived.Maps.Own
namespace Go.Proofs.Ytbimcdaplnmjdaa
open Go.RowKit Go.Maps
/-- The places of the first n inodes. -/
def placesL (b j : Int) (n : Nat) : List (Int × Int) := (List.range n).map fun i : Nat => (inoB b j ((i : Int) + 1), inoO b j ((i : Int) + 1))
theorem placesL_length (b j : Int) (n : Nat) : (placesL b j n).length = n := by simp [placesL]
theorem placesL_succ (b j : Int) (n : Nat) : placesL b j (n + 1) = placesL b j n ++ [(inoB b j ((n : Int) + 1), inoO b j ((n : Int) + 1))] := by simp [placesL, List.range_succ]
theorem okS_more {b j : Int} (h : okS b j = true) : ∃ d, dN b = d ∧ 1 ≤ d ∧ d ≤ 4 ∧ 8 + d + j ≤ 128 ∧ 8 + d + j ≤ b ∧ 16 ≤ j ∧ j ≤ 64 ∧ 1 ≤ b ∧ b ≤ 8192 ∧ 16 ≤ (b - 1) % 128 + 1 := by
  obtain ⟨h1, h2, h3, h4, h5, h6⟩ := okS_iff.1 h
  have hd := dN_rng h1 h2
  unfold lastL at h5
  exact ⟨_, rfl, hd.1, hd.2, by omega, by omega, h3, h4, h1, h2, h5⟩
theorem ino_table {b j i : Int} (h : okS b j = true) (hi : 1 ≤ i ∧ i ≤ 16 * gN b) : 0 ≤ inoB b j i ∧ inoB b j i < b ∧ knd b j (inoB b j i) = 5 ∧ 0 ≤ inoO b j i ∧ inoO b j i < 256 ∧ inoO b j i % 64 = 0 := by
  obtain ⟨d, hd, f1, f2, f3, f4, f5, f6, f7, f8, f9⟩ := okS_more h
  rw [(ino_ok h hi).2.1, (ino_ok h hi).2.2]
  unfold gN at hi
  unfold gMap knd
  rw [hd]
  by_cases hg : (i - 1) / 16 = 0
  · rw [if_pos hg]
    refine ⟨by omega, by omega, ?_, by omega, by omega, by omega⟩
    rw [if_pos (by omega), if_neg (by omega), if_neg (by omega), if_neg (by omega), if_neg (by omega), if_pos (by omega)]
  · rw [if_neg hg]
    refine ⟨by omega, by omega, ?_, by omega, by omega, by omega⟩
    rw [if_neg (by omega), if_neg (by omega), if_neg (by omega), if_pos (by omega)]
theorem ino_inj {b j i k : Int} (h : okS b j = true) (hi : 1 ≤ i ∧ i ≤ 16 * gN b) (hk : 1 ≤ k ∧ k ≤ 16 * gN b) (h1 : inoB b j i = inoB b j k) (h2 : inoO b j i = inoO b j k) : i = k := by
  obtain ⟨d, hd, f1, f2, f3, f4, f5, f6, f7, f8, f9⟩ := okS_more h
  rw [(ino_ok h hi).2.1, (ino_ok h hk).2.1] at h1
  rw [(ino_ok h hi).2.2, (ino_ok h hk).2.2] at h2
  unfold gMap at h1
  rw [hd] at h1
  by_cases hg : (i - 1) / 16 = 0
  · rw [if_pos hg] at h1
    by_cases hg' : (k - 1) / 16 = 0
    · rw [if_pos hg'] at h1; omega
    · rw [if_neg hg'] at h1; omega
  · rw [if_neg hg] at h1
    by_cases hg' : (k - 1) / 16 = 0
    · rw [if_pos hg'] at h1; omega
    · rw [if_neg hg'] at h1; omega
theorem places_new {b j : Int} (h : okS b j = true) (n : Nat) (hn : (n : Int) < 16 * gN b) : (inoB b j ((n : Int) + 1), inoO b j ((n : Int) + 1)) ∉ placesL b j n := by
  intro hm
  obtain ⟨i, hi, e⟩ := List.mem_map.1 hm
  have hi' := List.mem_range.1 hi
  have e1 := congrArg Prod.fst e
  have e2 := congrArg Prod.snd e
  have := ino_inj (i := (i : Int) + 1) (k := (n : Int) + 1) h (by omega) (by omega) e1 e2
  omega
set_option linter.unusedSimpArgs false in
set_option maxHeartbeats 8000000 in
set_option maxRecDepth 100000 in
theorem places_walk (s j0 : Nat) (hs : s < 65536) (hj : j0 < 256) (w : World) :
    Calls Try.prog 8 #[.int .u16 (s : Int), .int .u8 (j0 : Int)] w fun e w' => e = .returned (.bool true) ∧ Below w.heap.size w w' := by
  go_enter Try.func8, Try.ntmps8
  go_wp2_with fail
  refine (live_any _).mono ?_
  rintro e w1 ⟨rfl, hb1⟩
  go_wp2_with fail
  have hp := fun w => plan_any ((s : Int) % 1500 + 1) ((j0 : Int) % 49 + 16) w
  have ha1 : 0 ≤ (s : Int) % 1500 := by omega
  have ha2 : (s : Int) % 1500 < 1500 := by omega
  have hc1 : 0 ≤ (j0 : Int) % 49 := by omega
  have hc2 : (j0 : Int) % 49 < 49 := by omega
  generalize (s : Int) % 1500 = a at *
  generalize (j0 : Int) % 49 = c at *
  cases hok : okS (planX (a + 1)) (c + 16) with
  | false =>
    obtain ⟨e1, e2, e3⟩ := plan_no (s := a + 1) (j := c + 16) (by omega) hok
    rw [e1, e2, e3] at hp
    clear e1 e2 e3 hok
    refine (hp _).mono ?_
    rintro e w2 ⟨rfl, hb2⟩
    go_wp2
    go_ret
    exact ⟨rfl, bt (bt hb1 hb2) (below_alloc _ _)⟩
  | true =>
    obtain ⟨e1, e2, e3⟩ := plan_ok (s := a + 1) (j := c + 16) (by omega) hok
    rw [e1, e2, e3] at hp
    clear e1 e2 e3
    generalize planX (a + 1) = b at *
    obtain ⟨jj, HJ⟩ : ∃ jj, Hid (c + 16 = jj) := ⟨_, rfl⟩
    rw [HJ.out] at hok hp
    have hwc : c + 16 = jj := HJ.out
    rw [hwc]
    clear HJ hwc
    refine (hp _).mono ?_
    rintro e w2 ⟨rfl, hb2⟩
    have hB2 := bt (bt hb1 hb2) (below_alloc w2 (.cells #[.int .i64 b, .int .i64 jj] 24))
    have s2 := Blk.new' w2 24 #[.int .i64 b, .int .i64 jj]
    have hmm := run_makeMap (P := Try.prog) 66
    have m0 := MB.made (w2.alloc (.cells #[.int .i64 b, .int .i64 jj] 24))
    rw [World.size_alloc] at m0
    have s3 := s2.alloc (.map #[] 0)
    have hB3 := bt hB2 (below_alloc (w2.alloc (.cells #[.int .i64 b, .int .i64 jj] 24)) (.map #[] 0))
    have hl2 : w.heap.size ≤ w2.heap.size := (bt hb1 hb2).size
    obtain ⟨q1, q2, q3, q4, -⟩ := okS_iff.1 hok
    have hnn : 1 ≤ gN b ∧ gN b ≤ 64 := gN_rng q1 q2
    have hin := fun w => inodes_any b jj w
    have hgp := fun w => grps_any b jj w
    rw [show grpsN b jj = gN b from by unfold grpsN; rw [hok]; rfl] at hin hgp
    have hia := fun i w => inodeAt_any b jj i w
    have HI : Hid (∀ k : Nat, (k : Int) < 16 * gN b → inoE b jj ((k : Int) + 1) = 0 ∧ 0 ≤ inoB b jj ((k : Int) + 1) ∧ inoB b jj ((k : Int) + 1) < b ∧ kindN b jj (inoB b jj ((k : Int) + 1)) = 5 ∧ 0 ≤ inoO b jj ((k : Int) + 1) ∧ inoO b jj ((k : Int) + 1) < 256 ∧ inoO b jj ((k : Int) + 1) % 64 = 0 ∧ (inoB b jj ((k : Int) + 1), inoO b jj ((k : Int) + 1)) ∉ placesL b jj k) := by
      intro k hk
      obtain ⟨t1, t2, t3, t4, t5, t6⟩ := ino_table (i := (k : Int) + 1) hok (by omega)
      refine ⟨(ino_ok hok (by omega)).1, t1, t2, ?_, t4, t5, t6, places_new hok k hk⟩
      unfold kindN
      rw [if_pos hok, if_pos ⟨t1, t2⟩]
      exact t3
    have hki := fun x w => kind_any b jj x w
    clear hok hp hb1 hb2 s2 hB2 hs hj ha1 ha2 hc1 hc2
    generalize gN b = nn at *
    have hn1 := hnn.1
    have hn2 := hnn.2
    clear hnn
    go_wp2_with fail
    generalize (w2.alloc (.cells #[.int .i64 b, .int .i64 jj] 24)).alloc (.map #[] 0) = W0 at *
    clear hmm
    go_loopw [8] (fun i wr => ∃ k : Nat, (k : Int) ≤ 16 * nn ∧ i = .int .i64 ((k : Int) + 1) ∧ MB wr (w2.heap.size + 1) (placesL b jj k) ∧ Blk wr w2.heap.size 24 [.int .i64 b, .int .i64 jj] ∧ Below w.heap.size w wr) (fun i _ => (16 * nn + 1 - intOf i).toNat)
    case atStart => exact ⟨0, by omega, rfl, m0, s3, hB3⟩
    case round =>
      obtain ⟨k, hk, rfl, hm, hsh, hbel⟩ := hrel
      clear m0 s3 hB3
      have c0 := hsh.cell' (i := 0) rfl
      have c1 := hsh.cell' (i := 1) rfl
      by_cases hlt : (k : Int) < 16 * nn
      · obtain ⟨g1, g2, g3, g4, g5, g6, g7, g8⟩ := HI.out k hlt
        have hik := hia ((k : Int) + 1)
        rw [g1] at hik
        have hkk := hki (inoB b jj ((k : Int) + 1))
        rw [g4] at hkk
        have HP : Hid (placesL b jj (k + 1) = placesL b jj k ++ [(inoB b jj ((k : Int) + 1), inoO b jj ((k : Int) + 1))]) := placesL_succ b jj k
        have HL : Hid ((placesL b jj k).length = k) := placesL_length b jj k
        clear g1 g4 hia hki HI
        generalize inoB b jj ((k : Int) + 1) = xb at *
        generalize inoO b jj ((k : Int) + 1) = xo at *
        have hle : (k : Int) + 1 ≤ 16 * nn := by omega
        have hrem : xo.tmod 64 = 0 := by rw [Int.tmod_eq_emod_of_nonneg (by omega)]; exact g7
        have HN8 : Hid ((xb, xo) ∉ placesL b jj k) := g8
        clear g7 g8
        go_wp2_with (first
          | (go_at_call 22; refine (hin _).mono ?_; rintro e w5 ⟨rfl, hb5⟩; have sh5 := hsh.kept hb5; have d0 := sh5.cell' (i := 0) rfl; have d1 := sh5.cell' (i := 1) rfl)
          | (go_at_call 26; refine (hik _).mono ?_; rintro e w6 ⟨rfl, hb6⟩; have sh6 := sh5.kept hb6; have f0 := sh6.cell' (i := 0) rfl; have f1 := sh6.cell' (i := 1) rfl)
          | (go_at_call 28; refine (hkk _).mono ?_; rintro e w7 ⟨rfl, hb7⟩; have sh7 := sh6.kept hb7; have hm7 := ((hm.kept hb5).kept hb6).kept hb7; have hlk := hm7.look_no HN8.out (by omega) (by omega) (by omega) (by omega); have hB7 := bt (bt (bt hbel hb5) hb6) hb7)
          | (refine wpList_putT _ rfl (.tmp 70) (.tmp 73) _ rfl (w2.heap.size + 1) (placesL b jj k) rfl hm7 (by rw [HL.out]; omega) xb xo HN8.out (by omega) (by omega) (by omega) (by omega) rfl rfl ?_; intro w8 hm8 hg8))
        have sh8 := sh7.grown hg8 (fun e => by have := Option.some.inj e; omega)
        have hB8 : Below w.heap.size w w8 := hB7.trans ((Keep.of_grown (S := fun k => k = w2.heap.size + 1) hg8 (fun k e _ => (Option.some.inj e).symm)).below hB7.size (fun k e => by subst e; omega))
        go_roundw
        case rel => exact ⟨k + 1, by omega, by go_num, by rw [HP.out]; exact hm8, sh8, hB8⟩
        case measure => simp [intOf]; omega
      · have hgt : ¬ (k : Int) + 1 ≤ 16 * nn := by omega
        have hln := fun X (h : MB X (w2.heap.size + 1) (placesL b jj k)) ty => h.len ty
        rw [placesL_length, show (k : Int) = 16 * nn from by omega] at hln
        clear hia hki HI
        have heq : (16 * nn == nn * 16) = true := by rw [beq_iff_eq]; omega
        go_wp2_with (first
          | (go_at_call 22; refine (hin _).mono ?_; rintro e w5 ⟨rfl, hb5⟩; have sh5 := hsh.kept hb5; have d0 := sh5.cell' (i := 0) rfl; have d1 := sh5.cell' (i := 1) rfl; have hl5 := hln w5 (hm.kept hb5))
          | (go_at_call 16; refine (hgp _).mono ?_; rintro e w6 ⟨rfl, hb6⟩))
        go_ret
        exact ⟨ret_bool (by first | rfl | exact heq | simp), bt (bt hbel hb5) hb6⟩
end Go.Proofs.Ytbimcdaplnmjdaa
