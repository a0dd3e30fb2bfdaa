/-
  P7.6, ScanStays: the table of the newest places may be, and tells of each page that is not loose where its newest copy stands.
-/
import Derived.Test.YtfgelncfmopibabSnRChk
import Derived.Test.YtfgelncfmopibabSqCont
import Derived.Test.YtfgelncfmopibabSnTabZ
namespace Go.Proofs.Ytfgelncfmopibab
open Go.RowKit
set_option linter.unusedSimpArgs false in
set_option maxRecDepth 100000 in
set_option maxHeartbeats 8000000 in
theorem stays_ok (Q L M : Nat) (K : Int) (p q : Option Addr) (n c m d : Nat) (xs : List Fd) (w : World) (hx : InF w p n c xs) (hf : fewB n m (L : Int) = true) (hok : okSz (Q : Int) (L : Int) K = true) (HM : Hid (M = L * Q)) :
    Calls Try.prog 3 #[.agg #[.int .i64 (Q : Int), .int .i64 (L : Int), .int .i64 K, .slice p n c, .slice q m d]] w fun e w' => e = .returned (.bool true) ∧ Below w.heap.size w w' := by
  have hLP : (L : Int) * (Q : Int) = (M : Int) := by rw [HM.out]; exact (Int.natCast_mul L Q).symm
  obtain ⟨⟨r1, r2⟩, ⟨r3, r4⟩, ⟨r5, r6⟩⟩ := okSz_iff.1 hok
  have hok1 : okSz (Q : Int) (L : Int) 1 = true := okSz_iff.2 ⟨⟨r1, r2⟩, ⟨r3, r4⟩, by omega⟩
  have hMb := prod_bd ⟨r3, r4⟩ ⟨r1, r2⟩
  have hM1 : M ≤ 8192 := by omega
  have hMI : (M : Int) ≤ 8192 := by omega
  have hnR : newR (Q : Int) (L : Int) xs = placesOf (newestL (Q : Int) M xs) := by unfold newR; rw [hok1, hLP, Int.toNat_natCast]; rfl
  have hnw := fun w h => newest_all (Q : Int) (L : Int) p n c xs w h
  rw [hnR] at hnw
  have hzl : (placesOf (newestL (Q : Int) M xs)).length = M := by simp [placesOf, newestL_length]
  have hpl := fun j (hj : j < M) => newest_place (P := (Q : Int)) (M := M) (xs := xs) (j := j) (by omega) hj
  generalize placesOf (newestL (Q : Int) M xs) = zs at *
  have hFits : Fits Q L M zs (tabTo zs Q L M L) := fits_tab (by omega) HM.out
  have hwh := fun j (hj : j < M) => where_set (K := K) hok HM.out hFits hj
  have htb := fun pn cn w hz => table_ok Q L K M pn cn zs w hz hok HM
  have hck := fun pd ph pl cd ch cl w hd hh => checkR_ok Q L K pd ph pl M cd ch cl (tabTo zs Q L M L) zs w hd hh hok HM hFits
  have hat := hFits.at'
  have hno := hFits.no
  have hll := tabTo_l zs Q L M L
  clear hFits hnR hok1 hok hMb
  generalize tabTo zs Q L M L = T at *
  have hb0 := below_alloc w (.cells #[.int .i64 (Q : Int), .int .i64 (L : Int), .int .i64 K, .slice p n c, .slice q m d] 25)
  have b2 := Blk.new' w 25 #[.int .i64 (Q : Int), .int .i64 (L : Int), .int .i64 K, .slice p n c, .slice q m d]
  go_enter Try.func3, Try.ntmps3
  go_upto_region 1 with (fail)
  generalize w.alloc (.cells #[.int .i64 (Q : Int), .int .i64 (L : Int), .int .i64 K, .slice p n c, .slice q m d] 25) = W0 at *
  go_upto_region 5 with (first | (go_at_call 6; refine (live_any _).mono ?_; rintro e w1 ⟨rfl, hbn⟩; replace b2 := b2.kept hbn; replace hb0 := bt hb0 hbn; clear hbn; have c0 := b2.cell' (i := 0) rfl; have c1 := b2.cell' (i := 1) rfl; have c2 := b2.cell' (i := 2) rfl; have c3 := b2.cell' (i := 3) rfl; have c4 := b2.cell' (i := 4) rfl) | (go_at_call 7; refine (few_any _ _ _ _ _ _ _ _ _ _).mono ?_; rintro e w1 ⟨rfl, hbn⟩; replace b2 := b2.kept hbn; replace hb0 := bt hb0 hbn; clear hbn c0 c1 c2 c3 c4; have c0 := b2.cell' (i := 0) rfl; have c1 := b2.cell' (i := 1) rfl; have c2 := b2.cell' (i := 2) rfl; have c3 := b2.cell' (i := 3) rfl; have c4 := b2.cell' (i := 4) rfl))
  go_upto_region 6 with (go_at_call 8; refine (hnw _ (hx.below hb0)).mono ?_; rintro e w2 ⟨pn, mn, rfl, hzn, hbn⟩; replace b2 := b2.kept hbn; replace hb0 := bt hb0 hbn; clear hbn c0 c1 c2 c3 c4; have c0 := b2.cell' (i := 0) rfl; have c1 := b2.cell' (i := 1) rfl; have c2 := b2.cell' (i := 2) rfl; have c3 := b2.cell' (i := 3) rfl; have c4 := b2.cell' (i := 4) rfl)
  obtain rfl : M = mn := hzl.symm.trans hzn.len
  have hzn' : InZ w2 pn M M zs := hzn
  go_upto_region 7 with (first | (go_at_call 9; refine (htb _ _ _ hzn').mono ?_; rintro e w3 ⟨⟨gd, cd, gh, ch, pl, cl, ql, cql, rfl, i1, i2, i3, i4⟩, hbn⟩; replace hzn := hzn.below hbn; replace b2 := b2.kept hbn; replace hb0 := bt hb0 hbn; clear hbn c0 c1 c2 c3 c4; have c0 := b2.cell' (i := 0) rfl; have c1 := b2.cell' (i := 1) rfl; have c2 := b2.cell' (i := 2) rfl; have c3 := b2.cell' (i := 3) rfl; have c4 := b2.cell' (i := 4) rfl) | (refine wpList_store_blk rfl 35 (.tmp 4) (.tmp 32) rfl w3.heap.size 0 (cells9 Q L K M gd cd gh ch pl cl) rfl rfl (Blk.new' w3 35 #[.int .i64 0, .int .i64 0, .int .i64 0, .slice none 0 0, .slice none 0 0, .int .i64 0, .int .i64 0, .int .i64 0, .slice none 0 0]) (by exact Nat.le_refl _) (size9 _ _ _ _ _ _ _ _ _ _) (one9 _ _ _ _ _ _ _ _ _ _) ?_; intro W4 h4 ht4; rw [whole_row (by rfl)] at h4))
  have k4 : Below w3.heap.size w3 W4 := ht4.below (below_alloc w3 _) (Nat.le_refl _)
  replace i1 := i1.below k4
  replace i2 := i2.below k4
  replace i3 := i3.below k4
  replace hzn := hzn.below k4
  have hbn := k4
  replace b2 := b2.kept hbn; replace hb0 := bt hb0 hbn; clear hbn c0 c1 c2 c3 c4; have c0 := b2.cell' (i := 0) rfl; have c1 := b2.cell' (i := 1) rfl; have c2 := b2.cell' (i := 2) rfl; have c3 := b2.cell' (i := 3) rfl; have c4 := b2.cell' (i := 4) rfl
  obtain ⟨gT, HgT⟩ : ∃ g, g = w3.heap.size := ⟨_, rfl⟩
  rw [← HgT] at h4 ⊢
  clear HgT ht4 k4 htb hnw hzn'
  have gt : Blk W4 gT 35 [.int .i64 (Q : Int), .int .i64 (L : Int), .int .i64 K, .slice (some ⟨gd, 0, none⟩) L cd, .slice (some ⟨gh, 0, none⟩) M ch, .int .i64 (-1), .int .i64 0, .int .i64 0, .slice pl 0 cl] := h4
  clear h4
  have y0 := gt.cell' (i := 0) rfl; have y1 := gt.cell' (i := 1) rfl; have y2 := gt.cell' (i := 2) rfl; have y3 := gt.cell' (i := 3) rfl; have y4 := gt.cell' (i := 4) rfl; have y5 := gt.cell' (i := 5) rfl; have y6 := gt.cell' (i := 6) rfl; have y7 := gt.cell' (i := 7) rfl; have y8 := gt.cell' (i := 8) rfl
  have hck1 := hck _ _ pl _ _ cl W4 i1 i2
  go_upto_region 11 with (go_at_call 10; refine hck1.mono ?_; rintro e w5 ⟨rfl, hbn⟩; replace i1 := i1.below hbn; replace i2 := i2.below hbn; replace i3 := i3.below hbn; replace hzn := hzn.below hbn; replace gt := gt.kept hbn; replace b2 := b2.kept hbn; replace hb0 := bt hb0 hbn; clear hbn c0 c1 c2 c3 c4; have c0 := b2.cell' (i := 0) rfl; have c1 := b2.cell' (i := 1) rfl; have c2 := b2.cell' (i := 2) rfl; have c3 := b2.cell' (i := 3) rfl; have c4 := b2.cell' (i := 4) rfl)
  have i4' : LogsIn w5 pl 0 cl [] := logsNil i4
  clear hck hck1 c1 c2 c3 c4 c0 y0 y1 y2 y3 y4 y5 y6 y7 y8 i4
  go_wp2
  go_loopw [42] (fun i wr => ∃ j : Nat, j ≤ M ∧ i = .int .i64 j ∧ Below w5.heap.size w5 wr) (fun i _ => M - (intOf i).toNat)
  case atStart => exact ⟨0, Nat.zero_le _, rfl, Below.refl _ _⟩
  case round =>
    obtain ⟨j, hj, rfl, hbk⟩ := hrel
    by_cases hlt : j < M
    · have hji : (j : Int) < (M : Int) := by omega
      obtain ⟨bz, oz, rfl, hbz, hc⟩ := (hzn.below hbk).at' (by omega)
      obtain ⟨e0, e1⟩ := hc j hlt
      have hp := hpl j hlt
      have ha := hat j hlt
      have hn := hno j hlt
      have hW : ∀ (wr : World), Below w5.heap.size w5 wr → Calls Try.prog 12 #[.agg #[.int .i64 (Q : Int), .int .i64 (L : Int), .int .i64 K, .slice (some ⟨gd, 0, none⟩) L cd, .slice (some ⟨gh, 0, none⟩) M ch, .int .i64 (-1), .int .i64 0, .int .i64 0, .slice pl 0 cl], .int .i64 (j : Int)] wr fun e w' => e = .returned (.tuple #[.agg #[.int .i64 (whereE (setT (Q : Int) L K T) (j : Int)).1.1, .int .i64 (whereE (setT (Q : Int) L K T) (j : Int)).1.2], .bool (whereE (setT (Q : Int) L K T) (j : Int)).2]) ∧ Below wr.heap.size wr w' :=
        fun wr hb => where_any ⟨some ⟨gd, 0, none⟩, L, cd, some ⟨gh, 0, none⟩, M, ch, pl, 0, cl⟩ (setT (Q : Int) L K T) (j : Int) wr ⟨i1.below hb, i2.below hb, logsNil i4'⟩
      rw [hwh j hlt] at hW
      obtain ⟨b, HB⟩ : ∃ b, Hid (b = j / Q) := ⟨_, rfl⟩
      rw [← HB.out] at ha hn hW
      have hct := fun wr hb => contains_any ql T.l.length cql T.l (b : Int) wr (i3.below hb)
      have hq0 : ¬ (Q : Int) = 0 := by omega
      have hqd : (j : Int) / (Q : Int) = (b : Int) := by rw [HB.out]; rfl
      have hbb : b ≤ j := by rw [HB.out]; exact Nat.div_le_self _ _
      have hbI : (b : Int) ≤ 8192 := by omega
      have hjI : (j : Int) ≤ 8192 := by omega
      generalize j % Q = r at *
      generalize eI T.d b = dv at *
      have ba := below_alloc wr (.cells #[.int .i64 (eZ zs j).ph, .int .i64 (eZ zs j).pg] 41)
      have bb := Blk.new' wr 41 #[.int .i64 (eZ zs j).ph, .int .i64 (eZ zs j).pg]
      generalize eZ zs j = z at *
      obtain ⟨zh, zg⟩ := z
      dsimp only at e0 e1 ha ba bb hp
      have hk1 := hbk.trans (ba.mono hbk.size)
      have d0 := (b2.kept hk1).cell' (i := 0) rfl
      have hct1 := hct _ hk1
      cases hin : decide ((b : Int) ∈ T.l) with
      | true =>
        rw [hin] at hct1
        clear hct hW ha hn hc hat hno hwh hpl hp
        go_wp2_with (go_at_call 11; refine hct1.mono ?_; rintro e w6 ⟨rfl, hb6⟩)
        go_roundw
        case rel => exact ⟨j + 1, by omega, by go_num, bt hk1 hb6⟩
        case measure => simp [intOf]; omega
      | false =>
        rw [hin] at hct1
        have hin' : (b : Int) ∉ T.l := by simpa using hin
        cases hv : eB T.h j with
        | true =>
          rw [hv] at hW
          obtain ⟨a1, rfl, rfl⟩ := ha hv
          have hz0 : 0 ≤ zh := (isPl_ph a1).1
          clear ha hn hin hin' hct hc hat hno hwh hpl hp a1 hv
          rw [if_pos rfl] at hW
          dsimp only at hW
          go_wp2_with (first | (go_at_call 11; refine hct1.mono ?_; rintro e w6 ⟨rfl, hb6⟩; have hk2 := bt hk1 hb6; have gt6 := gt.kept hk2; clear hct1; have v0 := gt6.cell' (i := 0) rfl; have v1 := gt6.cell' (i := 1) rfl; have v2 := gt6.cell' (i := 2) rfl; have v3 := gt6.cell' (i := 3) rfl; have v4 := gt6.cell' (i := 4) rfl; have v5 := gt6.cell' (i := 5) rfl; have v6 := gt6.cell' (i := 6) rfl; have v7 := gt6.cell' (i := 7) rfl; have v8 := gt6.cell' (i := 8) rfl) | (go_at_call 12; refine (hW _ hk2).mono ?_; rintro e w7 ⟨rfl, hb7⟩; clear hW; have bb7 := ((bb.kept hb6).kept hb7).alloc (.cells #[.int .i64 zh, .int .i64 (r : Int)] 41); have q0 := bb7.cell' (i := 0) rfl; have q1 := bb7.cell' (i := 1) rfl))
          go_roundw
          case rel => exact ⟨j + 1, by omega, by go_num, bt (bt hk2 hb7) (below_alloc _ _)⟩
          case measure => simp [intOf]; omega
        | false =>
          rw [hv] at hW
          have hz1 : isPl ⟨zh, zg⟩ = false := hn hv hin'
          rw [hz1] at hp
          have hz0 : ¬ 0 ≤ zh := by simpa using hp.symm
          clear ha hn hin hin' hct hc hat hno hwh hpl hp hz1 hv
          rw [if_neg (by simp)] at hW
          dsimp only at hW
          go_wp2_with (first | (go_at_call 11; refine hct1.mono ?_; rintro e w6 ⟨rfl, hb6⟩; have hk2 := bt hk1 hb6; have gt6 := gt.kept hk2; clear hct1; have v0 := gt6.cell' (i := 0) rfl; have v1 := gt6.cell' (i := 1) rfl; have v2 := gt6.cell' (i := 2) rfl; have v3 := gt6.cell' (i := 3) rfl; have v4 := gt6.cell' (i := 4) rfl; have v5 := gt6.cell' (i := 5) rfl; have v6 := gt6.cell' (i := 6) rfl; have v7 := gt6.cell' (i := 7) rfl; have v8 := gt6.cell' (i := 8) rfl) | (go_at_call 12; refine (hW _ hk2).mono ?_; rintro e w7 ⟨rfl, hb7⟩; clear hW; have bb7 := ((bb.kept hb6).kept hb7).alloc (.cells #[.int .i64 0, .int .i64 0] 41); have q0 := bb7.cell' (i := 0) rfl; have q1 := bb7.cell' (i := 1) rfl))
          go_roundw
          case rel => exact ⟨j + 1, by omega, by go_num, bt (bt hk2 hb7) (below_alloc _ _)⟩
          case measure => simp [intOf]; omega
    · obtain rfl : M = j := by omega
      go_wp2
      go_ret
      exact ⟨rfl, hb0.trans (hbk.mono hb0.size)⟩
set_option linter.unusedSimpArgs false in
set_option maxRecDepth 100000 in
set_option maxHeartbeats 8000000 in
theorem scanStays_true (P Lg K : Int) (p q : Option Addr) (n c m d : Nat) (xs : List Fd) (w : World) (hx : InF w p n c xs) :
    Calls Try.prog 3 #[.agg #[.int .i64 P, .int .i64 Lg, .int .i64 K, .slice p n c, .slice q m d]] w fun e w' => e = .returned (.bool true) ∧ Below w.heap.size w w' := by
  have hb0 := below_alloc w (.cells #[.int .i64 P, .int .i64 Lg, .int .i64 K, .slice p n c, .slice q m d] 25)
  have b2 := Blk.new' w 25 #[.int .i64 P, .int .i64 Lg, .int .i64 K, .slice p n c, .slice q m d]
  cases hf : fewB n m Lg with
  | false =>
    go_enter Try.func3, Try.ntmps3
    go_upto_region 1 with (fail)
    generalize w.alloc (.cells #[.int .i64 P, .int .i64 Lg, .int .i64 K, .slice p n c, .slice q m d] 25) = W0 at *
    go_wp2_with (first | (go_at_call 6; refine (live_any _).mono ?_; rintro e w1 ⟨rfl, hbn⟩; replace b2 := b2.kept hbn; replace hb0 := bt hb0 hbn; clear hbn; have c0 := b2.cell' (i := 0) rfl; have c1 := b2.cell' (i := 1) rfl; have c2 := b2.cell' (i := 2) rfl; have c3 := b2.cell' (i := 3) rfl; have c4 := b2.cell' (i := 4) rfl) | (go_at_call 7; refine (few_any _ _ _ _ _ _ _ _ _ _).mono ?_; rintro e w1 ⟨rfl, hbn⟩; replace b2 := b2.kept hbn; replace hb0 := bt hb0 hbn; clear hbn c0 c1 c2 c3 c4; have c0 := b2.cell' (i := 0) rfl; have c1 := b2.cell' (i := 1) rfl; have c2 := b2.cell' (i := 2) rfl; have c3 := b2.cell' (i := 3) rfl; have c4 := b2.cell' (i := 4) rfl))
    go_ret
    exact ⟨rfl, hb0⟩
  | true =>
    cases hok : okSz P Lg K with
    | false =>
      have hnw := fun w h => newest_all P Lg p n c xs w h
      have htb := fun pn mn cn w => table_sz P Lg K pn mn cn w hok
      clear hok
      go_enter Try.func3, Try.ntmps3
      go_upto_region 1 with (fail)
      generalize w.alloc (.cells #[.int .i64 P, .int .i64 Lg, .int .i64 K, .slice p n c, .slice q m d] 25) = W0 at *
      go_upto_region 5 with (first | (go_at_call 6; refine (live_any _).mono ?_; rintro e w1 ⟨rfl, hbn⟩; replace b2 := b2.kept hbn; replace hb0 := bt hb0 hbn; clear hbn; have c0 := b2.cell' (i := 0) rfl; have c1 := b2.cell' (i := 1) rfl; have c2 := b2.cell' (i := 2) rfl; have c3 := b2.cell' (i := 3) rfl; have c4 := b2.cell' (i := 4) rfl) | (go_at_call 7; refine (few_any _ _ _ _ _ _ _ _ _ _).mono ?_; rintro e w1 ⟨rfl, hbn⟩; replace b2 := b2.kept hbn; replace hb0 := bt hb0 hbn; clear hbn c0 c1 c2 c3 c4; have c0 := b2.cell' (i := 0) rfl; have c1 := b2.cell' (i := 1) rfl; have c2 := b2.cell' (i := 2) rfl; have c3 := b2.cell' (i := 3) rfl; have c4 := b2.cell' (i := 4) rfl))
      go_upto_region 6 with (go_at_call 8; refine (hnw _ (hx.below hb0)).mono ?_; rintro e w2 ⟨pn, mn, rfl, hzn, hbn⟩; replace b2 := b2.kept hbn; replace hb0 := bt hb0 hbn; clear hbn c0 c1 c2 c3 c4; have c0 := b2.cell' (i := 0) rfl; have c1 := b2.cell' (i := 1) rfl; have c2 := b2.cell' (i := 2) rfl; have c3 := b2.cell' (i := 3) rfl; have c4 := b2.cell' (i := 4) rfl)
      clear hnw
      go_upto_region 7 with (first | (go_at_call 9; refine (htb _ _ _ _).mono ?_; rintro e w3 ⟨rfl, hbn⟩; replace b2 := b2.kept hbn; replace hb0 := bt hb0 hbn; clear hbn c0 c1 c2 c3 c4; have c0 := b2.cell' (i := 0) rfl; have c1 := b2.cell' (i := 1) rfl; have c2 := b2.cell' (i := 2) rfl; have c3 := b2.cell' (i := 3) rfl; have c4 := b2.cell' (i := 4) rfl) | (refine wpList_store_blk rfl 35 (.tmp 4) (.tmp 32) rfl w3.heap.size 0 [.int .i64 0, .int .i64 0, .int .i64 0, .slice none 0 0, .slice none 0 0, .int .i64 0, .int .i64 0, .int .i64 0, .slice none 0 0] rfl rfl (Blk.new' w3 35 #[.int .i64 0, .int .i64 0, .int .i64 0, .slice none 0 0, .slice none 0 0, .int .i64 0, .int .i64 0, .int .i64 0, .slice none 0 0]) (by exact Nat.le_refl _) (by show _ = some 9; kernel_rfl) (by simp [Value.oneCell']) ?_; intro W4 h4 ht4))
      have k4 : Below w3.heap.size w3 W4 := ht4.below (below_alloc w3 _) (Nat.le_refl _)
      clear h4 ht4
      go_wp2
      go_ret
      exact ⟨rfl, bt hb0 k4⟩
    | true =>
      obtain ⟨r1, r2, r3⟩ := okSz_iff.1 hok
      obtain ⟨Q, rfl⟩ : ∃ Q : Nat, P = (Q : Int) := ⟨P.toNat, by omega⟩
      obtain ⟨L, rfl⟩ : ∃ L : Nat, Lg = (L : Int) := ⟨Lg.toNat, by omega⟩
      exact stays_ok Q L (L * Q) K p q n c m d xs w hx hf hok rfl
end Go.Proofs.Ytfgelncfmopibab
