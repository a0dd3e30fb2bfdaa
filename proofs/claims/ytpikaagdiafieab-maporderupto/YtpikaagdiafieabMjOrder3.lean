/-
  MapOrder, the walk: pages in any order, or twice, know the same together; fewer pages know no more.
-/
import Derived.Test.YtpikaagdiafieabMjOrder1
namespace Go.Proofs.Ytpikaagdiafieab
open Go.RowKit
set_option linter.unusedSimpArgs false in
set_option maxRecDepth 100000 in
set_option maxHeartbeats 8000000 in
theorem order_good (n : Nat) (x : Int) (hx0 : 0 ≤ x) (hx1 : x < 256) (pl : Option Addr) (N c' : Nat) (f : Nat → PV) (l : List MP) (w : World) (hl : InPs w pl N c' f l) (hN : N ≤ 1048576) (hi : 16 ≤ n ∧ n ≤ 256) :
    Calls Try.prog 3 #[.int .i64 (n : Int), .slice pl N c', .int .u8 x] w fun e w' => e = .returned (.bool true) ∧ Below w.heap.size w w' := by
  obtain ⟨k, HK⟩ : ∃ k : Nat, Hid ((x.tmod ((N : Int) + 1)).toNat = k) := ⟨_, rfl⟩
  have hkn : k ≤ N := by rw [← HK.out]; have := Int.tmod_lt_of_pos x (show (0 : Int) < (N : Int) + 1 by omega); omega
  have hk : x.tmod ((N : Int) + 1) = (k : Int) := by rw [← HK.out]; have := Int.tmod_nonneg ((N : Int) + 1) hx0; omega
  have L0 : Hid (l.length = N) := hl.len
  have lq := hl.pair
  have j1 := fun W (h : InPs W pl N c' f l) => replay_any (n : Int) pl N c' f l W h
  have j3 := fun W (h : InPs W pl k c' f (l.take k)) => replay_any (n : Int) pl k c' f (l.take k) W h
  rw [replayR_yes hi] at j1 j3
  have HG : Hid (Good n (replayP n l).1) := replayP_good hi l
  have HT := replayP_take hi l k
  have HR : Hid (∀ p c, ∀ W, InQ W p (N + N) c ((pairQ f l).reverse ++ pairQ f l) → Calls Try.prog 5 #[.int .i64 (n : Int), .slice p (N + N) c] W (ResG W ((replayP n l).1, (replayP n l).2, 0))) := by
    intro p c W hin
    have e := replay_any (n : Int) p (N + N) c _ _ W hin
    rw [replayR_yes hi, List.map_append, List.map_reverse, pairQ_snd, replayP_back hi] at e
    exact e
  generalize replayP n l = R at *
  generalize replayP n (l.take k) = S at *
  obtain ⟨R1, R2⟩ := R
  obtain ⟨S1, S2⟩ := S
  dsimp only at j1 j3 HG HT HR
  obtain ⟨hcov, hle⟩ := HT
  have HC : Hid (coversB R1 S1 = true) := hcov
  have hchk : Hid (chkE R1 = 0) := chkE_ok HG.out.ok
  have hsl := fun W => sliceP_to (p := pl) (n := N) (c := c') (k := k) hkn hl.cap hl.nil W
  have hne : ¬ ((N : Int) + 1 = 0) := by omega
  have hw1 : IntKind.i64.wrap ((N : Int) + 1) = (N : Int) + 1 := by rw [IntKind.wrap_i64]; omega
  clear hcov
  go_enter Try.func3, Try.ntmps3
  go_upto_region 2 with (go_at_call 5; refine (j1 _ hl).mono ?_; rintro e u1 ⟨V1, rfl, ho, hbx⟩; dsimp only)
  dsimp only at ho
  have hal := below_alloc u1 (.cells #[.slice V1.p V1.n V1.c, .slice V1.q V1.m V1.d, .int .i64 R1.seq] 26)
  have b1 : Blk (u1.alloc (.cells #[.slice V1.p V1.n V1.c, .slice V1.q V1.m V1.d, .int .i64 R1.seq] 26)) u1.heap.size 26 (SV.cells V1 R1) := Blk.new' u1 26 #[.slice V1.p V1.n V1.c, .slice V1.q V1.m V1.d, .int .i64 R1.seq]
  have hB := bt hbx hal
  have o1 := ho.inS.below hal
  clear hbx hal ho j1
  generalize hV1 : u1.alloc (.cells #[.slice V1.p V1.n V1.c, .slice V1.q V1.m V1.d, .int .i64 R1.seq] 26) = v1 at *
  clear hV1
  generalize u1.heap.size = g1 at *
  go_upto_region 4 with (go_at_call 6; refine (begun_any _).mono ?_; rintro e w1 ⟨rfl, hb1⟩)
  replace hB := bt hB hb1
  replace b1 := b1.kept hb1
  replace o1 := o1.below hb1
  clear hb1
  go_upto_region 5 with (go_at_call 7; refine (cloneP_any pl N c' (pairQ f l) _ (lq.below hB) (by omega)).mono ?_; rintro e w2 ⟨p2, c2, rfl, ho2, hb2⟩)
  go_upto_region 6 with (go_at_call 8; refine (reverseP_any w1.heap.size p2 N c2 (pairQ f l) _ ho2 (by omega)).mono ?_; rintro e w3 ⟨rfl, ho3, hb3⟩)
  have hbt := hb2.trans hb3
  replace hB := bt hB hbt
  replace b1 := b1.kept hbt
  replace o1 := o1.below hbt
  obtain ⟨p8, c8, hv8, hrev⟩ := in_of_ownsQ ho3 (by omega) (fun i hi => by
    have hlen : (pairQ f l).length = N := by rw [pairQ_length, L0.out]
    rw [List.length_reverse] at hi
    rw [eQ_rev hi]
    have := (lq.below hB).each ((pairQ f l).length - 1 - i) (by omega)
    rw [eP_map] at this
    exact this)
  cases hv8
  clear hbt hb2 hb3 ho2 ho3
  have hsl2 := Blk.new' w3 22 #[.slice p2 N c2, .slice pl N c']
  have hal2 := below_alloc w3 (.cells #[.slice p2 N c2, .slice pl N c'] 22)
  go_upto_region 7 with (first
    | (go_at_call 9; refine (concatP_any w3.heap.size p2 pl N c2 N c' (pairQ f l).reverse (pairQ f l) _ hsl2.lt (hsl2.cell' rfl) (hsl2.cell' rfl) (hrev.below hal2) (lq.below (bt hB hal2)) (by omega)).mono ?_; rintro e w4 ⟨v4, rfl, hcat, hb4⟩; replace hB := bt hB (bt hal2 hb4); replace b1 := b1.kept (bt hal2 hb4); replace o1 := o1.below (bt hal2 hb4); obtain ⟨p4, c4, hv4, hcin⟩ := in_of_ownsQ hcat (by omega) (fun i hi => by
        have hlen : (pairQ f l).length = N := by rw [pairQ_length, L0.out]
        rw [eQ_app]
        rw [List.length_append, List.length_reverse] at hi
        have hh := fun i (hi : i < N) => (lq.below hB).each i hi
        split
        · rename_i h
          rw [List.length_reverse] at h
          rw [eQ_rev h]
          have := hh ((pairQ f l).length - 1 - i) (by omega)
          rw [eP_map] at this
          exact this
        · rw [List.length_reverse]
          have := hh (i - (pairQ f l).length) (by omega)
          rw [eP_map] at this
          exact this); subst hv4; clear hcat hb4 hal2 hsl2 hrev)
    | (go_at_call 5; refine (HR.out p4 c4 _ hcin).mono ?_; rintro e u2 ⟨V2, rfl, ho, hbx⟩; dsimp only))
  dsimp only at ho
  have hal := below_alloc u2 (.cells #[.slice V2.p V2.n V2.c, .slice V2.q V2.m V2.d, .int .i64 R1.seq] 26)
  have b2 : Blk (u2.alloc (.cells #[.slice V2.p V2.n V2.c, .slice V2.q V2.m V2.d, .int .i64 R1.seq] 26)) u2.heap.size 26 (SV.cells V2 R1) := Blk.new' u2 26 #[.slice V2.p V2.n V2.c, .slice V2.q V2.m V2.d, .int .i64 R1.seq]
  have hbv := bt hbx hal
  replace hB := bt hB hbv
  replace b1 := b1.kept hbv
  replace o1 := o1.below hbv
  have o2 := ho.inS.below hal
  clear hbx hal hbv ho HR hcin
  generalize hV1 : u2.alloc (.cells #[.slice V2.p V2.n V2.c, .slice V2.q V2.m V2.d, .int .i64 R1.seq] 26) = v2 at *
  clear hV1
  generalize u2.heap.size = g2 at *
  have hq : (R2 != R2) = false := by simp
  obtain ⟨x00, x01, x02⟩ := b1.cells3
  obtain ⟨x10, x11, x12⟩ := b2.cells3
  go_upto_region 9 with (first
    | (go_at_call 10; refine (rsame_any V1 V2 R1 R1 _ o1 o2).mono ?_; rw [sameS_iff.2 rfl]; rintro e w5 ⟨rfl, hb5⟩; replace hB := bt hB hb5; replace b1 := b1.kept hb5; replace o1 := o1.below hb5; obtain ⟨x00, x01, x02⟩ := b1.cells3; clear hb5)
    | (go_at_call 11; refine (check_any V1 R1 _ o1).mono ?_; rw [hchk.out]; rintro e w6 ⟨rfl, hb6⟩; replace hB := bt hB hb6; replace b1 := b1.kept hb6; replace o1 := o1.below hb6; clear hb6))
  go_upto_region 10 with (fail)
  go_upto_region 11 with (go_at_call 5; refine (j3 _ ((hl.below hB).take hkn)).mono ?_; rintro e u3 ⟨V3, rfl, ho, hbx⟩; dsimp only)
  dsimp only at ho
  have hal := below_alloc u3 (.cells #[.slice V3.p V3.n V3.c, .slice V3.q V3.m V3.d, .int .i64 S1.seq] 26)
  have b3 : Blk (u3.alloc (.cells #[.slice V3.p V3.n V3.c, .slice V3.q V3.m V3.d, .int .i64 S1.seq] 26)) u3.heap.size 26 (SV.cells V3 S1) := Blk.new' u3 26 #[.slice V3.p V3.n V3.c, .slice V3.q V3.m V3.d, .int .i64 S1.seq]
  have hbv := bt hbx hal
  replace hB := bt hB hbv
  replace b1 := b1.kept hbv
  replace o1 := o1.below hbv
  have o3 := ho.inS.below hal
  clear hbx hal hbv ho j3 hsl
  generalize hV1 : u3.alloc (.cells #[.slice V3.p V3.n V3.c, .slice V3.q V3.m V3.d, .int .i64 S1.seq] 26) = v3 at *
  clear hV1
  generalize u3.heap.size = g3 at *
  obtain ⟨x00, x01, x02⟩ := b1.cells3
  obtain ⟨x20, x21, x22⟩ := b3.cells3
  go_wp2_with (go_at_call 12; refine (covers_any V1 V3 R1 S1 _ o1 o3).mono ?_; rw [HC.out]; rintro e w7 ⟨rfl, hb7⟩; replace hB := bt hB hb7; clear hb7)
  go_ret
  exact ⟨rfl, hB⟩
end Go.Proofs.Ytpikaagdiafieab
