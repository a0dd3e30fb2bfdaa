/-
  For every pool p, block, role and row of wears l: the call of PoolStays returns true (what each call makes of a pool that may be may be, has as many blocks, and each bad one is bad still; a pool that is handed in is left as it is; a clone is the same), and all arguments read afterwards as they read before. No condition.
-/
import Derived.Test.YtigkfmdhmonjlaaPoStaysP
import Derived.Test.YtigkfmdhmonjlaaPoBegun
import Derived.Test.YtigkfmdhmonjlaaPoGive
import Derived.Test.YtigkfmdhmonjlaaPoErased
import Derived.Test.YtigkfmdhmonjlaaPoRetire
import Derived.Test.YtigkfmdhmonjlaaPoSame
import Derived.Test.YtigkfmdhmonjlaaPoLift
import Derived.Maps.AppendAt
namespace Go.Proofs.Ytigkfmdhmonjlaa
open Go.ChangeShapes Go.WideShapes Go.ChangeAt Go.RowKit
set_option linter.unusedSimpArgs false in
set_option maxRecDepth 100000 in
set_option maxHeartbeats 20000000 in
theorem stays_walk (p q s : Option Addr) (n c m d r e : Nat) (R W l : List Int) (b role : Int) (w : World) (hR : InI w p n c R) (hW : InI w q m d W) (hl : InI w s r e l) :
    Calls Try.prog 6 #[.agg #[.slice p n c, .slice q m d], .int .i64 b, .int .i64 role, .slice s r e] w fun e w' => e = .returned (.bool true) ∧ Below w.heap.size w w' := by
  have hB := below_alloc w (.cells #[.slice p n c, .slice q m d] 25)
  have b4 := Blk.new' w 25 #[.slice p n c, .slice q m d]
  cases hok : okPool R W with
  | false =>
    have HE : Hid (checkE R W = 40) := checkE_no hok
    clear hok
    go_enter Try.func6, Try.ntmps6
    go_upto_region 2 with (first | (go_at_call 13; refine (begun_any _).mono ?_; rintro e w1 ⟨rfl, hb1⟩; have a4 := b4.kept hb1; have k0 := a4.cell' (i := 0) rfl; have k1 := a4.cell' (i := 1) rfl) | (go_at_call 14; refine (check_any p q n c m d R W _ (hR.below (bt hB hb1)) (hW.below (bt hB hb1))).mono ?_; rintro e w2 ⟨rfl, hb2⟩; rw [HE.out]))
    go_wp2_with (go_at_call 13; refine (begun_any _).mono ?_; rintro e w3 ⟨rfl, hb3⟩)
    go_ret
    exact ⟨rfl, bt (bt (bt hB hb1) hb2) hb3⟩
  | true =>
    have HE : Hid (checkE R W = 0) := checkE_ok hok
    have HN : Hid (n ≤ 256 ∧ m ≤ 256 ∧ 16 ≤ n) := by have h := (okPool_iff.1 hok).1; rw [hR.len, hW.len] at h; exact ⟨by omega, by omega, by omega⟩
    have HL : Hid (R.length = n) := hR.len
    have s1 := fun W' (h1 : InI W' p n c R) (h2 : InI W' q m d W) => take_any p q n c m d R W b role W' h1 h2
    have HF1 : Hid ((takeS R W b role).2.2 = 0 → Fine R (takeS R W b role).1 (takeS R W b role).2.1) := @take_fine R W b role
    generalize takeS R W b role = S1 at *
    obtain ⟨A1, V1, E1⟩ := S1
    replace HF1 : Hid (E1 = 0 → Fine R A1 V1) := HF1
    have s2 := fun W' (h1 : InI W' p n c R) (h2 : InI W' q m d W) => give_any p q n c m d R W b W' h1 h2
    have HF2 : Hid ((giveS R W b).2.2 = 0 → Fine R (giveS R W b).1 (giveS R W b).2.1) := @give_fine R W b
    generalize giveS R W b = S2 at *
    obtain ⟨A2, V2, E2⟩ := S2
    replace HF2 : Hid (E2 = 0 → Fine R A2 V2) := HF2
    have s3 := fun W' (h1 : InI W' p n c R) (h2 : InI W' q m d W) => erased_any p q n c m d R W b W' h1 h2
    have HF3 : Hid ((erasedS R W b).2.2 = 0 → Fine R (erasedS R W b).1 (erasedS R W b).2.1) := @erased_fine R W b
    generalize erasedS R W b = S3 at *
    obtain ⟨A3, V3, E3⟩ := S3
    replace HF3 : Hid (E3 = 0 → Fine R A3 V3) := HF3
    have s4 := fun W' (h1 : InI W' p n c R) (h2 : InI W' q m d W) => retire_any p q n c m d R W b W' h1 h2
    have HF4 : Hid ((retireS R W b).2.2 = 0 → Fine R (retireS R W b).1 (retireS R W b).2.1) := @retire_fine R W b
    generalize retireS R W b = S4 at *
    obtain ⟨A4, V4, E4⟩ := S4
    replace HF4 : Hid (E4 = 0 → Fine R A4 V4) := HF4
    have s5 := fun W' (h1 : InI W' p n c R) (h2 : InI W' q m d W) (h3 : InI W' s r e l) => wears_any p q s n c m d r e R W l W' h1 h2 h3
    have HF5 : Hid ((wearsS R W l).2.2 = 0 → Fine R (wearsS R W l).1 (wearsS R W l).2.1) := @wears_fine R W l
    generalize wearsS R W l = S5 at *
    obtain ⟨A5, V5, E5⟩ := S5
    replace HF5 : Hid (E5 = 0 → Fine R A5 V5) := HF5
    have HF0 : Hid (Fine R R W) := fine_self hok
    clear hok
    go_enter Try.func6, Try.ntmps6
    go_upto_region 3 with (first | (go_at_call 13; refine (begun_any _).mono ?_; rintro e w1 ⟨rfl, hb1⟩; have a4 := b4.kept hb1; have k0 := a4.cell' (i := 0) rfl; have k1 := a4.cell' (i := 1) rfl) | (go_at_call 14; refine (check_any p q n c m d R W _ (hR.below (bt hB hb1)) (hW.below (bt hB hb1))).mono ?_; rintro e w2 ⟨rfl, hb2⟩; rw [HE.out]))
    replace hB := bt (bt hB hb1) hb2
    replace b4 := (b4.kept hb1).kept hb2
    clear hb1 hb2 a4 k0 k1 HE
    have k0 := b4.cell' (i := 0) rfl
    have k1 := b4.cell' (i := 1) rfl
    have h4lt := b4.lt
    have HG4 : Hid (w.heap.size < w2.heap.size) := h4lt
    clear h4lt
    go_upto_region 4 with (go_at_call 38; refine (rclone_any p q n c m d R W _ (hR.below hB) (hW.below hB) (by have := HN.out; omega) (by have := HN.out; omega)).mono ?_; rintro e u0 ⟨pw, cw, qw, dw, rfl, hw, hbw⟩)
    clear k0 k1
    have spw := hw.span
    have b9 := Blk.new' u0 25 #[.slice pw n cw, .slice qw m dw]
    have hal := below_alloc u0 (.cells #[.slice pw n cw, .slice qw m dw] 25)
    have hbv := bt hbw hal
    have HS0 : Hid (w2.heap.size ≤ u0.heap.size) := hbw.size
    have HT0 : Hid (u0.heap.size < (u0.alloc (.cells #[.slice pw n cw, .slice qw m dw] 25)).heap.size) := b9.lt
    replace hw := (hw.next hal).low hB.size
    replace hB := bt hB hbv
    replace b4 := b4.kept hbv
    clear hbw hal hbv
    generalize hVV : u0.alloc (.cells #[.slice pw n cw, .slice qw m dw] 25) = v1 at *
    clear hVV
    generalize u0.heap.size = g9 at *
    generalize w2.heap.size = t0 at *
    have k0 := b4.cell' (i := 0) rfl
    have k1 := b4.cell' (i := 1) rfl
    go_upto_region 5 with (go_at_call 17; refine (s1 _ (hR.below hB) (hW.below hB)).mono ?_; rintro e u1 ⟨px1, nx1, cx1, qx1, mx1, dx1, rfl, hx1, hbx⟩)
    clear k0 k1 s1
    try dsimp only at hx1
    have sp1 := hx1.span
    have b10 := Blk.new' u1 25 #[.slice px1 nx1 cx1, .slice qx1 mx1 dx1]
    have hal := below_alloc u1 (.cells #[.slice px1 nx1 cx1, .slice qx1 mx1 dx1] 25)
    have hbv := bt hbx hal
    have HS1 : Hid (v1.heap.size ≤ u1.heap.size) := hbx.size
    have HT1 : Hid (u1.heap.size < (u1.alloc (.cells #[.slice px1 nx1 cx1, .slice qx1 mx1 dx1] 25)).heap.size) := b10.lt
    replace hx1 := (hx1.next hal).low hB.size
    replace hB := bt hB hbv
    replace b4 := b4.kept hbv
    replace b9 := b9.kept hbv
    replace hw := hw.next hbv
    clear hbx hal hbv
    generalize hVV : u1.alloc (.cells #[.slice px1 nx1 cx1, .slice qx1 mx1 dx1] 25) = v2 at *
    clear hVV
    generalize u1.heap.size = g10 at *
    generalize v1.heap.size = t1 at *
    have k0 := b4.cell' (i := 0) rfl
    have k1 := b4.cell' (i := 1) rfl
    go_upto_region 6 with (go_at_call 19; refine (s2 _ (hR.below hB) (hW.below hB)).mono ?_; rintro e u2 ⟨px2, nx2, cx2, qx2, mx2, dx2, rfl, hx2, hbx⟩)
    clear k0 k1 s2
    try dsimp only at hx2
    have sp2 := hx2.span
    have b12 := Blk.new' u2 25 #[.slice px2 nx2 cx2, .slice qx2 mx2 dx2]
    have hal := below_alloc u2 (.cells #[.slice px2 nx2 cx2, .slice qx2 mx2 dx2] 25)
    have hbv := bt hbx hal
    have HS2 : Hid (v2.heap.size ≤ u2.heap.size) := hbx.size
    have HT2 : Hid (u2.heap.size < (u2.alloc (.cells #[.slice px2 nx2 cx2, .slice qx2 mx2 dx2] 25)).heap.size) := b12.lt
    replace hx2 := (hx2.next hal).low hB.size
    replace hB := bt hB hbv
    replace b4 := b4.kept hbv
    replace b9 := b9.kept hbv
    replace b10 := b10.kept hbv
    replace hw := hw.next hbv
    replace hx1 := hx1.next hbv
    clear hbx hal hbv
    generalize hVV : u2.alloc (.cells #[.slice px2 nx2 cx2, .slice qx2 mx2 dx2] 25) = v3 at *
    clear hVV
    generalize u2.heap.size = g12 at *
    generalize v2.heap.size = t2 at *
    have k0 := b4.cell' (i := 0) rfl
    have k1 := b4.cell' (i := 1) rfl
    go_upto_region 7 with (go_at_call 21; refine (s3 _ (hR.below hB) (hW.below hB)).mono ?_; rintro e u3 ⟨px3, nx3, cx3, qx3, mx3, dx3, rfl, hx3, hbx⟩)
    clear k0 k1 s3
    try dsimp only at hx3
    have sp3 := hx3.span
    have b14 := Blk.new' u3 25 #[.slice px3 nx3 cx3, .slice qx3 mx3 dx3]
    have hal := below_alloc u3 (.cells #[.slice px3 nx3 cx3, .slice qx3 mx3 dx3] 25)
    have hbv := bt hbx hal
    have HS3 : Hid (v3.heap.size ≤ u3.heap.size) := hbx.size
    have HT3 : Hid (u3.heap.size < (u3.alloc (.cells #[.slice px3 nx3 cx3, .slice qx3 mx3 dx3] 25)).heap.size) := b14.lt
    replace hx3 := (hx3.next hal).low hB.size
    replace hB := bt hB hbv
    replace b4 := b4.kept hbv
    replace b9 := b9.kept hbv
    replace b10 := b10.kept hbv
    replace b12 := b12.kept hbv
    replace hw := hw.next hbv
    replace hx1 := hx1.next hbv
    replace hx2 := hx2.next hbv
    clear hbx hal hbv
    generalize hVV : u3.alloc (.cells #[.slice px3 nx3 cx3, .slice qx3 mx3 dx3] 25) = v4 at *
    clear hVV
    generalize u3.heap.size = g14 at *
    generalize v3.heap.size = t3 at *
    have k0 := b4.cell' (i := 0) rfl
    have k1 := b4.cell' (i := 1) rfl
    go_upto_region 8 with (go_at_call 23; refine (s4 _ (hR.below hB) (hW.below hB)).mono ?_; rintro e u4 ⟨px4, nx4, cx4, qx4, mx4, dx4, rfl, hx4, hbx⟩)
    clear k0 k1 s4
    try dsimp only at hx4
    have sp4 := hx4.span
    have b16 := Blk.new' u4 25 #[.slice px4 nx4 cx4, .slice qx4 mx4 dx4]
    have hal := below_alloc u4 (.cells #[.slice px4 nx4 cx4, .slice qx4 mx4 dx4] 25)
    have hbv := bt hbx hal
    have HS4 : Hid (v4.heap.size ≤ u4.heap.size) := hbx.size
    have HT4 : Hid (u4.heap.size < (u4.alloc (.cells #[.slice px4 nx4 cx4, .slice qx4 mx4 dx4] 25)).heap.size) := b16.lt
    replace hx4 := (hx4.next hal).low hB.size
    replace hB := bt hB hbv
    replace b4 := b4.kept hbv
    replace b9 := b9.kept hbv
    replace b10 := b10.kept hbv
    replace b12 := b12.kept hbv
    replace b14 := b14.kept hbv
    replace hw := hw.next hbv
    replace hx1 := hx1.next hbv
    replace hx2 := hx2.next hbv
    replace hx3 := hx3.next hbv
    clear hbx hal hbv
    generalize hVV : u4.alloc (.cells #[.slice px4 nx4 cx4, .slice qx4 mx4 dx4] 25) = v5 at *
    clear hVV
    generalize u4.heap.size = g16 at *
    generalize v4.heap.size = t4 at *
    have k0 := b4.cell' (i := 0) rfl
    have k1 := b4.cell' (i := 1) rfl
    go_upto_region 9 with (go_at_call 25; refine (s5 _ (hR.below hB) (hW.below hB) (hl.below hB)).mono ?_; rintro e u5 ⟨px5, nx5, cx5, qx5, mx5, dx5, rfl, hx5, hbx⟩)
    clear k0 k1 s5
    try dsimp only at hx5
    have sp5 := hx5.span
    have b18 := Blk.new' u5 25 #[.slice px5 nx5 cx5, .slice qx5 mx5 dx5]
    have hal := below_alloc u5 (.cells #[.slice px5 nx5 cx5, .slice qx5 mx5 dx5] 25)
    have hbv := bt hbx hal
    have HS5 : Hid (v5.heap.size ≤ u5.heap.size) := hbx.size
    have HT5 : Hid (u5.heap.size < (u5.alloc (.cells #[.slice px5 nx5 cx5, .slice qx5 mx5 dx5] 25)).heap.size) := b18.lt
    replace hx5 := (hx5.next hal).low hB.size
    replace hB := bt hB hbv
    replace b4 := b4.kept hbv
    replace b9 := b9.kept hbv
    replace b10 := b10.kept hbv
    replace b12 := b12.kept hbv
    replace b14 := b14.kept hbv
    replace b16 := b16.kept hbv
    replace hw := hw.next hbv
    replace hx1 := hx1.next hbv
    replace hx2 := hx2.next hbv
    replace hx3 := hx3.next hbv
    replace hx4 := hx4.next hbv
    clear hbx hal hbv
    generalize hVV : u5.alloc (.cells #[.slice px5 nx5 cx5, .slice qx5 mx5 dx5] 25) = v6 at *
    clear hVV
    generalize u5.heap.size = g18 at *
    generalize v5.heap.size = t5 at *
    have k0 := b4.cell' (i := 0) rfl
    have k1 := b4.cell' (i := 1) rfl
    go_upto_region 10 with (go_at_call 39; refine (clone_any p q n c m d R W _ (hR.below hB) (hW.below hB) (by have := HN.out; omega) (by have := HN.out; omega)).mono ?_; rintro e u6 ⟨pc, cc, qc, dc, rfl, hxc, hbx⟩)
    clear k0 k1
    have spc := hxc.span
    have hown := World.ownsRow_lit (e := 25) (size := 2) (base := u6.heap.size) u6 #[.slice pc n cc, .slice qc m dc] 1 (Nat.le_refl _) (by unfold maxLen; omega) (by simp)
    have hal := below_alloc u6 (.cells #[.slice pc n cc, .slice qc m dc] 25)
    have hbv := bt hbx hal
    have HS6 : Hid (v6.heap.size ≤ u6.heap.size) := hbx.size
    have hgm : u6.heap.size < (u6.alloc (.cells #[.slice pc n cc, .slice qc m dc] 25)).heap.size := by rw [World.size_alloc]; omega
    replace hxc := (hxc.next hal).low hB.size
    replace hB := bt hB hbv
    replace b4 := b4.kept hbv
    replace b9 := b9.kept hbv
    replace b10 := b10.kept hbv
    replace b12 := b12.kept hbv
    replace b14 := b14.kept hbv
    replace b16 := b16.kept hbv
    replace b18 := b18.kept hbv
    replace hw := hw.next hbv
    replace hx1 := hx1.next hbv
    replace hx2 := hx2.next hbv
    replace hx3 := hx3.next hbv
    replace hx4 := hx4.next hbv
    replace hx5 := hx5.next hbv
    clear hbx hal hbv
    generalize hVV : u6.alloc (.cells #[.slice pc n cc, .slice qc m dc] 25) = v7 at *
    clear hVV
    generalize u6.heap.size = gm at *
    generalize v6.heap.size = t6 at *
    have H6 : t6 ≤ gm := HS6.out
    have h0' := HT0.out
    have h1' := HT1.out
    have h2' := HT2.out
    have h3' := HT3.out
    have h4' := HT4.out
    have h5' := HT5.out
    have h0'' := HS0.out
    have h1'' := HS1.out
    have h2'' := HS2.out
    have h3'' := HS3.out
    have h4'' := HS4.out
    have h5'' := HS5.out
    have hg4 := HG4.out
    have HG0 : Hid (Good w.heap.size g9 gm pw qw R ⟨pc, n, cc, qc, m, dc, R, W⟩) := good_of HF0.out spc spw (by omega) (by omega) (by omega) (by omega)
    have HG1 : Hid (E1 = 0 → Good w.heap.size g9 gm pw qw R ⟨px1, nx1, cx1, qx1, mx1, dx1, A1, V1⟩) := fun h => good_of (HF1.out h) sp1 spw (by omega) (by omega) (by omega) (by omega)
    have HG2 : Hid (E2 = 0 → Good w.heap.size g9 gm pw qw R ⟨px2, nx2, cx2, qx2, mx2, dx2, A2, V2⟩) := fun h => good_of (HF2.out h) sp2 spw (by omega) (by omega) (by omega) (by omega)
    have HG3 : Hid (E3 = 0 → Good w.heap.size g9 gm pw qw R ⟨px3, nx3, cx3, qx3, mx3, dx3, A3, V3⟩) := fun h => good_of (HF3.out h) sp3 spw (by omega) (by omega) (by omega) (by omega)
    have HG44 : Hid (E4 = 0 → Good w.heap.size g9 gm pw qw R ⟨px4, nx4, cx4, qx4, mx4, dx4, A4, V4⟩) := fun h => good_of (HF4.out h) sp4 spw (by omega) (by omega) (by omega) (by omega)
    have HG5 : Hid (E5 = 0 → Good w.heap.size g9 gm pw qw R ⟨px5, nx5, cx5, qx5, mx5, dx5, A5, V5⟩) := fun h => good_of (HF5.out h) sp5 spw (by omega) (by omega) (by omega) (by omega)
    have HPw : Hid (List.Pairwise Apart [(⟨pc, n, cc, qc, m, dc, R, W⟩ : PR), (⟨px1, nx1, cx1, qx1, mx1, dx1, A1, V1⟩ : PR), (⟨px2, nx2, cx2, qx2, mx2, dx2, A2, V2⟩ : PR), (⟨px3, nx3, cx3, qx3, mx3, dx3, A3, V3⟩ : PR), (⟨px4, nx4, cx4, qx4, mx4, dx4, A4, V4⟩ : PR), (⟨px5, nx5, cx5, qx5, mx5, dx5, A5, V5⟩ : PR)]) := by
      show List.Pairwise Apart _
      simp only [List.pairwise_cons, List.mem_cons, List.not_mem_nil, or_false, forall_eq_or_imp, forall_eq, List.Pairwise.nil, and_true, false_imp_iff, implies_true]
      exact ⟨⟨apart_of spc sp1 (by omega), apart_of spc sp2 (by omega), apart_of spc sp3 (by omega), apart_of spc sp4 (by omega), apart_of spc sp5 (by omega)⟩, ⟨apart_of sp1 sp2 (by omega), apart_of sp1 sp3 (by omega), apart_of sp1 sp4 (by omega), apart_of sp1 sp5 (by omega)⟩, ⟨apart_of sp2 sp3 (by omega), apart_of sp2 sp4 (by omega), apart_of sp2 sp5 (by omega)⟩, ⟨apart_of sp3 sp4 (by omega), apart_of sp3 sp5 (by omega)⟩, apart_of sp4 sp5 (by omega)⟩
    have HSp : Hid (∀ x ∈ [(⟨pc, n, cc, qc, m, dc, R, W⟩ : PR), (⟨px1, nx1, cx1, qx1, mx1, dx1, A1, V1⟩ : PR), (⟨px2, nx2, cx2, qx2, mx2, dx2, A2, V2⟩ : PR), (⟨px3, nx3, cx3, qx3, mx3, dx3, A3, V3⟩ : PR), (⟨px4, nx4, cx4, qx4, mx4, dx4, A4, V4⟩ : PR), (⟨px5, nx5, cx5, qx5, mx5, dx5, A5, V5⟩ : PR)], Span 0 gm x.p x.q) := by
      show ∀ x ∈ _, _
      have key : ∀ {lo hi : Nat} {p q : Option Addr}, Span lo hi p q → hi ≤ gm → Span 0 gm p q := fun h hh => ⟨fun a e => ⟨Nat.zero_le _, Nat.lt_of_lt_of_le (h.1 a e).2 hh⟩, fun a e => ⟨Nat.zero_le _, Nat.lt_of_lt_of_le (h.2 a e).2 hh⟩⟩
      simp only [List.mem_cons, List.not_mem_nil, or_false, forall_eq_or_imp, forall_eq]
      exact ⟨key spc (by omega), key sp1 (by omega), key sp2 (by omega), key sp3 (by omega), key sp4 (by omega), key sp5 (by omega)⟩
    have HSw : Hid (Span t0 g9 pw qw ∧ g9 < gm ∧ w.heap.size < gm) := ⟨spw, by omega, by omega⟩
    clear H6 h0' h0'' h1' h1'' h2' h2'' h3' h3'' h4' h4'' h5' h5'' hg4 HG4 HS0 HS1 HS2 HS3 HS4 HS5 HS6 HT0 HT1 HT2 HT3 HT4 HT5 spc spw sp1 sp2 sp3 sp4 sp5 HF0 HF1 HF2 HF3 HF4 HF5
    have c00 := b10.cell' (i := 0) rfl
    have c01 := b10.cell' (i := 1) rfl
    have c10 := b12.cell' (i := 0) rfl
    have c11 := b12.cell' (i := 1) rfl
    have c20 := b14.cell' (i := 0) rfl
    have c21 := b14.cell' (i := 1) rfl
    have c30 := b16.cell' (i := 0) rfl
    have c31 := b16.cell' (i := 1) rfl
    have c40 := b18.cell' (i := 0) rfl
    have c41 := b18.cell' (i := 1) rfl
    go_upto_region 11 with (fail)
    clear c00 c01 c10 c11 c20 c21 c30 c31 c40 c41 b10 b12 b14 b16 b18
    have bL := Blk.new' v7 25 #[.slice px1 nx1 cx1, .slice qx1 mx1 dx1, .slice px2 nx2 cx2, .slice qx2 mx2 dx2, .slice px3 nx3 cx3, .slice qx3 mx3 dx3, .slice px4 nx4 cx4, .slice qx4 mx4 dx4, .slice px5 nx5 cx5, .slice qx5 mx5 dx5]
    have hal := below_alloc v7 (.cells #[.slice px1 nx1 cx1, .slice qx1 mx1 dx1, .slice px2 nx2 cx2, .slice qx2 mx2 dx2, .slice px3 nx3 cx3, .slice qx3 mx3 dx3, .slice px4 nx4 cx4, .slice qx4 mx4 dx4, .slice px5 nx5 cx5, .slice qx5 mx5 dx5] 25)
    have HgL : Hid (gm < v7.heap.size) := hgm
    clear hgm
    replace hB := bt hB hal
    replace b4 := b4.kept hal
    replace b9 := b9.kept hal
    replace hw := hw.next hal
    replace hxc := hxc.next hal
    replace hx1 := hx1.next hal
    replace hx2 := hx2.next hal
    replace hx3 := hx3.next hal
    replace hx4 := hx4.next hal
    replace hx5 := hx5.next hal
    replace hown := owns_below hown hal
    clear hal
    have hgL2 := bL.lt
    have HgL2 : Hid (gm < v7.heap.size ∧ v7.heap.size < (v7.alloc (.cells #[.slice px1 nx1 cx1, .slice qx1 mx1 dx1, .slice px2 nx2 cx2, .slice qx2 mx2 dx2, .slice px3 nx3 cx3, .slice qx3 mx3 dx3, .slice px4 nx4 cx4, .slice qx4 mx4 dx4, .slice px5 nx5 cx5, .slice qx5 mx5 dx5] 25)).heap.size) := ⟨HgL.out, hgL2⟩
    clear HgL hgL2
    generalize hVV : v7.alloc (.cells #[.slice px1 nx1 cx1, .slice qx1 mx1 dx1, .slice px2 nx2 cx2, .slice qx2 mx2 dx2, .slice px3 nx3 cx3, .slice qx3 mx3 dx3, .slice px4 nx4 cx4, .slice qx4 mx4 dx4, .slice px5 nx5 cx5, .slice qx5 mx5 dx5] 25) = v8 at *
    clear hVV
    generalize v7.heap.size = gL at *
    have HI : Hid (∀ x ∈ [(⟨pc, n, cc, qc, m, dc, R, W⟩ : PR), (⟨px1, nx1, cx1, qx1, mx1, dx1, A1, V1⟩ : PR), (⟨px2, nx2, cx2, qx2, mx2, dx2, A2, V2⟩ : PR), (⟨px3, nx3, cx3, qx3, mx3, dx3, A3, V3⟩ : PR), (⟨px4, nx4, cx4, qx4, mx4, dx4, A4, V4⟩ : PR), (⟨px5, nx5, cx5, qx5, mx5, dx5, A5, V5⟩ : PR)], x.In w.heap.size v8) := by
      show ∀ x ∈ _, _
      simp only [List.mem_cons, List.not_mem_nil, or_false, forall_eq_or_imp, forall_eq]
      exact ⟨hxc, hx1, hx2, hx3, hx4, hx5⟩
    clear hxc hx1 hx2 hx3 hx4 hx5
    obtain ⟨i0, hi, hz0, hz1, hz2⟩ := info_parts infoPool
    have HI0 : Hid (Try.prog.info? 25 = some i0 ∧ i0.zero = some (.agg #[.slice none 0 0, .slice none 0 0]) ∧ i0.size = 2 ∧ i0.bytes = 48) := ⟨hi, hz0, hz1, hz2⟩
    clear hi hz0 hz1 hz2
    have HO : Hid (v8.ownsRow gm 25 2 (.slice (some ⟨gm, 0, none⟩) 1 1) 1 (flat [(⟨pc, n, cc, qc, m, dc, R, W⟩ : PR)])) := hown
    clear hown
    go_loopw [20, 77] (fun v i wr => ∃ (k : Nat) (Lk : List PR) (gk ck : Nat), k ≤ 5 ∧ i = .int .i64 (k : Int) ∧ v = .slice (some ⟨gk, 0, none⟩) Lk.length ck ∧ wr.ownsRow gm 25 2 (.slice (some ⟨gk, 0, none⟩) Lk.length ck) Lk.length (flat Lk) ∧ (gm ≤ gk ∧ gk ≠ gL ∧ Lk.length ≤ k + 1) ∧ Lk.Sublist ([(⟨pc, n, cc, qc, m, dc, R, W⟩ : PR), (⟨px1, nx1, cx1, qx1, mx1, dx1, A1, V1⟩ : PR), (⟨px2, nx2, cx2, qx2, mx2, dx2, A2, V2⟩ : PR), (⟨px3, nx3, cx3, qx3, mx3, dx3, A3, V3⟩ : PR), (⟨px4, nx4, cx4, qx4, mx4, dx4, A4, V4⟩ : PR), (⟨px5, nx5, cx5, qx5, mx5, dx5, A5, V5⟩ : PR)].take (k + 1)) ∧ (∀ x ∈ Lk, Good w.heap.size g9 gm pw qw R x) ∧ Below gm v8 wr ∧ Blk wr gL 25 [.slice px1 nx1 cx1, .slice qx1 mx1 dx1, .slice px2 nx2 cx2, .slice qx2 mx2 dx2, .slice px3 nx3 cx3, .slice qx3 mx3 dx3, .slice px4 nx4 cx4, .slice qx4 mx4 dx4, .slice px5 nx5 cx5, .slice qx5 mx5 dx5]) (fun _ i _ => 5 - (intOf i).toNat)
    case atStart => exact ⟨0, [⟨pc, n, cc, qc, m, dc, R, W⟩], gm, 1, by omega, rfl, rfl, HO.out, ⟨by omega, by have := HgL2.out; omega, by simp⟩, List.Sublist.refl _, by intro x hx; rw [List.mem_singleton.1 hx]; exact HG0.out, Below.refl _ _, bL⟩
    case round =>
      obtain ⟨k, Lk, gk, ck, hk, rfl, rfl, hok, hgk, hsub, hgd, hbk, bk⟩ := hrel
      clear HO bL
      have hlt : k = 0 ∨ k = 1 ∨ k = 2 ∨ k = 3 ∨ k = 4 ∨ k = 5 := by omega
      clear hk
      have HOk : Hid (wr.ownsRow gm 25 2 (.slice (some ⟨gk, 0, none⟩) Lk.length ck) Lk.length (flat Lk)) := hok
      clear hok
      have HSub : Hid (Lk.Sublist ([(⟨pc, n, cc, qc, m, dc, R, W⟩ : PR), (⟨px1, nx1, cx1, qx1, mx1, dx1, A1, V1⟩ : PR), (⟨px2, nx2, cx2, qx2, mx2, dx2, A2, V2⟩ : PR), (⟨px3, nx3, cx3, qx3, mx3, dx3, A3, V3⟩ : PR), (⟨px4, nx4, cx4, qx4, mx4, dx4, A4, V4⟩ : PR), (⟨px5, nx5, cx5, qx5, mx5, dx5, A5, V5⟩ : PR)].take (k + 1))) := hsub
      clear hsub
      have hLn : Lk.length ≤ 6 := by omega
      have HGk : Hid (gm ≤ gk ∧ gk ≠ gL ∧ Lk.length ≤ k + 1) := hgk
      clear hgk
      obtain ⟨Ln, hLe⟩ : ∃ Ln : Nat, Lk.length = Ln := ⟨_, rfl⟩
      have HLe : Hid (Lk.length = Ln) := hLe
      rw [hLe] at HOk HGk hLn ⊢
      clear hLe
      rcases hlt with rfl | rfl | rfl | rfl | rfl | rfl
      · have c0 := bk.cell' (i := 0) rfl
        have c1 := bk.cell' (i := 1) rfl
        by_cases hE : E1 = 0
        · have HEq : Hid (E1 = 0) := hE
          have hEb : (E1 == 0) = true := by simpa using hE
          clear hE
          go_upto_region 14 with (fail)
          clear c0 c1
          have b22 := (Blk.new' wr 25 #[.slice px1 nx1 cx1, .slice qx1 mx1 dx1]).alloc (.cells #[.int .i64 E1, .int .i64 E2, .int .i64 E3, .int .i64 E4, .int .i64 E5] 28)
          have hal := bt (below_alloc wr (.cells #[.slice px1 nx1 cx1, .slice qx1 mx1 dx1] 25)) (below_alloc _ (.cells #[.int .i64 E1, .int .i64 E2, .int .i64 E3, .int .i64 E4, .int .i64 E5] 28))
          have hbk2 := hbk.trans (hal.mono (by have := bk.lt; have := HgL2.out; omega))
          replace bk := bk.kept hal
          have HOk2 : Hid (World.ownsRow _ gm 25 2 (.slice (some ⟨gk, 0, none⟩) Ln ck) Ln (flat Lk)) := owns_below HOk.out hal
          clear hal hbk HOk
          generalize hVV : (wr.alloc (.cells #[.slice px1 nx1 cx1, .slice qx1 mx1 dx1] 25)).alloc (.cells #[.int .i64 E1, .int .i64 E2, .int .i64 E3, .int .i64 E4, .int .i64 E5] 28) = w2 at *
          clear hVV
          generalize wr.heap.size = g22 at *
          have c0 := b22.cell' (i := 0) rfl
          have c1 := b22.cell' (i := 1) rfl
          go_wp2_with (at_builtin; refine wpList_append_own_at _ rfl (.tmp 92) (.tmp 94) 58 rfl gm 25 i0 _ 2 48 Try.underlying58 HI0.out.1 HI0.out.2.1 HI0.out.2.2.1 HI0.out.2.2.2 rfl (by decide) (.slice (some ⟨gk, 0, none⟩) Ln ck) Ln (flat Lk) rfl (owns_below HOk2.out (below_alloc _ _)) ⟨w2.heap.size, 0, none⟩ 1 1 [.slice px1 nx1 cx1, .slice qx1 mx1 dx1] rfl rfl (fun j u h => by rw [addr_add, Nat.zero_add]; exact (Blk.new' w2 25 #[.slice px1 nx1 cx1, .slice qx1 mx1 dx1]).cell' h) one2 (by unfold maxLen; omega) (by omega) (by have := bk.lt; have := HgL2.out; simp; omega) ?_; intro z1 w3 hown3 hgrow3 _ hat3; obtain ⟨g3, c3, rfl, hg3, hg3'⟩ := owns_shape hown3 (by omega))
          go_roundw
          case rel =>
            have hlen : (Lk ++ [(⟨px1, nx1, cx1, qx1, mx1, dx1, A1, V1⟩ : PR)]).length = Ln + 1 := by rw [List.length_append, HLe.out]; rfl
            have hgk := HGk.out
            have hbl := bk.lt
            have hgl2 := HgL2.out
            have hat4 : g3 = gk ∨ g3 = (w2.alloc (.cells #[.slice px1 nx1 cx1, .slice qx1 mx1 dx1] 25)).heap.size := by simpa only [Value.ownBlock, Option.some.injEq] using hat3
            rw [World.size_alloc] at hat4
            refine ⟨1, Lk ++ [⟨px1, nx1, cx1, qx1, mx1, dx1, A1, V1⟩], g3, c3, by omega, rfl, by rw [hlen], by rw [hlen, flat_append]; exact hown3, ⟨hg3, by omega, by rw [hlen]; omega⟩, HSub.out.append (List.Sublist.refl [_]), ?_, ?_, ?_⟩
            · intro x hx
              rcases List.mem_append.1 hx with h | h
              · exact hgd x h
              · rw [List.mem_singleton.1 h]; exact HG1.out HEq.out
            · exact (hbk2.trans ((below_alloc w2 _).mono (by omega))).grown hgrow3 (by rw [World.size_alloc]; omega) (fun k hk => by simp only [Value.ownBlock, Option.some.injEq] at hk; omega)
            · exact (hgrow3.block gL (by rw [World.size_alloc]; omega) (fun e => by simp only [Value.ownBlock, Option.some.injEq] at e; omega)).trans (bk.alloc _)
          case measure => simp [intOf]
        · have hEb : (E1 == 0) = false := by simpa using hE
          clear hE
          go_wp2_with (fail)
          go_roundw
          case rel =>
            have hal := bt (below_alloc wr (.cells #[.slice px1 nx1 cx1, .slice qx1 mx1 dx1] 25)) (below_alloc _ (.cells #[.int .i64 E1, .int .i64 E2, .int .i64 E3, .int .i64 E4, .int .i64 E5] 28))
            have hgk := HGk.out
            exact ⟨1, Lk, gk, ck, by omega, rfl, by rw [HLe.out], by rw [HLe.out]; exact owns_below HOk.out hal, ⟨hgk.1, hgk.2.1, by rw [HLe.out]; omega⟩, HSub.out.trans (List.sublist_append_left _ [(⟨px1, nx1, cx1, qx1, mx1, dx1, A1, V1⟩ : PR)]), hgd, hbk.trans (hal.mono (by have := bk.lt; have := HgL2.out; omega)), bk.kept hal⟩
          case measure => simp [intOf]
      · have c0 := bk.cell' (i := 2) rfl
        have c1 := bk.cell' (i := 3) rfl
        by_cases hE : E2 = 0
        · have HEq : Hid (E2 = 0) := hE
          have hEb : (E2 == 0) = true := by simpa using hE
          clear hE
          go_upto_region 14 with (fail)
          clear c0 c1
          have b22 := (Blk.new' wr 25 #[.slice px2 nx2 cx2, .slice qx2 mx2 dx2]).alloc (.cells #[.int .i64 E1, .int .i64 E2, .int .i64 E3, .int .i64 E4, .int .i64 E5] 28)
          have hal := bt (below_alloc wr (.cells #[.slice px2 nx2 cx2, .slice qx2 mx2 dx2] 25)) (below_alloc _ (.cells #[.int .i64 E1, .int .i64 E2, .int .i64 E3, .int .i64 E4, .int .i64 E5] 28))
          have hbk2 := hbk.trans (hal.mono (by have := bk.lt; have := HgL2.out; omega))
          replace bk := bk.kept hal
          have HOk2 : Hid (World.ownsRow _ gm 25 2 (.slice (some ⟨gk, 0, none⟩) Ln ck) Ln (flat Lk)) := owns_below HOk.out hal
          clear hal hbk HOk
          generalize hVV : (wr.alloc (.cells #[.slice px2 nx2 cx2, .slice qx2 mx2 dx2] 25)).alloc (.cells #[.int .i64 E1, .int .i64 E2, .int .i64 E3, .int .i64 E4, .int .i64 E5] 28) = w2 at *
          clear hVV
          generalize wr.heap.size = g22 at *
          have c0 := b22.cell' (i := 0) rfl
          have c1 := b22.cell' (i := 1) rfl
          go_wp2_with (at_builtin; refine wpList_append_own_at _ rfl (.tmp 92) (.tmp 94) 58 rfl gm 25 i0 _ 2 48 Try.underlying58 HI0.out.1 HI0.out.2.1 HI0.out.2.2.1 HI0.out.2.2.2 rfl (by decide) (.slice (some ⟨gk, 0, none⟩) Ln ck) Ln (flat Lk) rfl (owns_below HOk2.out (below_alloc _ _)) ⟨w2.heap.size, 0, none⟩ 1 1 [.slice px2 nx2 cx2, .slice qx2 mx2 dx2] rfl rfl (fun j u h => by rw [addr_add, Nat.zero_add]; exact (Blk.new' w2 25 #[.slice px2 nx2 cx2, .slice qx2 mx2 dx2]).cell' h) one2 (by unfold maxLen; omega) (by omega) (by have := bk.lt; have := HgL2.out; simp; omega) ?_; intro z1 w3 hown3 hgrow3 _ hat3; obtain ⟨g3, c3, rfl, hg3, hg3'⟩ := owns_shape hown3 (by omega))
          go_roundw
          case rel =>
            have hlen : (Lk ++ [(⟨px2, nx2, cx2, qx2, mx2, dx2, A2, V2⟩ : PR)]).length = Ln + 1 := by rw [List.length_append, HLe.out]; rfl
            have hgk := HGk.out
            have hbl := bk.lt
            have hgl2 := HgL2.out
            have hat4 : g3 = gk ∨ g3 = (w2.alloc (.cells #[.slice px2 nx2 cx2, .slice qx2 mx2 dx2] 25)).heap.size := by simpa only [Value.ownBlock, Option.some.injEq] using hat3
            rw [World.size_alloc] at hat4
            refine ⟨2, Lk ++ [⟨px2, nx2, cx2, qx2, mx2, dx2, A2, V2⟩], g3, c3, by omega, rfl, by rw [hlen], by rw [hlen, flat_append]; exact hown3, ⟨hg3, by omega, by rw [hlen]; omega⟩, HSub.out.append (List.Sublist.refl [_]), ?_, ?_, ?_⟩
            · intro x hx
              rcases List.mem_append.1 hx with h | h
              · exact hgd x h
              · rw [List.mem_singleton.1 h]; exact HG2.out HEq.out
            · exact (hbk2.trans ((below_alloc w2 _).mono (by omega))).grown hgrow3 (by rw [World.size_alloc]; omega) (fun k hk => by simp only [Value.ownBlock, Option.some.injEq] at hk; omega)
            · exact (hgrow3.block gL (by rw [World.size_alloc]; omega) (fun e => by simp only [Value.ownBlock, Option.some.injEq] at e; omega)).trans (bk.alloc _)
          case measure => simp [intOf]
        · have hEb : (E2 == 0) = false := by simpa using hE
          clear hE
          go_wp2_with (fail)
          go_roundw
          case rel =>
            have hal := bt (below_alloc wr (.cells #[.slice px2 nx2 cx2, .slice qx2 mx2 dx2] 25)) (below_alloc _ (.cells #[.int .i64 E1, .int .i64 E2, .int .i64 E3, .int .i64 E4, .int .i64 E5] 28))
            have hgk := HGk.out
            exact ⟨2, Lk, gk, ck, by omega, rfl, by rw [HLe.out], by rw [HLe.out]; exact owns_below HOk.out hal, ⟨hgk.1, hgk.2.1, by rw [HLe.out]; omega⟩, HSub.out.trans (List.sublist_append_left _ [(⟨px2, nx2, cx2, qx2, mx2, dx2, A2, V2⟩ : PR)]), hgd, hbk.trans (hal.mono (by have := bk.lt; have := HgL2.out; omega)), bk.kept hal⟩
          case measure => simp [intOf]
      · have c0 := bk.cell' (i := 4) rfl
        have c1 := bk.cell' (i := 5) rfl
        by_cases hE : E3 = 0
        · have HEq : Hid (E3 = 0) := hE
          have hEb : (E3 == 0) = true := by simpa using hE
          clear hE
          go_upto_region 14 with (fail)
          clear c0 c1
          have b22 := (Blk.new' wr 25 #[.slice px3 nx3 cx3, .slice qx3 mx3 dx3]).alloc (.cells #[.int .i64 E1, .int .i64 E2, .int .i64 E3, .int .i64 E4, .int .i64 E5] 28)
          have hal := bt (below_alloc wr (.cells #[.slice px3 nx3 cx3, .slice qx3 mx3 dx3] 25)) (below_alloc _ (.cells #[.int .i64 E1, .int .i64 E2, .int .i64 E3, .int .i64 E4, .int .i64 E5] 28))
          have hbk2 := hbk.trans (hal.mono (by have := bk.lt; have := HgL2.out; omega))
          replace bk := bk.kept hal
          have HOk2 : Hid (World.ownsRow _ gm 25 2 (.slice (some ⟨gk, 0, none⟩) Ln ck) Ln (flat Lk)) := owns_below HOk.out hal
          clear hal hbk HOk
          generalize hVV : (wr.alloc (.cells #[.slice px3 nx3 cx3, .slice qx3 mx3 dx3] 25)).alloc (.cells #[.int .i64 E1, .int .i64 E2, .int .i64 E3, .int .i64 E4, .int .i64 E5] 28) = w2 at *
          clear hVV
          generalize wr.heap.size = g22 at *
          have c0 := b22.cell' (i := 0) rfl
          have c1 := b22.cell' (i := 1) rfl
          go_wp2_with (at_builtin; refine wpList_append_own_at _ rfl (.tmp 92) (.tmp 94) 58 rfl gm 25 i0 _ 2 48 Try.underlying58 HI0.out.1 HI0.out.2.1 HI0.out.2.2.1 HI0.out.2.2.2 rfl (by decide) (.slice (some ⟨gk, 0, none⟩) Ln ck) Ln (flat Lk) rfl (owns_below HOk2.out (below_alloc _ _)) ⟨w2.heap.size, 0, none⟩ 1 1 [.slice px3 nx3 cx3, .slice qx3 mx3 dx3] rfl rfl (fun j u h => by rw [addr_add, Nat.zero_add]; exact (Blk.new' w2 25 #[.slice px3 nx3 cx3, .slice qx3 mx3 dx3]).cell' h) one2 (by unfold maxLen; omega) (by omega) (by have := bk.lt; have := HgL2.out; simp; omega) ?_; intro z1 w3 hown3 hgrow3 _ hat3; obtain ⟨g3, c3, rfl, hg3, hg3'⟩ := owns_shape hown3 (by omega))
          go_roundw
          case rel =>
            have hlen : (Lk ++ [(⟨px3, nx3, cx3, qx3, mx3, dx3, A3, V3⟩ : PR)]).length = Ln + 1 := by rw [List.length_append, HLe.out]; rfl
            have hgk := HGk.out
            have hbl := bk.lt
            have hgl2 := HgL2.out
            have hat4 : g3 = gk ∨ g3 = (w2.alloc (.cells #[.slice px3 nx3 cx3, .slice qx3 mx3 dx3] 25)).heap.size := by simpa only [Value.ownBlock, Option.some.injEq] using hat3
            rw [World.size_alloc] at hat4
            refine ⟨3, Lk ++ [⟨px3, nx3, cx3, qx3, mx3, dx3, A3, V3⟩], g3, c3, by omega, rfl, by rw [hlen], by rw [hlen, flat_append]; exact hown3, ⟨hg3, by omega, by rw [hlen]; omega⟩, HSub.out.append (List.Sublist.refl [_]), ?_, ?_, ?_⟩
            · intro x hx
              rcases List.mem_append.1 hx with h | h
              · exact hgd x h
              · rw [List.mem_singleton.1 h]; exact HG3.out HEq.out
            · exact (hbk2.trans ((below_alloc w2 _).mono (by omega))).grown hgrow3 (by rw [World.size_alloc]; omega) (fun k hk => by simp only [Value.ownBlock, Option.some.injEq] at hk; omega)
            · exact (hgrow3.block gL (by rw [World.size_alloc]; omega) (fun e => by simp only [Value.ownBlock, Option.some.injEq] at e; omega)).trans (bk.alloc _)
          case measure => simp [intOf]
        · have hEb : (E3 == 0) = false := by simpa using hE
          clear hE
          go_wp2_with (fail)
          go_roundw
          case rel =>
            have hal := bt (below_alloc wr (.cells #[.slice px3 nx3 cx3, .slice qx3 mx3 dx3] 25)) (below_alloc _ (.cells #[.int .i64 E1, .int .i64 E2, .int .i64 E3, .int .i64 E4, .int .i64 E5] 28))
            have hgk := HGk.out
            exact ⟨3, Lk, gk, ck, by omega, rfl, by rw [HLe.out], by rw [HLe.out]; exact owns_below HOk.out hal, ⟨hgk.1, hgk.2.1, by rw [HLe.out]; omega⟩, HSub.out.trans (List.sublist_append_left _ [(⟨px3, nx3, cx3, qx3, mx3, dx3, A3, V3⟩ : PR)]), hgd, hbk.trans (hal.mono (by have := bk.lt; have := HgL2.out; omega)), bk.kept hal⟩
          case measure => simp [intOf]
      · have c0 := bk.cell' (i := 6) rfl
        have c1 := bk.cell' (i := 7) rfl
        by_cases hE : E4 = 0
        · have HEq : Hid (E4 = 0) := hE
          have hEb : (E4 == 0) = true := by simpa using hE
          clear hE
          go_upto_region 14 with (fail)
          clear c0 c1
          have b22 := (Blk.new' wr 25 #[.slice px4 nx4 cx4, .slice qx4 mx4 dx4]).alloc (.cells #[.int .i64 E1, .int .i64 E2, .int .i64 E3, .int .i64 E4, .int .i64 E5] 28)
          have hal := bt (below_alloc wr (.cells #[.slice px4 nx4 cx4, .slice qx4 mx4 dx4] 25)) (below_alloc _ (.cells #[.int .i64 E1, .int .i64 E2, .int .i64 E3, .int .i64 E4, .int .i64 E5] 28))
          have hbk2 := hbk.trans (hal.mono (by have := bk.lt; have := HgL2.out; omega))
          replace bk := bk.kept hal
          have HOk2 : Hid (World.ownsRow _ gm 25 2 (.slice (some ⟨gk, 0, none⟩) Ln ck) Ln (flat Lk)) := owns_below HOk.out hal
          clear hal hbk HOk
          generalize hVV : (wr.alloc (.cells #[.slice px4 nx4 cx4, .slice qx4 mx4 dx4] 25)).alloc (.cells #[.int .i64 E1, .int .i64 E2, .int .i64 E3, .int .i64 E4, .int .i64 E5] 28) = w2 at *
          clear hVV
          generalize wr.heap.size = g22 at *
          have c0 := b22.cell' (i := 0) rfl
          have c1 := b22.cell' (i := 1) rfl
          go_wp2_with (at_builtin; refine wpList_append_own_at _ rfl (.tmp 92) (.tmp 94) 58 rfl gm 25 i0 _ 2 48 Try.underlying58 HI0.out.1 HI0.out.2.1 HI0.out.2.2.1 HI0.out.2.2.2 rfl (by decide) (.slice (some ⟨gk, 0, none⟩) Ln ck) Ln (flat Lk) rfl (owns_below HOk2.out (below_alloc _ _)) ⟨w2.heap.size, 0, none⟩ 1 1 [.slice px4 nx4 cx4, .slice qx4 mx4 dx4] rfl rfl (fun j u h => by rw [addr_add, Nat.zero_add]; exact (Blk.new' w2 25 #[.slice px4 nx4 cx4, .slice qx4 mx4 dx4]).cell' h) one2 (by unfold maxLen; omega) (by omega) (by have := bk.lt; have := HgL2.out; simp; omega) ?_; intro z1 w3 hown3 hgrow3 _ hat3; obtain ⟨g3, c3, rfl, hg3, hg3'⟩ := owns_shape hown3 (by omega))
          go_roundw
          case rel =>
            have hlen : (Lk ++ [(⟨px4, nx4, cx4, qx4, mx4, dx4, A4, V4⟩ : PR)]).length = Ln + 1 := by rw [List.length_append, HLe.out]; rfl
            have hgk := HGk.out
            have hbl := bk.lt
            have hgl2 := HgL2.out
            have hat4 : g3 = gk ∨ g3 = (w2.alloc (.cells #[.slice px4 nx4 cx4, .slice qx4 mx4 dx4] 25)).heap.size := by simpa only [Value.ownBlock, Option.some.injEq] using hat3
            rw [World.size_alloc] at hat4
            refine ⟨4, Lk ++ [⟨px4, nx4, cx4, qx4, mx4, dx4, A4, V4⟩], g3, c3, by omega, rfl, by rw [hlen], by rw [hlen, flat_append]; exact hown3, ⟨hg3, by omega, by rw [hlen]; omega⟩, HSub.out.append (List.Sublist.refl [_]), ?_, ?_, ?_⟩
            · intro x hx
              rcases List.mem_append.1 hx with h | h
              · exact hgd x h
              · rw [List.mem_singleton.1 h]; exact HG44.out HEq.out
            · exact (hbk2.trans ((below_alloc w2 _).mono (by omega))).grown hgrow3 (by rw [World.size_alloc]; omega) (fun k hk => by simp only [Value.ownBlock, Option.some.injEq] at hk; omega)
            · exact (hgrow3.block gL (by rw [World.size_alloc]; omega) (fun e => by simp only [Value.ownBlock, Option.some.injEq] at e; omega)).trans (bk.alloc _)
          case measure => simp [intOf]
        · have hEb : (E4 == 0) = false := by simpa using hE
          clear hE
          go_wp2_with (fail)
          go_roundw
          case rel =>
            have hal := bt (below_alloc wr (.cells #[.slice px4 nx4 cx4, .slice qx4 mx4 dx4] 25)) (below_alloc _ (.cells #[.int .i64 E1, .int .i64 E2, .int .i64 E3, .int .i64 E4, .int .i64 E5] 28))
            have hgk := HGk.out
            exact ⟨4, Lk, gk, ck, by omega, rfl, by rw [HLe.out], by rw [HLe.out]; exact owns_below HOk.out hal, ⟨hgk.1, hgk.2.1, by rw [HLe.out]; omega⟩, HSub.out.trans (List.sublist_append_left _ [(⟨px4, nx4, cx4, qx4, mx4, dx4, A4, V4⟩ : PR)]), hgd, hbk.trans (hal.mono (by have := bk.lt; have := HgL2.out; omega)), bk.kept hal⟩
          case measure => simp [intOf]
      · have c0 := bk.cell' (i := 8) rfl
        have c1 := bk.cell' (i := 9) rfl
        by_cases hE : E5 = 0
        · have HEq : Hid (E5 = 0) := hE
          have hEb : (E5 == 0) = true := by simpa using hE
          clear hE
          go_upto_region 14 with (fail)
          clear c0 c1
          have b22 := (Blk.new' wr 25 #[.slice px5 nx5 cx5, .slice qx5 mx5 dx5]).alloc (.cells #[.int .i64 E1, .int .i64 E2, .int .i64 E3, .int .i64 E4, .int .i64 E5] 28)
          have hal := bt (below_alloc wr (.cells #[.slice px5 nx5 cx5, .slice qx5 mx5 dx5] 25)) (below_alloc _ (.cells #[.int .i64 E1, .int .i64 E2, .int .i64 E3, .int .i64 E4, .int .i64 E5] 28))
          have hbk2 := hbk.trans (hal.mono (by have := bk.lt; have := HgL2.out; omega))
          replace bk := bk.kept hal
          have HOk2 : Hid (World.ownsRow _ gm 25 2 (.slice (some ⟨gk, 0, none⟩) Ln ck) Ln (flat Lk)) := owns_below HOk.out hal
          clear hal hbk HOk
          generalize hVV : (wr.alloc (.cells #[.slice px5 nx5 cx5, .slice qx5 mx5 dx5] 25)).alloc (.cells #[.int .i64 E1, .int .i64 E2, .int .i64 E3, .int .i64 E4, .int .i64 E5] 28) = w2 at *
          clear hVV
          generalize wr.heap.size = g22 at *
          have c0 := b22.cell' (i := 0) rfl
          have c1 := b22.cell' (i := 1) rfl
          go_wp2_with (at_builtin; refine wpList_append_own_at _ rfl (.tmp 92) (.tmp 94) 58 rfl gm 25 i0 _ 2 48 Try.underlying58 HI0.out.1 HI0.out.2.1 HI0.out.2.2.1 HI0.out.2.2.2 rfl (by decide) (.slice (some ⟨gk, 0, none⟩) Ln ck) Ln (flat Lk) rfl (owns_below HOk2.out (below_alloc _ _)) ⟨w2.heap.size, 0, none⟩ 1 1 [.slice px5 nx5 cx5, .slice qx5 mx5 dx5] rfl rfl (fun j u h => by rw [addr_add, Nat.zero_add]; exact (Blk.new' w2 25 #[.slice px5 nx5 cx5, .slice qx5 mx5 dx5]).cell' h) one2 (by unfold maxLen; omega) (by omega) (by have := bk.lt; have := HgL2.out; simp; omega) ?_; intro z1 w3 hown3 hgrow3 _ hat3; obtain ⟨g3, c3, rfl, hg3, hg3'⟩ := owns_shape hown3 (by omega))
          go_roundw
          case rel =>
            have hlen : (Lk ++ [(⟨px5, nx5, cx5, qx5, mx5, dx5, A5, V5⟩ : PR)]).length = Ln + 1 := by rw [List.length_append, HLe.out]; rfl
            have hgk := HGk.out
            have hbl := bk.lt
            have hgl2 := HgL2.out
            have hat4 : g3 = gk ∨ g3 = (w2.alloc (.cells #[.slice px5 nx5 cx5, .slice qx5 mx5 dx5] 25)).heap.size := by simpa only [Value.ownBlock, Option.some.injEq] using hat3
            rw [World.size_alloc] at hat4
            refine ⟨5, Lk ++ [⟨px5, nx5, cx5, qx5, mx5, dx5, A5, V5⟩], g3, c3, by omega, rfl, by rw [hlen], by rw [hlen, flat_append]; exact hown3, ⟨hg3, by omega, by rw [hlen]; omega⟩, HSub.out.append (List.Sublist.refl [_]), ?_, ?_, ?_⟩
            · intro x hx
              rcases List.mem_append.1 hx with h | h
              · exact hgd x h
              · rw [List.mem_singleton.1 h]; exact HG5.out HEq.out
            · exact (hbk2.trans ((below_alloc w2 _).mono (by omega))).grown hgrow3 (by rw [World.size_alloc]; omega) (fun k hk => by simp only [Value.ownBlock, Option.some.injEq] at hk; omega)
            · exact (hgrow3.block gL (by rw [World.size_alloc]; omega) (fun e => by simp only [Value.ownBlock, Option.some.injEq] at e; omega)).trans (bk.alloc _)
          case measure => simp [intOf]
        · have hEb : (E5 == 0) = false := by simpa using hE
          clear hE
          go_wp2_with (fail)
          go_roundw
          case rel =>
            have hal := bt (below_alloc wr (.cells #[.slice px5 nx5 cx5, .slice qx5 mx5 dx5] 25)) (below_alloc _ (.cells #[.int .i64 E1, .int .i64 E2, .int .i64 E3, .int .i64 E4, .int .i64 E5] 28))
            have hgk := HGk.out
            exact ⟨5, Lk, gk, ck, by omega, rfl, by rw [HLe.out], by rw [HLe.out]; exact owns_below HOk.out hal, ⟨hgk.1, hgk.2.1, by rw [HLe.out]; omega⟩, HSub.out.trans (List.sublist_append_left _ [(⟨px5, nx5, cx5, qx5, mx5, dx5, A5, V5⟩ : PR)]), hgd, hbk.trans (hal.mono (by have := bk.lt; have := HgL2.out; omega)), bk.kept hal⟩
          case measure => simp [intOf]
      · skip
        have hsw := HSw.out
        have hgl := HgL2.out
        have hgk := HGk.out
        have HP : Hid (Lk.Pairwise Apart) := HPw.out.sublist HSub.out
        have HIn : Hid (∀ x ∈ Lk, x.In w.heap.size wr) := fun x hx => NewP.under (HI.out x (HSub.out.subset hx)) (HSp.out x (HSub.out.subset hx)) (Nat.le_refl _) hbk
        replace hw := hw.under hsw.1 (Nat.le_of_lt hsw.2.1) hbk
        replace b4 := b4.below hbk hsw.2.2
        replace b9 := b9.below hbk hsw.2.1
        replace hB := hB.trans (hbk.mono (Nat.le_of_lt hsw.2.2))
        have HGd : Hid (∀ x ∈ Lk, Good w.heap.size g9 gm pw qw R x) := hgd
        have HGm : Hid (gm ≤ gk) := hgk.1
        clear hsw hgl hgk hgd hbk bk HI HSp HPw HSub HSw HgL2 HGk HG0 HG1 HG2 HG3 HG44 HG5 HI0
        go_wp2_with fail
        go_loopw [99] (fun i wr => ∃ k : Nat, k ≤ Ln ∧ i = .int .i64 (k : Int) ∧ Below w.heap.size w wr ∧ Blk wr w.heap.size 25 [.slice p n c, .slice q m d] ∧ Blk wr g9 25 [.slice pw n cw, .slice qw m dw] ∧ NewP w.heap.size wr pw n cw qw m dw R W ∧ wr.ownsRow gm 25 2 (.slice (some ⟨gk, 0, none⟩) Ln ck) Ln (flat Lk) ∧ ∀ (j : Nat) (x : PR), k ≤ j → Lk[j]? = some x → x.In w.heap.size wr) (fun i _ => Ln - (intOf i).toNat)
        case atStart => exact ⟨0, Nat.zero_le _, rfl, hB, b4, b9, hw, HOk.out, fun j x _ hx => HIn.out x (List.mem_of_getElem? hx)⟩
        case round =>
          obtain ⟨k, hk, rfl, hB2, e4, e9, hw2, hok2, hin⟩ := hrel
          clear hB b4 b9 hw HOk HIn
          by_cases hlt : k < Ln
          · have hlt1 : (k : Int) < (Ln : Int) := by omega
            obtain ⟨x, hx⟩ : ∃ x, Lk[k]? = some x := ⟨_, List.getElem?_eq_getElem (by rw [HLe.out]; exact hlt)⟩
            have hg := HGd.out x (List.mem_of_getElem? hx)
            have hnx := hin k x (Nat.le_refl _) hx
            have hrest : ∀ (j : Nat) (y : PR), k + 1 ≤ j → Lk[j]? = some y → y.In w.heap.size wr ∧ Apart x y := fun j y hj hy => ⟨hin j y (by omega) hy, pairwise_at HP.out hx hy (by omega)⟩
            have hrg := made_range hok2 hx
            clear hx hin
            obtain ⟨p2, n2, c2, q2, m2, d2, A2, X2⟩ := x
            obtain ⟨⟨hokx, hlen, hbad⟩, hfar⟩ := hg
            have hnx' : NewP w.heap.size wr p2 n2 c2 q2 m2 d2 A2 X2 := hnx
            clear hnx
            try dsimp only at hokx hlen hbad hfar
            have hn2 : n = n2 := by have h1 := hnx'.inR.len; have h2 := HL.out; omega
            subst hn2
            clear hlen
            obtain ⟨gx, rfl, hgx1, hgx2⟩ := owns_at hnx'.r (by have := HN.out; omega)
            have hff := hfar ⟨gx, 0, none⟩ rfl
            have hf4 : w.heap.size ≠ gx := fun h => hff.1 h.symm
            have hf9 : g9 ≠ gx := fun h => hff.2.1 h.symm
            have hfw : FarP gx pw qw := hff.2.2.1
            have hfk : gk ≠ gx := by have h1 : gx < gm := hff.2.2.2; have h2 := HGm.out; omega
            clear hff hfar
            have hap : ∀ (j : Nat) (y : PR), k + 1 ≤ j → Lk[j]? = some y → y.In w.heap.size wr ∧ FarP gx y.p y.q := fun j y hj hy => ⟨(hrest j y hj hy).1, (hrest j y hj hy).2 ⟨gx, 0, none⟩ rfl⟩
            clear hrest
            have HCx : Hid (checkE A2 X2 = 0) := checkE_ok hokx
            clear hokx
            replace hrg : wr.rangeAt gk (k * 2) [.slice (some ⟨gx, 0, none⟩) n c2, .slice q2 m2 d2] := hrg
            go_upto_region 19 with (refine wpList_load_mid rfl 25 (.tmp 101) rfl gk (k * 2) rfl [.slice (some ⟨gx, 0, none⟩) n c2, .slice q2 m2 d2] _ hrg Try.underlying25 rfl (poolSize _ _) ?_)
            clear hrg
            have b24 := Blk.new' wr 25 #[.slice (some ⟨gx, 0, none⟩) n c2, .slice q2 m2 d2]
            have hal := below_alloc wr (.cells #[.slice (some ⟨gx, 0, none⟩) n c2, .slice q2 m2 d2] 25)
            have hg24 : wr.heap.size ≠ gx := by omega
            have HAp : Hid (∀ (j : Nat) (y : PR), k + 1 ≤ j → Lk[j]? = some y → y.In w.heap.size _ ∧ FarP gx y.p y.q) := fun j y hj hy => ⟨NewP.next (hap j y hj hy).1 hal, (hap j y hj hy).2⟩
            clear hap
            replace hB2 := bt hB2 hal
            replace e4 := e4.kept hal
            replace e9 := e9.kept hal
            replace hw2 := hw2.next hal
            replace hok2 := owns_below hok2 hal
            replace hnx' := hnx'.next hal
            clear hal hgx2
            generalize hVV : wr.alloc (.cells #[.slice (some ⟨gx, 0, none⟩) n c2, .slice q2 m2 d2] 25) = w3 at *
            clear hVV
            generalize wr.heap.size = g24 at *
            have c0 := b24.cell' (i := 0) rfl
            have c1 := b24.cell' (i := 1) rfl
            have HX : Hid (NewP w.heap.size w3 (some ⟨gx, 0, none⟩) n c2 q2 m2 d2 A2 X2) := hnx'
            clear hnx'
            have HOk2 : Hid (w3.ownsRow gm 25 2 (.slice (some ⟨gk, 0, none⟩) Ln ck) Ln (flat Lk)) := hok2
            clear hok2
            go_wp2_with (go_at_call 14; refine (check_any _ _ _ _ _ _ A2 X2 _ HX.out.inR HX.out.inW).mono ?_; rintro e w4 ⟨rfl, hb4⟩; rw [HCx.out]; have b24' := b24.kept hb4; have z0 := b24'.cell' (i := 0) rfl; have e9' := e9.kept hb4; have y0 := e9'.cell' (i := 0) rfl)
            replace hB2 := bt hB2 hb4
            replace e4 := e4.kept hb4
            replace hw2 := hw2.next hb4
            replace HOk2 : Hid (w4.ownsRow gm 25 2 (.slice (some ⟨gk, 0, none⟩) Ln ck) Ln (flat Lk)) := owns_below HOk2.out hb4
            have hA0 := (HX.out.next hb4).r
            replace HAp : Hid (∀ (j : Nat) (y : PR), k + 1 ≤ j → Lk[j]? = some y → y.In w.heap.size w4 ∧ FarP gx y.p y.q) := fun j y hj hy => ⟨NewP.next (HAp.out j y hj hy).1 hb4, (HAp.out j y hj hy).2⟩
            clear c0 c1 z0 y0 hb4 HX HCx b24 e9
            go_loopw [118] (fun i w5 => ∃ (k' : Nat) (A' : List Int), k' ≤ n ∧ i = .int .i64 (k' : Int) ∧ w5.ownsRow w.heap.size 3 1 (.slice (some ⟨gx, 0, none⟩) n c2) n (valsI A') ∧ (∀ j, k' ≤ j → eI A' j = eI A2 j) ∧ Turned w4 w5 gx) (fun i _ => n - (intOf i).toNat)
            case atStart => exact ⟨0, A2, Nat.zero_le _, rfl, hA0, fun _ _ => rfl, Turned.refl _ _⟩
            case round =>
              obtain ⟨k2, A', hk2, rfl, hA, hsame, ht⟩ := hrel
              clear hA0
              have f9 := e9'.turned ht hf9
              have f24 := b24'.turned ht hg24
              by_cases hlt2 : k2 < n
              · have hlt3 : (k2 : Int) < (n : Int) := by omega
                have hk256 : (k2 : Int) ≤ 256 := by have := HN.out; omega
                have hw5 := hw2.turned ht hfw
                obtain ⟨gw, hpw, _, _⟩ := owns_at hw5.r (by omega)
                subst hpw
                have HAl : Hid (A'.length = n) := by have := hA.1; rw [valsI_length, Nat.mul_one] at this; exact this
                have r0 := hw5.r.cellAt k2 (by omega)
                rw [valsI_get _ _ (by rw [HL.out]; exact hlt2)] at r0
                have x0 := hA.cellAt k2 (by omega)
                rw [valsI_get _ _ (by rw [HAl.out]; exact hlt2), hsame k2 (Nat.le_refl _)] at x0
                have HA : Hid (wr.ownsRow w.heap.size 3 1 (.slice (some ⟨gx, 0, none⟩) n c2) n (valsI A')) := hA
                clear hA hw5
                have z0 := f24.cell' (i := 0) rfl
                have y0 := f9.cell' (i := 0) rfl
                by_cases hs6 : eI R k2 = 6
                · have hs7 := hbad k2 hs6
                  rw [hs6] at r0
                  rw [hs7] at x0
                  clear hs6 hs7
                  go_wp2_with (refine wpList_store_own rfl 3 (.tmp 138) (.const (.int .i64 99)) rfl gx k2 99 rfl rfl HA.out hlt2 size3 ?_; intro w6 h6 ht6)
                  go_roundw
                  case rel => exact ⟨k2 + 1, A'.set k2 99, by omega, val_int (by omega), h6, fun j hj => by rw [eI_put (by rw [HAl.out]; exact hlt2), if_neg (by omega)]; exact hsame j (by omega), ht.trans ht6⟩
                  case measure => simp [intOf]; omega
                · have hs6b : (eI R k2 == 6) = false := by simpa using hs6
                  clear hs6
                  go_wp2_with (refine wpList_store_own rfl 3 (.tmp 138) (.const (.int .i64 99)) rfl gx k2 99 rfl rfl HA.out hlt2 size3 ?_; intro w6 h6 ht6)
                  go_roundw
                  case rel => exact ⟨k2 + 1, A'.set k2 99, by omega, val_int (by omega), h6, fun j hj => by rw [eI_put (by rw [HAl.out]; exact hlt2), if_neg (by omega)]; exact hsame j (by omega), ht.trans ht6⟩
                  case measure => simp [intOf]; omega
              · have hlt3 : ¬ (k2 : Int) < (n : Int) := by omega
                clear hA
                go_wp2_with (fail)
                go_roundw
                case rel => exact ⟨_, _, _, .int .i64 ((k : Int) + 1), ⟨k + 1, by omega, val_int (by omega), ht.below hB2 hgx1, e4.turned ht hf4, hw2.turned ht hfw, owns_turned HOk2.out ht (fun a e => by cases e; exact hfk), fun j y hj hy => NewP.turned (HAp.out j y hj hy).1 ht (HAp.out j y hj hy).2⟩, rfl, rfl, rfl, rfl⟩
                case measure => simp [intOf]; omega
          · have hlt1 : ¬ (k : Int) < (Ln : Int) := by omega
            clear hin hok2 HP HGd HGm HLe hlt
            have HSm : Hid (sameB R W R W = true) := sameB_self R W
            have hN := HN.out
            go_wp2_with fail
            refine wp_region_noPanic ?_
            refine wp_region_held_drew (S := Below wr.heap.size wr) (by kernel_rfl) (Below.refl _ _).drew (fun hHeld => ?_)
            refine wpAnyH_take (i := 0) (v := ?_) rfl (by kernel_rfl) (by kernel_rfl) (by kernel_rfl) (fun _ _ _ h => h) (Or.inl ⟨by kernel_rfl, ?_⟩) hHeld ?_
            rotate_left
            · intro w' hSw; try dsimp only at hSw
              have y4 := e4.kept hSw
              have z0 := y4.cell' (i := 0) rfl
              have z1 := y4.cell' (i := 1) rfl
              go_simp; try (with_reducible rfl)
            try simp only [Act.put, List.getElem_toArray, List.getElem_cons_succ, List.getElem_cons_zero, List.setIfInBounds_toArray, List.set_cons_zero, List.set_cons_succ]
            refine wpAnyH_take (i := 1) (v := ?_) rfl (by kernel_rfl) (by kernel_rfl) (by kernel_rfl) (fun _ _ _ h => h) (Or.inl ⟨by kernel_rfl, ?_⟩) hHeld ?_
            rotate_left
            · intro w' hSw; try dsimp only at hSw
              have y9 := e9.kept hSw
              have z0 := y9.cell' (i := 0) rfl
              have z1 := y9.cell' (i := 1) rfl
              go_simp; try (with_reducible rfl)
            try simp only [Act.put, List.getElem_toArray, List.getElem_cons_succ, List.getElem_cons_zero, List.setIfInBounds_toArray, List.set_cons_zero, List.set_cons_succ]
            refine wpAnyH_ready (rs := [2]) (by kernel_rfl) (by simp) ?_
            refine AllReadyH.cons rfl (fun K hK => ?_) AllReadyH.nil
            go_simp
            refine (rsame_any p q pw qw n c m d n cw m dw R W R W _ (hR.below (bt hB2 hHeld)) (hW.below (bt hB2 hHeld)) (hw2.next hHeld).inR (hw2.next hHeld).inW).mono ?_
            rintro e f2 ⟨rfl, hb2⟩
            rw [HSm.out]
            try go_wp2_with fail
            refine hK.out _ _ (bt hHeld hb2) (fun hHeld => ?_)
            clear hK K
            try simp only [Act.put, List.getElem_toArray, List.getElem_cons_succ, List.getElem_cons_zero, List.setIfInBounds_toArray, List.set_cons_zero, List.set_cons_succ]
            refine wpAnyH_take (i := 3) (v := ?_) rfl (by kernel_rfl) (by kernel_rfl) (by kernel_rfl) (fun _ _ _ h => h) (Or.inl ⟨by kernel_rfl, ?_⟩) hHeld ?_
            rotate_left
            · intro w' hSw; try dsimp only at hSw
              go_simp; try (with_reducible rfl)
            try simp only [Act.put, List.getElem_toArray, List.getElem_cons_succ, List.getElem_cons_zero, List.setIfInBounds_toArray, List.set_cons_zero, List.set_cons_succ]
            refine wpAnyH_take (i := 4) (v := ?_) rfl (by kernel_rfl) (by kernel_rfl) (by kernel_rfl) (fun _ _ _ h => h) (Or.inl ⟨by kernel_rfl, ?_⟩) hHeld ?_
            rotate_left
            · intro w' hSw; try dsimp only at hSw
              have y4 := e4.kept hSw
              have z0 := y4.cell' (i := 0) rfl
              have z1 := y4.cell' (i := 1) rfl
              go_simp; try (with_reducible rfl)
            try simp only [Act.put, List.getElem_toArray, List.getElem_cons_succ, List.getElem_cons_zero, List.setIfInBounds_toArray, List.set_cons_zero, List.set_cons_succ]
            refine wpAnyH_take (i := 5) (v := ?_) rfl (by kernel_rfl) (by kernel_rfl) (by kernel_rfl) (fun _ _ _ h => h) (Or.inl ⟨by kernel_rfl, ?_⟩) hHeld ?_
            rotate_left
            · intro w' hSw; try dsimp only at hSw
              have y9 := e9.kept hSw
              have z0 := y9.cell' (i := 0) rfl
              have z1 := y9.cell' (i := 1) rfl
              go_simp; try (with_reducible rfl)
            try simp only [Act.put, List.getElem_toArray, List.getElem_cons_succ, List.getElem_cons_zero, List.setIfInBounds_toArray, List.set_cons_zero, List.set_cons_succ]
            refine wpAnyH_ready (rs := [6]) (by kernel_rfl) (by simp) ?_
            refine AllReadyH.cons rfl (fun K hK => ?_) AllReadyH.nil
            go_simp
            refine (same_any p q pw qw n c m d n cw m dw R W R W _ (hR.below (bt hB2 hHeld)) (hW.below (bt hB2 hHeld)) (hw2.next hHeld).inR (hw2.next hHeld).inW).mono ?_
            rintro e f6 ⟨rfl, hb6⟩
            rw [HSm.out]
            try go_wp2_with fail
            refine hK.out _ _ (bt hHeld hb6) (fun hHeld => ?_)
            clear hK K
            try simp only [Act.put, List.getElem_toArray, List.getElem_cons_succ, List.getElem_cons_zero, List.setIfInBounds_toArray, List.set_cons_zero, List.set_cons_succ]
            refine wpAnyH_take (i := 7) (v := ?_) rfl (by kernel_rfl) (by kernel_rfl) (by kernel_rfl) (fun _ _ _ h => h) (Or.inl ⟨by kernel_rfl, ?_⟩) hHeld ?_
            rotate_left
            · intro w' hSw; try dsimp only at hSw
              go_simp; try (with_reducible rfl)
            try simp only [Act.put, List.getElem_toArray, List.getElem_cons_succ, List.getElem_cons_zero, List.setIfInBounds_toArray, List.set_cons_zero, List.set_cons_succ]
            refine wpAnyH_take (i := 8) (v := ?_) rfl (by kernel_rfl) (by kernel_rfl) (by kernel_rfl) (fun _ _ _ h => h) (Or.inl ⟨by kernel_rfl, ?_⟩) hHeld ?_
            rotate_left
            · intro w' hSw; try dsimp only at hSw
              go_simp; try (with_reducible rfl)
            try simp only [Act.put, List.getElem_toArray, List.getElem_cons_succ, List.getElem_cons_zero, List.setIfInBounds_toArray, List.set_cons_zero, List.set_cons_succ]
            refine wpAnyH_take (i := 9) (v := ?_) rfl (by kernel_rfl) (by kernel_rfl) (by kernel_rfl) (fun _ _ _ h => h) (Or.inl ⟨by kernel_rfl, ?_⟩) hHeld ?_
            rotate_left
            · intro w' hSw; try dsimp only at hSw
              have y4 := e4.kept hSw
              have z0 := y4.cell' (i := 0) rfl
              have z1 := y4.cell' (i := 1) rfl
              go_simp; try (with_reducible rfl)
            try simp only [Act.put, List.getElem_toArray, List.getElem_cons_succ, List.getElem_cons_zero, List.setIfInBounds_toArray, List.set_cons_zero, List.set_cons_succ]
            refine wpAnyH_take (i := 11) (v := ?_) rfl (by kernel_rfl) (by kernel_rfl) (by kernel_rfl) (fun _ _ _ h => h) (Or.inl ⟨by kernel_rfl, ?_⟩) hHeld ?_
            rotate_left
            · intro w' hSw; try dsimp only at hSw
              have y9 := e9.kept hSw
              have z0 := y9.cell' (i := 0) rfl
              have z1 := y9.cell' (i := 1) rfl
              go_simp; try (with_reducible rfl)
            try simp only [Act.put, List.getElem_toArray, List.getElem_cons_succ, List.getElem_cons_zero, List.setIfInBounds_toArray, List.set_cons_zero, List.set_cons_succ]
            refine wpAnyH_ready (rs := [10]) (by kernel_rfl) (by simp) ?_
            refine AllReadyH.cons rfl (fun K hK => ?_) AllReadyH.nil
            go_simp
            refine (clone_any p q n c m d R W _ (hR.below (bt hB2 hHeld)) (hW.below (bt hB2 hHeld)) (by omega) (by omega)).mono ?_
            rintro e f10 ⟨p8, c8, q8, d8, rfl, hnp8, hb10⟩
            try go_wp2_with fail
            refine hK.out _ _ (bt hHeld hb10) (fun hHeld => ?_)
            clear hK K
            try simp only [Act.put, List.getElem_toArray, List.getElem_cons_succ, List.getElem_cons_zero, List.setIfInBounds_toArray, List.set_cons_zero, List.set_cons_succ]
            refine wpAnyH_ready (rs := [12]) (by kernel_rfl) (by simp) ?_
            refine AllReadyH.cons rfl (fun K hK => ?_) AllReadyH.nil
            go_simp
            refine (rsame_any p8 q8 pw qw n c8 m d8 n cw m dw R W R W _ hnp8.inR hnp8.inW (hw2.next hHeld).inR (hw2.next hHeld).inW).mono ?_
            rintro e f12 ⟨rfl, hb12⟩
            rw [HSm.out]
            try go_wp2_with fail
            refine hK.out _ _ (bt hHeld hb12) (fun hHeld => ?_)
            clear hK K
            try simp only [Act.put, List.getElem_toArray, List.getElem_cons_succ, List.getElem_cons_zero, List.setIfInBounds_toArray, List.set_cons_zero, List.set_cons_succ]
            refine wpAnyH_take (i := 13) (v := ?_) rfl (by kernel_rfl) (by kernel_rfl) (by kernel_rfl) (fun _ _ _ h => h) (Or.inl ⟨by kernel_rfl, ?_⟩) hHeld ?_
            rotate_left
            · intro w' hSw; try dsimp only at hSw
              go_simp; try (with_reducible rfl)
            try simp only [Act.put, List.getElem_toArray, List.getElem_cons_succ, List.getElem_cons_zero, List.setIfInBounds_toArray, List.set_cons_zero, List.set_cons_succ]
            refine wpAnyH_take (i := 14) (v := ?_) rfl (by kernel_rfl) (by kernel_rfl) (by kernel_rfl) (fun _ _ _ h => h) (Or.inl ⟨by kernel_rfl, ?_⟩) hHeld ?_
            rotate_left
            · intro w' hSw; try dsimp only at hSw
              go_simp; try (with_reducible rfl)
            try simp only [Act.put, List.getElem_toArray, List.getElem_cons_succ, List.getElem_cons_zero, List.setIfInBounds_toArray, List.set_cons_zero, List.set_cons_succ]
            refine wpAnyH_done (by kernel_rfl) ?_ _
            refine NoPanic.normal ?_
            go_wp2_with fail
            go_ret
            exact ⟨rfl, bt hB2 hHeld⟩
set_option maxRecDepth 100000 in
theorem stays_lifted (os : Os) (started : os.Started) (H : Type) (enc : TypeId × Value → H) :
    ReturnsInHanded {} Try.checked os 6 .any (Rows.poolStaysSpec.pre6 enc Try.prog Try.f6 Rows.poolStaysRow.domain false) (Rows.poolStaysSpec.post enc Try.prog Try.f6 false true false false) := by
  refine returnsInHanded_of_change_sized (C := Try.checked) own started (by kernel_rfl) Try.func6
    (ChangeSpec.witness6 (enc := enc) (C := Try.checked) false ⟨#[], #[.agg #[.slice none 0 0, .slice none 0 0], .int .i64 0, .int .i64 0, .slice none 0 0], []⟩ 8 (by kernel_rfl) (by kernel_rfl) (by kernel_rfl) (by kernel_rfl)) ?_
  intro W base args ds gs before hval0 hW hcnd hsz0 _
  have hval : ∀ (j : Nat) t v, Try.f6.params[j]? = some t → args[j]? = some v → Value.okWide Try.prog W .any base t v := hval0
  have hsz : (DataW.weightsEach Try.prog (Try.f6.params.toList ++ Rows.poolStaysSpec.plain.varTypes Try.prog) (ds ++ gs)).all (· ≤ reachBytes) = true := hsz0
  have hW' := hW
  obtain ⟨p, q, hA0, hV, rfl, hfz, hnd⟩ := hW
  have hA : DataW.TrodAll enc Try.prog W 0 (fun _ => true) true Try.f6.params.toList args.toList ds p := hA0
  rw [Try.params6] at hA hval hsz
  obtain ⟨v0, vs0, d0, ds0, p0, q0, hargs, rfl, rfl, h0, r0⟩ := trodAll_cons hA
  obtain ⟨v1, vs1, d1, ds1, p1, q1, rfl, rfl, rfl, h1, r1⟩ := trodAll_cons r0
  obtain ⟨v2, vs2, d2, ds2, p2, q2, rfl, rfl, rfl, h2, r2⟩ := trodAll_cons r1
  obtain ⟨v3, vs3, d3, ds3, p3, q3, rfl, rfl, rfl, h3, r3⟩ := trodAll_cons r2
  obtain ⟨rfl, rfl, rfl⟩ := trodAll_nil r3
  obtain rfl : args = #[v0, v1, v2, v3] := by cases args; simp_all
  obtain ⟨rfl, rfl⟩ := trodVars_none hV
  have lt0 : ∀ x ∈ p0, x.block < W.heap.size := by obtain ⟨m, hm⟩ := h0; exact DataW.trod_lt m _ _ _ hm
  obtain ⟨ppa, pna, pca, pqa, pma, pda, pRa, pWa, hv0, hr0, hw0⟩ := openPool (hval 0 25 v0 rfl rfl) h0 hsz (j := 0) rfl rfl
  subst hv0
  obtain ⟨xb, rfl, rfl, rfl, wf1⟩ := open_int Try.underlying3 (hval 1 3 v1 rfl rfl) h1
  obtain ⟨xr, rfl, rfl, rfl, wf2⟩ := open_int Try.underlying3 (hval 2 3 v2 rfl rfl) h2
  have lt3 : ∀ x ∈ p3, x.block < W.heap.size := by obtain ⟨m, hm⟩ := h3; exact DataW.trod_lt m _ _ _ hm
  obtain ⟨spl, snl, scl, sxl, hv3, hr3⟩ := openI64s (okWide_slice Try.underlying23 (hval 3 23 v3 rfl rfl)) h3 hsz (j := 3) rfl rfl
  subst hv3
  clear hA0 hval0 hsz0
  refine (stays_walk ppa pqa spl pna pca pma pda snl scl pRa pWa sxl xb xr W hr0 hw0 hr3).mono fun e W' ⟨he, bel⟩ => ?_
  subst he
  exact ⟨_, rfl, _, _, _, [], _, [], hW', trodAll_mk1 (shut_bool Try.underlying4 _), (trodAll_cons_mk (Below.trod laidOut (by kernel_rfl) (of_decide_eq_true (by kernel_rfl)) h0 bel lt0) (trodAll_cons_mk (shut_int Try.underlying3 wf1) (trodAll_cons_mk (shut_int Try.underlying3 wf2) (trodAll_cons_mk (Below.trod laidOut (by kernel_rfl) (of_decide_eq_true (by kernel_rfl)) h3 bel lt3) trodAll_mk0)))), rfl, bel.frame _, fun h => by cases h⟩
theorem poolStays_holds : Rows.PoolStaysSaid :=
  OpenClaim.holds_of_wide 6 Try.f6 rfl rfl rfl rfl rfl rfl rfl ⟨rfl, rfl, rfl, rfl, rfl⟩ rfl rfl rfl rfl rfl (by kernel_rfl) Try.func6 (by kernel_rfl)
    (of_decide_eq_true (by kernel_rfl)) (by unfold Func.isWrapper; first | (rw [if_pos (by decide +kernel)]; kernel_rfl) | (rw [if_neg (by decide +kernel)]; exact ⟨rfl, rfl⟩))
    (fun os started H enc _ => stays_lifted os started H enc)
#print axioms poolStays_holds
end Go.Proofs.Ytigkfmdhmonjlaa
