/-
  For every pool p, block, role and row of wears l: the call of PoolChanges returns true (Take, Give, Erased, Retire and Wears answer as the document says, of whatever pool), and all arguments read afterwards as they read before. No condition.
-/
import Derived.Test.YtigkfmdhmonjlaaPoBegun
import Derived.Test.YtigkfmdhmonjlaaPoGive
import Derived.Test.YtigkfmdhmonjlaaPoErased
import Derived.Test.YtigkfmdhmonjlaaPoRetire
import Derived.Test.YtigkfmdhmonjlaaPoRTake
import Derived.Test.YtigkfmdhmonjlaaPoRGive
import Derived.Test.YtigkfmdhmonjlaaPoRErased
import Derived.Test.YtigkfmdhmonjlaaPoRRetire
import Derived.Test.YtigkfmdhmonjlaaPoRWears
import Derived.Test.YtigkfmdhmonjlaaPoLift
namespace Go.Proofs.Ytigkfmdhmonjlaa
open Go.ChangeShapes Go.WideShapes Go.ChangeAt Go.RowKit
set_option linter.unusedSimpArgs false in
set_option maxRecDepth 100000 in
set_option maxHeartbeats 4000000 in
theorem changes_walk (p q s : Option Addr) (n c m d r e : Nat) (R W l : List Int) (b role : Int) (w : World) (hR : InI w p n c R) (hW : InI w q m d W) (hl : InI w s r e l) :
    Calls Try.prog 4 #[.agg #[.slice p n c, .slice q m d], .int .i64 b, .int .i64 role, .slice s r e] w fun e w' => e = .returned (.bool true) ∧ Below w.heap.size w w' := by
  have hB := below_alloc w (.cells #[.slice p n c, .slice q m d] 25)
  have b4 := Blk.new' w 25 #[.slice p n c, .slice q m d]
  have s1 := fun W' (h1 : InI W' p n c R) (h2 : InI W' q m d W) => take_any p q n c m d R W b role W' h1 h2
  have t1 := fun W' (h1 : InI W' p n c R) (h2 : InI W' q m d W) => rtake_any p q n c m d R W b role W' h1 h2
  generalize takeS R W b role = S1 at *
  have s2 := fun W' (h1 : InI W' p n c R) (h2 : InI W' q m d W) => give_any p q n c m d R W b W' h1 h2
  have t2 := fun W' (h1 : InI W' p n c R) (h2 : InI W' q m d W) => rgive_any p q n c m d R W b W' h1 h2
  generalize giveS R W b = S2 at *
  have s3 := fun W' (h1 : InI W' p n c R) (h2 : InI W' q m d W) => erased_any p q n c m d R W b W' h1 h2
  have t3 := fun W' (h1 : InI W' p n c R) (h2 : InI W' q m d W) => rerased_any p q n c m d R W b W' h1 h2
  generalize erasedS R W b = S3 at *
  have s4 := fun W' (h1 : InI W' p n c R) (h2 : InI W' q m d W) => retire_any p q n c m d R W b W' h1 h2
  have t4 := fun W' (h1 : InI W' p n c R) (h2 : InI W' q m d W) => rretire_any p q n c m d R W b W' h1 h2
  generalize retireS R W b = S4 at *
  have s5 := fun W' (h1 : InI W' p n c R) (h2 : InI W' q m d W) (h3 : InI W' s r e l) => wears_any p q s n c m d r e R W l W' h1 h2 h3
  have t5 := fun W' (h1 : InI W' p n c R) (h2 : InI W' q m d W) (h3 : InI W' s r e l) => rwears_any p q s n c m d r e R W l W' h1 h2 h3
  generalize wearsS R W l = S5 at *
  obtain ⟨A1, V1, E1⟩ := S1
  obtain ⟨A2, V2, E2⟩ := S2
  obtain ⟨A3, V3, E3⟩ := S3
  obtain ⟨A4, V4, E4⟩ := S4
  obtain ⟨A5, V5, E5⟩ := S5
  have hE1 : (E1 != E1) = false := by simp
  have hE2 : (E2 != E2) = false := by simp
  have hE3 : (E3 != E3) = false := by simp
  have hE4 : (E4 != E4) = false := by simp
  have hE5 : (E5 == E5) = true := by simp
  have hSm1 := sameB_self A1 V1
  have hSm2 := sameB_self A2 V2
  have hSm3 := sameB_self A3 V3
  have hSm4 := sameB_self A4 V4
  have hSm5 := sameB_self A5 V5
  have HSm1 : Hid (sameB A1 V1 A1 V1 = true) := hSm1
  have HSm2 : Hid (sameB A2 V2 A2 V2 = true) := hSm2
  have HSm3 : Hid (sameB A3 V3 A3 V3 = true) := hSm3
  have HSm4 : Hid (sameB A4 V4 A4 V4 = true) := hSm4
  have HSm5 : Hid (sameB A5 V5 A5 V5 = true) := hSm5
  clear hSm1 hSm2 hSm3 hSm4 hSm5
  go_enter Try.func4, Try.ntmps4
  go_upto_region 3 with (go_at_call 13; refine (begun_any _).mono ?_; rintro e w1 ⟨rfl, hb1⟩)
  replace hB := bt hB hb1
  replace b4 := b4.kept hb1
  clear hb1
  have k0 := b4.cell' (i := 0) rfl
  have k1 := b4.cell' (i := 1) rfl
  go_upto_region 4 with (go_at_call 17; refine (s1 _ (hR.below hB) (hW.below hB)).mono ?_; rintro e u1 ⟨px1, nx1, cx1, qx1, mx1, dx1, rfl, hx, hbx⟩)
  clear k0 k1 s1
  have b9 := Blk.new' u1 25 #[.slice px1 nx1 cx1, .slice qx1 mx1 dx1]
  have h9lt : w.heap.size < u1.heap.size := Nat.lt_of_lt_of_le b4.lt hbx.size
  have hal := below_alloc u1 (.cells #[.slice px1 nx1 cx1, .slice qx1 mx1 dx1] 25)
  have hbv := bt hbx hal
  replace hB := bt hB hbv
  replace b4 := b4.kept hbv
  replace hx := hx.next hal
  clear hbx hal hbv
  generalize hV1 : u1.alloc (.cells #[.slice px1 nx1 cx1, .slice qx1 mx1 dx1] 25) = v1 at *
  clear hV1
  generalize u1.heap.size = g9 at *
  have k0 := b4.cell' (i := 0) rfl
  have k1 := b4.cell' (i := 1) rfl
  go_upto_region 5 with (go_at_call 18; refine (t1 _ (hR.below hB) (hW.below hB)).mono ?_; rintro e z1 ⟨py1, ny1, cy1, qy1, my1, dy1, rfl, hy, hby⟩)
  clear k0 k1 t1
  have b11 := Blk.new' z1 25 #[.slice py1 ny1 cy1, .slice qy1 my1 dy1]
  have h11lt : g9 < z1.heap.size := Nat.lt_of_lt_of_le b9.lt hby.size
  have hal := below_alloc z1 (.cells #[.slice py1 ny1 cy1, .slice qy1 my1 dy1] 25)
  have hbv := bt hby hal
  replace hB := bt hB hbv
  replace b4 := b4.kept hbv
  replace b9 := b9.kept hbv
  replace hx := hx.next hbv
  replace hy := hy.next hal
  clear hby hal hbv
  generalize hV1 : z1.alloc (.cells #[.slice py1 ny1 cy1, .slice qy1 my1 dy1] 25) = x1 at *
  clear hV1
  generalize z1.heap.size = g11 at *
  have k0 := b9.cell' (i := 0) rfl
  have k1 := b9.cell' (i := 1) rfl
  have k2 := b11.cell' (i := 0) rfl
  have k3 := b11.cell' (i := 1) rfl
  go_upto_region 7 with (go_at_call 16; refine (rsame_any _ _ _ _ _ _ _ _ _ _ _ _ A1 V1 A1 V1 _ hx.inR hx.inW hy.inR hy.inW).mono ?_; rintro e w2 ⟨rfl, hbs⟩; rw [HSm1.out])
  replace hB := bt hB hbs
  replace b4 := b4.kept hbs
  replace b9 := b9.kept hbs
  replace b11 := b11.kept hbs
  clear k0 k1 k2 k3 hbs hx hy hE1 HSm1
  have hg11lt := b11.lt
  have k0 := b4.cell' (i := 0) rfl
  have k1 := b4.cell' (i := 1) rfl
  go_upto_region 8 with (first
    | (go_at_call 19; refine (s2 _ (hR.below hB) (hW.below hB)).mono ?_; rintro e u2 ⟨px2, nx2, cx2, qx2, mx2, dx2, rfl, hx, hbx⟩)
    | (refine wpList_store_blk rfl 25 (.tmp 9) (.tmp 42) rfl _ _ [.slice px2 nx2 cx2, .slice qx2 mx2 dx2] rfl rfl (b9.kept hbx) (by simp) (poolSize _ _) one2 ?_; intro v2 h9 ht9; replace h9 : Blk v2 g9 25 [.slice px2 nx2 cx2, .slice qx2 mx2 dx2] := h9))
  clear k0 k1 s2
  have hff := hx.far (show g9 < _ from b9.lt)
  replace b9 := h9
  replace hB := ht9.below (bt hB hbx) (by omega)
  replace b4 := (b4.kept hbx).turned ht9 (by omega)
  replace b11 := (b11.kept hbx).turned ht9 (by omega)
  replace hx := hx.turned ht9 hff
  clear hbx h9 ht9 hff
  have k0 := b4.cell' (i := 0) rfl
  have k1 := b4.cell' (i := 1) rfl
  go_upto_region 9 with (first
    | (go_at_call 20; refine (t2 _ (hR.below hB) (hW.below hB)).mono ?_; rintro e z2 ⟨py2, ny2, cy2, qy2, my2, dy2, rfl, hy, hby⟩)
    | (refine wpList_store_blk rfl 25 (.tmp 11) (.tmp 48) rfl _ _ [.slice py2 ny2 cy2, .slice qy2 my2 dy2] rfl rfl (b11.kept hby) (by simp) (poolSize _ _) one2 ?_; intro x2 h11 ht11; replace h11 : Blk x2 g11 25 [.slice py2 ny2 cy2, .slice qy2 my2 dy2] := h11))
  clear k0 k1 t2
  have hff := hy.far (show g11 < _ from b11.lt)
  have hfx := hx.next hby
  replace b11 := h11
  replace hB := ht11.below (bt hB hby) (by omega)
  replace b4 := (b4.kept hby).turned ht11 (by omega)
  replace b9 := (b9.kept hby).turned ht11 (by omega)
  replace hy := hy.turned ht11 hff
  replace hx := hfx.turned ht11 (hfx.far (show g11 < _ from hg11lt))
  clear hby h11 ht11 hff hfx hg11lt
  have k0 := b9.cell' (i := 0) rfl
  have k1 := b9.cell' (i := 1) rfl
  have k2 := b11.cell' (i := 0) rfl
  have k3 := b11.cell' (i := 1) rfl
  go_upto_region 11 with (go_at_call 16; refine (rsame_any _ _ _ _ _ _ _ _ _ _ _ _ A2 V2 A2 V2 _ hx.inR hx.inW hy.inR hy.inW).mono ?_; rintro e w3 ⟨rfl, hbs⟩; rw [HSm2.out])
  replace hB := bt hB hbs
  replace b4 := b4.kept hbs
  replace b9 := b9.kept hbs
  replace b11 := b11.kept hbs
  clear k0 k1 k2 k3 hbs hx hy hE2 HSm2
  have hg11lt := b11.lt
  have k0 := b4.cell' (i := 0) rfl
  have k1 := b4.cell' (i := 1) rfl
  go_upto_region 12 with (first
    | (go_at_call 21; refine (s3 _ (hR.below hB) (hW.below hB)).mono ?_; rintro e u3 ⟨px3, nx3, cx3, qx3, mx3, dx3, rfl, hx, hbx⟩)
    | (refine wpList_store_blk rfl 25 (.tmp 9) (.tmp 63) rfl _ _ [.slice px3 nx3 cx3, .slice qx3 mx3 dx3] rfl rfl (b9.kept hbx) (by simp) (poolSize _ _) one2 ?_; intro v3 h9 ht9; replace h9 : Blk v3 g9 25 [.slice px3 nx3 cx3, .slice qx3 mx3 dx3] := h9))
  clear k0 k1 s3
  have hff := hx.far (show g9 < _ from b9.lt)
  replace b9 := h9
  replace hB := ht9.below (bt hB hbx) (by omega)
  replace b4 := (b4.kept hbx).turned ht9 (by omega)
  replace b11 := (b11.kept hbx).turned ht9 (by omega)
  replace hx := hx.turned ht9 hff
  clear hbx h9 ht9 hff
  have k0 := b4.cell' (i := 0) rfl
  have k1 := b4.cell' (i := 1) rfl
  go_upto_region 13 with (first
    | (go_at_call 22; refine (t3 _ (hR.below hB) (hW.below hB)).mono ?_; rintro e z3 ⟨py3, ny3, cy3, qy3, my3, dy3, rfl, hy, hby⟩)
    | (refine wpList_store_blk rfl 25 (.tmp 11) (.tmp 69) rfl _ _ [.slice py3 ny3 cy3, .slice qy3 my3 dy3] rfl rfl (b11.kept hby) (by simp) (poolSize _ _) one2 ?_; intro x3 h11 ht11; replace h11 : Blk x3 g11 25 [.slice py3 ny3 cy3, .slice qy3 my3 dy3] := h11))
  clear k0 k1 t3
  have hff := hy.far (show g11 < _ from b11.lt)
  have hfx := hx.next hby
  replace b11 := h11
  replace hB := ht11.below (bt hB hby) (by omega)
  replace b4 := (b4.kept hby).turned ht11 (by omega)
  replace b9 := (b9.kept hby).turned ht11 (by omega)
  replace hy := hy.turned ht11 hff
  replace hx := hfx.turned ht11 (hfx.far (show g11 < _ from hg11lt))
  clear hby h11 ht11 hff hfx hg11lt
  have k0 := b9.cell' (i := 0) rfl
  have k1 := b9.cell' (i := 1) rfl
  have k2 := b11.cell' (i := 0) rfl
  have k3 := b11.cell' (i := 1) rfl
  go_upto_region 15 with (go_at_call 16; refine (rsame_any _ _ _ _ _ _ _ _ _ _ _ _ A3 V3 A3 V3 _ hx.inR hx.inW hy.inR hy.inW).mono ?_; rintro e w4 ⟨rfl, hbs⟩; rw [HSm3.out])
  replace hB := bt hB hbs
  replace b4 := b4.kept hbs
  replace b9 := b9.kept hbs
  replace b11 := b11.kept hbs
  clear k0 k1 k2 k3 hbs hx hy hE3 HSm3
  have hg11lt := b11.lt
  have k0 := b4.cell' (i := 0) rfl
  have k1 := b4.cell' (i := 1) rfl
  go_upto_region 16 with (first
    | (go_at_call 23; refine (s4 _ (hR.below hB) (hW.below hB)).mono ?_; rintro e u4 ⟨px4, nx4, cx4, qx4, mx4, dx4, rfl, hx, hbx⟩)
    | (refine wpList_store_blk rfl 25 (.tmp 9) (.tmp 84) rfl _ _ [.slice px4 nx4 cx4, .slice qx4 mx4 dx4] rfl rfl (b9.kept hbx) (by simp) (poolSize _ _) one2 ?_; intro v4 h9 ht9; replace h9 : Blk v4 g9 25 [.slice px4 nx4 cx4, .slice qx4 mx4 dx4] := h9))
  clear k0 k1 s4
  have hff := hx.far (show g9 < _ from b9.lt)
  replace b9 := h9
  replace hB := ht9.below (bt hB hbx) (by omega)
  replace b4 := (b4.kept hbx).turned ht9 (by omega)
  replace b11 := (b11.kept hbx).turned ht9 (by omega)
  replace hx := hx.turned ht9 hff
  clear hbx h9 ht9 hff
  have k0 := b4.cell' (i := 0) rfl
  have k1 := b4.cell' (i := 1) rfl
  go_upto_region 17 with (first
    | (go_at_call 24; refine (t4 _ (hR.below hB) (hW.below hB)).mono ?_; rintro e z4 ⟨py4, ny4, cy4, qy4, my4, dy4, rfl, hy, hby⟩)
    | (refine wpList_store_blk rfl 25 (.tmp 11) (.tmp 90) rfl _ _ [.slice py4 ny4 cy4, .slice qy4 my4 dy4] rfl rfl (b11.kept hby) (by simp) (poolSize _ _) one2 ?_; intro x4 h11 ht11; replace h11 : Blk x4 g11 25 [.slice py4 ny4 cy4, .slice qy4 my4 dy4] := h11))
  clear k0 k1 t4
  have hff := hy.far (show g11 < _ from b11.lt)
  have hfx := hx.next hby
  replace b11 := h11
  replace hB := ht11.below (bt hB hby) (by omega)
  replace b4 := (b4.kept hby).turned ht11 (by omega)
  replace b9 := (b9.kept hby).turned ht11 (by omega)
  replace hy := hy.turned ht11 hff
  replace hx := hfx.turned ht11 (hfx.far (show g11 < _ from hg11lt))
  clear hby h11 ht11 hff hfx hg11lt
  have k0 := b9.cell' (i := 0) rfl
  have k1 := b9.cell' (i := 1) rfl
  have k2 := b11.cell' (i := 0) rfl
  have k3 := b11.cell' (i := 1) rfl
  go_upto_region 19 with (go_at_call 16; refine (rsame_any _ _ _ _ _ _ _ _ _ _ _ _ A4 V4 A4 V4 _ hx.inR hx.inW hy.inR hy.inW).mono ?_; rintro e w5 ⟨rfl, hbs⟩; rw [HSm4.out])
  replace hB := bt hB hbs
  replace b4 := b4.kept hbs
  replace b9 := b9.kept hbs
  replace b11 := b11.kept hbs
  clear k0 k1 k2 k3 hbs hx hy hE4 HSm4
  have hg11lt := b11.lt
  have k0 := b4.cell' (i := 0) rfl
  have k1 := b4.cell' (i := 1) rfl
  go_upto_region 20 with (first
    | (go_at_call 25; refine (s5 _ (hR.below hB) (hW.below hB) (hl.below hB)).mono ?_; rintro e u5 ⟨px5, nx5, cx5, qx5, mx5, dx5, rfl, hx, hbx⟩)
    | (refine wpList_store_blk rfl 25 (.tmp 9) (.tmp 105) rfl _ _ [.slice px5 nx5 cx5, .slice qx5 mx5 dx5] rfl rfl (b9.kept hbx) (by simp) (poolSize _ _) one2 ?_; intro v5 h9 ht9; replace h9 : Blk v5 g9 25 [.slice px5 nx5 cx5, .slice qx5 mx5 dx5] := h9))
  clear k0 k1 s5
  have hff := hx.far (show g9 < _ from b9.lt)
  replace b9 := h9
  replace hB := ht9.below (bt hB hbx) (by omega)
  replace b4 := (b4.kept hbx).turned ht9 (by omega)
  replace b11 := (b11.kept hbx).turned ht9 (by omega)
  replace hx := hx.turned ht9 hff
  clear hbx h9 ht9 hff
  have k0 := b4.cell' (i := 0) rfl
  have k1 := b4.cell' (i := 1) rfl
  go_upto_region 21 with (first
    | (go_at_call 26; refine (t5 _ (hR.below hB) (hW.below hB) (hl.below hB)).mono ?_; rintro e z5 ⟨py5, ny5, cy5, qy5, my5, dy5, rfl, hy, hby⟩)
    | (refine wpList_store_blk rfl 25 (.tmp 11) (.tmp 111) rfl _ _ [.slice py5 ny5 cy5, .slice qy5 my5 dy5] rfl rfl (b11.kept hby) (by simp) (poolSize _ _) one2 ?_; intro x5 h11 ht11; replace h11 : Blk x5 g11 25 [.slice py5 ny5 cy5, .slice qy5 my5 dy5] := h11))
  clear k0 k1 t5
  have hff := hy.far (show g11 < _ from b11.lt)
  have hfx := hx.next hby
  replace b11 := h11
  replace hB := ht11.below (bt hB hby) (by omega)
  replace b4 := (b4.kept hby).turned ht11 (by omega)
  replace b9 := (b9.kept hby).turned ht11 (by omega)
  replace hy := hy.turned ht11 hff
  replace hx := hfx.turned ht11 (hfx.far (show g11 < _ from hg11lt))
  clear hby h11 ht11 hff hfx hg11lt
  have k0 := b9.cell' (i := 0) rfl
  have k1 := b9.cell' (i := 1) rfl
  have k2 := b11.cell' (i := 0) rfl
  have k3 := b11.cell' (i := 1) rfl
  go_wp2_with (go_at_call 16; refine (rsame_any _ _ _ _ _ _ _ _ _ _ _ _ A5 V5 A5 V5 _ hx.inR hx.inW hy.inR hy.inW).mono ?_; rintro e w6 ⟨rfl, hbs⟩; rw [HSm5.out])
  go_ret
  exact ⟨rfl, bt hB hbs⟩
set_option maxRecDepth 100000 in
theorem changes_lifted (os : Os) (started : os.Started) (H : Type) (enc : TypeId × Value → H) :
    ReturnsInHanded {} Try.checked os 4 .any (Rows.poolChangesSpec.pre6 enc Try.prog Try.f4 Rows.poolChangesRow.domain false) (Rows.poolChangesSpec.post enc Try.prog Try.f4 false true false false) := by
  refine returnsInHanded_of_change_sized (C := Try.checked) own started (by kernel_rfl) Try.func4
    (ChangeSpec.witness6 (enc := enc) (C := Try.checked) false ⟨#[], #[.agg #[.slice none 0 0, .slice none 0 0], .int .i64 0, .int .i64 0, .slice none 0 0], []⟩ 8 (by kernel_rfl) (by kernel_rfl) (by kernel_rfl) (by kernel_rfl)) ?_
  intro W base args ds gs before hval0 hW hcnd hsz0 _
  have hval : ∀ (j : Nat) t v, Try.f4.params[j]? = some t → args[j]? = some v → Value.okWide Try.prog W .any base t v := hval0
  have hsz : (DataW.weightsEach Try.prog (Try.f4.params.toList ++ Rows.poolChangesSpec.plain.varTypes Try.prog) (ds ++ gs)).all (· ≤ reachBytes) = true := hsz0
  have hW' := hW
  obtain ⟨p, q, hA0, hV, rfl, hfz, hnd⟩ := hW
  have hA : DataW.TrodAll enc Try.prog W 0 (fun _ => true) true Try.f4.params.toList args.toList ds p := hA0
  rw [Try.params4] at hA hval hsz
  obtain ⟨v0, vs0, d0, ds0, p0, q0, hargs, rfl, rfl, h0, r0⟩ := trodAll_cons hA
  obtain ⟨v1, vs1, d1, ds1, p1, q1, rfl, rfl, rfl, h1, r1⟩ := trodAll_cons r0
  obtain ⟨v2, vs2, d2, ds2, p2, q2, rfl, rfl, rfl, h2, r2⟩ := trodAll_cons r1
  obtain ⟨v3, vs3, d3, ds3, p3, q3, rfl, rfl, rfl, h3, r3⟩ := trodAll_cons r2
  obtain ⟨rfl, rfl, rfl⟩ := trodAll_nil r3
  obtain rfl : args = #[v0, v1, v2, v3] := by cases args; simp_all
  obtain ⟨rfl, rfl⟩ := trodVars_none hV
  have lt0 : ∀ x ∈ p0, x.block < W.heap.size := by obtain ⟨m, hm⟩ := h0; exact DataW.trod_lt m _ _ _ hm
  obtain ⟨ppa, pna, pca, pqa, pma, pda, pRa, pWa, hv0, hr0, hw0⟩ := openPool (hval 0 25 v0 rfl rfl) h0 hsz (j := 0) rfl rfl
  subst hv0
  obtain ⟨xb, rfl, rfl, rfl, wf1⟩ := open_int Try.underlying3 (hval 1 3 v1 rfl rfl) h1
  obtain ⟨xr, rfl, rfl, rfl, wf2⟩ := open_int Try.underlying3 (hval 2 3 v2 rfl rfl) h2
  have lt3 : ∀ x ∈ p3, x.block < W.heap.size := by obtain ⟨m, hm⟩ := h3; exact DataW.trod_lt m _ _ _ hm
  obtain ⟨spl, snl, scl, sxl, hv3, hr3⟩ := openI64s (okWide_slice Try.underlying23 (hval 3 23 v3 rfl rfl)) h3 hsz (j := 3) rfl rfl
  subst hv3
  clear hA0 hval0 hsz0
  refine (changes_walk ppa pqa spl pna pca pma pda snl scl pRa pWa sxl xb xr W hr0 hw0 hr3).mono fun e W' ⟨he, bel⟩ => ?_
  subst he
  exact ⟨_, rfl, _, _, _, [], _, [], hW', trodAll_mk1 (shut_bool Try.underlying4 _), (trodAll_cons_mk (Below.trod laidOut (by kernel_rfl) (of_decide_eq_true (by kernel_rfl)) h0 bel lt0) (trodAll_cons_mk (shut_int Try.underlying3 wf1) (trodAll_cons_mk (shut_int Try.underlying3 wf2) (trodAll_cons_mk (Below.trod laidOut (by kernel_rfl) (of_decide_eq_true (by kernel_rfl)) h3 bel lt3) trodAll_mk0)))), rfl, bel.frame _, fun h => by cases h⟩
theorem poolChanges_holds : Rows.PoolChangesSaid :=
  OpenClaim.holds_of_wide 4 Try.f4 rfl rfl rfl rfl rfl rfl rfl ⟨rfl, rfl, rfl, rfl, rfl⟩ rfl rfl rfl rfl rfl (by kernel_rfl) Try.func4 (by kernel_rfl)
    (of_decide_eq_true (by kernel_rfl)) (by unfold Func.isWrapper; first | (rw [if_pos (by decide +kernel)]; kernel_rfl) | (rw [if_neg (by decide +kernel)]; exact ⟨rfl, rfl⟩))
    (fun os started H enc _ => changes_lifted os started H enc)
#print axioms poolChanges_holds
end Go.Proofs.Ytigkfmdhmonjlaa
