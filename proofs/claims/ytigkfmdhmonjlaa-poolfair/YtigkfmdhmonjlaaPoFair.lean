/-
  For all blocks, bad and turns: the call of PoolFair returns true (if each block that is chosen is given back ahead of the next choice, the wears of all good blocks differ by no more than 1), and all arguments read afterwards as they read before. No condition.
-/
import Derived.Test.YtigkfmdhmonjlaaPoFairP
import Derived.Test.YtigkfmdhmonjlaaPoLift
namespace Go.Proofs.Ytigkfmdhmonjlaa
open Go.ChangeShapes Go.WideShapes Go.ChangeAt Go.RowKit
set_option linter.unusedSimpArgs false in
set_option maxRecDepth 100000 in
set_option maxHeartbeats 4000000 in
theorem fair_walk (s : Option Addr) (r e : Nat) (bad : List Int) (blocks : Int) (tn : Nat) (htn : tn < 65536) (w : World) (hl : InI w s r e bad) :
    Calls Try.prog 7 #[.int .i64 blocks, .slice s r e, .int .u16 (tn : Int)] w fun e w' => e = .returned (.bool true) ∧ Below w.heap.size w w' := by
  have s1 := new_any blocks s r e bad w hl
  have hst := @fair_start blocks bad
  generalize newS blocks bad = S1 at *
  obtain ⟨A1, V1, E1⟩ := S1
  go_enter Try.func7, Try.ntmps7
  go_upto_region 2 with (go_at_call 9; refine s1.mono ?_; rintro e u1 ⟨px, nx, cx, qx, mx, dx, rfl, hx, hbx⟩)
  clear s1
  have b7 := Blk.new' u1 25 #[.slice px nx cx, .slice qx mx dx]
  have hal := below_alloc u1 (.cells #[.slice px nx cx, .slice qx mx dx] 25)
  have hB := bt hbx hal
  have hfar : FarP u1.heap.size px qx := ⟨fun a e => by subst e; have := (hx.r.lt a.block rfl).2; omega, fun a e => by subst e; have := (hx.v.lt a.block rfl).2; omega⟩
  replace hx := hx.next hal
  have hsz := hbx.size
  clear hbx hal
  generalize hV1 : u1.alloc (.cells #[.slice px nx cx, .slice qx mx dx] 25) = v1 at *
  clear hV1
  generalize u1.heap.size = g7 at *
  try dsimp only at hx
  by_cases hE : E1 = 0
  · subst hE
    obtain ⟨N, hF0⟩ := hst rfl
    clear hst
    go_upto_region 4 with (go_at_call 13; refine (begun_any _).mono ?_; rintro e f1 ⟨rfl, hb1⟩)
    replace hB := bt hB hb1
    replace b7 := b7.kept hb1
    replace hx := hx.next hb1
    clear hb1
    go_wp2_with fail
    obtain ⟨T, hT⟩ : ∃ T : Nat, (tn : Int) % 700 = (T : Int) := ⟨tn % 700, by omega⟩
    have hT7 : T < 700 := by omega
    rw [hT]
    clear hT
    go_loopw [30] (fun i wr => ∃ (k : Nat) (p q : Option Addr) (n c m d : Nat) (R W : List Int), k ≤ T ∧ i = .int .u16 (k : Int) ∧ FairI N k R W ∧ Blk wr g7 25 [.slice p n c, .slice q m d] ∧ NewP w.heap.size wr p n c q m d R W ∧ FarP g7 p q ∧ Below w.heap.size w wr) (fun i _ => T - (intOf i).toNat)
    case atStart => exact ⟨0, px, qx, nx, cx, mx, dx, A1, V1, Nat.zero_le _, rfl, hF0, b7, hx, hfar, hB⟩
    case round =>
      obtain ⟨k, p, q, n, c, m, d, R, W, hk, rfl, hF, bk, hnp, hfk, hBk⟩ := hrel
      clear hF0 b7 hx hfar hB
      have k0 := bk.cell' (i := 0) rfl
      have k1 := bk.cell' (i := 1) rfl
      have hbl := bk.lt
      by_cases hlt : k < T
      · have hkT : (k : Int) < (T : Int) := by omega
        have hch := choose_any p q n c m d R W wr hnp.inR hnp.inW
        unfold chooseN chooseB at hch
        cases ho : pickK isLess W (allK R W 1) with
        | none =>
          have hz : (allK R W 1).length = 0 := by have h := pick_ok W (allK R W 1); rw [ho] at h; have h' : allK R W 1 = [] := h; rw [h']; rfl
          rw [ho] at hch
          have hch' : Calls Try.prog 27 #[.agg #[.slice p n c, .slice q m d]] wr fun e w' => e = .returned (.tuple #[.int .i64 0, .bool false]) ∧ Below wr.heap.size wr w' := hch
          clear hch
          go_upto_region 7 with (go_at_call 27; refine hch'.mono ?_; rintro e w2 ⟨rfl, hb2⟩)
          have e2 := bk.kept hb2
          have z0 := e2.cell' (i := 0) rfl
          have z1 := e2.cell' (i := 1) rfl
          have hnp2 := hnp.next hb2
          have hct := count_any p q n c m d R W 1 w2 hnp2.inR hnp2.inW
          rw [hz] at hct
          clear hch' k0 k1
          go_wp2_with (go_at_call 34; refine hct.mono ?_; rintro e w3 ⟨rfl, hb3⟩)
          go_ret
          exact ⟨rfl, bt (bt hBk hb2) hb3⟩
        | some bb =>
          obtain ⟨htk, hgv, hF1⟩ := hF.step (by omega) ho
          rw [ho] at hch
          obtain ⟨x, hx⟩ : ∃ x : Nat, bb.1 = x := ⟨_, rfl⟩
          rw [hx] at htk hgv hF1
          have hbn : bestN (some bb) = (x : Int) := by rw [← hx]; rfl
          rw [hbn] at hch
          have hch' : Calls Try.prog 27 #[.agg #[.slice p n c, .slice q m d]] wr fun e w' => e = .returned (.tuple #[.int .i64 (x : Int), .bool true]) ∧ Below wr.heap.size wr w' := hch
          clear hbn
          clear hch ho hx
          go_upto_region 7 with (go_at_call 27; refine hch'.mono ?_; rintro e w2 ⟨rfl, hb2⟩)
          clear hch' k0 k1
          replace bk := bk.kept hb2
          replace hnp := hnp.next hb2
          replace hBk := bt hBk hb2
          have z0 := bk.cell' (i := 0) rfl
          have z1 := bk.cell' (i := 1) rfl
          have hta := take_any p q n c m d R W (x : Int) 4 w2 hnp.inR hnp.inW
          rw [htk] at hta
          clear hb2
          go_upto_region 10 with (go_at_call 17; refine hta.mono ?_; rintro e w3 ⟨p2, n2, c2, q2, m2, d2, rfl, hnp2, hb3⟩)
          clear hta z0 z1
          have b11 := Blk.new' w3 25 #[.slice p2 n2 c2, .slice q2 m2 d2]
          have hal := below_alloc w3 (.cells #[.slice p2 n2 c2, .slice q2 m2 d2] 25)
          have hg7 := bk.lt
          replace bk := (bk.kept hb3).kept hal
          replace hBk := bt (bt hBk hb3) hal
          replace hnp2 := hnp2.next hal
          have hg37 := hb3.size
          clear hb3 hal hnp
          generalize hV3 : w3.alloc (.cells #[.slice p2 n2 c2, .slice q2 m2 d2] 25) = W3 at *
          clear hV3
          have hgg : g7 ≠ w3.heap.size := by omega
          clear hg37
          generalize w3.heap.size = g11 at *
          try dsimp only at hnp2
          have z0 := b11.cell' (i := 0) rfl
          have z1 := b11.cell' (i := 1) rfl
          have hga := give_any p2 q2 n2 c2 m2 d2 (R.set x 4) W (x : Int) W3 hnp2.inR hnp2.inW
          rw [hgv] at hga
          have hg7b := bk.lt
          go_upto_region 13 with (first
            | (go_at_call 19; refine hga.mono ?_; rintro e w4 ⟨p5, n5, c5, q5, m5, d5, rfl, hnp5, hb5⟩)
            | (refine wpList_store_blk rfl 25 (.tmp 7) (.tmp 54) rfl _ _ [.slice p5 n5 c5, .slice q5 m5 d5] rfl rfl (bk.kept hb5) (by simp) (poolSize _ _) one2 ?_; intro w6 h6 ht6; replace h6 : Blk w6 g7 25 [.slice p5 n5 c5, .slice q5 m5 d5] := h6))
          clear hga z0 z1
          have hf5 := hnp5.far (show g7 < _ from hg7b)
          have hnp6 := (hnp5.turned ht6 hf5).low hBk.size
          have hB6 := ht6.below (bt hBk hb5) (by omega)
          try dsimp only at hnp6
          clear hnp5 ht6 hb5 hnp2 b11 bk hBk
          have hwr : IntKind.u16.wrap ((k : Int) + 1) = (k : Int) + 1 := by rw [IntKind.wrap_u16]; omega
          go_wp2_with fail
          go_roundw
          case rel => exact ⟨k + 1, p5, q5, n5, c5, m5, d5, R, _, by omega, val_int (by omega), hF1, h6, hnp6, hf5, hB6⟩
          case measure => simp [intOf]; omega
      · have hsp := spread_any p q n c m d R W wr hnp.inR hnp.inW
        obtain ⟨hs1, hs2, hs3⟩ := hF.spread (by omega)
        have hkT : ¬ (k : Int) < (T : Int) := by omega
        generalize spreadA R W = sa at *
        generalize spreadB R W = sb at *
        have hws : IntKind.i64.wrap (sb - sa) = sb - sa := by rw [IntKind.wrap_i64]; omega
        obtain ⟨hs4, hs5⟩ := hs2
        obtain ⟨hs6, hs7⟩ := hs3
        go_wp2_with (go_at_call 30; refine hsp.mono ?_; rintro e w2 ⟨rfl, hb2⟩)
        go_ret
        exact ⟨rfl, bt hBk hb2⟩
  · have hEb : (E1 != 0) = true := by simpa using hE
    clear hE hst
    go_upto_region 3 with (go_at_call 13; refine (begun_any _).mono ?_; rintro e f1 ⟨rfl, hb1⟩)
    go_wp2_with (go_at_call 13; refine (begun_any _).mono ?_; rintro e f2 ⟨rfl, hb2⟩)
    go_ret
    exact ⟨rfl, bt (bt hB hb1) hb2⟩
set_option maxRecDepth 100000 in
theorem fair_lifted (os : Os) (started : os.Started) (H : Type) (enc : TypeId × Value → H) :
    ReturnsInHanded {} Try.checked os 7 .any (Rows.poolFairSpec.pre6 enc Try.prog Try.f7 Rows.poolFairRow.domain false) (Rows.poolFairSpec.post enc Try.prog Try.f7 false true false false) := by
  refine returnsInHanded_of_change_sized (C := Try.checked) own started (by kernel_rfl) Try.func7
    (ChangeSpec.witness6 (enc := enc) (C := Try.checked) false ⟨#[], #[.int .i64 0, .slice none 0 0, .int .u16 0], []⟩ 8 (by kernel_rfl) (by kernel_rfl) (by kernel_rfl) (by kernel_rfl)) ?_
  intro W base args ds gs before hval0 hW hcnd hsz0 _
  have hval : ∀ (j : Nat) t v, Try.f7.params[j]? = some t → args[j]? = some v → Value.okWide Try.prog W .any base t v := hval0
  have hsz : (DataW.weightsEach Try.prog (Try.f7.params.toList ++ Rows.poolFairSpec.plain.varTypes Try.prog) (ds ++ gs)).all (· ≤ reachBytes) = true := hsz0
  have hW' := hW
  obtain ⟨p, q, hA0, hV, rfl, hfz, hnd⟩ := hW
  have hA : DataW.TrodAll enc Try.prog W 0 (fun _ => true) true Try.f7.params.toList args.toList ds p := hA0
  rw [Try.params7] at hA hval hsz
  obtain ⟨v0, vs0, d0, ds0, p0, q0, hargs, rfl, rfl, h0, r0⟩ := trodAll_cons hA
  obtain ⟨v1, vs1, d1, ds1, p1, q1, rfl, rfl, rfl, h1, r1⟩ := trodAll_cons r0
  obtain ⟨v2, vs2, d2, ds2, p2, q2, rfl, rfl, rfl, h2, r2⟩ := trodAll_cons r1
  obtain ⟨rfl, rfl, rfl⟩ := trodAll_nil r2
  obtain rfl : args = #[v0, v1, v2] := by cases args; simp_all
  obtain ⟨rfl, rfl⟩ := trodVars_none hV
  obtain ⟨xb, rfl, rfl, rfl, wf0⟩ := open_int Try.underlying3 (hval 0 3 v0 rfl rfl) h0
  have lt1 : ∀ x ∈ p1, x.block < W.heap.size := by obtain ⟨m, hm⟩ := h1; exact DataW.trod_lt m _ _ _ hm
  obtain ⟨spl, snl, scl, sxl, hv1, hr1⟩ := openInts (okWide_slice Try.underlying22 (hval 1 22 v1 rfl rfl)) h1 hsz (j := 1) rfl rfl
  subst hv1
  obtain ⟨xt, rfl, rfl, rfl, wf2⟩ := open_int Try.underlying60 (hval 2 60 v2 rfl rfl) h2
  clear hA0 hval0 hsz0
  have hxt : xt = ((xt.toNat : Nat) : Int) := by have := bounds_u16 wf2; omega
  have hfw := fair_walk spl snl scl sxl xb xt.toNat (by have := bounds_u16 wf2; omega) W hr1
  rw [← hxt] at hfw
  refine hfw.mono fun e W' ⟨he, bel⟩ => ?_
  subst he
  exact ⟨_, rfl, _, _, _, [], _, [], hW', trodAll_mk1 (shut_bool Try.underlying4 _), (trodAll_cons_mk (shut_int Try.underlying3 wf0) (trodAll_cons_mk (Below.trod laidOut (by kernel_rfl) (of_decide_eq_true (by kernel_rfl)) h1 bel lt1) (trodAll_cons_mk (shut_int Try.underlying60 wf2) trodAll_mk0))), rfl, bel.frame _, fun h => by cases h⟩
theorem poolFair_holds : Rows.PoolFairSaid :=
  OpenClaim.holds_of_wide 7 Try.f7 rfl rfl rfl rfl rfl rfl rfl ⟨rfl, rfl, rfl, rfl, rfl⟩ rfl rfl rfl rfl rfl (by kernel_rfl) Try.func7 (by kernel_rfl)
    (of_decide_eq_true (by kernel_rfl)) (by unfold Func.isWrapper; first | (rw [if_pos (by decide +kernel)]; kernel_rfl) | (rw [if_neg (by decide +kernel)]; exact ⟨rfl, rfl⟩))
    (fun os started H enc _ => fair_lifted os started H enc)
#print axioms poolFair_holds
end Go.Proofs.Ytigkfmdhmonjlaa
