/-
  For every number of blocks and all pages l: the call of MapReplays returns true (Replay answers as the document says), and all arguments read afterwards as they read before. No condition.
-/
import Derived.Test.YtpikaagdiafieaaMjRReplay
import Derived.Test.YtpikaagdiafieaaMjLiftP
namespace Go.Proofs.Ytpikaagdiafieaa
open Go.ChangeShapes Go.WideShapes Go.ChangeAt Go.RowKit
set_option linter.unusedSimpArgs false in
set_option maxRecDepth 100000 in
set_option maxHeartbeats 4000000 in
theorem replays_walk (i : Int) (pl : Option Addr) (N c : Nat) (f : Nat → PV) (l : List MP) (w : World) (hl : InPs w pl N c f l) :
    Calls Try.prog 7 #[.int .i64 i, .slice pl N c] w fun e w' => e = .returned (.bool true) ∧ Below w.heap.size w w' := by
  have s1 := fun W' h1 => replay_any i pl N c f l W' h1
  have t1 := fun W' h1 => rreplay_any i pl N c f l W' h1
  generalize replayR i l = R1 at *
  obtain ⟨X, G1, E1⟩ := R1
  have HX : Hid (sameS X X = true) := sameS_iff.2 rfl
  have q1 : (E1 == E1) = true := by simp
  have q2 : (G1 == G1) = true := by simp
  have hB : Below w.heap.size w w := Below.refl _ _
  go_enter Try.func7, Try.ntmps7
  go_upto_region 2 with (go_at_call 39; refine (s1 _ hl).mono ?_; rintro e u1 ⟨Vx, rfl, ho, hbx⟩; dsimp only)
  dsimp only at ho
  clear s1
  have hal := below_alloc u1 (.cells #[.slice Vx.p Vx.n Vx.c, .slice Vx.q Vx.m Vx.d, .int .i64 X.seq] 25)
  have bx : Blk (u1.alloc (.cells #[.slice Vx.p Vx.n Vx.c, .slice Vx.q Vx.m Vx.d, .int .i64 X.seq] 25)) u1.heap.size 25 (SV.cells Vx X) := Blk.new' u1 25 #[.slice Vx.p Vx.n Vx.c, .slice Vx.q Vx.m Vx.d, .int .i64 X.seq]
  have hbv := bt hbx hal
  replace hB := bt hB hbv
  have ox := ho.inS.below hal
  clear hbx hal hbv ho
  generalize hV1 : u1.alloc (.cells #[.slice Vx.p Vx.n Vx.c, .slice Vx.q Vx.m Vx.d, .int .i64 X.seq] 25) = v1 at *
  clear hV1
  generalize u1.heap.size = gx at *
  go_upto_region 3 with (go_at_call 40; refine (t1 _ (hl.below hB)).mono ?_; rintro e u2 ⟨Vy, rfl, ho, hbx⟩; dsimp only)
  dsimp only at ho
  clear t1
  have hal := below_alloc u2 (.cells #[.slice Vy.p Vy.n Vy.c, .slice Vy.q Vy.m Vy.d, .int .i64 X.seq] 25)
  have by' : Blk (u2.alloc (.cells #[.slice Vy.p Vy.n Vy.c, .slice Vy.q Vy.m Vy.d, .int .i64 X.seq] 25)) u2.heap.size 25 (SV.cells Vy X) := Blk.new' u2 25 #[.slice Vy.p Vy.n Vy.c, .slice Vy.q Vy.m Vy.d, .int .i64 X.seq]
  have hbv := bt hbx hal
  replace hB := bt hB hbv
  replace bx := bx.kept hbv
  replace ox := ox.below hbv
  have oy := ho.inS.below hal
  clear hbx hal hbv ho
  generalize hV1 : u2.alloc (.cells #[.slice Vy.p Vy.n Vy.c, .slice Vy.q Vy.m Vy.d, .int .i64 X.seq] 25) = v2 at *
  clear hV1
  generalize u2.heap.size = gy at *
  obtain ⟨x0, x1, x2⟩ := bx.cells3
  obtain ⟨y0, y1, y2⟩ := by'.cells3
  go_wp2_with (first
    | (go_at_call 13; refine (begun_any _).mono ?_; rintro e f0 ⟨rfl, hb0⟩; replace hB := bt hB hb0; replace bx := bx.kept hb0; replace by' := by'.kept hb0; replace ox := ox.below hb0; replace oy := oy.below hb0; obtain ⟨x0, x1, x2⟩ := bx.cells3; obtain ⟨y0, y1, y2⟩ := by'.cells3; clear hb0)
    | (go_at_call 14; refine (rsame_any Vx Vy X X _ ox oy).mono ?_; rw [HX.out]; rintro e f1 ⟨rfl, hb1⟩; replace hB := bt hB hb1; clear hb1))
  go_ret
  exact ⟨rfl, hB⟩
set_option maxRecDepth 100000 in
theorem replays_lifted (os : Os) (started : os.Started) (H : Type) (enc : TypeId × Value → H) :
    ReturnsInHanded {} Try.checked os 7 .any (Rows.mapReplaysSpec.pre6 enc Try.prog Try.f7 Rows.mapReplaysRow.domain false) (Rows.mapReplaysSpec.post enc Try.prog Try.f7 false true false false) := by
  refine returnsInHanded_of_change_sized (C := Try.checked) own started (by kernel_rfl) Try.func7
    (ChangeSpec.witness6 (enc := enc) (C := Try.checked) false ⟨#[], #[.int .i64 0, .slice none 0 0], []⟩ 8 (by kernel_rfl) (by kernel_rfl) (by kernel_rfl) (by kernel_rfl)) ?_
  intro W base args ds gs before hval0 hW hcnd hsz0 _
  have hval : ∀ (j : Nat) t v, Try.f7.params[j]? = some t → args[j]? = some v → Value.okWide Try.prog W .any base t v := hval0
  have hsz : (DataW.weightsEach Try.prog (Try.f7.params.toList ++ Rows.mapReplaysSpec.plain.varTypes Try.prog) (ds ++ gs)).all (· ≤ reachBytes) = true := hsz0
  have hW' := hW
  obtain ⟨p, q, hA0, hV, rfl, hfz, hnd⟩ := hW
  have hA : DataW.TrodAll enc Try.prog W 0 (fun _ => true) true Try.f7.params.toList args.toList ds p := hA0
  rw [Try.params7] at hA hval hsz
  obtain ⟨v0, vs0, d0, ds0, p0, q0, hargs, rfl, rfl, h0, r0⟩ := trodAll_cons hA
  obtain ⟨v1, vs1, d1, ds1, p1, q1, rfl, rfl, rfl, h1, r1⟩ := trodAll_cons r0
  obtain ⟨rfl, rfl, rfl⟩ := trodAll_nil r1
  obtain rfl : args = #[v0, v1] := by cases args; simp_all
  obtain ⟨rfl, rfl⟩ := trodVars_none hV
  obtain ⟨xi, rfl, rfl, rfl, wf0⟩ := open_int Try.underlying3 (hval 0 3 v0 rfl rfl) h0
  have lt1 : ∀ x ∈ p1, x.block < W.heap.size := by obtain ⟨m, hm⟩ := h1; exact DataW.trod_lt m _ _ _ hm
  obtain ⟨spl, snl, scl, sfl, sll, hv1, hr1, hn1⟩ := openPages (okWide_slice Try.underlying43 (hval 1 43 v1 rfl rfl)) h1 hsz (j := 1) rfl rfl
  subst hv1
  clear hA0 hval0 hsz0
  refine (replays_walk xi spl snl scl sfl sll W hr1).mono fun e W' ⟨he, bel⟩ => ?_
  subst he
  exact ⟨_, rfl, _, _, _, [], _, [], hW', trodAll_mk1 (shut_bool Try.underlying4 _), (trodAll_cons_mk (shut_int Try.underlying3 wf0) (trodAll_cons_mk (Below.trod laidOut (by kernel_rfl) (of_decide_eq_true (by kernel_rfl)) h1 bel lt1) trodAll_mk0)), rfl, bel.frame _, fun h => by cases h⟩
theorem mapReplays_holds : Rows.MapReplaysSaid :=
  OpenClaim.holds_of_wide 7 Try.f7 rfl rfl rfl rfl rfl rfl rfl ⟨rfl, rfl, rfl, rfl, rfl⟩ rfl rfl rfl rfl rfl (by kernel_rfl) Try.func7 (by kernel_rfl)
    (of_decide_eq_true (by kernel_rfl)) (by unfold Func.isWrapper; first | (rw [if_pos (by decide +kernel)]; kernel_rfl) | (rw [if_neg (by decide +kernel)]; exact ⟨rfl, rfl⟩))
    (fun os started H enc _ => replays_lifted os started H enc)
#print axioms mapReplays_holds
end Go.Proofs.Ytpikaagdiafieaa
