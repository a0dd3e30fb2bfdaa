/-
  For every two states a and b and all records l: the call of MapChanges returns true (Apply and Diff answer as the document says), and all arguments read afterwards as they read before. No condition.
-/
import Derived.Test.YtpikaagdiafieaaMjChP
import Derived.Test.YtpikaagdiafieaaMjLift
namespace Go.Proofs.Ytpikaagdiafieaa
open Go.ChangeShapes Go.WideShapes Go.ChangeAt Go.RowKit
theorem diffR_len (a b : MS) : (diffR a b).1.length ≤ 1000000 := by
  unfold diffR
  split
  · rename_i h
    simp at h
    split
    · have h2 := okMS_iff.1 h.2
      have := diffTo_len a b b.bad.length
      show (diffTo a b b.bad.length).length ≤ _
      omega
    · simp
  · simp
set_option linter.unusedSimpArgs false in
set_option maxRecDepth 100000 in
set_option maxHeartbeats 4000000 in
theorem changes_walk (V U : SV) (a b : MS) (pl : Option Addr) (N c : Nat) (l : List MR) (w : World) (ha : InS w V a) (hb : InS w U b) (hl : InR w pl N c l) :
    Calls Try.prog 4 #[V.val a, U.val b, .slice pl N c] w fun e w' => e = .returned (.bool true) ∧ Below w.heap.size w w' := by
  have h0 := B2.start w V U a b
  have hB := h0.bel
  have ba := h0.ba
  have bb := h0.bb
  clear h0
  have s1 := fun W' h1 h2 => apply_any V a pl N c l W' h1 h2
  have t1 := fun W' h1 h2 => rapply_any V a pl N c l W' h1 h2
  generalize applyR a l = R1 at *
  obtain ⟨X, E1⟩ := R1
  have s2 := fun W' h1 h2 => diff_any V U a b W' h1 h2
  have t2 := fun W' h1 h2 => rdiff_any V U a b W' h1 h2
  have HN : Hid ((diffR a b).1.length ≤ 1000000) := diffR_len a b
  generalize diffR a b = R2 at *
  obtain ⟨M, E2⟩ := R2
  dsimp only at HN
  have HX : Hid (sameS X X = true) := sameS_iff.2 rfl
  have q1 : (E1 == E1) = true := by simp
  have q2 : (E2 == E2) = true := by simp
  obtain ⟨x0, x1, x2⟩ := ba.cells3
  obtain ⟨y0, y1, y2⟩ := bb.cells3
  go_enter Try.func4, Try.ntmps4
  go_upto_region 2 with (go_at_call 20; refine (s1 _ (ha.below hB) (hl.below hB)).mono ?_; rintro e u1 ⟨Vx, rfl, ho, hbx⟩; dsimp only)
  dsimp only at ho
  clear x0 x1 x2 y0 y1 y2 s1
  have hal := below_alloc u1 (.cells #[.slice Vx.p Vx.n Vx.c, .slice Vx.q Vx.m Vx.d, .int .i64 X.seq] 25)
  have bx : Blk (u1.alloc (.cells #[.slice Vx.p Vx.n Vx.c, .slice Vx.q Vx.m Vx.d, .int .i64 X.seq] 25)) u1.heap.size 25 (SV.cells Vx X) := Blk.new' u1 25 #[.slice Vx.p Vx.n Vx.c, .slice Vx.q Vx.m Vx.d, .int .i64 X.seq]
  have hbv := bt hbx hal
  replace hB := bt hB hbv
  replace ba := ba.kept hbv
  replace bb := bb.kept hbv
  have ox := ho.inS.below hal
  clear hbx hal hbv ho
  generalize hV1 : u1.alloc (.cells #[.slice Vx.p Vx.n Vx.c, .slice Vx.q Vx.m Vx.d, .int .i64 X.seq] 25) = v1 at *
  clear hV1
  generalize u1.heap.size = gx at *
  obtain ⟨x0, x1, x2⟩ := ba.cells3
  obtain ⟨y0, y1, y2⟩ := bb.cells3
  go_upto_region 3 with (go_at_call 21; refine (t1 _ (ha.below hB) (hl.below hB)).mono ?_; rintro e u2 ⟨Vy, rfl, ho, hbx⟩; dsimp only)
  dsimp only at ho
  clear x0 x1 x2 y0 y1 y2 t1
  have hal := below_alloc u2 (.cells #[.slice Vy.p Vy.n Vy.c, .slice Vy.q Vy.m Vy.d, .int .i64 X.seq] 25)
  have by' : Blk (u2.alloc (.cells #[.slice Vy.p Vy.n Vy.c, .slice Vy.q Vy.m Vy.d, .int .i64 X.seq] 25)) u2.heap.size 25 (SV.cells Vy X) := Blk.new' u2 25 #[.slice Vy.p Vy.n Vy.c, .slice Vy.q Vy.m Vy.d, .int .i64 X.seq]
  have hbv := bt hbx hal
  replace hB := bt hB hbv
  replace ba := ba.kept hbv
  replace bb := bb.kept hbv
  replace bx := bx.kept hbv
  replace ox := ox.below hbv
  have oy := ho.inS.below hal
  clear hbx hal hbv ho
  generalize hV1 : u2.alloc (.cells #[.slice Vy.p Vy.n Vy.c, .slice Vy.q Vy.m Vy.d, .int .i64 X.seq] 25) = v2 at *
  clear hV1
  generalize u2.heap.size = gy at *
  obtain ⟨x0, x1, x2⟩ := ba.cells3
  obtain ⟨y0, y1, y2⟩ := bb.cells3
  go_upto_region 4 with (go_at_call 22; refine (s2 _ (ha.below hB) (hb.below hB)).mono ?_; rintro e u3 ⟨m, rfl, ho, hbx⟩; dsimp only)
  dsimp only at ho
  clear x0 x1 x2 y0 y1 y2 s2
  obtain ⟨pm, cm, hvm, om⟩ := in_of_ownsR ho (by have := HN.out; omega)
  subst hvm
  replace hB := bt hB hbx
  replace ba := ba.kept hbx
  replace bb := bb.kept hbx
  replace bx := bx.kept hbx
  replace by' := by'.kept hbx
  replace ox := ox.below hbx
  replace oy := oy.below hbx
  clear hbx ho
  obtain ⟨x0, x1, x2⟩ := ba.cells3
  obtain ⟨y0, y1, y2⟩ := bb.cells3
  go_upto_region 5 with (go_at_call 23; refine (t2 _ (ha.below hB) (hb.below hB)).mono ?_; rintro e u4 ⟨n, rfl, ho, hbx⟩; dsimp only)
  dsimp only at ho
  clear x0 x1 x2 y0 y1 y2 t2
  obtain ⟨pn, cn, hvn, on⟩ := in_of_ownsR ho (by have := HN.out; omega)
  subst hvn
  replace hB := bt hB hbx
  replace ba := ba.kept hbx
  replace bb := bb.kept hbx
  replace bx := bx.kept hbx
  replace by' := by'.kept hbx
  replace ox := ox.below hbx
  replace oy := oy.below hbx
  replace om := om.below hbx
  clear hbx ho
  obtain ⟨x0, x1, x2⟩ := bx.cells3
  obtain ⟨y0, y1, y2⟩ := by'.cells3
  go_wp2_with (first
    | (go_at_call 13; refine (begun_any _).mono ?_; rintro e f0 ⟨rfl, hb0⟩; replace hB := bt hB hb0; replace bx := bx.kept hb0; replace by' := by'.kept hb0; replace ox := ox.below hb0; replace oy := oy.below hb0; replace om := om.below hb0; replace on := on.below hb0; obtain ⟨x0, x1, x2⟩ := bx.cells3; obtain ⟨y0, y1, y2⟩ := by'.cells3; clear hb0)
    | (go_at_call 14; refine (rsame_any Vx Vy X X _ ox oy).mono ?_; rw [HX.out]; rintro e f1 ⟨rfl, hb1⟩; replace hB := bt hB hb1; replace om := om.below hb1; replace on := on.below hb1; clear hb1)
    | (go_at_call 24; refine (sameRecs_any _ _ _ _ _ _ M M _ om on).mono ?_; rw [sameL_iff.2 rfl]; rintro e f2 ⟨rfl, hb2⟩; replace hB := bt hB hb2; clear hb2))
  go_ret
  exact ⟨rfl, hB⟩
set_option maxRecDepth 100000 in
theorem changes_lifted (os : Os) (started : os.Started) (H : Type) (enc : TypeId × Value → H) :
    ReturnsInHanded {} Try.checked os 4 .any (Rows.mapChangesSpec.pre6 enc Try.prog Try.f4 Rows.mapChangesRow.domain false) (Rows.mapChangesSpec.post enc Try.prog Try.f4 false true false false) := by
  refine returnsInHanded_of_change_sized (C := Try.checked) own started (by kernel_rfl) Try.func4
    (ChangeSpec.witness6 (enc := enc) (C := Try.checked) false ⟨#[], #[.agg #[.slice none 0 0, .slice none 0 0, .int .i64 0], .agg #[.slice none 0 0, .slice none 0 0, .int .i64 0], .slice none 0 0], []⟩ 8 (by kernel_rfl) (by kernel_rfl) (by kernel_rfl) (by kernel_rfl)) ?_
  intro W base args ds gs before hval0 hW hcnd hsz0 _
  have hval : ∀ (j : Nat) t v, Try.f4.params[j]? = some t → args[j]? = some v → Value.okWide Try.prog W .any base t v := hval0
  have hsz : (DataW.weightsEach Try.prog (Try.f4.params.toList ++ Rows.mapChangesSpec.plain.varTypes Try.prog) (ds ++ gs)).all (· ≤ reachBytes) = true := hsz0
  have hW' := hW
  obtain ⟨p, q, hA0, hV, rfl, hfz, hnd⟩ := hW
  have hA : DataW.TrodAll enc Try.prog W 0 (fun _ => true) true Try.f4.params.toList args.toList ds p := hA0
  rw [Try.params4] at hA hval hsz
  obtain ⟨v0, vs0, d0, ds0, p0, q0, hargs, rfl, rfl, h0, r0⟩ := trodAll_cons hA
  obtain ⟨v1, vs1, d1, ds1, p1, q1, rfl, rfl, rfl, h1, r1⟩ := trodAll_cons r0
  obtain ⟨v2, vs2, d2, ds2, p2, q2, rfl, rfl, rfl, h2, r2⟩ := trodAll_cons r1
  obtain ⟨rfl, rfl, rfl⟩ := trodAll_nil r2
  obtain rfl : args = #[v0, v1, v2] := by cases args; simp_all
  obtain ⟨rfl, rfl⟩ := trodVars_none hV
  have lt0 : ∀ x ∈ p0, x.block < W.heap.size := by obtain ⟨m, hm⟩ := h0; exact DataW.trod_lt m _ _ _ hm
  obtain ⟨Va, Sa, hv0, hr0⟩ := openState (hval 0 25 v0 rfl rfl) h0 hsz (j := 0) rfl rfl
  subst hv0
  have lt1 : ∀ x ∈ p1, x.block < W.heap.size := by obtain ⟨m, hm⟩ := h1; exact DataW.trod_lt m _ _ _ hm
  obtain ⟨Vb, Sb, hv1, hr1⟩ := openState (hval 1 25 v1 rfl rfl) h1 hsz (j := 1) rfl rfl
  subst hv1
  have lt2 : ∀ x ∈ p2, x.block < W.heap.size := by obtain ⟨m, hm⟩ := h2; exact DataW.trod_lt m _ _ _ hm
  obtain ⟨spl, snl, scl, sll, hv2, hr2, hn2⟩ := openRecs (okWide_slice Try.underlying34 (hval 2 34 v2 rfl rfl)) h2 hsz (j := 2) rfl rfl
  subst hv2
  clear hA0 hval0 hsz0
  refine (changes_walk Va Vb Sa Sb spl snl scl sll W hr0 hr1 hr2).mono fun e W' ⟨he, bel⟩ => ?_
  subst he
  exact ⟨_, rfl, _, _, _, [], _, [], hW', trodAll_mk1 (shut_bool Try.underlying4 _), (trodAll_cons_mk (Below.trod laidOut (by kernel_rfl) (of_decide_eq_true (by kernel_rfl)) h0 bel lt0) (trodAll_cons_mk (Below.trod laidOut (by kernel_rfl) (of_decide_eq_true (by kernel_rfl)) h1 bel lt1) (trodAll_cons_mk (Below.trod laidOut (by kernel_rfl) (of_decide_eq_true (by kernel_rfl)) h2 bel lt2) trodAll_mk0))), rfl, bel.frame _, fun h => by cases h⟩
theorem mapChanges_holds : Rows.MapChangesSaid :=
  OpenClaim.holds_of_wide 4 Try.f4 rfl rfl rfl rfl rfl rfl rfl ⟨rfl, rfl, rfl, rfl, rfl⟩ rfl rfl rfl rfl rfl (by kernel_rfl) Try.func4 (by kernel_rfl)
    (of_decide_eq_true (by kernel_rfl)) (by unfold Func.isWrapper; first | (rw [if_pos (by decide +kernel)]; kernel_rfl) | (rw [if_neg (by decide +kernel)]; exact ⟨rfl, rfl⟩))
    (fun os started H enc _ => changes_lifted os started H enc)
#print axioms mapChanges_holds
end Go.Proofs.Ytpikaagdiafieaa
