/-
  parts, as an iterator that tells each round what came so far.
-/
import Derived.Test.YtmboohadindlfaaXtT8
import Derived.Test.YtmboohadindlfaaRg2
import Derived.Shelf.RegionOpen
import Derived.OwnWalkIn
import Derived.TacticsInMore
import Derived.LoopNIn
import Derived.LoopIn
namespace Go.Proofs.Ytmboohadindlfaa
open Go.RowKit Go.Shelf
attribute [local go_sem] Oper.semAt_some
/-- The blocks of F lie as they lay, but for l. -/
structure KpF (F : Nat → Prop) (l : Nat) (A B : World) : Prop where
  size : A.heap.size ≤ B.heap.size
  same : ∀ k, F k → k ≠ l → B.heap[k]? = A.heap[k]?
theorem KpF.trans {F : Nat → Prop} {l : Nat} {A B C : World} (h : KpF F l A B) (k : KpF F l B C) : KpF F l A C := ⟨Nat.le_trans h.size k.size, fun j hj e => (k.same j hj e).trans (h.same j hj e)⟩
theorem KpF.refl (F : Nat → Prop) (l : Nat) (A : World) : KpF F l A A := ⟨Nat.le_refl _, fun _ _ _ => rfl⟩
theorem KpF.put (F : Nat → Prop) (W : World) (l : Nat) (o' : Obj) : KpF F l W (W.putObj l o') := ⟨by rw [World.putObj_size]; exact Nat.le_refl _, fun _ _ e => World.putObj_heap_other e⟩
def FP (N B1 B2 B3 : Nat) (p : Option Addr) (k : Nat) : Prop := k = B1 ∨ k = B2 ∨ k = B3 ∨ (0 < N ∧ ∃ a, p = some a ∧ k = a.block)
theorem FP.lt {W : World} {N B1 B2 B3 : Nat} {p : Option Addr} {c : Nat} {f t : Int} {xs : List Ext} (h : PartsIn W N B1 B2 B3 p c f t xs) {k : Nat} (hk : FP N B1 B2 B3 p k) : k < W.heap.size := by
  rcases hk with rfl | rfl | rfl | ⟨h0, a, ha, rfl⟩
  · exact h.bl.lt
  · exact h.bf.lt
  · exact h.bt.lt
  · exact h.inn.lt h0 a ha
theorem PartsIn.sameF {A B : World} {N B1 B2 B3 : Nat} {p : Option Addr} {c : Nat} {f t : Int} {xs : List Ext} (h : PartsIn A N B1 B2 B3 p c f t xs) (hs : A.heap.size ≤ B.heap.size) (hk : ∀ k, FP N B1 B2 B3 p k → B.heap[k]? = A.heap[k]?) : PartsIn B N B1 B2 B3 p c f t xs :=
  h.kept ⟨hk _ (.inl rfl), hk _ (.inr (.inl rfl)), hk _ (.inr (.inr (.inl rfl))), hs, fun h0 a ha => hk _ (.inr (.inr (.inr ⟨h0, a, ha, rfl⟩)))⟩
set_option linter.unusedSimpArgs false in
set_option maxRecDepth 100000 in
set_option maxHeartbeats 4000000 in
/-- The closure of parts, for every loop body that keeps what it stands on. -/
theorem parts_feeds (n : Nat) (hn : 2 ≤ n) (N B1 B2 B3 : Nat) (p : Option Addr) (c : Nat) (f t : Int) (xs : List Ext) (w : World) (h1 : PartsIn w N B1 B2 B3 p c f t xs) :
    Feeds2 Try.prog n 53 #[.pointer (some ⟨B1, 0, none⟩), .pointer (some ⟨B2, 0, none⟩), .pointer (some ⟨B3, 0, none⟩)] encV (fun _ _ => True) (KpF (FP N B1 B2 B3 p)) (fun ys => ys = runsV f t xs) (fun pre => pre <+: runsV f t xs) w := by
  intro l J Jx W hW hwl hlW hJ0 hJx hY h0
  have hneE : ∀ {A B : World}, KpF (FP N B1 B2 B3 p) l A B → KpE N B1 B2 B3 p A B := fun {A B} hk => by
    have g1 := h1.bl.lt
    have g2 := h1.bf.lt
    have g3 := h1.bt.lt
    refine ⟨hk.same _ (.inl rfl) (by omega), hk.same _ (.inr (.inl rfl)) (by omega), hk.same _ (.inr (.inr (.inl rfl))) (by omega), hk.size, fun h0 a ha => hk.same _ (.inr (.inr (.inr ⟨h0, a, ha, rfl⟩))) ?_⟩
    have := h1.inn.lt h0 a ha
    omega
  have hJ : AbidesFrom W.heap.size J := fun s W W' row h hg hr => hJ0 s W W' row h hg (fun r e => by obtain ⟨h1, o, ho, hw⟩ := hr r e; exact ⟨h1, o, ho, Obj.not_cells_of_walk hw⟩)
  replace h1 := h1.below hW
  have hroom := h1.inn.room
  have hn1 : 1 ≤ n := by omega
  have HL : Hid (xs.length = N) := h1.inn.len
  have c0 := h1.bl.cell' (i := 0) rfl
  refine callsIn_of_wp Try.func53 rfl trivial ?_ rfl
  simp only [Try.ntmps53, List.size_toArray, List.length_cons, List.length_nil, Nat.reduceAdd, Nat.reduceSub, Array.replicate_succ, Array.replicate_zero, List.push_toArray, List.append_toArray, List.nil_append, List.cons_append]
  gi_wp2
  clear c0
  gi_loopw [10] (fun i wr => ∃ k : Nat, k ≤ N ∧ i = .int .i64 k ∧ J (runsV f t (xs.take k)) wr ∧ KpE N B1 B2 B3 p W wr) (fun i _ => N - (intOf i).toNat)
  case atStart => exact ⟨0, Nat.zero_le _, rfl, h0, KpE.refl _ _ _ _ _ _⟩
  case round =>
    obtain ⟨k, hk, rfl, hJs, hnx⟩ := hrel
    by_cases hlt : k < N
    · have hP := h1.kept hnx
      have hlow := hP.inn.lt (by omega)
      obtain ⟨b, o, hpe, hbl, hc⟩ := hP.inn.at' (by omega)
      subst hpe
      obtain ⟨e0, e1, e2⟩ := hc k hlt
      have hxl : k < xs.length := by rw [HL.out]; exact hlt
      have HU : Hid (xs.take (k + 1) = xs.take k ++ [eE xs k]) := takeE_succ xs k hxl
      have hone := h1.one (eE xs k) (eE_mem hxl)
      have hpre := runsV_prefix f t xs (k + 1)
      have f2 := hP.bf.cell' (i := 0) rfl
      have f3 := hP.bt.cell' (i := 0) rfl
      have g1 := hP.bl.lt
      have g2 := hP.bf.lt
      have g3 := hP.bt.lt
      have hwi := fun W' => within_any (eE xs k) f t W' hone
      have a2 := (hP.bf.alloc (.cells #[.int .i64 (eE xs k).lo, .int .i64 (eE xs k).ln, .int .i64 (eE xs k).ph] 31)).cell' (i := 0) rfl
      have a3 := (hP.bt.alloc (.cells #[.int .i64 (eE xs k).lo, .int .i64 (eE xs k).ln, .int .i64 (eE xs k).ph] 31)).cell' (i := 0) rfl
      have ba := below_alloc wr (.cells #[.int .i64 (eE xs k).lo, .int .i64 (eE xs k).ln, .int .i64 (eE xs k).ph] 31)
      have hJ2 : ∀ W', Below wr.heap.size wr W' → J (runsV f t (xs.take k)) W' := fun W' hb => hJ _ _ _ none hJs (grown_of hb) (fun r e => by cases e)
      have hK2 : ∀ W', Below wr.heap.size wr W' → KpE N B1 B2 B3 (some ⟨b, o, none⟩) W W' := fun W' hb => hnx.trans (KpE.of_below hb g1 g2 g3 (fun _ a e => hlow a e))
      clear hJs hP hc hlow
      cases hp : oneB (partE f t (eE xs k)) with
      | false =>
        have HU' : Hid (runsV f t (xs.take (k + 1)) = runsV f t (xs.take k)) := by show _ = _; rw [HU.out, runsV_no hp]
        have hpb : partB f t (eE xs k) = false := by
          cases hq : partB f t (eE xs k) with
          | false => rfl
          | true => rw [part_one hone hq] at hp; cases hp
        simp only [partE_no hpb] at hwi
        clear hp hpb hpre hone
        generalize eE xs k = x at *
        gi_wp2_with (first | (refine ⟨trivial, ?_⟩; gi_at_call 38; refine (callsIn_wide.2 (hwi _)).mono ?_; rintro e w1 ⟨rfl, hb1⟩; have t1 := bt ba hb1; have t2 := below_al t1 (.cells #[.int .i64 0, .int .i64 0, .int .i64 0] 31); have hr1 := hK2 _ t2; have hr2 := hJ2 _ t2; clear hb1) | (guard_target = Fence.wide.fn _ ∧ _; refine And.intro trivial ?_) | (guard_target = (∀ f : FuncId, none = some f → Fence.wide.fn f) ∧ _; refine And.intro (fun _ _ => trivial) ?_))
        go_roundw
        case rel => exact ⟨k + 1, by omega, by simp, by rw [HU'.out]; exact hr2, hr1⟩
        case measure => simp [intOf]; omega
      | true =>
        have HU' : Hid (runsV f t (xs.take (k + 1)) = runsV f t (xs.take k) ++ [⟨partE f t (eE xs k), hp⟩]) := by show _ = _; rw [HU.out, runsV_yes hp]
        rw [HU'.out] at hpre
        have HP : Hid (runsV f t (xs.take k) ++ [⟨partE f t (eE xs k), hp⟩] <+: runsV f t xs) := hpre
        have HLen : Hid ((runsV f t (xs.take k)).length < (runsV f t xs).length) := by
          show _ < _
          have := hpre.length_le
          rw [List.length_append, List.length_singleton] at this
          omega
        clear hpre hone
        generalize eE xs k = x at *
        generalize partE f t x = y at *
        obtain ⟨ya, ym, yp⟩ := y
        have hym : ym > 0 := by have := oneB_iff.1 hp; dsimp only at this; omega
        gi_wp2_with (refine ⟨trivial, ?_⟩; gi_at_call 38; refine (callsIn_wide.2 (hwi _)).mono ?_; rintro e w1 ⟨rfl, hb1⟩; have t1 := bt ba hb1; have t2 := below_al t1 (.cells #[.int .i64 ya, .int .i64 ym, .int .i64 yp] 31); have hr1 := hK2 _ t2; obtain ⟨fn, tmps, assign, body, hy, hR⟩ := hY _ ⟨⟨ya, ym, yp⟩, hp⟩ _ (hJ2 _ t2) trivial (hr1.size) HP.out; clear hY hb1; dsimp only [encV, Ext.val] at hy)
        refine hR.mono ?_
        rintro e W3 (⟨rfl, hJ3, hk3⟩ | ⟨rfl, hJx3, hk3⟩)
        · gi_wp2
          go_roundw
          case rel => exact ⟨k + 1, by omega, by simp, by rw [HU'.out]; exact hJ3, hr1.trans (hneE hk3)⟩
          case measure => simp [intOf]; omega
        · gi_wp2
          refine bodyPost_ret (results_none rfl _ _ _) rfl ?_
          exact ⟨⟨_, rfl⟩, .inr ⟨_, HP.out, hJx3⟩⟩
    · obtain rfl : k = N := by omega
      rw [List.take_of_length_le (by rw [HL.out]; exact Nat.le_refl _)] at hJs
      gi_wp2
      go_end0
      exact ⟨⟨_, rfl⟩, .inl ⟨_, rfl, hJs⟩⟩
end Go.Proofs.Ytmboohadindlfaa
