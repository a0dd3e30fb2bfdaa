/-
  runs: what its iterator gives.
-/
import Derived.Test.YthpbeppfiinooaaBmRP
import Derived.Test.YthpbeppfiinooaaDkCells
import Derived.Deep.Cut
import Derived.RangeFuncNested
import Derived.RangeFuncBound
import Derived.RangeFuncCalls
import Derived.RangeFuncLeaves
import Derived.Shelf.RegionOpen
import Derived.OwnWalkIn
import Derived.TacticsInMore
import Derived.LoopNIn
import Derived.LoopIn
namespace Go.Proofs.Ythpbeppfiinooaa
open Go.RowKit Go.Shelf
attribute [local go_sem] Oper.semAt_some
theorem grown_of {w w' : World} (h : Below w.heap.size w w') : w.grownBy w' none := ⟨h.os, h.tape, h.output, h.size, fun k hk _ => h.block k hk⟩
/-- What yield is handed. -/
def encP (x : Pie) : Array Value := #[.int .i64 (x.a : Int), .int .i64 (x.l : Int)]
/-- The boxes and the bytes that are read lie as they lay. -/
structure KpR (N Bs Bn : Nat) (p : Option Addr) (A B : World) : Prop where
  s : B.heap[Bs]? = A.heap[Bs]?
  n : B.heap[Bn]? = A.heap[Bn]?
  size : A.heap.size ≤ B.heap.size
  dat : 0 < N → ∀ a, p = some a → B.heap[a.block]? = A.heap[a.block]?
theorem KpR.refl (N Bs Bn : Nat) (p : Option Addr) (A : World) : KpR N Bs Bn p A A := ⟨rfl, rfl, Nat.le_refl _, fun _ _ _ => rfl⟩
theorem KpR.trans {N Bs Bn : Nat} {p : Option Addr} {A B C : World} (h : KpR N Bs Bn p A B) (k : KpR N Bs Bn p B C) : KpR N Bs Bn p A C := ⟨k.s.trans h.s, k.n.trans h.n, Nat.le_trans h.size k.size, fun h0 a e => (k.dat h0 a e).trans (h.dat h0 a e)⟩
theorem KpR.of_below {N Bs Bn : Nat} {p : Option Addr} {A B : World} {m : Nat} (h : Below m A B) (h1 : Bs < m) (h2 : Bn < m) (h3 : 0 < N → ∀ a, p = some a → a.block < m) : KpR N Bs Bn p A B := ⟨h.block Bs h1, h.block Bn h2, h.size, fun h0 a e => h.block _ (h3 h0 a e)⟩
theorem KpR.of_turned {N Bs Bn g : Nat} {p : Option Addr} {A B : World} (h : Turned A B g) (h1 : Bs ≠ g) (h2 : Bn ≠ g) (h3 : 0 < N → ∀ a, p = some a → a.block ≠ g) : KpR N Bs Bn p A B := ⟨h.block Bs h1, h.block Bn h2, Nat.le_of_eq h.size.symm, fun h0 a e => h.block _ (h3 h0 a e)⟩
/-- What the iterator stands on. -/
structure RunsIn (W : World) (N Bs Bn : Nat) (p : Option Addr) (m c : Nat) (xs : List Nat) : Prop where
  bs : Blk W Bs 22 [.slice p m c]
  bn : Blk W Bn 3 [.int .i64 (N : Int)]
  le : N ≤ 2048
  inn : 0 < N → m = 256 ∧ In W p m c xs
theorem RunsIn.kept {A B : World} {N Bs Bn : Nat} {p : Option Addr} {m c : Nat} {xs : List Nat} (h : RunsIn A N Bs Bn p m c xs) (k : KpR N Bs Bn p A B) : RunsIn B N Bs Bn p m c xs := by
  refine ⟨h.bs.same k.s, h.bn.same k.n, h.le, fun h0 => ?_⟩
  obtain ⟨hm, hi⟩ := h.inn h0
  refine ⟨hm, hi.len, hi.cap, hi.max, hi.room, hi.byte, fun h1 => ?_, hi.nil⟩
  obtain ⟨b, o, e, hlt, hc⟩ := hi.at' h1
  exact ⟨b, o, e, Nat.lt_of_lt_of_le hlt k.size, fun i hi' => (World.cell?_of_block (a := ⟨b, o + i, none⟩) (k.dat h0 ⟨b, o, none⟩ e)).trans (hc i hi')⟩
theorem RunsIn.below {A B : World} {N Bs Bn : Nat} {p : Option Addr} {m c : Nat} {xs : List Nat} (h : RunsIn A N Bs Bn p m c xs) (hb : Below A.heap.size A B) : RunsIn B N Bs Bn p m c xs :=
  ⟨h.bs.kept hb, h.bn.kept hb, h.le, fun h0 => ⟨(h.inn h0).1, (h.inn h0).2.below hb⟩⟩
theorem RunsIn.low {A : World} {N Bs Bn : Nat} {p : Option Addr} {m c : Nat} {xs : List Nat} (h : RunsIn A N Bs Bn p m c xs) (h0 : 0 < N) : ∀ a, p = some a → a.block < A.heap.size := by
  intro a ha
  obtain ⟨rfl, hi⟩ := h.inn h0
  obtain ⟨b, o, e, hlt, _⟩ := hi.at' (by decide)
  rw [ha] at e
  cases e
  exact hlt
theorem runTo_step (f : Nat → Bool) (k : Nat) : (runTo f k).1 <+: (runTo f (k + 1)).1 := by
  cases hf : f k with
  | true =>
    rw [runTo_set hf]
    show (runTo f k).1 <+: runsL f k
    unfold runsL
    split
    · exact List.prefix_append _ _
    · exact List.prefix_refl _
  | false => rw [runTo_clear hf]; exact List.prefix_refl _
theorem runTo_mono (f : Nat → Bool) (k d : Nat) : (runTo f k).1 <+: (runTo f (k + d)).1 := by
  induction d with
  | zero => exact List.prefix_refl _
  | succ d ih => exact ih.trans (runTo_step f (k + d))
theorem runTo_prefix (f : Nat → Bool) {k n : Nat} (h : k ≤ n) : (runTo f k).1 <+: runsL f n := by
  have h1 : (runTo f k).1 <+: (runTo f n).1 := by have := runTo_mono f k (n - k); rwa [show k + (n - k) = n by omega] at this
  refine h1.trans ?_
  unfold runsL
  split
  · exact List.prefix_append _ _
  · exact List.prefix_refl _
theorem snoc_lt {l m : List Pie} {x : Pie} (h : l ++ [x] <+: m) : l.length < m.length := by
  have := h.length_le
  rw [List.length_append] at this
  simp at this
  omega
theorem runsL_pos {f : Nat → Bool} {k m : Nat} (h : (runTo f k).2 = m) (h0 : 0 < m) : runsL f k = (runTo f k).1 ++ [mkP (k - m) m] := by unfold runsL; rw [h, if_pos h0]
theorem runsL_zero {f : Nat → Bool} {k : Nat} (h : (runTo f k).2 = 0) : runsL f k = (runTo f k).1 := by unfold runsL; rw [h, if_neg (by decide)]
theorem encP_mk {a l : Nat} (h : a + l ≤ 2048) : encP (mkP a l) = #[.int .i64 (a : Int), .int .i64 (l : Int)] := by unfold encP; rw [mkP_a h, mkP_l h]
set_option linter.unusedSimpArgs false in
set_option maxRecDepth 100000 in
set_option maxHeartbeats 4000000 in
/-- The closure of runs, for every loop body that keeps what it stands on. -/
theorem runs1_in (n : Nat) (hn : 2 ≤ n) (l N Bs Bn : Nat) (p : Option Addr) (m c : Nat) (xs : List Nat) (J Jx : List Pie → World → Prop) (W : World)
    (hJ : AbidesFrom W.heap.size J)
    (hY : ∀ pre x W, J pre W → pre.length < (runsL (bitL xs) N).length → YieldAt Fence.wide (n - 1) Try.prog l (encP x) W fun e W' =>
      (e = .returned (.bool true) ∧ J (pre ++ [x]) W' ∧ KpR N Bs Bn p W W') ∨ (e = .returned (.bool false) ∧ Jx (pre ++ [x]) W'))
    (h1 : RunsIn W N Bs Bn p m c xs) (h0 : J [] W) :
    CallsIn Fence.wide n Try.prog 45 #[.func (.yield l) #[] #[], .pointer (some ⟨Bn, 0, none⟩), .pointer (some ⟨Bs, 0, none⟩)] W fun e W' => (∃ v, e = .returned v) ∧
      ((∃ ys, ys = runsL (bitL xs) N ∧ J ys W') ∨ (∃ pre, pre <+: runsL (bitL xs) N ∧ Jx pre W')) := by
  have hn1 : 1 ≤ n := by omega
  have hle := h1.le
  have c0 := h1.bn.cell' (i := 0) rfl
  have HN : Hid (N ≤ 2048) := hle
  have hNi : (N : Int) ≤ 2048 := by omega
  clear hle
  refine callsIn_of_wp Try.func45 rfl trivial ?_ rfl
  simp only [Try.ntmps45, List.size_toArray, List.length_cons, List.length_nil, Nat.reduceAdd, Nat.reduceSub, Array.replicate_succ, Array.replicate_zero, List.push_toArray, List.append_toArray, List.nil_append, List.cons_append]
  gi_wp2
  clear c0
  gi_loopw [4, 7] (fun s i wr => ∃ k : Nat, k ≤ N ∧ i = .int .i64 k ∧ s = .int .i64 ((runTo (bitL xs) k).2 : Nat) ∧ J (runTo (bitL xs) k).1 wr ∧ KpR N Bs Bn p W wr) (fun _ i _ => N - (intOf i).toNat)
  case atStart => exact ⟨0, Nat.zero_le _, rfl, rfl, h0, KpR.refl _ _ _ _ _⟩
  case round =>
    obtain ⟨k, hk, rfl, rfl, hJs, hnx⟩ := hrel
    have hm2 := runTo_le (bitL xs) k
    have hR := h1.kept hnx
    obtain ⟨m2, HM0⟩ : ∃ m2, (runTo (bitL xs) k).2 = m2 := ⟨_, rfl⟩
    rw [HM0] at hm2 ⊢
    have HM : Hid ((runTo (bitL xs) k).2 = m2) := HM0
    clear HM0
    have hm2i : (m2 : Int) ≤ (k : Int) := by omega
    by_cases hlt : k < N
    · obtain ⟨hm, hi⟩ := hR.inn (by omega)
      subst hm
      have c1 := hR.bs.cell' (i := 0) rfl
      have hs := isSet_any p 256 c xs k wr hi (by have := HN.out; omega)
      have hJd : ∀ j, J (runTo (bitL xs) k).1 (wr.drewN j) := fun j => hJ _ _ _ none hJs (grown_of (below_drewN (Below.refl _ _) _)) (fun r e => by cases e)
      have hKd : ∀ j, KpR N Bs Bn p W (wr.drewN j) := fun j => hnx.trans ⟨rfl, rfl, Nat.le_refl _, fun _ _ _ => rfl⟩
      clear hi hJs hR
      cases hb : bitL xs k with
      | false =>
        rw [hb] at hs
        have HB : Hid (runTo (bitL xs) (k + 1) = ((runTo (bitL xs) k).1, m2 + 1)) := by show _ = _; rw [runTo_clear hb, HM.out]
        clear hb
        gi_wp2_with (refine ⟨trivial, ?_⟩; gi_at_call 33; refine (callsIn_wide.2 hs).mono ?_; rintro e w1 ⟨rfl, j1, rfl⟩)
        go_roundw
        case rel => exact ⟨k + 1, by omega, by simp, by rw [HB.out]; exact val_int (by omega), by rw [HB.out]; exact hJd _, hKd _⟩
        case measure => simp [intOf]; omega
      | true =>
        rw [hb] at hs
        have HB : Hid (runTo (bitL xs) (k + 1) = (runsL (bitL xs) k, 0)) := runTo_set hb
        clear hb
        rcases Nat.eq_zero_or_pos m2 with h00 | h00
        · have HL : Hid (runsL (bitL xs) k = (runTo (bitL xs) k).1) := runsL_zero (by rw [HM.out]; exact h00)
          have hz : (m2 : Int) = 0 := by omega
          have HZ : Hid (m2 = 0) := h00
          clear h00 hm2i
          gi_wp2_with (first | (refine ⟨trivial, ?_⟩; gi_at_call 33; refine (callsIn_wide.2 hs).mono ?_; rintro e w1 ⟨rfl, j1, rfl⟩) | (guard_target = (∀ f : FuncId, none = some f → Fence.wide.fn f) ∧ _; refine And.intro (fun _ _ => trivial) ?_) | (guard_target = Fence.wide.fn _ ∧ _; refine And.intro trivial ?_))
          go_roundw
          case rel => exact ⟨k + 1, by omega, by simp, by rw [HB.out]; rfl, by rw [HB.out]; show J (runsL (bitL xs) k) _; rw [HL.out]; exact hJd _, hKd _⟩
          case measure => simp [intOf]; omega
        · obtain ⟨A, hA⟩ : ∃ A, A = k - m2 := ⟨_, rfl⟩
          have hw : IntKind.i64.wrap ((k : Int) - (m2 : Int)) = (A : Int) := by rw [IntKind.wrap_i64]; have := HN.out; omega
          have HAM : Hid (A + m2 ≤ 2048) := by show _ ≤ _; have := HN.out; omega
          have HL : Hid (runsL (bitL xs) k = (runTo (bitL xs) k).1 ++ [mkP A m2]) := by show _ = _; rw [hA]; exact runsL_pos HM.out h00
          have hpre : (runTo (bitL xs) k).1 ++ [mkP A m2] <+: runsL (bitL xs) N := by
            have := runTo_prefix (bitL xs) (k := k + 1) (n := N) (by omega)
            rw [HB.out] at this
            rw [← HL.out]; exact this
          have HP : Hid ((runTo (bitL xs) k).1 ++ [mkP A m2] <+: runsL (bitL xs) N) := hpre
          have HLt : Hid ((runTo (bitL xs) k).1.length < (runsL (bitL xs) N).length) := snoc_lt hpre
          have hz : (m2 : Int) > 0 := by omega
          clear hpre hA h00 hm2i
          gi_wp2_with (refine ⟨trivial, ?_⟩; gi_at_call 33; refine (callsIn_wide.2 hs).mono ?_; rintro e w1 ⟨rfl, j1, rfl⟩; obtain ⟨fn, tmps, assign, body, hy, hR⟩ := hY _ (mkP A m2) _ (hJd j1) HLt.out; clear hY; rw [encP_mk HAM.out] at hy)
          refine hR.mono ?_
          rintro e W3 (⟨rfl, hJ3, hk3⟩ | ⟨rfl, hJx3⟩)
          · gi_wp2
            go_roundw
            case rel => exact ⟨k + 1, by omega, by simp, by rw [HB.out]; rfl, by rw [HB.out]; show J (runsL (bitL xs) k) _; rw [HL.out]; exact hJ3, (hKd _).trans hk3⟩
            case measure => simp [intOf]; omega
          · gi_wp2
            refine bodyPost_ret (results_none rfl _ _ _) rfl ?_
            exact ⟨⟨_, rfl⟩, .inr ⟨_, HP.out, hJx3⟩⟩
    · obtain rfl : k = N := by omega
      rcases Nat.eq_zero_or_pos m2 with h00 | h00
      · have HL : Hid (runsL (bitL xs) k = (runTo (bitL xs) k).1) := runsL_zero (by rw [HM.out]; exact h00)
        have hz : (m2 : Int) = 0 := by omega
        clear h00 hm2i
        gi_wp2
        go_end0
        exact ⟨⟨_, rfl⟩, .inl ⟨_, rfl, by rw [HL.out]; exact hJs⟩⟩
      · obtain ⟨A, hA⟩ : ∃ A, A = k - m2 := ⟨_, rfl⟩
        have hw : IntKind.i64.wrap ((k : Int) - (m2 : Int)) = (A : Int) := by rw [IntKind.wrap_i64]; have := HN.out; omega
        have HAM : Hid (A + m2 ≤ 2048) := by show _ ≤ _; have := HN.out; omega
        have HL : Hid (runsL (bitL xs) k = (runTo (bitL xs) k).1 ++ [mkP A m2]) := by show _ = _; rw [hA]; exact runsL_pos HM.out h00
        have HLt : Hid ((runTo (bitL xs) k).1.length < (runsL (bitL xs) k).length) := by show _ < _; rw [HL.out, List.length_append]; simp
        have hz : (m2 : Int) > 0 := by omega
        have c1 := hR.bn.cell' (i := 0) rfl
        obtain ⟨fn, tmps, assign, body, hy, hR⟩ := hY _ (mkP A m2) _ hJs HLt.out
        clear hY
        rw [encP_mk HAM.out] at hy
        clear hA h00 hm2i
        gi_wp2
        refine hR.mono ?_
        rintro e W3 (⟨rfl, hJ3, hk3⟩ | ⟨rfl, hJx3⟩)
        · gi_wp2
          go_end0
          exact ⟨⟨_, rfl⟩, .inl ⟨_, rfl, by rw [HL.out]; exact hJ3⟩⟩
        · gi_wp2
          go_end0
          exact ⟨⟨_, rfl⟩, .inr ⟨_, by rw [HL.out]; exact List.prefix_refl _, hJx3⟩⟩
theorem runs_stops (n : Nat) (hn : 2 ≤ n) (N Bs Bn : Nat) (p : Option Addr) (m c : Nat) (xs : List Nat) (w : World) (h1 : RunsIn w N Bs Bn p m c xs) :
    SeqStopsK Fence.wide n Try.prog 45 #[.pointer (some ⟨Bn, 0, none⟩), .pointer (some ⟨Bs, 0, none⟩)] encP (KpR N Bs Bn p) (fun ys => ys = runsL (bitL xs) N) (fun pre => pre <+: runsL (bitL xs) N) (runsL (bitL xs) N).length w := fun l J Jx W hW hJ _ hY h0 =>
  runs1_in n hn l N Bs Bn p m c xs J Jx W hJ hY (h1.below hW) h0
end Go.Proofs.Ythpbeppfiinooaa
