/-
  scan's copies: what its iterator gives.
-/
import Derived.Test.YtfgelncfmopibaaSnRound
namespace Go.Proofs.Ytfgelncfmopibaa
open Go.RowKit Go.Shelf
attribute [local go_sem] Oper.semAt_some
/-- What counts. -/
abbrev CF (P : Int) := { f : Fd // cntB P f = true }
def cfs (P : Int) (xs : List Fd) : List (CF P) := xs.filterMap fun f => if h : cntB P f = true then some ⟨f, h⟩ else none
theorem cfs_val (P : Int) (xs : List Fd) : (cfs P xs).map (·.1) = xs.filter (cntB P) := by
  induction xs with
  | nil => rfl
  | cons x xs ih =>
    unfold cfs at ih ⊢
    by_cases h : cntB P x = true
    · simp [h, ih]
    · simp [h, ih]
theorem cfs_yes {P : Int} {xs : List Fd} {x : Fd} (h : cntB P x = true) : cfs P (xs ++ [x]) = cfs P xs ++ [⟨x, h⟩] := by simp [cfs, h]
theorem cfs_no {P : Int} {xs : List Fd} {x : Fd} (h : cntB P x = false) : cfs P (xs ++ [x]) = cfs P xs := by simp [cfs, h]
/-- What yield is handed. -/
def encF {P : Int} (x : CF P) : Array Value := #[x.1.val]
/-- The boxes of the slice and of the number, and the block of the elements, lie as they lay. -/
def KpF (B1 B2 N : Nat) (p : Option Addr) (A B : World) : Prop := (B.heap[B1]? = A.heap[B1]? ∧ B.heap[B2]? = A.heap[B2]? ∧ A.heap.size ≤ B.heap.size) ∧ (0 < N → ∀ a, p = some a → B.heap[a.block]? = A.heap[a.block]?)
theorem KpF.refl (B1 B2 N : Nat) (p : Option Addr) (A : World) : KpF B1 B2 N p A A := ⟨⟨rfl, rfl, Nat.le_refl _⟩, fun _ _ _ => rfl⟩
theorem KpF.trans {B1 B2 N : Nat} {p : Option Addr} {A B C : World} (h : KpF B1 B2 N p A B) (k : KpF B1 B2 N p B C) : KpF B1 B2 N p A C := ⟨⟨k.1.1.trans h.1.1, k.1.2.1.trans h.1.2.1, Nat.le_trans h.1.2.2 k.1.2.2⟩, fun h0 a e => (k.2 h0 a e).trans (h.2 h0 a e)⟩
theorem InF.keptK {B1 B2 : Nat} {A B : World} {p : Option Addr} {n c : Nat} {xs : List Fd} (hp : InF A p n c xs) (h : KpF B1 B2 n p A B) : InF B p n c xs := by
  refine ⟨hp.len, hp.cap, hp.max, hp.room, fun h0 => ?_, hp.nil⟩
  obtain ⟨b, o, e, hlt, hc⟩ := hp.at' h0
  have hk := fun j => World.cell?_of_block (a := ⟨b, j, none⟩) (h.2 h0 ⟨b, o, none⟩ e)
  refine ⟨b, o, e, Nat.lt_of_lt_of_le hlt h.1.2.2, fun i hi => ?_⟩
  obtain ⟨h0, h1, h2, h3, h4, h5⟩ := hc i hi
  exact ⟨(hk _).trans h0, (hk _).trans h1, (hk _).trans h2, (hk _).trans h3, (hk _).trans h4, (hk _).trans h5⟩
theorem KpF.below {B1 B2 N : Nat} {p : Option Addr} {A B : World} (h : Below A.heap.size A B) (h1 : B1 < A.heap.size) (h2 : B2 < A.heap.size) (h3 : 0 < N → ∀ a, p = some a → a.block < A.heap.size) : KpF B1 B2 N p A B :=
  ⟨⟨h.block _ h1, h.block _ h2, h.size⟩, fun h0 a e => h.block _ (h3 h0 a e)⟩
theorem KpF.turned {B1 B2 N g : Nat} {p : Option Addr} {A B : World} (h : Turned A B g) (h1 : B1 ≠ g) (h2 : B2 ≠ g) (h3 : 0 < N → ∀ a, p = some a → a.block ≠ g) : KpF B1 B2 N p A B :=
  ⟨⟨h.block _ h1, h.block _ h2, Nat.le_of_eq h.size.symm⟩, fun h0 a e => h.block _ (h3 h0 a e)⟩
theorem KeepsOthers.of_below {A B : World} (h : Below A.heap.size A B) : KeepsOthers A B := ⟨h.size, fun k _ hk _ => (h.block k (Array.getElem?_eq_some_iff.1 hk).1).trans hk⟩
theorem KeepsOthers.of_turned {A B : World} {g : Nat} {t : TypeId} {cs : List Value} (h : Turned A B g) (hb : Blk A g t cs) : KeepsOthers A B := ⟨Nat.le_of_eq h.size.symm, fun k o hk ho => by
  by_cases e : k = g
  · subst e; rw [show A.heap[k]? = _ from hb] at hk; cases hk; cases ho
  · exact (h.block k e).trans hk⟩
theorem copies_call (P : Int) (a : Option Addr) (len cap : Nat) (w : World) :
    Calls Try.prog 37 #[.int .i64 P, .slice a len cap] w fun e w' => e = .returned (.func (.func 69) #[] #[.pointer (some ⟨w.heap.size + 1, 0, none⟩), .pointer (some ⟨w.heap.size, 0, none⟩)]) ∧ w' = (w.alloc (.cells #[.int .i64 P] 3)).alloc (.cells #[.slice a len cap] 27) := by
  go_enter Try.func37, Try.ntmps37
  go_wp2
  go_ret
  exact ⟨rfl, rfl⟩
set_option linter.unusedSimpArgs false in
set_option maxRecDepth 100000 in
set_option maxHeartbeats 4000000 in
/-- copies's closure, for every loop body that keeps its boxes and the slice. -/
theorem copies1_in (n : Nat) (hn : 2 ≤ n) (l B1 B2 c N : Nat) (p : Option Addr) (P : Int) (xs : List Fd) (J Jx : List (CF P) → World → Prop) (W : World)
    (hJ : AbidesFrom W.heap.size J)
    (hY : ∀ pre x W, J pre W → pre.length < (cfs P xs).length → YieldAt Fence.wide (n - 1) Try.prog l (encF x) W fun e W' =>
      (e = .returned (.bool true) ∧ J (pre ++ [x]) W' ∧ KpF B1 B2 N p W W') ∨ (e = .returned (.bool false) ∧ Jx (pre ++ [x]) W'))
    (h1 : W.cell? ⟨B1, 0, none⟩ = some (.slice p N c)) (h2 : W.cell? ⟨B2, 0, none⟩ = some (.int .i64 P)) (g1 : B1 < W.heap.size) (g2 : B2 < W.heap.size) (hp : InF W p N c xs) (h0 : J [] W) :
    CallsIn Fence.wide n Try.prog 69 #[.func (.yield l) #[] #[], .pointer (some ⟨B1, 0, none⟩), .pointer (some ⟨B2, 0, none⟩)] W fun e W' => (∃ v, e = .returned v) ∧
      ((∃ ys, ys = cfs P xs ∧ J ys W') ∨ (∃ pre, True ∧ Jx pre W')) := by
  have hroom := hp.room
  have hn1 : 1 ≤ n := by omega
  have HL : Hid (xs.length = N) := hp.len
  have hblk : ∀ a, p = some a → 0 < N → a.block < W.heap.size := fun a e h0 => by
    obtain ⟨b, o, e', hlt, _⟩ := hp.at' h0
    rw [e] at e'; cases e'; exact hlt
  refine callsIn_of_wp Try.func69 rfl trivial ?_ rfl
  simp only [Try.ntmps69, List.size_toArray, List.length_cons, List.length_nil, Nat.reduceAdd, Nat.reduceSub, Array.replicate_succ, Array.replicate_zero, List.push_toArray, List.append_toArray, List.nil_append, List.cons_append]
  gi_wp2
  gi_loopw [9] (fun i wr => ∃ k : Nat, k ≤ N ∧ i = .int .i64 k ∧ J (cfs P (xs.take k)) wr ∧ KpF B1 B2 N p W wr) (fun i _ => N - (intOf i).toNat)
  case atStart => exact ⟨0, Nat.zero_le _, rfl, h0, KpF.refl _ _ _ _ _⟩
  case round =>
    obtain ⟨k, hk, rfl, hJs, hnx⟩ := hrel
    by_cases hlt : k < N
    · have hpx := hp.keptK hnx
      obtain ⟨b, o, rfl, hbl, hc⟩ := hpx.at' (by omega)
      obtain ⟨e0, e1, e2, e3, e4, e5⟩ := hc k hlt
      have hxl : k < xs.length := by rw [HL.out]; exact hlt
      have HU : Hid (xs.take (k + 1) = xs.take k ++ [eF xs k]) := takeF_succ xs k hxl
      have HLen : Hid (∀ h : cntB P (eF xs k) = true, (cfs P (xs.take k)).length < (cfs P xs).length) := by
        intro hq
        have e1 : (cfs P (xs.take (k + 1))).length = (cfs P (xs.take k)).length + 1 := by rw [HU.out, cfs_yes hq]; simp
        have hle : ((xs.take (k + 1)).filter (cntB P)).length ≤ (xs.filter (cntB P)).length := (List.Sublist.filter _ (List.take_sublist _ _)).length_le
        rw [← cfs_val, ← cfs_val, List.length_map, List.length_map] at hle
        omega
      generalize eF xs k = x at *
      have f2 : wr.cell? ⟨B2, 0, none⟩ = some (.int .i64 P) := (World.cell?_of_block (a := ⟨B2, 0, none⟩) hnx.1.2.1).trans h2
      have gs := hnx.1.2.2
      obtain ⟨xh, xg, xk, xp, xs', xt⟩ := x
      dsimp only at e0 e1 e2 e3 e4 e5
      clear hc hpx
      have hJ2 : ∀ W', Below wr.heap.size wr W' → J (cfs P (xs.take k)) W' := fun W' hb => hJ _ _ _ none hJs (grown_of hb) (fun r e => by cases e)
      have hK2 : ∀ W', Below wr.heap.size wr W' → KpF B1 B2 N (some ⟨b, o, none⟩) W W' := fun W' hb => hnx.trans (KpF.below hb (by omega) (by omega) (fun _ a e => by cases e; exact hbl))
      have ba : Below wr.heap.size wr (wr.alloc (.cells #[.int .i64 xh, .int .i64 xg, .int .i64 xk, .int .i64 xp, .int .i64 xs', .int .i64 xt] 33)) := below_alloc _ _
      have bb := Blk.new' wr 33 #[.int .i64 xh, .int .i64 xg, .int .i64 xk, .int .i64 xp, .int .i64 xs', .int .i64 xt]
      have a2 : (wr.alloc (.cells #[.int .i64 xh, .int .i64 xg, .int .i64 xk, .int .i64 xp, .int .i64 xs', .int .i64 xt] 33)).cell? ⟨B2, 0, none⟩ = some (.int .i64 P) := (ba.cell (p := ⟨B2, 0, none⟩) (by show B2 < _; omega)).trans f2
      have g2' : B2 < wr.heap.size := by omega
      clear hJs
      cases hch : chkB xk xp xs' xt with
      | false =>
        have hq : cntB P ⟨xh, xg, xk, xp, xs', xt⟩ = false := by simp [cntB, hch]
        have hE : chkE xk xp xs' xt = 30 := by simp [chkE, hch]
        have HU' : Hid (cfs P (xs.take (k + 1)) = cfs P (xs.take k)) := by show _ = _; rw [HU.out, cfs_no hq]
        gi_wp2_with (first | (refine ⟨trivial, ?_⟩; gi_at_call 42; refine (callsIn_wide.2 (gcheck_any _ _ _ _ _)).mono ?_; rintro e w1 ⟨rfl, hb1⟩; have q1 := bb.kept hb1; have t1 := bt ba hb1; have a3 := (hb1.cell (p := ⟨B2, 0, none⟩) (by show B2 < _; have := ba.size; omega)).trans a2; have hr1 := hK2 _ t1; have hr2 := hJ2 _ t1; clear hb1; have z0 := q1.cell' (i := 0) rfl; have z1 := q1.cell' (i := 1) rfl; have z2 := q1.cell' (i := 2) rfl; have z3 := q1.cell' (i := 3) rfl; have z4 := q1.cell' (i := 4) rfl; have z5 := q1.cell' (i := 5) rfl) | (guard_target = Fence.wide.fn _ ∧ _; refine And.intro trivial ?_) | (guard_target = (∀ f : FuncId, none = some f → Fence.wide.fn f) ∧ _; refine And.intro (fun _ _ => trivial) ?_))
        go_roundw
        case rel => exact ⟨k + 1, by omega, by simp, by rw [HU'.out]; exact hr2, hr1⟩
        case measure => simp [intOf]; omega
      | true =>
        have hE : chkE xk xp xs' xt = 0 := by simp [chkE, hch]
        by_cases h3 : xk = 3
        · have hq : cntB P ⟨xh, xg, xk, xp, xs', xt⟩ = false := by simp [cntB, h3]
          have h4 : (xk != 3) = false := by rw [h3]; rfl
          clear h3
          have HU' : Hid (cfs P (xs.take (k + 1)) = cfs P (xs.take k)) := by show _ = _; rw [HU.out, cfs_no hq]
          gi_wp2_with (first | (refine ⟨trivial, ?_⟩; gi_at_call 42; refine (callsIn_wide.2 (gcheck_any _ _ _ _ _)).mono ?_; rintro e w1 ⟨rfl, hb1⟩; have q1 := bb.kept hb1; have t1 := bt ba hb1; have a3 := (hb1.cell (p := ⟨B2, 0, none⟩) (by show B2 < _; have := ba.size; omega)).trans a2; have hr1 := hK2 _ t1; have hr2 := hJ2 _ t1; clear hb1; have z0 := q1.cell' (i := 0) rfl; have z1 := q1.cell' (i := 1) rfl; have z2 := q1.cell' (i := 2) rfl; have z3 := q1.cell' (i := 3) rfl; have z4 := q1.cell' (i := 4) rfl; have z5 := q1.cell' (i := 5) rfl) | (guard_target = Fence.wide.fn _ ∧ _; refine And.intro trivial ?_) | (guard_target = (∀ f : FuncId, none = some f → Fence.wide.fn f) ∧ _; refine And.intro (fun _ _ => trivial) ?_))
          go_roundw
          case rel => exact ⟨k + 1, by omega, by simp, by rw [HU'.out]; exact hr2, hr1⟩
          case measure => simp [intOf]; omega
        · have h4 : (xk != 3) = true := by rw [bne_iff_ne]; exact h3
          cases ho : onB P xh xg with
          | false =>
            have hq : cntB P ⟨xh, xg, xk, xp, xs', xt⟩ = false := by simp [cntB, ho]
            clear h3
            have HU' : Hid (cfs P (xs.take (k + 1)) = cfs P (xs.take k)) := by show _ = _; rw [HU.out, cfs_no hq]
            gi_wp2_with (first | (refine ⟨trivial, ?_⟩; gi_at_call 42; refine (callsIn_wide.2 (gcheck_any _ _ _ _ _)).mono ?_; rintro e w1 ⟨rfl, hb1⟩; have q1 := bb.kept hb1; have t1 := bt ba hb1; have a3 := (hb1.cell (p := ⟨B2, 0, none⟩) (by show B2 < _; have := ba.size; omega)).trans a2; have hr1 := hK2 _ t1; have hr2 := hJ2 _ t1; clear hb1; have z0 := q1.cell' (i := 0) rfl; have z1 := q1.cell' (i := 1) rfl; have z2 := q1.cell' (i := 2) rfl; have z3 := q1.cell' (i := 3) rfl; have z4 := q1.cell' (i := 4) rfl; have z5 := q1.cell' (i := 5) rfl) | (refine ⟨trivial, ?_⟩; gi_at_call 70; refine (callsIn_wide.2 (isOn_any _ _ _ _)).mono ?_; rintro e w2 ⟨rfl, hb2⟩; have q2 := q1.kept hb2; have t2 := bt t1 hb2; clear hb2; have v0 := q2.cell' (i := 0) rfl; have v1 := q2.cell' (i := 1) rfl; have v2 := q2.cell' (i := 2) rfl; have v3 := q2.cell' (i := 3) rfl; have v4 := q2.cell' (i := 4) rfl; have v5 := q2.cell' (i := 5) rfl; have hr1 := hK2 _ t2; have hr2 := hJ2 _ t2) | (guard_target = Fence.wide.fn _ ∧ _; refine And.intro trivial ?_) | (guard_target = (∀ f : FuncId, none = some f → Fence.wide.fn f) ∧ _; refine And.intro (fun _ _ => trivial) ?_))
            go_roundw
            case rel => exact ⟨k + 1, by omega, by simp, by rw [HU'.out]; exact hr2, hr1⟩
            case measure => simp [intOf]; omega
          | true =>
            have hq : cntB P ⟨xh, xg, xk, xp, xs', xt⟩ = true := by simp [cntB, ho, hch, h3]
            clear h3
            have HU' : Hid (cfs P (xs.take (k + 1)) = cfs P (xs.take k) ++ [⟨⟨xh, xg, xk, xp, xs', xt⟩, hq⟩]) := by show _ = _; rw [HU.out, cfs_yes hq]
            gi_wp2_with (first | (refine ⟨trivial, ?_⟩; gi_at_call 42; refine (callsIn_wide.2 (gcheck_any _ _ _ _ _)).mono ?_; rintro e w1 ⟨rfl, hb1⟩; have q1 := bb.kept hb1; have t1 := bt ba hb1; have a3 := (hb1.cell (p := ⟨B2, 0, none⟩) (by show B2 < _; have := ba.size; omega)).trans a2; have hr1 := hK2 _ t1; have hr2 := hJ2 _ t1; clear hb1; have z0 := q1.cell' (i := 0) rfl; have z1 := q1.cell' (i := 1) rfl; have z2 := q1.cell' (i := 2) rfl; have z3 := q1.cell' (i := 3) rfl; have z4 := q1.cell' (i := 4) rfl; have z5 := q1.cell' (i := 5) rfl) | (refine ⟨trivial, ?_⟩; gi_at_call 70; refine (callsIn_wide.2 (isOn_any _ _ _ _)).mono ?_; rintro e w2 ⟨rfl, hb2⟩; have q2 := q1.kept hb2; have t2 := bt t1 hb2; clear hb2; have v0 := q2.cell' (i := 0) rfl; have v1 := q2.cell' (i := 1) rfl; have v2 := q2.cell' (i := 2) rfl; have v3 := q2.cell' (i := 3) rfl; have v4 := q2.cell' (i := 4) rfl; have v5 := q2.cell' (i := 5) rfl; have hr1 := hK2 _ t2; obtain ⟨fn, tmps, assign, body, hy, hR⟩ := hY _ ⟨⟨xh, xg, xk, xp, xs', xt⟩, hq⟩ _ (hJ2 _ t2) (HLen.out hq); clear hY; dsimp only [encF, Fd.val] at hy))
            refine hR.mono ?_
            rintro e W3 (⟨rfl, hJ3, hk3⟩ | ⟨rfl, hJx3⟩)
            · gi_wp2
              go_roundw
              case rel => exact ⟨k + 1, by omega, by simp, by rw [HU'.out]; exact hJ3, hr1.trans hk3⟩
              case measure => simp [intOf]; omega
            · gi_wp2
              refine bodyPost_ret (results_none rfl _ _ _) rfl ?_
              exact ⟨⟨_, rfl⟩, .inr ⟨_, trivial, hJx3⟩⟩
    · obtain rfl : k = N := by omega
      rw [List.take_of_length_le (by rw [HL.out]; exact Nat.le_refl _)] at hJs
      gi_wp2
      go_end0
      exact ⟨⟨_, rfl⟩, .inl ⟨_, rfl, hJs⟩⟩
theorem copies_stops (n : Nat) (hn : 2 ≤ n) (B1 B2 c N : Nat) (p : Option Addr) (P : Int) (xs : List Fd) (w : World) (g1 : B1 < w.heap.size) (g2 : B2 < w.heap.size)
    (h1 : w.cell? ⟨B1, 0, none⟩ = some (.slice p N c)) (h2 : w.cell? ⟨B2, 0, none⟩ = some (.int .i64 P)) (hI : InF w p N c xs) :
    SeqStopsK Fence.wide n Try.prog 69 #[.pointer (some ⟨B1, 0, none⟩), .pointer (some ⟨B2, 0, none⟩)] encF (KpF B1 B2 N p) (fun ys => ys = cfs P xs) (fun _ => True) (cfs P xs).length w := fun l J Jx W hW hJ _ hY h0 =>
  copies1_in n hn l B1 B2 c N p P xs J Jx W hJ hY ((hW.cell (p := ⟨B1, 0, none⟩) g1).trans h1) ((hW.cell (p := ⟨B2, 0, none⟩) g2).trans h2) (Nat.lt_of_lt_of_le g1 hW.size) (Nat.lt_of_lt_of_le g2 hW.size) (hI.below hW) h0
end Go.Proofs.Ytfgelncfmopibaa
