/-
  parts: what its iterator gives; taken.
-/
import Derived.Test.YtmboohadindlfaaXtK
import Derived.RangeFuncNested
import Derived.RangeFuncBound
import Derived.RangeFuncCalls
import Derived.RangeFuncLeaves
import Derived.Shelf.RegionOpen
import Derived.OwnWalkIn
import Derived.TacticsInMore
import Derived.LoopNIn
import Derived.LoopIn
namespace Go.Proofs.Ytmboohadindlfaa
open Go.RowKit Go.Shelf
attribute [local go_sem] Oper.semAt_some
theorem taken_any (p : Option Addr) (n c : Nat) (l : List Ext) (w : World) (h : InE w p n c l) :
    Calls Try.prog 36 #[.slice p n c] w fun e w' => ∃ p' n' c', e = .returned (.slice p' n' c') ∧ InE w' p' n' c' (takenL l) ∧ n' ≤ n ∧ (∀ a, p' = some a → p = some a) ∧ Below w.heap.size w w' := by
  have hc := check_any p n c l w h
  cases hb : chkB l with
  | false =>
    rw [chkE_no hb] at hc
    have HT : Hid (takenL l = []) := by show _ = _; simp [takenL, hb]
    clear hb
    go_enter Try.func36, Try.ntmps36
    go_wp2_with (go_at_call 12; refine hc.mono ?_; rintro e w1 ⟨rfl, hb1⟩)
    go_ret
    exact ⟨none, 0, 0, rfl, by rw [HT.out]; exact InE.empty _, Nat.zero_le _, (fun a ha => by cases ha), hb1⟩
  | true =>
    rw [chkE_ok hb] at hc
    have HT : Hid (takenL l = l) := by show _ = _; simp [takenL, hb]
    clear hb
    go_enter Try.func36, Try.ntmps36
    go_wp2_with (go_at_call 12; refine hc.mono ?_; rintro e w1 ⟨rfl, hb1⟩)
    go_ret
    exact ⟨p, n, c, rfl, by rw [HT.out]; exact h.below hb1, Nat.le_refl _, fun a ha => ha, hb1⟩
/-- An extent that may be. -/
abbrev VE := { e : Ext // oneB e = true }
theorem part_one {f t : Int} {e : Ext} (h : oneB e = true) (hp : partB f t e = true) : oneB (partE f t e) = true := by
  rw [partE_yes hp]; rw [partB_iff] at hp; rw [oneB_iff] at *; dsimp only; omega
theorem part_none {f t : Int} {e : Ext} (hp : partB f t e = false) : oneB (partE f t e) = false := by
  rw [partE_no hp]; rfl
def runsV (f t : Int) (xs : List Ext) : List VE := xs.filterMap fun e => if h : oneB (partE f t e) = true then some ⟨partE f t e, h⟩ else none
theorem runsV_val {f t : Int} {xs : List Ext} (h : ∀ e ∈ xs, oneB e = true) : (runsV f t xs).map (·.1) = runsL f t xs := by
  induction xs with
  | nil => rfl
  | cons x xs ih =>
    have ih := ih (fun e he => h e (List.mem_cons_of_mem _ he))
    have hx := h x List.mem_cons_self
    unfold runsV runsL at *
    cases hp : partB f t x with
    | true => simp [hp, part_one hx hp, ih]
    | false => simp [hp, part_none hp, ih]
theorem runsV_yes {f t : Int} {xs : List Ext} {x : Ext} (h : oneB (partE f t x) = true) : runsV f t (xs ++ [x]) = runsV f t xs ++ [⟨partE f t x, h⟩] := by simp [runsV, h]
theorem runsV_no {f t : Int} {xs : List Ext} {x : Ext} (h : oneB (partE f t x) = false) : runsV f t (xs ++ [x]) = runsV f t xs := by simp [runsV, h]
theorem runsV_prefix (f t : Int) (xs : List Ext) (k : Nat) : runsV f t (xs.take k) <+: runsV f t xs := by
  conv => rhs; rw [← List.take_append_drop k xs]
  unfold runsV
  rw [List.filterMap_append]
  exact List.prefix_append _ _
/-- What yield is handed. -/
def encV (x : VE) : Array Value := #[x.1.val]
/-- The boxes and the extents that are read lie as they lay. -/
structure KpE (N B1 B2 B3 : Nat) (p : Option Addr) (A B : World) : Prop where
  l : B.heap[B1]? = A.heap[B1]?
  f : B.heap[B2]? = A.heap[B2]?
  t : B.heap[B3]? = A.heap[B3]?
  size : A.heap.size ≤ B.heap.size
  dat : 0 < N → ∀ a, p = some a → B.heap[a.block]? = A.heap[a.block]?
theorem KpE.refl (N B1 B2 B3 : Nat) (p : Option Addr) (A : World) : KpE N B1 B2 B3 p A A := ⟨rfl, rfl, rfl, Nat.le_refl _, fun _ _ _ => rfl⟩
theorem KpE.trans {N B1 B2 B3 : Nat} {p : Option Addr} {A B C : World} (h : KpE N B1 B2 B3 p A B) (k : KpE N B1 B2 B3 p B C) : KpE N B1 B2 B3 p A C :=
  ⟨k.l.trans h.l, k.f.trans h.f, k.t.trans h.t, Nat.le_trans h.size k.size, fun h0 a e => (k.dat h0 a e).trans (h.dat h0 a e)⟩
theorem KpE.of_below {N B1 B2 B3 : Nat} {p : Option Addr} {A B : World} {m : Nat} (h : Below m A B) (h1 : B1 < m) (h2 : B2 < m) (h3 : B3 < m) (h4 : 0 < N → ∀ a, p = some a → a.block < m) : KpE N B1 B2 B3 p A B :=
  ⟨h.block _ h1, h.block _ h2, h.block _ h3, h.size, fun h0 a e => h.block _ (h4 h0 a e)⟩
/-- What the iterator stands on. -/
structure PartsIn (W : World) (N B1 B2 B3 : Nat) (p : Option Addr) (c : Nat) (f t : Int) (xs : List Ext) : Prop where
  bl : Blk W B1 22 [.slice p N c]
  bf : Blk W B2 3 [.int .i64 f]
  bt : Blk W B3 3 [.int .i64 t]
  inn : InE W p N c xs
  one : ∀ e ∈ xs, oneB e = true
theorem InE.keptK {A B : World} {N B1 B2 B3 : Nat} {p : Option Addr} {c : Nat} {xs : List Ext} (hp : InE A p N c xs) (h : KpE N B1 B2 B3 p A B) : InE B p N c xs := by
  refine ⟨hp.len, hp.cap, hp.max, hp.room, fun h0 => ?_, hp.nil⟩
  obtain ⟨b, o, e, hlt, hc⟩ := hp.at' h0
  have hk := fun j => World.cell?_of_block (a := ⟨b, j, none⟩) (h.dat h0 ⟨b, o, none⟩ e)
  refine ⟨b, o, e, Nat.lt_of_lt_of_le hlt h.size, fun i hi => ?_⟩
  obtain ⟨h0, h1, h2⟩ := hc i hi
  exact ⟨(hk _).trans h0, (hk _).trans h1, (hk _).trans h2⟩
theorem PartsIn.kept {A B : World} {N B1 B2 B3 : Nat} {p : Option Addr} {c : Nat} {f t : Int} {xs : List Ext} (h : PartsIn A N B1 B2 B3 p c f t xs) (k : KpE N B1 B2 B3 p A B) : PartsIn B N B1 B2 B3 p c f t xs :=
  ⟨h.bl.same k.l, h.bf.same k.f, h.bt.same k.t, h.inn.keptK k, h.one⟩
theorem PartsIn.below {A B : World} {N B1 B2 B3 : Nat} {p : Option Addr} {c : Nat} {f t : Int} {xs : List Ext} (h : PartsIn A N B1 B2 B3 p c f t xs) (hb : Below A.heap.size A B) : PartsIn B N B1 B2 B3 p c f t xs :=
  ⟨h.bl.kept hb, h.bf.kept hb, h.bt.kept hb, h.inn.below hb, h.one⟩
theorem parts_call (a : Option Addr) (len cap : Nat) (f t : Int) (w : World) :
    Calls Try.prog 46 #[.slice a len cap, .int .i64 f, .int .i64 t] w fun e w' => e = .returned (.func (.func 53) #[] #[.pointer (some ⟨w.heap.size, 0, none⟩), .pointer (some ⟨w.heap.size + 1, 0, none⟩), .pointer (some ⟨w.heap.size + 2, 0, none⟩)]) ∧ w' = ((w.alloc (.cells #[.slice a len cap] 22)).alloc (.cells #[.int .i64 f] 3)).alloc (.cells #[.int .i64 t] 3) := by
  go_enter Try.func46, Try.ntmps46
  go_wp2
  go_ret
  exact ⟨rfl, rfl⟩
theorem partsIn_new {w : World} {p : Option Addr} {N c : Nat} {xs : List Ext} (f t : Int) (h : InE w p N c xs) (ho : ∀ e ∈ xs, oneB e = true) :
    PartsIn (((w.alloc (.cells #[.slice p N c] 22)).alloc (.cells #[.int .i64 f] 3)).alloc (.cells #[.int .i64 t] 3)) N w.heap.size (w.heap.size + 1) (w.heap.size + 2) p c f t xs :=
  ⟨((Blk.new' w 22 #[.slice p N c]).alloc _).alloc _, (Blk.newAt 3 #[.int .i64 f] (by simp)).alloc _, Blk.newAt 3 #[.int .i64 t] (by simp), h.below (below_al (below_al (below_alloc w _) _) _), ho⟩
set_option linter.unusedSimpArgs false in
set_option maxRecDepth 100000 in
set_option maxHeartbeats 4000000 in
/-- The closure of parts, for every loop body that keeps what it stands on. -/
theorem parts1_in (n : Nat) (hn : 2 ≤ n) (l N B1 B2 B3 : Nat) (p : Option Addr) (c : Nat) (f t : Int) (xs : List Ext) (J Jx : List VE → World → Prop) (W : World)
    (hJ : AbidesFrom W.heap.size J)
    (hY : ∀ pre x W, J pre W → pre.length < (runsV f t xs).length → YieldAt Fence.wide (n - 1) Try.prog l (encV x) W fun e W' =>
      (e = .returned (.bool true) ∧ J (pre ++ [x]) W' ∧ KpE N B1 B2 B3 p W W') ∨ (e = .returned (.bool false) ∧ Jx (pre ++ [x]) W'))
    (h1 : PartsIn W N B1 B2 B3 p c f t xs) (h0 : J [] W) :
    CallsIn Fence.wide n Try.prog 53 #[.func (.yield l) #[] #[], .pointer (some ⟨B1, 0, none⟩), .pointer (some ⟨B2, 0, none⟩), .pointer (some ⟨B3, 0, none⟩)] W fun e W' => (∃ v, e = .returned v) ∧
      ((∃ ys, ys = runsV f t xs ∧ J ys W') ∨ (∃ pre, pre <+: runsV f t xs ∧ Jx pre W')) := by
  have hroom := h1.inn.room
  have hn1 : 1 ≤ n := by omega
  have HL : Hid (xs.length = N) := h1.inn.len
  have c0 := h1.bl.cell' (i := 0) rfl
  refine callsIn_of_wp Try.func53 rfl trivial ?_ rfl
  simp only [Try.ntmps53, List.size_toArray, List.length_cons, List.length_nil, Nat.reduceAdd, Nat.reduceSub, Array.replicate_succ, Array.replicate_zero, List.push_toArray, List.append_toArray, List.nil_append, List.cons_append]
  gi_wp2
  clear c0
  gi_loopw [10] (fun i wr => ∃ k : Nat, k ≤ N ∧ i = .int .i64 k ∧ J (runsV f t (xs.take k)) wr ∧ KpE N B1 B2 B3 p W wr) (fun i _ => N - (intOf i).toNat)
  case atStart => exact ⟨0, Nat.zero_le _, rfl, h0, KpE.refl _ _ _ _ _ _⟩
  case round =>
    obtain ⟨k, hk, rfl, hJs, hnx⟩ := hrel
    by_cases hlt : k < N
    · have hP := h1.kept hnx
      have hlow := hP.inn.lt (by omega)
      obtain ⟨b, o, hpe, hbl, hc⟩ := hP.inn.at' (by omega)
      subst hpe
      obtain ⟨e0, e1, e2⟩ := hc k hlt
      have hxl : k < xs.length := by rw [HL.out]; exact hlt
      have HU : Hid (xs.take (k + 1) = xs.take k ++ [eE xs k]) := takeE_succ xs k hxl
      have hone := h1.one (eE xs k) (eE_mem hxl)
      have hpre := runsV_prefix f t xs (k + 1)
      have f2 := hP.bf.cell' (i := 0) rfl
      have f3 := hP.bt.cell' (i := 0) rfl
      have g1 := hP.bl.lt
      have g2 := hP.bf.lt
      have g3 := hP.bt.lt
      have hwi := fun W' => within_any (eE xs k) f t W' hone
      have a2 := (hP.bf.alloc (.cells #[.int .i64 (eE xs k).lo, .int .i64 (eE xs k).ln, .int .i64 (eE xs k).ph] 31)).cell' (i := 0) rfl
      have a3 := (hP.bt.alloc (.cells #[.int .i64 (eE xs k).lo, .int .i64 (eE xs k).ln, .int .i64 (eE xs k).ph] 31)).cell' (i := 0) rfl
      have ba := below_alloc wr (.cells #[.int .i64 (eE xs k).lo, .int .i64 (eE xs k).ln, .int .i64 (eE xs k).ph] 31)
      have hJ2 : ∀ W', Below wr.heap.size wr W' → J (runsV f t (xs.take k)) W' := fun W' hb => hJ _ _ _ none hJs (grown_of hb) (fun r e => by cases e)
      have hK2 : ∀ W', Below wr.heap.size wr W' → KpE N B1 B2 B3 (some ⟨b, o, none⟩) W W' := fun W' hb => hnx.trans (KpE.of_below hb g1 g2 g3 (fun _ a e => hlow a e))
      clear hJs hP hc hlow
      cases hp : oneB (partE f t (eE xs k)) with
      | false =>
        have HU' : Hid (runsV f t (xs.take (k + 1)) = runsV f t (xs.take k)) := by show _ = _; rw [HU.out, runsV_no hp]
        have hpb : partB f t (eE xs k) = false := by
          cases hq : partB f t (eE xs k) with
          | false => rfl
          | true => rw [part_one hone hq] at hp; cases hp
        simp only [partE_no hpb] at hwi
        clear hp hpb hpre hone
        generalize eE xs k = x at *
        gi_wp2_with (first | (refine ⟨trivial, ?_⟩; gi_at_call 38; refine (callsIn_wide.2 (hwi _)).mono ?_; rintro e w1 ⟨rfl, hb1⟩; have t1 := bt ba hb1; have t2 := below_al t1 (.cells #[.int .i64 0, .int .i64 0, .int .i64 0] 31); have hr1 := hK2 _ t2; have hr2 := hJ2 _ t2; clear hb1) | (guard_target = Fence.wide.fn _ ∧ _; refine And.intro trivial ?_) | (guard_target = (∀ f : FuncId, none = some f → Fence.wide.fn f) ∧ _; refine And.intro (fun _ _ => trivial) ?_))
        go_roundw
        case rel => exact ⟨k + 1, by omega, by simp, by rw [HU'.out]; exact hr2, hr1⟩
        case measure => simp [intOf]; omega
      | true =>
        have HU' : Hid (runsV f t (xs.take (k + 1)) = runsV f t (xs.take k) ++ [⟨partE f t (eE xs k), hp⟩]) := by show _ = _; rw [HU.out, runsV_yes hp]
        rw [HU'.out] at hpre
        have HP : Hid (runsV f t (xs.take k) ++ [⟨partE f t (eE xs k), hp⟩] <+: runsV f t xs) := hpre
        have HLen : Hid ((runsV f t (xs.take k)).length < (runsV f t xs).length) := by
          show _ < _
          have := hpre.length_le
          rw [List.length_append, List.length_singleton] at this
          omega
        clear hpre hone
        generalize eE xs k = x at *
        generalize partE f t x = y at *
        obtain ⟨ya, ym, yp⟩ := y
        have hym : ym > 0 := by have := oneB_iff.1 hp; dsimp only at this; omega
        gi_wp2_with (refine ⟨trivial, ?_⟩; gi_at_call 38; refine (callsIn_wide.2 (hwi _)).mono ?_; rintro e w1 ⟨rfl, hb1⟩; have t1 := bt ba hb1; have t2 := below_al t1 (.cells #[.int .i64 ya, .int .i64 ym, .int .i64 yp] 31); have hr1 := hK2 _ t2; obtain ⟨fn, tmps, assign, body, hy, hR⟩ := hY _ ⟨⟨ya, ym, yp⟩, hp⟩ _ (hJ2 _ t2) HLen.out; clear hY hb1; dsimp only [encV, Ext.val] at hy)
        refine hR.mono ?_
        rintro e W3 (⟨rfl, hJ3, hk3⟩ | ⟨rfl, hJx3⟩)
        · gi_wp2
          go_roundw
          case rel => exact ⟨k + 1, by omega, by simp, by rw [HU'.out]; exact hJ3, hr1.trans hk3⟩
          case measure => simp [intOf]; omega
        · gi_wp2
          refine bodyPost_ret (results_none rfl _ _ _) rfl ?_
          exact ⟨⟨_, rfl⟩, .inr ⟨_, HP.out, hJx3⟩⟩
    · obtain rfl : k = N := by omega
      rw [List.take_of_length_le (by rw [HL.out]; exact Nat.le_refl _)] at hJs
      gi_wp2
      go_end0
      exact ⟨⟨_, rfl⟩, .inl ⟨_, rfl, hJs⟩⟩
theorem parts_stops (n : Nat) (hn : 2 ≤ n) (N B1 B2 B3 : Nat) (p : Option Addr) (c : Nat) (f t : Int) (xs : List Ext) (w : World) (h1 : PartsIn w N B1 B2 B3 p c f t xs) :
    SeqStopsK Fence.wide n Try.prog 53 #[.pointer (some ⟨B1, 0, none⟩), .pointer (some ⟨B2, 0, none⟩), .pointer (some ⟨B3, 0, none⟩)] encV (KpE N B1 B2 B3 p) (fun ys => ys = runsV f t xs) (fun pre => pre <+: runsV f t xs) (runsV f t xs).length w := fun l J Jx W hW hJ _ hY h0 =>
  parts1_in n hn l N B1 B2 B3 p c f t xs J Jx W hJ hY (h1.below hW) h0
end Go.Proofs.Ytmboohadindlfaa
