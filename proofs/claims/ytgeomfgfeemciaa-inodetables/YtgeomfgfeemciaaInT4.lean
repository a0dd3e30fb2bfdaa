/-
  places: what its iterator gives.
-/
import Derived.Test.YtgeomfgfeemciaaInT3
import Derived.Test.YtgeomfgfeemciaaRg2
import Derived.Shelf.RegionOpen
import Derived.OwnWalkIn
import Derived.TacticsInMore
import Derived.LoopNIn
import Derived.LoopIn
import Derived.Test.YtgeomfgfeemciaaOwn
import Derived.Lib.LazyBuf
namespace Go.Proofs.Ytgeomfgfeemciaa
open Go.RowKit Go.Shelf
attribute [local go_sem] Oper.semAt_some
/-- A place of a table: its slot, and where its bytes lie. -/
structure Pl where
  k : Nat
  p : Option Addr
  c : Nat
def encP (x : Pl) : Array Value := #[.int .i64 (x.k : Int), .slice x.p 64 x.c]
def GvP (xs : List Nat) (x : Pl) (W : World) : Prop := In W x.p 64 x.c (plL xs (x.k : Int))
def cntP (xs : List Nat) : Nat := if xs.length = 256 then 4 else 0
def SP (xs : List Nat) (ys : List Pl) : Prop := ys.map (·.k) = List.range (cntP xs)
def SpP (xs : List Nat) (ys : List Pl) : Prop := ys.map (·.k) = List.range ys.length ∧ ys.length ≤ cntP xs
/-- What places stands on lies as it lay. -/
structure KpP (B1 : Nat) (p : Option Addr) (n : Nat) (l : Nat) (A B : World) : Prop where
  size : A.heap.size ≤ B.heap.size
  box : B1 ≠ l → B.heap[B1]? = A.heap[B1]?
  dat : 0 < n → ∀ a, p = some a → a.block ≠ l → B.heap[a.block]? = A.heap[a.block]?
theorem KpP.refl (B1 : Nat) (p : Option Addr) (n l : Nat) (A : World) : KpP B1 p n l A A := ⟨Nat.le_refl _, fun _ => rfl, fun _ _ _ _ => rfl⟩
theorem KpP.trans {B1 : Nat} {p : Option Addr} {n l : Nat} {A B C : World} (h : KpP B1 p n l A B) (k : KpP B1 p n l B C) : KpP B1 p n l A C :=
  ⟨Nat.le_trans h.size k.size, fun e => (k.box e).trans (h.box e), fun h0 a ha e => (k.dat h0 a ha e).trans (h.dat h0 a ha e)⟩
theorem KpP.put (B1 : Nat) (p : Option Addr) (n : Nat) (W : World) (l : Nat) (o' : Obj) : KpP B1 p n l W (W.putObj l o') :=
  ⟨by rw [World.putObj_size]; exact Nat.le_refl _, fun e => World.putObj_heap_other e, fun _ _ _ e => World.putObj_heap_other e⟩
theorem In.same2 {w w' : World} {p : Option Addr} {n c : Nat} {xs : List Nat} (h : In w p n c xs) (hs : w.heap.size ≤ w'.heap.size) (hb : 0 < n → ∀ a, p = some a → w'.heap[a.block]? = w.heap[a.block]?) : In w' p n c xs :=
  ⟨h.len, h.cap, h.max, h.room, h.byte, fun h0 => by
    obtain ⟨b, o, hp, hlt, hc⟩ := h.at' h0
    exact ⟨b, o, hp, Nat.lt_of_lt_of_le hlt hs, fun i hi => (World.cell?_of_block (a := ⟨b, o + i, none⟩) (hb h0 ⟨b, o, none⟩ hp)).trans (hc i hi)⟩, h.nil⟩
theorem In.blt {w : World} {p : Option Addr} {n c : Nat} {xs : List Nat} (h : In w p n c xs) (h0 : 0 < n) : ∀ a, p = some a → a.block < w.heap.size := fun a ha => by
  obtain ⟨b, o, hp, hlt, _⟩ := h.at' h0
  rw [ha] at hp; cases hp; exact hlt
theorem places_call (a : Option Addr) (len cap : Nat) (w : World) :
    Calls Try.prog 46 #[.slice a len cap] w fun e w' => e = .returned (.func (.func 56) #[] #[.pointer (some ⟨w.heap.size, 0, none⟩)]) ∧ w' = w.alloc (.cells #[.slice a len cap] 25) := by
  go_enter Try.func46, Try.ntmps46
  go_wp2
  go_ret
  exact ⟨rfl, rfl⟩
set_option linter.unusedSimpArgs false in
set_option linter.unusedVariables false in
set_option maxRecDepth 100000 in
set_option maxHeartbeats 8000000 in
theorem places_feeds (nf : Nat) (hn : 2 ≤ nf) (B1 : Nat) (p : Option Addr) (n c : Nat) (xs : List Nat) (w : World) (hbx : Blk w B1 25 [.slice p n c]) (hx : In w p n c xs) :
    Feeds2 Try.prog nf 56 #[.pointer (some ⟨B1, 0, none⟩)] encP (GvP xs) (KpP B1 p n) (SP xs) (SpP xs) w := by
  intro l J Jx W hW hwl hlW hJ hJx hY h0
  have hn1 : 1 ≤ nf := by omega
  have hB1l : B1 ≠ l := by have := hbx.lt; omega
  have hdl : 0 < n → ∀ a, p = some a → a.block ≠ l := fun h a ha => by have := hx.blt h a ha; omega
  have hbW := hbx.below hW hbx.lt
  have hxW := hx.below hW
  have hJ2 : ∀ pre X Y, J pre X → Below X.heap.size X Y → J pre Y := fun pre X Y h hb => hJ _ _ _ none h (grown_of hb) (fun r e => by cases e)
  refine callsIn_of_wp Try.func56 rfl trivial ?_ rfl
  simp only [Try.ntmps56, List.size_toArray, List.length_cons, List.length_nil, Nat.reduceAdd, Nat.reduceSub, Array.replicate_succ, Array.replicate_zero, List.push_toArray, List.append_toArray, List.nil_append, List.cons_append]
  gi_wp2
  gi_loopw [6] (fun i wr => ∃ (k : Nat) (pre : List Pl), k ≤ 4 ∧ i = .int .i64 (k : Int) ∧ Hid (pre.map (·.k) = List.range k) ∧ Hid (0 < k → xs.length = 256) ∧ J pre wr ∧ KpP B1 p n l W wr) (fun i _ => 4 - (intOf i).toNat)
  case atStart => exact ⟨0, [], Nat.zero_le _, rfl, rfl, fun h => absurd h (Nat.lt_irrefl _), h0, KpP.refl _ _ _ _ _⟩
  case round =>
    obtain ⟨k, pre, hk, rfl, HM, H4, hJs, hkp⟩ := hrel
    have hb1 : Blk wr B1 25 [.slice p n c] := hbW.same (hkp.box hB1l)
    have hx1 : In wr p n c xs := hxW.same2 hkp.size (fun h a ha => hkp.dat h a ha (hdl h a ha))
    have HLP : Hid (pre.length = k) := by have := congrArg List.length HM.out; rw [List.length_map, List.length_range] at this; exact this
    have d1 := hb1.cell' (i := 0) rfl
    by_cases hlt : k < 4
    · have hki : (k : Int) < 4 := by omega
      have hpl := fun (W : World) (h : In W p n c xs) => place_any p n c xs (k : Int) W h
      cases ht : thB xs (k : Int) with
      | false =>
        have hne : xs.length ≠ 256 := fun h => by rw [thB_iff.2 ⟨h, by omega, by omega⟩] at ht; cases ht
        have hk0 : k = 0 := by
          rcases Nat.eq_zero_or_pos k with h | h
          · exact h
          · exact absurd (H4.out h) hne
        have HS : Hid (SP xs pre) := by show _ = _; rw [HM.out, hk0, cntP, if_neg hne]
        have HE : Hid (plE xs (k : Int) = 1) := by show _ = _; unfold plE; rw [ht]; rfl
        clear ht hne hk0
        gi_wp2_with (first | (refine ⟨trivial, ?_⟩; gi_at_call 43; refine (callsIn_wide.2 (hpl _ hx1)).mono ?_; rintro e w2 ⟨p2, n2, c2, rfl, hi2, hw2⟩; have hw3 := hw2.symm; subst hw3; clear hw2; rw [HE.out]) | (guard_target = Fence.wide.fn _ ∧ _; refine And.intro trivial ?_) | (guard_target = (∀ f : FuncId, none = some f → Fence.wide.fn f) ∧ _; refine And.intro (fun _ _ => trivial) ?_))
        refine bodyPost_ret (results_none rfl _ _ _) rfl ?_
        exact ⟨⟨_, rfl⟩, .inl ⟨_, HS.out, hJs⟩⟩
      | true =>
        have h256 := (thB_iff.1 ht).1
        have HE : Hid (plE xs (k : Int) = 0) := by show _ = _; unfold plE; rw [ht]; rfl
        have HL : Hid ((plL xs (k : Int)).length = 64) := plL_len ht
        have HC : Hid (cntP xs = 4) := by show _ = _; rw [cntP, if_pos h256]
        have H256 : Hid (xs.length = 256) := h256
        clear ht h256
        gi_wp2_with (refine ⟨trivial, ?_⟩; gi_at_call 43; refine (callsIn_wide.2 (hpl _ hx1)).mono ?_; rintro e w2 ⟨p2, n2, c2, rfl, hi2, hw2⟩; have hw3 := hw2.symm; subst hw3; clear hw2; rw [HE.out]; have hn2 := hi2.len; rw [HL.out] at hn2; subst hn2; obtain ⟨fn, tmps, assign, body, hy, hR⟩ := hY pre ⟨k, p2, c2⟩ _ hJs hi2 hkp.size ⟨by rw [List.map_append, HM.out, List.length_append, HLP.out]; simp [List.range_succ], by rw [List.length_append, HLP.out, HC.out]; simp; omega⟩; clear hY; dsimp only [encP] at hy)
        refine hR.mono ?_
        rintro e W3 (⟨rfl, hJ3, hk3⟩ | ⟨rfl, hJx3, hk3⟩)
        · gi_wp2
          go_roundw
          case rel => exact ⟨k + 1, _, by omega, by simp, by show _ = _; rw [List.map_append, HM.out]; simp [List.range_succ], fun _ => H256.out, hJ3, hkp.trans hk3⟩
          case measure => simp [intOf]; omega
        · gi_wp2
          refine bodyPost_ret (results_none rfl _ _ _) rfl ?_
          exact ⟨⟨_, rfl⟩, .inr ⟨_, ⟨by rw [List.map_append, HM.out, List.length_append, HLP.out]; simp [List.range_succ], by rw [List.length_append, HLP.out, HC.out]; simp; omega⟩, hJx3⟩⟩
    · obtain rfl : k = 4 := by omega
      gi_wp2
      go_end0
      exact ⟨⟨_, rfl⟩, .inl ⟨_, by unfold SP; rw [HM.out, cntP, if_pos (H4.out (by omega))], hJs⟩⟩
end Go.Proofs.Ytgeomfgfeemciaa

namespace Go.Proofs.Ytgeomfgfeemciaa
open Go.RowKit
theorem clone_any (p : Option Addr) (n c : Nat) (xs : List Nat) (w : World) (hx : In w p n c xs) :
    Calls Try.prog 21 #[.slice p n c] w fun e w' => ∃ p' c', e = .returned (.slice p' n c') ∧ In w' p' n c' xs ∧ Below w.heap.size w w' := by
  have hroom := hx.room
  have HX : Hid (xs.length = n) := hx.len
  obtain ⟨i0, hi, hz0, hz1, hz2⟩ := info_parts info5
  have hq := fun (w : World) => Lib.run_eql_slice_nil (P := Try.prog) w 25 5 p n c 0 0 Try.underlying25
  cases p with
  | none =>
    have h1 := hx.nil rfl
    have h2 := hx.cap
    have h3 : n = 0 := by omega
    subst h1
    subst h3
    go_enter Try.func21, Try.ntmps21
    go_wp2
    go_ret
    exact ⟨_, _, rfl, hx, Below.refl _ _⟩
  | some a =>
    have ho := World.ownsRow_lit (e := 5) (size := 1) (base := w.heap.size) w #[] 0 (Nat.le_refl _) (by unfold maxLen; omega) (by simp)
    have HO : Hid ((w.alloc (.cells #[] 5)).ownsRow w.heap.size 5 1 (.slice (some ⟨w.heap.size, 0, none⟩) 0 0) 0 []) := ho
    clear ho
    go_enter Try.func21, Try.ntmps21
    go_wp2_with (at_builtin; refine wpList_append_own _ rfl (.tmp 5) (.tmp 6) 25 rfl w.heap.size 5 i0 (.int .u8 0) 1 1 Try.underlying25 hi hz0 hz1 hz2 rfl (by decide) (.slice (some ⟨w.heap.size, 0, none⟩) 0 0) 0 [] rfl HO.out a n c (vals xs) rfl (by rw [vals_length, HX.out, Nat.mul_one]) ((hx.below (below_alloc _ _)).cells rfl) (vals_one xs) (by unfold maxLen; omega) (by omega) (by simp) ?_; intro v1 w1 hown1 hgrow1 _)
    go_ret
    rw [List.nil_append, Nat.zero_add] at hown1
    obtain ⟨p', c', hv, hin⟩ := in_of_owns hown1 hx.byte hroom
    exact ⟨p', c', congrArg Ending.returned hv, hin, (below_alloc w _).grown hgrow1 (by simp) (fun k hk => by simp [Value.ownBlock] at hk; omega)⟩
end Go.Proofs.Ytgeomfgfeemciaa

namespace Go.Proofs.Ytgeomfgfeemciaa
open Go.RowKit Go.Shelf
attribute [local go_sem] Oper.semAt_some
theorem allcall_any (p : Option Addr) (n c : Nat) (xs : List Nat) (w : World) (hx : In w p n c xs) :
    Calls Try.prog 26 #[.slice p n c] w fun e w' => ∃ g p' c', e = .returned (.func (.func 45) #[] #[.pointer (some ⟨g, 0, none⟩)]) ∧ Blk w' g 25 [.slice p' n c'] ∧ In w' p' n c' xs ∧ Below w.heap.size w w' ∧ w.heap.size ≤ g := by
  have hmf : ∀ (fn : Fn) (first cap : Array Value) (w : World), (Instr.makeFunc fn first cap).run Try.prog w = .ok (.func fn first cap) w := fun _ _ _ _ => rfl
  go_enter Try.func26, Try.ntmps26
  go_wp2_with (go_at_call 21; refine (clone_any p n c xs _ hx).mono ?_; rintro e w1 ⟨p1, c1, rfl, hin1, hb1⟩; have hk := below_alloc w1 (.cells #[.slice p1 n c1] 25); have hbk := Blk.new' w1 25 #[.slice p1 n c1]; have hin2 := hin1.below hk)
  go_ret
  exact ⟨_, _, _, rfl, hbk, hin2, bt hb1 hk, hb1.size⟩
def encA (s : Sl) : Array Value := #[.int .i64 (s.k : Int), s.x.val s.p s.n s.c]
def GvA (s : Sl) (W : World) : Prop := InE W s.p s.n s.c s.x.rt
def SA (xs : List Nat) (ys : List Sl) : Prop := ys.map Sl.pair = liveN xs 4
def SpA (xs : List Nat) (ys : List Sl) : Prop := ys.map Sl.pair <+: liveN xs 4
/-- All blocks but l and those of T lie as they lay. -/
structure KpT (T : Nat → Prop) (l : Nat) (A B : World) : Prop where
  size : A.heap.size ≤ B.heap.size
  same : ∀ k, k < A.heap.size → k ≠ l → ¬ T k → B.heap[k]? = A.heap[k]?
theorem KpT.trans {T : Nat → Prop} {l : Nat} {A B C : World} (h : KpT T l A B) (k : KpT T l B C) : KpT T l A C :=
  ⟨Nat.le_trans h.size k.size, fun j hj e ht => (k.same j (Nat.lt_of_lt_of_le hj h.size) e ht).trans (h.same j hj e ht)⟩
theorem KpT.put (T : Nat → Prop) (W : World) (l : Nat) (o' : Obj) : KpT T l W (W.putObj l o') :=
  ⟨by rw [World.putObj_size]; exact Nat.le_refl _, fun _ _ e _ => World.putObj_heap_other e⟩
theorem liveN_prefix (xs : List Nat) {k m : Nat} (h : k ≤ m) : liveN xs k <+: liveN xs m := by
  obtain ⟨d, rfl⟩ := Nat.le.dest h
  unfold liveN
  rw [List.range_add, List.filterMap_append]
  exact List.prefix_append _ _
theorem liveN_cnt (xs : List Nat) : liveN xs (cntP xs) = liveN xs 4 := by
  unfold cntP
  split
  · rfl
  · rename_i h
    have hz : ∀ i : Int, getE xs i = 1 := fun i => by
      unfold getE
      cases ht : thB xs i with
      | false => rfl
      | true => exact absurd (thB_iff.1 ht).1 h
    unfold liveN
    rw [List.range_zero, List.filterMap_nil]
    refine (List.filterMap_eq_nil_iff.2 fun i _ => ?_).symm
    rw [if_neg]
    intro hh
    rw [hz] at hh
    exact absurd hh.1 (by decide)
theorem keeps_below {B : Nat} {X Y : World} (h : Below X.heap.size X Y) : KeepsFrom B X Y := ⟨h.size, fun k _ _ hk _ => (h.block k (Array.getElem?_eq_some_iff.1 hk).1).trans hk⟩
set_option linter.unusedSimpArgs false in
set_option linter.unusedVariables false in
set_option maxRecDepth 100000 in
set_option maxHeartbeats 8000000 in
theorem all_feeds (nf : Nat) (hn : 4 ≤ nf) (T : Nat → Prop) (B0 : Nat) (p : Option Addr) (n c : Nat) (xs : List Nat) (w : World) (hbx : Blk w B0 25 [.slice p n c]) (hx : In w p n c xs) (hT : ∀ k, T k → k < w.heap.size) (hTB : ¬ T B0) (hTd : 0 < n → ∀ a, p = some a → ¬ T a.block) :
    Feeds2 Try.prog nf 45 #[.pointer (some ⟨B0, 0, none⟩)] encA GvA (KpT T) (SA xs) (SpA xs) w := by
  intro l J Jx W hW hwl hlW hJ hJx hY h0
  have h1 : 1 ≤ nf := by omega
  have hws := hW.size
  have hbW := hbx.below hW hbx.lt
  have hxW := hx.below hW
  have d0 := (hbW.alloc (.cells #[.func (.yield l) #[] #[]] 70)).cell' (i := 0) rfl
  have k1 := below_alloc W (.cells #[.func (.yield l) #[] #[]] 70)
  have y1 := Blk.new' W 70 #[.func (.yield l) #[] #[]]
  have hx1 := hxW.below k1
  refine callsIn_of_wp_marks Try.func45 rfl trivial ?_ rfl
  simp only [Try.ntmps45, List.size_toArray, List.length_cons, List.length_nil, Nat.reduceAdd, Nat.reduceSub, Array.replicate_succ, Array.replicate_zero, List.push_toArray, List.append_toArray, List.nil_append, List.cons_append]
  gi_wp2
  refine ⟨trivial, ?_⟩
  refine (callsIn_wide.2 (places_call p n c _)).mono ?_
  rintro e w' ⟨rfl, hw'⟩
  have k2 := below_alloc (W.alloc (.cells #[.func (.yield l) #[] #[]] 70)) (.cells #[.slice p n c] 25)
  have b2 := Blk.new' (W.alloc (.cells #[.func (.yield l) #[] #[]] 70)) 25 #[.slice p n c]
  rw [show (W.alloc (.cells #[.func (.yield l) #[] #[]] 70)).heap.size = W.heap.size + 1 from World.size_alloc _ _] at b2
  rw [← hw'] at k2 b2
  have y2 := y1.kept k2
  have hx2 := hx1.below k2
  have hB := bt k1 k2
  have hsz : w'.heap.size = W.heap.size + 2 := by rw [hw']; simp
  have hJ0 := hJ _ _ _ none h0 (grown_of hB) (fun r e => by cases e)
  clear hw' k1 k2 y1 hx1 d0
  gi_wp2
  refine range_feeds2 (α := Pl) h1 (gf := 56) (lb := #[.pointer (some ⟨W.heap.size + 1, 0, none⟩)]) rfl (enters_of Try.func56 (by kernel_rfl) rfl)
    (places_feeds (nf - 1) (by omega) (W.heap.size + 1) p n c xs w' b2 hx2) (fun _ => rfl) (fun h k => h.trans k) (fun W l o' => KpP.put _ _ _ W l o')
    (fun x X l o o' hl ho hx => In.same2 hx (by rw [World.putObj_size]; exact Nat.le_refl _) (fun h0 a ha => World.putObj_heap_other (by
      obtain ⟨b, o2, hp, hlt, hc⟩ := In.at' hx h0
      rw [ha] at hp; cases hp
      rintro rfl
      have hc0 := hc 0 h0
      simp only [World.cell?, hl] at hc0
      cases o <;> simp_all [Obj.isCells])))
    (fun ys X => ∃ L : List Sl, L.map Sl.pair = liveN xs ys.length ∧ J L X ∧ Blk X W.heap.size 70 [.func (.yield l) #[] #[]])
    (fun ys X => ∃ L : List Sl, SpA xs L ∧ Jx L X)
    (fun ys X Y row hs hg hr => by
      obtain ⟨L, e1, e2, e3⟩ := hs
      exact ⟨L, e1, hJ _ _ _ _ e2 hg (fun r e => ⟨by have := (hr r e).1; omega, (hr r e).2⟩), e3.same (hg.block _ e3.lt (fun e => by have := (hr _ e.symm).1; omega))⟩)
    (fun ys X Y row hs hg hr => by
      obtain ⟨L, e1, e2⟩ := hs
      exact ⟨L, e1, hJx _ _ _ _ e2 hg (fun r e => ⟨by have := (hr r e).1; omega, (hr r e).2⟩)⟩)
    ⟨[], rfl, hJ0, y2⟩
    (fun x a' _ => a' = { tmps := #[.func (.yield l) #[] #[], .pointer (some ⟨B0, 0, none⟩), .pointer (some ⟨W.heap.size, 0, none⟩), .int .i64 (x.k : Int), .slice x.p 64 x.c, undef, undef, .slice p n c, .func (.func 56) #[] #[.pointer (some ⟨W.heap.size + 1, 0, none⟩)], .int .i64 (x.k : Int), .slice x.p 64 x.c, undef, undef, undef, undef, undef, undef, undef, undef, undef, undef, undef, undef, undef, undef, undef, undef, undef, undef, undef], defers := [] })
    (fun x a' _ _ _ _ h _ _ => h)
    ?assign ?body ?done ?stop
  case assign =>
    intro l2 pre x X K hl2 hX hI hG hK
    dsimp only [encP]
    gi_wp2
    exact hK _ _ (KeepsFrom.refl _ _) (KpP.refl _ _ _ _ _) hI hG rfl
  case stop =>
    rintro D ys X hD hSp ⟨L, hL, hJL⟩ hdef
    gi_wp2
    refine ⟨by simp, .inl ⟨_, _, rfl, run_takeDeferred hdef, ?_⟩⟩
    simp [LeavesInM, LeavesIn, settle, results, Try.results45, go_sem]
    exact .inr ⟨L, hL, hJx.putObj _ hJL (by omega) hdef rfl⟩
  case done =>
    rintro D ys X hD hS ⟨L, hL, hJL, hyb⟩ hdef
    have hSA : Hid (SA xs L) := by
      have hlen := congrArg List.length hS
      rw [List.length_map, List.length_range] at hlen
      show _ = _
      rw [hL, hlen, liveN_cnt]
    gi_wp2
    refine ⟨by simp, .inl ⟨_, _, rfl, run_takeDeferred hdef, ?_⟩⟩
    simp [LeavesInM, LeavesIn, settle, results, Try.results45, go_sem]
    exact .inl ⟨L, hSA.out, hJ.putObj _ hJL (by omega) hdef rfl⟩
  case body =>
    rintro l2 pre x a' X hl2 hl2X hX ⟨L, hL, hJL, hyb⟩ hG rfl hSp
    obtain ⟨hS1, hS2⟩ := hSp
    have hxk : x.k = pre.length := by
      rw [List.map_append, List.length_append, List.length_singleton, List.range_succ] at hS1
      have := (List.append_inj' hS1 rfl).2
      simpa using this
    have hk4 : pre.length < 4 ∧ xs.length = 256 := by
      rw [List.length_append, List.length_singleton] at hS2
      unfold cntP at hS2
      split at hS2
      · rename_i h; exact ⟨by omega, h⟩
      · omega
    have hth : thB xs (pre.length : Int) = true := thB_iff.2 ⟨hk4.2, by omega, by omega⟩
    have hgE : getE xs (pre.length : Int) = decE (plL xs (pre.length : Int)) := by unfold getE; rw [hth]; rfl
    have hgI : getI xs (pre.length : Int) = decI (plL xs (pre.length : Int)) := by unfold getI; rw [hth]; rfl
    have HY : Hid (getE xs (pre.length : Int) = 0 ∧ (getI xs (pre.length : Int)).kd ≠ 0 → liveN xs (pre.length + 1) = liveN xs pre.length ++ [(pre.length, getI xs (pre.length : Int))]) := fun h => liveN_yes h.1 h.2
    have HN : Hid (¬ (getE xs (pre.length : Int) = 0 ∧ (getI xs (pre.length : Int)).kd ≠ 0) → liveN xs (pre.length + 1) = liveN xs pre.length) := fun h => liveN_no h
    have HP4 : Hid (liveN xs (pre.length + 1) <+: liveN xs 4) := liveN_prefix xs hk4.1
    have HLN : Hid ((pre ++ [x]).length = pre.length + 1) := by show _ = _; rw [List.length_append]; rfl
    have hdec := fun p n c w h => idecode_any p n c (plL xs (pre.length : Int)) w h
    obtain ⟨xk, xp, xc⟩ := x
    dsimp only at hxk
    subst hxk
    unfold GvP at hG
    dsimp only at hG
    rw [← hgE, ← hgI] at hdec
    clear hgE hgI hth hS1 hS2
    generalize plL xs (pre.length : Int) = zs at *
    generalize getE xs (pre.length : Int) = ea at *
    generalize getI xs (pre.length : Int) = x at *
    obtain ⟨kd, lk, sz, nx, ge, dp, rt⟩ := x
    dsimp only at hdec HY HN
    have hJ2 : ∀ L X Y, J L X → Below X.heap.size X Y → J L Y := fun L X Y h hb => hJ _ _ _ none h (grown_of hb) (fun r e => by cases e)
    gi_wp2
    refine ⟨trivial, ?_⟩
    refine ⟨fun _ => by omega, ?_⟩
    refine (CallsIn.inRound l2 (callsIn_wide.2 (hdec xp 64 xc _ hG))).mono ?_
    rintro e X2 ⟨p3, n3, c3, rfl, hi3, hb3, hf3⟩
    try dsimp only at hi3
    have k3 := below_alloc X2 (.cells #[.int .i64 kd, .int .i64 lk, .int .i64 sz, .int .i64 nx, .int .i64 ge, .int .i64 dp, .slice p3 n3 c3] 24)
    have sA := Blk.new' X2 24 #[.int .i64 kd, .int .i64 lk, .int .i64 sz, .int .i64 nx, .int .i64 ge, .int .i64 dp, .slice p3 n3 c3]
    have hb4 := bt hb3 k3
    have hJ3 := hJ2 _ _ _ hJL hb4
    have hi4 := hi3.below k3
    have hyb3 := hyb.kept hb4
    have hsz4 := hb4.size
    obtain ⟨a0, a1, a2, a3, a4, a5, a6⟩ := sA.ino7
    have yc := hyb3.cell' (i := 0) rfl
    clear hdec
    have hdat : ∀ a, 0 < n → p = some a → a.block < w.heap.size := fun a h0 ha => hx.blt h0 a ha
    have fin : ∀ (X5 : World) (L' : List Sl), (∀ k, k < X.heap.size → k ≠ l → ¬ T k → X5.heap[k]? = X.heap[k]?) → X.heap.size ≤ X5.heap.size → KeepsFrom w'.heap.size X X5 ∧ KpP (W.heap.size + 1) p n l2 X X5 ∧ Blk X5 W.heap.size 70 [.func (.yield l) #[] #[]] := fun X5 L' hkk hs => by
      have hnT : ∀ k, w.heap.size ≤ k → ¬ T k := fun k hk h => by have := hT k h; omega
      refine ⟨⟨hs, fun k o hk ho _ => ?_⟩, ⟨hs, fun _ => ?_, fun h0 a ha _ => ?_⟩, ?_⟩
      · exact (hkk k (Array.getElem?_eq_some_iff.1 ho).1 (by omega) (hnT k (by omega))).trans ho
      · exact hkk _ (by omega) (by omega) (hnT _ (by omega))
      · have := hdat a h0 ha
        exact hkk _ (by omega) (by omega) (hTd h0 a ha)
      · exact hyb.same (hkk _ (by omega) (by omega) (hnT _ (by omega)))
    by_cases e0 : ea = 0
    · subst e0
      by_cases hkd : kd = 0
      · subst hkd
        have HU : Hid (liveN xs (pre.length + 1) = liveN xs pre.length) := HN.out (fun h => h.2 rfl)
        gi_wp2_with (guard_target = (∀ f : FuncId, none = some f → Fence.wide.fn f) ∧ _; refine And.intro (fun _ _ => trivial) ?_)
        obtain ⟨f1, f2, f3⟩ := fin _ L (fun k hk _ _ => hb4.block k hk) hb4.size
        exact ⟨f1, f2, ⟨L, by rw [HLN.out, HU.out]; exact hL, hJ3, f3⟩⟩
      · have hz : (kd != 0) = true := by rw [bne_iff_ne]; exact hkd
        have HU : Hid (liveN xs (pre.length + 1) = liveN xs pre.length ++ [(pre.length, ⟨kd, lk, sz, nx, ge, dp, rt⟩)]) := HY.out ⟨rfl, hkd⟩
        clear hkd
        have hsp : SpA xs (L ++ [⟨pre.length, ⟨kd, lk, sz, nx, ge, dp, rt⟩, p3, n3, c3⟩]) := by
          show _ <+: _
          rw [List.map_append, hL]
          have := HP4.out
          rw [HU.out] at this
          exact this
        have hyy := YieldAt.within2 (l' := l2) (m' := nf - 1 - 1 - 1) (hY L ⟨pre.length, ⟨kd, lk, sz, nx, ge, dp, rt⟩, p3, n3, c3⟩ _ hJ3 hi4 (by omega) hsp)
        obtain ⟨fn, tmps, assign, body, hy, hR⟩ := hyy
        dsimp only [encA] at hy
        gi_wp2
        refine ⟨fun _ => by omega, ?_⟩
        refine hR.mono ?_
        rintro e X5 (⟨rfl, hJ5, hk5⟩ | ⟨rfl, hJx5, hk5⟩)
        · obtain ⟨f1, f2, f3⟩ := fin X5 L (fun k hk h1 h2 => (hk5.same k (by omega) h1 h2).trans (hb4.block k hk)) (Nat.le_trans hb4.size hk5.size)
          gi_wp2
          exact ⟨f1, f2, ⟨_, by rw [HLN.out, HU.out, List.map_append, hL]; rfl, hJ5, f3⟩⟩
        · obtain ⟨f1, f2, f3⟩ := fin X5 L (fun k hk h1 h2 => (hk5.same k (by omega) h1 h2).trans (hb4.block k hk)) (Nat.le_trans hb4.size hk5.size)
          gi_wp2
          exact ⟨f1, f2, ⟨_, hsp, hJx5⟩⟩
    · have hz : (ea == 0) = false := by rw [beq_eq_false_iff_ne]; exact e0
      have HU : Hid (liveN xs (pre.length + 1) = liveN xs pre.length) := HN.out (fun h => e0 h.1)
      clear e0
      gi_wp2_with (guard_target = (∀ f : FuncId, none = some f → Fence.wide.fn f) ∧ _; refine And.intro (fun _ _ => trivial) ?_)
      obtain ⟨f1, f2, f3⟩ := fin _ L (fun k hk _ _ => hb4.block k hk) hb4.size
      exact ⟨f1, f2, ⟨L, by rw [HLN.out, HU.out]; exact hL, hJ3, f3⟩⟩
end Go.Proofs.Ytgeomfgfeemciaa
