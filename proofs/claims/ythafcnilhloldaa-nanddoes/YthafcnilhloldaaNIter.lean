/-
  slices.All over a slice of pages: what its iterator gives.
-/
import Derived.Test.YthafcnilhloldaaNPut
import Derived.RangeFuncNested
import Derived.RangeFuncBound
import Derived.RangeFuncCalls
import Derived.RangeFuncLeaves
import Derived.Shelf.Abstract
import Derived.Shelf.RegionOpen
import Derived.OwnWalkIn
import Derived.TacticsInMore
import Derived.LoopNIn
import Derived.LoopIn
namespace Go.Proofs.Ythafcnilhloldaa
open Go.RowKit Go.Shelf
attribute [local go_sem] Oper.semAt_some
theorem wpListIn_load_mid {F : Fence} {n : Nat} {ops : Array Oper} {rest : List Oper} {op : Oper} {a : Act} {w : World} {Q : Exit → Act → World → Prop} (hgd : op.guard = none) (ty : TypeId) (x : Operand) (ho : op.op = .load ty x)
    (b o : Nat) (hx : a.eval x = .pointer (some ⟨b, o, none⟩)) (cs : List Value) (d : TypeDesc) (hc : w.rangeAt b o cs)
    (hu : Try.prog.underlying ty = some d) (hd : d.isRow = true) (hi : (Try.prog.info? ty).map (·.size) = some cs.length)
    (h : wpListIn F n Try.prog ops Q rest (a.put op.dst (.agg cs.toArray)) w) : wpListIn F n Try.prog ops Q (op :: rest) a w := by
  refine wpListIn_plain hgd fun K hK => ?_
  unfold Oper.wpIn
  refine ⟨?_, ?_⟩
  · simp [Oper.about, ho]
  · rw [Oper.semAt_plain F _ _ (by rw [ho]; intro c hc'; cases hc')]
    simp only [execOp, ho, hx, Instr.loadAt, Instr.sureAddr, Sem.run_bind, Sem.run_pure, Result.andThen_ok, run_loadVar_mid w b o ty cs d hc hu hd hi]
    exact hK _ _ h
theorem wpListIn_store_new {F : Fence} {n : Nat} {ops : Array Oper} {rest : List Oper} {op : Oper} {a : Act} {w : World} {Q : Exit → Act → World → Prop} (hgd : op.guard = none) (ty : TypeId) (x y : Operand) (ho : op.op = .store ty x y)
    (c c' : List Value) (hx : a.eval x = .pointer (some ⟨w.heap.size, 0, none⟩)) (hy : a.eval y = .agg c'.toArray) (hi : (Try.prog.info? ty).map (·.size) = some c'.length) (hl : c.length = c'.length) (h1 : ∀ v ∈ c', v.oneCell' = true)
    (h : wpListIn F n Try.prog ops Q rest (a.put op.dst undef) (w.alloc (.cells c'.toArray ty))) : wpListIn F n Try.prog ops Q (op :: rest) a (w.alloc (.cells c.toArray ty)) := by
  have hr := run_storeVar_new (P := Try.prog) w ty c.toArray c'.toArray (by simpa using hi) (by simpa using hl) (all_oneCell_toArray h1)
  refine wpListIn_plain hgd fun K hK => ?_
  unfold Oper.wpIn
  refine ⟨?_, ?_⟩
  · simp [Oper.about, ho]
  · rw [Oper.semAt_plain F _ _ (by rw [ho]; intro c hc'; cases hc')]
    simp only [execOp, ho, hx, hy, Instr.storeAt, Instr.sureAddr, Sem.run_bind, Sem.run_pure, Result.andThen_ok, hr]
    exact hK _ _ h
/-- A page. -/
abbrev PageT := { p : List Nat // IsP p }
/-- What has come when k rounds are over. -/
def upto (ps : List PageT) (k : Nat) : List (Nat × PageT) := (ps.take k).mapIdx fun i p => (i, p)
theorem upto_succ {ps : List PageT} {k : Nat} (h : k < ps.length) : upto ps (k + 1) = upto ps k ++ [(k, ps[k])] := by
  unfold upto
  rw [List.take_succ_eq_append_getElem h, List.mapIdx_append]
  simp [Nat.min_eq_left (Nat.le_of_lt h)]
theorem upto_length {ps : List PageT} {k : Nat} (h : k ≤ ps.length) : (upto ps k).length = k := by simp [upto]; omega
/-- What yield is handed. -/
def encP (x : Nat × PageT) : Array Value := #[.int .i64 (x.1 : Int), .agg (vals x.2.1).toArray]
/-- A slice of pages that lies below n₀. -/
def PagesLow (n₀ : Nat) (W : World) (v : Value) (ps : List PageT) : Prop := PagesIn W v (ps.map (·.1)) ∧ ∀ k, v.ownBlock = some k → k < n₀
theorem PagesLow.below {n₀ : Nat} {A B : World} (h : Below n₀ A B) {v : Value} {ps : List PageT} (hp : PagesLow n₀ A v ps) : PagesLow n₀ B v ps := ⟨hp.1.same (fun k hk => h.block k (hp.2 k hk)), hp.2⟩
set_option maxRecDepth 100000 in
set_option maxHeartbeats 2000000 in
/-- slices.All's closure, for every loop body that keeps what lay below n₀. -/
theorem all1_in (F : Fence) (n : Nat) (h8 : F.fn 56) (hro : F.round = none) (hn : 1 ≤ n) (l Bs n₀ g cap : Nat) (ps : List PageT) (J Jx : List (Nat × PageT) → World → Prop)
    (W : World) (hJ : AbidesFrom W.heap.size J) (hY : ∀ pre x W, J pre W → pre.length < ps.length → YieldAt F (n - 1) Try.prog l (encP x) W fun e W' =>
      (e = .returned (.bool true) ∧ J (pre ++ [x]) W' ∧ Below n₀ W W') ∨ (e = .returned (.bool false) ∧ Jx (pre ++ [x]) W'))
    (hBs : W.cell? ⟨Bs, 0, none⟩ = some (.slice (some ⟨g, 0, none⟩) ps.length cap)) (hp : PagesLow n₀ W (.slice (some ⟨g, 0, none⟩) ps.length cap) ps) (hl : ps.length ≤ 1000000) (h0 : J [] W) (hn0 : n₀ ≤ W.heap.size) :
    CallsIn F n Try.prog 56 #[.func (.yield l) #[] #[], .pointer (some ⟨Bs, 0, none⟩)] W fun e W' => (∃ v, e = .returned v) ∧
      ((∃ ys, ys = upto ps ps.length ∧ J ys W') ∨ (∃ pre, (∃ k, k ≤ ps.length ∧ pre = upto ps k) ∧ Jx pre W')) := by
  have hz := zeroPage
  refine callsIn_of_wp Try.func56 rfl h8 ?_ hro
  simp only [Try.ntmps56, List.size_toArray, List.length_cons, List.length_nil, Nat.reduceAdd, Nat.reduceSub, Array.replicate_succ, Array.replicate_zero, List.push_toArray, List.append_toArray, List.nil_append, List.cons_append]
  gi_wp2
  gi_loopw [7] (fun i wr => ∃ k : Nat, k ≤ ps.length ∧ i = .int .i64 k ∧ J (upto ps k) wr ∧ Below n₀ W wr) (fun i _ => ps.length - (intOf i).toNat)
  case atStart => exact ⟨0, Nat.zero_le _, rfl, by simpa [upto] using h0, Below.refl _ _⟩
  case round =>
    obtain ⟨k, hk, rfl, hJs, hnx⟩ := hrel
    have hpx := hp.below hnx
    by_cases hlt : k < ps.length
    · have hx : (ps.map (·.1))[k]? = some ps[k].1 := by simp [hlt]
      have hpi : PagesIn wr (.slice (some ⟨g, 0, none⟩) (ps.map (·.1)).length cap) (ps.map (·.1)) := by rw [List.length_map]; exact hpx.1
      have hr := hpi.range k _ hx
      have hP := ps[k].2
      have hsz : n₀ ≤ wr.heap.size := Nat.le_trans hn0 hnx.size
      have hJ2 : J (upto ps k) (wr.alloc (.cells (vals ps[k].1).toArray 46)) := hJ _ _ _ none hJs (World.grownBy_alloc _ _ _) (fun r e => by cases e)
      obtain ⟨fn, tmps, assign, body, hy, hR⟩ := hY _ (k, ps[k]) _ hJ2 (by rw [upto_length hk]; exact hlt)
      have hup := upto_succ hlt
      have HU : Hid (upto ps (k + 1) = upto ps k ++ [(k, ps[k])]) := hup
      clear hup
      generalize ps[k] = x at *
      dsimp only [encP] at hy
      clear hx hpi hpx
      gi_wp2_with (first
        | (refine wpListIn_load_mid rfl 46 (.tmp 10) rfl g (k * 288) rfl (vals x.1) _ hr Try.underlying46 rfl (sizeP hP.1) ?_)
        | (refine wpListIn_store_new rfl 46 (.tmp 4) (.tmp 11) rfl (vals (fillP 0)) (vals x.1) rfl rfl (sizeP hP.1) (by rw [vals_length, vals_length, hP.1, fillP_length]) (vals_one _) ?_)
        | (refine wpListIn_load_mid rfl 46 (.tmp 4) rfl wr.heap.size 0 rfl (vals x.1) _ ((Blk.new wr 46 (vals x.1)).range 0 288 _ (by rw [List.drop_zero, List.take_of_length_le (by rw [vals_length, hP.1]; exact Nat.le_refl _)])) Try.underlying46 rfl (sizeP hP.1) ?_))
      refine hR.mono ?_
      have hal : Below n₀ wr (wr.alloc (.cells (vals x.1).toArray 46)) := (Below.refl _ _).alloc hsz _
      rintro e W3 (⟨rfl, hJ3, hk3⟩ | ⟨rfl, hJx3⟩)
      · gi_wp2
        go_roundw
        case rel => exact ⟨k + 1, by omega, by simp, by rw [HU.out]; exact hJ3, (hnx.trans hal).trans hk3⟩
        case measure => simp [intOf]; omega
      · gi_wp2
        refine bodyPost_ret (results_none rfl _ _ _) rfl ?_
        exact ⟨⟨_, rfl⟩, .inr ⟨_, ⟨k + 1, by omega, HU.out.symm⟩, hJx3⟩⟩
    · obtain rfl : k = ps.length := by omega
      gi_wp2
      go_end0
      exact ⟨⟨_, rfl⟩, .inl ⟨_, rfl, hJs⟩⟩
set_option maxRecDepth 100000 in
set_option maxHeartbeats 1000000 in
theorem all1_nil_in (F : Fence) (n : Nat) (h8 : F.fn 56) (hro : F.round = none) (l Bs : Nat) (J : List (Nat × PageT) → World → Prop) (W : World) (p : Option Addr) (cap : Nat) (hBs : W.cell? ⟨Bs, 0, none⟩ = some (.slice p 0 cap)) (h0 : J [] W) :
    CallsIn F n Try.prog 56 #[.func (.yield l) #[] #[], .pointer (some ⟨Bs, 0, none⟩)] W fun e W' => (∃ v, e = .returned v) ∧ J [] W' := by
  refine callsIn_of_wp Try.func56 rfl h8 ?_ hro
  simp only [Try.ntmps56, List.size_toArray, List.length_cons, List.length_nil, Nat.reduceAdd, Nat.reduceSub, Array.replicate_succ, Array.replicate_zero, List.push_toArray, List.append_toArray, List.nil_append, List.cons_append]
  gi_wp2
  gi_loopw [7] (fun i wr => i = .int .i64 0 ∧ J [] wr) (fun _ _ => 0)
  case atStart => exact ⟨rfl, h0⟩
  case round =>
    obtain ⟨rfl, hJs⟩ := hrel
    gi_wp2
    go_end0
    exact ⟨⟨_, rfl⟩, hJs⟩
/-- slices.All(s): the slice is boxed; the function value captures the box. -/
theorem all_any (a : Option Addr) (len cap : Nat) (w : World) :
    Calls Try.prog 42 #[.slice a len cap] w fun e w' => e = .returned (.func (.func 56) #[] #[.pointer (some ⟨w.heap.size, 0, none⟩)]) ∧ w' = w.alloc (.cells #[.slice a len cap] 58) := by
  go_enter Try.func42, Try.ntmps42
  go_wp2
  go_ret
  exact ⟨rfl, rfl⟩
/-- What slices.All hands back goes through the pages, in order; or through the first of them. -/
theorem all_stops (F : Fence) (n : Nat) (h8 : F.fn 56) (hro : F.round = none) (hn : 1 ≤ n) (Bs n₀ : Nat) (v : Value) (ps : List PageT) (w : World) (hBs : Bs < w.heap.size) (hn₀ : n₀ ≤ w.heap.size)
    (hc : w.cell? ⟨Bs, 0, none⟩ = some v) (hI : PagesLow n₀ w v ps) (hl : ps.length ≤ 1000000) :
    SeqStopsK F n Try.prog 56 #[.pointer (some ⟨Bs, 0, none⟩)] encP (Below n₀) (fun ys => ys = upto ps ps.length) (fun pre => ∃ k, k ≤ ps.length ∧ pre = upto ps k) ps.length w := fun l J Jx W hW hJ _ hY h0 => by
  have hc' := (hW.cell (p := ⟨Bs, 0, none⟩) hBs).trans hc
  have hp := hI.below (hW.mono hn₀)
  obtain ⟨p, cap, rfl, hcap⟩ := hp.1.shape
  rw [List.length_map] at hc' hp hcap
  by_cases h0' : ps.length = 0
  · have hnil : ps = [] := List.eq_nil_of_length_eq_zero h0'
    subst hnil
    exact (all1_nil_in F n h8 hro l Bs J W p cap hc' h0).mono fun e W' ⟨he, hj⟩ => ⟨he, .inl ⟨_, rfl, hj⟩⟩
  · obtain ⟨g, cap', cur, hv, _⟩ := hp.1.at' (by intro h; have := congrArg List.length h; rw [List.length_map] at this; exact h0' this)
    simp only [List.length_map, Value.slice.injEq, true_and] at hv
    obtain ⟨rfl, rfl⟩ := hv
    exact all1_in F n h8 hro hn l Bs n₀ g cap ps J Jx W hJ hY hc' hp hl h0 (Nat.le_trans hn₀ hW.size)
end Go.Proofs.Ythafcnilhloldaa
