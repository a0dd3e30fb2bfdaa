/-
  What the law's told answers.
-/
import Derived.Test.YthpbeppfiinooaaBmFP
import Derived.Deep.Cut
import Derived.RangeFuncNested
import Derived.RangeFuncBound
import Derived.RangeFuncCalls
import Derived.RangeFuncLeaves
import Derived.Shelf.RegionOpen
import Derived.OwnWalkIn
import Derived.TacticsInMore
import Derived.LoopNIn
import Derived.LoopIn
namespace Go.Proofs.Ythpbeppfiinooaa
open Go.RowKit Go.Shelf
attribute [local go_sem] Oper.semAt_some
theorem seq_nil (w : World) (f : Fn) (a b : Array Value) : (binOp .eql 44 (.func f a b) .nilFunc).run Try.prog w = .ok (.bool false) w := by
  have h : ∀ d : Nat, (Op.equalIn (d + 1) 44 (.func f a b) .nilFunc).run Try.prog w = .ok false w := fun d => by
    simp [Op.equalIn]
  simp only [binOp]
  simp [Op.equal, Op.maxDepth, h 9999]
/-- What the list holds. -/
def ToldP (mo : Nat) (w : World) (pre : List Pie) (W : World) : Prop :=
  (∃ v, Boxed W (w.heap.size + 1) 34 v ∧ W.ownsRow (w.heap.size + 1) 41 2 v pre.length (flatP (pcs pre)) ∧ True) ∧ Boxed W w.heap.size 3 (.int .i64 (mo : Int)) ∧ (Below w.heap.size w W ∧ pre.length ≤ mo)
set_option linter.unusedSimpArgs false in
set_option maxRecDepth 100000 in
set_option maxHeartbeats 4000000 in
theorem told_in (nf : Nat) (hnf : 4 ≤ nf) (N Bs Bn : Nat) (p : Option Addr) (m c : Nat) (xs : List Nat) (mo : Nat) (hmo : mo ≤ 10000) (w : World) (hR : RunsIn w N Bs Bn p m c xs) :
    CallsIn Fence.wide nf Try.prog 29 #[(.func (.func 45) #[] #[.pointer (some ⟨Bn, 0, none⟩), .pointer (some ⟨Bs, 0, none⟩)]), .int .i64 (mo : Int)] w fun e w' => ∃ v, e = .returned v ∧ w'.ownsRow w.heap.size 41 2 v ((runsL (bitL xs) N).take mo).length (flatP (pcs ((runsL (bitL xs) N).take mo))) ∧ Below w.heap.size w w' := by
  obtain ⟨i0, hi, hz0, hz1, hz2⟩ := info_parts infoP
  have h1 : 1 ≤ nf := by omega
  have hfn := fun W a b => seq_nil W (.func 45) a b
  have hb0 : Below w.heap.size w ((w.alloc (.cells #[.int .i64 (mo : Int)] 3)).alloc (.cells #[.slice none 0 0] 34)) := bt (below_alloc w _) (below_alloc _ _)
  have b3 := (Boxed.new w 3 (.int .i64 (mo : Int))).alloc (.cells #[.slice none 0 0] 34)
  have b5 := Boxed.new (w.alloc (.cells #[.int .i64 (mo : Int)] 3)) 34 (.slice none 0 0)
  simp only [World.size_alloc] at b5
  have hsz : w.heap.size + 2 ≤ ((w.alloc (.cells #[.int .i64 (mo : Int)] 3)).alloc (.cells #[.slice none 0 0] 34)).heap.size := by simp only [World.size_alloc]; omega
  have hR0 := hR.below hb0
  have hbs := hR.bs.lt
  have hbn := hR.bn.lt
  have hlow := fun h0 => hR.low h0
  have hmi : (mo : Int) ≤ 10000 := by omega
  refine callsIn_of_wp_marks Try.func29 rfl trivial ?_ rfl
  simp only [Try.ntmps29, List.size_toArray, List.length_cons, List.length_nil, Nat.reduceAdd, Nat.reduceSub, Array.replicate_succ, Array.replicate_zero, List.push_toArray, List.append_toArray, List.nil_append, List.cons_append]
  gi_wp2
  generalize ((w.alloc (.cells #[.int .i64 (mo : Int)] 3)).alloc (.cells #[.slice none 0 0] 34)) = V0 at *
  have hst := runs_stops (nf - 1) (by omega) N Bs Bn p m c xs V0 hR0
  obtain ⟨L, hL⟩ : ∃ L, runsL (bitL xs) N = L := ⟨_, rfl⟩
  have hln := runsL_len (bitL xs) N
  rw [hL] at hst hln
  have HL : Hid (runsL (bitL xs) N = L) := hL
  have hNle := hR.le
  have HLL : Hid (L.length ≤ 2049) := by show _ ≤ _; omega
  have hB0 : Below w.heap.size w V0 := hb0
  clear hL hln hNle
  have hOB : OwnFrom V0.heap.size (fun (_ : List Pie) W' => Below w.heap.size w W') := ownFrom_below (Nat.le_refl _) (by omega)
  refine wpIn_rangeFunc_ownF rfl h1 (gf := 45) (lb := #[.pointer (some ⟨Bn, 0, none⟩), .pointer (some ⟨Bs, 0, none⟩)]) rfl trivial (enters_of Try.func45 (by kernel_rfl) rfl)
    hst (fun h k => h.trans k) (fun W' l o o' hl _ _ _ => ⟨World.putObj_heap_other (by omega), World.putObj_heap_other (by omega), by simp [World.putObj], fun h0 a e => World.putObj_heap_other (by have := hlow h0 a e; omega)⟩) (Below.refl _ _) (fun _ => rfl)
    (fun pre W' => ToldP mo w pre W')
    (fun c pre W' => (∃ ini last, pre = ini ++ [last] ∧ c = .exit 0 ∧ ini.length = mo ∧ (∃ v, Boxed W' (w.heap.size + 1) 34 v ∧ W'.ownsRow (w.heap.size + 1) 41 2 v ini.length (flatP (pcs ini)) ∧ True)) ∧ Below w.heap.size w W')
    (OwnFrom.and (Own.from (holdsRow_own (w.heap.size + 1) (w.heap.size + 1) 34 41 2 (fun pre : List Pie => pre.length) (fun pre => flatP (pcs pre)) (fun _ _ => True)) _) (OwnFrom.and (Own.from (boxed_own w.heap.size 3 (fun _ : List Pie => Value.int .i64 (mo : Int))) _) (fun s A B row hs hg hr => ⟨hOB s A B row hs.1 hg hr, hs.2⟩)))
    (fun c => OwnFrom.and (Own.from (fun s A B row hs hg hr => by obtain ⟨ini, last, e1, e2, e3, e4⟩ := hs; exact ⟨ini, last, e1, e2, e3, holdsRow_own (w.heap.size + 1) (w.heap.size + 1) 34 41 2 (fun pre : List Pie => pre.length) (fun pre => flatP (pcs pre)) (fun _ _ => True) ini A B row e4 hg hr⟩) _) (ownFrom_below (Nat.le_refl _) (by omega)))
    ⟨⟨_, b5, World.ownsRow_nil _ _ _ _, trivial⟩, b3, hb0, Nat.zero_le _⟩
    (fun x => { tmps := #[(.func (.func 45) #[] #[.pointer (some ⟨Bn, 0, none⟩), .pointer (some ⟨Bs, 0, none⟩)]), .int .i64 (mo : Int), undef, .pointer (some ⟨w.heap.size, 0, none⟩), .slice none 0 0, .pointer (some ⟨w.heap.size + 1, 0, none⟩), .int .i64 (x.a : Int), .int .i64 (x.l : Int), (.func (.func 45) #[] #[.pointer (some ⟨Bn, 0, none⟩), .pointer (some ⟨Bs, 0, none⟩)]), .bool false, (.func (.func 45) #[] #[.pointer (some ⟨Bn, 0, none⟩), .pointer (some ⟨Bs, 0, none⟩)]), .int .i64 (x.a : Int), .int .i64 (x.l : Int), undef, undef, undef, undef, undef, undef, undef, undef, undef, undef, undef], defers := [] })
    ?assign ?body ?done ?stop
  case assign =>
    intro l x W' K hK
    dsimp only [encP]
    gi_wp2
    exact hK
  case body =>
    rintro l pre x W' ⟨⟨v, h5, hrow, _⟩, h3, hB, hle⟩ hlen
    obtain ⟨k, hkk⟩ : ∃ k, pre.length = k := ⟨_, rfl⟩
    have HK : Hid (pre.length = k) := hkk
    rw [hkk] at hrow hle hlen
    clear hkk
    obtain ⟨pv, cv, rfl⟩ := owns_slice hrow
    have g5 := h5.cell
    have g3 := h3.cell
    have l5 := h5.lt
    have hs5 := hB.size
    have hk9 : k ≤ 2049 := by have := HLL.out; omega
    by_cases hge : mo ≤ k
    · have hge1 : (mo : Int) ≤ (k : Int) := by omega
      gi_wp2
      exact ⟨KeepsOthers.refl _, ⟨pre, x, rfl, rfl, by rw [HK.out]; omega, _, h5, by rw [HK.out]; exact hrow, trivial⟩, hB⟩
    · have hge1 : ¬ (mo : Int) ≤ (k : Int) := by omega
      gi_wp2_with (gi_at_builtin; refine wpListIn_append_own _ rfl (.tmp 17) (.tmp 21) 34 rfl (w.heap.size + 1) 41 i0 (.agg #[.int .i64 0, .int .i64 0]) 2 16 Try.underlying34 hi hz0 hz1 hz2 rfl (by decide) (.slice pv k cv) k (flatP (pcs pre)) rfl (hrow.alloc _) ⟨W'.heap.size, 0, none⟩ 1 1 [.int .i64 (x.a : Int), .int .i64 (x.l : Int)] rfl rfl (new_two W' _ _) (by simp [Value.oneCell']) (by unfold maxLen; omega) (by omega) (by rw [World.size_alloc]; omega) ?_; intro v1 w1 hown1 hgrow1 _; obtain ⟨g', cap', rfl⟩ := ownsRow_succ hown1; obtain ⟨hv1, hv2, hr2, hk2, hb2⟩ := h5.appended (by decide) hrow (by omega) (Nat.le_refl _) hown1 hgrow1; have hc1 := hv1.cell; have hf1 := hv1.frozen)
      have esn : flatP (pcs pre) ++ [.int .i64 (x.a : Int), .int .i64 (x.l : Int)] = flatP (pcs (pre ++ [x])) := by rw [pcs_snoc, ← flatP_snoc]; rfl
      rw [esn] at hr2
      have hbw := hb2.mono (Nat.le_succ w.heap.size)
      refine ⟨hk2, KpR.of_below hbw hbs hbn hlow, ⟨_, hv2, by rw [List.length_append, HK.out]; exact hr2, trivial⟩, (hb2.block _ (by omega)).trans h3, hB.trans hbw, by rw [List.length_append, HK.out]; show k + 1 ≤ mo; omega⟩
  case done =>
    rintro D ys W' hD rfl ⟨⟨v, h5, hrow, _⟩, h3, hB, hle⟩ hK
    have HT : Hid ((runsL (bitL xs) N).take mo = ys) := by show _ = _; rw [HL.out]; exact List.take_of_length_le hle
    obtain ⟨pv, cv, rfl⟩ := owns_slice hrow
    have g5 := h5.cell
    gi_wp2
    refine ⟨by simp, .inl ⟨_, _, rfl, run_takeDeferred hK, ?_⟩⟩
    have hbD : Below w.heap.size W' (W'.putObj D (.deferred none)) := belowK_b (w := w) (Nat.le_refl _) W' D _ _ (by have := hB.size; have := hB0.size; omega) hK rfl rfl
    have hrow' := ownsRow_putObj hrow (.deferred none) hK rfl
    refine ⟨_, results_tmp Try.results29 _ _ _, _, rfl, ?_, hB.trans hbD⟩
    rw [HT.out]
    exact owns_base hrow' (Nat.le_succ _)
  case stop =>
    rintro D cc pre W' hD hsp ⟨⟨ini, last, e1, rfl, e3, v, h5, hrow, _⟩, hB⟩ hK
    have HT : Hid ((runsL (bitL xs) N).take mo = ini) := by
      show _ = _
      rw [HL.out]
      obtain ⟨t, rfl⟩ := hsp
      rw [e1, List.append_assoc, ← e3, List.take_left']
      rfl
    clear e1 e3
    obtain ⟨pv, cv, rfl⟩ := owns_slice hrow
    have g5 := h5.cell
    gi_wp2
    refine ⟨by simp, .inl ⟨_, _, rfl, run_takeDeferred hK, ?_⟩⟩
    have hbD : Below w.heap.size W' (W'.putObj D (.deferred none)) := belowK_b (w := w) (Nat.le_refl _) W' D _ _ (by have := hB.size; have := hB0.size; omega) hK rfl rfl
    have hrow' := ownsRow_putObj hrow (.deferred none) hK rfl
    refine ⟨_, results_tmp Try.results29 _ _ _, _, rfl, ?_, hB.trans hbD⟩
    rw [HT.out]
    exact owns_base hrow' (Nat.le_succ _)
theorem told_any (N Bs Bn : Nat) (p : Option Addr) (m c : Nat) (xs : List Nat) (mo : Nat) (hmo : mo ≤ 10000) (w : World) (hR : RunsIn w N Bs Bn p m c xs) :
    Calls Try.prog 29 #[(.func (.func 45) #[] #[.pointer (some ⟨Bn, 0, none⟩), .pointer (some ⟨Bs, 0, none⟩)]), .int .i64 (mo : Int)] w fun e w' => ∃ v, e = .returned v ∧ w'.ownsRow w.heap.size 41 2 v ((runsL (bitL xs) N).take mo).length (flatP (pcs ((runsL (bitL xs) N).take mo))) ∧ Below w.heap.size w w' :=
  (callsIn_wide (n := 4)).1 (told_in 4 (Nat.le_refl _) N Bs Bn p m c xs mo hmo w hR)
/-- What Runs answers: an iterator over memory of its own. -/
theorem Runs_any (p : Option Addr) (m c : Nat) (xs : List Nat) (n : Int) (w : World) (h : In w p m c xs) :
    Calls Try.prog 30 #[.slice p m c, .int .i64 n] w fun e w' => ∃ Bs Bn p' m' c', e = .returned (.func (.func 45) #[] #[.pointer (some ⟨Bn, 0, none⟩), .pointer (some ⟨Bs, 0, none⟩)]) ∧ RunsIn w' (nOf xs n) Bs Bn p' m' c' xs ∧ Below w.heap.size w w' := by
  have hc := check_any p m c xs n w h
  have hle := nOf_le xs n
  cases hb : chkB xs n with
  | false =>
    have hn : nOf xs n = 0 := by unfold nOf; rw [if_neg (by simp [hb])]
    rw [chkE_no hb] at hc
    rw [hn]
    clear hb hn hle
    go_enter Try.func30, Try.ntmps30
    go_wp2_with (first | (go_at_call 12; refine hc.mono ?_; rintro e w1 ⟨rfl, j, rfl⟩) | (go_at_call 43; refine (runs_any _ _ _ _ _).mono ?_; rintro e w2 ⟨rfl, rfl⟩))
    go_ret
    exact ⟨_, _, none, 0, 0, rfl, runsIn_new (N := 0) (Nat.zero_le _) (fun h0 => absurd h0 (Nat.lt_irrefl _)), (below_drewN (Below.refl _ _) _).trans (bt (below_alloc (w.drewN j) _) (below_alloc _ _))⟩
  | true =>
    have hq := (chkB_iff xs n).1 hb
    have hn : n = ((nOf xs n : Nat) : Int) := by unfold nOf; rw [if_pos hb]; omega
    have hm : m = 256 := by rw [← h.len]; exact hq.2.2.1
    rw [chkE_ok hb] at hc
    generalize nOf xs n = N at *
    clear hb hq
    subst hm
    subst hn
    have hon := fun j => own_any p c xs (w.drewN j) (h.drewN j)
    simp only [show ∀ j, (w.drewN j).heap.size = w.heap.size from fun _ => rfl] at hon
    go_enter Try.func30, Try.ntmps30
    go_wp2_with (first | (go_at_call 12; refine hc.mono ?_; rintro e w1 ⟨rfl, j, rfl⟩) | (go_at_call 39; refine (hon _).mono ?_; rintro e w2 ⟨rfl, ho2, hb2⟩) | (go_at_call 43; refine (runs_any _ _ _ _ _).mono ?_; rintro e w3 ⟨rfl, rfl⟩))
    go_ret
    obtain ⟨p9, c9, hv9, hin9⟩ := in_of_owns ho2 h.byte (by decide)
    cases hv9
    exact ⟨_, _, _, 256, 256, rfl, runsIn_new hle (fun _ => ⟨rfl, hin9⟩), ((below_drewN (Below.refl _ _) _).trans hb2).trans ((bt (below_alloc w2 _) (below_alloc _ _)).mono hb2.size)⟩
end Go.Proofs.Ythpbeppfiinooaa
