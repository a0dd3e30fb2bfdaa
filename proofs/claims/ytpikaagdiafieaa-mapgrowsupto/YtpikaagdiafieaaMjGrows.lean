/-
  For every three states a, b and c and all records l, where what comes in holds together at most 1048576 values: the call of MapGrows returns true (Join is commutative, associative and idempotent; records come to the same in any order, and twice; what is made covers what it was made of), and all arguments read afterwards as they read before. Its condition: that bound.
-/
import Derived.Test.YtpikaagdiafieaaMjGrows1
import Derived.Test.YtpikaagdiafieaaMjGrows2
import Derived.Test.YtpikaagdiafieaaMjGrows3
import Derived.Test.YtpikaagdiafieaaMjGrows4
import Derived.Test.YtpikaagdiafieaaMjGrows5
import Derived.Test.YtpikaagdiafieaaMjLift
import Derived.JoinedCond
import Derived.Deep.CondSized
namespace Go.Proofs.Ytpikaagdiafieaa
open Go.ChangeShapes Go.WideShapes Go.ChangeAt Go.RowKit
theorem grows_walk (V U T : SV) (a b c : MS) (pl : Option Addr) (N c' : Nat) (l : List MR) (w : World) (ha : InS w V a) (hb : InS w U b) (hc : InS w T c) (hl : InR w pl N c' l) (hN : N ≤ 1048576) :
    Calls Try.prog 8 #[V.val a, U.val b, T.val c, .slice pl N c'] w fun e w' => e = .returned (.bool true) ∧ Below w.heap.size w w' := by
  by_cases hz : joinE a b = 0
  · by_cases hz4 : joinE b c = 0
    · by_cases he : (applyR a l).2 = 0
      · exact grows_1 V U T a b c pl N c' l w ha hb hc hl hN hz hz4 he
      · exact grows_2 V U T a b c pl N c' l w ha hb hc hl hN hz hz4 he
    · by_cases he : (applyR a l).2 = 0
      · exact grows_3 V U T a b c pl N c' l w ha hb hc hl hN hz hz4 he
      · exact grows_4 V U T a b c pl N c' l w ha hb hc hl hN hz hz4 he
  · exact grows_5 V U T a b c pl N c' l w ha hb hc hl hN hz
theorem bulk_one {H : Type} (d : DataW H) : 1 ≤ Rows.uptoBulk d := by
  cases d with
  | lit l => cases l <;> simp [Rows.uptoBulk]
  | nil => simp [Rows.uptoBulk]
  | ptr d => simp [Rows.uptoBulk]
  | slice elems spare => simp [Rows.uptoBulk]
  | agg parts => simp [Rows.uptoBulk]
  | iface t d => simp [Rows.uptoBulk]
  | map entries => simp [Rows.uptoBulk]
  | held h => simp [Rows.uptoBulk]
theorem bulk_part {H : Type} {d : DataW H} {l : List (DataW H)} (h : d ∈ l) : Rows.uptoBulk d ≤ Rows.uptoBulkAll l := by
  induction l with
  | nil => cases h
  | cons x r ih =>
    simp only [Rows.uptoBulkAll]
    cases List.mem_cons.1 h with
    | inl e => subst e; omega
    | inr e => have := ih e; omega
theorem bulk_length {H : Type} (l : List (DataW H)) : l.length ≤ Rows.uptoBulkAll l := by
  induction l with
  | nil => simp [Rows.uptoBulkAll]
  | cons x r ih => have := bulk_one x; simp only [Rows.uptoBulkAll, List.length_cons]; omega
set_option maxRecDepth 100000 in
theorem recs_bulk {H : Type} {enc : TypeId × Value → H} {W : World} {a : Option Addr} {len cap : Nat} {fuel : Nat} {d : DataW H} {p : List MemPlace} (hf : DataW.trod enc Try.prog W 0 (fun _ => true) true fuel 34 (Value.slice a len cap).cells.toList = some (d, p)) : len ≤ Rows.uptoBulk d := by
  rcases Go.Deep.open_slice Try.underlying34 hf with ⟨hcs, _⟩ | ⟨x, l, c, m, n, D, Pl, hcs, _, hl, hm, hmm, hxx, hx⟩
  · simp [Value.cells] at hcs
    obtain ⟨rfl, rfl, rfl⟩ := hcs
    exact Nat.zero_le _
  · simp [Value.cells] at hcs
    obtain ⟨rfl, rfl, rfl⟩ := hcs
    simp only [Prod.mk.injEq] at hxx
    rw [hxx.1]
    have := bulk_length ((List.range len).map D)
    simp only [Rows.uptoBulk]
    rw [List.length_map, List.length_range] at this
    omega
set_option maxRecDepth 100000 in
theorem grows_lifted (os : Os) (started : os.Started) (H : Type) (enc : TypeId × Value → H) (F : Stop.Interp) :
    ReturnsInHanded {} Try.checked os 8 .any ((Rows.OpenSpec.upto Rows.mapGrowsSpec).pre6 enc Try.prog Try.f8 Rows.mapGrowsUptoRow.domain false) (((Rows.OpenSpec.upto Rows.mapGrowsSpec).at F).post enc Try.prog Try.f8 false true false false) := by
  refine returnsInHanded_of_cond_sized (C := Try.checked) (s := Rows.OpenSpec.upto Rows.mapGrowsSpec) (k := Rows.uptoSmall) rfl own started (by kernel_rfl) Try.func8
    (OpenSpec.witness (enc := enc) (C := Try.checked) (s := Rows.OpenSpec.upto Rows.mapGrowsSpec) (k := Rows.uptoSmall) rfl false ⟨#[], #[.agg #[.slice none 0 0, .slice none 0 0, .int .i64 0], .agg #[.slice none 0 0, .slice none 0 0, .int .i64 0], .agg #[.slice none 0 0, .slice none 0 0, .int .i64 0], .slice none 0 0], []⟩ 8 (by kernel_rfl) (by kernel_rfl) (by kernel_rfl)
      (x := ([.agg [.nil, .nil, .lit (.int .i64 0)], .agg [.nil, .nil, .lit (.int .i64 0)], .agg [.nil, .nil, .lit (.int .i64 0)], .nil], [], [])) (by kernel_rfl) rfl (by kernel_rfl)) ?_
  intro W base args ds gs before hval0 hW hcnd hk hsz0 _
  have hval : ∀ (j : Nat) t v, Try.f8.params[j]? = some t → args[j]? = some v → Value.okWide Try.prog W .any base t v := hval0
  have hsz : (DataW.weightsEach Try.prog (Try.f8.params.toList ++ Rows.mapGrowsSpec.plain.varTypes Try.prog) (ds ++ gs)).all (· ≤ reachBytes) = true := hsz0
  have hW' := hW
  obtain ⟨p, q, hA0, hV, rfl, hfz, hnd⟩ := hW
  have hA : DataW.TrodAll enc Try.prog W 0 (fun _ => true) true Try.f8.params.toList args.toList ds p := hA0
  rw [Try.params8] at hA hval hsz
  obtain ⟨v0, vs0, d0, ds0, p0, q0, hargs, rfl, rfl, h0, r0⟩ := trodAll_cons hA
  obtain ⟨v1, vs1, d1, ds1, p1, q1, rfl, rfl, rfl, h1, r1⟩ := trodAll_cons r0
  obtain ⟨v2, vs2, d2, ds2, p2, q2, rfl, rfl, rfl, h2, r2⟩ := trodAll_cons r1
  obtain ⟨v3, vs3, d3, ds3, p3, q3, rfl, rfl, rfl, h3, r3⟩ := trodAll_cons r2
  obtain ⟨rfl, rfl, rfl⟩ := trodAll_nil r3
  obtain rfl : args = #[v0, v1, v2, v3] := by cases args; simp_all
  obtain ⟨rfl, rfl⟩ := trodVars_none hV
  have lt0 : ∀ x ∈ p0, x.block < W.heap.size := by obtain ⟨m, hm⟩ := h0; exact DataW.trod_lt m _ _ _ hm
  obtain ⟨Va, Sa, hv0, hr0⟩ := openState (hval 0 25 v0 rfl rfl) h0 hsz (j := 0) rfl rfl
  subst hv0
  have lt1 : ∀ x ∈ p1, x.block < W.heap.size := by obtain ⟨m, hm⟩ := h1; exact DataW.trod_lt m _ _ _ hm
  obtain ⟨Vb, Sb, hv1, hr1⟩ := openState (hval 1 25 v1 rfl rfl) h1 hsz (j := 1) rfl rfl
  subst hv1
  have lt2 : ∀ x ∈ p2, x.block < W.heap.size := by obtain ⟨m, hm⟩ := h2; exact DataW.trod_lt m _ _ _ hm
  obtain ⟨Vc, Sc, hv2, hr2⟩ := openState (hval 2 25 v2 rfl rfl) h2 hsz (j := 2) rfl rfl
  subst hv2
  have lt3 : ∀ x ∈ p3, x.block < W.heap.size := by obtain ⟨m, hm⟩ := h3; exact DataW.trod_lt m _ _ _ hm
  obtain ⟨spl, snl, scl, sll, hv3, hr3, hn3⟩ := openRecs (okWide_slice Try.underlying34 (hval 3 34 v3 rfl rfl)) h3 hsz (j := 3) rfl rfl
  subst hv3
  have hbulk : snl ≤ 1048576 := by
    obtain ⟨fuel, hf⟩ := h3
    have hb : Rows.uptoBulk d3 ≤ 1048576 := Nat.le_trans (bulk_part (List.mem_append_left _ (by simp))) (of_decide_eq_true hk)
    exact Nat.le_trans (recs_bulk hf) hb
  clear hA0 hval0 hsz0
  refine (grows_walk Va Vb Vc Sa Sb Sc spl snl scl sll W hr0 hr1 hr2 hr3 hbulk).mono fun e W' ⟨he, bel⟩ => ?_
  subst he
  exact ⟨_, rfl, _, _, _, [], _, [], hW', trodAll_mk1 (shut_bool Try.underlying4 _), (trodAll_cons_mk (Below.trod laidOut (by kernel_rfl) (of_decide_eq_true (by kernel_rfl)) h0 bel lt0) (trodAll_cons_mk (Below.trod laidOut (by kernel_rfl) (of_decide_eq_true (by kernel_rfl)) h1 bel lt1) (trodAll_cons_mk (Below.trod laidOut (by kernel_rfl) (of_decide_eq_true (by kernel_rfl)) h2 bel lt2) (trodAll_cons_mk (Below.trod laidOut (by kernel_rfl) (of_decide_eq_true (by kernel_rfl)) h3 bel lt3) trodAll_mk0)))), rfl, bel.frame _, fun h => by cases h⟩
theorem mapGrows_holds : Rows.MapGrowsUptoSaid :=
  OpenClaim.holds_of_cond 8 Try.f8 rfl rfl rfl rfl rfl rfl rfl ⟨rfl, rfl, rfl, rfl, rfl⟩ rfl rfl rfl rfl rfl (by kernel_rfl) Try.func8 (by kernel_rfl)
    (of_decide_eq_true (by kernel_rfl)) (by unfold Func.isWrapper; first | (rw [if_pos (by decide +kernel)]; kernel_rfl) | (rw [if_neg (by decide +kernel)]; exact ⟨rfl, rfl⟩))
    (fun os started H enc _ F => grows_lifted os started H enc F)
#print axioms mapGrows_holds
end Go.Proofs.Ytpikaagdiafieaa
