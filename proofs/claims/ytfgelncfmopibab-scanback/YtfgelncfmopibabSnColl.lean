/-
  slices.Collect of what slices.Values hands back.
-/
import Derived.Test.YtfgelncfmopibabSnVals
namespace Go.Proofs.Ytfgelncfmopibab
open Go.RowKit Go.Shelf
attribute [local go_sem] Oper.semAt_some
theorem valsK_snoc {N : Nat} (pre : List (IdxT N)) (x : IdxT N) : valsI (valsK (pre ++ [x])) = valsI (valsK pre) ++ [.int .i64 (x.1 : Int)] := by simp [valsK, valsI]
theorem KpK.of_below {Bs : Nat} {p : Option Addr} {A B : World} {m : Nat} (h : Below m A B) (h1 : Bs < m) (h2 : ∀ a, p = some a → a.block < m) : KpK Bs p A B := ⟨⟨h.block Bs h1, h.size⟩, fun a e => h.block _ (h2 a e)⟩
set_option linter.unusedSimpArgs false in
set_option maxRecDepth 100000 in
set_option maxHeartbeats 4000000 in
theorem appendSeq_in {N : Nat} (nf : Nat) (hnf : 4 ≤ nf) (Bs c1 : Nat) (p1 : Option Addr) (ks : List (IdxT N)) (w : World) (hbs : Blk w Bs 29 [.slice p1 ks.length c1]) (hin : InI w p1 ks.length c1 (valsK ks)) (hlow : ∀ a, p1 = some a → a.block < w.heap.size) (hkl : ks.length ≤ 1000000) :
    CallsIn Fence.wide nf Try.prog 80 #[.slice none 0 0, .func (.func 79) #[] #[.pointer (some ⟨Bs, 0, none⟩)]] w fun e w' => ∃ p' c', e = .returned (.slice p' ks.length c') ∧ w'.ownsRow w.heap.size 3 1 (.slice p' ks.length c') ks.length (valsI (valsK ks)) ∧ Below w.heap.size w w' := by
  obtain ⟨i0, hi, hz0, hz1, hz2⟩ := info_parts infoI'
  have h1 : 1 ≤ nf := by omega
  have hltb := hbs.lt
  have hb0 : Below w.heap.size w (w.alloc (.cells #[.slice none 0 0] 29)) := below_alloc w _
  have b5 := Boxed.new w 29 (.slice none 0 0)
  have hsz : w.heap.size + 1 ≤ (w.alloc (.cells #[.slice none 0 0] 29)).heap.size := by simp only [World.size_alloc]; omega
  have hcb := (hbs.kept hb0).cell' (i := 0) rfl
  have hin0 := hin.below hb0
  refine callsIn_of_wp_marks Try.func80 rfl trivial ?_ rfl
  simp only [Try.ntmps80, List.size_toArray, List.length_cons, List.length_nil, Nat.reduceAdd, Nat.reduceSub, Array.replicate_succ, Array.replicate_zero, List.push_toArray, List.append_toArray, List.nil_append, List.cons_append]
  gi_wp2
  generalize w.alloc (.cells #[.slice none 0 0] 29) = V0 at *
  refine wpIn_rangeFunc_ownF rfl h1 (gf := 79) (lb := #[.pointer (some ⟨Bs, 0, none⟩)]) rfl trivial (enters_of Try.func79 (by kernel_rfl) rfl)
    (values_stops Fence.wide (nf - 1) trivial rfl (by omega) Bs c1 p1 ks V0 (by omega) hcb hin0) (fun h k => h.trans k) (fun W' l o o' hl _ _ _ => ⟨⟨World.putObj_heap_other (by omega), by simp [World.putObj]⟩, fun a e => World.putObj_heap_other (by have := hlow a e; omega)⟩) (Below.refl _ _) (fun _ => rfl)
    (fun pre W' => (∃ v, Boxed W' w.heap.size 29 v ∧ W'.ownsRow w.heap.size 3 1 v pre.length (valsI (valsK pre)) ∧ True) ∧ Below w.heap.size w W')
    (fun _ _ _ => False)
    (OwnFrom.and (Own.from (holdsRow_own w.heap.size w.heap.size 29 3 1 (fun pre : List (IdxT N) => pre.length) (fun pre => valsI (valsK pre)) (fun _ _ => True)) _) (ownFrom_below (Nat.le_refl _) (by omega)))
    (fun _ _ _ _ _ hs _ _ => hs)
    ⟨⟨_, b5, World.ownsRow_nil _ _ _ _, trivial⟩, hb0⟩
    (fun x => { tmps := #[.slice none 0 0, .func (.func 79) #[] #[.pointer (some ⟨Bs, 0, none⟩)], .pointer (some ⟨w.heap.size, 0, none⟩), undef, .slice none 0 0, .int .i64 (x.1 : Int), .func (.func 79) #[] #[.pointer (some ⟨Bs, 0, none⟩)], .int .i64 (x.1 : Int), undef, undef, undef, undef, undef], defers := [] })
    ?assign ?body ?done ?stop
  case assign =>
    intro l x W' K hK
    dsimp only [encK]
    gi_wp2
    exact hK
  case stop =>
    rintro D c pre W' _ _ h _
    exact h.elim
  case body =>
    rintro l pre x W' ⟨⟨v, h5, hrow, _⟩, hB⟩ hlen
    obtain ⟨k, hkk⟩ : ∃ k, pre.length = k := ⟨_, rfl⟩
    have HK : Hid (pre.length = k) := hkk
    rw [hkk] at hrow hlen
    clear hkk
    obtain ⟨pv, cv, rfl, hinv⟩ := in_of_ownsI hrow (by omega)
    clear hinv
    have g5 := h5.cell
    have f5 := h5.frozen
    have l5 := h5.lt
    have hs5 := hB.size
    gi_wp2_with (gi_at_builtin; refine wpListIn_append_own _ rfl (.tmp 8) (.tmp 10) 29 rfl w.heap.size 3 i0 (.int .i64 0) 1 8 Try.underlying29 hi hz0 hz1 hz2 rfl (by decide) (.slice pv k cv) k (valsI (valsK pre)) rfl (hrow.alloc _) ⟨W'.heap.size, 0, none⟩ 1 1 [.int .i64 (x.1 : Int)] rfl rfl (new_one W' _) (by simp [Value.oneCell']) (by unfold maxLen; omega) (by omega) (by rw [World.size_alloc]; omega) ?_; intro v1 w1 hown1 hgrow1 _; obtain ⟨g', cap', rfl⟩ := ownsRow_succ hown1; obtain ⟨hv1, hv2, hr2, hk2, hb2⟩ := h5.appended (by decide) hrow (by omega) (Nat.le_refl _) hown1 hgrow1; have hc1 := hv1.cell; have hf1 := hv1.frozen)
    rw [← valsK_snoc] at hr2
    refine ⟨hk2, KpK.of_below hb2 hltb hlow, ⟨_, hv2, by rw [List.length_append, HK.out]; exact hr2, trivial⟩, hB.trans hb2⟩
  case done =>
    rintro D ys W' hD rfl ⟨⟨v, h5, hrow, _⟩, hB⟩ hK
    obtain ⟨pv, cv, rfl, hinv⟩ := in_of_ownsI hrow (by omega)
    clear hinv
    have g5 := h5.cell
    gi_wp2
    refine ⟨by simp, .inl ⟨_, _, rfl, run_takeDeferred hK, ?_⟩⟩
    have hbD : Below w.heap.size W' (W'.putObj D (.deferred none)) := belowK_b (w := w) (Nat.le_refl _) W' D _ _ (by omega) hK rfl rfl
    have hrow' := ownsRow_putObj hrow (.deferred none) hK rfl
    exact ⟨_, results_tmp Try.results80 _ _ _, pv, cv, rfl, hrow', hB.trans hbD⟩
theorem collect_any {N : Nat} (Bs c1 : Nat) (p1 : Option Addr) (ks : List (IdxT N)) (w : World) (hbs : Blk w Bs 29 [.slice p1 ks.length c1]) (hin : InI w p1 ks.length c1 (valsK ks)) (hlow : ∀ a, p1 = some a → a.block < w.heap.size) (hkl : ks.length ≤ 1000000) :
    Calls Try.prog 66 #[.func (.func 79) #[] #[.pointer (some ⟨Bs, 0, none⟩)]] w fun e w' => ∃ p' c', e = .returned (.slice p' ks.length c') ∧ w'.ownsRow w.heap.size 3 1 (.slice p' ks.length c') ks.length (valsI (valsK ks)) ∧ Below w.heap.size w w' := by
  have h := callsIn_wide.1 (appendSeq_in 4 (Nat.le_refl _) Bs c1 p1 ks w hbs hin hlow hkl)
  go_enter Try.func66, Try.ntmps66
  go_wp2_with (go_at_call 80; refine h.mono ?_; rintro e w1 ⟨p', c', rfl, ho, hb⟩)
  go_ret
  exact ⟨p', c', rfl, ho, hb⟩
end Go.Proofs.Ytfgelncfmopibab
