/-
  What Count answers.
-/
import Derived.Test.YtigkfmdhmonjlaaPoPick
namespace Go.Proofs.Ytigkfmdhmonjlaa
open Go.RowKit Go.Shelf
attribute [local go_sem] Oper.semAt_some
set_option linter.unusedSimpArgs false in
set_option maxRecDepth 100000 in
set_option maxHeartbeats 4000000 in
theorem count_in (nf : Nat) (hnf : 4 ≤ nf) (p q : Option Addr) (n c m d : Nat) (R W : List Int) (role : Int) (w : World) (hR : InI w p n c R) (hW : InI w q m d W) :
    CallsIn Fence.wide nf Try.prog 34 #[.agg #[.slice p n c, .slice q m d], .int .i64 role] w fun e w' => e = .returned (.int .i64 ((allK R W role).length : Int)) ∧ Below w.heap.size w w' := by
  have h1 : 1 ≤ nf := by omega
  have hall := fun W' (h1 : InI W' p n c R) (h2 : InI W' q m d W) => all_any p q n c m d R W role W' h1 h2
  generalize allK R W role = ks at *
  generalize min R.length W.length = N at *
  have hb0 : Below w.heap.size w ((w.alloc (.cells #[.slice p n c, .slice q m d] 25)).alloc (.cells #[.int .i64 0] 3)) := bt (below_alloc w _) (below_alloc _ _)
  have b5 := Boxed.new (w.alloc (.cells #[.slice p n c, .slice q m d] 25)) 3 (.int .i64 0)
  simp only [World.size_alloc] at b5
  refine callsIn_of_wp_marks Try.func34 rfl trivial ?_ rfl
  simp only [Try.ntmps34, List.size_toArray, List.length_cons, List.length_nil, Nat.reduceAdd, Nat.reduceSub, Array.replicate_succ, Array.replicate_zero, List.push_toArray, List.append_toArray, List.nil_append, List.cons_append]
  gi_wp2_with (refine ⟨trivial, ?_⟩; gi_at_call 37; refine (callsIn_wide.2 (hall _ (hR.below hb0) (hW.below hb0))).mono ?_; rintro e w1 ⟨Bs, p1, c1, rfl, hBs, hbs, hin, hne, hb1⟩)
  have hs0 : w.heap.size + 2 ≤ ((w.alloc (.cells #[.slice p n c, .slice q m d] 25)).alloc (.cells #[.int .i64 0] 3)).heap.size := by simp only [World.size_alloc]; omega
  have hB1 := bt hb0 hb1
  replace b5 : Boxed w1 (w.heap.size + 1) 3 (.int .i64 0) := (hb1.block _ b5.lt).trans b5
  have hlow : w.heap.size + 2 ≤ Bs := Nat.le_trans hs0 hBs
  have hlow2 : ∀ a, p1 = some a → w.heap.size + 2 ≤ a.block := fun a e => Nat.le_trans hs0 (hne a e).1
  have hlow3 : ∀ a, p1 = some a → a.block < w1.heap.size := fun a e => (hne a e).2.2
  have hltb := hbs.lt
  have hcb := hbs.cell' (i := 0) rfl
  clear hb0 hb1 hs0 hBs hne hbs
  rw [valsK_length] at hcb hin
  have hroom := hin.room
  refine wpIn_rangeFunc_ownF rfl h1 (gf := 61) (lb := #[.pointer (some ⟨Bs, 0, none⟩)]) rfl trivial (enters_of Try.func61 (by kernel_rfl) rfl)
    (values_stops Fence.wide (nf - 1) trivial rfl (by omega) Bs c1 p1 ks w1 hltb hcb hin) (fun h k => h.trans k) (fun W' l o o' hl _ _ _ => ⟨⟨World.putObj_heap_other (by omega), by simp [World.putObj]⟩, fun a e => World.putObj_heap_other (by have := hlow3 a e; omega)⟩) (Below.refl _ _) (fun _ => rfl)
    (fun pre W' => Boxed W' (w.heap.size + 1) 3 (.int .i64 (pre.length : Int)) ∧ Below w.heap.size w W')
    (fun _ _ _ => False)
    (OwnFrom.and (Own.from (boxed_own (w.heap.size + 1) 3 (fun pre : List (IdxT N) => Value.int .i64 (pre.length : Int))) _) (ownFrom_below (Nat.le_refl _) (by have := hB1.size; omega)))
    (fun _ _ _ _ _ hs _ _ => hs)
    ⟨b5, hB1⟩
    (fun x => { tmps := #[.agg #[.slice p n c, .slice q m d], .int .i64 role, .pointer (some ⟨w.heap.size, 0, none⟩), undef, .int .i64 0, .pointer (some ⟨w.heap.size + 1, 0, none⟩), .agg #[.slice p n c, .slice q m d], .int .i64 role, .func (.func 61) #[] #[.pointer (some ⟨Bs, 0, none⟩)], .int .i64 (x.1 : Int), undef, undef, undef], defers := [] })
    ?assign ?body ?done ?stop
  case assign =>
    intro l x W' K hK
    dsimp only [encK]
    gi_wp2
    first | exact hK | (simp [Array.zip, Array.zipWith, Array.zipWithMAux]; exact hK) | (simpa using hK) | (simp; exact hK)
  case body =>
    rintro l pre x W' ⟨h5, hB⟩ hlen
    have g5 := h5.cell
    have f5 := h5.frozen
    have HL : Hid ((pre ++ [x]).length = pre.length + 1) := by show _ = _; simp
    have hk5 : w.heap.size + 1 ≠ Bs := by omega
    have hj5 : ∀ a, p1 = some a → w.heap.size + 1 ≠ a.block := fun a e => by have := hlow2 a e; omega
    obtain ⟨k, hk⟩ : ∃ k, pre.length = k := ⟨_, rfl⟩
    rw [hk] at g5 hlen HL
    have HK : Hid (pre.length = k) := hk
    clear hk
    have hk1 : (k : Int) ≤ 140737488355328 := by omega
    gi_wp2
    refine ⟨KeepsOthers.setCell _ _ _, (KpK.refl Bs p1 W').setCell _ hk5 hj5, ?_, hB.setCell (p := ⟨w.heap.size + 1, 0, none⟩) (by show w.heap.size ≤ w.heap.size + 1; omega) _⟩
    rw [HL.out]
    exact h5.set _
  case done =>
    rintro D ys W' hD rfl ⟨h5, hB⟩ hK
    have g5 := h5.cell
    gi_wp2
    refine ⟨by simp, .inl ⟨_, _, rfl, run_takeDeferred hK, ?_⟩⟩
    have hs1 := hB1.size
    have hbD : Below w.heap.size W' (W'.putObj D (.deferred none)) := belowK_b (w := w) (Nat.le_refl _) W' D _ _ (by omega) hK rfl rfl
    exact ⟨_, results_tmp Try.results34 _ _ _, rfl, hB.trans hbD⟩
  case stop =>
    rintro D c pre W' _ _ h _
    exact h.elim
theorem count_any (p q : Option Addr) (n c m d : Nat) (R W : List Int) (role : Int) (w : World) (hR : InI w p n c R) (hW : InI w q m d W) :
    Calls Try.prog 34 #[.agg #[.slice p n c, .slice q m d], .int .i64 role] w fun e w' => e = .returned (.int .i64 ((allK R W role).length : Int)) ∧ Below w.heap.size w w' :=
  (callsIn_wide (n := 4)).1 (count_in 4 (Nat.le_refl _) p q n c m d R W role w hR hW)
end Go.Proofs.Ytigkfmdhmonjlaa
