/-
  What told answers, and that its slice is new.
-/
import Derived.Test.YtdmnddikcpfmfaaGreatCkTold
import Derived.Deep.Cut
import Derived.RangeFuncNested
import Derived.RangeFuncBound
import Derived.RangeFuncCalls
import Derived.RangeFuncLeaves
import Derived.Shelf.RegionOpen
import Derived.OwnWalkIn
import Derived.TacticsInMore
import Derived.LoopNIn
import Derived.LoopIn
namespace Go.Proofs.YtdmnddikcpfmfaaGreat
open Go.RowKit Go.Shelf
attribute [local go_sem] Oper.semAt_some
theorem owns_new {w : World} {B : Nat} {e : TypeId} {z : Nat} {p : Option Addr} {m n c : Nat} {xs : List Value} (h : w.ownsRow B e z (.slice p m c) n xs) : ∀ a, p = some a → B ≤ a.block := by
  rcases h.2 with ⟨h1, _⟩ | ⟨g, cap, cur, h1, hg, _⟩
  · cases h1; intro a ha; cases ha
  · cases h1; intro a ha; cases ha; exact hg
set_option linter.unusedSimpArgs false in
set_option maxRecDepth 100000 in
set_option maxHeartbeats 4000000 in
theorem told_in2 {N : Nat} (nf : Nat) (hnf : 4 ≤ nf) (Bs c1 : Nat) (p1 : Option Addr) (ks : List (IdxT N)) (mo : Nat) (hmo : mo ≤ 1000) (w : World) (hbs : Blk w Bs 40 [.slice p1 ks.length c1]) (hin : InI w p1 ks.length c1 (valsK ks)) (hlow : ∀ a, p1 = some a → a.block < w.heap.size) :
    CallsIn Fence.wide nf Tryz.prog 49 #[.func (.func 105) #[] #[.pointer (some ⟨Bs, 0, none⟩)], .int .i64 (mo : Int)] w fun e w' => ∃ p' c', e = .returned (.slice p' (ks.take mo).length c') ∧ InI w' p' (ks.take mo).length c' (valsK (ks.take mo)) ∧ Below w.heap.size w w' ∧ ∀ a, p' = some a → w.heap.size ≤ a.block := by
  obtain ⟨i0, hi, hz0, hz1, hz2⟩ := info_parts info3
  have h1 : 1 ≤ nf := by omega
  have hltb := hbs.lt
  have hfn := fun W a b => seq_nil W (.func 105) a b
  have hb0 : Below w.heap.size w ((w.alloc (.cells #[.int .i64 (mo : Int)] 3)).alloc (.cells #[.slice none 0 0] 40)) := bt (below_alloc w _) (below_alloc _ _)
  have b3 := (Boxed.new w 3 (.int .i64 (mo : Int))).alloc (.cells #[.slice none 0 0] 40)
  have b5 := Boxed.new (w.alloc (.cells #[.int .i64 (mo : Int)] 3)) 40 (.slice none 0 0)
  simp only [World.size_alloc] at b5
  have hsz : w.heap.size + 2 ≤ ((w.alloc (.cells #[.int .i64 (mo : Int)] 3)).alloc (.cells #[.slice none 0 0] 40)).heap.size := by simp only [World.size_alloc]; omega
  have hcb := (hbs.kept hb0).cell' (i := 0) rfl
  have hin0 := hin.below hb0
  refine callsIn_of_wp_marks Tryz.func49 rfl trivial ?_ rfl
  simp only [Tryz.ntmps49, List.size_toArray, List.length_cons, List.length_nil, Nat.reduceAdd, Nat.reduceSub, Array.replicate_succ, Array.replicate_zero, List.push_toArray, List.append_toArray, List.nil_append, List.cons_append]
  gi_wp2
  generalize ((w.alloc (.cells #[.int .i64 (mo : Int)] 3)).alloc (.cells #[.slice none 0 0] 40)) = V0 at *
  have hOB : OwnFrom V0.heap.size (fun (_ : List (IdxT N)) W' => Below w.heap.size w W') := ownFrom_below (Nat.le_refl _) (by omega)
  refine wpIn_rangeFunc_ownF rfl h1 (gf := 105) (lb := #[.pointer (some ⟨Bs, 0, none⟩)]) rfl trivial (enters_of Tryz.func105 (by kernel_rfl) rfl)
    (values_stops Fence.wide (nf - 1) trivial rfl (by omega) Bs c1 p1 ks V0 (by omega) hcb hin0) (fun h k => h.trans k) (fun W' l o o' hl _ _ _ => ⟨⟨World.putObj_heap_other (by omega), by simp [World.putObj]⟩, fun a e => World.putObj_heap_other (by have := hlow a e; omega)⟩) (Below.refl _ _) (fun _ => rfl)
    (fun pre W' => ToldI w.heap.size mo w pre W')
    (fun c pre W' => (∃ ini last, pre = ini ++ [last] ∧ c = .exit 0 ∧ ini.length = mo ∧ (∃ v, Boxed W' (w.heap.size + 1) 40 v ∧ W'.ownsRow (w.heap.size + 1) 3 1 v ini.length (valsI (valsK ini)) ∧ True)) ∧ Below w.heap.size w W')
    (OwnFrom.and (Own.from (holdsRow_own (w.heap.size + 1) (w.heap.size + 1) 40 3 1 (fun pre : List (IdxT N) => pre.length) (fun pre => valsI (valsK pre)) (fun _ _ => True)) _) (OwnFrom.and (Own.from (boxed_own w.heap.size 3 (fun _ : List (IdxT N) => Value.int .i64 (mo : Int))) _) (fun s A B row hs hg hr => ⟨hOB s A B row hs.1 hg hr, hs.2⟩)))
    (fun c => OwnFrom.and (Own.from (fun s A B row hs hg hr => by obtain ⟨ini, last, e1, e2, e3, e4⟩ := hs; exact ⟨ini, last, e1, e2, e3, holdsRow_own (w.heap.size + 1) (w.heap.size + 1) 40 3 1 (fun pre : List (IdxT N) => pre.length) (fun pre => valsI (valsK pre)) (fun _ _ => True) ini A B row e4 hg hr⟩) _) (ownFrom_below (Nat.le_refl _) (by omega)))
    ⟨⟨_, b5, World.ownsRow_nil _ _ _ _, trivial⟩, b3, hb0, Nat.zero_le _⟩
    (fun x => { tmps := #[.func (.func 105) #[] #[.pointer (some ⟨Bs, 0, none⟩)], .int .i64 (mo : Int), undef, .pointer (some ⟨w.heap.size, 0, none⟩), .slice none 0 0, .pointer (some ⟨w.heap.size + 1, 0, none⟩), .int .i64 (x.1 : Int), .func (.func 105) #[] #[.pointer (some ⟨Bs, 0, none⟩)], .bool false, .func (.func 105) #[] #[.pointer (some ⟨Bs, 0, none⟩)], .int .i64 (x.1 : Int), undef, undef, undef, undef, undef, undef, undef, undef, undef], defers := [] })
    ?assign ?body ?done ?stop
  case assign =>
    intro l x W' K hK
    dsimp only [encK]
    gi_wp2
    exact hK
  case body =>
    rintro l pre x W' ⟨⟨v, h5, hrow, _⟩, h3, hB, hle⟩ hlen
    obtain ⟨k, hkk⟩ : ∃ k, pre.length = k := ⟨_, rfl⟩
    have HK : Hid (pre.length = k) := hkk
    rw [hkk] at hrow hle hlen
    clear hkk
    obtain ⟨pv, cv, rfl, hinv⟩ := in_of_ownsI hrow (by omega)
    clear hinv
    have g5 := h5.cell
    have g3 := h3.cell
    have l5 := h5.lt
    have hs5 := hB.size
    by_cases hge : mo ≤ k
    · have hge1 : (mo : Int) ≤ (k : Int) := by omega
      gi_wp2
      exact ⟨KeepsOthers.refl _, ⟨pre, x, rfl, rfl, by rw [HK.out]; omega, _, h5, by rw [HK.out]; exact hrow, trivial⟩, hB⟩
    · have hge1 : ¬ (mo : Int) ≤ (k : Int) := by omega
      gi_wp2_with (gi_at_builtin; refine wpListIn_append_own _ rfl (.tmp 15) (.tmp 17) 40 rfl (w.heap.size + 1) 3 i0 (.int .i64 0) 1 8 Tryz.underlying40 hi hz0 hz1 hz2 rfl (by decide) (.slice pv k cv) k (valsI (valsK pre)) rfl (hrow.alloc _) ⟨W'.heap.size, 0, none⟩ 1 1 [.int .i64 (x.1 : Int)] rfl rfl (new_one W' _) (by simp [Value.oneCell']) (by unfold maxLen; omega) (by omega) (by rw [World.size_alloc]; omega) ?_; intro v1 w1 hown1 hgrow1 _; obtain ⟨g', cap', rfl⟩ := ownsRow_succ hown1; obtain ⟨hv1, hv2, hr2, hk2, hb2⟩ := h5.appended (by decide) hrow (by omega) (Nat.le_refl _) hown1 hgrow1; have hc1 := hv1.cell; have hf1 := hv1.frozen)
      rw [← valsK_snoc] at hr2
      have hbw := hb2.mono (Nat.le_succ w.heap.size)
      refine ⟨hk2, KpK.of_below hbw hltb hlow, ⟨_, hv2, by rw [List.length_append, HK.out]; exact hr2, trivial⟩, (hb2.block _ (by omega)).trans h3, hB.trans hbw, by rw [List.length_append, HK.out]; show k + 1 ≤ mo; omega⟩
  case done =>
    rintro D ys W' hD rfl ⟨⟨v, h5, hrow, _⟩, h3, hB, hle⟩ hK
    have HT : Hid (ys.take mo = ys) := List.take_of_length_le hle
    obtain ⟨pv, cv, rfl, hinv⟩ := in_of_ownsI hrow (by omega)
    clear hinv
    have g5 := h5.cell
    gi_wp2
    refine ⟨by simp, .inl ⟨_, _, rfl, run_takeDeferred hK, ?_⟩⟩
    have hbD : Below w.heap.size W' (W'.putObj D (.deferred none)) := belowK_b (w := w) (Nat.le_refl _) W' D _ _ (by omega) hK rfl rfl
    have hrow' := ownsRow_putObj hrow (.deferred none) hK rfl
    obtain ⟨p9, c9, h9, hin9⟩ := in_of_ownsI hrow' (by omega)
    cases h9
    refine ⟨_, results_tmp Tryz.results49 _ _ _, pv, cv, ?_, ?_, hB.trans hbD, fun a ha => Nat.le_trans (Nat.le_succ _) (owns_new hrow' a ha)⟩
    · rw [HT.out]; rfl
    · rw [HT.out]; exact hin9
  case stop =>
    rintro D cc pre W' hD ⟨kk, hkk, hpre⟩ ⟨⟨ini, last, e1, rfl, e3, v, h5, hrow, _⟩, hB⟩ hK
    have HT : Hid (ks.take mo = ini) := by
      show _ = _
      have hl : (ini ++ [last]).length = (ks.take kk).length := by rw [← e1, hpre]
      rw [List.length_append, List.length_take, e3] at hl
      simp at hl
      have h2 : ks.take kk = ini ++ [last] := by rw [← hpre, e1]
      have h3 : (ks.take kk).take mo = ini := by rw [h2, ← e3, List.take_left']; rfl
      rw [List.take_take] at h3
      rwa [Nat.min_eq_left (by omega)] at h3
    obtain ⟨pv, cv, rfl, hinv⟩ := in_of_ownsI hrow (by omega)
    clear hinv
    have g5 := h5.cell
    gi_wp2
    refine ⟨by simp, .inl ⟨_, _, rfl, run_takeDeferred hK, ?_⟩⟩
    have hbD : Below w.heap.size W' (W'.putObj D (.deferred none)) := belowK_b (w := w) (Nat.le_refl _) W' D _ _ (by omega) hK rfl rfl
    have hrow' := ownsRow_putObj hrow (.deferred none) hK rfl
    obtain ⟨p9, c9, h9, hin9⟩ := in_of_ownsI hrow' (by omega)
    cases h9
    refine ⟨_, results_tmp Tryz.results49 _ _ _, pv, cv, ?_, ?_, hB.trans hbD, fun a ha => Nat.le_trans (Nat.le_succ _) (owns_new hrow' a ha)⟩
    · rw [HT.out, e3]; rfl
    · rw [HT.out]; exact hin9
theorem told_new {N : Nat} (Bs c1 : Nat) (p1 : Option Addr) (ks : List (IdxT N)) (mo : Nat) (hmo : mo ≤ 1000) (w : World) (hbs : Blk w Bs 40 [.slice p1 ks.length c1]) (hin : InI w p1 ks.length c1 (valsK ks)) (hlow : ∀ a, p1 = some a → a.block < w.heap.size) :
    Calls Tryz.prog 49 #[.func (.func 105) #[] #[.pointer (some ⟨Bs, 0, none⟩)], .int .i64 (mo : Int)] w fun e w' => ∃ p' c', e = .returned (.slice p' (ks.take mo).length c') ∧ InI w' p' (ks.take mo).length c' (valsK (ks.take mo)) ∧ Below w.heap.size w w' ∧ ∀ a, p' = some a → w.heap.size ≤ a.block :=
  (callsIn_wide (n := 4)).1 (told_in2 4 (Nat.le_refl _) Bs c1 p1 ks mo hmo w hbs hin hlow)
end Go.Proofs.YtdmnddikcpfmfaaGreat

namespace Go.Proofs.YtdmnddikcpfmfaaGreat
open Go.RowKit Go.Shelf
attribute [local go_sem] Oper.semAt_some
set_option linter.unusedSimpArgs false in
set_option maxRecDepth 100000 in
set_option maxHeartbeats 4000000 in
theorem told_in9 {N : Nat} (nf : Nat) (hnf : 4 ≤ nf) (Bs c1 : Nat) (p1 : Option Addr) (ks : List (IdxT N)) (mo : Nat) (hmo : mo ≤ 10000) (w : World) (hbs : Blk w Bs 40 [.slice p1 ks.length c1]) (hin : InI w p1 ks.length c1 (valsK ks)) (hlow : ∀ a, p1 = some a → a.block < w.heap.size) :
    CallsIn Fence.wide nf Tryz.prog 49 #[.func (.func 105) #[] #[.pointer (some ⟨Bs, 0, none⟩)], .int .i64 (mo : Int)] w fun e w' => ∃ p' c', e = .returned (.slice p' (ks.take mo).length c') ∧ InI w' p' (ks.take mo).length c' (valsK (ks.take mo)) ∧ Below w.heap.size w w' ∧ ∀ a, p' = some a → w.heap.size ≤ a.block := by
  obtain ⟨i0, hi, hz0, hz1, hz2⟩ := info_parts info3
  have h1 : 1 ≤ nf := by omega
  have hltb := hbs.lt
  have hfn := fun W a b => seq_nil W (.func 105) a b
  have hb0 : Below w.heap.size w ((w.alloc (.cells #[.int .i64 (mo : Int)] 3)).alloc (.cells #[.slice none 0 0] 40)) := bt (below_alloc w _) (below_alloc _ _)
  have b3 := (Boxed.new w 3 (.int .i64 (mo : Int))).alloc (.cells #[.slice none 0 0] 40)
  have b5 := Boxed.new (w.alloc (.cells #[.int .i64 (mo : Int)] 3)) 40 (.slice none 0 0)
  simp only [World.size_alloc] at b5
  have hsz : w.heap.size + 2 ≤ ((w.alloc (.cells #[.int .i64 (mo : Int)] 3)).alloc (.cells #[.slice none 0 0] 40)).heap.size := by simp only [World.size_alloc]; omega
  have hcb := (hbs.kept hb0).cell' (i := 0) rfl
  have hin0 := hin.below hb0
  refine callsIn_of_wp_marks Tryz.func49 rfl trivial ?_ rfl
  simp only [Tryz.ntmps49, List.size_toArray, List.length_cons, List.length_nil, Nat.reduceAdd, Nat.reduceSub, Array.replicate_succ, Array.replicate_zero, List.push_toArray, List.append_toArray, List.nil_append, List.cons_append]
  gi_wp2
  generalize ((w.alloc (.cells #[.int .i64 (mo : Int)] 3)).alloc (.cells #[.slice none 0 0] 40)) = V0 at *
  have hOB : OwnFrom V0.heap.size (fun (_ : List (IdxT N)) W' => Below w.heap.size w W') := ownFrom_below (Nat.le_refl _) (by omega)
  refine wpIn_rangeFunc_ownF rfl h1 (gf := 105) (lb := #[.pointer (some ⟨Bs, 0, none⟩)]) rfl trivial (enters_of Tryz.func105 (by kernel_rfl) rfl)
    (values_stops Fence.wide (nf - 1) trivial rfl (by omega) Bs c1 p1 ks V0 (by omega) hcb hin0) (fun h k => h.trans k) (fun W' l o o' hl _ _ _ => ⟨⟨World.putObj_heap_other (by omega), by simp [World.putObj]⟩, fun a e => World.putObj_heap_other (by have := hlow a e; omega)⟩) (Below.refl _ _) (fun _ => rfl)
    (fun pre W' => ToldI w.heap.size mo w pre W')
    (fun c pre W' => (∃ ini last, pre = ini ++ [last] ∧ c = .exit 0 ∧ ini.length = mo ∧ (∃ v, Boxed W' (w.heap.size + 1) 40 v ∧ W'.ownsRow (w.heap.size + 1) 3 1 v ini.length (valsI (valsK ini)) ∧ True)) ∧ Below w.heap.size w W')
    (OwnFrom.and (Own.from (holdsRow_own (w.heap.size + 1) (w.heap.size + 1) 40 3 1 (fun pre : List (IdxT N) => pre.length) (fun pre => valsI (valsK pre)) (fun _ _ => True)) _) (OwnFrom.and (Own.from (boxed_own w.heap.size 3 (fun _ : List (IdxT N) => Value.int .i64 (mo : Int))) _) (fun s A B row hs hg hr => ⟨hOB s A B row hs.1 hg hr, hs.2⟩)))
    (fun c => OwnFrom.and (Own.from (fun s A B row hs hg hr => by obtain ⟨ini, last, e1, e2, e3, e4⟩ := hs; exact ⟨ini, last, e1, e2, e3, holdsRow_own (w.heap.size + 1) (w.heap.size + 1) 40 3 1 (fun pre : List (IdxT N) => pre.length) (fun pre => valsI (valsK pre)) (fun _ _ => True) ini A B row e4 hg hr⟩) _) (ownFrom_below (Nat.le_refl _) (by omega)))
    ⟨⟨_, b5, World.ownsRow_nil _ _ _ _, trivial⟩, b3, hb0, Nat.zero_le _⟩
    (fun x => { tmps := #[.func (.func 105) #[] #[.pointer (some ⟨Bs, 0, none⟩)], .int .i64 (mo : Int), undef, .pointer (some ⟨w.heap.size, 0, none⟩), .slice none 0 0, .pointer (some ⟨w.heap.size + 1, 0, none⟩), .int .i64 (x.1 : Int), .func (.func 105) #[] #[.pointer (some ⟨Bs, 0, none⟩)], .bool false, .func (.func 105) #[] #[.pointer (some ⟨Bs, 0, none⟩)], .int .i64 (x.1 : Int), undef, undef, undef, undef, undef, undef, undef, undef, undef], defers := [] })
    ?assign ?body ?done ?stop
  case assign =>
    intro l x W' K hK
    dsimp only [encK]
    gi_wp2
    exact hK
  case body =>
    rintro l pre x W' ⟨⟨v, h5, hrow, _⟩, h3, hB, hle⟩ hlen
    obtain ⟨k, hkk⟩ : ∃ k, pre.length = k := ⟨_, rfl⟩
    have HK : Hid (pre.length = k) := hkk
    rw [hkk] at hrow hle hlen
    clear hkk
    obtain ⟨pv, cv, rfl, hinv⟩ := in_of_ownsI hrow (by omega)
    clear hinv
    have g5 := h5.cell
    have g3 := h3.cell
    have l5 := h5.lt
    have hs5 := hB.size
    by_cases hge : mo ≤ k
    · have hge1 : (mo : Int) ≤ (k : Int) := by omega
      gi_wp2
      exact ⟨KeepsOthers.refl _, ⟨pre, x, rfl, rfl, by rw [HK.out]; omega, _, h5, by rw [HK.out]; exact hrow, trivial⟩, hB⟩
    · have hge1 : ¬ (mo : Int) ≤ (k : Int) := by omega
      gi_wp2_with (gi_at_builtin; refine wpListIn_append_own _ rfl (.tmp 15) (.tmp 17) 40 rfl (w.heap.size + 1) 3 i0 (.int .i64 0) 1 8 Tryz.underlying40 hi hz0 hz1 hz2 rfl (by decide) (.slice pv k cv) k (valsI (valsK pre)) rfl (hrow.alloc _) ⟨W'.heap.size, 0, none⟩ 1 1 [.int .i64 (x.1 : Int)] rfl rfl (new_one W' _) (by simp [Value.oneCell']) (by unfold maxLen; omega) (by omega) (by rw [World.size_alloc]; omega) ?_; intro v1 w1 hown1 hgrow1 _; obtain ⟨g', cap', rfl⟩ := ownsRow_succ hown1; obtain ⟨hv1, hv2, hr2, hk2, hb2⟩ := h5.appended (by decide) hrow (by omega) (Nat.le_refl _) hown1 hgrow1; have hc1 := hv1.cell; have hf1 := hv1.frozen)
      rw [← valsK_snoc] at hr2
      have hbw := hb2.mono (Nat.le_succ w.heap.size)
      refine ⟨hk2, KpK.of_below hbw hltb hlow, ⟨_, hv2, by rw [List.length_append, HK.out]; exact hr2, trivial⟩, (hb2.block _ (by omega)).trans h3, hB.trans hbw, by rw [List.length_append, HK.out]; show k + 1 ≤ mo; omega⟩
  case done =>
    rintro D ys W' hD rfl ⟨⟨v, h5, hrow, _⟩, h3, hB, hle⟩ hK
    have HT : Hid (ys.take mo = ys) := List.take_of_length_le hle
    obtain ⟨pv, cv, rfl, hinv⟩ := in_of_ownsI hrow (by omega)
    clear hinv
    have g5 := h5.cell
    gi_wp2
    refine ⟨by simp, .inl ⟨_, _, rfl, run_takeDeferred hK, ?_⟩⟩
    have hbD : Below w.heap.size W' (W'.putObj D (.deferred none)) := belowK_b (w := w) (Nat.le_refl _) W' D _ _ (by omega) hK rfl rfl
    have hrow' := ownsRow_putObj hrow (.deferred none) hK rfl
    obtain ⟨p9, c9, h9, hin9⟩ := in_of_ownsI hrow' (by omega)
    cases h9
    refine ⟨_, results_tmp Tryz.results49 _ _ _, pv, cv, ?_, ?_, hB.trans hbD, fun a ha => Nat.le_trans (Nat.le_succ _) (owns_new hrow' a ha)⟩
    · rw [HT.out]; rfl
    · rw [HT.out]; exact hin9
  case stop =>
    rintro D cc pre W' hD ⟨kk, hkk, hpre⟩ ⟨⟨ini, last, e1, rfl, e3, v, h5, hrow, _⟩, hB⟩ hK
    have HT : Hid (ks.take mo = ini) := by
      show _ = _
      have hl : (ini ++ [last]).length = (ks.take kk).length := by rw [← e1, hpre]
      rw [List.length_append, List.length_take, e3] at hl
      simp at hl
      have h2 : ks.take kk = ini ++ [last] := by rw [← hpre, e1]
      have h3 : (ks.take kk).take mo = ini := by rw [h2, ← e3, List.take_left']; rfl
      rw [List.take_take] at h3
      rwa [Nat.min_eq_left (by omega)] at h3
    obtain ⟨pv, cv, rfl, hinv⟩ := in_of_ownsI hrow (by omega)
    clear hinv
    have g5 := h5.cell
    gi_wp2
    refine ⟨by simp, .inl ⟨_, _, rfl, run_takeDeferred hK, ?_⟩⟩
    have hbD : Below w.heap.size W' (W'.putObj D (.deferred none)) := belowK_b (w := w) (Nat.le_refl _) W' D _ _ (by omega) hK rfl rfl
    have hrow' := ownsRow_putObj hrow (.deferred none) hK rfl
    obtain ⟨p9, c9, h9, hin9⟩ := in_of_ownsI hrow' (by omega)
    cases h9
    refine ⟨_, results_tmp Tryz.results49 _ _ _, pv, cv, ?_, ?_, hB.trans hbD, fun a ha => Nat.le_trans (Nat.le_succ _) (owns_new hrow' a ha)⟩
    · rw [HT.out, e3]; rfl
    · rw [HT.out]; exact hin9
theorem told_new9 {N : Nat} (Bs c1 : Nat) (p1 : Option Addr) (ks : List (IdxT N)) (mo : Nat) (hmo : mo ≤ 10000) (w : World) (hbs : Blk w Bs 40 [.slice p1 ks.length c1]) (hin : InI w p1 ks.length c1 (valsK ks)) (hlow : ∀ a, p1 = some a → a.block < w.heap.size) :
    Calls Tryz.prog 49 #[.func (.func 105) #[] #[.pointer (some ⟨Bs, 0, none⟩)], .int .i64 (mo : Int)] w fun e w' => ∃ p' c', e = .returned (.slice p' (ks.take mo).length c') ∧ InI w' p' (ks.take mo).length c' (valsK (ks.take mo)) ∧ Below w.heap.size w w' ∧ ∀ a, p' = some a → w.heap.size ≤ a.block :=
  (callsIn_wide (n := 4)).1 (told_in9 4 (Nat.le_refl _) Bs c1 p1 ks mo hmo w hbs hin hlow)
end Go.Proofs.YtdmnddikcpfmfaaGreat
