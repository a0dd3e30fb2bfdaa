/-
  The law's blocks: what Needed goes through.
-/
import Derived.Test.YtfgelncfmopibaaSnSetN
namespace Go.Proofs.Ytfgelncfmopibaa
open Go.RowKit Go.Shelf
attribute [local go_sem] Oper.semAt_some
theorem seq_nil (w : World) (f : Fn) (a b : Array Value) : (binOp .eql 99 (.func f a b) .nilFunc).run Try.prog w = .ok (.bool false) w := by
  have h : ∀ d : Nat, (Op.equalIn (d + 1) 99 (.func f a b) .nilFunc).run Try.prog w = .ok false w := fun d => by
    simp [Op.equalIn]
  simp only [binOp]
  simp [Op.equal, Op.maxDepth, h 9999]
set_option linter.unusedSimpArgs false in
set_option maxRecDepth 100000 in
set_option maxHeartbeats 4000000 in
theorem blocks_in (nf : Nat) (hnf : 4 ≤ nf) (p : Option Addr) (n c : Nat) (zs : List Pl) (w : World) (hz : InZ w p n c zs) (hn : n ≤ 1000000) :
    CallsIn Fence.wide nf Try.prog 27 #[.slice p n c] w fun e w' => ∃ p' c', e = .returned (.slice p' (neededL zs).length c') ∧ w'.ownsRow w.heap.size 3 1 (.slice p' (neededL zs).length c') (neededL zs).length (valsI (neededL zs)) ∧ Below w.heap.size w w' := by
  obtain ⟨i0, hi, hz0, hz1, hz2⟩ := info_parts infoI'
  have h1 : 1 ≤ nf := by omega
  have hND := needed_any p n c zs w hz hn
  obtain ⟨ks, hks⟩ := idx_of (N := 256) (neededL zs) (fun x hx => needed_range hx)
  have hkl : ks.length ≤ 1000000 := by
    have h2 := needed_le zs
    rw [← hks, valsK_length, hz.len] at h2
    omega
  have HKL : Hid (ks.length = (neededL zs).length) := by show _ = _; rw [← hks, valsK_length]
  rw [← hks] at hND
  have HKS : Hid (valsK ks = neededL zs) := hks
  clear hks
  have hfn := fun W a b => seq_nil W (.func 109) a b
  refine callsIn_of_wp_marks Try.func27 rfl trivial ?_ rfl
  simp only [Try.ntmps27, List.size_toArray, List.length_cons, List.length_nil, Nat.reduceAdd, Nat.reduceSub, Array.replicate_succ, Array.replicate_zero, List.push_toArray, List.append_toArray, List.nil_append, List.cons_append]
  gi_wp2_with (refine ⟨trivial, ?_⟩; gi_at_call 55; refine (callsIn_wide.2 hND).mono ?_; rintro e u ⟨Bs, q, cl, c1, rfl, hBs, hbs, hH, hcl, hlow0, hb1⟩)
  have hHl := hH.len
  rw [valsK_length] at hHl
  subst hHl
  have hin := hH.inI (by omega)
  have hlow : ∀ a, q = some a → a.block < u.heap.size := fun a e => (hlow0 a e).2
  have hs1 := hb1.size
  have hltb := hbs.lt
  have hb0 : Below u.heap.size u (u.alloc (.cells #[.slice none 0 0] 50)) := below_alloc u _
  have b5 := Boxed.new u 50 (.slice none 0 0)
  have hsz : u.heap.size + 1 ≤ (u.alloc (.cells #[.slice none 0 0] 50)).heap.size := by simp only [World.size_alloc]; omega
  have hcb := (hbs.kept hb0).cell' (i := 0) rfl
  have hin0 := hin.below hb0
  clear hND hlow0
  generalize u.alloc (.cells #[.slice none 0 0] 50) = V0 at *
  refine wpIn_rangeFunc_ownF rfl h1 (gf := 109) (lb := #[.pointer (some ⟨Bs, 0, none⟩)]) rfl trivial (enters_of Try.func109 (by kernel_rfl) rfl)
    (values_stops Fence.wide (nf - 1) trivial rfl (by omega) Bs c1 q ks V0 (by omega) hcb hin0) (fun h k => h.trans k) (fun W' l o o' hl _ _ _ => ⟨⟨World.putObj_heap_other (by omega), by simp [World.putObj]⟩, fun a e => World.putObj_heap_other (by have := hlow a e; omega)⟩) (Below.refl _ _) (fun _ => rfl)
    (fun pre W' => (∃ v, Boxed W' u.heap.size 50 v ∧ W'.ownsRow u.heap.size 3 1 v pre.length (valsI (valsK pre)) ∧ True) ∧ Below u.heap.size u W')
    (fun _ _ _ => False)
    (OwnFrom.and (Own.from (holdsRow_own u.heap.size u.heap.size 50 3 1 (fun pre : List (IdxT 256) => pre.length) (fun pre => valsI (valsK pre)) (fun _ _ => True)) _) (ownFrom_below (Nat.le_refl _) (by omega)))
    (fun _ _ _ _ _ hs _ _ => hs)
    ⟨⟨_, b5, World.ownsRow_nil _ _ _ _, trivial⟩, hb0⟩
    (fun x => { tmps := #[.slice p n c, undef, .slice none 0 0, .func (.func 109) #[] #[.pointer (some ⟨Bs, 0, none⟩)], .pointer (some ⟨u.heap.size, 0, none⟩), .int .i64 (x.1 : Int), .slice p n c, .func (.func 109) #[] #[.pointer (some ⟨Bs, 0, none⟩)], .func (.func 109) #[] #[.pointer (some ⟨Bs, 0, none⟩)], .bool false, .func (.func 109) #[] #[.pointer (some ⟨Bs, 0, none⟩)], .int .i64 (x.1 : Int), undef, undef, undef, undef, undef], defers := [] })
    ?assign ?body ?done ?stop
  case assign =>
    intro l x W' K hK
    dsimp only [encK]
    gi_wp2
    exact hK
  case stop =>
    rintro D c pre W' _ _ h _
    exact h.elim
  case body =>
    rintro l pre x W' ⟨⟨v, h5, hrow, _⟩, hB⟩ hlen
    obtain ⟨k, hkk⟩ : ∃ k, pre.length = k := ⟨_, rfl⟩
    have HK : Hid (pre.length = k) := hkk
    rw [hkk] at hrow hlen
    clear hkk
    obtain ⟨pv, cv, rfl, hinv⟩ := in_of_ownsI hrow (by omega)
    clear hinv
    have g5 := h5.cell
    have f5 := h5.frozen
    have l5 := h5.lt
    have hs5 := hB.size
    gi_wp2_with (gi_at_builtin; refine wpListIn_append_own _ rfl (.tmp 12) (.tmp 14) 50 rfl u.heap.size 3 i0 (.int .i64 0) 1 8 Try.underlying50 hi hz0 hz1 hz2 rfl (by decide) (.slice pv k cv) k (valsI (valsK pre)) rfl (hrow.alloc _) ⟨W'.heap.size, 0, none⟩ 1 1 [.int .i64 (x.1 : Int)] rfl rfl (new_one W' _) (by simp [Value.oneCell']) (by unfold maxLen; omega) (by omega) (by rw [World.size_alloc]; omega) ?_; intro v1 w1 hown1 hgrow1 _; obtain ⟨g', cap', rfl⟩ := ownsRow_succ hown1; obtain ⟨hv1, hv2, hr2, hk2, hb2⟩ := h5.appended (by decide) hrow (by omega) (Nat.le_refl _) hown1 hgrow1; have hc1 := hv1.cell; have hf1 := hv1.frozen)
    rw [← valsK_snoc] at hr2
    refine ⟨hk2, KpK.of_below hb2 hltb hlow, ⟨_, hv2, by rw [List.length_append, HK.out]; exact hr2, trivial⟩, hB.trans hb2⟩
  case done =>
    rintro D ys W' hD rfl ⟨⟨v, h5, hrow, _⟩, hB⟩ hK
    obtain ⟨pv, cv, rfl, hinv⟩ := in_of_ownsI hrow (by omega)
    clear hinv
    have g5 := h5.cell
    gi_wp2
    refine ⟨by simp, .inl ⟨_, _, rfl, run_takeDeferred hK, ?_⟩⟩
    have hbD : Below u.heap.size W' (W'.putObj D (.deferred none)) := belowK_b (w := u) (Nat.le_refl _) W' D _ _ (by omega) hK rfl rfl
    have hrow' := ownsRow_putObj hrow (.deferred none) hK rfl
    refine ⟨_, results_tmp Try.results27 _ _ _, pv, cv, HKL.out ▸ rfl, ?_, hb1.trans ((hB.trans hbD).mono hs1)⟩
    rw [← HKS.out, valsK_length]
    exact owns_lo hrow' hs1
theorem blocks_any (p : Option Addr) (n c : Nat) (zs : List Pl) (w : World) (hz : InZ w p n c zs) (hn : n ≤ 1000000) :
    Calls Try.prog 27 #[.slice p n c] w fun e w' => ∃ p' c', e = .returned (.slice p' (neededL zs).length c') ∧ w'.ownsRow w.heap.size 3 1 (.slice p' (neededL zs).length c') (neededL zs).length (valsI (neededL zs)) ∧ Below w.heap.size w w' :=
  callsIn_wide.1 (blocks_in 4 (Nat.le_refl _) p n c zs w hz hn)
end Go.Proofs.Ytfgelncfmopibaa
