/-
  What the law's told answers.
-/
import Derived.Test.YtikigfjdddgkpaaDtIt
namespace Go.Proofs.Ytikigfjdddgkpaa
open Go.RowKit Go.Shelf
attribute [local go_sem] Oper.semAt_some
theorem blk_own {β : Type} (B : Nat) (t : TypeId) (f : β → List Value) : Own (fun s W => Blk W B t (f s)) := fun s X Y row hs hg hrow =>
  (hg.block B hs.lt (fun e' => by obtain ⟨o, ho, hc⟩ := hrow B e'.symm; rw [show X.heap[B]? = _ from hs] at ho; cases ho; cases hc)).trans hs
set_option linter.unusedSimpArgs false in
set_option linter.unusedVariables false in
set_option maxRecDepth 100000 in
set_option maxHeartbeats 4000000 in
theorem seqN_nil (w : World) (f : Fn) (a b : Array Value) : (binOp .eql 40 (.func f a b) .nilFunc).run Try.prog w = .ok (.bool false) w := by
  have h : ∀ d : Nat, (Op.equalIn (d + 1) 40 (.func f a b) .nilFunc).run Try.prog w = .ok false w := fun d => by
    simp [Op.equalIn]
  simp only [binOp]
  simp [Op.equal, Op.maxDepth, h 9999]
theorem new_three (W : World) (x y z : Value) : ∀ j u, [x, y, z][j]? = some u → (W.alloc (.cells #[x, y, z] 24)).cell? ((⟨W.heap.size, 0, none⟩ : Addr).add j) = some u := by
  intro j u hu
  rw [addr_add, Nat.zero_add]
  exact (Blk.new' W 24 #[x, y, z]).cell' hu
/-- What the list holds. -/
def ToldN (mo S : Nat) (w : World) (pre : List Ent) (W : World) : Prop :=
  (∃ v, Boxed W (w.heap.size + 1) 27 v ∧ W.ownsRow (w.heap.size + 1) 24 3 v pre.length (flatN pre) ∧ True) ∧ Boxed W w.heap.size 3 (.int .i64 (mo : Int)) ∧ (Below w.heap.size w W ∧ S ≤ W.heap.size) ∧ pre.length ≤ mo
set_option linter.unusedSimpArgs false in
set_option linter.unusedVariables false in
set_option maxRecDepth 100000 in
set_option maxHeartbeats 4000000 in
theorem told_in (nf : Nat) (hnf : 4 ≤ nf) (gr : Nat) (p : Option Addr) (n c : Nat) (rs : List Rc) (mo : Nat) (hmo : mo ≤ 10000) (w : World) (hR : EntIn w gr p n c rs) :
    CallsIn Fence.wide nf Try.prog 23 #[(.func (.func 44) #[] #[.pointer (some ⟨gr, 0, none⟩)]), .int .i64 (mo : Int)] w fun e w' => ∃ v, e = .returned v ∧ w'.ownsRow w.heap.size 24 3 v ((entsL rs).take mo).length (flatN ((entsL rs).take mo)) ∧ Below w.heap.size w w' := by
  obtain ⟨i0, hi, hz0, hz1, hz2⟩ := info_parts infoN
  have h1 : 1 ≤ nf := by omega
  have hfn := fun W a b => seqN_nil W (.func 44) a b
  have hb0 : Below w.heap.size w ((w.alloc (.cells #[.int .i64 (mo : Int)] 3)).alloc (.cells #[.slice none 0 0] 27)) := bt (below_alloc w _) (below_alloc _ _)
  have b3 := (Boxed.new w 3 (.int .i64 (mo : Int))).alloc (.cells #[.slice none 0 0] 27)
  have b5 := Boxed.new (w.alloc (.cells #[.int .i64 (mo : Int)] 3)) 27 (.slice none 0 0)
  simp only [World.size_alloc] at b5
  have hsz : w.heap.size + 2 ≤ ((w.alloc (.cells #[.int .i64 (mo : Int)] 3)).alloc (.cells #[.slice none 0 0] 27)).heap.size := by simp only [World.size_alloc]; omega
  have hR0 := hR.below hb0
  have hbs := hR.bs.lt
  have hlow := hR.low
  have hmi : (mo : Int) ≤ 10000 := by omega
  refine callsIn_of_wp_marks Try.func23 rfl trivial ?_ rfl
  simp only [Try.ntmps23, List.size_toArray, List.length_cons, List.length_nil, Nat.reduceAdd, Nat.reduceSub, Array.replicate_succ, Array.replicate_zero, List.push_toArray, List.append_toArray, List.nil_append, List.cons_append]
  gi_wp2
  clear hfn
  generalize ((w.alloc (.cells #[.int .i64 (mo : Int)] 3)).alloc (.cells #[.slice none 0 0] 27)) = V0 at *
  have hst := ent_stops (nf - 1) (by omega) gr p n c rs V0 hR0
  have hle := hR.le
  have hlr := hR.inn.len
  have hll := entsL_len rs
  obtain ⟨L, hL⟩ : ∃ L, entsL rs = L := ⟨_, rfl⟩
  rw [hL] at hst hll
  have HL : Hid (entsL rs = L) := hL
  have HLL : Hid (L.length ≤ 1000) := by show _ ≤ _; omega
  have hB0 : Below w.heap.size w V0 := hb0
  clear hL hll hlr hle
  have hOB : OwnFrom V0.heap.size (fun (_ : List Ent) W' => Below w.heap.size w W' ∧ V0.heap.size ≤ W'.heap.size) := OwnFrom.and (ownFrom_below (Nat.le_refl _) (by omega)) (fun _ _ _ _ hs hg _ => Nat.le_trans hs hg.size)
  refine wpIn_rangeFunc_ownH rfl h1 (gf := 44) (lb := #[.pointer (some ⟨gr, 0, none⟩)]) rfl trivial (enters_of Try.func44 (by kernel_rfl) rfl)
    hst (fun h k => h.trans k) (fun W' l o o' hl _ _ _ => ⟨World.putObj_heap_other (by omega), by simp [World.putObj], fun a e => World.putObj_heap_other (by have := hlow a e; omega)⟩) (Below.refl _ _) (fun _ => rfl)
    (fun pre W' => ToldN mo V0.heap.size w pre W')
    (fun c pre W' => (∃ ini last, pre = ini ++ [last] ∧ c = .exit 0 ∧ ini.length = mo ∧ (∃ v, Boxed W' (w.heap.size + 1) 27 v ∧ W'.ownsRow (w.heap.size + 1) 24 3 v ini.length (flatN ini) ∧ True)) ∧ Below w.heap.size w W')
    (OwnFrom.and (Own.from (holdsRow_own (w.heap.size + 1) (w.heap.size + 1) 27 24 3 (fun pre : List Ent => pre.length) (fun pre => flatN pre) (fun _ _ => True)) _) (OwnFrom.and (Own.from (boxed_own w.heap.size 3 (fun _ : List Ent => Value.int .i64 (mo : Int))) _) (OwnFrom.and hOB (fun _ _ _ _ hs _ _ => hs))))
    (fun c => OwnFrom.and (Own.from (fun s A B row hs hg hr => by obtain ⟨ini, last, e1, e2, e3, e4⟩ := hs; exact ⟨ini, last, e1, e2, e3, holdsRow_own (w.heap.size + 1) (w.heap.size + 1) 27 24 3 (fun pre : List Ent => pre.length) (fun pre => flatN pre) (fun _ _ => True) ini A B row e4 hg hr⟩) _) (ownFrom_below (Nat.le_refl _) (by omega)))
    ⟨⟨_, b5, World.ownsRow_nil _ _ _ _, trivial⟩, b3, ⟨hb0, Nat.le_refl _⟩, Nat.zero_le _⟩
    (fun x a' W => ∃ Bx, V0.heap.size ≤ Bx ∧ Blk W Bx 24 x.cells ∧ a' = { tmps := #[(.func (.func 44) #[] #[.pointer (some ⟨gr, 0, none⟩)]), .int .i64 (mo : Int), undef, .pointer (some ⟨w.heap.size, 0, none⟩), .slice none 0 0, .pointer (some ⟨w.heap.size + 1, 0, none⟩), .pointer (some ⟨Bx, 0, none⟩), (.func (.func 44) #[] #[.pointer (some ⟨gr, 0, none⟩)]), .bool false, (.func (.func 44) #[] #[.pointer (some ⟨gr, 0, none⟩)]), (.agg #[.string ⟨x.nm.toArray⟩, .int .i64 x.ino, .int .i64 x.kd]), undef, undef, undef, undef, undef, undef, undef, undef, undef], defers := [] })
    (fun x a' s X Y row ⟨Bx, h1, h2, h3⟩ hg hr => ⟨Bx, h1, (blk_own (β := Unit) Bx 24 (fun _ => x.cells)).from V0.heap.size () X Y row h2 hg hr, h3⟩)
    ?assign ?body ?done ?stop
  case assign =>
    rintro l pre x W K ⟨⟨v, q1, q2, q3⟩, q4, ⟨q5, q6⟩, q7⟩ hK
    obtain ⟨xn, xi, xk⟩ := x
    dsimp only [encE, Ent.val]
    have hb9 := below_alloc W (.cells #[.string ⟨xn.toArray⟩, .int .i64 xi, .int .i64 xk] 24)
    gi_wp2
    exact hK _ _ ((KeepsOthers.alloc _ _).from _) (KpT.of_below hb9 (by have := q5.size; omega) (fun a e => by have := hlow a e; have := q5.size; omega)) ⟨⟨v, q1.alloc _, q2.alloc _, q3⟩, q4.alloc _, ⟨q5.trans (hb9.mono q5.size), by rw [World.size_alloc]; omega⟩, q7⟩ ⟨W.heap.size, q6, Blk.new' _ _ _, rfl⟩
  case body =>
    rintro l pre x a' W' hl2 ⟨r, hr⟩ ⟨⟨v, h5, hrow, _⟩, h3, ⟨hB, hsV⟩, hle⟩ ⟨Bx, hx1, hx2, rfl⟩ hlen
    obtain ⟨k, hkk⟩ : ∃ k, pre.length = k := ⟨_, rfl⟩
    have HK : Hid (pre.length = k) := hkk
    rw [hkk] at hrow hle hlen
    clear hkk
    obtain ⟨pv, cv, rfl⟩ := owns_slice hrow
    have g5 := h5.cell
    have g3 := h3.cell
    have l5 := h5.lt
    have hs5 := hB.size
    have hk9 : k ≤ 1000 := by have := HLL.out; omega
    have x0 := hx2.cell' (i := 0) rfl
    have x1 := hx2.cell' (i := 1) rfl
    have x2 := hx2.cell' (i := 2) rfl
    by_cases hge : mo ≤ k
    · have hge1 : (mo : Int) ≤ (k : Int) := by omega
      gi_wp2
      exact ⟨(KeepsOthers.refl _).from _, ⟨pre, x, rfl, rfl, by rw [HK.out]; omega, _, h5, by rw [HK.out]; exact hrow, trivial⟩, hB⟩
    · have hge1 : ¬ (mo : Int) ≤ (k : Int) := by omega
      have f5 := h5.frozen
      gi_wp2_with (gi_at_builtin; refine wpListIn_append_own _ rfl (.tmp 15) (.tmp 17) 27 rfl (w.heap.size + 1) 24 i0 (.agg #[.string ⟨#[]⟩, .int .i64 0, .int .i64 0]) 3 32 Try.underlying27 hi hz0 hz1 hz2 rfl (by decide) (.slice pv k cv) k (flatN pre) rfl (hrow.alloc _) ⟨W'.heap.size, 0, none⟩ 1 1 [.string ⟨x.nm.toArray⟩, .int .i64 x.ino, .int .i64 x.kd] rfl rfl (new_three W' _ _ _) (by simp [Value.oneCell']) (by unfold maxLen; omega) (by omega) (by rw [World.size_alloc]; omega) ?_; intro v1 w1 hown1 hgrow1 _; obtain ⟨g', cap', rfl⟩ := ownsRow_succ hown1; obtain ⟨hv1, hv2, hr2, hk2, hb2⟩ := h5.appended (by decide) hrow (by omega) (Nat.le_refl _) hown1 hgrow1; have hc1 := hv1.cell; have hf1 := hv1.frozen)
      rw [flatN_snoc] at hr2
      have hbw := hb2.mono (Nat.le_succ w.heap.size)
      refine ⟨hk2.from _, KpT.of_below hbw hbs hlow, ⟨_, hv2, by rw [List.length_append, HK.out]; exact hr2, trivial⟩, (hb2.block _ (by omega)).trans h3, ⟨hB.trans hbw, Nat.le_trans hsV hb2.size⟩, by rw [List.length_append, HK.out]; show k + 1 ≤ mo; omega⟩
  case done =>
    rintro D ys W' hD rfl ⟨⟨v, h5, hrow, _⟩, h3, ⟨hB, hsV⟩, hle⟩ hK
    have HT : Hid ((entsL rs).take mo = ys) := by show _ = _; rw [HL.out]; exact List.take_of_length_le hle
    obtain ⟨pv, cv, rfl⟩ := owns_slice hrow
    have g5 := h5.cell
    gi_wp2
    refine ⟨by simp, .inl ⟨_, _, rfl, run_takeDeferred hK, ?_⟩⟩
    have hbD : Below w.heap.size W' (W'.putObj D (.deferred none)) := belowK_b (w := w) (Nat.le_refl _) W' D _ _ (by have := hB.size; have := hB0.size; omega) hK rfl rfl
    have hrow' := ownsRow_putObj hrow (.deferred none) hK rfl
    refine ⟨_, results_tmp Try.results23 _ _ _, _, rfl, ?_, hB.trans hbD⟩
    rw [HT.out]
    exact owns_base hrow' (Nat.le_succ _)
  case stop =>
    rintro D cc pre W' hD hsp ⟨⟨ini, last, e1, rfl, e3, v, h5, hrow, _⟩, hB⟩ hK
    have HT : Hid ((entsL rs).take mo = ini) := by
      show _ = _
      rw [HL.out]
      obtain ⟨t, rfl⟩ := hsp
      rw [e1, List.append_assoc, ← e3, List.take_left']
      rfl
    clear e1 e3
    obtain ⟨pv, cv, rfl⟩ := owns_slice hrow
    have g5 := h5.cell
    gi_wp2
    refine ⟨by simp, .inl ⟨_, _, rfl, run_takeDeferred hK, ?_⟩⟩
    have hbD : Below w.heap.size W' (W'.putObj D (.deferred none)) := belowK_b (w := w) (Nat.le_refl _) W' D _ _ (by have := hB.size; have := hB0.size; omega) hK rfl rfl
    have hrow' := ownsRow_putObj hrow (.deferred none) hK rfl
    refine ⟨_, results_tmp Try.results23 _ _ _, _, rfl, ?_, hB.trans hbD⟩
    rw [HT.out]
    exact owns_base hrow' (Nat.le_succ _)
theorem told_any (gr : Nat) (p : Option Addr) (n c : Nat) (rs : List Rc) (mo : Nat) (hmo : mo ≤ 10000) (w : World) (hR : EntIn w gr p n c rs) :
    Calls Try.prog 23 #[(.func (.func 44) #[] #[.pointer (some ⟨gr, 0, none⟩)]), .int .i64 (mo : Int)] w fun e w' => ∃ v, e = .returned v ∧ w'.ownsRow w.heap.size 24 3 v ((entsL rs).take mo).length (flatN ((entsL rs).take mo)) ∧ Below w.heap.size w w' :=
  (callsIn_wide (n := 4)).1 (told_in 4 (Nat.le_refl _) gr p n c rs mo hmo w hR)
end Go.Proofs.Ytikigfjdddgkpaa
