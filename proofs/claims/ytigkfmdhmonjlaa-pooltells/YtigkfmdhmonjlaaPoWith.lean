/-
  One block of a pool changed; what keeps a call from a block.
-/
import Derived.Test.YtigkfmdhmonjlaaPoClone
import Derived.Deep.Cut
namespace Go.Proofs.Ytigkfmdhmonjlaa
open Go.RowKit
theorem size3 : (Try.prog.info? 3).map (·.size) = some 1 := by kernel_rfl
theorem size2 : (Try.prog.info? 2).map (·.size) = some 1 := by kernel_rfl
/-- A number laid into a row of the call's own. -/
theorem run_store_own {w : World} {B e g k n c : Nat} {xs : List Int} (h : w.ownsRow B e 1 (.slice (some ⟨g, 0, none⟩) n c) n (valsI xs)) (hk : k < n) (ty : TypeId) (hi : (Try.prog.info? ty).map (·.size) = some 1) (z : Int) :
    ∃ w', (storeVar ty ⟨g, k, none⟩ (.int .i64 z)).run Try.prog w = .ok () w' ∧ w'.ownsRow B e 1 (.slice (some ⟨g, 0, none⟩) n c) n (valsI (xs.set k z)) ∧ Turned w w' g := by
  have hl : xs.length = n := by have := h.1; simpa [valsI] using this
  have hc := h.cellAt k (by omega)
  rw [valsI_get xs k (by omega)] at hc
  have hf := h.frozenAt k
  have hst := run_storeCells_cells (P := Try.prog) g k [.int .i64 z] 0 w (fun j hj => by simp at hj; subst hj; simp [hc]) (fun j hj => by simp at hj; subst hj; simpa using hf) (by simp [Value.oneCell'])
  refine ⟨w.setCell ⟨g, k, none⟩ (.int .i64 z), ?_, ?_, Turned.setCell _ _ _⟩
  · cases hq : Try.prog.info? ty with
    | none => simp [hq] at hi
    | some i =>
      have hs : 1 = i.size := by simp [hq] at hi; omega
      simp only [storeVar, sizeOf, typeInfo, Sem.run_bind, Value.cells]
      simp [← hs, hq, hst, World.setCells]
  · have := (h.stored k (.int .i64 z)).1
    rwa [valsI_set] at this
theorem wpList_store_own {ops : Array Oper} {rest : List Oper} {op : Oper} {a : Act} {w : World} {Q : Exit → Act → World → Prop} (hgd : op.guard = none) (ty : TypeId) (x y : Operand) (ho : op.op = .store ty x y)
    (g k : Nat) (z : Int) (hx : a.eval x = .pointer (some ⟨g, k, none⟩)) (hy : a.eval y = .int .i64 z) {B e n c : Nat} {xs : List Int} (h : w.ownsRow B e 1 (.slice (some ⟨g, 0, none⟩) n c) n (valsI xs)) (hk : k < n)
    (hi : (Try.prog.info? ty).map (·.size) = some 1)
    (hK : ∀ w', w'.ownsRow B e 1 (.slice (some ⟨g, 0, none⟩) n c) n (valsI (xs.set k z)) → Turned w w' g → wpList Try.prog ops Q rest (a.put op.dst undef) w') : wpList Try.prog ops Q (op :: rest) a w := by
  obtain ⟨w', hrun, hown, ht⟩ := run_store_own h hk ty hi z
  refine wpList_plain hgd fun K hKK => ?_
  unfold Oper.wp execOp
  simp only [ho, hx, hy, Instr.storeAt, Instr.sureAddr, Sem.run_bind, Sem.run_pure, Result.andThen_ok, hrun]
  exact hKK _ _ (hK _ hown ht)
theorem wp_store_own {op : Oper} {a : Act} {w : World} {K : Act → World → Prop} {Q : Exit → Act → World → Prop} (ty : TypeId) (x y : Operand) (ho : op.op = .store ty x y)
    (g k : Nat) (z : Int) (hx : a.eval x = .pointer (some ⟨g, k, none⟩)) (hy : a.eval y = .int .i64 z) {B e n c : Nat} {xs : List Int} (h : w.ownsRow B e 1 (.slice (some ⟨g, 0, none⟩) n c) n (valsI xs)) (hk : k < n)
    (hi : (Try.prog.info? ty).map (·.size) = some 1)
    (hK : ∀ w', w'.ownsRow B e 1 (.slice (some ⟨g, 0, none⟩) n c) n (valsI (xs.set k z)) → Turned w w' g → K (a.put op.dst undef) w') : op.wp Try.prog a w K Q := by
  obtain ⟨w', hrun, hown, ht⟩ := run_store_own h hk ty hi z
  unfold Oper.wp execOp
  simp only [ho, hx, hy, Instr.storeAt, Instr.sureAddr, Sem.run_bind, Sem.run_pure, Result.andThen_ok, hrun]
  exact hK _ hown ht
/-- Where a row that is not empty lies. -/
theorem owns_at {w : World} {B e n c : Nat} {p : Option Addr} {xs : List Value} (h : w.ownsRow B e 1 (.slice p n c) n xs) (hn : 0 < n) : ∃ g, p = some ⟨g, 0, none⟩ ∧ B ≤ g ∧ g < w.heap.size := by
  rcases h.2 with ⟨_, h0⟩ | ⟨g, cap, cur, hv, hb, hg, _⟩
  · omega
  · simp only [Value.slice.injEq] at hv
    refine ⟨g, hv.1, hb, ?_⟩
    rcases Nat.lt_or_ge g w.heap.size with h' | h'
    · exact h'
    · rw [Array.getElem?_eq_none h'] at hg; simp at hg
theorem PS.far {w W W' : World} {a b : Value} {g : Nat} (h : PS w a b W) (ht : Turned W W' g) (h1 : w.heap.size ≠ g) (h2 : w.heap.size + 1 ≠ g) (h3 : w.heap.size ≤ g) : PS w a b W' := by
  obtain ⟨x, y, hr⟩ := h.res
  exact ⟨ht.below h.bel h3, h.box.turned ht h1, x, y, hr.turned ht h2⟩
theorem with_facts {w w0 w1 : World} {a b : Value} {n c1 m d1 g1 g2 k : Nat} {R W : List Int} (hS : PS w a b w0) (hnp : NewP w0.heap.size w1 (some ⟨g1, 0, none⟩) n c1 (some ⟨g2, 0, none⟩) m d1 R W) (hb1 : Below w0.heap.size w0 w1) (hk : k < n) (hkm : k < m) (role mw : Int) :
    PS w a b (((w1.alloc (.cells #[.slice (some ⟨g1, 0, none⟩) n c1, .slice (some ⟨g2, 0, none⟩) m d1] 25)).setCell ⟨g1, k, none⟩ (.int .i64 role)).setCell ⟨g2, k, none⟩ (.int .i64 mw)) ∧ Blk (((w1.alloc (.cells #[.slice (some ⟨g1, 0, none⟩) n c1, .slice (some ⟨g2, 0, none⟩) m d1] 25)).setCell ⟨g1, k, none⟩ (.int .i64 role)).setCell ⟨g2, k, none⟩ (.int .i64 mw)) w1.heap.size 25 [.slice (some ⟨g1, 0, none⟩) n c1, .slice (some ⟨g2, 0, none⟩) m d1] ∧ NewP w0.heap.size (((w1.alloc (.cells #[.slice (some ⟨g1, 0, none⟩) n c1, .slice (some ⟨g2, 0, none⟩) m d1] 25)).setCell ⟨g1, k, none⟩ (.int .i64 role)).setCell ⟨g2, k, none⟩ (.int .i64 mw)) (some ⟨g1, 0, none⟩) n c1 (some ⟨g2, 0, none⟩) m d1 (R.set k role) (W.set k mw) ∧
    (w1.alloc (.cells #[.slice (some ⟨g1, 0, none⟩) n c1, .slice (some ⟨g2, 0, none⟩) m d1] 25)).cell? ⟨g1, k, none⟩ = some (.int .i64 (eI R k)) ∧ (w1.alloc (.cells #[.slice (some ⟨g1, 0, none⟩) n c1, .slice (some ⟨g2, 0, none⟩) m d1] 25)).frozen? ⟨g1, k, none⟩ = false ∧ ((w1.alloc (.cells #[.slice (some ⟨g1, 0, none⟩) n c1, .slice (some ⟨g2, 0, none⟩) m d1] 25)).setCell ⟨g1, k, none⟩ (.int .i64 role)).cell? ⟨w1.heap.size, 1, none⟩ = some (.slice (some ⟨g2, 0, none⟩) m d1) ∧ ((w1.alloc (.cells #[.slice (some ⟨g1, 0, none⟩) n c1, .slice (some ⟨g2, 0, none⟩) m d1] 25)).setCell ⟨g1, k, none⟩ (.int .i64 role)).cell? ⟨g2, k, none⟩ = some (.int .i64 (eI W k)) ∧ ((w1.alloc (.cells #[.slice (some ⟨g1, 0, none⟩) n c1, .slice (some ⟨g2, 0, none⟩) m d1] 25)).setCell ⟨g1, k, none⟩ (.int .i64 role)).frozen? ⟨g2, k, none⟩ = false ∧
    (((w1.alloc (.cells #[.slice (some ⟨g1, 0, none⟩) n c1, .slice (some ⟨g2, 0, none⟩) m d1] 25)).setCell ⟨g1, k, none⟩ (.int .i64 role)).setCell ⟨g2, k, none⟩ (.int .i64 mw)).cell? ⟨w1.heap.size, 0, none⟩ = some (.slice (some ⟨g1, 0, none⟩) n c1) ∧ (((w1.alloc (.cells #[.slice (some ⟨g1, 0, none⟩) n c1, .slice (some ⟨g2, 0, none⟩) m d1] 25)).setCell ⟨g1, k, none⟩ (.int .i64 role)).setCell ⟨g2, k, none⟩ (.int .i64 mw)).cell? ⟨w1.heap.size, 1, none⟩ = some (.slice (some ⟨g2, 0, none⟩) m d1) := by
  have hne : g1 ≠ g2 := hnp.ne _ _ rfl rfl
  have hl1 := (hnp.r.lt g1 rfl)
  have hl2 := (hnp.v.lt g2 rfl)
  have hln := hnp.inR.len
  have hlm := hnp.inW.len
  obtain ⟨x, y, hres⟩ := hS.res
  have hlr := hres.lt
  have b9 := Blk.new' w1 25 #[.slice (some ⟨g1, 0, none⟩) n c1, .slice (some ⟨g2, 0, none⟩) m d1]
  have hnp1 := hnp.next (below_alloc w1 (.cells #[.slice (some ⟨g1, 0, none⟩) n c1, .slice (some ⟨g2, 0, none⟩) m d1] 25))
  have hS1 := (hS.next hb1).next (below_alloc w1 (.cells #[.slice (some ⟨g1, 0, none⟩) n c1, .slice (some ⟨g2, 0, none⟩) m d1] 25))
  generalize (w1.alloc (.cells #[.slice (some ⟨g1, 0, none⟩) n c1, .slice (some ⟨g2, 0, none⟩) m d1] 25)) = W1 at *
  have r2 := (hnp1.r.stored k (.int .i64 role)).1
  rw [valsI_set] at r2
  have t2 := Turned.setCell W1 ⟨g1, k, none⟩ (.int .i64 role)
  have v2 := owns_turned hnp1.v t2 (fun a e => by cases e; exact fun e => hne e.symm)
  have b92 := b9.turned t2 (show w1.heap.size ≠ g1 by omega)
  have s2 := hS1.far t2 (show w.heap.size ≠ g1 by omega) (show w.heap.size + 1 ≠ g1 by omega) (show w.heap.size ≤ g1 by omega)
  have f4 := v2.cellAt k (by omega)
  rw [valsI_get W k (by omega)] at f4
  have f5 := v2.frozenAt k
  have v3 := (v2.stored k (.int .i64 mw)).1
  rw [valsI_set] at v3
  have f1 := hnp1.r.cellAt k (by omega)
  rw [valsI_get R k (by omega)] at f1
  have f2 := hnp1.r.frozenAt k
  generalize W1.setCell ⟨g1, k, none⟩ (.int .i64 role) = W2 at *
  have t3 := Turned.setCell W2 ⟨g2, k, none⟩ (.int .i64 mw)
  have r3 := owns_turned r2 t3 (fun a e => by cases e; exact hne)
  have b93 := b92.turned t3 (show w1.heap.size ≠ g2 by omega)
  have s3 := s2.far t3 (show w.heap.size ≠ g2 by omega) (show w.heap.size + 1 ≠ g2 by omega) (show w.heap.size ≤ g2 by omega)
  exact ⟨s3, b93, ⟨r3, v3, hnp.hn, hnp.hm, hnp.ne⟩, f1, f2, b92.cell' rfl, f4, f5, b93.cell' rfl, b93.cell' rfl⟩
set_option linter.unusedSimpArgs false in
set_option maxHeartbeats 1000000 in
theorem with_any (p q : Option Addr) (n c m d : Nat) (R W : List Int) (w : World) (hR : InI w p n c R) (hW : InI w q m d W) (k : Nat) (hk : k < n) (hkm : k < m) (hn : n ≤ 256) (hm : m ≤ 256) (role wear mw : Int) (hmw : mw = min wear 16777215) :
    Calls Try.prog 48 #[.agg #[.slice p n c, .slice q m d], .int .i64 (k : Int), .int .i64 role, .int .i64 wear] w fun e w' => ∃ p' c' q' d', e = .returned (.agg #[.slice p' n c', .slice q' m d']) ∧ NewP w.heap.size w' p' n c' q' m d' (R.set k role) (W.set k mw) ∧ Below w.heap.size w w' := by
  have hS := PS.start w (.slice p n c) (.slice q m d) (.slice none 0 0) (.slice none 0 0)
  have hk1 : (k : Int) < (n : Int) := by omega
  have hk2 : (k : Int) < (m : Int) := by omega
  go_enter Try.func48, Try.ntmps48
  go_upto_region 2 with (go_at_call 39; refine (clone_any p q n c m d R W _ (hR.below hS.bel) (hW.below hS.bel) (by omega) (by omega)).mono ?_; rintro e w1 ⟨p1, c1, q1, d1, rfl, hnp, hb1⟩; obtain ⟨g1, rfl, hg1, hl1⟩ := owns_at hnp.r (by omega); obtain ⟨g2, rfl, hg2, hl2⟩ := owns_at hnp.v (by omega); obtain ⟨hS3, b93, hnp3, f1, f2, f3, f4, f5, f6, f7⟩ := with_facts hS hnp hb1 hk hkm role mw; have z0 := (Blk.new' w1 25 #[.slice (some ⟨g1, 0, none⟩) n c1, .slice (some ⟨g2, 0, none⟩) m d1]).cell' (i := 0) rfl; have hfar : FarP (w.heap.size + 1) (some ⟨g1, 0, none⟩) (some ⟨g2, 0, none⟩) := ⟨fun a e => by cases e; show g1 ≠ _; rw [World.size_alloc, World.size_alloc] at hg1; omega, fun a e => by cases e; show g2 ≠ _; rw [World.size_alloc, World.size_alloc] at hg2; omega⟩; have hlow := hS.bel.size; replace hnp3 := hnp3.low hlow; clear hnp hb1 hS hg1 hg2 hl1 hl2 hlow)
  generalize (w1.alloc (.cells #[.slice (some ⟨g1, 0, none⟩) n c1, .slice (some ⟨g2, 0, none⟩) m d1] 25)) = W1 at *
  obtain ⟨x, y, hres⟩ := hS3.res
  clear b93
  by_cases hw : 16777215 < wear
  · obtain rfl : mw = 16777215 := by rw [hmw]; exact Int.min_eq_right (by omega)
    clear hmw
    go_wp2_with (first
      | (refine wpList_store_blk rfl 25 (.tmp 8) (.tmp 23) rfl _ _ [.slice (some ⟨g1, 0, none⟩) n c1, .slice (some ⟨g2, 0, none⟩) m d1] rfl rfl hres (by simp) (poolSize _ _) one2 ?_; intro w9 h9 ht9; replace h9 : Blk w9 (w.heap.size + 1) 25 [.slice (some ⟨g1, 0, none⟩) n c1, .slice (some ⟨g2, 0, none⟩) m d1] := h9))
    exact ret_pool Try.results48 rfl h9 rfl ⟨_, _, _, _, rfl, hnp3.turned ht9 hfar, ht9.below hS3.bel (by omega)⟩
  · obtain rfl : mw = wear := by rw [hmw]; exact Int.min_eq_left (by omega)
    clear hmw
    go_wp2_with (first
      | (refine wpList_store_blk rfl 25 (.tmp 8) (.tmp 23) rfl _ _ [.slice (some ⟨g1, 0, none⟩) n c1, .slice (some ⟨g2, 0, none⟩) m d1] rfl rfl hres (by simp) (poolSize _ _) one2 ?_; intro w9 h9 ht9; replace h9 : Blk w9 (w.heap.size + 1) 25 [.slice (some ⟨g1, 0, none⟩) n c1, .slice (some ⟨g2, 0, none⟩) m d1] := h9))
    exact ret_pool Try.results48 rfl h9 rfl ⟨_, _, _, _, rfl, hnp3.turned ht9 hfar, ht9.below hS3.bel (by omega)⟩
end Go.Proofs.Ytigkfmdhmonjlaa
