/-
  Taking a page from all logs of a table.
-/
import Derived.Test.YthibaefoioeghaaPlHeart
namespace Go.Proofs.Ythibaefoioeghaa
open Go.RowKit
theorem put1_any (x n : Int) (gp : Nat) (w : World) (h : w.cell? ⟨gp, 0, none⟩ = some (.int .i64 n)) : Calls Try.prog 43 #[.int .i64 x, .pointer (some ⟨gp, 0, none⟩)] w fun e w' => e = .returned (.bool (x == n)) ∧ w' = w := by
  go_enter Try.func43, Try.ntmps43
  go_wp2
  go_ret
  exact ⟨rfl, rfl⟩
theorem owns_cellset {w : World} {B g : Nat} {e : TypeId} {z : Nat} {n c : Nat} {xs : List Value} (h : w.ownsRow B e z (.slice (some ⟨g, 0, none⟩) n c) n xs) (j : Nat) (u : Value) : (w.setCell ⟨g, j, none⟩ u).ownsRow B e z (.slice (some ⟨g, 0, none⟩) n c) n (xs.set j u) := (World.ownsRow.stored h j u).1
theorem set_get_self {α : Type} {l : List α} {i : Nat} {a : α} (h : l[i]? = some a) : l.set i a = l := by
  obtain ⟨hi, rfl⟩ := List.getElem?_eq_some_iff.1 h
  exact List.set_getElem_self hi
theorem flatR_same {R : List LR} {k : Nat} {r y : LR} (h : R[k]? = some r) (hp : y.phys = r.phys) (hv : y.v = r.v) : flatR (R.set k y) = flatR R := by
  rw [← flatR_set r y h hp, hv]
  have h1 := (flatR_at h).2
  exact set_get_self h1
/-- A store into a page of a log of an own table. -/
theorem OwnT.put {B : Nat} {w : World} {V : TabV} {T : Tab} {R : List LR} {k g j : Nat} {r : LR} (h : OwnT B w V T R) (hr : R[k]? = some r) (hp : r.p = some ⟨g, 0, none⟩) (x : Int) :
    OwnT B (w.setCell ⟨g, j, none⟩ (.int .i64 x)) V (T.with (R.set k ⟨r.phys, r.p, r.c, r.pages.set j x⟩)) (R.set k ⟨r.phys, r.p, r.c, r.pages.set j x⟩) := by
  have hk := (List.getElem?_eq_some_iff.1 hr).1
  have ht := Turned.setCell w ⟨g, j, none⟩ (.int .i64 x)
  have hrow := h.r k r hr
  have get : ∀ (i : Nat) (s : LR), (R.set k ⟨r.phys, r.p, r.c, r.pages.set j x⟩)[i]? = some s → (i = k ∧ s = ⟨r.phys, r.p, r.c, r.pages.set j x⟩) ∨ (i ≠ k ∧ R[i]? = some s) := by
    intro i s hs
    by_cases e : k = i
    · subst e
      rw [List.getElem?_set_self hk] at hs
      exact .inl ⟨rfl, (Option.some.inj hs).symm⟩
    · rw [List.getElem?_set_ne e] at hs
      exact .inr ⟨fun h' => e h'.symm, hs⟩
  have hv : (⟨r.phys, r.p, r.c, r.pages.set j x⟩ : LR).v = r.v := by unfold LR.v; rw [List.length_set]
  refine ⟨rfl, owns_turned h.d ht (fun a ha e => h.ad k r ⟨g, 0, none⟩ a hr hp ha e.symm), owns_turned h.h ht (fun a ha e => owns_ne (by decide) h.h hrow a _ ha hp e), by rw [flatR_same (y := ⟨r.phys, r.p, r.c, r.pages.set j x⟩) hr rfl hv]; exact owns_turned h.l ht (fun a ha e => owns_ne (by decide) h.l hrow a _ ha hp e), fun i s hs => ?_, fun i i2 s u a b hij hs hu ha hb => ?_, fun i s a b hs ha hb => ?_, h.sm.1, h.sm.2.1, h.sm.2.2.1, fun i s hs => ?_⟩
  · rcases get i s hs with ⟨_, rfl⟩ | ⟨hi, hs'⟩
    · have hr2 := hrow
      rw [LR.v, hp] at hr2
      have := owns_cellset hr2 j (.int .i64 x)
      show World.ownsRow _ B 3 1 (.slice r.p (r.pages.set j x).length r.c) (r.pages.set j x).length _
      rw [List.length_set, hp]
      have e : valsI (r.pages.set j x) = (valsI r.pages).set j (.int .i64 x) := by unfold valsI; rw [List.map_set]
      rw [e]
      exact this
    · exact owns_turned (h.r i s hs') ht (fun a ha e => h.ap i k s r a ⟨g, 0, none⟩ hi hs' hr ha hp e)
  · rcases get i s hs with ⟨e1, e2⟩ | ⟨hi, hs'⟩
    · rcases get i2 u hu with ⟨e3, _⟩ | ⟨hj, hu'⟩
      · omega
      · rw [e2] at ha; exact h.ap k i2 r u a b (fun e => hj e.symm) hr hu' ha hb
    · rcases get i2 u hu with ⟨e3, e4⟩ | ⟨hj, hu'⟩
      · rw [e4] at hb; exact h.ap i k s r a b hi hs' hr ha hb
      · exact h.ap i i2 s u a b hij hs' hu' ha hb
  · rcases get i s hs with ⟨_, e2⟩ | ⟨hi, hs'⟩
    · rw [e2] at ha; exact h.ad k r a b hr ha hb
    · exact h.ad i s a b hs' ha hb
  · rcases get i s hs with ⟨_, rfl⟩ | ⟨hi, hs'⟩
    · show (r.pages.set j x).length ≤ _; rw [List.length_set]; exact h.sm.2.2.2 k r hr
    · exact h.sm.2.2.2 i s hs'
theorem blk_ty3 {w : World} {g B c n : Nat} {t : TypeId} {cs : List Value} {r : LR} {xs : List Value} (hb : Blk w g t cs) (h : w.ownsRow B 3 1 r.v n xs) (ht : t ≠ 3) (hp : r.p = some ⟨c, 0, none⟩) (e : g = c) : False := by
  rcases h.2 with ⟨h0, _⟩ | ⟨g', cap, cur, hv, _, hh, _⟩
  · unfold LR.v at h0; rw [hp] at h0; cases h0
  · unfold LR.v at hv
    rw [hp] at hv
    simp only [Value.slice.injEq, Option.some.injEq, Addr.mk.injEq, and_true] at hv
    have e2 : g' = g := by rw [e, hv.1]
    subst e2
    have := Eq.trans (Eq.symm hb) hh
    simp only [Option.some.injEq, Obj.cells.injEq] at this
    exact ht this.2.1
theorem frozen_of_owns {w : World} {B : Nat} {e : TypeId} {z : Nat} {g n c k : Nat} {xs : List Value} (h : w.ownsRow B e z (.slice (some ⟨g, 0, none⟩) n c) k xs) (j : Nat) : w.frozen? ⟨g, j, none⟩ = false := by
  rcases h.2 with ⟨h0, _⟩ | ⟨g', cap, cur, hv, _, hh, _⟩
  · cases h0
  · simp only [Value.slice.injEq, Option.some.injEq, Addr.mk.injEq, and_true] at hv
    obtain ⟨rfl, _⟩ := hv
    exact Blk.frozen (cs := cur.toList) (t := e) (by rw [Blk]; simpa using hh) j
/-- A log's pages while a page is taken from them: the first j are done. -/
def fgP (n : Int) (pg : List Int) (j : Nat) : List Int := (pg.take j).map (fun x => if x = n then -1 else x) ++ pg.drop j
def fgR (n : Int) (r : LR) (j : Nat) : LR := ⟨r.phys, r.p, r.c, fgP n r.pages j⟩
def fgL (n : Int) (R : List LR) (k : Nat) : List LR := (R.take k).map (fun r => fgR n r r.pages.length) ++ R.drop k
theorem fgP_length (n : Int) (pg : List Int) (j : Nat) : (fgP n pg j).length = pg.length := by unfold fgP; rw [List.length_append, List.length_map, List.length_take, List.length_drop]; omega
theorem fgP_at {n : Int} {pg : List Int} {j : Nat} (h : j < pg.length) : (fgP n pg j)[j]? = some (eI pg j) := by
  unfold fgP
  rw [List.getElem?_append_right (by rw [List.length_map, List.length_take]; omega), List.length_map, List.length_take, Nat.min_eq_left (by omega), Nat.sub_self, List.getElem?_drop, Nat.add_zero]
  simp [eI, h]
theorem fgP_yes {n : Int} {pg : List Int} {j : Nat} (h : j < pg.length) (he : eI pg j = n) : (fgP n pg j).set j (-1) = fgP n pg (j + 1) := by
  have e : pg[j] = n := by rw [← he]; simp [eI, h]
  unfold fgP
  rw [List.set_append_right _ _ (by rw [List.length_map, List.length_take]; omega), List.length_map, List.length_take, Nat.min_eq_left (by omega), Nat.sub_self, List.drop_eq_getElem_cons h, List.set_cons_zero, List.take_succ_eq_append_getElem h, List.map_append, List.append_assoc]
  simp [e]
theorem fgP_no {n : Int} {pg : List Int} {j : Nat} (h : j < pg.length) (he : eI pg j ≠ n) : fgP n pg j = fgP n pg (j + 1) := by
  have e : pg[j] ≠ n := by intro e; apply he; rw [← e]; simp [eI, h]
  unfold fgP
  rw [List.drop_eq_getElem_cons h, List.take_succ_eq_append_getElem h, List.map_append, List.append_assoc]
  simp [e]
theorem fgR_zero (n : Int) (r : LR) : fgR n r 0 = r := by unfold fgR fgP; simp
theorem fgL_length (n : Int) (R : List LR) (k : Nat) : (fgL n R k).length = R.length := by unfold fgL; rw [List.length_append, List.length_map, List.length_take, List.length_drop]; omega
theorem fgL_at {n : Int} {R : List LR} {k : Nat} {r : LR} (h : R[k]? = some r) : (fgL n R k)[k]? = some r := by
  have hk := (List.getElem?_eq_some_iff.1 h).1
  unfold fgL
  rw [List.getElem?_append_right (by rw [List.length_map, List.length_take]; omega), List.length_map, List.length_take, Nat.min_eq_left (by omega), Nat.sub_self, List.getElem?_drop, Nat.add_zero]
  exact h
theorem fgL_step {n : Int} {R : List LR} {k : Nat} {r : LR} (h : R[k]? = some r) : (fgL n R k).set k (fgR n r r.pages.length) = fgL n R (k + 1) := by
  obtain ⟨hk, he⟩ := List.getElem?_eq_some_iff.1 h
  unfold fgL
  rw [List.set_append_right _ _ (by rw [List.length_map, List.length_take]; omega), List.length_map, List.length_take, Nat.min_eq_left (by omega), Nat.sub_self, List.drop_eq_getElem_cons hk, List.set_cons_zero, List.take_succ_eq_append_getElem hk, List.map_append, List.append_assoc, he]
  rfl
theorem fgL_same {n : Int} {R : List LR} {k : Nat} {r : LR} (h : R[k]? = some r) : (fgL n R k).set k (fgR n r 0) = fgL n R k := by
  rw [fgR_zero]
  exact set_get_self (fgL_at h)
theorem fgP_all (n : Int) (pg : List Int) : fgP n pg pg.length = pg.map (fun x => if x = n then -1 else x) := by
  unfold fgP; rw [List.take_of_length_le (Nat.le_refl _), List.drop_eq_nil_of_le (Nat.le_refl _), List.append_nil]
theorem fgL_all {n : Int} {T : Tab} {R : List LR} (h : T.logs = R.map LR.log) : T.with (fgL n R R.length) = forgetT T n := by
  unfold Tab.with forgetT fgL forgetL
  rw [List.take_of_length_le (Nat.le_refl _), List.drop_eq_nil_of_le (Nat.le_refl _), List.append_nil, List.map_map, h, List.map_map]
  congr 2
  funext r
  show LogS.mk r.phys (fgP n r.pages r.pages.length) = _
  rw [fgP_all]
  rfl
theorem with_with (T : Tab) (R S : List LR) : (T.with R).with S = T.with S := rfl
theorem with_self {T : Tab} {R : List LR} (h : T.logs = R.map LR.log) : T.with R = T := by unfold Tab.with; rw [← h]
set_option linter.unusedSimpArgs false in
set_option linter.unusedVariables false in
set_option maxRecDepth 100000 in
set_option maxHeartbeats 8000000 in
theorem forget_any (B : Nat) (V : TabV) (T : Tab) (R : List LR) (n : Int) (gp : Nat) (w : World) (hB : B ≤ w.heap.size) (h : OwnT B w V T R) (hnl : V.nl ≤ 8) (hlen : ∀ (i : Nat) (r : LR), R[i]? = some r → r.pages.length ≤ 1000) (hgp : Blk w gp 3 [.int .i64 n]) (hgB : gp < B) :
    Calls Try.prog 42 #[.agg (tabA V T), .func (.func 43) #[] #[.pointer (some ⟨gp, 0, none⟩)]] w fun e w' => e = .returned (.tuple #[]) ∧ OwnT B w' V (forgetT T n) (fgL n R R.length) ∧ Below B w w' ∧ ∀ (g' : Nat) (t : TypeId) (cs : List Value), t ≠ 3 → Blk w g' t cs → Blk w' g' t cs := by
  have hb0 := below_alloc w (.cells (tabA V T) 28)
  have b0 := Blk.new' w 28 (tabA V T)
  have h1 := h.next hb0
  have hg1 := hgp.kept hb0
  have hRl : R.length = V.nl := by have := h.l.1; rw [flatR_length] at this; omega
  have HH : Hid (OwnT B w V T R) := h
  have HRL : Hid (R.length = V.nl) := hRl
  have hself : T.with (fgL n R 0) = T := by unfold fgL; rw [List.take_zero, List.map_nil, List.nil_append, List.drop_zero]; exact with_self h.logs
  have hzero : fgL n R 0 = R := by unfold fgL; rw [List.take_zero, List.map_nil, List.nil_append, List.drop_zero]
  have HSZ : Hid (T.with (fgL n R 0) = T ∧ fgL n R 0 = R) := ⟨hself, hzero⟩
  have HLEN : Hid (∀ (i : Nat) (r : LR), R[i]? = some r → r.pages.length ≤ 1000) := hlen
  have hkeep : ∀ (g' : Nat) (t : TypeId) (cs : List Value), t ≠ 3 → Blk w g' t cs → Blk (w.alloc (.cells (tabA V T) 28)) g' t cs := fun g' t cs _ hb => hb.alloc _
  have hbB : Below B w (w.alloc (.cells (tabA V T) 28)) := hb0.mono hB
  clear h hself hzero hlen
  unfold tabA at hb0 b0 h1 hg1 hkeep hbB ⊢
  have z8 := b0.cell' (i := 8) rfl
  go_enter Try.func42, Try.ntmps42
  go_wp2
  generalize w.alloc (.cells #[.int .i64 T.pages, .int .i64 T.logical, .int .i64 T.k, .slice V.pd V.nd V.cd, .slice V.ph V.nh V.ch, .int .i64 T.sp, .int .i64 T.sl, .int .i64 T.su, .slice V.pl V.nl V.cl] 28) = W0 at *
  clear z8 b0 hb0
  go_loopw [11] (fun t wr => ∃ k : Nat, k ≤ V.nl ∧ t = .int .i64 (k : Int) ∧ OwnT B wr V (T.with (fgL n R k)) (fgL n R k) ∧ Blk wr gp 3 [.int .i64 n] ∧ Below B w wr ∧ ∀ (g' : Nat) (t : TypeId) (cs : List Value), t ≠ 3 → Blk w g' t cs → Blk wr g' t cs) (fun t _ => V.nl - (intOf t).toNat)
  case atStart => exact ⟨0, Nat.zero_le _, rfl, by rw [HSZ.out.1, HSZ.out.2]; exact h1, hg1, hbB, hkeep⟩
  case round =>
    clear h1 hg1 hkeep hbB
    obtain ⟨k, hk, rfl, h1, hg1, hbB, hkeep⟩ := hrel
    by_cases hlt : k < V.nl
    · have hki : (k : Int) < (V.nl : Int) := by omega
      obtain ⟨r, hr⟩ : ∃ r, R[k]? = some r := ⟨_, List.getElem?_eq_getElem (by omega)⟩
      have hrk := fgL_at (n := n) hr
      have hrl := HLEN.out k r hr
      obtain ⟨gl, hpl⟩ : ∃ gl, V.pl = some ⟨gl, 0, none⟩ := by
        rcases h1.l.2 with ⟨_, h0⟩ | ⟨g, cap, cur, hv, _⟩
        · omega
        · simp only [Value.slice.injEq] at hv
          exact ⟨g, hv.1⟩
      have hl := h1.l
      rw [hpl] at hl
      obtain ⟨f0, f1⟩ := flatR_at hrk
      have e0 := hl.cells (g := gl) rfl _ _ f0
      have e1 := hl.cells (g := gl) rfl _ _ f1
      rw [addr_add, Nat.zero_add] at e0 e1
      have HPL : Hid (V.pl = some ⟨gl, 0, none⟩) := hpl
      have HR : Hid (R[k]? = some r) := hr
      rw [LR.v] at e1
      obtain ⟨m, hm⟩ : ∃ m, r.pages.length = m := ⟨_, rfl⟩
      have HM : Hid (r.pages.length = m) := hm
      rw [hm] at e1 hrl
      have hb5 := below_alloc wr (.cells #[.int .i64 r.phys, .slice r.p m r.c] 61)
      have l5 := Blk.new' wr 61 #[.int .i64 r.phys, .slice r.p m r.c]
      have h5 := h1.next hb5
      have hg5 := hg1.kept hb5
      have hBw : B ≤ wr.heap.size := Nat.le_trans hB hbB.size
      have hb5B : Below B w (wr.alloc (.cells #[.int .i64 r.phys, .slice r.p m r.c] 61)) := hbB.trans (hb5.mono hBw)
      have hk5 : ∀ (g' : Nat) (t : TypeId) (cs : List Value), t ≠ 3 → Blk w g' t cs → Blk (wr.alloc (.cells #[.int .i64 r.phys, .slice r.p m r.c] 61)) g' t cs := fun g' t cs ht hb => (hkeep g' t cs ht hb).alloc _
      have q1 := l5.cell' (i := 1) rfl
      rw [hpl]
      clear hr f0 f1 hrk hl hm hkeep hpl
      go_wp2
      obtain ⟨lb, hlb⟩ : ∃ lb, wr.heap.size = lb := ⟨_, rfl⟩
      rw [hlb] at l5 ⊢
      generalize wr.alloc (.cells #[.int .i64 r.phys, .slice r.p m r.c] 61) = W5 at *
      clear e0 e1 q1 hb5 h1 hg1 hbB
      go_loopw [18] (fun t wi => ∃ j : Nat, j ≤ m ∧ t = .int .i64 (j : Int) ∧ OwnT B wi V (T.with ((fgL n R k).set k (fgR n r j))) ((fgL n R k).set k (fgR n r j)) ∧ Blk wi gp 3 [.int .i64 n] ∧ Blk wi lb 61 [.int .i64 r.phys, .slice r.p m r.c] ∧ Below B w wi ∧ ∀ (g' : Nat) (t : TypeId) (cs : List Value), t ≠ 3 → Blk w g' t cs → Blk wi g' t cs) (fun t _ => m - (intOf t).toNat)
      case atStart => exact ⟨0, Nat.zero_le _, rfl, by rw [fgL_same HR.out]; exact h5, hg5, l5, hb5B, hk5⟩
      case round =>
        clear h5 hg5 l5 hb5B hk5
        obtain ⟨j, hj, rfl, hj1, hgj, hlj, hbj, hkj⟩ := hrel
        have q1 := hlj.cell' (i := 1) rfl
        by_cases hlm : j < m
        · have hji : (j : Int) < (m : Int) := by omega
          have hjl : j < r.pages.length := by rw [HM.out]; exact hlm
          have hkl : k < (fgL n R k).length := by rw [fgL_length]; omega
          have hrj : ((fgL n R k).set k (fgR n r j))[k]? = some (fgR n r j) := List.getElem?_set_self hkl
          have hrow := hj1.r k _ hrj
          obtain ⟨gr, hpr⟩ : ∃ gr, r.p = some ⟨gr, 0, none⟩ := by
            rcases hrow.2 with ⟨_, h0⟩ | ⟨g, cap, cur, hv, _⟩
            · rw [show (fgR n r j).pages = fgP n r.pages j from rfl, fgP_length] at h0; omega
            · have hv' : Value.slice r.p (fgR n r j).pages.length r.c = _ := hv
              simp only [Value.slice.injEq] at hv'
              exact ⟨g, hv'.1⟩
          have hrow2 : wr.ownsRow B 3 1 (.slice (some ⟨gr, 0, none⟩) (fgR n r j).pages.length r.c) (fgR n r j).pages.length (valsI (fgP n r.pages j)) := by rw [← hpr]; exact hrow
          have hat : (valsI (fgP n r.pages j))[j]? = some (.int .i64 (eI r.pages j)) := by unfold valsI; rw [List.getElem?_map, fgP_at hjl]; rfl
          have ej := hrow2.cells (g := gr) rfl _ _ hat
          rw [addr_add, Nat.zero_add] at ej
          have hgr := (hrow2.lt gr rfl).1
          have fj := frozen_of_owns hrow2 j
          have hput := hj1.put hrj (show (fgR n r j).p = some ⟨gr, 0, none⟩ from hpr) (j := j) (-1)
          have hp1 := put1_any (eI r.pages j) n gp wr (hgj.cell' rfl)
          have HPR : Hid (r.p = some ⟨gr, 0, none⟩) := hpr
          rw [hpr] at q1 ⊢
          obtain ⟨x, hx⟩ : ∃ x, eI r.pages j = x := ⟨_, rfl⟩
          have HX : Hid (eI r.pages j = x) := hx
          rw [hx] at ej hp1
          clear hx hat hrow hrow2 hpr hrj hkl
          by_cases he : x = n
          · have heq : (x == n) = true := by simpa using he
            have HE : Hid (x = n) := he
            rw [heq] at hp1
            clear he heq
            go_wp2_with (go_at_call 43; refine hp1.mono ?_; rintro e w9 ⟨rfl, hw9⟩; have hw8 := hw9.symm; subst hw8)
            have tX := Turned.setCell wr ⟨gr, j, none⟩ (.int .i64 (-1))
            go_roundw
            case rel =>
              refine ⟨j + 1, by omega, by go_num, ?_, hgj.turned tX (by show gp ≠ gr; omega), ?_, tX.below hbj hgr, fun g' t cs ht hb => (hkj g' t cs ht hb).turned tX ?_⟩
              · rw [with_with, List.set_set] at hput
                have e : (⟨(fgR n r j).phys, (fgR n r j).p, (fgR n r j).c, (fgR n r j).pages.set j (-1)⟩ : LR) = fgR n r (j + 1) := by
                  show LR.mk _ _ _ ((fgP n r.pages j).set j (-1)) = _
                  rw [fgP_yes hjl (HX.out.trans HE.out)]; rfl
                rw [e] at hput
                exact hput
              · rw [← HPR.out]
                exact hlj.turned tX (fun e => blk_ty3 hlj (hj1.r k _ (List.getElem?_set_self (by rw [fgL_length]; omega))) (by decide) (show (fgR n r j).p = some ⟨gr, 0, none⟩ from HPR.out) e)
              · exact fun e => blk_ty3 (hkj g' t cs ht hb) (hj1.r k _ (List.getElem?_set_self (by rw [fgL_length]; omega))) ht (show (fgR n r j).p = some ⟨gr, 0, none⟩ from HPR.out) e
            case measure => simp [intOf]; omega
          · have heq : (x == n) = false := by simpa using he
            have HE : Hid (x ≠ n) := he
            rw [heq] at hp1
            clear he heq hput
            go_wp2_with (go_at_call 43; refine hp1.mono ?_; rintro e w9 ⟨rfl, hw9⟩; have hw8 := hw9.symm; subst hw8)
            go_roundw
            case rel =>
              refine ⟨j + 1, by omega, by go_num, ?_, hgj, by rw [← HPR.out]; exact hlj, hbj, hkj⟩
              have e : fgR n r (j + 1) = fgR n r j := by unfold fgR; rw [fgP_no hjl (by rw [HX.out]; exact HE.out)]
              rw [e]
              exact hj1
            case measure => simp [intOf]; omega
        · obtain rfl : j = m := by omega
          have hjj : ¬ (j : Int) < (j : Int) := by omega
          go_wp2
          go_roundw
          case rel =>
            rw [← HM.out, fgL_step HR.out] at hj1
            exact ⟨k + 1, by omega, by go_num, hj1, hgj, hbj, hkj⟩
          case measure => simp [intOf]; omega
    · obtain rfl : k = V.nl := by omega
      have hkk : ¬ (V.nl : Int) < (V.nl : Int) := by omega
      go_wp2
      go_end0
      have e := fgL_all (n := n) HH.out.logs
      rw [HRL.out] at e
      rw [e] at h1
      exact ⟨rfl, h1, hbB, hkeep⟩
end Go.Proofs.Ythibaefoioeghaa
