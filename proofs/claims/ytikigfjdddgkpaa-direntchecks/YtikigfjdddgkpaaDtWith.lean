/-
  What dirent.with, Empty and split answer.
-/
import Derived.Test.YtikigfjdddgkpaaDtLay1
import Derived.Test.YtikigfjdddgkpaaDtIdx
import Derived.Test.YtikigfjdddgkpaaClone
namespace Go.Proofs.Ytikigfjdddgkpaa
open Go.RowKit
theorem clone_owns (a : Addr) (n c : Nat) (xs : List Nat) (w : World) (hx : In w (some a) n c xs) :
    Calls Try.prog 25 #[.slice (some a) n c] w fun e w' => ∃ v, e = .returned v ∧ w'.ownsRow w.heap.size 5 1 v n (vals xs) ∧ Below w.heap.size w w' := by
  have hroom := hx.room
  have HX : Hid (xs.length = n) := hx.len
  obtain ⟨i0, hi, hz0, hz1, hz2⟩ := info_parts info5
  have hq := fun (w : World) => Lib.run_eql_slice_nil (P := Try.prog) w 22 5 (some a) n c 0 0 Try.underlying22
  have ho := World.ownsRow_lit (e := 5) (size := 1) (base := w.heap.size) w #[] 0 (Nat.le_refl _) (by unfold maxLen; omega) (by simp)
  have HO : Hid ((w.alloc (.cells #[] 5)).ownsRow w.heap.size 5 1 (.slice (some ⟨w.heap.size, 0, none⟩) 0 0) 0 []) := ho
  clear ho
  go_enter Try.func25, Try.ntmps25
  go_wp2_with (at_builtin; refine wpList_append_own _ rfl (.tmp 5) (.tmp 6) 22 rfl w.heap.size 5 i0 (.int .u8 0) 1 1 Try.underlying22 hi hz0 hz1 hz2 rfl (by decide) (.slice (some ⟨w.heap.size, 0, none⟩) 0 0) 0 [] rfl HO.out a n c (vals xs) rfl (by rw [vals_length, HX.out, Nat.mul_one]) ((hx.below (below_alloc _ _)).cells rfl) (vals_one xs) (by unfold maxLen; omega) (by omega) (by simp) ?_; intro v1 w1 hown1 hgrow1 _)
  go_ret
  rw [List.nil_append, Nat.zero_add] at hown1
  exact ⟨_, rfl, hown1, (below_alloc w _).grown hgrow1 (by simp) (fun k hk => by simp [Value.ownBlock] at hk; omega)⟩
theorem results_cell2 {fn : Func} {p u : Tmp} {ty ty2 : TypeId} (h : fn.results = #[.cell p ty, .cell u ty2]) (tmps : Array Value) (P : Program) (w : World) :
    (results fn tmps).run P w =
      ((asAddr (tmps.getD p undef)).run P w).andThen fun a w₁ => ((loadVar ty a).run P w₁).andThen fun v w₂ => ((asAddr (tmps.getD u undef)).run P w₂).andThen fun b w₃ => ((loadVar ty2 b).run P w₃).andThen fun x w₄ => .ok (.tuple #[v, x]) w₄ := by
  simp only [results, h]
  simp [Sem.run_bind, Result.andThen]
theorem ret_rec2 {fn : Func} {p u : Tmp} (h : fn.results = #[.cell p 69, .cell u 69]) {R : Ending → World → Prop} {a : Act} {w : World} {g k : Nat} {t t2 : TypeId} {x0 x1 x2 x3 x4 y0 y1 y2 y3 y4 : Value} (hp : a.tmps.getD p undef = .pointer (some ⟨g, 0, none⟩)) (hu : a.tmps.getD u undef = .pointer (some ⟨k, 0, none⟩))
    (hb : Blk w g t [x0, x1, x2, x3, x4]) (hk : Blk w k t2 [y0, y1, y2, y3, y4]) (hd : a.defers = []) (hR : R (.returned (.tuple #[.agg #[x0, x1, x2, x3, x4], .agg #[y0, y1, y2, y3, y4]])) w) : bodyPost Try.prog fn R .ret a w := by
  refine bodyPost_ret (v := .tuple #[.agg #[x0, x1, x2, x3, x4], .agg #[y0, y1, y2, y3, y4]]) ?_ hd hR
  rw [results_cell2 h, hp, hu]
  have h1 := run_loadVar_mid w g 0 69 [x0, x1, x2, x3, x4] _ (hb.range 0 5 _ rfl) Try.underlying69 rfl (by kernel_rfl)
  have h2 := run_loadVar_mid w k 0 69 [y0, y1, y2, y3, y4] _ (hk.range 0 5 _ rfl) Try.underlying69 rfl (by kernel_rfl)
  simp only [asAddr, Sem.run_pure, Result.andThen_ok, h1, h2]
/-- A record that can be laid. -/
def LayOk (r : Rc) : Prop := 0 ≤ r.pl ∧ r.pl + 8 + (r.nm.length : Int) ≤ 256 ∧ 0 ≤ r.ln ∧ r.ln < 65536 ∧ 0 ≤ r.ino ∧ r.ino < 4294967296 ∧ 0 ≤ r.kd ∧ r.kd < 256
def layR (xs : List Nat) (r : Rc) : List Nat := spl xs r.pl.toNat (encN r.ln.toNat r.ino.toNat r.kd.toNat r.nm)
theorem layR_byte {xs : List Nat} {r : Rc} (hx : ∀ x ∈ xs, x < 256) (h : LayOk r) : ∀ x ∈ layR xs r, x < 256 := spl_byte hx (encN_byte (by have := h.1; have := h.2.1; omega) (by obtain ⟨-, -, -, -, -, -, h1, h2⟩ := h; omega))
theorem lay_rc (B g C : Nat) (r : Rc) (xs : List Nat) (w : World) (h : w.ownsRow B 5 1 (.slice (some ⟨g, 0, none⟩) 256 C) 256 (vals xs)) (hr : LayOk r) :
    Calls Try.prog 40 #[.slice (some ⟨g, 0, none⟩) 256 C, r.val] w fun e w' => e = .returned (.tuple #[]) ∧ w'.ownsRow B 5 1 (.slice (some ⟨g, 0, none⟩) 256 C) 256 (vals (layR xs r)) ∧ Keep (fun k => k = g) w w' := by
  obtain ⟨a, l, nm, i, k⟩ := r
  obtain ⟨h0, h1, h2, h3, h4, h5, h6, h7⟩ := hr
  dsimp only at h0 h1 h2 h3 h4 h5 h6 h7
  obtain ⟨a, rfl⟩ := Int.eq_ofNat_of_zero_le h0
  obtain ⟨l, rfl⟩ := Int.eq_ofNat_of_zero_le h2
  obtain ⟨i, rfl⟩ := Int.eq_ofNat_of_zero_le h4
  obtain ⟨k, rfl⟩ := Int.eq_ofNat_of_zero_le h6
  exact lay_any B g C a l i k nm xs w h (by omega) (by omega) (by omega) (by omega)
set_option linter.unusedSimpArgs false in
set_option linter.unusedVariables false in
set_option maxRecDepth 100000 in
set_option maxHeartbeats 8000000 in
theorem with_any (b o c : Nat) (xs : List Nat) (p : Option Addr) (m d : Nat) (rs : List Rc) (w : World) (hx : In w (some ⟨b, o, none⟩) 256 c xs) (hr : InR w p m d rs) (hm : m ≤ 1000) (hok : ∀ r ∈ rs, LayOk r) :
    Calls Try.prog 51 #[.slice (some ⟨b, o, none⟩) 256 c, .slice p m d] w fun e w' => ∃ v, e = .returned v ∧ w'.ownsRow w.heap.size 5 1 v 256 (vals (rs.foldl layR xs)) ∧ Below w.heap.size w w' := by
  have HOK : Hid (∀ r ∈ rs, LayOk r) := hok
  have HL : Hid (rs.length = m) := hr.len
  clear hok
  go_enter Try.func51, Try.ntmps51
  go_wp2_with (go_at_call 25; refine (clone_owns ⟨b, o, none⟩ 256 c xs _ hx).mono ?_; rintro e w1 ⟨v1, rfl, hown1, hb1⟩; obtain ⟨p1, c1, hv1⟩ := owns_slice hown1; subst hv1)
  obtain ⟨g, rfl⟩ : ∃ g, p1 = some ⟨g, 0, none⟩ := by
    rcases hown1.2 with ⟨hn, _⟩ | ⟨g, cap, cur, hv, _⟩
    · cases hn
    · cases hv; exact ⟨g, rfl⟩
  have hge : w.heap.size ≤ g := owns_newP hown1 _ rfl
  go_loopw [12] (fun i wr => ∃ k : Nat, k ≤ m ∧ i = .int .i64 k ∧ wr.ownsRow w.heap.size 5 1 (.slice (some ⟨g, 0, none⟩) 256 c1) 256 (vals ((rs.take k).foldl layR xs)) ∧ Below w.heap.size w wr) (fun i _ => m - (intOf i).toNat)
  case atStart => exact ⟨0, Nat.zero_le _, rfl, hown1, hb1⟩
  case round =>
    obtain ⟨k, hk, rfl, hown, hbk⟩ := hrel
    clear hown1
    by_cases hlt : k < m
    · have hki : (k : Int) < (m : Int) := by omega
      obtain ⟨b2, o2, hpe, hbl, hc⟩ := (hr.below hbk).at' (by omega)
      subst hpe
      obtain ⟨e0, e1, e2, e3, e4⟩ := hc k hlt
      have HT : Hid ((rs.take (k + 1)).foldl layR xs = layR ((rs.take k).foldl layR xs) (eR rs k)) := by
        show _ = _
        rw [takeR_succ rs k (by rw [HL.out]; exact hlt), List.foldl_append]
        rfl
      have hrk := HOK.out (eR rs k) (eR_mem (by rw [HL.out]; exact hlt))
      have k0 := Blk.new' wr 69 #[.int .i64 (eR rs k).pl, .int .i64 (eR rs k).ln, .string ⟨(eR rs k).nm.toArray⟩, .int .i64 (eR rs k).ino, .int .i64 (eR rs k).kd]
      have hlay := fun W h => lay_rc w.heap.size g c1 (eR rs k) ((rs.take k).foldl layR xs) W h hrk
      clear hc hrk
      generalize eR rs k = r at *
      have hbb := hbk.size
      go_wp2_with (go_at_call 40; refine (hlay _ (owns_below hown (below_alloc _ _))).mono ?_; rintro e2 w2 ⟨rfl, hown2, hk2⟩)
      go_roundw
      case rel => exact ⟨k + 1, by omega, by go_num, by rw [HT.out]; exact hown2, (hbk.alloc hbb _).trans (hk2.below (by simp; omega) (fun j hj => by omega))⟩
      case measure => simp [intOf]; omega
    · have HE : Hid (rs.take k = rs) := List.take_of_length_le (by rw [HL.out]; omega)
      rw [HE.out] at hown
      have hkn : ¬ (k : Int) < (m : Int) := by omega
      go_wp2
      go_ret
      exact ⟨_, rfl, hown, hbk⟩
/-- What is left of a record, and the new one in all that it can spare. -/
def leftR (r : Rc) : Rc := ⟨r.pl, r.ln - spareE r, r.nm, r.ino, r.kd⟩
def addR (r : Rc) : Rc := ⟨r.pl + (r.ln - spareE r), spareE r, [], 0, 0⟩
theorem wrap_in (n : Int) (h0 : -9223372036854775808 ≤ n) (h1 : n < 9223372036854775808) : IntKind.i64.wrap n = n := by
  unfold IntKind.wrap
  simp [IntKind.bits, IntKind.signed]
  omega
set_option linter.unusedSimpArgs false in
set_option linter.unusedVariables false in
set_option maxRecDepth 100000 in
set_option maxHeartbeats 8000000 in
theorem split_any (r : Rc) (w : World) (hl : r.nm.length ≤ 100000) (h0 : 0 ≤ r.pl) (h3 : r.pl ≤ 1000000) (h1 : 0 ≤ r.ln) (h2 : r.ln ≤ 1000000) :
    Calls Try.prog 50 #[r.val] w fun e w' => e = .returned (.tuple #[(leftR r).val, (addR r).val]) ∧ Below w.heap.size w w' := by
  have hsb : -200000 ≤ spareE r ∧ spareE r ≤ 1000000 := by
    have : 0 ≤ needE r.nm ∧ needE r.nm ≤ 200000 := by unfold needE; omega
    unfold spareE
    split <;> omega
  have HS : Hid ((leftR r).val = .agg #[.int .i64 r.pl, .int .i64 (r.ln - spareE r), .string ⟨r.nm.toArray⟩, .int .i64 r.ino, .int .i64 r.kd] ∧ (addR r).val = .agg #[.int .i64 (r.pl + (r.ln - spareE r)), .int .i64 (spareE r), .string ⟨#[]⟩, .int .i64 0, .int .i64 0]) := ⟨rfl, rfl⟩
  have hsp := fun w => spare_any r w hl h1 h2
  generalize spareE r = s at *
  rw [HS.out.1, HS.out.2]
  obtain ⟨r1, r2, r3, r4, r5⟩ := r
  dsimp only at hl h0 h1 h2 h3 hsp ⊢
  clear HS
  go_enter Try.func50, Try.ntmps50
  go_wp2_with fail
  have A1 := (((Blk.new' w 69 #[.int .i64 r1, .int .i64 r2, .string ⟨r3.toArray⟩, .int .i64 r4, .int .i64 r5]).alloc (.cells #[.int .i64 0, .int .i64 0, .string ⟨#[]⟩, .int .i64 0, .int .i64 0] 69)).alloc (.cells #[.int .i64 0, .int .i64 0, .string ⟨#[]⟩, .int .i64 0, .int .i64 0] 69))
  have A2 := (Blk.newAt (w := w.alloc (.cells #[.int .i64 r1, .int .i64 r2, .string ⟨r3.toArray⟩, .int .i64 r4, .int .i64 r5] 69)) (g := w.heap.size + 1) 69 #[.int .i64 0, .int .i64 0, .string ⟨#[]⟩, .int .i64 0, .int .i64 0] (by simp)).alloc (.cells #[.int .i64 0, .int .i64 0, .string ⟨#[]⟩, .int .i64 0, .int .i64 0] 69)
  have A3 := Blk.newAt (w := (w.alloc (.cells #[.int .i64 r1, .int .i64 r2, .string ⟨r3.toArray⟩, .int .i64 r4, .int .i64 r5] 69)).alloc (.cells #[.int .i64 0, .int .i64 0, .string ⟨#[]⟩, .int .i64 0, .int .i64 0] 69)) (g := w.heap.size + 1 + 1) 69 #[.int .i64 0, .int .i64 0, .string ⟨#[]⟩, .int .i64 0, .int .i64 0] (by simp)
  have AB : Below w.heap.size w (((w.alloc (.cells #[.int .i64 r1, .int .i64 r2, .string ⟨r3.toArray⟩, .int .i64 r4, .int .i64 r5] 69)).alloc (.cells #[.int .i64 0, .int .i64 0, .string ⟨#[]⟩, .int .i64 0, .int .i64 0] 69)).alloc (.cells #[.int .i64 0, .int .i64 0, .string ⟨#[]⟩, .int .i64 0, .int .i64 0] 69)) := ((below_alloc w _).alloc (by simp) _).alloc (by simp; omega) _
  generalize ((w.alloc _).alloc _).alloc _ = W3 at A1 A2 A3 AB ⊢
  refine (hsp _).mono ?_
  rintro e w1 ⟨rfl, hb1⟩
  have K1 := A1.kept hb1
  have K2 := A2.kept hb1
  have K3 := A3.kept hb1
  have KB := AB.trans (hb1.mono AB.size)
  have c1 := K1.cell' (i := 1) rfl
  have f1 := K1.frozen 1
  clear A1 A2 A3 AB hb1 hsp
  go_wp2
  have M1 := K1.set 1 (.int .i64 (r2 - s))
  have M2 := K2.setOther ⟨w.heap.size, 1, none⟩ (.int .i64 (r2 - s)) (by show w.heap.size + 1 ≠ w.heap.size; omega)
  have M3 := K3.setOther ⟨w.heap.size, 1, none⟩ (.int .i64 (r2 - s)) (by show w.heap.size + 1 + 1 ≠ w.heap.size; omega)
  have MB := KB.setCell (p := ⟨w.heap.size, 1, none⟩) (Nat.le_refl _) (.int .i64 (r2 - s))
  generalize World.setCell w1 _ _ = W4 at M1 M2 M3 MB ⊢
  replace M1 : Blk W4 w.heap.size 69 [.int .i64 r1, .int .i64 (r2 - s), .string ⟨r3.toArray⟩, .int .i64 r4, .int .i64 r5] := M1
  clear K1 K2 K3 KB c1 f1
  have hwr : IntKind.i64.wrap (r1 + (r2 - s)) = r1 + (r2 - s) := wrap_in _ (by omega) (by omega)
  refine wp_region_noPanic ?_
  refine wp_region_held_drew (S := fun X => Blk X w.heap.size 69 [.int .i64 r1, .int .i64 (r2 - s), .string ⟨r3.toArray⟩, .int .i64 r4, .int .i64 r5]) (by kernel_rfl) M1.drew (fun hHeld => ?_)
  refine wpAnyH_take (i := 0) (v := ?_) rfl (by kernel_rfl) (by kernel_rfl) (by kernel_rfl) (fun _ _ _ h => h) (Or.inl ⟨by rfl, ?_⟩) hHeld ?_
  rotate_left
  · intro w' hSw; try dsimp only at hSw
    have d0 := hSw.cell' (i := 0) rfl
    have d1 := hSw.cell' (i := 1) rfl
    have d2 := hSw.cell' (i := 2) rfl
    have d3 := hSw.cell' (i := 3) rfl
    have d4 := hSw.cell' (i := 4) rfl
    go_simp; try (with_reducible rfl)
  try simp only [Act.put, List.getElem_toArray, List.getElem_cons_succ, List.getElem_cons_zero, List.setIfInBounds_toArray, List.set_cons_zero, List.set_cons_succ]
  refine wpAnyH_take (i := 1) (v := ?_) rfl (by kernel_rfl) (by kernel_rfl) (by kernel_rfl) (fun _ _ _ h => h) (Or.inl ⟨by rfl, ?_⟩) hHeld ?_
  rotate_left
  · intro w' hSw; try dsimp only at hSw
    go_simp; try (with_reducible rfl)
  try simp only [Act.put, List.getElem_toArray, List.getElem_cons_succ, List.getElem_cons_zero, List.setIfInBounds_toArray, List.set_cons_zero, List.set_cons_succ]
  refine wpAnyH_take (i := 2) (v := ?_) rfl (by kernel_rfl) (by kernel_rfl) (by kernel_rfl) (fun _ _ _ h => h) (Or.inl ⟨by rfl, ?_⟩) hHeld ?_
  rotate_left
  · intro w' hSw; try dsimp only at hSw
    have d0 := hSw.cell' (i := 0) rfl
    have d1 := hSw.cell' (i := 1) rfl
    have d2 := hSw.cell' (i := 2) rfl
    have d3 := hSw.cell' (i := 3) rfl
    have d4 := hSw.cell' (i := 4) rfl
    go_simp; try (with_reducible rfl)
  try simp only [Act.put, List.getElem_toArray, List.getElem_cons_succ, List.getElem_cons_zero, List.setIfInBounds_toArray, List.set_cons_zero, List.set_cons_succ]
  refine wpAnyH_take (i := 3) (v := ?_) rfl (by kernel_rfl) (by kernel_rfl) (by kernel_rfl) (fun _ _ _ h => h) (Or.inl ⟨by rfl, ?_⟩) hHeld ?_
  rotate_left
  · intro w' hSw; try dsimp only at hSw
    go_simp; try (with_reducible rfl)
  try simp only [Act.put, List.getElem_toArray, List.getElem_cons_succ, List.getElem_cons_zero, List.setIfInBounds_toArray, List.set_cons_zero, List.set_cons_succ]
  refine wpAnyH_take (i := 4) (v := ?_) rfl (by kernel_rfl) (by kernel_rfl) (by kernel_rfl) (fun _ _ _ h => h) (Or.inl ⟨by rfl, ?_⟩) hHeld ?_
  rotate_left
  · intro w' hSw; try dsimp only at hSw
    have d0 := hSw.cell' (i := 0) rfl
    have d1 := hSw.cell' (i := 1) rfl
    have d2 := hSw.cell' (i := 2) rfl
    have d3 := hSw.cell' (i := 3) rfl
    have d4 := hSw.cell' (i := 4) rfl
    go_simp; try (with_reducible rfl)
  try simp only [Act.put, List.getElem_toArray, List.getElem_cons_succ, List.getElem_cons_zero, List.setIfInBounds_toArray, List.set_cons_zero, List.set_cons_succ]
  refine wpAnyH_take (i := 5) (v := ?_) rfl (by kernel_rfl) (by kernel_rfl) (by kernel_rfl) (fun _ _ _ h => h) (Or.inl ⟨by rfl, ?_⟩) hHeld ?_
  rotate_left
  · intro w' hSw; try dsimp only at hSw
    go_simp; try (with_reducible rfl)
  try simp only [Act.put, List.getElem_toArray, List.getElem_cons_succ, List.getElem_cons_zero, List.setIfInBounds_toArray, List.set_cons_zero, List.set_cons_succ]
  refine wpAnyH_take (i := 6) (v := ?_) rfl (by kernel_rfl) (by kernel_rfl) (by kernel_rfl) (fun _ _ _ h => h) (Or.inl ⟨by rfl, ?_⟩) hHeld ?_
  rotate_left
  · intro w' hSw; try dsimp only at hSw
    go_simp; try (with_reducible rfl)
  try simp only [Act.put, List.getElem_toArray, List.getElem_cons_succ, List.getElem_cons_zero, List.setIfInBounds_toArray, List.set_cons_zero, List.set_cons_succ]
  refine wpAnyH_take (i := 7) (v := ?_) rfl (by kernel_rfl) (by kernel_rfl) (by kernel_rfl) (fun _ _ _ h => h) (Or.inl ⟨by rfl, ?_⟩) hHeld ?_
  rotate_left
  · intro w' hSw; try dsimp only at hSw
    go_simp; try (with_reducible rfl)
  try simp only [Act.put, List.getElem_toArray, List.getElem_cons_succ, List.getElem_cons_zero, List.setIfInBounds_toArray, List.set_cons_zero, List.set_cons_succ]
  refine wpAnyH_ready (rs := [8]) (by kernel_rfl) (by simp) ?_
  refine AllReadyH.cons rfl (fun K hK => ?_) AllReadyH.nil
  rw [if_pos (by rfl)]
  refine wp_store_blk 69 (.tmp 2) (.tmp 12) rfl _ 0 [.int .i64 r1, .int .i64 (r2 - s), .string ⟨r3.toArray⟩, .int .i64 r4, .int .i64 r5] rfl rfl M2.drew (by simp) (by kernel_rfl) (by simp [Value.oneCell']) ?_
  intro w8 h8 t8
  replace h8 : Blk w8 _ 69 [.int .i64 r1, .int .i64 (r2 - s), .string ⟨r3.toArray⟩, .int .i64 r4, .int .i64 r5] := h8
  have M3b := M3.drew.turned t8 (by omega)
  have MBb := t8.below MB.drew (by omega)
  refine hK.out _ _ (hHeld.turned t8 (by omega)) (fun hHeld => ?_)
  clear hK K
  try simp only [Act.put, List.getElem_toArray, List.getElem_cons_succ, List.getElem_cons_zero, List.setIfInBounds_toArray, List.set_cons_zero, List.set_cons_succ]
  refine wpAnyH_ready (rs := [9]) (by kernel_rfl) (by simp) ?_
  refine AllReadyH.cons rfl (fun K hK => ?_) AllReadyH.nil
  rw [if_pos (by rfl)]
  refine wp_store_blk 69 (.tmp 3) (.tmp 19) rfl _ 0 [.int .i64 (r1 + (r2 - s)), .int .i64 s, .string ⟨#[]⟩, .int .i64 0, .int .i64 0] rfl rfl M3b (by simp) (by kernel_rfl) (by simp [Value.oneCell']) ?_
  intro w9 h9 t9
  replace h9 : Blk w9 _ 69 [.int .i64 (r1 + (r2 - s)), .int .i64 s, .string ⟨#[]⟩, .int .i64 0, .int .i64 0] := h9
  have N2 := h8.turned t9 (by omega)
  have N3 := h9
  have NB := t9.below MBb (by omega)
  refine hK.out _ _ (hHeld.turned t9 (by omega)) (fun hHeld => ?_)
  clear hK K
  try simp only [Act.put, List.getElem_toArray, List.getElem_cons_succ, List.getElem_cons_zero, List.setIfInBounds_toArray, List.set_cons_zero, List.set_cons_succ]
  refine wpAnyH_done (by kernel_rfl) ?_ _
  refine NoPanic.normal ?_
  go_wp2
  refine ret_rec2 rfl rfl rfl N2 N3 rfl ?_
  exact ⟨rfl, NB⟩
theorem zerosV_vals (n : Nat) : zerosV n = vals (List.replicate n 0) := by simp [zerosV, vals]
def rcE : Rc := ⟨0, 256, [], 0, 0⟩
def emptyL : List Nat := layR (List.replicate 256 0) rcE
set_option linter.unusedSimpArgs false in
set_option linter.unusedVariables false in
set_option maxRecDepth 100000 in
set_option maxHeartbeats 8000000 in
theorem empty_any (w : World) : Calls Try.prog 18 #[] w fun e w' => ∃ v, e = .returned v ∧ w'.ownsRow w.heap.size 5 1 v 256 (vals emptyL) ∧ Below w.heap.size w w' := by
  obtain ⟨i0, hi, hz0, hz1, hz2⟩ := info_parts info5
  have hlay : ∀ W, W.ownsRow w.heap.size 5 1 (.slice (some ⟨w.heap.size, 0, none⟩) 256 256) 256 (zerosV 256) → Calls Try.prog 40 #[.slice (some ⟨w.heap.size, 0, none⟩) 256 256, .agg #[.int .i64 0, .int .i64 256, .string ⟨#[]⟩, .int .i64 0, .int .i64 0]] W fun e w' => e = .returned (.tuple #[]) ∧ w'.ownsRow w.heap.size 5 1 (.slice (some ⟨w.heap.size, 0, none⟩) 256 256) 256 (vals emptyL) ∧ Keep (fun k => k = w.heap.size) W w' := fun W h => lay_rc w.heap.size w.heap.size 256 rcE (List.replicate 256 0) W (by rw [← zerosV_vals]; exact h) (by refine ⟨?_, ?_, ?_, ?_, ?_, ?_, ?_, ?_⟩ <;> decide)
  go_enter Try.func18, Try.ntmps18
  go_wp2_with (at_make; refine wpList_make_full _ rfl _ _ 22 rfl w.heap.size 5 i0 (.int .u8 0) 1 Try.underlying22 hi hz0 hz1 .i64 .i64 _ _ 256 rfl rfl rfl rfl (by rw [hz2]; omega) (by decide) (Nat.le_refl _) ?_; intro w1 hown1 hgrow1; clear hi hz0 hz1 hz2)
  refine (hlay w1 (owns_of_block (Nat.le_refl _) (zerosV_length 256) (by decide) (made_block hown1))).mono ?_
  rintro e2 w2 ⟨rfl, hown2, hk2⟩
  go_wp2
  go_ret
  exact ⟨_, rfl, hown2, (below_grown0 hgrow1).trans (hk2.below (below_grown0 hgrow1).size (fun k hk => by omega))⟩
end Go.Proofs.Ytikigfjdddgkpaa
