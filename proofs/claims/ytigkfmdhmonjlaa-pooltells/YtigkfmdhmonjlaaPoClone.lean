/-
  What slices.Clone, pool's Clone and the reference's Clone answer.
-/
import Derived.Test.YtigkfmdhmonjlaaPoBlk
namespace Go.Proofs.Ytigkfmdhmonjlaa
open Go.RowKit
theorem info2 : (Try.prog.info? 2).map (fun i => (i.zero, i.size, i.bytes)) = some (some (.int .i64 0), 1, 8) := by kernel_rfl
theorem info3 : (Try.prog.info? 3).map (fun i => (i.zero, i.size, i.bytes)) = some (some (.int .i64 0), 1, 8) := by kernel_rfl
theorem cloneI_any (p : Option Addr) (n c : Nat) (xs : List Int) (w : World) (hx : InI w p n c xs) (hn : n ≤ 1000000000000) :
    Calls Try.prog 57 #[.slice p n c] w fun e w' => ∃ v, e = .returned v ∧ (∃ p' c', v = .slice p' n c') ∧ w'.ownsRow w.heap.size 3 1 v n (valsI xs) ∧ Below w.heap.size w w' := by
  have hroom := hx.room
  have HX : Hid (xs.length = n) := hx.len
  obtain ⟨i0, hi, hz0, hz1, hz2⟩ := info_parts info3
  have hq := fun (w : World) => Lib.run_eql_slice_nil (P := Try.prog) w 22 3 p n c 0 0 Try.underlying22
  cases p with
  | none =>
    have h1 := hx.nil rfl
    have h2 := hx.cap
    have h3 : n = 0 := by omega
    subst h1
    subst h3
    have h4 : xs = [] := List.eq_nil_of_length_eq_zero hx.len
    subst h4
    go_enter Try.func57, Try.ntmps57
    go_wp2
    go_ret
    exact ⟨_, rfl, ⟨_, _, rfl⟩, ⟨rfl, .inl ⟨rfl, rfl⟩⟩, Below.refl _ _⟩
  | some a =>
    have ho := World.ownsRow_lit (e := 3) (size := 1) (base := w.heap.size) w #[] 0 (Nat.le_refl _) (by unfold maxLen; omega) (by simp)
    have HO : Hid ((w.alloc (.cells #[] 3)).ownsRow w.heap.size 3 1 (.slice (some ⟨w.heap.size, 0, none⟩) 0 0) 0 []) := ho
    clear ho
    go_enter Try.func57, Try.ntmps57
    go_wp2_with (at_builtin; refine wpList_append_own _ rfl (.tmp 5) (.tmp 6) 22 rfl w.heap.size 3 i0 (.int .i64 0) 1 8 Try.underlying22 hi hz0 hz1 hz2 rfl (by decide) (.slice (some ⟨w.heap.size, 0, none⟩) 0 0) 0 [] rfl HO.out a n c (valsI xs) rfl (by rw [valsI_length, HX.out, Nat.mul_one]) ((hx.below (below_alloc _ _)).cells rfl) (valsI_one xs) (by unfold maxLen; omega) (by omega) (by simp) ?_; intro v1 w1 hown1 hgrow1 _)
    go_ret
    rw [List.nil_append, Nat.zero_add] at hown1
    obtain ⟨p', c', hv, _⟩ := in_of_ownsI hown1 hroom
    exact ⟨v1, rfl, ⟨p', c', hv⟩, hown1, (below_alloc w _).grown hgrow1 (by simp) (fun k hk => by simp [Value.ownBlock] at hk; omega)⟩
theorem cloneL_any (p : Option Addr) (n c : Nat) (xs : List Int) (w : World) (hx : InI w p n c xs) (hn : n ≤ 1000000000000) :
    Calls Try.prog 58 #[.slice p n c] w fun e w' => ∃ v, e = .returned v ∧ (∃ p' c', v = .slice p' n c') ∧ w'.ownsRow w.heap.size 2 1 v n (valsI xs) ∧ Below w.heap.size w w' := by
  have hroom := hx.room
  have HX : Hid (xs.length = n) := hx.len
  obtain ⟨i0, hi, hz0, hz1, hz2⟩ := info_parts info2
  have hq := fun (w : World) => Lib.run_eql_slice_nil (P := Try.prog) w 23 2 p n c 0 0 Try.underlying23
  cases p with
  | none =>
    have h1 := hx.nil rfl
    have h2 := hx.cap
    have h3 : n = 0 := by omega
    subst h1
    subst h3
    have h4 : xs = [] := List.eq_nil_of_length_eq_zero hx.len
    subst h4
    go_enter Try.func58, Try.ntmps58
    go_wp2
    go_ret
    exact ⟨_, rfl, ⟨_, _, rfl⟩, ⟨rfl, .inl ⟨rfl, rfl⟩⟩, Below.refl _ _⟩
  | some a =>
    have ho := World.ownsRow_lit (e := 2) (size := 1) (base := w.heap.size) w #[] 0 (Nat.le_refl _) (by unfold maxLen; omega) (by simp)
    have HO : Hid ((w.alloc (.cells #[] 2)).ownsRow w.heap.size 2 1 (.slice (some ⟨w.heap.size, 0, none⟩) 0 0) 0 []) := ho
    clear ho
    go_enter Try.func58, Try.ntmps58
    go_wp2_with (at_builtin; refine wpList_append_own _ rfl (.tmp 5) (.tmp 6) 23 rfl w.heap.size 2 i0 (.int .i64 0) 1 8 Try.underlying23 hi hz0 hz1 hz2 rfl (by decide) (.slice (some ⟨w.heap.size, 0, none⟩) 0 0) 0 [] rfl HO.out a n c (valsI xs) rfl (by rw [valsI_length, HX.out, Nat.mul_one]) ((hx.below (below_alloc _ _)).cells rfl) (valsI_one xs) (by unfold maxLen; omega) (by omega) (by simp) ?_; intro v1 w1 hown1 hgrow1 _)
    go_ret
    rw [List.nil_append, Nat.zero_add] at hown1
    obtain ⟨p', c', hv, _⟩ := in_of_ownsI hown1 hroom
    exact ⟨v1, rfl, ⟨p', c', hv⟩, hown1, (below_alloc w _).grown hgrow1 (by simp) (fun k hk => by simp [Value.ownBlock] at hk; omega)⟩
theorem owns_mono {w : World} {A B : Nat} {e : TypeId} {s : Nat} {v : Value} {n : Nat} {xs : List Value} (h : w.ownsRow B e s v n xs) (hb : A ≤ B) : w.ownsRow A e s v n xs := by
  refine ⟨h.1, ?_⟩
  rcases h.2 with h' | ⟨g, cap, cur, rfl, hg, hr⟩
  · exact .inl h'
  · exact .inr ⟨g, cap, cur, rfl, Nat.le_trans hb hg, hr⟩
/-- A pool in new memory. -/
structure NewP (B : Nat) (w : World) (p : Option Addr) (n c : Nat) (q : Option Addr) (m d : Nat) (R W : List Int) : Prop where
  r : w.ownsRow B 3 1 (.slice p n c) n (valsI R)
  v : w.ownsRow B 2 1 (.slice q m d) m (valsI W)
  hn : n ≤ 140737488355328
  hm : m ≤ 140737488355328
  ne : ∀ a b, p = some a → q = some b → a.block ≠ b.block
theorem NewP.next {B : Nat} {w w' : World} {p q : Option Addr} {n c m d : Nat} {R W : List Int} (h : NewP B w p n c q m d R W) (hb : Below w.heap.size w w') : NewP B w' p n c q m d R W :=
  ⟨owns_below h.r hb, owns_below h.v hb, h.hn, h.hm, h.ne⟩
theorem NewP.low {A B : Nat} {w : World} {p q : Option Addr} {n c m d : Nat} {R W : List Int} (h : NewP B w p n c q m d R W) (hb : A ≤ B) : NewP A w p n c q m d R W :=
  ⟨owns_mono h.r hb, owns_mono h.v hb, h.hn, h.hm, h.ne⟩
theorem NewP.inR {B : Nat} {w : World} {p q : Option Addr} {n c m d : Nat} {R W : List Int} (h : NewP B w p n c q m d R W) : InI w p n c R := by
  obtain ⟨p', c', hv, hin⟩ := in_of_ownsI h.r h.hn
  cases hv; exact hin
theorem NewP.inW {B : Nat} {w : World} {p q : Option Addr} {n c m d : Nat} {R W : List Int} (h : NewP B w p n c q m d R W) : InI w q m d W := by
  obtain ⟨p', c', hv, hin⟩ := in_of_ownsI h.v h.hm
  cases hv; exact hin
theorem NewP.zero (B : Nat) (w : World) : NewP B w none 0 0 none 0 0 [] [] :=
  ⟨⟨rfl, .inl ⟨rfl, rfl⟩⟩, ⟨rfl, .inl ⟨rfl, rfl⟩⟩, by omega, by omega, fun _ _ h => by cases h⟩
/-- What two calls made one behind the other lies apart. -/
theorem owns_apart {B e e' n m : Nat} {w w' : World} {p q : Option Addr} {c d : Nat} {xs ys : List Value} (h : w.ownsRow B e 1 (.slice p n c) n xs) (h' : w'.ownsRow w.heap.size e' 1 (.slice q m d) m ys) : ∀ a b, p = some a → q = some b → a.block ≠ b.block := by
  intro a b ha hb
  subst ha hb
  have h1 := (h.lt a.block rfl).2
  have h2 := (h'.lt b.block rfl).1
  omega
/-- A block that neither row of a pool lies in. -/
def FarP (g : Nat) (p q : Option Addr) : Prop := (∀ a, p = some a → a.block ≠ g) ∧ (∀ a, q = some a → a.block ≠ g)
theorem far_of {g B B' e e' n m c d : Nat} {w w' : World} {p q : Option Addr} {xs ys : List Value} (h : w.ownsRow B e 1 (.slice p n c) n xs) (h' : w'.ownsRow B' e' 1 (.slice q m d) m ys) (hB : g < B) (hB' : g < B') : FarP g p q := by
  refine ⟨fun a ha => ?_, fun a ha => ?_⟩
  · subst ha; have := (h.lt a.block rfl).1; omega
  · subst ha; have := (h'.lt a.block rfl).1; omega
theorem owns_turned {w w' : World} {B g : Nat} {e : TypeId} {s : Nat} {p : Option Addr} {n c : Nat} {xs : List Value} (h : w.ownsRow B e s (.slice p n c) n xs) (ht : Turned w w' g) (hne : ∀ a, p = some a → a.block ≠ g) : w'.ownsRow B e s (.slice p n c) n xs := by
  refine ⟨h.1, ?_⟩
  rcases h.2 with h' | ⟨k, cap, cur, hv, hg, hh, hr⟩
  · exact .inl h'
  · refine .inr ⟨k, cap, cur, hv, hg, ?_, hr⟩
    simp only [Value.slice.injEq] at hv
    rw [ht.block k (hne _ hv.1)]; exact hh
theorem NewP.turned {B g : Nat} {w w' : World} {p q : Option Addr} {n c m d : Nat} {R W : List Int} (h : NewP B w p n c q m d R W) (ht : Turned w w' g) (hf : FarP g p q) : NewP B w' p n c q m d R W :=
  ⟨owns_turned h.r ht hf.1, owns_turned h.v ht hf.2, h.hn, h.hm, h.ne⟩
set_option linter.unusedSimpArgs false in
set_option maxHeartbeats 1000000 in
theorem clone_any (p q : Option Addr) (n c m d : Nat) (R W : List Int) (w : World) (hR : InI w p n c R) (hW : InI w q m d W) (hn : n ≤ 1000000000000) (hm : m ≤ 1000000000000) :
    Calls Try.prog 39 #[.agg #[.slice p n c, .slice q m d]] w fun e w' => ∃ p' c' q' d', e = .returned (.agg #[.slice p' n c', .slice q' m d']) ∧ NewP w.heap.size w' p' n c' q' m d' R W ∧ Below w.heap.size w w' := by
  go_enter Try.func39, Try.ntmps39
  go_wp2_with fail
  refine wp_region_noPanic ?_
  refine wp_region_held_drew (S := PS w (.slice p n c) (.slice q m d)) (by kernel_rfl) (PS.start w _ _ _ _).drew (fun hHeld => ?_)
  refine wpAnyH_take (i := 0) (v := ?_) rfl (by kernel_rfl) (by kernel_rfl) (by kernel_rfl) (fun _ _ _ h => h) (Or.inl ⟨by rfl, ?_⟩) hHeld ?_
  rotate_left
  · intro w' hSw; try dsimp only at hSw
    go_simp; try (with_reducible rfl)
  try simp only [Act.put, List.getElem_toArray, List.getElem_cons_succ, List.getElem_cons_zero, List.setIfInBounds_toArray, List.set_cons_zero, List.set_cons_succ]
  refine wpAnyH_take (i := 1) (v := ?_) rfl (by kernel_rfl) (by kernel_rfl) (by kernel_rfl) (fun _ _ _ h => h) (Or.inl ⟨by rfl, ?_⟩) hHeld ?_
  rotate_left
  · intro w' hSw; try dsimp only at hSw
    have c0 := hSw.box.cell' (i := 0) rfl
    have c1 := hSw.box.cell' (i := 1) rfl
    go_simp; try (with_reducible rfl)
  try simp only [Act.put, List.getElem_toArray, List.getElem_cons_succ, List.getElem_cons_zero, List.setIfInBounds_toArray, List.set_cons_zero, List.set_cons_succ]
  refine wpAnyH_take (i := 3) (v := ?_) rfl (by kernel_rfl) (by kernel_rfl) (by kernel_rfl) (fun _ _ _ h => h) (Or.inl ⟨by rfl, ?_⟩) hHeld ?_
  rotate_left
  · intro w' hSw; try dsimp only at hSw
    go_simp; try (with_reducible rfl)
  try simp only [Act.put, List.getElem_toArray, List.getElem_cons_succ, List.getElem_cons_zero, List.setIfInBounds_toArray, List.set_cons_zero, List.set_cons_succ]
  refine wpAnyH_take (i := 4) (v := ?_) rfl (by kernel_rfl) (by kernel_rfl) (by kernel_rfl) (fun _ _ _ h => h) (Or.inl ⟨by rfl, ?_⟩) hHeld ?_
  rotate_left
  · intro w' hSw; try dsimp only at hSw
    have c0 := hSw.box.cell' (i := 0) rfl
    have c1 := hSw.box.cell' (i := 1) rfl
    go_simp; try (with_reducible rfl)
  try simp only [Act.put, List.getElem_toArray, List.getElem_cons_succ, List.getElem_cons_zero, List.setIfInBounds_toArray, List.set_cons_zero, List.set_cons_succ]
  obtain ⟨x0, y0, hres0⟩ := hHeld.res
  have hlt0 := hres0.lt
  have hsz0 := hHeld.bel.size
  refine wpAnyH_ready (rs := [2]) (by kernel_rfl) (by simp) ?_
  refine AllReadyH.cons rfl (fun K hK => ?_) AllReadyH.nil
  go_simp
  refine (cloneI_any p n c R _ (hR.below hHeld.bel) hn).mono ?_
  rintro e w1 ⟨v1, rfl, ⟨p1, c1, rfl⟩, ho1, hb1⟩
  try go_wp2_with fail
  refine hK.out _ _ (hHeld.next hb1) (fun hHeld => ?_)
  clear hK K
  try simp only [Act.put, List.getElem_toArray, List.getElem_cons_succ, List.getElem_cons_zero, List.setIfInBounds_toArray, List.set_cons_zero, List.set_cons_succ]
  refine wpAnyH_ready (rs := [5]) (by kernel_rfl) (by simp) ?_
  refine AllReadyH.cons rfl (fun K hK => ?_) AllReadyH.nil
  go_simp
  refine (cloneL_any q m d W _ (hW.below hHeld.bel) hm).mono ?_
  rintro e w2 ⟨v2, rfl, ⟨q1, d1, rfl⟩, ho2, hb2⟩
  try go_wp2_with fail
  refine hK.out _ _ (hHeld.next hb2) (fun hHeld => ?_)
  clear hK K
  try simp only [Act.put, List.getElem_toArray, List.getElem_cons_succ, List.getElem_cons_zero, List.setIfInBounds_toArray, List.set_cons_zero, List.set_cons_succ]
  have hfar : FarP (w.heap.size + 1) p1 q1 := far_of ho1 ho2 hlt0 (by have := hb1.size; omega)
  have hnp : NewP w.heap.size w2 p1 n c1 q1 m d1 R W := ⟨owns_mono (owns_below ho1 hb2) hsz0, owns_mono ho2 (Nat.le_trans hsz0 hb1.size), hR.room, hW.room, owns_apart ho1 ho2⟩
  have HS := hHeld
  refine wpAnyH_take (i := 6) (v := ?_) rfl (by kernel_rfl) (by kernel_rfl) (by kernel_rfl) (fun _ _ _ h => h) (Or.inl ⟨by rfl, ?_⟩) hHeld ?_
  rotate_left
  · intro w' hSw; try dsimp only at hSw
    go_simp; try (with_reducible rfl)
  try simp only [Act.put, List.getElem_toArray, List.getElem_cons_succ, List.getElem_cons_zero, List.setIfInBounds_toArray, List.set_cons_zero, List.set_cons_succ]
  obtain ⟨x, y, hres⟩ := hHeld.res
  have hlt := hres.lt
  refine wpAnyH_ready (rs := [7]) (by kernel_rfl) (by simp) ?_
  refine AllReadyH.cons rfl (fun K hK => ?_) AllReadyH.nil
  rw [if_pos (by rfl)]
  refine wp_store_blk 25 (.tmp 2) _ rfl _ _ [.slice p1 n c1, .slice q1 m d1] rfl rfl hres (by simp) (poolSize _ _) one2 ?_
  intro w9 h9 ht9
  replace h9 : Blk w9 (w.heap.size + 1) 25 [.slice p1 n c1, .slice q1 m d1] := h9
  refine hK.out _ _ (hHeld.stored ht9 h9) (fun hHeld => ?_)
  clear hK K
  try simp only [Act.put, List.getElem_toArray, List.getElem_cons_succ, List.getElem_cons_zero, List.setIfInBounds_toArray, List.set_cons_zero, List.set_cons_succ]
  refine wpAnyH_done (by kernel_rfl) ?_ _
  refine NoPanic.normal ?_
  go_wp2_with fail
  exact ret_pool Try.results39 rfl h9 rfl ⟨p1, c1, q1, d1, rfl, hnp.turned ht9 hfar, hHeld.bel⟩
end Go.Proofs.Ytigkfmdhmonjlaa
