/-
  What inode.read answers.
-/
import Derived.Test.YtgeomfgfeemciaaInJ
import Derived.Test.YtgeomfgfeemciaaInSl
import Derived.Lib.MinMax
namespace Go.Proofs.Ytgeomfgfeemciaa
open Go.RowKit
theorem unpack_take {ws : List Int} {xs : List Nat} (h : widthOk ws = true) (h8 : atW ws ws.length = 8 * bytesW ws) (hl : bytesW ws ≤ xs.length) : unpackL ws (xs.take (bytesW ws)) = valsTo ws (xs.take (bytesW ws)) ws.length := by
  have e : unpackE ws (xs.take (bytesW ws)) = 0 := by
    unfold unpackE
    rw [if_neg (by rw [h]; decide), if_neg (by rw [List.length_take]; omega), if_neg]
    unfold tailN
    rw [h8, Nat.sub_self]
    intro h; exact h rfl
  unfold unpackL
  rw [if_pos e]
theorem fI_vals {xs : List Nat} (h : 60 ≤ xs.length) : (unpackL wsI (xs.take 60)).length = 20 ∧ ∀ i, i < 20 → el (unpackL wsI (xs.take 60)) i = (fI xs i : Int) := by
  have := unpack_take (xs := xs) wsI_ok (by decide +kernel) (by rw [wsI_bytes]; exact h)
  rw [wsI_bytes] at this
  rw [this]
  refine ⟨by rw [valsTo_length]; rfl, fun i hi => ?_⟩
  unfold el
  rw [valsTo_getD wsI _ i (by rw [wsI_len]; exact hi)]
  rfl
theorem fI_lt (xs : List Nat) : fI xs 0 < 256 ∧ fI xs 1 < 256 ∧ fI xs 2 < 256 ∧ fI xs 4 < 4294967296 ∧ fI xs 5 < 18446744073709551616 ∧ fI xs 6 < 4294967296 ∧ fI xs 7 < 4294967296 :=
  ⟨getN_lt _ _ 8, getN_lt _ _ 8, getN_lt _ _ 8, getN_lt _ _ 32, getN_lt _ _ 64, getN_lt _ _ 32, getN_lt _ _ 32⟩
theorem fI_lt3 (xs : List Nat) (k : Nat) (h : k < 4) : fI xs (8 + 3 * k) < 16777216 ∧ fI xs (9 + 3 * k) < 65536 ∧ fI xs (10 + 3 * k) < 4294967296 := by
  match k, h with
  | 0, _ => exact ⟨getN_lt _ _ 24, getN_lt _ _ 16, getN_lt _ _ 32⟩
  | 1, _ => exact ⟨getN_lt _ _ 24, getN_lt _ _ 16, getN_lt _ _ 32⟩
  | 2, _ => exact ⟨getN_lt _ _ 24, getN_lt _ _ 16, getN_lt _ _ 32⟩
  | 3, _ => exact ⟨getN_lt _ _ 24, getN_lt _ _ 16, getN_lt _ _ 32⟩
def rtL (xs : List Nat) (n : Nat) : List Ext := (List.range n).map (rdE xs)
theorem rtL_len (xs : List Nat) (n : Nat) : (rtL xs n).length = n := by simp [rtL]
theorem rtL_succ (xs : List Nat) (n : Nat) : rtL xs (n + 1) = rtL xs n ++ [rdE xs n] := by simp [rtL, List.range_succ]
/-- slices.Slice of uint64s from a place on. -/
theorem slice_back64 (b o n c k : Nat) (h : k < n) (hc : n ≤ c) (W : World) :
    (Instr.slice 59 (.slice (some ⟨b, o, none⟩) n c) (some (.int .u64 (k : Int))) none none).run Try.prog W = .ok (.slice (some ⟨b, o + k, none⟩) (n - k) (c - k)) W := by
  have h1 : ¬ c = k := by omega
  simp [Instr.slice, Instr.sliceBounds, Instr.sliceBound, run_underlying Try.underlying59, asIntOf, h1, addr_add]
  intro h3; omega
theorem wp_append_ext {o : Oper} {a : Act} {K : Act → World → Prop} {Q : Exit → Act → World → Prop} (s x : Operand)
    (ho : o.op = .call { callee := .builtin .append, args := #[s, x], argTypes := #[22, 22] }) (B : Nat) (v : Value) (n : Nat) (l : List Ext) (r : Ext) (W : World) (gl : Nat) (hs : a.eval s = v) (hown : W.ownsRow B 51 3 v n (flatE l))
    (hx : a.eval x = .slice (some ⟨gl, 0, none⟩) 1 1) (hlit : Blk W gl 51 r.cells) (hlen : n ≤ 1000000) (hB : B ≤ W.heap.size)
    (hK : ∀ p' c' w', w'.ownsRow B 51 3 (.slice p' (n + 1) c') (n + 1) (flatE (l ++ [r])) → W.grownBy w' v.ownBlock → Below B W w' → K (a.put o.dst (.slice p' (n + 1) c')) w') : o.wp Try.prog a W K Q := by
  obtain ⟨i0, hi, hz0, hz1, hz2⟩ := info_parts infoE
  refine wp_append_own _ s x 22 ho B 51 i0 (.agg #[.int .i64 0, .int .i64 0, .int .i64 0]) 3 24 Try.underlying22 hi hz0 hz1 hz2 rfl (by decide) v n (flatE l) hs hown ⟨gl, 0, none⟩ 1 1 r.cells hx rfl (fun j u hj => ?_) ?_ (by unfold maxLen; omega) (by omega) hB ?_
  · rw [addr_add, Nat.zero_add]; exact hlit.cell' hj
  · simp [Ext.cells, Value.oneCell']
  · intro v1 w1 hown1 hgrow1 _
    have e : flatE l ++ r.cells = flatE (l ++ [r]) := by rw [flatE_append]; simp [flatE]
    rw [e] at hown1
    obtain ⟨p', c', hv⟩ := owns_slice hown1
    subst hv
    exact hK p' c' w1 hown1 hgrow1 ((Below.refl _ _).grown hgrow1 hB (fun k hk => (hown.lt k hk).1))
theorem owns_turnedE {w w' : World} {B g : Nat} {e : TypeId} {z : Nat} {v : Value} {n : Nat} {xs : List Value} (h : w.ownsRow B e z v n xs) (ht : Turned w w' g) (hg : g < B) : w'.ownsRow B e z v n xs := by
  refine ⟨h.1, ?_⟩
  rcases h.2 with h' | ⟨k, cap, cur, rfl, hk, hh, hr⟩
  · exact .inl h'
  · exact .inr ⟨k, cap, cur, rfl, hk, (ht.block k (by omega)).trans hh, hr⟩
theorem size_exts : (Try.prog.info? 22).map (·.size) = some 1 := by kernel_rfl
def Cs (b o : Nat) (xs : List Nat) (X : World) : Prop := b < X.heap.size ∧ ∀ i, i < 20 → X.cell? ⟨b, o + i, none⟩ = some (.int .u64 (fI xs i : Int))
theorem Cs.below {b o : Nat} {xs : List Nat} {X Y : World} (h : Cs b o xs X) (hb : Below X.heap.size X Y) : Cs b o xs Y :=
  ⟨Nat.lt_of_lt_of_le h.1 hb.size, fun i hi => (hb.cell (p := ⟨b, o + i, none⟩) h.1).trans (h.2 i hi)⟩
theorem Cs.low {b o B : Nat} {xs : List Nat} {X Y : World} (h : Cs b o xs X) (hb : Below B X Y) (hB : b < B) : Cs b o xs Y :=
  ⟨Nat.lt_of_lt_of_le h.1 hb.size, fun i hi => (hb.cell (p := ⟨b, o + i, none⟩) hB).trans (h.2 i hi)⟩
theorem Cs.turned {b o g : Nat} {xs : List Nat} {X Y : World} (h : Cs b o xs X) (ht : Turned X Y g) (hne : b ≠ g) : Cs b o xs Y :=
  ⟨by rw [ht.size]; exact h.1, fun i hi => (World.cell?_of_block (a := ⟨b, o + i, none⟩) (ht.block b hne)).trans (h.2 i hi)⟩
set_option linter.unusedSimpArgs false in
set_option linter.unusedVariables false in
set_option maxRecDepth 100000 in
set_option maxHeartbeats 8000000 in
theorem read_any (p : Option Addr) (c : Nat) (xs : List Nat) (w : World) (hx : In w p 64 c xs) : Calls Try.prog 34 #[.slice p 64 c] w fun e w' => ∃ p' n' c', e = .returned ((rdI xs).val p' n' c') ∧ InE w' p' n' c' (rdI xs).rt ∧ Below w.heap.size w w' ∧ ∀ a, p' = some a → w.heap.size ≤ a.block := by
  have hcap := hx.cap
  have HX : Hid (xs.length = 64) := hx.len
  have hlt := fI_lt xs
  obtain ⟨hvl, hvs⟩ := fI_vals (xs := xs) (by rw [HX.out]; decide)
  have HVL : Hid _ := hvl
  have HVS : Hid _ := hvs
  have HL3 : Hid _ := fI_lt3 xs
  have HRT : Hid _ := rtL_succ xs
  have HRE : ∀ k, rdE xs k = ⟨(fI xs (8 + 3 * k) : Int), (fI xs (9 + 3 * k) : Int), (fI xs (10 + 3 * k) : Int)⟩ := fun k => rfl
  have HRE : Hid _ := HRE
  clear hvl hvs
  have hb0 := below_alloc w (.cells #[.int .i64 0, .int .i64 0, .int .i64 0, .int .i64 0, .int .i64 0, .int .i64 0, .slice none 0 0] 24)
  have r0 := Blk.new' w 24 #[.int .i64 0, .int .i64 0, .int .i64 0, .int .i64 0, .int .i64 0, .int .i64 0, .slice none 0 0]
  have hG0 : Hid (w.heap.size ≤ w.heap.size) := Nat.le_refl _
  go_enter Try.func34, Try.ntmps34
  go_wp2_with fail
  refine (widths_any _).mono ?_
  rintro e w1 ⟨rfl, hb1⟩
  have r1 := r0.kept hb1
  have hB1 := bt hb0 hb1
  clear hb0 hb1 r0
  generalize hG : w.heap.size = G at r1
  have r3 := Blk.new' w1 52 #[.int .i64 0, .int .i64 0, .int .i64 0, .int .i64 0, .int .i64 0, .int .i64 0, .int .i64 0, .int .i64 0, .int .i64 0, .int .i64 0, .int .i64 0, .int .i64 0, .int .i64 0, .int .i64 0, .int .i64 0, .int .i64 0, .int .i64 0, .int .i64 0, .int .i64 0, .int .i64 0]
  have hb3 := below_alloc w1 (.cells #[.int .i64 0, .int .i64 0, .int .i64 0, .int .i64 0, .int .i64 0, .int .i64 0, .int .i64 0, .int .i64 0, .int .i64 0, .int .i64 0, .int .i64 0, .int .i64 0, .int .i64 0, .int .i64 0, .int .i64 0, .int .i64 0, .int .i64 0, .int .i64 0, .int .i64 0, .int .i64 0] 52)
  have hlG := r1.lt
  go_upto_region 2 with (guard_target = wpList _ _ _ (Oper.mk _ (Op.store 52 _ _) _ _ _ _ :: _) _ _; refine wpList_store_blk rfl 52 (.tmp 3) (.tmp 11) rfl _ 0 (wsI.map (Value.int .i64)) rfl rfl r3 (by simp [wsI_len]) (size_arrI (by rw [List.length_map, wsI_len])) oneWs ?_; intro W3 b3 t3)
  rw [whole_row (by rw [List.length_map, wsI_len]; rfl)] at b3
  have rG := (r1.kept hb3).turned t3 (Nat.ne_of_lt hlG)
  have hB3 := t3.below (bt hB1 hb3) hB1.size
  have hg3 := hlG
  clear r3 hb3 t3 r1 hlG
  generalize w1.heap.size = g3 at *
  go_wp2_with fail
  refine (width_ok (some ⟨g3, 0, none⟩) 20 20 wsI _ (inI_blk b3 wsI_len (by decide)) wsI_ok).mono ?_
  rintro e w' ⟨rfl, hw'⟩
  have hw2 := hw'.symm
  subst hw2
  clear hw'
  rw [wsI_bytes]
  go_upto_region 3 with fail
  refine wp_region_noPanic ?_
  refine wp_region_held_drew (S := (fun Y => Below W3.heap.size W3 Y)) (by kernel_rfl) (Below.refl _ _).drew (fun hHeld => ?_)
  refine wpAnyH_take (i := 0) (v := ?_) rfl (by kernel_rfl) (by kernel_rfl) (by kernel_rfl) (fun _ _ _ h => h) (Or.inl ⟨by rfl, ?_⟩) hHeld ?_
  rotate_left
  · intro w' hSw; try dsimp only at hSw
    go_simp; try (with_reducible rfl)
  try simp only [Act.put, List.getElem_toArray, List.getElem_cons_succ, List.getElem_cons_zero, List.setIfInBounds_toArray, List.set_cons_zero, List.set_cons_succ]
  refine wpAnyH_take (i := 1) (v := ?_) rfl (by kernel_rfl) (by kernel_rfl) (by kernel_rfl) (fun _ _ _ h => h) (Or.inl ⟨by rfl, ?_⟩) hHeld ?_
  rotate_left
  · intro w' hSw; try dsimp only at hSw
    go_simp; try (with_reducible rfl)
  try simp only [Act.put, List.getElem_toArray, List.getElem_cons_succ, List.getElem_cons_zero, List.setIfInBounds_toArray, List.set_cons_zero, List.set_cons_succ]
  refine wpAnyH_take (i := 2) (v := ?_) rfl (by kernel_rfl) (by kernel_rfl) (by kernel_rfl) (fun _ _ _ h => h) (Or.inl ⟨by rfl, ?_⟩) hHeld ?_
  rotate_left
  · intro w' hSw; try dsimp only at hSw
    go_simp; try (with_reducible rfl)
  try simp only [Act.put, List.getElem_toArray, List.getElem_cons_succ, List.getElem_cons_zero, List.setIfInBounds_toArray, List.set_cons_zero, List.set_cons_succ]
  refine wpAnyH_take (i := 3) (v := ?_) rfl (by kernel_rfl) (by kernel_rfl) (by kernel_rfl) (fun _ _ _ h => h) (Or.inl ⟨by rfl, ?_⟩) hHeld ?_
  rotate_left
  · intro w' hSw; try dsimp only at hSw
    have hsl : (Instr.slice 25 (.slice p 64 c) none (some (.int .i64 60)) none).run Try.prog w' = .ok (.slice p 60 c) w' := slice_front p 64 c 60 (by omega) hcap w'
    go_simp; try (with_reducible rfl)
  try simp only [Act.put, List.getElem_toArray, List.getElem_cons_succ, List.getElem_cons_zero, List.setIfInBounds_toArray, List.set_cons_zero, List.set_cons_succ]
  refine wpAnyH_ready (rs := [4]) (by kernel_rfl) (by simp) ?_
  refine AllReadyH.cons rfl (fun K hK => ?_) AllReadyH.nil
  go_simp
  refine (unpack_any (some ⟨g3, 0, none⟩) p 20 20 60 c wsI (xs.take 60) _ ((inI_blk b3 wsI_len (by decide)).below hHeld) ((hx.below hB3).front 60 (by omega) |>.below hHeld)).mono ?_
  rintro e w7 ⟨p7, n7, c7, rfl, hin7, hb7⟩
  have hB7 := bt hHeld hb7
  refine hK.out _ _ hB7 (fun hHeld => ?_)
  clear hK K
  try simp only [Act.put, List.getElem_toArray, List.getElem_cons_succ, List.getElem_cons_zero, List.setIfInBounds_toArray, List.set_cons_zero, List.set_cons_succ]
  refine wpAnyH_take (i := 5) (v := ?_) rfl (by kernel_rfl) (by kernel_rfl) (by kernel_rfl) (fun _ _ _ h => h) (Or.inl ⟨by rfl, ?_⟩) hHeld ?_
  rotate_left
  · intro w' hSw; try dsimp only at hSw
    go_simp; try (with_reducible rfl)
  try simp only [Act.put, List.getElem_toArray, List.getElem_cons_succ, List.getElem_cons_zero, List.setIfInBounds_toArray, List.set_cons_zero, List.set_cons_succ]
  refine wpAnyH_take (i := 6) (v := ?_) rfl (by kernel_rfl) (by kernel_rfl) (by kernel_rfl) (fun _ _ _ h => h) (Or.inl ⟨by rfl, ?_⟩) hHeld ?_
  rotate_left
  · intro w' hSw; try dsimp only at hSw
    go_simp; try (with_reducible rfl)
  try simp only [Act.put, List.getElem_toArray, List.getElem_cons_succ, List.getElem_cons_zero, List.setIfInBounds_toArray, List.set_cons_zero, List.set_cons_succ]
  refine wpAnyH_take (i := 7) (v := ?_) rfl (by kernel_rfl) (by kernel_rfl) (by kernel_rfl) (fun _ _ _ h => h) (Or.inl ⟨by rfl, ?_⟩) hHeld ?_
  rotate_left
  · intro w' hSw; try dsimp only at hSw
    go_simp; try (with_reducible rfl)
  try simp only [Act.put, List.getElem_toArray, List.getElem_cons_succ, List.getElem_cons_zero, List.setIfInBounds_toArray, List.set_cons_zero, List.set_cons_succ]
  refine wpAnyH_take (i := 8) (v := ?_) rfl (by kernel_rfl) (by kernel_rfl) (by kernel_rfl) (fun _ _ _ h => h) (Or.inl ⟨by rfl, ?_⟩) hHeld ?_
  rotate_left
  · intro w' hSw; try dsimp only at hSw
    go_simp; try (with_reducible rfl)
  try simp only [Act.put, List.getElem_toArray, List.getElem_cons_succ, List.getElem_cons_zero, List.setIfInBounds_toArray, List.set_cons_zero, List.set_cons_succ]
  refine wpAnyH_take (i := 9) (v := ?_) rfl (by kernel_rfl) (by kernel_rfl) (by kernel_rfl) (fun _ _ _ h => h) (Or.inl ⟨by rfl, ?_⟩) hHeld ?_
  rotate_left
  · intro w' hSw; try dsimp only at hSw
    go_simp; try (with_reducible rfl)
  try simp only [Act.put, List.getElem_toArray, List.getElem_cons_succ, List.getElem_cons_zero, List.setIfInBounds_toArray, List.set_cons_zero, List.set_cons_succ]
  refine wpAnyH_done (by kernel_rfl) ?_ _
  refine NoPanic.normal ?_
  have hn7 := hin7.len
  rw [HVL.out] at hn7
  subst hn7
  obtain ⟨b5, o5, rfl, hb5, hc5⟩ := hin7.at' (by decide)
  have hcs : Cs b5 o5 xs w7 := ⟨hb5, fun i hi => by rw [hc5 i hi, HVS.out i hi]⟩
  have hcap7 := hin7.cap
  have hz7 := rG.kept hB7
  have hB7 := bt hB3 hB7
  clear hin7 hc5 hb7 rG b3 hg3 hB3
  obtain ⟨hf0, hf1, hf2, hf4, hf5, hf6, hf7⟩ := hlt
  have HRD : Hid (rdI xs = ⟨(fI xs 0 : Int), (fI xs 4 : Int), IntKind.i64.wrap (fI xs 5 : Int), (fI xs 6 : Int), (fI xs 7 : Int), (fI xs 1 : Int), rtL xs (min (fI xs 2) 4)⟩) := rfl
  have hq2 : ∀ X, Cs b5 o5 xs X → X.cell? ⟨b5, o5 + 2, none⟩ = some (.int .u64 (fI xs 2 : Int)) := fun X h => h.2 2 (by decide)
  have hqs : ∀ X, Cs b5 o5 xs X → X.cell? ⟨b5, o5, none⟩ = some (.int .u64 (fI xs 0 : Int)) ∧ X.cell? ⟨b5, o5 + 1, none⟩ = some (.int .u64 (fI xs 1 : Int)) ∧ X.cell? ⟨b5, o5 + 4, none⟩ = some (.int .u64 (fI xs 4 : Int)) ∧ X.cell? ⟨b5, o5 + 5, none⟩ = some (.int .u64 (fI xs 5 : Int)) ∧ X.cell? ⟨b5, o5 + 6, none⟩ = some (.int .u64 (fI xs 6 : Int)) ∧ X.cell? ⟨b5, o5 + 7, none⟩ = some (.int .u64 (fI xs 7 : Int)) := fun X h => ⟨h.2 0 (by decide), h.2 1 (by decide), h.2 4 (by decide), h.2 5 (by decide), h.2 6 (by decide), h.2 7 (by decide)⟩
  generalize fI xs 0 = f0 at *
  generalize fI xs 1 = f1 at *
  generalize fI xs 2 = f2 at *
  generalize fI xs 4 = f4 at *
  generalize fI xs 5 = f5 at *
  generalize fI xs 6 = f6 at *
  generalize fI xs 7 = f7 at *
  have hv0 : IntKind.i64.wrap (f0 : Int) = (f0 : Int) := wrapI _ (by omega)
  have hv1 : IntKind.i64.wrap (f1 : Int) = (f1 : Int) := wrapI _ (by omega)
  have hv4 : IntKind.i64.wrap (f4 : Int) = (f4 : Int) := wrapI _ (by omega)
  obtain ⟨z5, hv5⟩ : ∃ z, IntKind.i64.wrap (f5 : Int) = z := ⟨_, rfl⟩
  rw [hv5] at HRD
  have hv6 : IntKind.i64.wrap (f6 : Int) = (f6 : Int) := wrapI _ (by omega)
  have hv7 : IntKind.i64.wrap (f7 : Int) = (f7 : Int) := wrapI _ (by omega)
  go_upto_region 4 with fail
  refine wp_region_noPanic ?_
  refine wp_region_held_drew (S := (Cs b5 o5 xs)) (by kernel_rfl) (hcs.below (Below.refl _ _).drew) (fun hHeld => ?_)
  refine wpAnyH_take (i := 0) (v := ?_) rfl (by kernel_rfl) (by kernel_rfl) (by kernel_rfl) (fun _ _ _ h => h) (Or.inl ⟨by rfl, ?_⟩) hHeld ?_
  rotate_left
  · intro w' hSw; try dsimp only at hSw
    go_simp; try (with_reducible rfl)
  try simp only [Act.put, List.getElem_toArray, List.getElem_cons_succ, List.getElem_cons_zero, List.setIfInBounds_toArray, List.set_cons_zero, List.set_cons_succ]
  refine wpAnyH_take (i := 1) (v := ?_) rfl (by kernel_rfl) (by kernel_rfl) (by kernel_rfl) (fun _ _ _ h => h) (Or.inl ⟨by rfl, ?_⟩) hHeld ?_
  rotate_left
  · intro w' hSw; try dsimp only at hSw
    go_simp; try (with_reducible rfl)
  try simp only [Act.put, List.getElem_toArray, List.getElem_cons_succ, List.getElem_cons_zero, List.setIfInBounds_toArray, List.set_cons_zero, List.set_cons_succ]
  refine wpAnyH_take (i := 2) (v := ?_) rfl (by kernel_rfl) (by kernel_rfl) (by kernel_rfl) (fun _ _ _ h => h) (Or.inl ⟨by rfl, ?_⟩) hHeld ?_
  rotate_left
  · intro w' hSw; try dsimp only at hSw
    obtain ⟨qa, qb, qd, qe, qf, qg⟩ := hqs _ hSw
    go_simp; try (with_reducible rfl)
  try simp only [Act.put, List.getElem_toArray, List.getElem_cons_succ, List.getElem_cons_zero, List.setIfInBounds_toArray, List.set_cons_zero, List.set_cons_succ]
  refine wpAnyH_take (i := 3) (v := ?_) rfl (by kernel_rfl) (by kernel_rfl) (by kernel_rfl) (fun _ _ _ h => h) (Or.inl ⟨by rfl, ?_⟩) hHeld ?_
  rotate_left
  · intro w' hSw; try dsimp only at hSw
    go_simp; try (with_reducible rfl)
  try simp only [Act.put, List.getElem_toArray, List.getElem_cons_succ, List.getElem_cons_zero, List.setIfInBounds_toArray, List.set_cons_zero, List.set_cons_succ]
  refine wpAnyH_take (i := 4) (v := ?_) rfl (by kernel_rfl) (by kernel_rfl) (by kernel_rfl) (fun _ _ _ h => h) (Or.inl ⟨by rfl, ?_⟩) hHeld ?_
  rotate_left
  · intro w' hSw; try dsimp only at hSw
    go_simp; try (with_reducible rfl)
  try simp only [Act.put, List.getElem_toArray, List.getElem_cons_succ, List.getElem_cons_zero, List.setIfInBounds_toArray, List.set_cons_zero, List.set_cons_succ]
  refine wpAnyH_take (i := 5) (v := ?_) rfl (by kernel_rfl) (by kernel_rfl) (by kernel_rfl) (fun _ _ _ h => h) (Or.inl ⟨by rfl, ?_⟩) hHeld ?_
  rotate_left
  · intro w' hSw; try dsimp only at hSw
    go_simp; try (with_reducible rfl)
  try simp only [Act.put, List.getElem_toArray, List.getElem_cons_succ, List.getElem_cons_zero, List.setIfInBounds_toArray, List.set_cons_zero, List.set_cons_succ]
  refine wpAnyH_take (i := 6) (v := ?_) rfl (by kernel_rfl) (by kernel_rfl) (by kernel_rfl) (fun _ _ _ h => h) (Or.inl ⟨by rfl, ?_⟩) hHeld ?_
  rotate_left
  · intro w' hSw; try dsimp only at hSw
    obtain ⟨qa, qb, qd, qe, qf, qg⟩ := hqs _ hSw
    go_simp; try (with_reducible rfl)
  try simp only [Act.put, List.getElem_toArray, List.getElem_cons_succ, List.getElem_cons_zero, List.setIfInBounds_toArray, List.set_cons_zero, List.set_cons_succ]
  refine wpAnyH_take (i := 7) (v := ?_) rfl (by kernel_rfl) (by kernel_rfl) (by kernel_rfl) (fun _ _ _ h => h) (Or.inl ⟨by rfl, ?_⟩) hHeld ?_
  rotate_left
  · intro w' hSw; try dsimp only at hSw
    go_simp; try (with_reducible rfl)
  try simp only [Act.put, List.getElem_toArray, List.getElem_cons_succ, List.getElem_cons_zero, List.setIfInBounds_toArray, List.set_cons_zero, List.set_cons_succ]
  refine wpAnyH_take (i := 8) (v := ?_) rfl (by kernel_rfl) (by kernel_rfl) (by kernel_rfl) (fun _ _ _ h => h) (Or.inl ⟨by rfl, ?_⟩) hHeld ?_
  rotate_left
  · intro w' hSw; try dsimp only at hSw
    go_simp; try (with_reducible rfl)
  try simp only [Act.put, List.getElem_toArray, List.getElem_cons_succ, List.getElem_cons_zero, List.setIfInBounds_toArray, List.set_cons_zero, List.set_cons_succ]
  refine wpAnyH_take (i := 9) (v := ?_) rfl (by kernel_rfl) (by kernel_rfl) (by kernel_rfl) (fun _ _ _ h => h) (Or.inl ⟨by rfl, ?_⟩) hHeld ?_
  rotate_left
  · intro w' hSw; try dsimp only at hSw
    go_simp; try (with_reducible rfl)
  try simp only [Act.put, List.getElem_toArray, List.getElem_cons_succ, List.getElem_cons_zero, List.setIfInBounds_toArray, List.set_cons_zero, List.set_cons_succ]
  refine wpAnyH_take (i := 10) (v := ?_) rfl (by kernel_rfl) (by kernel_rfl) (by kernel_rfl) (fun _ _ _ h => h) (Or.inl ⟨by rfl, ?_⟩) hHeld ?_
  rotate_left
  · intro w' hSw; try dsimp only at hSw
    obtain ⟨qa, qb, qd, qe, qf, qg⟩ := hqs _ hSw
    go_simp; try (with_reducible rfl)
  try simp only [Act.put, List.getElem_toArray, List.getElem_cons_succ, List.getElem_cons_zero, List.setIfInBounds_toArray, List.set_cons_zero, List.set_cons_succ]
  refine wpAnyH_take (i := 11) (v := ?_) rfl (by kernel_rfl) (by kernel_rfl) (by kernel_rfl) (fun _ _ _ h => h) (Or.inl ⟨by rfl, ?_⟩) hHeld ?_
  rotate_left
  · intro w' hSw; try dsimp only at hSw
    go_simp; try (with_reducible rfl)
  try simp only [Act.put, List.getElem_toArray, List.getElem_cons_succ, List.getElem_cons_zero, List.setIfInBounds_toArray, List.set_cons_zero, List.set_cons_succ]
  refine wpAnyH_take (i := 12) (v := ?_) rfl (by kernel_rfl) (by kernel_rfl) (by kernel_rfl) (fun _ _ _ h => h) (Or.inl ⟨by rfl, ?_⟩) hHeld ?_
  rotate_left
  · intro w' hSw; try dsimp only at hSw
    go_simp; try (with_reducible rfl)
  try simp only [Act.put, List.getElem_toArray, List.getElem_cons_succ, List.getElem_cons_zero, List.setIfInBounds_toArray, List.set_cons_zero, List.set_cons_succ]
  refine wpAnyH_take (i := 13) (v := ?_) rfl (by kernel_rfl) (by kernel_rfl) (by kernel_rfl) (fun _ _ _ h => h) (Or.inl ⟨by rfl, ?_⟩) hHeld ?_
  rotate_left
  · intro w' hSw; try dsimp only at hSw
    go_simp; try (with_reducible rfl)
  try simp only [Act.put, List.getElem_toArray, List.getElem_cons_succ, List.getElem_cons_zero, List.setIfInBounds_toArray, List.set_cons_zero, List.set_cons_succ]
  refine wpAnyH_take (i := 14) (v := ?_) rfl (by kernel_rfl) (by kernel_rfl) (by kernel_rfl) (fun _ _ _ h => h) (Or.inl ⟨by rfl, ?_⟩) hHeld ?_
  rotate_left
  · intro w' hSw; try dsimp only at hSw
    obtain ⟨qa, qb, qd, qe, qf, qg⟩ := hqs _ hSw
    go_simp; try (with_reducible rfl)
  try simp only [Act.put, List.getElem_toArray, List.getElem_cons_succ, List.getElem_cons_zero, List.setIfInBounds_toArray, List.set_cons_zero, List.set_cons_succ]
  refine wpAnyH_take (i := 15) (v := ?_) rfl (by kernel_rfl) (by kernel_rfl) (by kernel_rfl) (fun _ _ _ h => h) (Or.inl ⟨by rfl, ?_⟩) hHeld ?_
  rotate_left
  · intro w' hSw; try dsimp only at hSw
    go_simp; try (with_reducible rfl)
  try simp only [Act.put, List.getElem_toArray, List.getElem_cons_succ, List.getElem_cons_zero, List.setIfInBounds_toArray, List.set_cons_zero, List.set_cons_succ]
  refine wpAnyH_take (i := 16) (v := ?_) rfl (by kernel_rfl) (by kernel_rfl) (by kernel_rfl) (fun _ _ _ h => h) (Or.inl ⟨by rfl, ?_⟩) hHeld ?_
  rotate_left
  · intro w' hSw; try dsimp only at hSw
    go_simp; try (with_reducible rfl)
  try simp only [Act.put, List.getElem_toArray, List.getElem_cons_succ, List.getElem_cons_zero, List.setIfInBounds_toArray, List.set_cons_zero, List.set_cons_succ]
  refine wpAnyH_take (i := 17) (v := ?_) rfl (by kernel_rfl) (by kernel_rfl) (by kernel_rfl) (fun _ _ _ h => h) (Or.inl ⟨by rfl, ?_⟩) hHeld ?_
  rotate_left
  · intro w' hSw; try dsimp only at hSw
    go_simp; try (with_reducible rfl)
  try simp only [Act.put, List.getElem_toArray, List.getElem_cons_succ, List.getElem_cons_zero, List.setIfInBounds_toArray, List.set_cons_zero, List.set_cons_succ]
  refine wpAnyH_take (i := 18) (v := ?_) rfl (by kernel_rfl) (by kernel_rfl) (by kernel_rfl) (fun _ _ _ h => h) (Or.inl ⟨by rfl, ?_⟩) hHeld ?_
  rotate_left
  · intro w' hSw; try dsimp only at hSw
    obtain ⟨qa, qb, qd, qe, qf, qg⟩ := hqs _ hSw
    go_simp; try (with_reducible rfl)
  try simp only [Act.put, List.getElem_toArray, List.getElem_cons_succ, List.getElem_cons_zero, List.setIfInBounds_toArray, List.set_cons_zero, List.set_cons_succ]
  refine wpAnyH_take (i := 19) (v := ?_) rfl (by kernel_rfl) (by kernel_rfl) (by kernel_rfl) (fun _ _ _ h => h) (Or.inl ⟨by rfl, ?_⟩) hHeld ?_
  rotate_left
  · intro w' hSw; try dsimp only at hSw
    go_simp; try (with_reducible rfl)
  try simp only [Act.put, List.getElem_toArray, List.getElem_cons_succ, List.getElem_cons_zero, List.setIfInBounds_toArray, List.set_cons_zero, List.set_cons_succ]
  refine wpAnyH_take (i := 20) (v := ?_) rfl (by kernel_rfl) (by kernel_rfl) (by kernel_rfl) (fun _ _ _ h => h) (Or.inl ⟨by rfl, ?_⟩) hHeld ?_
  rotate_left
  · intro w' hSw; try dsimp only at hSw
    go_simp; try (with_reducible rfl)
  try simp only [Act.put, List.getElem_toArray, List.getElem_cons_succ, List.getElem_cons_zero, List.setIfInBounds_toArray, List.set_cons_zero, List.set_cons_succ]
  refine wpAnyH_take (i := 21) (v := ?_) rfl (by kernel_rfl) (by kernel_rfl) (by kernel_rfl) (fun _ _ _ h => h) (Or.inl ⟨by rfl, ?_⟩) hHeld ?_
  rotate_left
  · intro w' hSw; try dsimp only at hSw
    go_simp; try (with_reducible rfl)
  try simp only [Act.put, List.getElem_toArray, List.getElem_cons_succ, List.getElem_cons_zero, List.setIfInBounds_toArray, List.set_cons_zero, List.set_cons_succ]
  refine wpAnyH_take (i := 22) (v := ?_) rfl (by kernel_rfl) (by kernel_rfl) (by kernel_rfl) (fun _ _ _ h => h) (Or.inl ⟨by rfl, ?_⟩) hHeld ?_
  rotate_left
  · intro w' hSw; try dsimp only at hSw
    obtain ⟨qa, qb, qd, qe, qf, qg⟩ := hqs _ hSw
    go_simp; try (with_reducible rfl)
  try simp only [Act.put, List.getElem_toArray, List.getElem_cons_succ, List.getElem_cons_zero, List.setIfInBounds_toArray, List.set_cons_zero, List.set_cons_succ]
  refine wpAnyH_take (i := 23) (v := ?_) rfl (by kernel_rfl) (by kernel_rfl) (by kernel_rfl) (fun _ _ _ h => h) (Or.inl ⟨by rfl, ?_⟩) hHeld ?_
  rotate_left
  · intro w' hSw; try dsimp only at hSw
    go_simp; try (with_reducible rfl)
  try simp only [Act.put, List.getElem_toArray, List.getElem_cons_succ, List.getElem_cons_zero, List.setIfInBounds_toArray, List.set_cons_zero, List.set_cons_succ]
  refine wpAnyH_take (i := 24) (v := ?_) rfl (by kernel_rfl) (by kernel_rfl) (by kernel_rfl) (fun _ _ _ h => h) (Or.inl ⟨by rfl, ?_⟩) hHeld ?_
  rotate_left
  · intro w' hSw; try dsimp only at hSw
    go_simp; try (with_reducible rfl)
  try simp only [Act.put, List.getElem_toArray, List.getElem_cons_succ, List.getElem_cons_zero, List.setIfInBounds_toArray, List.set_cons_zero, List.set_cons_succ]
  refine wpAnyH_ready (rs := [25]) (by kernel_rfl) (by simp) ?_
  refine AllReadyH.cons rfl (fun K hK => ?_) AllReadyH.nil
  go_simp
  have s8 := Blk.new' w7.drew 24 #[.int .i64 0, .int .i64 0, .int .i64 0, .int .i64 0, .int .i64 0, .int .i64 0, .slice none 0 0]
  have hk8 := below_alloc w7.drew (.cells #[.int .i64 0, .int .i64 0, .int .i64 0, .int .i64 0, .int .i64 0, .int .i64 0, .slice none 0 0] 24)
  have hS8 := hHeld.below hk8
  have hB8 := bt hB7.drew hk8
  have hl8 : b5 < w7.drew.heap.size := hHeld.1
  have hz8 := hz7.drew.kept hk8
  have hlz := hz7.lt
  refine hK.out _ _ hS8 (fun hHeld => ?_)
  clear hK K
  try simp only [Act.put, List.getElem_toArray, List.getElem_cons_succ, List.getElem_cons_zero, List.setIfInBounds_toArray, List.set_cons_zero, List.set_cons_succ]
  refine wpAnyH_ready (rs := [26]) (by kernel_rfl) (by simp) ?_
  refine AllReadyH.cons rfl (fun K hK => ?_) AllReadyH.nil
  refine wp_store_blk 24 (.tmp 8) (.tmp 49) rfl _ 0 [.int .i64 (f0 : Int), .int .i64 (f4 : Int), .int .i64 z5, .int .i64 (f6 : Int), .int .i64 (f7 : Int), .int .i64 (f1 : Int), .slice none 0 0] rfl rfl s8 (by simp) size_ino one7 ?_
  intro w9 b9 t9
  have hS9 := hHeld.turned t9 (Nat.ne_of_lt hl8)
  refine hK.out _ _ hS9 (fun hHeld => ?_)
  clear hK K
  try simp only [Act.put, List.getElem_toArray, List.getElem_cons_succ, List.getElem_cons_zero, List.setIfInBounds_toArray, List.set_cons_zero, List.set_cons_succ]
  refine wpAnyH_done (by kernel_rfl) ?_ _
  refine NoPanic.normal ?_
  have b9 : Blk w9 w7.heap.size 24 [.int .i64 (f0 : Int), .int .i64 (f4 : Int), .int .i64 z5, .int .i64 (f6 : Int), .int .i64 (f7 : Int), .int .i64 (f1 : Int), .slice none 0 0] := b9
  have hB9 := t9.below hB8 (by have := hB7.size; show _ ≤ w7.heap.size; omega)
  have z9 := hz8.turned t9 (Nat.ne_of_lt hlz)
  have hG8 : G < w7.heap.size := hlz
  have h5g : b5 < w7.heap.size := hl8
  have h58 : b5 < w9.heap.size := hHeld.1
  have hG9 : w7.heap.size < w9.heap.size := b9.lt
  have hGw : w.heap.size ≤ w7.heap.size := hB7.size
  clear hz7 hz8 hlz hl8 s8 hB7 hB8 t9 hk8 hS8 hS9 hb5 hcs
  generalize w7.heap.size = g8 at *
  obtain ⟨n, hn⟩ : ∃ n : Nat, min f2 4 = n := ⟨_, rfl⟩
  have hmin : min (f2 : Int) 4 = (n : Int) := by omega
  have hn4 : n ≤ 4 := by omega
  rw [hn] at HRD
  have hc2 := hq2 _ hHeld
  clear hn
  obtain ⟨N0, hN0⟩ : ∃ N0, N0 = w9.heap.size := ⟨_, rfl⟩
  have HWN : Hid (w.heap.size ≤ N0) := by show _ ≤ _; rw [hN0]; exact hB9.size
  have HG8 : Hid (w.heap.size ≤ g8) := hGw
  have hGG : Hid (g8 < N0 ∧ b5 < N0 ∧ G < g8 ∧ b5 < g8) := ⟨by omega, by omega, hG8, h5g⟩
  clear hq2 hqs hv0 hv1 hv4 hv5 hv6 hv7 hf0 hf1 hf4 hf5 hf6 hf7
  go_wp2
  go_loopw [54] (fun i wr => ∃ (k : Nat) (pl : Option Addr) (cl : Nat), k ≤ n ∧ i = .int .u64 (k : Int) ∧ wr.ownsRow N0 51 3 (.slice pl k cl) k (flatE (rtL xs k)) ∧ Blk wr g8 24 [.int .i64 (f0 : Int), .int .i64 (f4 : Int), .int .i64 z5, .int .i64 (f6 : Int), .int .i64 (f7 : Int), .int .i64 (f1 : Int), .slice pl k cl] ∧ Blk wr G 24 #[.int .i64 0, .int .i64 0, .int .i64 0, .int .i64 0, .int .i64 0, .int .i64 0, .slice none 0 0].toList ∧ Cs b5 o5 xs wr ∧ Below w.heap.size w wr ∧ N0 ≤ wr.heap.size) (fun i _ => n - (intOf i).toNat)
  case atStart => exact ⟨0, none, 0, Nat.zero_le _, rfl, ⟨rfl, .inl ⟨rfl, rfl⟩⟩, b9, z9, hHeld, hB9, Nat.le_of_eq hN0⟩
  case round =>
    obtain ⟨k, pl, cl, hk, rfl, hown, hb, hz, hcs, hbel, hN⟩ := hrel
    by_cases hlt : k < n
    · have hki : (k : Int) < (n : Int) := by omega
      obtain ⟨u1, u2, u3⟩ := HL3.out k (by omega)
      have hre := HRE.out k
      have hrs := HRT.out k
      rw [hre] at hrs
      have HRS : Hid _ := hrs
      clear hre hrs
      obtain ⟨q, hq⟩ : ∃ q : Nat, q = 8 + 3 * k := ⟨_, rfl⟩
      obtain ⟨m, hm⟩ : ∃ m : Nat, m = k * 3 := ⟨_, rfl⟩
      have hm' : (k : Int) * 3 = (m : Int) := by rw [hm]; omega
      have hq' : (8 : Int) + (m : Int) = (q : Int) := by rw [hq, hm]; omega
      have hwm := wrapU m (by omega)
      have hwq := wrapU q (by omega)
      have hq18 : q + 2 < 20 := by omega
      have hcq : ¬ c7 = q := by omega
      have hsl := fun W => slice_back64 b5 o5 20 c7 q (by omega) hcap7 W
      obtain ⟨L, hL⟩ : ∃ L : Nat, 20 - q = L := ⟨_, rfl⟩
      rw [hL] at hsl
      have hl0 : 0 < L := by omega
      have hl1 : (1 : Int) < (L : Int) := by omega
      have hl2 : (2 : Int) < (L : Int) := by omega
      have hl3 : 1 < L := by omega
      have hl4 : 2 < L := by omega
      have c1 : ∀ X, Cs b5 o5 xs X → X.cell? ⟨b5, o5 + q, none⟩ = some (.int .u64 (fI xs (8 + 3 * k) : Int)) ∧ X.cell? ⟨b5, o5 + q + 1, none⟩ = some (.int .u64 (fI xs (9 + 3 * k) : Int)) ∧ X.cell? ⟨b5, o5 + q + 2, none⟩ = some (.int .u64 (fI xs (10 + 3 * k) : Int)) := fun X h => by
        have y1 := h.2 q (by omega)
        have y2 := h.2 (q + 1) (by omega)
        have y3 := h.2 (q + 2) (by omega)
        rw [show 8 + 3 * k = q from hq.symm, show 9 + 3 * k = q + 1 from by omega, show 10 + 3 * k = q + 2 from by omega]
        exact ⟨y1, y2, y3⟩
      clear hq hm hL
      generalize fI xs (8 + 3 * k) = a1 at *
      generalize fI xs (9 + 3 * k) = a2 at *
      generalize fI xs (10 + 3 * k) = a3 at *
      have v1 : IntKind.i64.wrap (a1 : Int) = (a1 : Int) := wrapI _ (by omega)
      have v2 : IntKind.i64.wrap (a2 : Int) = (a2 : Int) := wrapI _ (by omega)
      have v3 : IntKind.i64.wrap (a3 : Int) = (a3 : Int) := wrapI _ (by omega)
      obtain ⟨hg8, hg5, hgG, h5g⟩ := hGG.out
      go_upto_region 9 with fail
      refine wp_region_noPanic ?_
      refine wp_region_held_drew (S := (Cs b5 o5 xs)) (by kernel_rfl) (hcs.below (Below.refl _ _).drew) (fun hHeld => ?_)
      replace hown := owns_below hown ((Below.refl wr.heap.size wr).drew)
      replace hb := hb.drew
      replace hz := hz.drew
      replace hbel := hbel.drew
      replace hN : N0 ≤ wr.drew.heap.size := hN
      clear hcs
      generalize wr.drew = Z0 at *
      refine wpAnyH_take (i := 0) (v := ?_) rfl (by kernel_rfl) (by kernel_rfl) (by kernel_rfl) (fun _ _ _ h => h) (Or.inl ⟨by rfl, ?_⟩) hHeld ?_
      rotate_left
      · intro w' hSw; try dsimp only at hSw
        go_simp; try (with_reducible rfl)
      try simp only [Act.put, List.getElem_toArray, List.getElem_cons_succ, List.getElem_cons_zero, List.setIfInBounds_toArray, List.set_cons_zero, List.set_cons_succ]
      refine wpAnyH_take (i := 2) (v := ?_) rfl (by kernel_rfl) (by kernel_rfl) (by kernel_rfl) (fun _ _ _ h => h) (Or.inl ⟨by rfl, ?_⟩) hHeld ?_
      rotate_left
      · intro w' hSw; try dsimp only at hSw
        go_simp; try (with_reducible rfl)
      try simp only [Act.put, List.getElem_toArray, List.getElem_cons_succ, List.getElem_cons_zero, List.setIfInBounds_toArray, List.set_cons_zero, List.set_cons_succ]
      refine wpAnyH_take (i := 3) (v := ?_) rfl (by kernel_rfl) (by kernel_rfl) (by kernel_rfl) (fun _ _ _ h => h) (Or.inl ⟨by rfl, ?_⟩) hHeld ?_
      rotate_left
      · intro w' hSw; try dsimp only at hSw
        go_simp; try (with_reducible rfl)
      try simp only [Act.put, List.getElem_toArray, List.getElem_cons_succ, List.getElem_cons_zero, List.setIfInBounds_toArray, List.set_cons_zero, List.set_cons_succ]
      refine wpAnyH_take (i := 4) (v := ?_) rfl (by kernel_rfl) (by kernel_rfl) (by kernel_rfl) (fun _ _ _ h => h) (Or.inl ⟨by rfl, ?_⟩) hHeld ?_
      rotate_left
      · intro w' hSw; try dsimp only at hSw
        obtain ⟨qa, qb, qc⟩ := c1 _ hSw
        go_simp; try (with_reducible rfl)
      try simp only [Act.put, List.getElem_toArray, List.getElem_cons_succ, List.getElem_cons_zero, List.setIfInBounds_toArray, List.set_cons_zero, List.set_cons_succ]
      refine wpAnyH_take (i := 5) (v := ?_) rfl (by kernel_rfl) (by kernel_rfl) (by kernel_rfl) (fun _ _ _ h => h) (Or.inl ⟨by rfl, ?_⟩) hHeld ?_
      rotate_left
      · intro w' hSw; try dsimp only at hSw
        go_simp; try (with_reducible rfl)
      try simp only [Act.put, List.getElem_toArray, List.getElem_cons_succ, List.getElem_cons_zero, List.setIfInBounds_toArray, List.set_cons_zero, List.set_cons_succ]
      refine wpAnyH_take (i := 6) (v := ?_) rfl (by kernel_rfl) (by kernel_rfl) (by kernel_rfl) (fun _ _ _ h => h) (Or.inl ⟨by rfl, ?_⟩) hHeld ?_
      rotate_left
      · intro w' hSw; try dsimp only at hSw
        go_simp; try (with_reducible rfl)
      try simp only [Act.put, List.getElem_toArray, List.getElem_cons_succ, List.getElem_cons_zero, List.setIfInBounds_toArray, List.set_cons_zero, List.set_cons_succ]
      refine wpAnyH_take (i := 7) (v := ?_) rfl (by kernel_rfl) (by kernel_rfl) (by kernel_rfl) (fun _ _ _ h => h) (Or.inl ⟨by rfl, ?_⟩) hHeld ?_
      rotate_left
      · intro w' hSw; try dsimp only at hSw
        go_simp; try (with_reducible rfl)
      try simp only [Act.put, List.getElem_toArray, List.getElem_cons_succ, List.getElem_cons_zero, List.setIfInBounds_toArray, List.set_cons_zero, List.set_cons_succ]
      refine wpAnyH_take (i := 8) (v := ?_) rfl (by kernel_rfl) (by kernel_rfl) (by kernel_rfl) (fun _ _ _ h => h) (Or.inl ⟨by rfl, ?_⟩) hHeld ?_
      rotate_left
      · intro w' hSw; try dsimp only at hSw
        obtain ⟨qa, qb, qc⟩ := c1 _ hSw
        go_simp; try (with_reducible rfl)
      try simp only [Act.put, List.getElem_toArray, List.getElem_cons_succ, List.getElem_cons_zero, List.setIfInBounds_toArray, List.set_cons_zero, List.set_cons_succ]
      refine wpAnyH_take (i := 9) (v := ?_) rfl (by kernel_rfl) (by kernel_rfl) (by kernel_rfl) (fun _ _ _ h => h) (Or.inl ⟨by rfl, ?_⟩) hHeld ?_
      rotate_left
      · intro w' hSw; try dsimp only at hSw
        go_simp; try (with_reducible rfl)
      try simp only [Act.put, List.getElem_toArray, List.getElem_cons_succ, List.getElem_cons_zero, List.setIfInBounds_toArray, List.set_cons_zero, List.set_cons_succ]
      refine wpAnyH_take (i := 10) (v := ?_) rfl (by kernel_rfl) (by kernel_rfl) (by kernel_rfl) (fun _ _ _ h => h) (Or.inl ⟨by rfl, ?_⟩) hHeld ?_
      rotate_left
      · intro w' hSw; try dsimp only at hSw
        go_simp; try (with_reducible rfl)
      try simp only [Act.put, List.getElem_toArray, List.getElem_cons_succ, List.getElem_cons_zero, List.setIfInBounds_toArray, List.set_cons_zero, List.set_cons_succ]
      refine wpAnyH_take (i := 11) (v := ?_) rfl (by kernel_rfl) (by kernel_rfl) (by kernel_rfl) (fun _ _ _ h => h) (Or.inl ⟨by rfl, ?_⟩) hHeld ?_
      rotate_left
      · intro w' hSw; try dsimp only at hSw
        go_simp; try (with_reducible rfl)
      try simp only [Act.put, List.getElem_toArray, List.getElem_cons_succ, List.getElem_cons_zero, List.setIfInBounds_toArray, List.set_cons_zero, List.set_cons_succ]
      refine wpAnyH_take (i := 12) (v := ?_) rfl (by kernel_rfl) (by kernel_rfl) (by kernel_rfl) (fun _ _ _ h => h) (Or.inl ⟨by rfl, ?_⟩) hHeld ?_
      rotate_left
      · intro w' hSw; try dsimp only at hSw
        obtain ⟨qa, qb, qc⟩ := c1 _ hSw
        go_simp; try (with_reducible rfl)
      try simp only [Act.put, List.getElem_toArray, List.getElem_cons_succ, List.getElem_cons_zero, List.setIfInBounds_toArray, List.set_cons_zero, List.set_cons_succ]
      refine wpAnyH_take (i := 13) (v := ?_) rfl (by kernel_rfl) (by kernel_rfl) (by kernel_rfl) (fun _ _ _ h => h) (Or.inl ⟨by rfl, ?_⟩) hHeld ?_
      rotate_left
      · intro w' hSw; try dsimp only at hSw
        go_simp; try (with_reducible rfl)
      try simp only [Act.put, List.getElem_toArray, List.getElem_cons_succ, List.getElem_cons_zero, List.setIfInBounds_toArray, List.set_cons_zero, List.set_cons_succ]
      refine wpAnyH_take (i := 14) (v := ?_) rfl (by kernel_rfl) (by kernel_rfl) (by kernel_rfl) (fun _ _ _ h => h) (Or.inl ⟨by rfl, ?_⟩) hHeld ?_
      rotate_left
      · intro w' hSw; try dsimp only at hSw
        go_simp; try (with_reducible rfl)
      try simp only [Act.put, List.getElem_toArray, List.getElem_cons_succ, List.getElem_cons_zero, List.setIfInBounds_toArray, List.set_cons_zero, List.set_cons_succ]
      refine wpAnyH_ready (rs := [1, 15]) (by kernel_rfl) (by simp) ?_
      refine AllReadyH.cons rfl (fun K hK => ?_) ?_
      · have d6 := hb.cell' (i := 6) rfl
        go_simp
        refine hK.out _ _ hHeld (fun hHeld => ?_)
        clear hK K
        try simp only [Act.put, List.getElem_toArray, List.getElem_cons_succ, List.getElem_cons_zero, List.setIfInBounds_toArray, List.set_cons_zero, List.set_cons_succ]
        refine wpAnyH_ready (rs := [15]) (by kernel_rfl) (by simp) ?_
        refine AllReadyH.cons rfl (fun K hK => ?_) AllReadyH.nil
        go_simp
        have s4 := Blk.new' Z0 51 #[.int .i64 (a1 : Int), .int .i64 (a2 : Int), .int .i64 (a3 : Int)]
        have hk4 := below_alloc Z0 (.cells #[.int .i64 (a1 : Int), .int .i64 (a2 : Int), .int .i64 (a3 : Int)] 51)
        have ho4 := owns_below hown hk4
        have b4 := hb.kept hk4
        have z4 := hz.kept hk4
        have hS4 := hHeld.below hk4
        have hN4 : N0 ≤ (Z0.alloc (.cells #[.int .i64 (a1 : Int), .int .i64 (a2 : Int), .int .i64 (a3 : Int)] 51)).heap.size := Nat.le_trans hN hk4.size
        have hbx := bt hbel hk4
        refine hK.out _ _ hS4 (fun hHeld => ?_)
        clear hK K
        try simp only [Act.put, List.getElem_toArray, List.getElem_cons_succ, List.getElem_cons_zero, List.setIfInBounds_toArray, List.set_cons_zero, List.set_cons_succ]
        refine wpAnyH_ready (rs := [16]) (by kernel_rfl) (by simp) ?_
        refine AllReadyH.cons rfl (fun K hK => ?_) AllReadyH.nil
        refine wp_append_ext (.tmp 63) (.tmp 77) rfl N0 (.slice pl k cl) k (rtL xs k) ⟨(a1 : Int), (a2 : Int), (a3 : Int)⟩ _ _ rfl ho4 rfl s4 (by omega) hN4 ?_
        intro p6 c6 w6 hown6 hgrow6 hb6
        have hS6 := hHeld.low hb6 hg5
        have b6 := b4.below hb6 hg8
        have z6 := z4.below hb6 (by omega)
        have hN6 := Nat.le_trans hN4 hb6.size
        have hby := hbx.trans (hb6.mono HWN.out)
        refine hK.out _ _ hS6 (fun hHeld => ?_)
        clear hK K
        try simp only [Act.put, List.getElem_toArray, List.getElem_cons_succ, List.getElem_cons_zero, List.setIfInBounds_toArray, List.set_cons_zero, List.set_cons_succ]
        refine wpAnyH_take (i := 17) (v := ?_) rfl (by kernel_rfl) (by kernel_rfl) (by kernel_rfl) (fun _ _ _ h => h) (Or.inl ⟨by rfl, ?_⟩) hHeld ?_
        rotate_left
        · intro w' hSw; try dsimp only at hSw
          go_simp; try (with_reducible rfl)
        try simp only [Act.put, List.getElem_toArray, List.getElem_cons_succ, List.getElem_cons_zero, List.setIfInBounds_toArray, List.set_cons_zero, List.set_cons_succ]
        refine wpAnyH_ready (rs := [18]) (by kernel_rfl) (by simp) ?_
        refine AllReadyH.cons rfl (fun K hK => ?_) AllReadyH.nil
        refine wp_store_cell 22 (.tmp 79) (.tmp 78) rfl g8 6 (.slice p6 (k + 1) c6) rfl rfl b6 (by simp) size_exts rfl ?_ rfl
        intro y18 b18 t18
        have z18 := z6.turned t18 (by omega)
        have hbz := t18.below hby HG8.out
        have hN18 : N0 ≤ y18.heap.size := by rw [t18.size]; exact hN6
        refine hK.out _ _ (hHeld.turned t18 (by omega)) (fun hHeld => ?_)
        clear hK K
        try simp only [Act.put, List.getElem_toArray, List.getElem_cons_succ, List.getElem_cons_zero, List.setIfInBounds_toArray, List.set_cons_zero, List.set_cons_succ]
        refine wpAnyH_done (by kernel_rfl) ?_ _
        refine NoPanic.normal ?_
        go_wp2
        go_roundw
        case rel => exact ⟨k + 1, p6, c6, by omega, by go_num, by rw [HRS.out]; exact owns_turnedE hown6 t18 hg8, b18, z18, hHeld, hbz, hN18⟩
        case measure => simp [intOf]; omega
      refine AllReadyH.cons rfl (fun K hK => ?_) AllReadyH.nil
      go_simp
      have s4 := Blk.new' Z0 51 #[.int .i64 (a1 : Int), .int .i64 (a2 : Int), .int .i64 (a3 : Int)]
      have hk4 := below_alloc Z0 (.cells #[.int .i64 (a1 : Int), .int .i64 (a2 : Int), .int .i64 (a3 : Int)] 51)
      have ho4 := owns_below hown hk4
      have b4 := hb.kept hk4
      have z4 := hz.kept hk4
      have hS4 := hHeld.below hk4
      have hN4 : N0 ≤ (Z0.alloc (.cells #[.int .i64 (a1 : Int), .int .i64 (a2 : Int), .int .i64 (a3 : Int)] 51)).heap.size := Nat.le_trans hN hk4.size
      have hbx := bt hbel hk4
      refine hK.out _ _ hS4 (fun hHeld => ?_)
      clear hK K
      try simp only [Act.put, List.getElem_toArray, List.getElem_cons_succ, List.getElem_cons_zero, List.setIfInBounds_toArray, List.set_cons_zero, List.set_cons_succ]
      refine wpAnyH_ready (rs := [1]) (by kernel_rfl) (by simp) ?_
      refine AllReadyH.cons rfl (fun K hK => ?_) AllReadyH.nil
      have d6 := b4.cell' (i := 6) rfl
      go_simp
      refine hK.out _ _ hHeld (fun hHeld => ?_)
      clear hK K
      try simp only [Act.put, List.getElem_toArray, List.getElem_cons_succ, List.getElem_cons_zero, List.setIfInBounds_toArray, List.set_cons_zero, List.set_cons_succ]
      refine wpAnyH_ready (rs := [16]) (by kernel_rfl) (by simp) ?_
      refine AllReadyH.cons rfl (fun K hK => ?_) AllReadyH.nil
      refine wp_append_ext (.tmp 63) (.tmp 77) rfl N0 (.slice pl k cl) k (rtL xs k) ⟨(a1 : Int), (a2 : Int), (a3 : Int)⟩ _ _ rfl ho4 rfl s4 (by omega) hN4 ?_
      intro p6 c6 w6 hown6 hgrow6 hb6
      have hS6 := hHeld.low hb6 hg5
      have b6 := b4.below hb6 hg8
      have z6 := z4.below hb6 (by omega)
      have hN6 := Nat.le_trans hN4 hb6.size
      have hby := hbx.trans (hb6.mono HWN.out)
      refine hK.out _ _ hS6 (fun hHeld => ?_)
      clear hK K
      try simp only [Act.put, List.getElem_toArray, List.getElem_cons_succ, List.getElem_cons_zero, List.setIfInBounds_toArray, List.set_cons_zero, List.set_cons_succ]
      refine wpAnyH_take (i := 17) (v := ?_) rfl (by kernel_rfl) (by kernel_rfl) (by kernel_rfl) (fun _ _ _ h => h) (Or.inl ⟨by rfl, ?_⟩) hHeld ?_
      rotate_left
      · intro w' hSw; try dsimp only at hSw
        go_simp; try (with_reducible rfl)
      try simp only [Act.put, List.getElem_toArray, List.getElem_cons_succ, List.getElem_cons_zero, List.setIfInBounds_toArray, List.set_cons_zero, List.set_cons_succ]
      refine wpAnyH_ready (rs := [18]) (by kernel_rfl) (by simp) ?_
      refine AllReadyH.cons rfl (fun K hK => ?_) AllReadyH.nil
      refine wp_store_cell 22 (.tmp 79) (.tmp 78) rfl g8 6 (.slice p6 (k + 1) c6) rfl rfl b6 (by simp) size_exts rfl ?_ rfl
      intro y18 b18 t18
      have z18 := z6.turned t18 (by omega)
      have hbz := t18.below hby HG8.out
      have hN18 : N0 ≤ y18.heap.size := by rw [t18.size]; exact hN6
      refine hK.out _ _ (hHeld.turned t18 (by omega)) (fun hHeld => ?_)
      clear hK K
      try simp only [Act.put, List.getElem_toArray, List.getElem_cons_succ, List.getElem_cons_zero, List.setIfInBounds_toArray, List.set_cons_zero, List.set_cons_succ]
      refine wpAnyH_done (by kernel_rfl) ?_ _
      refine NoPanic.normal ?_
      go_wp2
      go_roundw
      case rel => exact ⟨k + 1, p6, c6, by omega, by go_num, by rw [HRS.out]; exact owns_turnedE hown6 t18 hg8, b18, z18, hHeld, hbz, hN18⟩
      case measure => simp [intOf]; omega
    · have hkn : ¬ (k : Int) < (n : Int) := by omega
      obtain rfl : k = n := by omega
      obtain ⟨hg8, hg5, hgG, h5g⟩ := hGG.out
      have d0 := hb.cell' (i := 0) rfl
      have d1 := hb.cell' (i := 1) rfl
      have d2 := hb.cell' (i := 2) rfl
      have d3 := hb.cell' (i := 3) rfl
      have d4 := hb.cell' (i := 4) rfl
      have d5 := hb.cell' (i := 5) rfl
      have d6 := hb.cell' (i := 6) rfl
      go_wp2_with (guard_target = wpList _ _ _ (Oper.mk _ (Op.store 24 (Operand.tmp 2) _) _ _ _ _ :: _) _ _; refine wpList_store_blk rfl 24 (.tmp 2) (.tmp 81) rfl _ 0 [.int .i64 (f0 : Int), .int .i64 (f4 : Int), .int .i64 z5, .int .i64 (f6 : Int), .int .i64 (f7 : Int), .int .i64 (f1 : Int), .slice pl k cl] rfl rfl hz (by simp) size_ino one7 ?_; intro w8 b8 t8)
      have b8 : Blk w8 G 24 [.int .i64 (f0 : Int), .int .i64 (f4 : Int), .int .i64 z5, .int .i64 (f6 : Int), .int .i64 (f7 : Int), .int .i64 (f1 : Int), .slice pl k cl] := b8
      obtain ⟨p9, c9, hv9, hi9⟩ := in_of_ownsE (owns_turnedE hown t8 (by omega)) (by omega)
      cases hv9
      refine ret_ino rfl rfl b8 rfl ⟨pl, k, cl, ?_, ?_, by rw [← hG]; exact t8.below hbel (by omega), fun a h => by have h1 := HWN.out; have h2 := owns_newP hown a h; omega⟩
      · rw [HRD.out]
      · rw [HRD.out]; exact hi9
end Go.Proofs.Ytgeomfgfeemciaa
