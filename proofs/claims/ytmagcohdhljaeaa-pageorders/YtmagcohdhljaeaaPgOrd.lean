/-
  What page.Order answers: an iterator over the places in order.
-/
import Derived.Test.YtmagcohdhljaeaaPgInts
import Derived.Test.YtmagcohdhljaeaaPgSort
import Derived.Deep.Cut
namespace Go.Proofs.Ytmagcohdhljaeaa
open Go.RowKit Go.Shelf Go.Lib Go.Sort
/-- A place below N. -/
abbrev IdxT (N : Nat) := { k : Nat // k < N }
def encO {N : Nat} (x : IdxT N) : Value := .int .i64 (x.1 : Int)
def cfO (H : List HdS) {N : Nat} (x y : IdxT N) : Int := cfN H x.1 y.1
theorem lt_cfO (H : List HdS) {N : Nat} (x y : IdxT N) : ltOf (cfO H) x y = decide (ltN H x.1 y.1) := by
  unfold ltOf cfO cfN
  cases h1 : nw H x.1 y.1 with
  | true =>
    have := nw_iff.1 h1
    have h : ltN H x.1 y.1 := by unfold ltN; omega
    simp [h]
  | false =>
    have n1 := nw_no h1
    cases h2 : nw H y.1 x.1 with
    | true =>
      have := nw_iff.1 h2
      have h : ¬ ltN H x.1 y.1 := by unfold ltN; omega
      simp [h]
    | false =>
      have n2 := nw_no h2
      unfold Lib.compareInt
      by_cases hlt : x.1 < y.1
      · have h : ltN H x.1 y.1 := by unfold ltN; omega
        have h' : (x.1 : Int) < (y.1 : Int) := by omega
        simp [h, h']
      · have h : ¬ ltN H x.1 y.1 := by unfold ltN; omega
        have h' : ¬ (x.1 : Int) < (y.1 : Int) := by omega
        rw [if_neg (by simp), if_neg (by simp), if_neg h']
        by_cases hg : (x.1 : Int) > (y.1 : Int)
        · rw [if_pos hg]; simp [h]
        · rw [if_neg hg]; simp [h]
theorem swoO (H : List HdS) {N : Nat} : SWO (ltOf (cfO H (N := N))) where
  irrefl x := by rw [lt_cfO, decide_eq_false_iff_not]; unfold ltN; omega
  trans x y z h1 h2 := by rw [lt_cfO] at *; simp only [decide_eq_true_eq] at *; unfold ltN at *; omega
  ntrans x y z h1 h2 := by rw [lt_cfO] at *; simp only [decide_eq_false_iff_not] at *; unfold ltN at *; omega
theorem totO (H : List HdS) {N : Nat} (x y : IdxT N) (h1 : ltOf (cfO H) x y = false) (h2 : ltOf (cfO H) y x = false) : x = y := by
  rw [lt_cfO] at *
  simp only [decide_eq_false_iff_not] at *
  apply Subtype.ext
  unfold ltN at *; omega
/-- All places, as they are laid first. -/
def allO (N : Nat) : List (IdxT N) := (List.range N).attachWith (fun i => i < N) (fun _ h => List.mem_range.1 h)
theorem allO_length (N : Nat) : (allO N).length = N := by simp [allO]
theorem allO_val (N : Nat) : (allO N).map (fun k => k.1) = List.range N := List.attachWith_map_subtype_val _
def sortedO (H : List HdS) (N : Nat) : List (IdxT N) := (allO N).mergeSort fun x y => !(ltOf (cfO H)) y x
theorem sortedO_length (H : List HdS) (N : Nat) : (sortedO H N).length = N := by rw [sortedO, List.length_mergeSort, allO_length]
theorem sortedO_ord (H : List HdS) (N : Nat) : OrdL H N ((sortedO H N).map (fun k => k.1)) := by
  refine OrdL.of_sort _ (List.mergeSort_perm _ _) ?_
  have h := List.pairwise_mergeSort (le := fun (x y : IdxT N) => !(ltOf (cfO H)) y x) (fun a b c h1 h2 => by
      simp only [lt_cfO, Bool.not_eq_true', decide_eq_false_iff_not] at *
      unfold ltN at *; omega) (fun a b => by
      simp only [lt_cfO]
      by_cases h : ltN H b.1 a.1
      · have h' : ¬ ltN H a.1 b.1 := by unfold ltN at *; omega
        simp [h']
      · simp [h]) (allO N)
  refine h.imp (fun {a b} h => ?_)
  simp only [lt_cfO, Bool.not_eq_true', decide_eq_false_iff_not] at h
  exact h
/-- What the row of places holds behind k rounds. -/
def fillR (n k : Nat) : List Int := natsI (List.range k) ++ List.replicate (n - k) 0
theorem fillR_set {n k : Nat} (h : k < n) : (fillR n k).set k (k : Int) = fillR n (k + 1) := by
  unfold fillR
  have hl : (natsI (List.range k)).length = k := by rw [natsI_length, List.length_range]
  obtain ⟨m, hm⟩ : ∃ m, n - k = m + 1 := ⟨n - k - 1, by omega⟩
  rw [List.set_append_right _ _ (by omega), hl, Nat.sub_self, hm, List.replicate_succ, List.set_cons_zero, show n - (k + 1) = m from by omega, List.range_succ]
  simp [natsI]
theorem fillR_length {n k : Nat} (h : k ≤ n) : (fillR n k).length = n := by
  unfold fillR; rw [List.length_append, natsI_length, List.length_range, List.length_replicate]; omega
theorem made_ints (n : Nat) : (madeCells (Value.int .i64 0).cells (n * 1)).toList = valsI (fillR n 0) := by
  simp only [fillR, natsI, List.range_zero, List.map_nil, List.nil_append, Nat.sub_zero, Nat.mul_one]
  apply List.ext_getElem?
  intro i
  rw [madeCells, Array.toList_map, Array.toList_range, List.getElem?_map, valsI, List.getElem?_map]
  by_cases hi : i < n
  · rw [List.getElem?_range hi, List.getElem?_replicate, if_pos hi]
    simp [Value.cells, Nat.mod_one]
  · rw [List.getElem?_eq_none (by simp; omega), List.getElem?_eq_none (by simp; omega)]
    rfl
theorem sw_block {α : Type} [Inhabited α] {enc : α → Value} {w : World} {g off m k : Nat} {d : Array α} {os : Array Obj} (hk : k < w.heap.size) (hne : k ≠ g) : (sortWorld enc w g off m d os).heap[k]? = w.heap[k]? := by
  unfold sortWorld
  show ((putRow enc (Sort.ahead w m) g off d).heap ++ os)[k]? = _
  rw [Array.getElem?_append_left (by simpa [Sort.ahead] using hk)]
  have : g ≠ k := fun e => hne e.symm
  simp [putRow, mapBlock, Sort.ahead, Array.getElem?_modify, this]
theorem sw_size {α : Type} [Inhabited α] {enc : α → Value} {w : World} {g off m : Nat} {d : Array α} {os : Array Obj} : w.heap.size ≤ (sortWorld enc w g off m d os).heap.size := by
  unfold sortWorld
  simp [Sort.ahead]
theorem sw_below {α : Type} [Inhabited α] {enc : α → Value} {w : World} {g off m B : Nat} {d : Array α} {os : Array Obj} (hB : B ≤ g) (hs : B ≤ w.heap.size) : Below B w (sortWorld enc w g off m d os) :=
  ⟨rfl, rfl, rfl, sw_size, fun _ hk => sw_block (by omega) (by omega)⟩
theorem sw_cell {α : Type} [Inhabited α] {enc : α → Value} {w : World} {g off m : Nat} {d0 d : Array α} {os : Array Obj} (hg : g < w.heap.size) (h0 : Holds enc w g off d0) (hs : d.size = d0.size) (j : Nat) (hj : j < d.size) : (sortWorld enc w g off m d os).cell? ⟨g, off + j, none⟩ = some (enc d[j]!) := by
  have h := cell?_putRow enc (Sort.ahead w m) g off d0 d h0 hs j hj
  rw [← h]
  refine World.cell?_of_block (a := ⟨g, off + j, none⟩) ?_
  unfold sortWorld
  show ((putRow enc (Sort.ahead w m) g off d).heap ++ os)[g]? = _
  rw [Array.getElem?_append_left (by simpa [Sort.ahead] using hg)]
theorem getBang {α : Type} [Inhabited α] {l : List α} {j : Nat} (h : j < l.length) : l.toArray[j]! = l[j] := by simp [h]
set_option linter.unusedSimpArgs false in
set_option maxRecDepth 100000 in
set_option maxHeartbeats 4000000 in
theorem order_any (p : Option Addr) (n c : Nat) (H : List HdS) (w : World) (hH : HdrsIn w p n c H) (hn : n ≤ 60) (h0 : 0 < n) :
    Calls Try.prog 23 #[.slice p n c] w fun e w' => ∃ Bs p1 c1, e = .returned (.func (.func 63) #[] #[.pointer (some ⟨Bs, 0, none⟩)]) ∧ Blk w' Bs 46 [.slice p1 n c1] ∧ InI w' p1 n c1 (natsI ((sortedO H n).map fun k => k.1)) ∧ (∀ a, p1 = some a → a.block < w'.heap.size) ∧ Below w.heap.size w w' := by
  obtain ⟨i0, hi, hz0, hz1, hz2⟩ := info_parts info3
  have hb0 := below_alloc w (.cells #[.slice p n c] 42)
  have b0 := Blk.new' w 42 #[.slice p n c]
  have hvals := fun (a : Option Addr) (len cap : Nat) (w : World) => (show Calls Try.prog 48 #[.slice a len cap] w fun e w' => e = .returned (.func (.func 63) #[] #[.pointer (some ⟨w.heap.size, 0, none⟩)]) ∧ w' = w.alloc (.cells #[.slice a len cap] 46) from by
    go_enter Try.func48, Try.ntmps48
    go_wp2
    go_ret
    exact ⟨rfl, rfl⟩)
  obtain ⟨bh, oh, rfl, hlb, -⟩ := hH.at' h0
  go_enter Try.func23, Try.ntmps23
  go_upto_region 2 with (at_make; refine wpList_make_full _ rfl _ _ 46 rfl (w.heap.size + 1) 3 i0 (.int .i64 0) 1 Try.underlying46 hi hz0 hz1 .i64 .i64 _ _ n rfl rfl rfl rfl (by rw [hz2]; omega) (by unfold maxLen; omega) (by simp) ?_; intro w1 hown1 hgrow1)
  simp only [World.size_alloc] at hown1
  try simp only [World.size_alloc]
  rw [made_ints] at hown1
  have hb1 := bt hb0 (below_grown0 hgrow1)
  have b1 := b0.kept (below_grown0 hgrow1)
  clear hgrow1 b0 hb0
  have hl0 := b1.lt
  generalize hg : w.heap.size + 1 = g at *
  go_wp2_with fail
  go_loopw [10] (fun i wr => ∃ k : Nat, k ≤ n ∧ i = .int .i64 k ∧ wr.ownsRow g 3 1 (.slice (some ⟨g, 0, none⟩) n n) n (valsI (fillR n k)) ∧ Blk wr w.heap.size 42 [.slice (some ⟨bh, oh, none⟩) n c] ∧ Below w.heap.size w wr) (fun i _ => n - (intOf i).toNat)
  case atStart => exact ⟨0, Nat.zero_le _, rfl, hown1, b1, hb1⟩
  case round =>
    clear hown1 b1 hb1 hl0
    obtain ⟨k, hk, rfl, hown, b1, hb1⟩ := hrel
    by_cases hlt : k < n
    · have hc1 := hown.cellAt k (by omega)
      rw [valsI_get _ _ (by rw [fillR_length hk]; exact hlt)] at hc1
      have hf1 := hown.frozenAt k
      have hst := (hown.stored k (.int .i64 (k : Int))).1
      rw [valsI_set, fillR_set hlt] at hst
      have t1 := Turned.setCell wr ⟨g, k, none⟩ (.int .i64 (k : Int))
      have HO : Hid ((wr.setCell ⟨g, k, none⟩ (.int .i64 (k : Int))).ownsRow g 3 1 (.slice (some ⟨g, 0, none⟩) n n) n (valsI (fillR n (k + 1)))) := hst
      have HB : Hid (Blk (wr.setCell ⟨g, k, none⟩ (.int .i64 (k : Int))) w.heap.size 42 [.slice (some ⟨bh, oh, none⟩) n c]) := b1.turned t1 (show w.heap.size ≠ g by omega)
      have HW : Hid (Below w.heap.size w (wr.setCell ⟨g, k, none⟩ (.int .i64 (k : Int)))) := t1.below hb1 (by show w.heap.size ≤ g; omega)
      clear hst t1 hown b1 hb1
      go_wp2_with fail
      go_roundw
      case rel => exact ⟨k + 1, by omega, by go_num, HO.out, HB.out, HW.out⟩
      case measure => simp [intOf]; omega
    · obtain rfl : k = n := by omega
      haveI : Inhabited (IdxT k) := ⟨⟨0, h0⟩⟩
      have hgl : g < wr.heap.size := (hown.lt g rfl).2
      have hHold : Holds (encO (N := k)) wr g 0 (allO k).toArray := by
        intro j hj
        have hj' : j < k := by simpa [allO_length] using hj
        refine ⟨?_, by rw [Nat.zero_add]; exact hown.frozenAt j⟩
        have := hown.cellAt j (by omega)
        rw [valsI_get _ _ (by rw [fillR_length (Nat.le_refl _)]; exact hj')] at this
        rw [Nat.zero_add, this, getBang (by rw [allO_length]; exact hj')]
        simp [encO, allO, fillR, natsI, eI, hj']
      have hcmp : CmpLays1 Try.prog 46 #[.pointer (some ⟨w.heap.size, 0, none⟩)] (encO (N := k)) (cfO H) g 0 (allO k).toArray.size wr := by
        intro m os dk hs x y
        have hsw := sw_below (enc := encO (N := k)) (w := wr) (g := g) (off := 0) (m := m) (B := w.heap.size + 1) (d := dk) (os := os) (by omega) (by omega)
        have hbw : Below w.heap.size w (sortWorld (encO (N := k)) wr g 0 m dk os) := hb1.trans (hsw.mono (by omega))
        have hbox := (hsw.cell (p := ⟨w.heap.size, 0, none⟩) (by show w.heap.size < w.heap.size + 1; omega)).trans (b1.cell' (i := 0) rfl)
        refine (ord1_any w.heap.size bh oh k c x.1 y.1 H _ x.2 y.2 (by have := hsw.size; omega) hbox (by omega) (hH.below hbw)).mono ?_
        rintro e w' ⟨rfl, q, os', rfl⟩
        exact ⟨rfl, q, os', rfl⟩
      have hS := Any.slices_SortFunc_total sortL (encO (N := k)) (fun _ => rfl) (cfO H) (swoO H) 46 #[.pointer (some ⟨w.heap.size, 0, none⟩)] g 0 k (allO k).toArray wr (enters_of Try.func46 (by kernel_rfl) rfl) hcmp hHold hgl (by simp [allO_length]; omega) (totO H)
      rw [show (allO k).toArray.size = k from by simp [allO_length]] at hS
      change Calls Try.prog 45 _ _ _ at hS
      have HR : Hid (∀ m os, InI (sortWorld (encO (N := k)) wr g 0 m (sortedO H k).toArray os) (some ⟨g, 0, none⟩) k k (natsI ((sortedO H k).map fun x => x.1)) ∧ Below w.heap.size w (sortWorld (encO (N := k)) wr g 0 m (sortedO H k).toArray os) ∧ g < (sortWorld (encO (N := k)) wr g 0 m (sortedO H k).toArray os).heap.size) := by
        intro m os
        have hsz := sw_size (enc := encO (N := k)) (w := wr) (g := g) (off := 0) (m := m) (d := (sortedO H k).toArray) (os := os)
        refine ⟨⟨by rw [natsI_length, List.length_map, sortedO_length], Nat.le_refl _, by unfold maxLen; omega, by omega, fun _ => ⟨g, 0, rfl, by omega, fun i hi => ?_⟩⟩, hb1.trans ((sw_below (by omega) (by omega)).mono (Nat.le_refl _)), by omega⟩
        have hsl := sortedO_length H k
        have := sw_cell (enc := encO (N := k)) (w := wr) (g := g) (off := 0) (m := m) (d0 := (allO k).toArray) (d := (sortedO H k).toArray) (os := os) hgl hHold (by simp [allO_length, hsl]) i (by simp [hsl]; exact hi)
        rw [this, getBang (by omega)]
        simp [encO, natsI, eI, hsl, hi]
      clear hHold hcmp hown b1 hb1 hH
      go_wp2_with (first
        | (go_at_call 45; refine hS.mono ?_; rintro e w2 ⟨rfl, m2, os2, hw2⟩; obtain ⟨hr1, hr2, hr3⟩ := HR.out m2 os2; rw [← show w2 = sortWorld (encO (N := k)) wr g 0 m2 (sortedO H k).toArray os2 from hw2] at hr1 hr2 hr3; clear hw2)
        | (go_at_call 48; refine (hvals _ _ _ _).mono ?_; rintro e w3 ⟨rfl, hw3⟩))
      go_ret
      subst hw3
      exact ⟨w2.heap.size, some ⟨g, 0, none⟩, k, rfl, Blk.new' w2 46 #[_], hr1.below (below_alloc w2 _), fun a e => by cases e; show g < _; rw [World.size_alloc]; omega, bt hr2 (below_alloc w2 _)⟩
end Go.Proofs.Ytmagcohdhljaeaa
