/-
  slices.SortFunc on a row of extents of the call's own, by Logical.
-/
import Derived.Test.YtmboohadindlfaaXtLay
import Derived.Test.YtmboohadindlfaaXtS
import Derived.Shelf.SlSortCmp.NoneTotal
namespace Go.Proofs.Ytmboohadindlfaa
open Go.RowKit Go.Shelf Go.Lib Go.Sort
theorem isNaN_any (a : Int) (w : World) : Calls Try.prog 56 #[.int .i64 a] w fun e w' => e = .returned (.bool false) ∧ w' = w := by
  go_enter Try.func56, Try.ntmps56
  go_wp2
  go_ret
  exact ⟨by simp, rfl⟩
set_option maxHeartbeats 1000000 in
theorem compare_any (a b : Int) (w : World) : Calls Try.prog 51 #[.int .i64 a, .int .i64 b] w fun e w' => e = .returned (.int .i64 (Lib.compareInt a b)) ∧ w' = w := by
  have hn := fun x W => isNaN_any x W
  by_cases h1 : a < b
  · have HC : Hid (Lib.compareInt a b = -1) := by show _ = _; simp [Lib.compareInt, h1]
    go_enter Try.func51, Try.ntmps51
    go_wp2_with (go_at_call 56; refine (hn _ _).mono ?_; rintro e w' ⟨rfl, rfl⟩)
    go_ret
    exact ⟨ret_int HC.out.symm, rfl⟩
  · by_cases h2 : a > b
    · have HC : Hid (Lib.compareInt a b = 1) := by show _ = _; simp [Lib.compareInt, h1, h2]
      go_enter Try.func51, Try.ntmps51
      go_wp2_with (go_at_call 56; refine (hn _ _).mono ?_; rintro e w' ⟨rfl, rfl⟩)
      go_ret
      exact ⟨ret_int HC.out.symm, rfl⟩
    · have HC : Hid (Lib.compareInt a b = 0) := by show _ = _; simp [Lib.compareInt, h1, h2]
      go_enter Try.func51, Try.ntmps51
      go_wp2_with (go_at_call 56; refine (hn _ _).mono ?_; rintro e w' ⟨rfl, rfl⟩)
      go_ret
      exact ⟨ret_int HC.out.symm, rfl⟩
set_option maxHeartbeats 1000000 in
theorem norm1_any (x y : Ext) (W : World) : Calls Try.prog 50 #[x.val, y.val] W fun e w' => e = .returned (.int .i64 (Lib.compareInt x.lo y.lo)) ∧ ∃ q os', w' = grow (W.drewN q) os' := by
  have hcon := fun W' => compare_any x.lo y.lo W'
  generalize Lib.compareInt x.lo y.lo = r at hcon ⊢
  go_enter Try.func50, Try.ntmps50
  go_wp2_with (go_at_call 51; refine (hcon _).mono ?_; rintro e w' ⟨rfl, rfl⟩)
  go_ret
  exact ⟨rfl, 0, _, by rw [alloc_eq_grow, alloc_eq_grow, grow_grow]; rfl⟩
def cfE (x y : Ext) : Int := Lib.compareInt x.lo y.lo
theorem ltE (x y : Ext) : ltOf cfE x y = decide (x.lo < y.lo) := by
  unfold ltOf cfE Lib.compareInt
  by_cases h1 : x.lo < y.lo
  · simp [h1]
  · by_cases h2 : y.lo < x.lo <;> simp [h1, h2]
theorem swoE : SWO (ltOf cfE) where
  irrefl x := by rw [ltE]; simp
  trans x y z h1 h2 := by rw [ltE] at *; simp at *; omega
  ntrans x y z h1 h2 := by rw [ltE] at *; simp at *; omega
theorem bangE [Inhabited Ext] {l : List Ext} {i : Nat} (h : i < l.length) : l.toArray[i]! = eE l i := by simp [h, eE]
theorem flatE_get [Inhabited Ext] {l : List Ext} {t : Nat} (h : t < l.length * 3) : (flatE l)[t]? = some ((Ext.cells l.toArray[t / 3]!)[t % 3]!) := by
  obtain ⟨i, r, rfl, hr⟩ : ∃ i r, t = i * 3 + r ∧ r < 3 := ⟨t / 3, t % 3, by omega, by omega⟩
  have hi : i < l.length := by omega
  rw [show (i * 3 + r) / 3 = i by omega, show (i * 3 + r) % 3 = r by omega, bangE hi]
  obtain ⟨h0, h1, h2⟩ := flatE_at (l := l) (k := i) hi
  match r, hr with
  | 0, _ => exact h0
  | 1, _ => exact h1
  | 2, _ => exact h2
theorem swK_block {α : Type} [Inhabited α] {enc : α → List Value} {z : Nat} {w : World} {g off m k : Nat} {d : Array α} {os : Array Obj} (hk : k < w.heap.size) (hne : k ≠ g) : (sortWorldK enc z w g off m d os).heap[k]? = w.heap[k]? := by
  unfold sortWorldK
  show ((putRowK enc z (Sort.ahead w m) g off d).heap ++ os)[k]? = _
  rw [Array.getElem?_append_left (by simpa [putRowK, Sort.ahead] using hk)]
  have : g ≠ k := fun e => hne e.symm
  simp [putRowK, putRow, mapBlock, Sort.ahead, Array.getElem?_modify, this]
theorem swK_size {α : Type} [Inhabited α] {enc : α → List Value} {z : Nat} {w : World} {g off m : Nat} {d : Array α} {os : Array Obj} : w.heap.size ≤ (sortWorldK enc z w g off m d os).heap.size := by
  unfold sortWorldK
  simp [putRowK, Sort.ahead]
theorem swK_below {α : Type} [Inhabited α] {enc : α → List Value} {z : Nat} {w : World} {g off m B : Nat} {d : Array α} {os : Array Obj} (hB : B ≤ g) (hs : B ≤ w.heap.size) : Below B w (sortWorldK enc z w g off m d os) :=
  ⟨rfl, rfl, rfl, swK_size, fun _ hk => swK_block (by omega) (by omega)⟩
set_option maxHeartbeats 1000000 in
theorem sortE_any (B : Nat) (p : Option Addr) (n c : Nat) (l : List Ext) (w : World) (h : w.ownsRow B 31 3 (.slice p n c) n (flatE l)) (hB : B ≤ w.heap.size) (hn : n ≤ 100000000) :
    Calls Try.prog 49 #[.slice p n c, .func (.func 50) #[] #[]] w fun e w' => e = .returned (.tuple #[]) ∧ ∃ s, s.Perm l ∧ s.Pairwise (fun a b => a.lo ≤ b.lo) ∧ InE w' p n c s ∧ Below B w w' := by
  have hl : l.length = n := by have := h.1; rw [flatE_length] at this; omega
  rcases Nat.eq_zero_or_pos n with h0 | h0
  · subst h0
    have hS := AnyF.slices_SortFunc_none sortE p c (.func (.func 50) #[] #[]) w
    change Calls Try.prog 49 _ _ _ at hS
    refine hS.mono ?_
    rintro e w' ⟨rfl, rfl⟩
    obtain ⟨p', c', hv, hin⟩ := in_of_ownsE h (by omega)
    cases hv
    have hx : l = [] := List.eq_nil_of_length_eq_zero hl
    subst hx
    exact ⟨rfl, [], List.Perm.refl _, List.Pairwise.nil, hin, Below.refl _ _⟩
  · letI : Inhabited Ext := ⟨⟨0, 0, 0⟩⟩
    obtain ⟨g, cap, cur, hv, hg, hh, hnc, hcm, hsz, htk⟩ : ∃ g cap cur, Value.slice p n c = .slice (some ⟨g, 0, none⟩) n cap ∧ B ≤ g ∧ w.heap[g]? = some (.cells cur 31 (0, 0)) ∧ n ≤ cap ∧ cap ≤ maxLen ∧ cur.size = cap * 3 ∧ cur.toList.take (n * 3) = flatE l := by
      rcases h.2 with ⟨_, h'⟩ | h'
      · omega
      · exact h'
    simp only [Value.slice.injEq, true_and] at hv
    obtain ⟨rfl, rfl⟩ := hv
    have hgl : g < w.heap.size := (Array.getElem?_eq_some_iff.1 hh).1
    have hHold : HoldsK Ext.cells 3 w g 0 l.toArray := by
      intro t ht
      have ht' : t < l.length * 3 := by simpa using ht
      rw [Nat.zero_add, get_flatK _ _ _ _ (by simpa using ht'), h.cellAt t (by omega), flatE_get ht']
      exact ⟨rfl, h.frozenAt t⟩
    have hcmp : CmpLays Try.prog 50 #[] Ext.cells 3 cfE g 0 l.toArray.size w := fun _ _ _ _ x y => norm1_any x y _
    have hS := AnyQ.slices_SortFunc sortE 3 Try.isAgg31 Try.sizeOf31 Ext.cells (fun _ => rfl) (fun x v hv => by simp [Ext.cells] at hv; rcases hv with rfl | rfl | rfl <;> rfl) cfE swoE 50 #[] g 0 c l.toArray w (enters_of Try.func50 (by kernel_rfl) rfl) hcmp hHold hgl (by simp; omega)
    rw [show l.toArray.size = n by simpa using hl] at hS
    change Calls Try.prog 49 _ _ _ at hS
    refine hS.mono ?_
    rintro e w' ⟨rfl, d', m, os, hp, hs, rfl⟩
    have hd : d'.size = n := by have := hp.1; simpa [hl] using this
    have hb : Below B w (sortWorldK Ext.cells 3 w g 0 m d' os) := swK_below hg hB
    have hK : HoldsK Ext.cells 3 (sortWorldK Ext.cells 3 w g 0 m d' os) g 0 d' := by
      unfold sortWorldK
      refine holdsK_grow _ _ _ _ _ _ _ (by simpa [putRowK, Sort.ahead] using hgl) ?_
      exact holdsK_putRowK _ _ _ _ _ l.toArray d' (holdsK_ahead _ _ _ _ _ _ _ hHold) (by simp [hd, hl])
    refine ⟨rfl, d'.toList, ?_, ?_, ⟨by simpa using hd, hnc, hcm, by omega, fun _ => ⟨g, 0, rfl, Nat.lt_of_lt_of_le hgl hb.size, fun i hi => ?_⟩, fun h => by cases h⟩, hb⟩
    · have := hp.2.2
      rw [Array.toList_extract, Array.toList_extract, List.extract_eq_take_drop, List.extract_eq_take_drop] at this
      simp only [Nat.sub_zero, List.drop_zero] at this
      rwa [List.take_of_length_le (by simp [hd]), List.take_of_length_le (by simp [hl])] at this
    · rw [List.pairwise_iff_getElem]
      intro i j hi hj hij
      have h1 : i < d'.size := by simpa using hi
      have h2 : j < d'.size := by simpa using hj
      have := hs i j (Nat.zero_le _) hij (by omega)
      rw [ltE] at this
      simp only [decide_eq_false_iff_not, getElem!_pos d' i h1, getElem!_pos d' j h2] at this
      simp only [Array.getElem_toList]
      omega
    · have hi' : i < d'.size := by omega
      have e : d'[i]! = eE d'.toList i := by simp [eE, hi']
      have c0 := (hK.cell hi' (show 0 < 3 by omega)).1
      have c1 := (hK.cell hi' (show 1 < 3 by omega)).1
      have c2 := (hK.cell hi' (show 2 < 3 by omega)).1
      rw [e] at c0 c1 c2
      exact ⟨c0, c1, c2⟩
end Go.Proofs.Ytmboohadindlfaa
