/-
  The small calls of a disk.
-/
import Derived.Test.YtdmnddikcpfmfaaGreatDkCells
namespace Go.Proofs.YtdmnddikcpfmfaaGreat
open Go.RowKit
theorem made_any (d : Nat) (p : Option Addr) (n c : Nat) (w : World) (h : w.cell? ⟨d, 0, none⟩ = some (.slice p n c)) : Calls Tryz.prog 53 #[.pointer (some ⟨d, 0, none⟩)] w fun e w' => e = .returned (.bool (decide (0 < n))) ∧ w' = w := by
  go_enter Tryz.func53, Tryz.ntmps53
  go_wp2
  go_ret
  exact ⟨ret_bool (by simp), rfl⟩
theorem made_none (w : World) : Calls Tryz.prog 53 #[.pointer none] w fun e w' => e = .returned (.bool false) ∧ w' = w := by
  go_enter Tryz.func53, Tryz.ntmps53
  go_wp2
  go_ret
  exact ⟨rfl, rfl⟩
theorem DiskIn.c0 {w : World} {d sb : Nat} {lv : Value} {s : DS} (h : DiskIn w d sb lv s) : w.cell? ⟨d, 0, none⟩ = some (.slice (some ⟨sb, 0, none⟩) s.secs.length s.cap) := h.ram.cell' rfl
theorem DiskIn.c1 {w : World} {d sb : Nat} {lv : Value} {s : DS} (h : DiskIn w d sb lv s) : w.cell? ⟨d, 1, none⟩ = some (.bool s.on) := h.ram.cell' rfl
theorem DiskIn.c2 {w : World} {d sb : Nat} {lv : Value} {s : DS} (h : DiskIn w d sb lv s) : w.cell? ⟨d, 2, none⟩ = some (.int .i64 s.left) := h.ram.cell' rfl
theorem DiskIn.c3 {w : World} {d sb : Nat} {lv : Value} {s : DS} (h : DiskIn w d sb lv s) : w.cell? ⟨d, 3, none⟩ = some (.int .i64 (s.writes : Int)) := h.ram.cell' rfl
theorem DiskIn.c4 {w : World} {d sb : Nat} {lv : Value} {s : DS} (h : DiskIn w d sb lv s) : w.cell? ⟨d, 4, none⟩ = some lv := h.ram.cell' rfl
theorem made_yes {w : World} {d sb : Nat} {lv : Value} {s : DS} (h : DiskIn w d sb lv s) : Calls Tryz.prog 53 #[.pointer (some ⟨d, 0, none⟩)] w fun e w' => e = .returned (.bool true) ∧ w' = w :=
  (made_any d _ _ _ w h.c0).mono fun e w' ⟨he, hw⟩ => ⟨he.trans (ret_bool (by have := h.n1; simp; omega)), hw⟩
/-- What the calls that need the power ask first. -/
def powE (on : Bool) : Int := if on = true then 0 else 8
theorem power_any {w : World} {d sb : Nat} {lv : Value} {s : DS} (h : DiskIn w d sb lv s) : Calls Tryz.prog 64 #[.pointer (some ⟨d, 0, none⟩)] w fun e w' => e = .returned (.int .i64 (powE s.on)) ∧ w' = w := by
  have hm := made_yes h
  have h1 := h.c1
  cases ho : s.on
  · rw [ho] at h1
    go_enter Tryz.func64, Tryz.ntmps64
    go_wp2_with (go_at_call 53; refine hm.mono ?_; rintro e w' ⟨rfl, hw'⟩; have hw2 := hw'.symm; subst hw2; clear hw')
    go_ret
    exact ⟨rfl, rfl⟩
  · rw [ho] at h1
    go_enter Tryz.func64, Tryz.ntmps64
    go_wp2_with (go_at_call 53; refine hm.mono ?_; rintro e w' ⟨rfl, hw'⟩; have hw2 := hw'.symm; subst hw2; clear hw')
    go_ret
    exact ⟨rfl, rfl⟩
def hasB (n : Nat) (i : Int) : Bool := decide (0 ≤ i) && decide (i < (n : Int))
theorem hasB_yes {n i : Nat} (h : i < n) : hasB n (i : Int) = true := by simp [hasB]; exact h
theorem hasB_nat {n : Nat} {i : Int} (h : hasB n i = true) : ∃ k : Nat, i = (k : Int) ∧ k < n := by
  simp [hasB] at h
  exact ⟨i.toNat, by omega, by omega⟩
theorem has_any {w : World} {d sb : Nat} {lv : Value} {s : DS} (h : DiskIn w d sb lv s) (i : Int) : Calls Tryz.prog 65 #[.pointer (some ⟨d, 0, none⟩), .int .i64 i] w fun e w' => e = .returned (.bool (hasB s.secs.length i)) ∧ w' = w := by
  have h0 := h.c0
  by_cases hi : 0 ≤ i
  · go_enter Tryz.func65, Tryz.ntmps65
    go_wp2
    go_ret
    exact ⟨ret_bool (by simp [hasB, hi]), rfl⟩
  · go_enter Tryz.func65, Tryz.ntmps65
    go_wp2
    go_ret
    exact ⟨ret_bool (by simp [hasB]; omega), rfl⟩
theorem mayBe_any (n : Int) (w : World) : Calls Tryz.prog 23 #[.int .i64 n] w fun e w' => e = .returned (.bool (decide (1 ≤ n) && decide (n ≤ 8192))) ∧ w' = w := by
  by_cases hi : 1 ≤ n
  · go_enter Tryz.func23, Tryz.ntmps23
    go_wp2
    go_ret
    exact ⟨ret_bool (by simp [hi]), rfl⟩
  · go_enter Tryz.func23, Tryz.ntmps23
    go_wp2
    go_ret
    exact ⟨ret_bool (by simp; omega), rfl⟩
theorem writes_any {w : World} {d sb : Nat} {lv : Value} {s : DS} (h : DiskIn w d sb lv s) : Calls Tryz.prog 20 #[.pointer (some ⟨d, 0, none⟩)] w fun e w' => e = .returned (.int .i64 (s.writes : Int)) ∧ w' = w := by
  have hm := made_yes h
  have h1 := h.c3
  go_enter Tryz.func20, Tryz.ntmps20
  go_wp2_with (go_at_call 53; refine hm.mono ?_; rintro e w' ⟨rfl, hw'⟩; have hw2 := hw'.symm; subst hw2; clear hw')
  go_ret
  exact ⟨rfl, rfl⟩
theorem size_any {w : World} {d sb : Nat} {lv : Value} {s : DS} (h : DiskIn w d sb lv s) : Calls Tryz.prog 147 #[.pointer (some ⟨d, 0, none⟩)] w fun e w' => e = .returned (.int .i64 (s.secs.length : Int)) ∧ w' = w := by
  have hm := made_yes h
  have h1 := h.c0
  go_enter Tryz.func147, Tryz.ntmps147
  go_wp2_with (go_at_call 53; refine hm.mono ?_; rintro e w' ⟨rfl, hw'⟩; have hw2 := hw'.symm; subst hw2; clear hw')
  go_ret
  exact ⟨rfl, rfl⟩
theorem flush_any {w : World} {d sb : Nat} {lv : Value} {s : DS} (h : DiskIn w d sb lv s) : Calls Tryz.prog 146 #[.pointer (some ⟨d, 0, none⟩)] w fun e w' => e = .returned (.int .i64 (powE s.on)) ∧ w' = w := by
  have hm := power_any h
  go_enter Tryz.func146, Tryz.ntmps146
  go_wp2_with (go_at_call 64; refine hm.mono ?_; rintro e w' ⟨rfl, hw'⟩; have hw2 := hw'.symm; subst hw2; clear hw')
  go_ret
  exact ⟨rfl, rfl⟩
/-- A call that turned a disk: its blocks alone, and new ones. -/
structure DAfter (w w' : World) (d sb : Nat) (lv lv' : Value) (s' : DS) : Prop where
  disk : DiskIn w' d sb lv' s'
  keep : Keep (fpD d sb lv) w w'
  fr : ∀ k, lv'.ownBlock = some k → lv.ownBlock = some k ∨ w.heap.size ≤ k
/-- One cell of the disk's own block is turned. -/
theorem DiskIn.cell {w : World} {d sb : Nat} {lv : Value} {s : DS} (h : DiskIn w d sb lv s) (i : Nat) (v : Value) (s' : DS) (hv : (ramV sb lv s).set i v = ramV sb lv s') (h1 : s'.secs = s.secs) (h2 : s'.log = s.log) (h3 : s'.writes = s.writes) (h4 : -9223372036854775808 ≤ s'.left ∧ s'.left ≤ 9223372036854775807) (h5 : s'.sp = s.sp := by rfl) (h6 : s'.cap = s.cap := by rfl) :
    DAfter w (w.setCell ⟨d, i, none⟩ v) d sb lv lv s' := by
  have hr := h.ram.set i v
  rw [hv] at hr
  refine ⟨⟨hr, ?_, ?_, by rw [h1]; exact h.okS, by rw [h2]; exact h.okL, by rw [h1]; exact h.n1, by rw [h1]; exact h.n2, by rw [h2, h3]; exact h.ll, by rw [h3]; exact h.lw, by rw [h1, h6]; exact h.capn, h4⟩, Keep.of_turned (Turned.setCell w ⟨d, i, none⟩ v) (.inl rfl), fun k hk => .inl hk⟩
  · rw [h1, h5]; exact h.row.setOther _ _ (fun e => h.nds e.symm)
  · rw [h2]; exact owns_same h.log (fun k hk => heap_setCell_other _ _ _ _ (h.ndl hk).1)
theorem DAfter.refl {w : World} {d sb : Nat} {lv : Value} {s : DS} (h : DiskIn w d sb lv s) : DAfter w w d sb lv lv s := ⟨h, Keep.refl _ _, fun _ hk => .inl hk⟩
theorem DAfter.trans {a b c : World} {d sb : Nat} {l1 l2 l3 : Value} {s1 s2 : DS} (h : DAfter a b d sb l1 l2 s1) (k : DAfter b c d sb l2 l3 s2) : DAfter a c d sb l1 l3 s2 := by
  refine ⟨k.disk, h.keep.trans k.keep (fun j hj e => ?_), fun j hj => ?_⟩
  · rcases e with e | e | e
    · exact .inl e
    · exact .inr (.inl e)
    · rcases h.fr j e with e | e
      · exact .inr (.inr e)
      · omega
  · rcases k.fr j hj with e | e
    · exact h.fr j e
    · exact .inr (Nat.le_trans h.keep.size e)
theorem cut_any {w : World} {d sb : Nat} {lv : Value} {s : DS} (h : DiskIn w d sb lv s) (i : Int) (hi : -9223372036854775808 ≤ i ∧ i ≤ 9223372036854775807) : Calls Tryz.prog 41 #[.pointer (some ⟨d, 0, none⟩), .int .i64 i] w fun e w' => (∃ u, e = .returned u) ∧ DAfter w w' d sb lv lv { s with left := i } := by
  have hm := made_yes h
  have h1 := h.c2
  have h2 := h.ram.frozen 2
  go_enter Tryz.func41, Tryz.ntmps41
  go_wp2_with (go_at_call 53; refine hm.mono ?_; rintro e w' ⟨rfl, hw'⟩; have hw2 := hw'.symm; subst hw2; clear hw')
  go_end0
  exact ⟨⟨_, rfl⟩, h.cell 2 _ { s with left := i } rfl rfl rfl rfl hi⟩
theorem restart_any {w : World} {d sb : Nat} {lv : Value} {s : DS} (h : DiskIn w d sb lv s) : Calls Tryz.prog 11 #[.pointer (some ⟨d, 0, none⟩)] w fun e w' => (∃ u, e = .returned u) ∧ DAfter w w' d sb lv lv { s with on := true, left := -1 } := by
  have hm := made_yes h
  have h1 := h.c1
  have h2 := h.ram.frozen 1
  have A := h.cell 1 (.bool true) { s with on := true } rfl rfl rfl rfl h.le
  have h3 := A.disk.c2
  have h4 := A.disk.ram.frozen 2
  go_enter Tryz.func11, Tryz.ntmps11
  go_wp2_with (go_at_call 53; refine hm.mono ?_; rintro e w' ⟨rfl, hw'⟩; have hw2 := hw'.symm; subst hw2; clear hw')
  go_end0
  exact ⟨⟨_, rfl⟩, A.trans (A.disk.cell 2 _ { s with on := true, left := -1 } rfl rfl rfl rfl ⟨by show (-9223372036854775808 : Int) ≤ -1; omega, by show (-1 : Int) ≤ 9223372036854775807; omega⟩)⟩
end Go.Proofs.YtdmnddikcpfmfaaGreat

namespace Go.Proofs.YtdmnddikcpfmfaaGreat
open Go.RowKit
/-- A new disk. -/
def newD (n : Nat) : DS := ⟨List.replicate n (z256, false), true, -1, 0, [], n, []⟩
theorem made_flat (cs : List Value) (m : Nat) (hm : cs.length = m) (h0 : 0 < m) : ∀ n, (madeCells cs.toArray (n * m)).toList = (List.replicate n cs).flatten := by
  intro n
  apply List.ext_getElem?
  intro i
  rw [madeCells, Array.toList_map, Array.toList_range, List.getElem?_map]
  by_cases hi : i < n * m
  · rw [List.getElem?_range hi, Option.map_some, List.size_toArray, hm]
    have hr : i % m < m := Nat.mod_lt _ h0
    have hq : i / m < n := Nat.div_lt_of_lt_mul (by rw [Nat.mul_comm]; exact hi)
    have hg := flat_get (fun x : List Value => x) m (List.replicate n cs) (fun x hx => by rw [List.eq_of_mem_replicate hx]; exact hm) (i / m) cs (by rw [List.getElem?_replicate, if_pos hq])
    rw [List.map_id'] at hg
    have e : (List.replicate n cs).flatten[i]? = cs[i % m]? := by
      have q : (List.take m (List.drop (i / m * m) (List.replicate n cs).flatten))[i % m]? = cs[i % m]? := congrArg (fun l : List Value => l[i % m]?) hg
      rw [List.getElem?_take_of_lt hr, List.getElem?_drop, Nat.mul_comm, Nat.div_add_mod] at q
      exact q
    rw [e]
    simp [hm, hr]
  · rw [List.getElem?_eq_none (by simp; omega), Option.map_none, List.getElem?_eq_none]
    have := flat_length (fun x : List Value => x) m (List.replicate n cs) (fun x hx => by rw [List.eq_of_mem_replicate hx]; exact hm)
    rw [List.map_id', List.length_replicate] at this
    omega
theorem blk_of_owns {w : World} {B : Nat} {e : TypeId} {z g n : Nat} {xs : List Value} (h : w.ownsRow B e z (.slice (some ⟨g, 0, none⟩) n n) n xs) : Blk w g e xs := by
  rcases h.2 with ⟨h', _⟩ | ⟨g', cap, cur, h', _, hh, _, _, hs, ht⟩
  · simp at h'
  · simp only [Value.slice.injEq, Option.some.injEq, Addr.mk.injEq, and_true, true_and] at h'
    obtain ⟨rfl, rfl⟩ := h'
    rw [List.take_of_length_le (by simp [hs])] at ht
    rw [Blk, hh, ← ht]
theorem owns_nil (w : World) (B : Nat) (e : TypeId) (z : Nat) : w.ownsRow B e z (.slice none 0 0) 0 [] := ⟨by simp, .inl ⟨rfl, rfl⟩⟩
theorem new_ok (n : Nat) (h1 : 1 ≤ n) (h2 : n ≤ 8192) (w : World) :
    Calls Tryz.prog 5 #[.int .i64 (n : Int)] w fun e w' => Below w.heap.size w w' ∧ ∃ d sb, e = .returned (.tuple #[.pointer (some ⟨d, 0, none⟩), .int .i64 0]) ∧ w.heap.size ≤ d ∧ w.heap.size ≤ sb ∧ DiskIn w' d sb (.slice none 0 0) (newD n) := by
  obtain ⟨i0, hi, hz0, hz1, hz2⟩ := info_parts infoSec
  have hm := mayBe_any (n : Int) w
  rw [show (decide (1 ≤ (n : Int)) && decide ((n : Int) ≤ 8192)) = true from by simp; omega] at hm
  have hn : n * 257 < 10000000 := by omega
  go_enter Tryz.func5, Tryz.ntmps5
  go_wp2_with (first
    | (go_at_call 23; refine hm.mono ?_; rintro e w' ⟨rfl, hw'⟩; have hw2 := hw'.symm; subst hw2; clear hw')
    | (at_make; refine wpList_make_full _ rfl _ _ 59 rfl 0 102 i0 _ 257 Tryz.underlying59 hi hz0 hz1 .i64 .i64 _ _ n rfl rfl rfl rfl (by rw [hz2]; omega) (by unfold maxLen; omega) (Nat.zero_le _) ?_; intro w2 hown2 hgrow2))
  have hB := blk_of_owns hown2
  have e1 : (madeCells (Value.agg (secV (z256, false)).toArray).cells (n * 257)).toList = flatS (List.replicate n (z256, false)) := by
    rw [Value.cells, made_flat _ 257 (secV_length z256_length) (by omega), flatS, List.map_replicate]
  rw [e1] at hB
  have hb := below_grown0 hgrow2
  go_ret2
  have hb2 := below_alloc w2 (.cells #[.slice (some ⟨w.heap.size, 0, none⟩) n n, .bool true, .int .i64 (-1), .int .i64 0, .slice none 0 0] 62)
  refine ⟨bt hb hb2, w2.heap.size, w.heap.size, rfl, hb.size, Nat.le_refl _, ?_, ?_, owns_nil _ _ _ _, ?_, ?_, ?_, ?_, rfl, by show 0 ≤ 1024; omega, by show (List.replicate n (z256, false)).length ≤ n; simp, ⟨by show (-9223372036854775808 : Int) ≤ -1; omega, by show (-1 : Int) ≤ 9223372036854775807; omega⟩⟩
  · have := Blk.new' w2 62 #[.slice (some ⟨w.heap.size, 0, none⟩) n n, .bool true, .int .i64 (-1), .int .i64 0, .slice none 0 0]
    rw [ramV]
    simpa [newD] using this
  · show Blk _ _ _ (flatS (List.replicate n (z256, false)) ++ [])
    rw [List.append_nil]; exact hB.kept hb2
  · intro x hx; rw [List.eq_of_mem_replicate hx]; exact is_z256
  · intro x hx; cases hx
  · simp [newD]; omega
  · simp [newD]; omega
theorem new_no (n : Int) (h : ¬ (1 ≤ n ∧ n ≤ 8192)) (w : World) : Calls Tryz.prog 5 #[.int .i64 n] w fun e w' => e = .returned (.tuple #[.pointer none, .int .i64 1]) ∧ w' = w := by
  have hm := mayBe_any n w
  rw [show (decide (1 ≤ n) && decide (n ≤ 8192)) = false from by simp; omega] at hm
  go_enter Tryz.func5, Tryz.ntmps5
  go_wp2_with (go_at_call 23; refine hm.mono ?_; rintro e w' ⟨rfl, hw'⟩; have hw2 := hw'.symm; subst hw2; clear hw')
  go_ret2
  exact ⟨rfl, rfl⟩
end Go.Proofs.YtdmnddikcpfmfaaGreat
