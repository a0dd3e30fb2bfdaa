/-
  What New makes.
-/
import Derived.Test.YtdmnddikcpfmfaaDkTells
namespace Go.Proofs.Ytdmnddikcpfmfaa
open Go.RowKit
/-- A new disk. -/
def newD (n : Nat) : DS := ⟨List.replicate n (z256, false), true, -1, 0, [], n, []⟩
theorem made_flat (cs : List Value) (m : Nat) (hm : cs.length = m) (h0 : 0 < m) : ∀ n, (madeCells cs.toArray (n * m)).toList = (List.replicate n cs).flatten := by
  intro n
  apply List.ext_getElem?
  intro i
  rw [madeCells, Array.toList_map, Array.toList_range, List.getElem?_map]
  by_cases hi : i < n * m
  · rw [List.getElem?_range hi, Option.map_some, List.size_toArray, hm]
    have hr : i % m < m := Nat.mod_lt _ h0
    have hq : i / m < n := Nat.div_lt_of_lt_mul (by rw [Nat.mul_comm]; exact hi)
    have hg := flat_get (fun x : List Value => x) m (List.replicate n cs) (fun x hx => by rw [List.eq_of_mem_replicate hx]; exact hm) (i / m) cs (by rw [List.getElem?_replicate, if_pos hq])
    rw [List.map_id'] at hg
    have e : (List.replicate n cs).flatten[i]? = cs[i % m]? := by
      have q : (List.take m (List.drop (i / m * m) (List.replicate n cs).flatten))[i % m]? = cs[i % m]? := congrArg (fun l : List Value => l[i % m]?) hg
      rw [List.getElem?_take_of_lt hr, List.getElem?_drop, Nat.mul_comm, Nat.div_add_mod] at q
      exact q
    rw [e]
    simp [hm, hr]
  · rw [List.getElem?_eq_none (by simp; omega), Option.map_none, List.getElem?_eq_none]
    have := flat_length (fun x : List Value => x) m (List.replicate n cs) (fun x hx => by rw [List.eq_of_mem_replicate hx]; exact hm)
    rw [List.map_id', List.length_replicate] at this
    omega
theorem blk_of_owns {w : World} {B : Nat} {e : TypeId} {z g n : Nat} {xs : List Value} (h : w.ownsRow B e z (.slice (some ⟨g, 0, none⟩) n n) n xs) : Blk w g e xs := by
  rcases h.2 with ⟨h', _⟩ | ⟨g', cap, cur, h', _, hh, _, _, hs, ht⟩
  · simp at h'
  · simp only [Value.slice.injEq, Option.some.injEq, Addr.mk.injEq, and_true, true_and] at h'
    obtain ⟨rfl, rfl⟩ := h'
    rw [List.take_of_length_le (by simp [hs])] at ht
    rw [Blk, hh, ← ht]
theorem owns_nil (w : World) (B : Nat) (e : TypeId) (z : Nat) : w.ownsRow B e z (.slice none 0 0) 0 [] := ⟨by simp, .inl ⟨rfl, rfl⟩⟩
theorem new_ok (n : Nat) (h1 : 1 ≤ n) (h2 : n ≤ 8192) (w : World) :
    Calls Try.prog 6 #[.int .i64 (n : Int)] w fun e w' => Below w.heap.size w w' ∧ ∃ d sb, e = .returned (.tuple #[.pointer (some ⟨d, 0, none⟩), .int .i64 0]) ∧ w.heap.size ≤ d ∧ w.heap.size ≤ sb ∧ DiskIn w' d sb (.slice none 0 0) (newD n) := by
  obtain ⟨i0, hi, hz0, hz1, hz2⟩ := info_parts infoSec
  have hm := mayBe_any (n : Int) w
  rw [show (decide (1 ≤ (n : Int)) && decide ((n : Int) ≤ 8192)) = true from by simp; omega] at hm
  have hn : n * 257 < 10000000 := by omega
  go_enter Try.func6, Try.ntmps6
  go_wp2_with (first
    | (go_at_call 27; refine hm.mono ?_; rintro e w' ⟨rfl, hw'⟩; have hw2 := hw'.symm; subst hw2; clear hw')
    | (at_make; refine wpList_make_full _ rfl _ _ 63 rfl 0 82 i0 _ 257 Try.underlying63 hi hz0 hz1 .i64 .i64 _ _ n rfl rfl rfl rfl (by rw [hz2]; omega) (by unfold maxLen; omega) (Nat.zero_le _) ?_; intro w2 hown2 hgrow2))
  have hB := blk_of_owns hown2
  have e1 : (madeCells (Value.agg (secV (z256, false)).toArray).cells (n * 257)).toList = flatS (List.replicate n (z256, false)) := by
    rw [Value.cells, made_flat _ 257 (secV_length z256_length) (by omega), flatS, List.map_replicate]
  rw [e1] at hB
  have hb := below_grown0 hgrow2
  go_ret2
  have hb2 := below_alloc w2 (.cells #[.slice (some ⟨w.heap.size, 0, none⟩) n n, .bool true, .int .i64 (-1), .int .i64 0, .slice none 0 0] 66)
  refine ⟨bt hb hb2, w2.heap.size, w.heap.size, rfl, hb.size, Nat.le_refl _, ?_, ?_, owns_nil _ _ _ _, ?_, ?_, ?_, ?_, rfl, by show 0 ≤ 1024; omega, by show (List.replicate n (z256, false)).length ≤ n; simp, ⟨by show (-9223372036854775808 : Int) ≤ -1; omega, by show (-1 : Int) ≤ 9223372036854775807; omega⟩⟩
  · have := Blk.new' w2 66 #[.slice (some ⟨w.heap.size, 0, none⟩) n n, .bool true, .int .i64 (-1), .int .i64 0, .slice none 0 0]
    rw [ramV]
    simpa [newD] using this
  · show Blk _ _ _ (flatS (List.replicate n (z256, false)) ++ [])
    rw [List.append_nil]; exact hB.kept hb2
  · intro x hx; rw [List.eq_of_mem_replicate hx]; exact is_z256
  · intro x hx; cases hx
  · simp [newD]; omega
  · simp [newD]; omega
theorem new_no (n : Int) (h : ¬ (1 ≤ n ∧ n ≤ 8192)) (w : World) : Calls Try.prog 6 #[.int .i64 n] w fun e w' => e = .returned (.tuple #[.pointer none, .int .i64 1]) ∧ w' = w := by
  have hm := mayBe_any n w
  rw [show (decide (1 ≤ n) && decide (n ≤ 8192)) = false from by simp; omega] at hm
  go_enter Try.func6, Try.ntmps6
  go_wp2_with (go_at_call 27; refine hm.mono ?_; rintro e w' ⟨rfl, hw'⟩; have hw2 := hw'.symm; subst hw2; clear hw')
  go_ret2
  exact ⟨rfl, rfl⟩
end Go.Proofs.Ytdmnddikcpfmfaa
