/-
  Copy into a part of a block that is known whole.
-/
import Derived.Test.YtgeomfgfeemciaaInC
import Derived.Laws.CopyRow
namespace Go.Proofs.Ytgeomfgfeemciaa
open Go.RowKit
theorem vals_drop (xs : List Nat) (n : Nat) : vals (xs.drop n) = (vals xs).drop n := by simp [vals, List.map_drop]
/-- The first bytes of ys laid over cur, from place o on, no more than L. -/
def layAt (cur ys : List Nat) (o L : Nat) : List Nat := cur.take o ++ ys.take (min L ys.length) ++ cur.drop (o + min L ys.length)
theorem layAt_length (cur ys : List Nat) (o L : Nat) (h : o + L ≤ cur.length) : (layAt cur ys o L).length = cur.length := by
  unfold layAt; simp only [List.length_append, List.length_take, List.length_drop]; omega
theorem layAt_byte {cur ys : List Nat} (hc : ∀ x ∈ cur, x < 256) (hy : ∀ x ∈ ys, x < 256) (o L : Nat) : ∀ x ∈ layAt cur ys o L, x < 256 := by
  intro x hx
  simp only [layAt, List.mem_append] at hx
  rcases hx with (h | h) | h
  · exact hc x (List.mem_of_mem_take h)
  · exact hy x (List.mem_of_mem_take h)
  · exact hc x (List.mem_of_mem_drop h)
/-- 'copy' into a part of a block that is known whole. -/
theorem copy_gen {w : World} {G : Nat} {t : TypeId} {cur ys : List Nat} {o L : Nat} {p : Option Addr} {n c : Nat} (h : Blk w G t (vals cur)) (hfit : o + L ≤ cur.length) (hy : In w p n c ys) :
    ∃ w', (Builtin.copy_ #[25, 25] 3 #[.slice (some ⟨G, o, none⟩) L L, .slice p n c]).run Try.prog w = .ok (.int .i64 ((min L n : Nat) : Int)) w' ∧ Blk w' G t (vals (layAt cur ys o L)) ∧ Turned w w' G := by
  have hl := hy.len
  rcases Nat.eq_zero_or_pos (min L n) with h0 | h0
  · refine ⟨w, ?_, ?_, ⟨rfl, rfl, rfl, rfl, fun _ _ => rfl⟩⟩
    · rw [h0]
      exact run_copy_none (P := Try.prog) w 25 25 3 5 _ p L L n c Try.underlying25 size5 (by have : Nat.min n L = min n L := rfl; omega)
    · have e : layAt cur ys o L = cur := by unfold layAt; rw [hl, h0]; simp
      rw [e]; exact h
  · obtain ⟨b, so, rfl, _, hc⟩ := hy.at' (by omega)
    have hlen : (vals (ys.take (min L n))).length = min L n := by rw [vals_length, List.length_take]; omega
    have hr := run_copy_row (P := Try.prog) w 25 25 3 5 G o L L ⟨b, so, none⟩ n c (vals cur).toArray t (vals (ys.take (min L n))) Try.underlying25 size5 h (by have : Nat.min n L = min n L := rfl; omega)
      (fun j v hj => by
        rw [vals_take] at hj
        have hjn : j < min L n := by
          rcases Nat.lt_or_ge j (min L n) with h' | h'
          · exact h'
          · rw [List.getElem?_eq_none (by rw [List.length_take]; omega)] at hj; simp at hj
        rw [List.getElem?_take_of_lt hjn] at hj
        exact hy.cells rfl j v hj)
      (by rw [hlen, List.size_toArray, vals_length]; omega) (vals_one _)
    rw [hlen] at hr
    refine ⟨_, hr, ?_, Turned.setRow _ _ _⟩
    have e : vals (layAt cur ys o L) = (vals cur).take o ++ vals (ys.take (min L n)) ++ (vals cur).drop (o + min L n) := by
      unfold layAt; rw [hl, vals_append, vals_append, vals_take, vals_drop]
    rw [e]
    exact h.setRow _
end Go.Proofs.Ytgeomfgfeemciaa
