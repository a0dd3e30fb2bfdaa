/-
  From a row that a call owns to the slice that it answers, and the facts of the element types that the laws ask for.
-/
import Derived.Test.YtikigfjdddgkpaaBits
namespace Go.Proofs.Ytikigfjdddgkpaa
open Go.RowKit
theorem info5 : (Try.prog.info? 5).map (fun i => (i.zero, i.size, i.bytes)) = some (some (.int .u8 0), 1, 1) := by kernel_rfl
theorem size5 : (Try.prog.info? 5).map (·.size) = some 1 := by kernel_rfl
/-- Bytes as cells. -/
def vals (xs : List Nat) : List Value := xs.map fun x : Nat => Value.int .u8 (x : Int)
theorem vals_length (xs : List Nat) : (vals xs).length = xs.length := by simp [vals]
theorem vals_append (a b : List Nat) : vals (a ++ b) = vals a ++ vals b := by simp [vals]
theorem vals_one (xs : List Nat) : ∀ u ∈ vals xs, u.oneCell' = true := by
  intro u hu
  obtain ⟨x, _, rfl⟩ := List.mem_map.1 hu
  rfl
theorem vals_get (xs : List Nat) (j : Nat) (h : j < xs.length) : (vals xs)[j]? = some (.int .u8 (el xs j)) := by
  simp [vals, el, h]
theorem vals_get_inv {xs : List Nat} {j : Nat} {u : Value} (h : (vals xs)[j]? = some u) : j < xs.length ∧ u = .int .u8 (el xs j) := by
  have hj : j < xs.length := by
    rcases Nat.lt_or_ge j xs.length with h' | h'
    · exact h'
    · rw [List.getElem?_eq_none (by rw [vals_length]; exact h')] at h; simp at h
  rw [vals_get xs j hj] at h
  exact ⟨hj, (Option.some.inj h).symm⟩
theorem addr_add (b o j : Nat) : (⟨b, o, none⟩ : Addr).add j = ⟨b, o + j, none⟩ := by unfold Addr.add; split <;> simp_all
/-- The cells of a slice that lies in a world, as the laws on append and copy ask for them. -/
theorem In.cells {w : World} {p : Option Addr} {n c : Nat} {xs : List Nat} (h : In w p n c xs) {a : Addr} (ha : p = some a) :
    ∀ j u, (vals xs)[j]? = some u → w.cell? (a.add j) = some u := by
  intro j u hu
  obtain ⟨hj, rfl⟩ := vals_get_inv hu
  have hl := h.len
  obtain ⟨b, o, hp, _, hc⟩ := h.at' (by omega)
  rw [ha] at hp
  cases hp
  rw [addr_add]
  exact hc j (by omega)
theorem in_of_owns {w : World} {B : Nat} {v : Value} {n : Nat} {xs : List Nat} (h : w.ownsRow B 5 1 v n (vals xs)) (hb : ∀ x ∈ xs, x < 256) (hr : n ≤ 140737488355328) :
    ∃ p c, v = .slice p n c ∧ In w p n c xs := by
  have hl : xs.length = n := by have := h.1; simpa [vals] using this
  rcases h.2 with ⟨rfl, rfl⟩ | ⟨g, cap, cur, rfl, hg, hh, hnc, hcm, hsz, htk⟩
  · have : xs = [] := List.eq_nil_of_length_eq_zero hl
    subst this
    exact ⟨none, 0, rfl, In.empty w⟩
  · refine ⟨some ⟨g, 0, none⟩, cap, rfl, hl, hnc, hcm, hr, hb, fun h0 => ⟨g, 0, rfl, ?_, fun i hi => ?_⟩, fun h => by simp at h⟩
    · rcases Nat.lt_or_ge g w.heap.size with h' | h'
      · exact h'
      · rw [Array.getElem?_eq_none h'] at hh; simp at hh
    · have := World.ownsRow.cellAt h i (by omega)
      rw [Nat.zero_add, this, vals_get xs i (by omega)]
/-- The whole block of a row that is filled to its brim. -/
theorem owns_block {w : World} {B g n : Nat} {xs : List Value} (h : w.ownsRow B 5 1 (.slice (some ⟨g, 0, none⟩) n n) n xs) : w.heap[g]? = some (.cells xs.toArray 5 (0, 0)) := by
  rcases h.2 with ⟨h', _⟩ | ⟨g', cap', cur, h', _, hg, _, _, hsz, htake⟩
  · simp at h'
  · simp only [Value.slice.injEq, Option.some.injEq, Addr.mk.injEq, and_true, true_and] at h'
    obtain ⟨rfl, rfl⟩ := h'
    rw [List.take_of_length_le (by simp [hsz])] at htake
    rw [hg, ← htake]
theorem owns_of_block {w : World} {B g n : Nat} {xs : List Value} (hB : B ≤ g) (hn : xs.length = n) (hm : n ≤ maxLen) (h : w.heap[g]? = some (.cells xs.toArray 5 (0, 0))) : w.ownsRow B 5 1 (.slice (some ⟨g, 0, none⟩) n n) n xs :=
  ⟨by omega, .inr ⟨g, n, xs.toArray, rfl, hB, h, Nat.le_refl _, hm, by simp [hn], List.take_of_length_le (by simp; omega)⟩⟩
/-- n zero bytes as cells. -/
def zerosV (n : Nat) : List Value := List.replicate n (Value.int .u8 0)
theorem made_block {w : World} {B g n : Nat} (h : w.ownsRow B 5 1 (.slice (some ⟨g, 0, none⟩) n n) n (madeCells (Value.int .u8 0).cells (n * 1)).toList) : w.heap[g]? = some (.cells (zerosV n).toArray 5 (0, 0)) := by
  have := owns_block h
  rwa [show (Value.int .u8 0).cells = #[Value.int .u8 0] from rfl, toList_madeCells_one, Nat.mul_one] at this
theorem splice_all (n : Nat) (cs : List Value) (h : cs.length = n) : splice (zerosV n) 0 cs = cs := by
  simp [splice, zerosV, h]
theorem zerosV_length (n : Nat) : (zerosV n).length = n := by simp [zerosV]
/-- The source of a copy. -/
theorem In.src {w : World} {p : Option Addr} {n c : Nat} {xs : List Nat} (h : In w p n c xs) (h0 : 0 < (vals xs).length) :
    ∃ ad, p = some ad ∧ ∀ j v, (vals xs)[j]? = some v → w.cell? (ad.add j) = some v := by
  have hl := h.len
  rw [vals_length] at h0
  obtain ⟨b, o, hp, _, _⟩ := h.at' (by omega)
  exact ⟨_, hp, h.cells hp⟩
theorem vals_take (xs : List Nat) (n : Nat) : vals (xs.take n) = (vals xs).take n := by simp [vals, List.map_take]
/-- 'copy' of a source that is as long, or longer, into a new row of zeros. -/
theorem copy_run {w0 w1 : World} {B g n : Nat} (hB : B ≤ g) (h1 : w1.heap[g]? = some (.cells (zerosV n).toArray 5 (0, 0))) (hbel : Below B w0 w1) {p : Option Addr} {m c : Nat} {xs : List Nat}
    (hx : In w1 p m c xs) (hnm : n ≤ m) (hn : n ≤ maxLen) :
    ∃ w2, (Builtin.copy_ #[22, 22] 3 #[.slice (some ⟨g, 0, none⟩) n n, .slice p m c]).run Try.prog w1 = .ok (.int .i64 (n : Int)) w2 ∧
      w2.ownsRow B 5 1 (.slice (some ⟨g, 0, none⟩) n n) n (vals (xs.take n)) ∧ Below B w0 w2 := by
  have hl := hx.len
  have hlen : (vals (xs.take n)).length = n := by rw [vals_length, List.length_take]; omega
  rcases Nat.eq_zero_or_pos n with h0 | h0
  · subst h0
    refine ⟨w1, run_copy_none (P := Try.prog) w1 22 22 3 5 _ p 0 0 m c Try.underlying22 size5 (by simp), owns_of_block hB hlen hn ?_, hbel⟩
    have e : vals (xs.take 0) = zerosV 0 := by simp [vals, zerosV]
    rw [e]; exact h1
  · obtain ⟨b, o, rfl, _, hc⟩ := hx.at' (by omega)
    have hrun := run_copy_row (P := Try.prog) w1 22 22 3 5 g 0 n n ⟨b, o, none⟩ m c (zerosV n).toArray 5 (vals (xs.take n)) Try.underlying22 size5 h1
      (by rw [hlen]; exact (Nat.min_eq_right hnm).symm)
      (fun j v hj => by
        rw [vals_take] at hj
        have hjn : j < n := by
          rcases Nat.lt_or_ge j n with h' | h'
          · exact h'
          · rw [List.getElem?_eq_none (by rw [List.length_take]; omega)] at hj; simp at hj
        rw [List.getElem?_take_of_lt hjn] at hj
        exact hx.cells rfl j v hj)
      (by simp [hlen, zerosV]) (vals_one _)
    rw [hlen] at hrun
    refine ⟨_, hrun, owns_of_block hB hlen hn ?_, below_setRow hbel hB _⟩
    have := setRow_heap w1 g _ ((zerosV n).toArray.toList.take 0 ++ vals (xs.take n) ++ (zerosV n).toArray.toList.drop (0 + n)).toArray 5 (0, 0) h1
    rw [this]
    simp [zerosV]
/-- A literal of bytes in a new block. -/
theorem in_lit (w : World) {cs : Array Value} {xs : List Nat} {n : Nat} (h : cs.toList = vals xs) (hn : xs.length = n) (hb : ∀ x ∈ xs, x < 256) (hr : n ≤ 140737488355328) :
    In (w.alloc (.cells cs 5)) (some ⟨w.heap.size, 0, none⟩) n n xs := by
  have hs : cs.size = n * 1 := by rw [← Array.length_toList, h, vals_length, hn, Nat.mul_one]
  have ho := World.ownsRow_lit (e := 5) (size := 1) (base := 0) w cs n (Nat.zero_le _) (by unfold maxLen; omega) hs
  rw [h] at ho
  obtain ⟨p, c, hv, hin⟩ := in_of_owns ho hb hr
  cases hv
  exact hin
theorem below_alloc (w : World) (o : Obj) : Below w.heap.size w (w.alloc o) := (Below.refl _ _).alloc (Nat.le_refl _) o
theorem owns_below {w w' : World} {B : Nat} {e : TypeId} {s : Nat} {v : Value} {n : Nat} {xs : List Value} (h : w.ownsRow B e s v n xs) (hb : Below w.heap.size w w') : w'.ownsRow B e s v n xs := by
  refine ⟨h.1, ?_⟩
  rcases h.2 with h' | ⟨g, cap, cur, rfl, hg, hh, hr⟩
  · exact .inl h'
  · refine .inr ⟨g, cap, cur, rfl, hg, ?_, hr⟩
    have hlt : g < w.heap.size := by
      rcases Nat.lt_or_ge g w.heap.size with h' | h'
      · exact h'
      · rw [Array.getElem?_eq_none h'] at hh; simp at hh
    rw [hb.block g hlt]; exact hh
theorem below_grown0 {w w1 : World} (h : w.grownBy w1 none) : Below w.heap.size w w1 := (Below.refl _ _).grown h (Nat.le_refl _) (fun _ h => by cases h)
end Go.Proofs.Ytikigfjdddgkpaa
