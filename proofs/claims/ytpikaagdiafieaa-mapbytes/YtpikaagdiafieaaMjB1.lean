/-
  Bytes of a page: what put and take do.
-/
import Derived.Test.YtpikaagdiafieaaS6All
import Derived.Test.YtpikaagdiafieaaMjPage
namespace Go.Proofs.Ytpikaagdiafieaa
open Go.RowKit
theorem vals_splice (xs : List Nat) (k : Nat) (ys : List Nat) : vals (splice xs k ys) = splice (vals xs) k (vals ys) := by
  simp [splice, vals, List.map_take, List.map_drop]
/-- Some bytes of a row. -/
def subL (xs : List Nat) (a n : Nat) : List Nat := (xs.drop a).take n
theorem subL_length {xs : List Nat} {a n : Nat} (h : a + n ≤ xs.length) : (subL xs a n).length = n := by simp [subL]; omega
theorem splice_length {xs ys : List Nat} {k : Nat} (h : k + ys.length ≤ xs.length) : (splice xs k ys).length = xs.length := length_splice xs k ys h
theorem In.sub {w : World} {b o n c : Nat} {xs : List Nat} (h : In w (some ⟨b, o, none⟩) n c xs) (a e : Nat) (ha : a < e) (he : e ≤ n) : In w (some ⟨b, o + a, none⟩) (e - a) (c - a) (subL xs a (e - a)) := by
  have hl := h.len
  have hc := h.cap
  have hm := h.max
  have hr := h.room
  refine ⟨by rw [subL_length (by omega)], by omega, by omega, by omega, fun x hx => h.byte x (List.mem_of_mem_drop (List.mem_of_mem_take hx)), fun _ => ?_, fun h => by cases h⟩
  obtain ⟨b', o', hp, hlt, hcl⟩ := h.at' (by omega)
  cases hp
  refine ⟨b, o + a, rfl, hlt, fun i hi => ?_⟩
  rw [Nat.add_assoc, hcl (a + i) (by omega)]
  simp [el, subL, List.getElem?_take_of_lt hi, List.getElem?_drop]
theorem slice_lh (b o n c a e : Nat) (ha : a < e) (he : e ≤ n) (hc : n ≤ c) (W : World) : (Instr.slice 53 (.slice (some ⟨b, o, none⟩) n c) (some (.int .i64 (a : Int))) (some (.int .i64 (e : Int))) none).run Try.prog W = .ok (.slice (some ⟨b, o + a, none⟩) (e - a) (c - a)) W := by
  have h1 : ¬ c = a := by omega
  have h2 : a ≤ e := by omega
  have h3 : e ≤ c := by omega
  simp [Instr.slice, Instr.sliceBounds, Instr.sliceBound, run_underlying Try.underlying53, asIntOf, h1, h2, h3, addr_add]
theorem slice_lo (b o n c a : Nat) (ha : a < n) (hc : n ≤ c) (W : World) : (Instr.slice 53 (.slice (some ⟨b, o, none⟩) n c) (some (.int .i64 (a : Int))) none none).run Try.prog W = .ok (.slice (some ⟨b, o + a, none⟩) (n - a) (c - a)) W := by
  have h1 : ¬ c = a := by omega
  simp [Instr.slice, Instr.sliceBounds, Instr.sliceBound, run_underlying Try.underlying53, asIntOf, h1, addr_add]
  intro h3; omega
theorem packL_length {ws : List Int} {vs : List Nat} (h : packOk ws vs = true) : (packL ws vs).length = bytesW ws := by
  unfold packL; rw [if_pos h, packTo_length, List.length_replicate]
theorem packE_ok {ws : List Int} {vs : List Nat} (h : packOk ws vs = true) : packE ws vs = 0 := by unfold packE; rw [if_pos h]
theorem wrap64_add {a b : Nat} (h : a + b ≤ 100000000) : wrap64 ((a : Int) + (b : Int)) = ((a + b : Nat) : Int) := by
  rw [← IntWalk.i64_left, IntKind.wrap_i64]; omega
/-- copy of all of a source to place k of a row. -/
theorem copy_at {w : World} {g N k m c d : Nat} {p : Option Addr} {xs ys : List Nat} (h : Blk w g 5 (vals xs)) (hl : xs.length = N) (hx : In w p m c ys) (hk : k + m ≤ N) (hm : 1 ≤ m) :
    ∃ w', (Builtin.copy_ #[53, 53] 3 #[.slice (some ⟨g, k, none⟩) (N - k) d, .slice p m c]).run Try.prog w = .ok (.int .i64 (m : Int)) w' ∧ Blk w' g 5 (vals (splice xs k ys)) ∧ Turned w w' g := by
  have hlen : (vals ys).length = m := by rw [vals_length]; exact hx.len
  obtain ⟨b, o, rfl, _, hc⟩ := hx.at' (by omega)
  have hrun := run_copy_row (P := Try.prog) w 53 53 3 5 g k (N - k) d ⟨b, o, none⟩ m c (vals xs).toArray 5 (vals ys) Try.underlying53 size5 h
    (by rw [hlen]; exact (Nat.min_eq_left (by omega)).symm) (fun j v hj => hx.cells rfl j v hj) (by rw [hlen, List.size_toArray, vals_length, hl]; exact hk) (vals_one _)
  rw [hlen] at hrun
  refine ⟨_, hrun, ?_, Turned.setRow _ _ _⟩
  have e : vals (splice xs k ys) = (vals xs).toArray.toList.take k ++ vals ys ++ (vals xs).toArray.toList.drop (k + m) := by
    rw [vals_splice]; unfold splice; rw [hlen, List.append_assoc]
  rw [e]
  exact h.setRow _
set_option linter.unusedSimpArgs false in
set_option maxRecDepth 100000 in
set_option maxHeartbeats 1000000 in
theorem put_any (B g N k m : Nat) (xs ys : List Nat) (wp : Option Addr) (wn wc : Nat) (ws : List Int) (vp : Option Addr) (vn vc : Nat) (vs : List Nat) (w : World) (hB : B ≤ g) (hg : Blk w g 5 (vals xs)) (hl : xs.length = N) (hN : N ≤ 100000)
    (hw : InI w wp wn wc ws) (hv : In64 w vp vn vc vs) (hok : packOk ws vs = true) (hm : bytesW ws = m) (hm1 : 1 ≤ m) (hk : k + m ≤ N) (hy : packL ws vs = ys) :
    Calls Try.prog 79 #[.slice (some ⟨g, 0, none⟩) N N, .int .i64 (k : Int), .slice wp wn wc, .slice vp vn vc] w fun e w' =>
      e = .returned (.int .i64 ((k + m : Nat) : Int)) ∧ Blk w' g 5 (vals (splice xs k ys)) ∧ Below B w w' ∧ ∀ j, j < w.heap.size → j ≠ g → w'.heap[j]? = w.heap[j]? := by
  have hyl : ys.length = m := by rw [← hy, packL_length hok, hm]
  have hp := pack_any wp vp wn wc vn vc ws vs w hw hv
  rw [packE_ok hok, hy] at hp
  have HY : Hid (ys.length = m) := hyl
  have HX : Hid (xs.length = N) := hl
  have hsl := slice_lo g 0 N N k (by omega) (Nat.le_refl _)
  rw [Nat.zero_add] at hsl
  have HN : Hid (N ≤ 100000) := hN
  have HK : Hid (k + m ≤ N) := hk
  clear hyl hl hok hm hy hN hk
  go_enter Try.func79, Try.ntmps79
  go_upto_region 2 with (go_at_call 91; refine hp.mono ?_; rintro e w1 ⟨p', n', c', rfl, hin, hb1⟩; have hn' : n' = m := by { rw [← hin.len]; exact HY.out }; subst hn'; have hg1 := hg.kept hb1; have hB1 : Below B w w1 := hb1.mono (Nat.le_trans hB (Nat.le_of_lt hg.lt)); clear hp)
  clear hw hv
  obtain ⟨w2, hcp, hg2, ht2⟩ := copy_at (d := N - k) hg1 HX.out hin HK.out hm1
  have HG2 : Hid (Blk w2 g 5 (vals (splice xs k ys))) := hg2
  have HB2 : Hid (Below B w w2) := ht2.below hB1 hB
  have HJ2 : Hid (∀ j, j < w.heap.size → j ≠ g → w2.heap[j]? = w.heap[j]?) := fun j hj hne => (ht2.block j hne).trans (hb1.block j hj)
  clear hin hg1 hB1 hg hg2 ht2 hb1
  go_wp2
  go_ret
  exact ⟨ret_int (wrap64_add (by have := HK.out; have := HN.out; omega)), HG2.out, HB2.out, HJ2.out⟩
end Go.Proofs.Ytpikaagdiafieaa
