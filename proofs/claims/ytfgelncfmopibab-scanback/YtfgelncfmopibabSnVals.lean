/-
  slices.Values over a slice of places: what its iterator gives.
-/
import Derived.Test.YtfgelncfmopibabSnChunk
namespace Go.Proofs.Ytfgelncfmopibab
open Go.RowKit Go.Shelf
attribute [local go_sem] Oper.semAt_some
/-- A place below N. -/
abbrev IdxT (N : Nat) := { k : Nat // k < N }
/-- Places as numbers. -/
def valsK {N : Nat} (ks : List (IdxT N)) : List Int := ks.map fun k => (k.1 : Int)
theorem valsK_length {N : Nat} (ks : List (IdxT N)) : (valsK ks).length = ks.length := by simp [valsK]
theorem valsK_get {N : Nat} (ks : List (IdxT N)) (k : Nat) (h : k < ks.length) : eI (valsK ks) k = (ks[k].1 : Int) := by simp [valsK, eI, h]
theorem takeK_succ {N : Nat} {ks : List (IdxT N)} {k : Nat} (h : k < ks.length) : ks.take (k + 1) = ks.take k ++ [ks[k]] := List.take_succ_eq_append_getElem h
/-- What yield is handed. -/
def encK {N : Nat} (x : IdxT N) : Array Value := #[.int .i64 (x.1 : Int)]
/-- The block of a slice's box and that of its elements lie as they lay. -/
def KpK (Bs : Nat) (p : Option Addr) (A B : World) : Prop := (B.heap[Bs]? = A.heap[Bs]? ∧ A.heap.size ≤ B.heap.size) ∧ ∀ a, p = some a → B.heap[a.block]? = A.heap[a.block]?
theorem KpK.refl (Bs : Nat) (p : Option Addr) (A : World) : KpK Bs p A A := ⟨⟨rfl, Nat.le_refl _⟩, fun _ _ => rfl⟩
theorem KpK.trans {Bs : Nat} {p : Option Addr} {A B C : World} (h : KpK Bs p A B) (k : KpK Bs p B C) : KpK Bs p A C := ⟨⟨k.1.1.trans h.1.1, Nat.le_trans h.1.2 k.1.2⟩, fun a e => (k.2 a e).trans (h.2 a e)⟩
theorem InI.keptK {Bs : Nat} {A B : World} {p : Option Addr} {n c : Nat} {xs : List Int} (hp : InI A p n c xs) (h : KpK Bs p A B) : InI B p n c xs := by
  refine ⟨hp.len, hp.cap, hp.max, hp.room, fun h0 => ?_, hp.nil⟩
  obtain ⟨b, o, e, hlt, hc⟩ := hp.at' h0
  exact ⟨b, o, e, Nat.lt_of_lt_of_le hlt h.1.2, fun i hi => (World.cell?_of_block (a := ⟨b, o + i, none⟩) (h.2 ⟨b, o, none⟩ e)).trans (hc i hi)⟩
set_option maxRecDepth 100000 in
set_option maxHeartbeats 2000000 in
/-- slices.Values's closure, for every loop body that keeps what lay below n₀. -/
theorem values1_in {N : Nat} (F : Fence) (n : Nat) (h7 : F.fn 79) (hro : F.round = none) (hn : 1 ≤ n) (l Bs c : Nat) (p : Option Addr) (ks : List (IdxT N)) (J Jx : List (IdxT N) → World → Prop) (W : World)
    (hY : ∀ pre x W, J pre W → pre.length < ks.length → YieldAt F (n - 1) Try.prog l (encK x) W fun e W' =>
      (e = .returned (.bool true) ∧ J (pre ++ [x]) W' ∧ KpK Bs p W W') ∨ (e = .returned (.bool false) ∧ Jx (pre ++ [x]) W'))
    (hBs : W.cell? ⟨Bs, 0, none⟩ = some (.slice p ks.length c)) (hp : InI W p ks.length c (valsK ks)) (h0 : J [] W) :
    CallsIn F n Try.prog 79 #[.func (.yield l) #[] #[], .pointer (some ⟨Bs, 0, none⟩)] W fun e W' => (∃ v, e = .returned v) ∧
      ((∃ ys, ys = ks ∧ J ys W') ∨ (∃ pre, (∃ k, k ≤ ks.length ∧ pre = ks.take k) ∧ Jx pre W')) := by
  have hroom := hp.room
  refine callsIn_of_wp Try.func79 rfl h7 ?_ hro
  simp only [Try.ntmps79, List.size_toArray, List.length_cons, List.length_nil, Nat.reduceAdd, Nat.reduceSub, Array.replicate_succ, Array.replicate_zero, List.push_toArray, List.append_toArray, List.nil_append, List.cons_append]
  gi_wp2
  gi_loopw [7] (fun i wr => ∃ k : Nat, k ≤ ks.length ∧ i = .int .i64 k ∧ J (ks.take k) wr ∧ KpK Bs p W wr) (fun i _ => ks.length - (intOf i).toNat)
  case atStart => exact ⟨0, Nat.zero_le _, rfl, by simpa using h0, KpK.refl _ _ _⟩
  case round =>
    obtain ⟨k, hk, rfl, hJs, hnx⟩ := hrel
    by_cases hlt : k < ks.length
    · have hpx := hp.keptK hnx
      obtain ⟨b, o, rfl, _, hc⟩ := hpx.at' (by omega)
      have hcx := hc k hlt
      rw [valsK_get ks k hlt] at hcx
      obtain ⟨fn, tmps, assign, body, hy, hR⟩ := hY _ ks[k] _ hJs (by rw [List.length_take]; omega)
      have HU : Hid (ks.take (k + 1) = ks.take k ++ [ks[k]]) := takeK_succ hlt
      generalize ks[k] = x at *
      dsimp only [encK] at hy
      clear hc hpx hY
      gi_wp2
      refine hR.mono ?_
      rintro e W3 (⟨rfl, hJ3, hk3⟩ | ⟨rfl, hJx3⟩)
      · gi_wp2
        go_roundw
        case rel => exact ⟨k + 1, by omega, by simp, by rw [HU.out]; exact hJ3, hnx.trans hk3⟩
        case measure => simp [intOf]; omega
      · gi_wp2
        refine bodyPost_ret (results_none rfl _ _ _) rfl ?_
        exact ⟨⟨_, rfl⟩, .inr ⟨_, ⟨k + 1, by omega, HU.out.symm⟩, hJx3⟩⟩
    · obtain rfl : k = ks.length := by omega
      rw [List.take_length] at hJs
      gi_wp2
      go_end0
      exact ⟨⟨_, rfl⟩, .inl ⟨_, rfl, hJs⟩⟩
/-- What slices.Values hands back goes through the places, in order; or through the first of them. -/
theorem values_stops {N : Nat} (F : Fence) (n : Nat) (h7 : F.fn 79) (hro : F.round = none) (hn : 1 ≤ n) (Bs c : Nat) (p : Option Addr) (ks : List (IdxT N)) (w : World) (hBs : Bs < w.heap.size)
    (hc : w.cell? ⟨Bs, 0, none⟩ = some (.slice p ks.length c)) (hI : InI w p ks.length c (valsK ks)) :
    SeqStopsK F n Try.prog 79 #[.pointer (some ⟨Bs, 0, none⟩)] encK (KpK Bs p) (fun ys => ys = ks) (fun pre => ∃ k, k ≤ ks.length ∧ pre = ks.take k) ks.length w := fun l J Jx W hW _ _ hY h0 =>
  values1_in F n h7 hro hn l Bs c p ks J Jx W hY ((hW.cell (p := ⟨Bs, 0, none⟩) hBs).trans hc) (hI.below hW) h0
theorem compact_mem {l : List Int} {x : Int} (h : x ∈ Lib.compact l) : x ∈ l := by
  unfold Lib.compact Lib.compactUpTo at h
  obtain ⟨i, hi, rfl⟩ := List.mem_map.1 h
  have hi' : i < l.length := by simpa using (List.mem_filter.1 hi).1
  simp [hi']
theorem needed_range {zs : List Pl} {x : Int} (h : x ∈ neededL zs) : 0 ≤ x ∧ x < 256 := by
  unfold neededL at h
  have h1 := compact_mem h
  rw [List.mem_mergeSort] at h1
  unfold physL at h1
  obtain ⟨z, hz, rfl⟩ := List.mem_map.1 h1
  have := (List.mem_filter.1 hz).2
  unfold isPl onB at this
  simp only [decide_eq_true_eq] at this
  omega
theorem idx_of {N : Nat} (l : List Int) (h : ∀ x ∈ l, 0 ≤ x ∧ x < (N : Int)) : ∃ ks : List (IdxT N), valsK ks = l := by
  induction l with
  | nil => exact ⟨[], rfl⟩
  | cons x l ih =>
    obtain ⟨ks, hks⟩ := ih (fun y hy => h y (List.mem_cons_of_mem _ hy))
    have hx := h x (List.mem_cons_self ..)
    refine ⟨⟨x.toNat, by omega⟩ :: ks, ?_⟩
    simp only [valsK, List.map_cons]
    rw [show ((x.toNat : Nat) : Int) = x by omega]
    congr 1
end Go.Proofs.Ytfgelncfmopibab
