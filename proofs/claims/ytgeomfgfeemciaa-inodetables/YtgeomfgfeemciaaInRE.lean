/-
  What the reference's Encode of inodes answers.
-/
import Derived.Test.YtgeomfgfeemciaaInRB
import Derived.Test.YtgeomfgfeemciaaInQ
import Derived.Test.YtgeomfgfeemciaaInJ
import Derived.Test.YtgeomfgfeemciaaRefPack
namespace Go.Proofs.Ytgeomfgfeemciaa
open Go.RowKit
theorem in_litI (w : World) {cs : Array Value} {xs : List Int} {n : Nat} (h : cs.toList = xs.map (Value.int .i64)) (hn : xs.length = n) (hr : n ≤ 140737488355328) :
    InI (w.alloc (.cells cs 3)) (some ⟨w.heap.size, 0, none⟩) n n xs := by
  have hs : cs.size = n * 1 := by rw [← Array.length_toList, h, List.length_map, hn, Nat.mul_one]
  have ho := World.ownsRow_lit (e := 3) (size := 1) (base := 0) w cs n (Nat.zero_le _) (by unfold maxLen; omega) hs
  refine ⟨hn, Nat.le_refl _, by unfold maxLen; omega, hr, fun _ => ⟨w.heap.size, 0, rfl, by simp, fun i hi => ?_⟩⟩
  rw [Nat.zero_add, ho.cellAt i (by omega), h]
  simp [eI, hn, hi]
theorem in_lit64 (w : World) {cs : Array Value} {xs : List Nat} {n : Nat} (h : cs.toList = xs.map (fun x : Nat => Value.int .u64 (x : Int))) (hn : xs.length = n) (hl : ∀ x ∈ xs, x < 18446744073709551616) (hr : n ≤ 140737488355328) :
    In64 (w.alloc (.cells cs 54)) (some ⟨w.heap.size, 0, none⟩) n n xs := by
  have hs : cs.size = n * 1 := by rw [← Array.length_toList, h, List.length_map, hn, Nat.mul_one]
  have ho := World.ownsRow_lit (e := 54) (size := 1) (base := 0) w cs n (Nat.zero_le _) (by unfold maxLen; omega) hs
  refine ⟨hn, Nat.le_refl _, by unfold maxLen; omega, hr, hl, fun _ => ⟨w.heap.size, 0, rfl, by simp, fun i hi => ?_⟩⟩
  rw [Nat.zero_add, ho.cellAt i (by omega), h]
  simp [el, hn, hi]
theorem headW_any (w : World) : Calls Try.prog 32 #[] w fun e w' => ∃ p, e = .returned (.slice p 8 8) ∧ InI w' p 8 8 hW ∧ Below w.heap.size w w' := by
  go_enter Try.func32, Try.ntmps32
  go_wp2
  go_ret
  exact ⟨_, rfl, in_litI w (cs := #[.int .i64 8, .int .i64 8, .int .i64 8, .int .i64 8, .int .i64 32, .int .i64 64, .int .i64 32, .int .i64 32]) rfl rfl (by decide), below_alloc _ _⟩
theorem rootW_any (w : World) : Calls Try.prog 33 #[] w fun e w' => ∃ p, e = .returned (.slice p 3 3) ∧ InI w' p 3 3 rW ∧ Below w.heap.size w w' := by
  go_enter Try.func33, Try.ntmps33
  go_wp2
  go_ret
  exact ⟨_, rfl, in_litI w (cs := #[.int .i64 24, .int .i64 16, .int .i64 32]) rfl rfl (by decide), below_alloc _ _⟩
def lenS : Value → Nat
  | .slice _ n _ => n
  | _ => 0
theorem hV_lim {x : Ino} (h : Fit x) : ∀ v ∈ hV x, v < 18446744073709551616 := fun v hv => vsI_lim h v (by unfold vsI; exact List.mem_append_left _ hv)
theorem eV_lim {x : Ino} (h : Fit x) (k : Nat) : ∀ v ∈ eV (eE x.rt k), v < 18446744073709551616 := by
  have := h.rt k
  intro v hv
  simp only [eV, List.mem_cons, List.not_mem_nil, or_false] at hv
  omega
theorem hPart_len {x : Ino} (h : Fit x) : (packL hW (hV x)).length = 24 := by rw [packL_length (packH_ok h), hW_bytes]
theorem part_byte (x : Ino) (k : Nat) : ∀ b ∈ packL hW (hV x) ++ rtP x.rt k, b < 256 := by
  intro b hb
  rcases List.mem_append.1 hb with h | h
  · exact packL_byte _ _ b h
  · obtain ⟨i, _, hi⟩ := List.mem_flatMap.1 h
    exact packL_byte _ _ b hi
set_option linter.unusedSimpArgs false in
set_option linter.unusedVariables false in
set_option maxRecDepth 100000 in
set_option maxHeartbeats 8000000 in
theorem rencode14_any (x : Ino) (p : Option Addr) (n c : Nat) (w : World) (hx : InE w p n c x.rt) : Calls Try.prog 9 #[x.val p n c] w fun e w' => ∃ p' n' c', e = .returned (.tuple #[.slice p' n' c', .int .i64 (inoE x)]) ∧ In w' p' n' c' (encL x) ∧ Below w.heap.size w w' ∧ ∀ a, p' = some a → w.heap.size ≤ a.block := by
  obtain ⟨i0, hi, hz0, hz1, hz2⟩ := info_parts info5
  have hlen := hx.len
  obtain ⟨kd, lk, sz, nx, ge, dp, rt⟩ := x
  dsimp only at hx hlen
  have hb0 := below_alloc w (.cells #[.int .i64 kd, .int .i64 lk, .int .i64 sz, .int .i64 nx, .int .i64 ge, .int .i64 dp, .slice p n c] 24)
  have hx0 := hx.below hb0
  have r0 := Blk.new' w 24 #[.int .i64 kd, .int .i64 lk, .int .i64 sz, .int .i64 nx, .int .i64 ge, .int .i64 dp, .slice p n c]
  cases hm : inoB ⟨kd, lk, sz, nx, ge, dp, rt⟩ with
  | false =>
    rw [inoE_no hm, encL_no hm]
    have HE : Hid (inoE ⟨kd, lk, sz, nx, ge, dp, rt⟩ = 140) := inoE_no hm
    clear hm
    go_enter Try.func9, Try.ntmps9
    go_wp2_with fail
    refine (rcheck14_any ⟨kd, lk, sz, nx, ge, dp, rt⟩ p n c _ hx0).mono ?_
    rintro e w1 ⟨rfl, hb1⟩
    rw [HE.out]
    go_wp2
    go_ret2
    exact ⟨_, _, _, rfl, In.empty _, bt hb0 hb1, fun a h => by cases h⟩
  | true =>
    have hfit := Fit.of hm
    have HE : Hid (inoE ⟨kd, lk, sz, nx, ge, dp, rt⟩ = 0) := inoE_ok hm
    have HEP : Hid (encL ⟨kd, lk, sz, nx, ge, dp, rt⟩ = _) := enc_parts hm
    have HEL : Hid ((encL ⟨kd, lk, sz, nx, ge, dp, rt⟩).length = 64) := encL_len hm
    have HEB := encL_byte ⟨kd, lk, sz, nx, ge, dp, rt⟩
    rw [inoE_ok hm]
    have HF : Hid (Fit ⟨kd, lk, sz, nx, ge, dp, rt⟩) := hfit
    have HVL : Hid (∀ v ∈ hV ⟨kd, lk, sz, nx, ge, dp, rt⟩, v < 18446744073709551616) := hV_lim hfit
    have HPE : Hid (packE hW (hV ⟨kd, lk, sz, nx, ge, dp, rt⟩) = 0) := packE_ok (packH_ok hfit)
    have HPL : Hid ((packL hW (hV ⟨kd, lk, sz, nx, ge, dp, rt⟩)).length = 24) := hPart_len hfit
    obtain ⟨f1, f2, f3, f4, f5, f6, f7, _⟩ := hfit
    dsimp only at f1 f2 f3 f4 f5 f6 f7
    obtain ⟨kd, rfl⟩ := Int.eq_ofNat_of_zero_le f1.1
    obtain ⟨lk, rfl⟩ := Int.eq_ofNat_of_zero_le f2.1
    obtain ⟨sz, rfl⟩ := Int.eq_ofNat_of_zero_le f3.1
    obtain ⟨nx, rfl⟩ := Int.eq_ofNat_of_zero_le f4.1
    obtain ⟨ge, rfl⟩ := Int.eq_ofNat_of_zero_le f5.1
    obtain ⟨dp, rfl⟩ := Int.eq_ofNat_of_zero_le f6.1
    have u1 := wrapU kd (by omega)
    have u2 := wrapU lk (by omega)
    have u3 := wrapU sz (by omega)
    have u4 := wrapU nx (by omega)
    have u5 := wrapU ge (by omega)
    have u6 := wrapU dp (by omega)
    have u7 := wrapU n (by omega)
    have hn4 : n ≤ 4 := by omega
    have HHV : Hid (hV ⟨(kd : Int), (lk : Int), (sz : Int), (nx : Int), (ge : Int), (dp : Int), rt⟩ = [kd, dp, n, 0, lk, sz, nx, ge]) := by show _ = _; unfold hV; simp only [Int.toNat_natCast, hlen]
    rw [HHV.out] at HVL HPE HPL HEP
    have HLN : Hid (rt.length = n) := hlen
    clear hm f1 f2 f3 f4 f5 f6 f7 hlen
    go_enter Try.func9, Try.ntmps9
    go_wp2_with fail
    refine (rcheck14_any ⟨(kd : Int), (lk : Int), (sz : Int), (nx : Int), (ge : Int), (dp : Int), rt⟩ p n c _ hx0).mono ?_
    rintro e w1 ⟨rfl, hb1⟩
    rw [HE.out]
    have r1 := r0.kept hb1
    have hB1 := bt hb0 hb1
    have hx1 := hx0.below hb1
    clear hb0 hb1 r0 hx0 hx
    go_upto_region 4 with fail
    generalize w1 = V at *
    go_cut [5] from 10 (fun s5 wc => ∃ q5 e5, s5 = .slice q5 24 e5 ∧ wc.ownsRow V.heap.size 5 1 (.slice q5 24 e5) 24 (vals (packL hW [kd, dp, n, 0, lk, sz, nx, ge])) ∧ Blk wc w.heap.size 24 [.int .i64 kd, .int .i64 lk, .int .i64 sz, .int .i64 nx, .int .i64 ge, .int .i64 dp, .slice p n c] ∧ Below V.heap.size V wc)
    case first =>
      refine wp_region_noPanic ?_
      refine wp_region_held_drew (S := (fun Y => Blk Y w.heap.size 24 [.int .i64 kd, .int .i64 lk, .int .i64 sz, .int .i64 nx, .int .i64 ge, .int .i64 dp, .slice p n c] ∧ Below V.heap.size V Y)) (by kernel_rfl) ⟨r1.drew, (Below.refl _ _).drew⟩ (fun hHeld => ?_)
      generalize V.drew = X0 at *
      refine wpAnyH_take (i := 1) (v := ?_) rfl (by kernel_rfl) (by kernel_rfl) (by kernel_rfl) (fun _ _ _ h => h) (Or.inl ⟨by rfl, ?_⟩) hHeld ?_
      rotate_left
      · intro w' hSw; try dsimp only at hSw
        go_simp; try (with_reducible rfl)
      try simp only [Act.put, List.getElem_toArray, List.getElem_cons_succ, List.getElem_cons_zero, List.setIfInBounds_toArray, List.set_cons_zero, List.set_cons_succ]
      refine wpAnyH_take (i := 2) (v := ?_) rfl (by kernel_rfl) (by kernel_rfl) (by kernel_rfl) (fun _ _ _ h => h) (Or.inl ⟨by rfl, ?_⟩) hHeld ?_
      rotate_left
      · intro w' hSw; try dsimp only at hSw
        obtain ⟨d0, d1, d2, d3, d4, d5, d6⟩ := hSw.1.ino7
        go_simp; try (with_reducible rfl)
      try simp only [Act.put, List.getElem_toArray, List.getElem_cons_succ, List.getElem_cons_zero, List.setIfInBounds_toArray, List.set_cons_zero, List.set_cons_succ]
      refine wpAnyH_take (i := 3) (v := ?_) rfl (by kernel_rfl) (by kernel_rfl) (by kernel_rfl) (fun _ _ _ h => h) (Or.inl ⟨by rfl, ?_⟩) hHeld ?_
      rotate_left
      · intro w' hSw; try dsimp only at hSw
        go_simp; try (with_reducible rfl)
      try simp only [Act.put, List.getElem_toArray, List.getElem_cons_succ, List.getElem_cons_zero, List.setIfInBounds_toArray, List.set_cons_zero, List.set_cons_succ]
      refine wpAnyH_take (i := 4) (v := ?_) rfl (by kernel_rfl) (by kernel_rfl) (by kernel_rfl) (fun _ _ _ h => h) (Or.inl ⟨by rfl, ?_⟩) hHeld ?_
      rotate_left
      · intro w' hSw; try dsimp only at hSw
        go_simp; try (with_reducible rfl)
      try simp only [Act.put, List.getElem_toArray, List.getElem_cons_succ, List.getElem_cons_zero, List.setIfInBounds_toArray, List.set_cons_zero, List.set_cons_succ]
      refine wpAnyH_take (i := 5) (v := ?_) rfl (by kernel_rfl) (by kernel_rfl) (by kernel_rfl) (fun _ _ _ h => h) (Or.inl ⟨by rfl, ?_⟩) hHeld ?_
      rotate_left
      · intro w' hSw; try dsimp only at hSw
        obtain ⟨d0, d1, d2, d3, d4, d5, d6⟩ := hSw.1.ino7
        go_simp; try (with_reducible rfl)
      try simp only [Act.put, List.getElem_toArray, List.getElem_cons_succ, List.getElem_cons_zero, List.setIfInBounds_toArray, List.set_cons_zero, List.set_cons_succ]
      refine wpAnyH_take (i := 6) (v := ?_) rfl (by kernel_rfl) (by kernel_rfl) (by kernel_rfl) (fun _ _ _ h => h) (Or.inl ⟨by rfl, ?_⟩) hHeld ?_
      rotate_left
      · intro w' hSw; try dsimp only at hSw
        go_simp; try (with_reducible rfl)
      try simp only [Act.put, List.getElem_toArray, List.getElem_cons_succ, List.getElem_cons_zero, List.setIfInBounds_toArray, List.set_cons_zero, List.set_cons_succ]
      refine wpAnyH_take (i := 7) (v := ?_) rfl (by kernel_rfl) (by kernel_rfl) (by kernel_rfl) (fun _ _ _ h => h) (Or.inl ⟨by rfl, ?_⟩) hHeld ?_
      rotate_left
      · intro w' hSw; try dsimp only at hSw
        go_simp; try (with_reducible rfl)
      try simp only [Act.put, List.getElem_toArray, List.getElem_cons_succ, List.getElem_cons_zero, List.setIfInBounds_toArray, List.set_cons_zero, List.set_cons_succ]
      refine wpAnyH_take (i := 8) (v := ?_) rfl (by kernel_rfl) (by kernel_rfl) (by kernel_rfl) (fun _ _ _ h => h) (Or.inl ⟨by rfl, ?_⟩) hHeld ?_
      rotate_left
      · intro w' hSw; try dsimp only at hSw
        obtain ⟨d0, d1, d2, d3, d4, d5, d6⟩ := hSw.1.ino7
        go_simp; try (with_reducible rfl)
      try simp only [Act.put, List.getElem_toArray, List.getElem_cons_succ, List.getElem_cons_zero, List.setIfInBounds_toArray, List.set_cons_zero, List.set_cons_succ]
      refine wpAnyH_take (i := 9) (v := ?_) rfl (by kernel_rfl) (by kernel_rfl) (by kernel_rfl) (fun _ _ _ h => h) (Or.inl ⟨by rfl, ?_⟩) hHeld ?_
      rotate_left
      · intro w' hSw; try dsimp only at hSw
        go_simp; try (with_reducible rfl)
      try simp only [Act.put, List.getElem_toArray, List.getElem_cons_succ, List.getElem_cons_zero, List.setIfInBounds_toArray, List.set_cons_zero, List.set_cons_succ]
      refine wpAnyH_take (i := 10) (v := ?_) rfl (by kernel_rfl) (by kernel_rfl) (by kernel_rfl) (fun _ _ _ h => h) (Or.inl ⟨by rfl, ?_⟩) hHeld ?_
      rotate_left
      · intro w' hSw; try dsimp only at hSw
        go_simp; try (with_reducible rfl)
      try simp only [Act.put, List.getElem_toArray, List.getElem_cons_succ, List.getElem_cons_zero, List.setIfInBounds_toArray, List.set_cons_zero, List.set_cons_succ]
      refine wpAnyH_take (i := 11) (v := ?_) rfl (by kernel_rfl) (by kernel_rfl) (by kernel_rfl) (fun _ _ _ h => h) (Or.inl ⟨by rfl, ?_⟩) hHeld ?_
      rotate_left
      · intro w' hSw; try dsimp only at hSw
        go_simp; try (with_reducible rfl)
      try simp only [Act.put, List.getElem_toArray, List.getElem_cons_succ, List.getElem_cons_zero, List.setIfInBounds_toArray, List.set_cons_zero, List.set_cons_succ]
      refine wpAnyH_take (i := 12) (v := ?_) rfl (by kernel_rfl) (by kernel_rfl) (by kernel_rfl) (fun _ _ _ h => h) (Or.inl ⟨by rfl, ?_⟩) hHeld ?_
      rotate_left
      · intro w' hSw; try dsimp only at hSw
        obtain ⟨d0, d1, d2, d3, d4, d5, d6⟩ := hSw.1.ino7
        go_simp; try (with_reducible rfl)
      try simp only [Act.put, List.getElem_toArray, List.getElem_cons_succ, List.getElem_cons_zero, List.setIfInBounds_toArray, List.set_cons_zero, List.set_cons_succ]
      refine wpAnyH_take (i := 13) (v := ?_) rfl (by kernel_rfl) (by kernel_rfl) (by kernel_rfl) (fun _ _ _ h => h) (Or.inl ⟨by rfl, ?_⟩) hHeld ?_
      rotate_left
      · intro w' hSw; try dsimp only at hSw
        go_simp; try (with_reducible rfl)
      try simp only [Act.put, List.getElem_toArray, List.getElem_cons_succ, List.getElem_cons_zero, List.setIfInBounds_toArray, List.set_cons_zero, List.set_cons_succ]
      refine wpAnyH_take (i := 14) (v := ?_) rfl (by kernel_rfl) (by kernel_rfl) (by kernel_rfl) (fun _ _ _ h => h) (Or.inl ⟨by rfl, ?_⟩) hHeld ?_
      rotate_left
      · intro w' hSw; try dsimp only at hSw
        go_simp; try (with_reducible rfl)
      try simp only [Act.put, List.getElem_toArray, List.getElem_cons_succ, List.getElem_cons_zero, List.setIfInBounds_toArray, List.set_cons_zero, List.set_cons_succ]
      refine wpAnyH_take (i := 15) (v := ?_) rfl (by kernel_rfl) (by kernel_rfl) (by kernel_rfl) (fun _ _ _ h => h) (Or.inl ⟨by rfl, ?_⟩) hHeld ?_
      rotate_left
      · intro w' hSw; try dsimp only at hSw
        obtain ⟨d0, d1, d2, d3, d4, d5, d6⟩ := hSw.1.ino7
        go_simp; try (with_reducible rfl)
      try simp only [Act.put, List.getElem_toArray, List.getElem_cons_succ, List.getElem_cons_zero, List.setIfInBounds_toArray, List.set_cons_zero, List.set_cons_succ]
      refine wpAnyH_take (i := 16) (v := ?_) rfl (by kernel_rfl) (by kernel_rfl) (by kernel_rfl) (fun _ _ _ h => h) (Or.inl ⟨by rfl, ?_⟩) hHeld ?_
      rotate_left
      · intro w' hSw; try dsimp only at hSw
        go_simp; try (with_reducible rfl)
      try simp only [Act.put, List.getElem_toArray, List.getElem_cons_succ, List.getElem_cons_zero, List.setIfInBounds_toArray, List.set_cons_zero, List.set_cons_succ]
      refine wpAnyH_take (i := 17) (v := ?_) rfl (by kernel_rfl) (by kernel_rfl) (by kernel_rfl) (fun _ _ _ h => h) (Or.inl ⟨by rfl, ?_⟩) hHeld ?_
      rotate_left
      · intro w' hSw; try dsimp only at hSw
        go_simp; try (with_reducible rfl)
      try simp only [Act.put, List.getElem_toArray, List.getElem_cons_succ, List.getElem_cons_zero, List.setIfInBounds_toArray, List.set_cons_zero, List.set_cons_succ]
      refine wpAnyH_take (i := 18) (v := ?_) rfl (by kernel_rfl) (by kernel_rfl) (by kernel_rfl) (fun _ _ _ h => h) (Or.inl ⟨by rfl, ?_⟩) hHeld ?_
      rotate_left
      · intro w' hSw; try dsimp only at hSw
        obtain ⟨d0, d1, d2, d3, d4, d5, d6⟩ := hSw.1.ino7
        go_simp; try (with_reducible rfl)
      try simp only [Act.put, List.getElem_toArray, List.getElem_cons_succ, List.getElem_cons_zero, List.setIfInBounds_toArray, List.set_cons_zero, List.set_cons_succ]
      refine wpAnyH_take (i := 19) (v := ?_) rfl (by kernel_rfl) (by kernel_rfl) (by kernel_rfl) (fun _ _ _ h => h) (Or.inl ⟨by rfl, ?_⟩) hHeld ?_
      rotate_left
      · intro w' hSw; try dsimp only at hSw
        go_simp; try (with_reducible rfl)
      try simp only [Act.put, List.getElem_toArray, List.getElem_cons_succ, List.getElem_cons_zero, List.setIfInBounds_toArray, List.set_cons_zero, List.set_cons_succ]
      refine wpAnyH_take (i := 20) (v := ?_) rfl (by kernel_rfl) (by kernel_rfl) (by kernel_rfl) (fun _ _ _ h => h) (Or.inl ⟨by rfl, ?_⟩) hHeld ?_
      rotate_left
      · intro w' hSw; try dsimp only at hSw
        go_simp; try (with_reducible rfl)
      try simp only [Act.put, List.getElem_toArray, List.getElem_cons_succ, List.getElem_cons_zero, List.setIfInBounds_toArray, List.set_cons_zero, List.set_cons_succ]
      refine wpAnyH_take (i := 21) (v := ?_) rfl (by kernel_rfl) (by kernel_rfl) (by kernel_rfl) (fun _ _ _ h => h) (Or.inl ⟨by rfl, ?_⟩) hHeld ?_
      rotate_left
      · intro w' hSw; try dsimp only at hSw
        obtain ⟨d0, d1, d2, d3, d4, d5, d6⟩ := hSw.1.ino7
        go_simp; try (with_reducible rfl)
      try simp only [Act.put, List.getElem_toArray, List.getElem_cons_succ, List.getElem_cons_zero, List.setIfInBounds_toArray, List.set_cons_zero, List.set_cons_succ]
      refine wpAnyH_take (i := 22) (v := ?_) rfl (by kernel_rfl) (by kernel_rfl) (by kernel_rfl) (fun _ _ _ h => h) (Or.inl ⟨by rfl, ?_⟩) hHeld ?_
      rotate_left
      · intro w' hSw; try dsimp only at hSw
        go_simp; try (with_reducible rfl)
      try simp only [Act.put, List.getElem_toArray, List.getElem_cons_succ, List.getElem_cons_zero, List.setIfInBounds_toArray, List.set_cons_zero, List.set_cons_succ]
      refine wpAnyH_ready (rs := [0, 23]) (by kernel_rfl) (by simp) ?_
      refine AllReadyH.cons rfl (fun K hK => ?_) ?_
      · go_simp
        refine (headW_any _).mono ?_
        rintro e w3 ⟨p3, rfl, hin3, hb3⟩
        have hS3 := And.intro (hHeld.1.kept hb3) (bt hHeld.2 hb3)
        refine hK.out _ _ hS3 (fun hHeld => ?_)
        clear hK K
        try simp only [Act.put, List.getElem_toArray, List.getElem_cons_succ, List.getElem_cons_zero, List.setIfInBounds_toArray, List.set_cons_zero, List.set_cons_succ]
        refine wpAnyH_ready (rs := [23]) (by kernel_rfl) (by simp) ?_
        refine AllReadyH.cons rfl (fun K hK => ?_) AllReadyH.nil
        have hin3' := hin3
        go_simp
        have hl4 := in_lit64 w3 (cs := #[.int .u64 (kd : Int), .int .u64 (dp : Int), .int .u64 (n : Int), .int .u64 0, .int .u64 (lk : Int), .int .u64 (sz : Int), .int .u64 (nx : Int), .int .u64 (ge : Int)]) (xs := [kd, dp, n, 0, lk, sz, nx, ge]) (n := 8) rfl rfl HVL.out (by decide)
        have hk4 := below_alloc w3 (.cells #[.int .u64 (kd : Int), .int .u64 (dp : Int), .int .u64 (n : Int), .int .u64 0, .int .u64 (lk : Int), .int .u64 (sz : Int), .int .u64 (nx : Int), .int .u64 (ge : Int)] 54)
        have hS4 := And.intro (hHeld.1.kept hk4) (bt hHeld.2 hk4)
        refine hK.out _ _ hS4 (fun hHeld => ?_)
        clear hK K
        try simp only [Act.put, List.getElem_toArray, List.getElem_cons_succ, List.getElem_cons_zero, List.setIfInBounds_toArray, List.set_cons_zero, List.set_cons_succ]
        refine wpAnyH_ready (rs := [24]) (by kernel_rfl) (by simp) ?_
        refine AllReadyH.cons rfl (fun K hK => ?_) AllReadyH.nil
        go_simp
        refine (refPack_owns _ _ 8 8 8 8 hW [kd, dp, n, 0, lk, sz, nx, ge] _ (hin3.below hk4) hl4).mono ?_
        rintro e w5 ⟨v5, n5, rfl, hown5, hby5, hn5, hb5⟩
        rw [HPE.out]
        have hS5 := And.intro (hHeld.1.kept hb5) (bt hHeld.2 hb5)
        have hse5 := hHeld.2.size
        refine hK.out _ _ hS5 (fun hHeld => ?_)
        clear hK K
        try simp only [Act.put, List.getElem_toArray, List.getElem_cons_succ, List.getElem_cons_zero, List.setIfInBounds_toArray, List.set_cons_zero, List.set_cons_succ]
        refine wpAnyH_take (i := 25) (v := ?_) rfl (by kernel_rfl) (by kernel_rfl) (by kernel_rfl) (fun _ _ _ h => h) (Or.inl ⟨by rfl, ?_⟩) hHeld ?_
        rotate_left
        · intro w' hSw; try dsimp only at hSw
          go_simp; try (with_reducible rfl)
        try simp only [Act.put, List.getElem_toArray, List.getElem_cons_succ, List.getElem_cons_zero, List.setIfInBounds_toArray, List.set_cons_zero, List.set_cons_succ]
        refine wpAnyH_take (i := 26) (v := ?_) rfl (by kernel_rfl) (by kernel_rfl) (by kernel_rfl) (fun _ _ _ h => h) (Or.inl ⟨by rfl, ?_⟩) hHeld ?_
        rotate_left
        · intro w' hSw; try dsimp only at hSw
          go_simp; try (with_reducible rfl)
        try simp only [Act.put, List.getElem_toArray, List.getElem_cons_succ, List.getElem_cons_zero, List.setIfInBounds_toArray, List.set_cons_zero, List.set_cons_succ]
        refine wpAnyH_take (i := 27) (v := ?_) rfl (by kernel_rfl) (by kernel_rfl) (by kernel_rfl) (fun _ _ _ h => h) (Or.inl ⟨by rfl, ?_⟩) hHeld ?_
        rotate_left
        · intro w' hSw; try dsimp only at hSw
          go_simp; try (with_reducible rfl)
        try simp only [Act.put, List.getElem_toArray, List.getElem_cons_succ, List.getElem_cons_zero, List.setIfInBounds_toArray, List.set_cons_zero, List.set_cons_succ]
        refine wpAnyH_take (i := 28) (v := ?_) rfl (by kernel_rfl) (by kernel_rfl) (by kernel_rfl) (fun _ _ _ h => h) (Or.inl ⟨by rfl, ?_⟩) hHeld ?_
        rotate_left
        · intro w' hSw; try dsimp only at hSw
          go_simp; try (with_reducible rfl)
        try simp only [Act.put, List.getElem_toArray, List.getElem_cons_succ, List.getElem_cons_zero, List.setIfInBounds_toArray, List.set_cons_zero, List.set_cons_succ]
        refine wpAnyH_take (i := 29) (v := ?_) rfl (by kernel_rfl) (by kernel_rfl) (by kernel_rfl) (fun _ _ _ h => h) (Or.inl ⟨by rfl, ?_⟩) hHeld ?_
        rotate_left
        · intro w' hSw; try dsimp only at hSw
          go_simp; try (with_reducible rfl)
        try simp only [Act.put, List.getElem_toArray, List.getElem_cons_succ, List.getElem_cons_zero, List.setIfInBounds_toArray, List.set_cons_zero, List.set_cons_succ]
        refine wpAnyH_done (by kernel_rfl) ?_ _
        refine NoPanic.normal ?_
        obtain ⟨q5, e5, rfl⟩ := owns_slice hown5
        have hnn : n5 = 24 := by have h1 := hown5.1; rw [vals_length, HPL.out] at h1; omega
        subst hnn
        go_wp2_with fail
        go_meet
        case rel => exact ⟨q5, e5, rfl, owns_base hown5 hse5, hHeld.1, hHeld.2⟩
      refine AllReadyH.cons rfl (fun K hK => ?_) AllReadyH.nil
      go_simp
      have hl4 := in_lit64 X0 (cs := #[.int .u64 (kd : Int), .int .u64 (dp : Int), .int .u64 (n : Int), .int .u64 0, .int .u64 (lk : Int), .int .u64 (sz : Int), .int .u64 (nx : Int), .int .u64 (ge : Int)]) (xs := [kd, dp, n, 0, lk, sz, nx, ge]) (n := 8) rfl rfl HVL.out (by decide)
      have hk4 := below_alloc X0 (.cells #[.int .u64 (kd : Int), .int .u64 (dp : Int), .int .u64 (n : Int), .int .u64 0, .int .u64 (lk : Int), .int .u64 (sz : Int), .int .u64 (nx : Int), .int .u64 (ge : Int)] 54)
      have hS4 := And.intro (hHeld.1.kept hk4) (bt hHeld.2 hk4)
      refine hK.out _ _ hS4 (fun hHeld => ?_)
      clear hK K
      try simp only [Act.put, List.getElem_toArray, List.getElem_cons_succ, List.getElem_cons_zero, List.setIfInBounds_toArray, List.set_cons_zero, List.set_cons_succ]
      refine wpAnyH_ready (rs := [0]) (by kernel_rfl) (by simp) ?_
      refine AllReadyH.cons rfl (fun K hK => ?_) AllReadyH.nil
      go_simp
      refine (headW_any _).mono ?_
      rintro e w3 ⟨p3, rfl, hin3, hb3⟩
      have hS3 := And.intro (hHeld.1.kept hb3) (bt hHeld.2 hb3)
      refine hK.out _ _ hS3 (fun hHeld => ?_)
      clear hK K
      try simp only [Act.put, List.getElem_toArray, List.getElem_cons_succ, List.getElem_cons_zero, List.setIfInBounds_toArray, List.set_cons_zero, List.set_cons_succ]
      refine wpAnyH_ready (rs := [24]) (by kernel_rfl) (by simp) ?_
      refine AllReadyH.cons rfl (fun K hK => ?_) AllReadyH.nil
      go_simp
      refine (refPack_owns _ _ 8 8 8 8 hW [kd, dp, n, 0, lk, sz, nx, ge] _ hin3 (hl4.below hb3)).mono ?_
      rintro e w5 ⟨v5, n5, rfl, hown5, hby5, hn5, hb5⟩
      rw [HPE.out]
      have hS5 := And.intro (hHeld.1.kept hb5) (bt hHeld.2 hb5)
      have hse5 := hHeld.2.size
      refine hK.out _ _ hS5 (fun hHeld => ?_)
      clear hK K
      try simp only [Act.put, List.getElem_toArray, List.getElem_cons_succ, List.getElem_cons_zero, List.setIfInBounds_toArray, List.set_cons_zero, List.set_cons_succ]
      refine wpAnyH_take (i := 25) (v := ?_) rfl (by kernel_rfl) (by kernel_rfl) (by kernel_rfl) (fun _ _ _ h => h) (Or.inl ⟨by rfl, ?_⟩) hHeld ?_
      rotate_left
      · intro w' hSw; try dsimp only at hSw
        go_simp; try (with_reducible rfl)
      try simp only [Act.put, List.getElem_toArray, List.getElem_cons_succ, List.getElem_cons_zero, List.setIfInBounds_toArray, List.set_cons_zero, List.set_cons_succ]
      refine wpAnyH_take (i := 26) (v := ?_) rfl (by kernel_rfl) (by kernel_rfl) (by kernel_rfl) (fun _ _ _ h => h) (Or.inl ⟨by rfl, ?_⟩) hHeld ?_
      rotate_left
      · intro w' hSw; try dsimp only at hSw
        go_simp; try (with_reducible rfl)
      try simp only [Act.put, List.getElem_toArray, List.getElem_cons_succ, List.getElem_cons_zero, List.setIfInBounds_toArray, List.set_cons_zero, List.set_cons_succ]
      refine wpAnyH_take (i := 27) (v := ?_) rfl (by kernel_rfl) (by kernel_rfl) (by kernel_rfl) (fun _ _ _ h => h) (Or.inl ⟨by rfl, ?_⟩) hHeld ?_
      rotate_left
      · intro w' hSw; try dsimp only at hSw
        go_simp; try (with_reducible rfl)
      try simp only [Act.put, List.getElem_toArray, List.getElem_cons_succ, List.getElem_cons_zero, List.setIfInBounds_toArray, List.set_cons_zero, List.set_cons_succ]
      refine wpAnyH_take (i := 28) (v := ?_) rfl (by kernel_rfl) (by kernel_rfl) (by kernel_rfl) (fun _ _ _ h => h) (Or.inl ⟨by rfl, ?_⟩) hHeld ?_
      rotate_left
      · intro w' hSw; try dsimp only at hSw
        go_simp; try (with_reducible rfl)
      try simp only [Act.put, List.getElem_toArray, List.getElem_cons_succ, List.getElem_cons_zero, List.setIfInBounds_toArray, List.set_cons_zero, List.set_cons_succ]
      refine wpAnyH_take (i := 29) (v := ?_) rfl (by kernel_rfl) (by kernel_rfl) (by kernel_rfl) (fun _ _ _ h => h) (Or.inl ⟨by rfl, ?_⟩) hHeld ?_
      rotate_left
      · intro w' hSw; try dsimp only at hSw
        go_simp; try (with_reducible rfl)
      try simp only [Act.put, List.getElem_toArray, List.getElem_cons_succ, List.getElem_cons_zero, List.setIfInBounds_toArray, List.set_cons_zero, List.set_cons_succ]
      refine wpAnyH_done (by kernel_rfl) ?_ _
      refine NoPanic.normal ?_
      obtain ⟨q5, e5, rfl⟩ := owns_slice hown5
      have hnn : n5 = 24 := by have h1 := hown5.1; rw [vals_length, HPL.out] at h1; omega
      subst hnn
      go_wp2_with fail
      go_meet
      case rel => exact ⟨q5, e5, rfl, owns_base hown5 hse5, hHeld.1, hHeld.2⟩
    case rest =>
      obtain ⟨q5, e5, rfl, hown0, rB, hbw⟩ := hcut
      have hVw : Hid (w.heap.size < V.heap.size) := r1.lt
      have HBY : Hid (∀ k, ∀ b ∈ packL hW [kd, dp, n, 0, lk, sz, nx, ge] ++ rtP rt k, b < 256) := fun k => by have := part_byte ⟨(kd : Int), (lk : Int), (sz : Int), (nx : Int), (ge : Int), (dp : Int), rt⟩ k; rw [HHV.out] at this; exact this
      clear r1
      generalize packL hW [kd, dp, n, 0, lk, sz, nx, ge] = H at *
      go_wp2
      go_loopw [5, 7] (fun out i wr => ∃ (k m : Nat) (pl : Option Addr) (cl : Nat), k ≤ n ∧ Hid (m = 24 + 9 * k) ∧ out = .slice pl m cl ∧ i = .int .i64 k ∧ wr.ownsRow V.heap.size 5 1 (.slice pl m cl) m (vals (H ++ rtP rt k)) ∧ Blk wr w.heap.size 24 [.int .i64 kd, .int .i64 lk, .int .i64 sz, .int .i64 nx, .int .i64 ge, .int .i64 dp, .slice p n c] ∧ Below V.heap.size V wr) (fun _ i _ => n - (intOf i).toNat)
      case atStart => exact ⟨0, 24, q5, e5, Nat.zero_le _, rfl, rfl, rfl, by rw [show rtP rt 0 = [] from rfl, List.append_nil]; exact hown0, rB, hbw⟩
      case round =>
        obtain ⟨k, m, pl, cl, hk, HM, rfl, rfl, hown, rBr, hbel⟩ := hrel
        have dd := rBr.cell' (i := 6) rfl
        by_cases hlt : k < n
        · have hki : (k : Int) < (n : Int) := by omega
          have hm60 : m ≤ 60 := by have := HM.out; omega
          obtain ⟨b, o, hpe, hbl, hc⟩ := (hx1.below hbel).at' (by omega)
          subst hpe
          obtain ⟨e0, e1, e2⟩ := hc k hlt
          have hf := HF.out.rt k
          dsimp only at hf
          have HVL3 : Hid (∀ v ∈ eV (eE rt k), v < 18446744073709551616) := eV_lim HF.out k
          have HPE3 : Hid (packE rW (eV (eE rt k)) = 0) := packE_ok (packR HF.out k)
          have HPL3 : Hid ((packL rW (eV (eE rt k))).length = 9) := rP_len HF.out k
          have HRS : Hid (H ++ (rtP rt k ++ packL rW (eV (eE rt k))) = H ++ rtP rt (k + 1)) := by show _ = _; rw [rtP_succ]; rfl
          rw [← Int.toNat_of_nonneg hf.1] at e0
          rw [← Int.toNat_of_nonneg hf.2.2.1] at e1
          rw [← Int.toNat_of_nonneg hf.2.2.2.2.1] at e2
          have t1 : (eE rt k).lo.toNat < 65536 := by omega
          have t2 : (eE rt k).ln.toNat < 65536 := by omega
          have t3 : (eE rt k).ph.toNat < 65536 := by omega
          unfold eV at HVL3 HPE3 HPL3 HRS
          generalize (eE rt k).lo.toNat = x1 at *
          generalize (eE rt k).ln.toNat = x2 at *
          generalize (eE rt k).ph.toNat = x3 at *
          have v1 := wrapU x1 (by omega)
          have v2 := wrapU x2 (by omega)
          have v3 := wrapU x3 (by omega)
          clear hc hf
          go_upto_region 8 with fail
          refine wp_region_noPanic ?_
          refine wp_region_held_drew (S := (fun Y => Blk Y w.heap.size 24 [.int .i64 kd, .int .i64 lk, .int .i64 sz, .int .i64 nx, .int .i64 ge, .int .i64 dp, .slice (some ⟨b, o, none⟩) n c] ∧ Below wr.heap.size wr Y)) (by kernel_rfl) ⟨rBr.drew, (Below.refl _ _).drew⟩ (fun hHeld => ?_)
          generalize wr.drew = X0 at *
          refine wpAnyH_take (i := 1) (v := ?_) rfl (by kernel_rfl) (by kernel_rfl) (by kernel_rfl) (fun _ _ _ h => h) (Or.inl ⟨by rfl, ?_⟩) hHeld ?_
          rotate_left
          · intro w' hSw; try dsimp only at hSw
            go_simp; try (with_reducible rfl)
          try simp only [Act.put, List.getElem_toArray, List.getElem_cons_succ, List.getElem_cons_zero, List.setIfInBounds_toArray, List.set_cons_zero, List.set_cons_succ]
          refine wpAnyH_take (i := 2) (v := ?_) rfl (by kernel_rfl) (by kernel_rfl) (by kernel_rfl) (fun _ _ _ h => h) (Or.inl ⟨by rfl, ?_⟩) hHeld ?_
          rotate_left
          · intro w' hSw; try dsimp only at hSw
            obtain ⟨_, _, _, _, _, _, d6⟩ := hSw.1.ino7
            go_simp; try (with_reducible rfl)
          try simp only [Act.put, List.getElem_toArray, List.getElem_cons_succ, List.getElem_cons_zero, List.setIfInBounds_toArray, List.set_cons_zero, List.set_cons_succ]
          refine wpAnyH_take (i := 3) (v := ?_) rfl (by kernel_rfl) (by kernel_rfl) (by kernel_rfl) (fun _ _ _ h => h) (Or.inl ⟨by rfl, ?_⟩) hHeld ?_
          rotate_left
          · intro w' hSw; try dsimp only at hSw
            go_simp; try (with_reducible rfl)
          try simp only [Act.put, List.getElem_toArray, List.getElem_cons_succ, List.getElem_cons_zero, List.setIfInBounds_toArray, List.set_cons_zero, List.set_cons_succ]
          refine wpAnyH_take (i := 4) (v := ?_) rfl (by kernel_rfl) (by kernel_rfl) (by kernel_rfl) (fun _ _ _ h => h) (Or.inl ⟨by rfl, ?_⟩) hHeld ?_
          rotate_left
          · intro w' hSw; try dsimp only at hSw
            go_simp; try (with_reducible rfl)
          try simp only [Act.put, List.getElem_toArray, List.getElem_cons_succ, List.getElem_cons_zero, List.setIfInBounds_toArray, List.set_cons_zero, List.set_cons_succ]
          refine wpAnyH_take (i := 5) (v := ?_) rfl (by kernel_rfl) (by kernel_rfl) (by kernel_rfl) (fun _ _ _ h => h) (Or.inl ⟨by rfl, ?_⟩) hHeld ?_
          rotate_left
          · intro w' hSw; try dsimp only at hSw
            go_simp; try (with_reducible rfl)
          try simp only [Act.put, List.getElem_toArray, List.getElem_cons_succ, List.getElem_cons_zero, List.setIfInBounds_toArray, List.set_cons_zero, List.set_cons_succ]
          refine wpAnyH_take (i := 6) (v := ?_) rfl (by kernel_rfl) (by kernel_rfl) (by kernel_rfl) (fun _ _ _ h => h) (Or.inl ⟨by rfl, ?_⟩) hHeld ?_
          rotate_left
          · intro w' hSw; try dsimp only at hSw
            have g0 := (hSw.2.cell (p := ⟨b, o + k * 3, none⟩) hbl).trans e0
            go_simp; try (with_reducible rfl)
          try simp only [Act.put, List.getElem_toArray, List.getElem_cons_succ, List.getElem_cons_zero, List.setIfInBounds_toArray, List.set_cons_zero, List.set_cons_succ]
          refine wpAnyH_take (i := 7) (v := ?_) rfl (by kernel_rfl) (by kernel_rfl) (by kernel_rfl) (fun _ _ _ h => h) (Or.inl ⟨by rfl, ?_⟩) hHeld ?_
          rotate_left
          · intro w' hSw; try dsimp only at hSw
            go_simp; try (with_reducible rfl)
          try simp only [Act.put, List.getElem_toArray, List.getElem_cons_succ, List.getElem_cons_zero, List.setIfInBounds_toArray, List.set_cons_zero, List.set_cons_succ]
          refine wpAnyH_take (i := 8) (v := ?_) rfl (by kernel_rfl) (by kernel_rfl) (by kernel_rfl) (fun _ _ _ h => h) (Or.inl ⟨by rfl, ?_⟩) hHeld ?_
          rotate_left
          · intro w' hSw; try dsimp only at hSw
            go_simp; try (with_reducible rfl)
          try simp only [Act.put, List.getElem_toArray, List.getElem_cons_succ, List.getElem_cons_zero, List.setIfInBounds_toArray, List.set_cons_zero, List.set_cons_succ]
          refine wpAnyH_take (i := 9) (v := ?_) rfl (by kernel_rfl) (by kernel_rfl) (by kernel_rfl) (fun _ _ _ h => h) (Or.inl ⟨by rfl, ?_⟩) hHeld ?_
          rotate_left
          · intro w' hSw; try dsimp only at hSw
            obtain ⟨_, _, _, _, _, _, d6⟩ := hSw.1.ino7
            go_simp; try (with_reducible rfl)
          try simp only [Act.put, List.getElem_toArray, List.getElem_cons_succ, List.getElem_cons_zero, List.setIfInBounds_toArray, List.set_cons_zero, List.set_cons_succ]
          refine wpAnyH_take (i := 10) (v := ?_) rfl (by kernel_rfl) (by kernel_rfl) (by kernel_rfl) (fun _ _ _ h => h) (Or.inl ⟨by rfl, ?_⟩) hHeld ?_
          rotate_left
          · intro w' hSw; try dsimp only at hSw
            go_simp; try (with_reducible rfl)
          try simp only [Act.put, List.getElem_toArray, List.getElem_cons_succ, List.getElem_cons_zero, List.setIfInBounds_toArray, List.set_cons_zero, List.set_cons_succ]
          refine wpAnyH_take (i := 11) (v := ?_) rfl (by kernel_rfl) (by kernel_rfl) (by kernel_rfl) (fun _ _ _ h => h) (Or.inl ⟨by rfl, ?_⟩) hHeld ?_
          rotate_left
          · intro w' hSw; try dsimp only at hSw
            go_simp; try (with_reducible rfl)
          try simp only [Act.put, List.getElem_toArray, List.getElem_cons_succ, List.getElem_cons_zero, List.setIfInBounds_toArray, List.set_cons_zero, List.set_cons_succ]
          refine wpAnyH_take (i := 12) (v := ?_) rfl (by kernel_rfl) (by kernel_rfl) (by kernel_rfl) (fun _ _ _ h => h) (Or.inl ⟨by rfl, ?_⟩) hHeld ?_
          rotate_left
          · intro w' hSw; try dsimp only at hSw
            go_simp; try (with_reducible rfl)
          try simp only [Act.put, List.getElem_toArray, List.getElem_cons_succ, List.getElem_cons_zero, List.setIfInBounds_toArray, List.set_cons_zero, List.set_cons_succ]
          refine wpAnyH_take (i := 13) (v := ?_) rfl (by kernel_rfl) (by kernel_rfl) (by kernel_rfl) (fun _ _ _ h => h) (Or.inl ⟨by rfl, ?_⟩) hHeld ?_
          rotate_left
          · intro w' hSw; try dsimp only at hSw
            have g1 := (hSw.2.cell (p := ⟨b, o + k * 3 + 1, none⟩) hbl).trans e1
            go_simp; try (with_reducible rfl)
          try simp only [Act.put, List.getElem_toArray, List.getElem_cons_succ, List.getElem_cons_zero, List.setIfInBounds_toArray, List.set_cons_zero, List.set_cons_succ]
          refine wpAnyH_take (i := 14) (v := ?_) rfl (by kernel_rfl) (by kernel_rfl) (by kernel_rfl) (fun _ _ _ h => h) (Or.inl ⟨by rfl, ?_⟩) hHeld ?_
          rotate_left
          · intro w' hSw; try dsimp only at hSw
            go_simp; try (with_reducible rfl)
          try simp only [Act.put, List.getElem_toArray, List.getElem_cons_succ, List.getElem_cons_zero, List.setIfInBounds_toArray, List.set_cons_zero, List.set_cons_succ]
          refine wpAnyH_take (i := 15) (v := ?_) rfl (by kernel_rfl) (by kernel_rfl) (by kernel_rfl) (fun _ _ _ h => h) (Or.inl ⟨by rfl, ?_⟩) hHeld ?_
          rotate_left
          · intro w' hSw; try dsimp only at hSw
            go_simp; try (with_reducible rfl)
          try simp only [Act.put, List.getElem_toArray, List.getElem_cons_succ, List.getElem_cons_zero, List.setIfInBounds_toArray, List.set_cons_zero, List.set_cons_succ]
          refine wpAnyH_take (i := 16) (v := ?_) rfl (by kernel_rfl) (by kernel_rfl) (by kernel_rfl) (fun _ _ _ h => h) (Or.inl ⟨by rfl, ?_⟩) hHeld ?_
          rotate_left
          · intro w' hSw; try dsimp only at hSw
            obtain ⟨_, _, _, _, _, _, d6⟩ := hSw.1.ino7
            go_simp; try (with_reducible rfl)
          try simp only [Act.put, List.getElem_toArray, List.getElem_cons_succ, List.getElem_cons_zero, List.setIfInBounds_toArray, List.set_cons_zero, List.set_cons_succ]
          refine wpAnyH_take (i := 17) (v := ?_) rfl (by kernel_rfl) (by kernel_rfl) (by kernel_rfl) (fun _ _ _ h => h) (Or.inl ⟨by rfl, ?_⟩) hHeld ?_
          rotate_left
          · intro w' hSw; try dsimp only at hSw
            go_simp; try (with_reducible rfl)
          try simp only [Act.put, List.getElem_toArray, List.getElem_cons_succ, List.getElem_cons_zero, List.setIfInBounds_toArray, List.set_cons_zero, List.set_cons_succ]
          refine wpAnyH_take (i := 18) (v := ?_) rfl (by kernel_rfl) (by kernel_rfl) (by kernel_rfl) (fun _ _ _ h => h) (Or.inl ⟨by rfl, ?_⟩) hHeld ?_
          rotate_left
          · intro w' hSw; try dsimp only at hSw
            go_simp; try (with_reducible rfl)
          try simp only [Act.put, List.getElem_toArray, List.getElem_cons_succ, List.getElem_cons_zero, List.setIfInBounds_toArray, List.set_cons_zero, List.set_cons_succ]
          refine wpAnyH_take (i := 19) (v := ?_) rfl (by kernel_rfl) (by kernel_rfl) (by kernel_rfl) (fun _ _ _ h => h) (Or.inl ⟨by rfl, ?_⟩) hHeld ?_
          rotate_left
          · intro w' hSw; try dsimp only at hSw
            go_simp; try (with_reducible rfl)
          try simp only [Act.put, List.getElem_toArray, List.getElem_cons_succ, List.getElem_cons_zero, List.setIfInBounds_toArray, List.set_cons_zero, List.set_cons_succ]
          refine wpAnyH_take (i := 20) (v := ?_) rfl (by kernel_rfl) (by kernel_rfl) (by kernel_rfl) (fun _ _ _ h => h) (Or.inl ⟨by rfl, ?_⟩) hHeld ?_
          rotate_left
          · intro w' hSw; try dsimp only at hSw
            have g2 := (hSw.2.cell (p := ⟨b, o + k * 3 + 2, none⟩) hbl).trans e2
            go_simp; try (with_reducible rfl)
          try simp only [Act.put, List.getElem_toArray, List.getElem_cons_succ, List.getElem_cons_zero, List.setIfInBounds_toArray, List.set_cons_zero, List.set_cons_succ]
          refine wpAnyH_take (i := 21) (v := ?_) rfl (by kernel_rfl) (by kernel_rfl) (by kernel_rfl) (fun _ _ _ h => h) (Or.inl ⟨by rfl, ?_⟩) hHeld ?_
          rotate_left
          · intro w' hSw; try dsimp only at hSw
            go_simp; try (with_reducible rfl)
          try simp only [Act.put, List.getElem_toArray, List.getElem_cons_succ, List.getElem_cons_zero, List.setIfInBounds_toArray, List.set_cons_zero, List.set_cons_succ]
          refine wpAnyH_ready (rs := [0, 22]) (by kernel_rfl) (by simp) ?_
          refine AllReadyH.cons rfl (fun K hK => ?_) ?_
          · go_simp
            refine (rootW_any _).mono ?_
            rintro e w3 ⟨p3, rfl, hin3, hb3⟩
            have hS3 := And.intro (hHeld.1.kept hb3) (bt hHeld.2 hb3)
            refine hK.out _ _ hS3 (fun hHeld => ?_)
            clear hK K
            try simp only [Act.put, List.getElem_toArray, List.getElem_cons_succ, List.getElem_cons_zero, List.setIfInBounds_toArray, List.set_cons_zero, List.set_cons_succ]
            refine wpAnyH_ready (rs := [22]) (by kernel_rfl) (by simp) ?_
            refine AllReadyH.cons rfl (fun K hK => ?_) AllReadyH.nil
            go_simp
            have hl4 := in_lit64 w3 (cs := #[.int .u64 (x1 : Int), .int .u64 (x2 : Int), .int .u64 (x3 : Int)]) (xs := [x1, x2, x3]) (n := 3) rfl rfl HVL3.out (by decide)
            have hk4 := below_alloc w3 (.cells #[.int .u64 (x1 : Int), .int .u64 (x2 : Int), .int .u64 (x3 : Int)] 54)
            have hS4 := And.intro (hHeld.1.kept hk4) (bt hHeld.2 hk4)
            refine hK.out _ _ hS4 (fun hHeld => ?_)
            clear hK K
            try simp only [Act.put, List.getElem_toArray, List.getElem_cons_succ, List.getElem_cons_zero, List.setIfInBounds_toArray, List.set_cons_zero, List.set_cons_succ]
            refine wpAnyH_ready (rs := [23]) (by kernel_rfl) (by simp) ?_
            refine AllReadyH.cons rfl (fun K hK => ?_) AllReadyH.nil
            go_simp
            refine (refPack_any _ _ 3 3 3 3 rW [x1, x2, x3] _ (hin3.below hk4) hl4).mono ?_
            rintro e w5 ⟨p8, n8, c8, rfl, hin8, hb8⟩
            rw [HPE3.out]
            have hS5 := And.intro (hHeld.1.kept hb8) (bt hHeld.2 hb8)
            refine hK.out _ _ hS5 (fun hHeld => ?_)
            clear hK K
            try simp only [Act.put, List.getElem_toArray, List.getElem_cons_succ, List.getElem_cons_zero, List.setIfInBounds_toArray, List.set_cons_zero, List.set_cons_succ]
            refine wpAnyH_take (i := 24) (v := ?_) rfl (by kernel_rfl) (by kernel_rfl) (by kernel_rfl) (fun _ _ _ h => h) (Or.inl ⟨by rfl, ?_⟩) hHeld ?_
            rotate_left
            · intro w' hSw; try dsimp only at hSw
              go_simp; try (with_reducible rfl)
            try simp only [Act.put, List.getElem_toArray, List.getElem_cons_succ, List.getElem_cons_zero, List.setIfInBounds_toArray, List.set_cons_zero, List.set_cons_succ]
            refine wpAnyH_take (i := 25) (v := ?_) rfl (by kernel_rfl) (by kernel_rfl) (by kernel_rfl) (fun _ _ _ h => h) (Or.inl ⟨by rfl, ?_⟩) hHeld ?_
            rotate_left
            · intro w' hSw; try dsimp only at hSw
              go_simp; try (with_reducible rfl)
            try simp only [Act.put, List.getElem_toArray, List.getElem_cons_succ, List.getElem_cons_zero, List.setIfInBounds_toArray, List.set_cons_zero, List.set_cons_succ]
            refine wpAnyH_take (i := 26) (v := ?_) rfl (by kernel_rfl) (by kernel_rfl) (by kernel_rfl) (fun _ _ _ h => h) (Or.inl ⟨by rfl, ?_⟩) hHeld ?_
            rotate_left
            · intro w' hSw; try dsimp only at hSw
              go_simp; try (with_reducible rfl)
            try simp only [Act.put, List.getElem_toArray, List.getElem_cons_succ, List.getElem_cons_zero, List.setIfInBounds_toArray, List.set_cons_zero, List.set_cons_succ]
            refine wpAnyH_take (i := 27) (v := ?_) rfl (by kernel_rfl) (by kernel_rfl) (by kernel_rfl) (fun _ _ _ h => h) (Or.inl ⟨by rfl, ?_⟩) hHeld ?_
            rotate_left
            · intro w' hSw; try dsimp only at hSw
              go_simp; try (with_reducible rfl)
            try simp only [Act.put, List.getElem_toArray, List.getElem_cons_succ, List.getElem_cons_zero, List.setIfInBounds_toArray, List.set_cons_zero, List.set_cons_succ]
            refine wpAnyH_take (i := 28) (v := ?_) rfl (by kernel_rfl) (by kernel_rfl) (by kernel_rfl) (fun _ _ _ h => h) (Or.inl ⟨by rfl, ?_⟩) hHeld ?_
            rotate_left
            · intro w' hSw; try dsimp only at hSw
              go_simp; try (with_reducible rfl)
            try simp only [Act.put, List.getElem_toArray, List.getElem_cons_succ, List.getElem_cons_zero, List.setIfInBounds_toArray, List.set_cons_zero, List.set_cons_succ]
            refine wpAnyH_done (by kernel_rfl) ?_ _
            refine NoPanic.normal ?_
            have hn8 := hin8.len
            rw [HPL3.out] at hn8
            subst hn8
            have hown5 := owns_below hown hHeld.2
            obtain ⟨b8, o8, rfl, _, _⟩ := hin8.at' (by decide)
            have hcs8 := hin8.cells rfl
            have hsz5 : V.heap.size ≤ w5.heap.size := Nat.le_trans hbel.size hHeld.2.size
            go_wp2_with (at_builtin; refine wpList_append_own _ rfl (.tmp 77) (.tmp 78) 25 rfl V.heap.size 5 i0 (.int .u8 0) 1 1 Try.underlying25 hi hz0 hz1 hz2 rfl (by decide) (.slice pl m cl) m (vals (H ++ rtP rt k)) rfl hown5 ⟨b8, o8, none⟩ 9 c8 (vals (packL rW [x1, x2, x3])) rfl (by rw [vals_length, HPL3.out]) hcs8 (vals_one _) (by unfold maxLen; omega) (by omega) hsz5 ?_; intro v9 w9 hown9 hgrow9 _)
            obtain ⟨p9, c9, rfl⟩ := owns_slice hown9
            have rB9 := hHeld.1.grown hgrow9 (fun e => by have := (hown5.lt _ e.symm).1; have := hVw.out; omega)
            have hb9 := (hbel.trans (hHeld.2.mono hbel.size)).trans ((Below.refl V.heap.size w5).grown hgrow9 hsz5 (fun j hj => (hown5.lt j hj).1))
            rw [← vals_append, List.append_assoc, HRS.out] at hown9
            go_roundw
            case rel => exact ⟨k + 1, m + 9, p9, c9, by omega, by have := HM.out; show _ = _; omega, rfl, by go_num, hown9, rB9, hb9⟩
            case measure => simp [intOf]; omega
          refine AllReadyH.cons rfl (fun K hK => ?_) AllReadyH.nil
          go_simp
          have hl4 := in_lit64 X0 (cs := #[.int .u64 (x1 : Int), .int .u64 (x2 : Int), .int .u64 (x3 : Int)]) (xs := [x1, x2, x3]) (n := 3) rfl rfl HVL3.out (by decide)
          have hk4 := below_alloc X0 (.cells #[.int .u64 (x1 : Int), .int .u64 (x2 : Int), .int .u64 (x3 : Int)] 54)
          have hS4 := And.intro (hHeld.1.kept hk4) (bt hHeld.2 hk4)
          refine hK.out _ _ hS4 (fun hHeld => ?_)
          clear hK K
          try simp only [Act.put, List.getElem_toArray, List.getElem_cons_succ, List.getElem_cons_zero, List.setIfInBounds_toArray, List.set_cons_zero, List.set_cons_succ]
          refine wpAnyH_ready (rs := [0]) (by kernel_rfl) (by simp) ?_
          refine AllReadyH.cons rfl (fun K hK => ?_) AllReadyH.nil
          go_simp
          refine (rootW_any _).mono ?_
          rintro e w3 ⟨p3, rfl, hin3, hb3⟩
          have hS3 := And.intro (hHeld.1.kept hb3) (bt hHeld.2 hb3)
          refine hK.out _ _ hS3 (fun hHeld => ?_)
          clear hK K
          try simp only [Act.put, List.getElem_toArray, List.getElem_cons_succ, List.getElem_cons_zero, List.setIfInBounds_toArray, List.set_cons_zero, List.set_cons_succ]
          refine wpAnyH_ready (rs := [23]) (by kernel_rfl) (by simp) ?_
          refine AllReadyH.cons rfl (fun K hK => ?_) AllReadyH.nil
          go_simp
          refine (refPack_any _ _ 3 3 3 3 rW [x1, x2, x3] _ hin3 (hl4.below hb3)).mono ?_
          rintro e w5 ⟨p8, n8, c8, rfl, hin8, hb8⟩
          rw [HPE3.out]
          have hS5 := And.intro (hHeld.1.kept hb8) (bt hHeld.2 hb8)
          refine hK.out _ _ hS5 (fun hHeld => ?_)
          clear hK K
          try simp only [Act.put, List.getElem_toArray, List.getElem_cons_succ, List.getElem_cons_zero, List.setIfInBounds_toArray, List.set_cons_zero, List.set_cons_succ]
          refine wpAnyH_take (i := 24) (v := ?_) rfl (by kernel_rfl) (by kernel_rfl) (by kernel_rfl) (fun _ _ _ h => h) (Or.inl ⟨by rfl, ?_⟩) hHeld ?_
          rotate_left
          · intro w' hSw; try dsimp only at hSw
            go_simp; try (with_reducible rfl)
          try simp only [Act.put, List.getElem_toArray, List.getElem_cons_succ, List.getElem_cons_zero, List.setIfInBounds_toArray, List.set_cons_zero, List.set_cons_succ]
          refine wpAnyH_take (i := 25) (v := ?_) rfl (by kernel_rfl) (by kernel_rfl) (by kernel_rfl) (fun _ _ _ h => h) (Or.inl ⟨by rfl, ?_⟩) hHeld ?_
          rotate_left
          · intro w' hSw; try dsimp only at hSw
            go_simp; try (with_reducible rfl)
          try simp only [Act.put, List.getElem_toArray, List.getElem_cons_succ, List.getElem_cons_zero, List.setIfInBounds_toArray, List.set_cons_zero, List.set_cons_succ]
          refine wpAnyH_take (i := 26) (v := ?_) rfl (by kernel_rfl) (by kernel_rfl) (by kernel_rfl) (fun _ _ _ h => h) (Or.inl ⟨by rfl, ?_⟩) hHeld ?_
          rotate_left
          · intro w' hSw; try dsimp only at hSw
            go_simp; try (with_reducible rfl)
          try simp only [Act.put, List.getElem_toArray, List.getElem_cons_succ, List.getElem_cons_zero, List.setIfInBounds_toArray, List.set_cons_zero, List.set_cons_succ]
          refine wpAnyH_take (i := 27) (v := ?_) rfl (by kernel_rfl) (by kernel_rfl) (by kernel_rfl) (fun _ _ _ h => h) (Or.inl ⟨by rfl, ?_⟩) hHeld ?_
          rotate_left
          · intro w' hSw; try dsimp only at hSw
            go_simp; try (with_reducible rfl)
          try simp only [Act.put, List.getElem_toArray, List.getElem_cons_succ, List.getElem_cons_zero, List.setIfInBounds_toArray, List.set_cons_zero, List.set_cons_succ]
          refine wpAnyH_take (i := 28) (v := ?_) rfl (by kernel_rfl) (by kernel_rfl) (by kernel_rfl) (fun _ _ _ h => h) (Or.inl ⟨by rfl, ?_⟩) hHeld ?_
          rotate_left
          · intro w' hSw; try dsimp only at hSw
            go_simp; try (with_reducible rfl)
          try simp only [Act.put, List.getElem_toArray, List.getElem_cons_succ, List.getElem_cons_zero, List.setIfInBounds_toArray, List.set_cons_zero, List.set_cons_succ]
          refine wpAnyH_done (by kernel_rfl) ?_ _
          refine NoPanic.normal ?_
          have hn8 := hin8.len
          rw [HPL3.out] at hn8
          subst hn8
          have hown5 := owns_below hown hHeld.2
          obtain ⟨b8, o8, rfl, _, _⟩ := hin8.at' (by decide)
          have hcs8 := hin8.cells rfl
          have hsz5 : V.heap.size ≤ w5.heap.size := Nat.le_trans hbel.size hHeld.2.size
          go_wp2_with (at_builtin; refine wpList_append_own _ rfl (.tmp 77) (.tmp 78) 25 rfl V.heap.size 5 i0 (.int .u8 0) 1 1 Try.underlying25 hi hz0 hz1 hz2 rfl (by decide) (.slice pl m cl) m (vals (H ++ rtP rt k)) rfl hown5 ⟨b8, o8, none⟩ 9 c8 (vals (packL rW [x1, x2, x3])) rfl (by rw [vals_length, HPL3.out]) hcs8 (vals_one _) (by unfold maxLen; omega) (by omega) hsz5 ?_; intro v9 w9 hown9 hgrow9 _)
          obtain ⟨p9, c9, rfl⟩ := owns_slice hown9
          have rB9 := hHeld.1.grown hgrow9 (fun e => by have := (hown5.lt _ e.symm).1; have := hVw.out; omega)
          have hb9 := (hbel.trans (hHeld.2.mono hbel.size)).trans ((Below.refl V.heap.size w5).grown hgrow9 hsz5 (fun j hj => (hown5.lt j hj).1))
          rw [← vals_append, List.append_assoc, HRS.out] at hown9
          go_roundw
          case rel => exact ⟨k + 1, m + 9, p9, c9, by omega, by have := HM.out; show _ = _; omega, rfl, by go_num, hown9, rB9, hb9⟩
          case measure => simp [intOf]; omega
        · have hkn : ¬ (k : Int) < (n : Int) := by omega
          obtain rfl : k = n := by omega
          have HB2 : Hid (∀ b ∈ H ++ rtP rt k, b < 256) := HBY.out k
          have HKE : Hid (encL ⟨kd, lk, sz, nx, ge, dp, rt⟩ = H ++ rtP rt k ++ List.replicate (40 - 9 * k) 0) := by show _ = _; rw [HEP.out]; first | rw [HLN.out] | (dsimp only; rw [HLN.out])
          clear HBY HEP
          generalize H ++ rtP rt k = L0 at *
          have hm64 : m ≤ 64 := by have := HM.out; omega
          go_wp2
          go_loopw [5] (fun out wr => ∃ (j m2 : Nat) (pl2 : Option Addr) (cl2 : Nat), Hid (m2 = m + j) ∧ m2 ≤ 64 ∧ out = .slice pl2 m2 cl2 ∧ wr.ownsRow V.heap.size 5 1 (.slice pl2 m2 cl2) m2 (vals (L0 ++ List.replicate j 0)) ∧ Below V.heap.size V wr) (fun out _ => 64 - lenS out)
          case atStart => exact ⟨0, m, pl, cl, rfl, hm64, rfl, by rw [List.replicate_zero, List.append_nil]; exact hown, hbel⟩
          case round =>
            obtain ⟨j, m2, pl2, cl2, HJ, hm2, rfl, hown2, hbel2⟩ := hrel
            by_cases h64 : m2 < 64
            · have hmi : (m2 : Int) < 64 := by omega
              have hown4 := owns_below hown2 (below_alloc wr (.cells #[.int .u8 0] 5))
              have hlit := (in_lit wr (cs := #[.int .u8 0]) (xs := [0]) (n := 1) rfl rfl (by decide) (by decide)).cells rfl
              have hba := hbel2.trans ((below_alloc wr (.cells #[.int .u8 0] 5)).mono hbel2.size)
              have hszz : V.heap.size ≤ (wr.alloc (.cells #[.int .u8 0] 5)).heap.size := hba.size
              go_wp2_with (at_builtin; refine wpList_append_own _ rfl (.tmp 83) (.tmp 84) 25 rfl V.heap.size 5 i0 (.int .u8 0) 1 1 Try.underlying25 hi hz0 hz1 hz2 rfl (by decide) (.slice pl2 m2 cl2) m2 (vals (L0 ++ List.replicate j 0)) rfl hown4 ⟨wr.heap.size, 0, none⟩ 1 1 (vals [0]) rfl rfl hlit (vals_one _) (by unfold maxLen; omega) (by omega) hszz ?_; intro v9 w9 hown9 hgrow9 _)
              obtain ⟨p9, c9, rfl⟩ := owns_slice hown9
              have hb9 := hba.trans ((Below.refl V.heap.size (wr.alloc (.cells #[.int .u8 0] 5))).grown hgrow9 hszz (fun i hi => (hown4.lt i hi).1))
              rw [← vals_append, List.append_assoc, show List.replicate j 0 ++ [0] = List.replicate (j + 1) (0 : Nat) from by rw [List.replicate_succ']] at hown9
              go_roundw
              case rel => exact ⟨j + 1, m2 + 1, p9, c9, by have := HJ.out; show _ = _; omega, by omega, rfl, hown9, hb9⟩
              case measure => simp [lenS]; omega
            · have hmi : ¬ (m2 : Int) < 64 := by omega
              obtain rfl : m2 = 64 := by omega
              have hj : j = 40 - 9 * k := by have h1 := HJ.out; have h2 := HM.out; omega
              rw [hj, ← HKE.out] at hown2
              obtain ⟨p9, c9, hv9, hin9⟩ := in_of_owns hown2 HEB (by decide)
              cases hv9
              have hfr := owns_newP hown2
              go_wp2
              go_ret2
              exact ⟨_, _, _, rfl, hin9, bt hB1 hbel2, fun a h => Nat.le_trans hB1.size (hfr a h)⟩
end Go.Proofs.Ytgeomfgfeemciaa
