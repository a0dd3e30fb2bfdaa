/-
  The bytes of an operation of the law.
-/
import Derived.Test.YtbnnekpglnnneaaDkRepB
namespace Go.Proofs.Ytbnnekpglnnneaa
open Go.RowKit
def opV (d s : Int) (p : Option Addr) (n c : Nat) (sh : Bool) : Value := .agg #[.int .i64 d, .int .i64 s, .slice p n c, .bool sh]
def fullL (xs : List Nat) (sh : Bool) : List Nat := if sh = true ∨ xs = [] then xs else cyc xs 256
theorem sliceB_256 (p : Option Addr) (n c : Nat) (h : 256 ≤ n) (hc : n ≤ c) (W : World) :
    (Instr.slice 31 (.slice p n c) none (some (.int .i64 256)) none).run Try.prog W = .ok (.slice p 256 c) W := sliceB_front p n c 256 h hc W
theorem sliceB_256' (p : Option Addr) (n c : Nat) (h : 256 ≤ n) (hc : n ≤ c) (W : World) :
    (Instr.sliceAt 31 (.slice p n c) none (some (.int .i64 256)) none).run Try.prog W = .ok (.slice p 256 c) W := by
  rw [← sliceB_256 p n c h hc W]
  simp [Instr.sliceAt, run_underlying Try.underlying31]
theorem In.front {w : World} {p : Option Addr} {n c : Nat} {xs : List Nat} (h : In w p n c xs) (k : Nat) (hk : k ≤ n) : In w p k c (xs.take k) :=
  ⟨by rw [List.length_take, h.len]; omega, Nat.le_trans hk h.cap, h.max, Nat.le_trans hk h.room, fun x hx => h.byte x (List.mem_of_mem_take hx), fun h0 => by
    obtain ⟨b, o, hp, hlt, hc⟩ := h.at' (by omega)
    refine ⟨b, o, hp, hlt, fun i hi => ?_⟩
    rw [hc i (by omega)]
    congr 2
    simp [el, List.getD_eq_getElem?_getD, hi], h.nil⟩
set_option linter.unusedSimpArgs false in
set_option maxRecDepth 100000 in
set_option maxHeartbeats 1000000 in
theorem full_any (d s : Int) (p : Option Addr) (n c : Nat) (sh : Bool) (xs : List Nat) (w : World) (hx : In w p n c xs) :
    Calls Try.prog 21 #[opV d s p n c sh] w fun e w' => ∃ p' n' c', e = .returned (.slice p' n' c') ∧ In w' p' n' c' (fullL xs sh) ∧ Below w.heap.size w w' ∧ (p' = p ∨ ∀ a, p' = some a → w.heap.size ≤ a.block) := by
  have hb0 := below_alloc w (.cells #[.int .i64 d, .int .i64 s, .slice p n c, .bool sh] 33)
  have hB := Blk.new' w 33 #[.int .i64 d, .int .i64 s, .slice p n c, .bool sh]
  have hroom := hx.room
  unfold opV
  cases sh
  · rcases Nat.eq_zero_or_pos n with hn | hn
    · subst hn
      obtain rfl : xs = [] := List.eq_nil_of_length_eq_zero hx.len
      have ef : fullL [] false = [] := by simp [fullL]
      rw [ef]
      go_enter Try.func21, Try.ntmps21
      go_wp2
      go_ret
      exact ⟨_, _, _, rfl, hx.below hb0, hb0, .inl rfl⟩
    · have hxn : xs ≠ [] := by intro e; have := hx.len; rw [e] at this; simp at this; omega
      have ef : fullL xs false = cyc xs 256 := by simp [fullL, hxn]
      rw [ef]
      have hx1 := hx.below hb0
      have cB := hB.cell' (i := 2) (v := .slice p n c) rfl
      obtain ⟨b, o, rfl, _, _⟩ := hx.at' hn
      have hn0 : ((n : Int) == 0) = false := by simp; omega
      have hnz : ¬ (n : Int) = 0 := by omega
      have hnz' : ¬ n = 0 := by omega
      have hnb : (n : Int) ≤ 140737488355328 := by omega
      obtain ⟨q, hq⟩ : ∃ q, 256 / n = q := ⟨_, rfl⟩
      have hqi : (256 : Int) / (n : Int) = (q : Int) := by rw [← hq]; rfl
      have hqt : (256 : Int).tdiv (n : Int) = (q : Int) := by rw [Int.tdiv_eq_ediv_of_nonneg (by omega)]; exact hqi
      have hq2 : (q : Int) ≤ 256 := by have : q ≤ 256 := by rw [← hq]; exact Nat.div_le_self _ _
                                       omega
      have hwq : IntKind.i64.wrap (q : Int) = (q : Int) := by rw [IntKind.wrap_i64]; omega
      have hwq1 : IntKind.i64.wrap ((q : Int) + 1) = (q : Int) + 1 := by rw [IntKind.wrap_i64]; omega
      by_cases hbig : n ≤ 256
      · have hrep := repeat_small xs b o c n (q + 1) (n * (q + 1)) (by omega) hn rfl (by
            have : n * q ≤ 256 := by rw [← hq]; exact Nat.mul_div_le _ _
            rw [Nat.mul_add, Nat.mul_one]; omega) (w.alloc (.cells #[.int .i64 d, .int .i64 s, .slice (some ⟨b, o, none⟩) n c, .bool false] 33)).drew (hx1.below ((Below.refl _ _).drew))
        have hge : 256 ≤ n * (q + 1) := by rw [← hq, Nat.mul_add, Nat.mul_one]; have := Nat.div_add_mod 256 n; have := Nat.mod_lt 256 hn; omega
        obtain ⟨N, hN⟩ : ∃ N, n * (q + 1) = N := ⟨_, rfl⟩
        rw [hN] at hrep hge
        rw [show ((q + 1 : Nat) : Int) = (q : Int) + 1 from by omega] at hrep
        have hs1 := sliceB_256 (some ⟨w.heap.size + 1, 0, none⟩) N N hge (Nat.le_refl _)
        have hs2 := sliceB_256' (some ⟨w.heap.size + 1, 0, none⟩) N N hge (Nat.le_refl _)
        have hsz : (w.alloc (.cells #[.int .i64 d, .int .i64 s, .slice (some ⟨b, o, none⟩) n c, .bool false] 33)).drew.heap.size = w.heap.size + 1 := by show (w.alloc _).heap.size = _; simp
        rw [hsz] at hrep
        clear hN hq
        go_enter Try.func21, Try.ntmps21
        go_wp2_with fail
        refine wp_region_noPanic ?_
        refine wp_region_held_drew (S := fun X => X.cell? ⟨w.heap.size, 2, none⟩ = some (.slice (some ⟨b, o, none⟩) n c)) (by kernel_rfl) cB (fun hHeld => ?_)
        refine wpAnyH_take (i := 0) (v := ?_) rfl (by kernel_rfl) (by kernel_rfl) (by kernel_rfl) (fun _ _ _ h => h) (Or.inl ⟨by rfl, ?_⟩) hHeld ?_
        rotate_left
        · intro w' hSw; try dsimp only at hSw
          have s1 := hSw
          go_simp; try (with_reducible rfl)
        try simp only [Act.put, List.getElem_toArray, List.getElem_cons_succ, List.getElem_cons_zero, List.setIfInBounds_toArray, List.set_cons_zero, List.set_cons_succ]
        refine wpAnyH_take (i := 1) (v := ?_) rfl (by kernel_rfl) (by kernel_rfl) (by kernel_rfl) (fun _ _ _ h => h) (Or.inl ⟨by rfl, ?_⟩) hHeld ?_
        rotate_left
        · intro w' hSw; try dsimp only at hSw
          have s1 := hSw
          go_simp; try (with_reducible rfl)
        try simp only [Act.put, List.getElem_toArray, List.getElem_cons_succ, List.getElem_cons_zero, List.setIfInBounds_toArray, List.set_cons_zero, List.set_cons_succ]
        refine wpAnyH_take (i := 2) (v := ?_) rfl (by kernel_rfl) (by kernel_rfl) (by kernel_rfl) (fun _ _ _ h => h) (Or.inl ⟨by rfl, ?_⟩) hHeld ?_
        rotate_left
        · intro w' hSw; try dsimp only at hSw
          have s1 := hSw
          go_simp; try (with_reducible rfl)
        try simp only [Act.put, List.getElem_toArray, List.getElem_cons_succ, List.getElem_cons_zero, List.setIfInBounds_toArray, List.set_cons_zero, List.set_cons_succ]
        refine wpAnyH_take (i := 3) (v := ?_) rfl (by kernel_rfl) (by kernel_rfl) (by kernel_rfl) (fun _ _ _ h => h) (Or.inl ⟨by rfl, ?_⟩) hHeld ?_
        rotate_left
        · intro w' hSw; try dsimp only at hSw
          have s1 := hSw
          go_simp; try (with_reducible rfl)
        try simp only [Act.put, List.getElem_toArray, List.getElem_cons_succ, List.getElem_cons_zero, List.setIfInBounds_toArray, List.set_cons_zero, List.set_cons_succ]
        refine wpAnyH_take (i := 4) (v := ?_) rfl (by kernel_rfl) (by kernel_rfl) (by kernel_rfl) (fun _ _ _ h => h) (Or.inl ⟨by rfl, ?_⟩) hHeld ?_
        rotate_left
        · intro w' hSw; try dsimp only at hSw
          have s1 := hSw
          go_simp; try (with_reducible rfl)
        try simp only [Act.put, List.getElem_toArray, List.getElem_cons_succ, List.getElem_cons_zero, List.setIfInBounds_toArray, List.set_cons_zero, List.set_cons_succ]
        refine wpAnyH_take (i := 5) (v := ?_) rfl (by kernel_rfl) (by kernel_rfl) (by kernel_rfl) (fun _ _ _ h => h) (Or.inl ⟨by rfl, ?_⟩) hHeld ?_
        rotate_left
        · intro w' hSw; try dsimp only at hSw
          have s1 := hSw
          go_simp; try (with_reducible rfl)
        try simp only [Act.put, List.getElem_toArray, List.getElem_cons_succ, List.getElem_cons_zero, List.setIfInBounds_toArray, List.set_cons_zero, List.set_cons_succ]
        refine wpAnyH_take (i := 6) (v := ?_) rfl (by kernel_rfl) (by kernel_rfl) (by kernel_rfl) (fun _ _ _ h => h) (Or.inl ⟨by rfl, ?_⟩) hHeld ?_
        rotate_left
        · intro w' hSw; try dsimp only at hSw
          have s1 := hSw
          go_simp; try (with_reducible rfl)
        try simp only [Act.put, List.getElem_toArray, List.getElem_cons_succ, List.getElem_cons_zero, List.setIfInBounds_toArray, List.set_cons_zero, List.set_cons_succ]
        refine wpAnyH_ready (rs := [7]) (by kernel_rfl) (by simp) ?_
        refine AllReadyH.cons rfl (fun K hK => ?_) AllReadyH.nil
        go_simp
        refine (hrep).mono ?_
        rintro e w2 ⟨rfl, hin2, hb2⟩
        try go_wp2_with fail
        refine hK.out _ _ ((hb2.cell (p := ⟨w.heap.size, 2, none⟩) (Nat.lt_succ_self _)).trans cB) (fun hHeld => ?_)
        clear hK K
        try simp only [Act.put, List.getElem_toArray, List.getElem_cons_succ, List.getElem_cons_zero, List.setIfInBounds_toArray, List.set_cons_zero, List.set_cons_succ]
        refine wpAnyH_take (i := 8) (v := ?_) rfl (by kernel_rfl) (by kernel_rfl) (by kernel_rfl) (fun _ _ _ h => h) (Or.inl ⟨by rfl, ?_⟩) hHeld ?_
        rotate_left
        · intro w' hSw; try dsimp only at hSw
          go_simp; try (with_reducible rfl)
        try simp only [Act.put, List.getElem_toArray, List.getElem_cons_succ, List.getElem_cons_zero, List.setIfInBounds_toArray, List.set_cons_zero, List.set_cons_succ]
        refine wpAnyH_done (by kernel_rfl) ?_ _
        refine NoPanic.normal ?_
        go_wp2_with fail
        go_ret
        have hf := hin2.front 256 hge
        rw [cyc_take _ _ _ hge] at hf
        have hb2' : Below (w.heap.size + 1) (w.alloc (.cells #[.int .i64 d, .int .i64 s, .slice (some ⟨b, o, none⟩) n c, .bool false] 33)) w2 := ((Below.refl _ _).drew).trans hb2
        exact ⟨_, _, _, rfl, hf, hb0.trans (hb2'.mono (by omega)), .inr (fun a ha => by cases ha; show w.heap.size ≤ w.heap.size + 1; omega)⟩
      · have hq0 : q = 0 := by rw [← hq]; exact Nat.div_eq_of_lt (by omega)
        have hone : ∃ (hrep : Calls Try.prog 28 #[.slice (some ⟨b, o, none⟩) n c, .int .i64 1] (w.alloc (.cells #[.int .i64 d, .int .i64 s, .slice (some ⟨b, o, none⟩) n c, .bool false] 33)).drew fun e w' => e = .returned (.slice (some ⟨w.heap.size + 1, 0, none⟩) n n) ∧ In w' (some ⟨w.heap.size + 1, 0, none⟩) n n xs ∧ Below (w.heap.size + 1) (w.alloc (.cells #[.int .i64 d, .int .i64 s, .slice (some ⟨b, o, none⟩) n c, .bool false] 33)).drew w'), True := by
          have hsz : (w.alloc (.cells #[.int .i64 d, .int .i64 s, .slice (some ⟨b, o, none⟩) n c, .bool false] 33)).drew.heap.size = w.heap.size + 1 := by show (w.alloc _).heap.size = _; simp
          by_cases h8 : 8192 < n
          · have hrep := repeat_one xs b o c n h8 (w.alloc (.cells #[.int .i64 d, .int .i64 s, .slice (some ⟨b, o, none⟩) n c, .bool false] 33)).drew (hx1.below ((Below.refl _ _).drew))
            rw [hsz] at hrep
            exact ⟨hrep, trivial⟩
          · have hrep := repeat_small xs b o c n 1 n (by omega) hn (by show n * 1 = n; omega) (by omega) (w.alloc (.cells #[.int .i64 d, .int .i64 s, .slice (some ⟨b, o, none⟩) n c, .bool false] 33)).drew (hx1.below ((Below.refl _ _).drew))
            rw [hsz, show cyc xs n = xs from by have e := cyc_self xs; rw [hx.len] at e; exact e] at hrep
            exact ⟨hrep, trivial⟩
        obtain ⟨hrep, _⟩ := hone
        rw [show (1 : Int) = (q : Int) + 1 from by omega] at hrep
        have hge : 256 ≤ n := by omega
        have hs1 := sliceB_256 (some ⟨w.heap.size + 1, 0, none⟩) n n hge (Nat.le_refl _)
        have hs2 := sliceB_256' (some ⟨w.heap.size + 1, 0, none⟩) n n hge (Nat.le_refl _)
        have HXL : Hid (xs.length = n) := hx.len
        clear hq hq0
        go_enter Try.func21, Try.ntmps21
        go_wp2_with fail
        refine wp_region_noPanic ?_
        refine wp_region_held_drew (S := fun X => X.cell? ⟨w.heap.size, 2, none⟩ = some (.slice (some ⟨b, o, none⟩) n c)) (by kernel_rfl) cB (fun hHeld => ?_)
        refine wpAnyH_take (i := 0) (v := ?_) rfl (by kernel_rfl) (by kernel_rfl) (by kernel_rfl) (fun _ _ _ h => h) (Or.inl ⟨by rfl, ?_⟩) hHeld ?_
        rotate_left
        · intro w' hSw; try dsimp only at hSw
          have s1 := hSw
          go_simp; try (with_reducible rfl)
        try simp only [Act.put, List.getElem_toArray, List.getElem_cons_succ, List.getElem_cons_zero, List.setIfInBounds_toArray, List.set_cons_zero, List.set_cons_succ]
        refine wpAnyH_take (i := 1) (v := ?_) rfl (by kernel_rfl) (by kernel_rfl) (by kernel_rfl) (fun _ _ _ h => h) (Or.inl ⟨by rfl, ?_⟩) hHeld ?_
        rotate_left
        · intro w' hSw; try dsimp only at hSw
          have s1 := hSw
          go_simp; try (with_reducible rfl)
        try simp only [Act.put, List.getElem_toArray, List.getElem_cons_succ, List.getElem_cons_zero, List.setIfInBounds_toArray, List.set_cons_zero, List.set_cons_succ]
        refine wpAnyH_take (i := 2) (v := ?_) rfl (by kernel_rfl) (by kernel_rfl) (by kernel_rfl) (fun _ _ _ h => h) (Or.inl ⟨by rfl, ?_⟩) hHeld ?_
        rotate_left
        · intro w' hSw; try dsimp only at hSw
          have s1 := hSw
          go_simp; try (with_reducible rfl)
        try simp only [Act.put, List.getElem_toArray, List.getElem_cons_succ, List.getElem_cons_zero, List.setIfInBounds_toArray, List.set_cons_zero, List.set_cons_succ]
        refine wpAnyH_take (i := 3) (v := ?_) rfl (by kernel_rfl) (by kernel_rfl) (by kernel_rfl) (fun _ _ _ h => h) (Or.inl ⟨by rfl, ?_⟩) hHeld ?_
        rotate_left
        · intro w' hSw; try dsimp only at hSw
          have s1 := hSw
          go_simp; try (with_reducible rfl)
        try simp only [Act.put, List.getElem_toArray, List.getElem_cons_succ, List.getElem_cons_zero, List.setIfInBounds_toArray, List.set_cons_zero, List.set_cons_succ]
        refine wpAnyH_take (i := 4) (v := ?_) rfl (by kernel_rfl) (by kernel_rfl) (by kernel_rfl) (fun _ _ _ h => h) (Or.inl ⟨by rfl, ?_⟩) hHeld ?_
        rotate_left
        · intro w' hSw; try dsimp only at hSw
          have s1 := hSw
          go_simp; try (with_reducible rfl)
        try simp only [Act.put, List.getElem_toArray, List.getElem_cons_succ, List.getElem_cons_zero, List.setIfInBounds_toArray, List.set_cons_zero, List.set_cons_succ]
        refine wpAnyH_take (i := 5) (v := ?_) rfl (by kernel_rfl) (by kernel_rfl) (by kernel_rfl) (fun _ _ _ h => h) (Or.inl ⟨by rfl, ?_⟩) hHeld ?_
        rotate_left
        · intro w' hSw; try dsimp only at hSw
          have s1 := hSw
          go_simp; try (with_reducible rfl)
        try simp only [Act.put, List.getElem_toArray, List.getElem_cons_succ, List.getElem_cons_zero, List.setIfInBounds_toArray, List.set_cons_zero, List.set_cons_succ]
        refine wpAnyH_take (i := 6) (v := ?_) rfl (by kernel_rfl) (by kernel_rfl) (by kernel_rfl) (fun _ _ _ h => h) (Or.inl ⟨by rfl, ?_⟩) hHeld ?_
        rotate_left
        · intro w' hSw; try dsimp only at hSw
          have s1 := hSw
          go_simp; try (with_reducible rfl)
        try simp only [Act.put, List.getElem_toArray, List.getElem_cons_succ, List.getElem_cons_zero, List.setIfInBounds_toArray, List.set_cons_zero, List.set_cons_succ]
        refine wpAnyH_ready (rs := [7]) (by kernel_rfl) (by simp) ?_
        refine AllReadyH.cons rfl (fun K hK => ?_) AllReadyH.nil
        go_simp
        refine (hrep).mono ?_
        rintro e w2 ⟨rfl, hin2, hb2⟩
        try go_wp2_with fail
        refine hK.out _ _ ((hb2.cell (p := ⟨w.heap.size, 2, none⟩) (Nat.lt_succ_self _)).trans cB) (fun hHeld => ?_)
        clear hK K
        try simp only [Act.put, List.getElem_toArray, List.getElem_cons_succ, List.getElem_cons_zero, List.setIfInBounds_toArray, List.set_cons_zero, List.set_cons_succ]
        refine wpAnyH_take (i := 8) (v := ?_) rfl (by kernel_rfl) (by kernel_rfl) (by kernel_rfl) (fun _ _ _ h => h) (Or.inl ⟨by rfl, ?_⟩) hHeld ?_
        rotate_left
        · intro w' hSw; try dsimp only at hSw
          go_simp; try (with_reducible rfl)
        try simp only [Act.put, List.getElem_toArray, List.getElem_cons_succ, List.getElem_cons_zero, List.setIfInBounds_toArray, List.set_cons_zero, List.set_cons_succ]
        refine wpAnyH_done (by kernel_rfl) ?_ _
        refine NoPanic.normal ?_
        go_wp2_with fail
        go_ret
        have hf := hin2.front 256 hge
        have e2 : xs.take 256 = cyc xs 256 := by
          have e := cyc_take xs n 256 hge
          have e' := cyc_self xs
          rw [HXL.out] at e'
          rw [e'] at e
          exact e
        rw [e2] at hf
        have hb2' : Below (w.heap.size + 1) (w.alloc (.cells #[.int .i64 d, .int .i64 s, .slice (some ⟨b, o, none⟩) n c, .bool false] 33)) w2 := ((Below.refl _ _).drew).trans hb2
        exact ⟨_, _, _, rfl, hf, hb0.trans (hb2'.mono (by omega)), .inr (fun a ha => by cases ha; show w.heap.size ≤ w.heap.size + 1; omega)⟩
  · have ef : fullL xs true = xs := by simp [fullL]
    rw [ef]
    go_enter Try.func21, Try.ntmps21
    go_wp2
    go_ret
    exact ⟨_, _, _, rfl, hx.below hb0, hb0, .inl rfl⟩
end Go.Proofs.Ytbnnekpglnnneaa
