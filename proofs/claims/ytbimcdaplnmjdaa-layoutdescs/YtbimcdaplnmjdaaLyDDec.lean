/-
  What layout.readDescs and DecodeDescs answer.
-/
import Derived.Test.YtbimcdaplnmjdaaLyDEnc
import Derived.Test.YtbimcdaplnmjdaaLyFresh
namespace Go.Proofs.Ytbimcdaplnmjdaa
open Go.RowKit
/-- The fields of the descriptors in bytes. -/
def fD (xs : List Nat) (i k : Nat) : Nat := getN ((xs.drop (i * 16)).take 6) (atW wsD k) (eI wsD k).toNat
def rdD (xs : List Nat) (n : Nat) : List Dsc := (List.range n).map fun i : Nat => ⟨(fD xs i 0 : Int), (fD xs i 1 : Int), (fD xs i 2 : Int)⟩
theorem rdD_length (xs : List Nat) (n : Nat) : (rdD xs n).length = n := by simp [rdD]
theorem rdD_succ (xs : List Nat) (n : Nat) : rdD xs (n + 1) = rdD xs n ++ [⟨(fD xs n 0 : Int), (fD xs n 1 : Int), (fD xs n 2 : Int)⟩] := by simp [rdD, List.range_succ]
theorem fD_lt (xs : List Nat) (i : Nat) : fD xs i 0 < 65536 ∧ fD xs i 1 < 65536 ∧ fD xs i 2 < 65536 := ⟨getN_lt _ _ 16, getN_lt _ _ 16, getN_lt _ _ 16⟩
theorem rdD_ok (xs : List Nat) (n : Nat) : ∀ d ∈ rdD xs n, dOk d = true ∧ d.rng := by
  intro d hd
  obtain ⟨i, _, rfl⟩ := List.mem_map.1 hd
  obtain ⟨h0, h1, h2⟩ := fD_lt xs i
  refine ⟨?_, ?_, ?_, ?_⟩
  · simp only [dOk, ok16, Bool.and_eq_true, decide_eq_true_eq]; omega
  · show -9223372036854775808 ≤ (fD xs i 0 : Int) ∧ (fD xs i 0 : Int) ≤ 9223372036854775807; omega
  · show -9223372036854775808 ≤ (fD xs i 1 : Int) ∧ (fD xs i 1 : Int) ≤ 9223372036854775807; omega
  · show -9223372036854775808 ≤ (fD xs i 2 : Int) ∧ (fD xs i 2 : Int) ≤ 9223372036854775807; omega
theorem fD_vals {xs : List Nat} {i q : Nat} (hq : i * 16 = q) (h : q + 6 ≤ xs.length) : (∀ k, k < 3 → (unpackL wsD ((xs.drop q).take 6)).getD k 0 = fD xs i k) ∧ (unpackL wsD ((xs.drop q).take 6)).length = 3 := by
  have := unpack_take (xs := xs.drop q) wsD_ok (by decide +kernel) (by rw [wsD_bytes, List.length_drop]; omega)
  rw [wsD_bytes] at this
  rw [this]
  refine ⟨fun k hk => ?_, by rw [valsTo_length]; rfl⟩
  rw [valsTo_getD wsD _ k (by simpa [wsD] using hk)]
  unfold fD
  rw [hq]
theorem owns_sliceD {w : World} {B e n : Nat} {v : Value} {xs : List Value} (h : w.ownsRow B e 3 v n xs) : ∃ p c, v = .slice p n c := by
  rcases h.2 with ⟨rfl, h0⟩ | ⟨g, cap, cur, hv, _⟩
  · exact ⟨none, 0, by rw [h0]⟩
  · exact ⟨_, _, hv⟩
theorem alloc3 {w : World} {o : Obj} {b k : Nat} {v1 v2 v3 : Value} (hb : b < w.heap.size) (h : w.cell? ⟨b, k, none⟩ = some v1 ∧ w.cell? ⟨b, k + 1, none⟩ = some v2 ∧ w.cell? ⟨b, k + 2, none⟩ = some v3) :
    (w.drew.alloc o).cell? ⟨b, k, none⟩ = some v1 ∧ (w.drew.alloc o).cell? ⟨b, k + 1, none⟩ = some v2 ∧ (w.drew.alloc o).cell? ⟨b, k + 2, none⟩ = some v3 := by
  have hk := fun j => (below_alloc w.drew o).cell (p := ⟨b, j, none⟩) hb
  exact ⟨(hk _).trans h.1, (hk _).trans h.2.1, (hk _).trans h.2.2⟩
theorem grown3 {w w' : World} {row : Option Nat} {b k : Nat} {v1 v2 v3 : Value} (hg : w.grownBy w' row) (hne : some b ≠ row) (h : w.cell? ⟨b, k, none⟩ = some v1 ∧ w.cell? ⟨b, k + 1, none⟩ = some v2 ∧ w.cell? ⟨b, k + 2, none⟩ = some v3) :
    w'.cell? ⟨b, k, none⟩ = some v1 ∧ w'.cell? ⟨b, k + 1, none⟩ = some v2 ∧ w'.cell? ⟨b, k + 2, none⟩ = some v3 := by
  have hk := fun j => World.cell?_of_block (a := ⟨b, j, none⟩) (hg.block b (block_lt_of_cell h.1) hne)
  exact ⟨(hk _).trans h.1, (hk _).trans h.2.1, (hk _).trans h.2.2⟩
/-- A block that is younger than a row of one's own. -/
theorem young_ne {w : World} {B n b m : Nat} {p : Option Addr} {c : Nat} {xs : List Value} {e : TypeId} {s : Nat} (ho : w.ownsRow B e s (.slice p n c) n xs) (hm : w.heap.size ≤ m) (hb : m ≤ b) (q : some b = (Value.slice p n c).ownBlock) : False := by
  have := (ho.lt b q.symm).2
  omega
theorem wp_append_desc {o : Oper} {a : Act} {K : Act → World → Prop} {Q : Exit → Act → World → Prop} (s x : Operand)
    (ho : o.op = .call { callee := .builtin .append, args := #[s, x], argTypes := #[51, 51] }) (B : Nat) (v : Value) (n : Nat) (l : List Dsc) (r : Dsc) (W : World) (gl : Nat) (hs : a.eval s = v) (hown : W.ownsRow B 58 3 v n (flatD l))
    (hx : a.eval x = .slice (some ⟨gl, 0, none⟩) 1 1) (hlit : Blk W gl 58 r.cells) (hlen : n ≤ 1000000) (hB : B ≤ W.heap.size)
    (hK : ∀ p' c' w', w'.ownsRow B 58 3 (.slice p' (n + 1) c') (n + 1) (flatD (l ++ [r])) → W.grownBy w' v.ownBlock → Below B W w' → K (a.put o.dst (.slice p' (n + 1) c')) w') : o.wp Try.prog a W K Q := by
  obtain ⟨i0, hi, hz0, hz1, hz2⟩ := info_parts infoD
  refine wp_append_own _ s x 51 ho B 58 i0 (.agg #[.int .i64 0, .int .i64 0, .int .i64 0]) 3 24 Try.underlying51 hi hz0 hz1 hz2 rfl (by decide) v n (flatD l) hs hown ⟨gl, 0, none⟩ 1 1 r.cells hx rfl (fun j u hj => ?_) ?_ (by unfold maxLen; omega) (by omega) hB ?_
  · rw [addr_add, Nat.zero_add]; exact hlit.cell' hj
  · simp [Dsc.cells, Value.oneCell']
  · intro v1 w1 hown1 hgrow1 _
    have e : flatD l ++ r.cells = flatD (l ++ [r]) := by rw [flatD_append]; simp [flatD]
    rw [e] at hown1
    obtain ⟨p', c', hv⟩ := owns_sliceD hown1
    subst hv
    exact hK p' c' w1 hown1 hgrow1 ((Below.refl _ _).grown hgrow1 hB (fun k hk => (hown.lt k hk).1))
set_option linter.unusedSimpArgs false in
set_option maxHeartbeats 16000000 in
set_option maxRecDepth 100000 in
theorem readDescs_any (p : Option Addr) (c : Nat) (xs : List Nat) (n : Nat) (w : World) (hx : In w p 256 c xs) (hn : n ≤ 16) :
    Calls Try.prog 65 #[.slice p 256 c, .int .i64 (n : Int)] w fun e w' => ∃ p' c', e = .returned (.slice p' n c') ∧ InD w' p' n c' (rdD xs n) ∧ Below w.heap.size w w' := by
  obtain ⟨b, o, hpe, hbl, -⟩ := hx.at' (by decide)
  subst hpe
  have HL : Hid (xs.length = 256) := hx.len
  have hcap := hx.cap
  go_enter Try.func65, Try.ntmps65
  go_wp2
  go_loopw [5, 9] (fun s i wr => ∃ (k : Nat) (pl : Option Addr) (cl : Nat), k ≤ n ∧ i = .int .i64 k ∧ s = .slice pl k cl ∧ wr.ownsRow w.heap.size 58 3 (.slice pl k cl) k (flatD (rdD xs k)) ∧ Below w.heap.size w wr) (fun _ i _ => n - (intOf i).toNat)
  case atStart => exact ⟨0, none, 0, Nat.zero_le _, rfl, rfl, ⟨rfl, .inl ⟨rfl, rfl⟩⟩, Below.refl _ _⟩
  case round =>
    obtain ⟨k, pl, cl, hk, rfl, rfl, hown, hbel⟩ := hrel
    by_cases hlt : k < n
    · obtain ⟨q, HQ⟩ : ∃ q : Nat, Hid (k * 16 = q) := ⟨_, rfl⟩
      have hk16 : (k : Int) * 16 = (q : Int) := by have := HQ.out; omega
      have hq240 : q ≤ 240 := by have := HQ.out; omega
      have hwq : IntKind.i64.wrap (q : Int) = (q : Int) := wrapI _ (by omega)
      have hq256 : (q : Int) ≤ 256 := by omega
      have hcq : ¬ c = q := by omega
      have hxr := hx.below hbel
      have hbk := hxr.back q (by omega)
      have hsl := fun W => slice_back b o 256 c q (by omega) hcap W
      have hf := fD_lt xs k
      obtain ⟨hv, hu⟩ := fD_vals (xs := xs) HQ.out (by rw [HL.out]; omega)
      have E0 : Hid _ := hv 0 (by decide)
      have E1 : Hid _ := hv 1 (by decide)
      have E2 : Hid _ := hv 2 (by decide)
      have HU : Hid _ := hu
      have HRS : Hid _ := rdD_succ xs k
      clear hv hu
      generalize fD xs k 0 = f0 at *
      generalize fD xs k 1 = f1 at *
      generalize fD xs k 2 = f2 at *
      have hv0 : IntKind.i64.wrap (f0 : Int) = (f0 : Int) := wrapI _ (by omega)
      have hv1 : IntKind.i64.wrap (f1 : Int) = (f1 : Int) := wrapI _ (by omega)
      have hv2 : IntKind.i64.wrap (f2 : Int) = (f2 : Int) := wrapI _ (by omega)
      go_upto_region 5 with fail
      refine wp_region_noPanic ?_
      refine wp_region_held_drew (S := fun X => Below wr.heap.size wr X) (by kernel_rfl) ((Below.refl _ _).drew) (fun hHeld => ?_)
      refine wpAnyH_take (i := 0) (v := ?_) rfl (by kernel_rfl) (by kernel_rfl) (by kernel_rfl) (fun _ _ _ h => h) (Or.inl ⟨by kernel_rfl, ?_⟩) hHeld ?_
      rotate_left
      · intro w' hSw; try dsimp only at hSw
        go_simp; try (with_reducible rfl)
      try simp only [Act.put, List.getElem_toArray, List.getElem_cons_succ, List.getElem_cons_zero, List.setIfInBounds_toArray, List.set_cons_zero, List.set_cons_succ]
      refine wpAnyH_take (i := 1) (v := ?_) rfl (by kernel_rfl) (by kernel_rfl) (by kernel_rfl) (fun _ _ _ h => h) (Or.inl ⟨by kernel_rfl, ?_⟩) hHeld ?_
      rotate_left
      · intro w' hSw; try dsimp only at hSw
        go_simp; try (with_reducible rfl)
      try simp only [Act.put, List.getElem_toArray, List.getElem_cons_succ, List.getElem_cons_zero, List.setIfInBounds_toArray, List.set_cons_zero, List.set_cons_succ]
      refine wpAnyH_take (i := 2) (v := ?_) rfl (by kernel_rfl) (by kernel_rfl) (by kernel_rfl) (fun _ _ _ h => h) (Or.inl ⟨by kernel_rfl, ?_⟩) hHeld ?_
      rotate_left
      · intro w' hSw; try dsimp only at hSw
        go_simp; try (with_reducible rfl)
      try simp only [Act.put, List.getElem_toArray, List.getElem_cons_succ, List.getElem_cons_zero, List.setIfInBounds_toArray, List.set_cons_zero, List.set_cons_succ]
      refine wpAnyH_take (i := 3) (v := ?_) rfl (by kernel_rfl) (by kernel_rfl) (by kernel_rfl) (fun _ _ _ h => h) (Or.inl ⟨by kernel_rfl, ?_⟩) hHeld ?_
      rotate_left
      · intro w' hSw; try dsimp only at hSw
        go_simp; try (with_reducible rfl)
      try simp only [Act.put, List.getElem_toArray, List.getElem_cons_succ, List.getElem_cons_zero, List.setIfInBounds_toArray, List.set_cons_zero, List.set_cons_succ]
      refine wpAnyH_ready (rs := [4]) (by kernel_rfl) (by simp) ?_
      refine AllReadyH.cons rfl (fun K hK => ?_) AllReadyH.nil
      go_simp
      refine (descW_any _).mono ?_
      rintro e w2 ⟨p2, rfl, hin2, hb2⟩
      have hS2 := bt hHeld hb2
      refine hK.out _ _ hS2 (fun hHeld => ?_)
      clear hK K
      try simp only [Act.put, List.getElem_toArray, List.getElem_cons_succ, List.getElem_cons_zero, List.setIfInBounds_toArray, List.set_cons_zero, List.set_cons_succ]
      refine wpAnyH_ready (rs := [5]) (by kernel_rfl) (by simp) ?_
      refine AllReadyH.cons rfl (fun K hK => ?_) AllReadyH.nil
      go_simp
      refine (take_fresh (some ⟨b, o + q, none⟩) p2 (256 - q) (c - q) 3 3 wsD (xs.drop q) _ (hbk.below hHeld) hin2 wsD_ok (by rw [wsD_bytes]; omega)).mono ?_
      rintro e w3 ⟨p3, n3, c3, rfl, hin3, hb3, hfr3⟩
      have hS3 := bt hHeld hb3
      have hs3 := hHeld.size
      refine hK.out _ _ hS3 (fun hHeld => ?_)
      clear hK K
      try simp only [Act.put, List.getElem_toArray, List.getElem_cons_succ, List.getElem_cons_zero, List.setIfInBounds_toArray, List.set_cons_zero, List.set_cons_succ]
      refine wpAnyH_take (i := 6) (v := ?_) rfl (by kernel_rfl) (by kernel_rfl) (by kernel_rfl) (fun _ _ _ h => h) (Or.inl ⟨by kernel_rfl, ?_⟩) hHeld ?_
      rotate_left
      · intro w' hSw; try dsimp only at hSw
        go_simp; try (with_reducible rfl)
      try simp only [Act.put, List.getElem_toArray, List.getElem_cons_succ, List.getElem_cons_zero, List.setIfInBounds_toArray, List.set_cons_zero, List.set_cons_succ]
      refine wpAnyH_done (by kernel_rfl) ?_ _
      refine NoPanic.normal ?_
      rw [wsD_bytes] at hin3
      have hn3 := hin3.len
      rw [HU.out] at hn3
      subst hn3
      obtain ⟨b5, o5, rfl, hb5, hc5⟩ := hin3.at' (by decide)
      have hcap5 := hin3.cap
      have d0 := hc5 0 (by decide)
      have d1 := hc5 1 (by decide)
      have d2 := hc5 2 (by decide)
      unfold el at d0 d1 d2
      rw [E0.out, Nat.add_zero] at d0
      rw [E1.out] at d1
      rw [E2.out] at d2
      have hown3 := owns_below hown hS3
      have hyg : wr.heap.size ≤ b5 := Nat.le_trans hs3 (hfr3 _ rfl)
      have hB3 := bt hbel hS3
      have hsz3 := hB3.size
      clear hc5 hin3 hin2 hb2 hb3 hS2 hS3 hHeld hbk hsl hxr hbel hfr3 hs3
      go_upto_region 6 with fail
      refine wp_region_noPanic ?_
      refine wp_region_held_drew (S := fun X => X.cell? ⟨b5, o5, none⟩ = some (.int .u64 (f0 : Int)) ∧ X.cell? ⟨b5, o5 + 1, none⟩ = some (.int .u64 (f1 : Int)) ∧ X.cell? ⟨b5, o5 + 2, none⟩ = some (.int .u64 (f2 : Int))) (by kernel_rfl) ⟨d0, d1, d2⟩ (fun hHeld => ?_)
      refine wpAnyH_take (i := 0) (v := ?_) rfl (by kernel_rfl) (by kernel_rfl) (by kernel_rfl) (fun _ _ _ h => h) (Or.inl ⟨by kernel_rfl, ?_⟩) hHeld ?_
      rotate_left
      · intro w' hSw; try dsimp only at hSw
        go_simp; try (with_reducible rfl)
      try simp only [Act.put, List.getElem_toArray, List.getElem_cons_succ, List.getElem_cons_zero, List.setIfInBounds_toArray, List.set_cons_zero, List.set_cons_succ]
      refine wpAnyH_take (i := 1) (v := ?_) rfl (by kernel_rfl) (by kernel_rfl) (by kernel_rfl) (fun _ _ _ h => h) (Or.inl ⟨by kernel_rfl, ?_⟩) hHeld ?_
      rotate_left
      · intro w' hSw; try dsimp only at hSw
        go_simp; try (with_reducible rfl)
      try simp only [Act.put, List.getElem_toArray, List.getElem_cons_succ, List.getElem_cons_zero, List.setIfInBounds_toArray, List.set_cons_zero, List.set_cons_succ]
      refine wpAnyH_take (i := 2) (v := ?_) rfl (by kernel_rfl) (by kernel_rfl) (by kernel_rfl) (fun _ _ _ h => h) (Or.inl ⟨by kernel_rfl, ?_⟩) hHeld ?_
      rotate_left
      · intro w' hSw; try dsimp only at hSw
        go_simp; try (with_reducible rfl)
      try simp only [Act.put, List.getElem_toArray, List.getElem_cons_succ, List.getElem_cons_zero, List.setIfInBounds_toArray, List.set_cons_zero, List.set_cons_succ]
      refine wpAnyH_take (i := 3) (v := ?_) rfl (by kernel_rfl) (by kernel_rfl) (by kernel_rfl) (fun _ _ _ h => h) (Or.inl ⟨by kernel_rfl, ?_⟩) hHeld ?_
      rotate_left
      · intro w' hSw; try dsimp only at hSw
        obtain ⟨q0, q1, q2⟩ := hSw
        go_simp; try (with_reducible rfl)
      try simp only [Act.put, List.getElem_toArray, List.getElem_cons_succ, List.getElem_cons_zero, List.setIfInBounds_toArray, List.set_cons_zero, List.set_cons_succ]
      refine wpAnyH_take (i := 4) (v := ?_) rfl (by kernel_rfl) (by kernel_rfl) (by kernel_rfl) (fun _ _ _ h => h) (Or.inl ⟨by kernel_rfl, ?_⟩) hHeld ?_
      rotate_left
      · intro w' hSw; try dsimp only at hSw
        go_simp; try (with_reducible rfl)
      try simp only [Act.put, List.getElem_toArray, List.getElem_cons_succ, List.getElem_cons_zero, List.setIfInBounds_toArray, List.set_cons_zero, List.set_cons_succ]
      refine wpAnyH_take (i := 5) (v := ?_) rfl (by kernel_rfl) (by kernel_rfl) (by kernel_rfl) (fun _ _ _ h => h) (Or.inl ⟨by kernel_rfl, ?_⟩) hHeld ?_
      rotate_left
      · intro w' hSw; try dsimp only at hSw
        go_simp; try (with_reducible rfl)
      try simp only [Act.put, List.getElem_toArray, List.getElem_cons_succ, List.getElem_cons_zero, List.setIfInBounds_toArray, List.set_cons_zero, List.set_cons_succ]
      refine wpAnyH_take (i := 6) (v := ?_) rfl (by kernel_rfl) (by kernel_rfl) (by kernel_rfl) (fun _ _ _ h => h) (Or.inl ⟨by kernel_rfl, ?_⟩) hHeld ?_
      rotate_left
      · intro w' hSw; try dsimp only at hSw
        go_simp; try (with_reducible rfl)
      try simp only [Act.put, List.getElem_toArray, List.getElem_cons_succ, List.getElem_cons_zero, List.setIfInBounds_toArray, List.set_cons_zero, List.set_cons_succ]
      refine wpAnyH_take (i := 7) (v := ?_) rfl (by kernel_rfl) (by kernel_rfl) (by kernel_rfl) (fun _ _ _ h => h) (Or.inl ⟨by kernel_rfl, ?_⟩) hHeld ?_
      rotate_left
      · intro w' hSw; try dsimp only at hSw
        obtain ⟨q0, q1, q2⟩ := hSw
        go_simp; try (with_reducible rfl)
      try simp only [Act.put, List.getElem_toArray, List.getElem_cons_succ, List.getElem_cons_zero, List.setIfInBounds_toArray, List.set_cons_zero, List.set_cons_succ]
      refine wpAnyH_take (i := 8) (v := ?_) rfl (by kernel_rfl) (by kernel_rfl) (by kernel_rfl) (fun _ _ _ h => h) (Or.inl ⟨by kernel_rfl, ?_⟩) hHeld ?_
      rotate_left
      · intro w' hSw; try dsimp only at hSw
        go_simp; try (with_reducible rfl)
      try simp only [Act.put, List.getElem_toArray, List.getElem_cons_succ, List.getElem_cons_zero, List.setIfInBounds_toArray, List.set_cons_zero, List.set_cons_succ]
      refine wpAnyH_take (i := 9) (v := ?_) rfl (by kernel_rfl) (by kernel_rfl) (by kernel_rfl) (fun _ _ _ h => h) (Or.inl ⟨by kernel_rfl, ?_⟩) hHeld ?_
      rotate_left
      · intro w' hSw; try dsimp only at hSw
        go_simp; try (with_reducible rfl)
      try simp only [Act.put, List.getElem_toArray, List.getElem_cons_succ, List.getElem_cons_zero, List.setIfInBounds_toArray, List.set_cons_zero, List.set_cons_succ]
      refine wpAnyH_take (i := 10) (v := ?_) rfl (by kernel_rfl) (by kernel_rfl) (by kernel_rfl) (fun _ _ _ h => h) (Or.inl ⟨by kernel_rfl, ?_⟩) hHeld ?_
      rotate_left
      · intro w' hSw; try dsimp only at hSw
        go_simp; try (with_reducible rfl)
      try simp only [Act.put, List.getElem_toArray, List.getElem_cons_succ, List.getElem_cons_zero, List.setIfInBounds_toArray, List.set_cons_zero, List.set_cons_succ]
      refine wpAnyH_take (i := 11) (v := ?_) rfl (by kernel_rfl) (by kernel_rfl) (by kernel_rfl) (fun _ _ _ h => h) (Or.inl ⟨by kernel_rfl, ?_⟩) hHeld ?_
      rotate_left
      · intro w' hSw; try dsimp only at hSw
        obtain ⟨q0, q1, q2⟩ := hSw
        go_simp; try (with_reducible rfl)
      try simp only [Act.put, List.getElem_toArray, List.getElem_cons_succ, List.getElem_cons_zero, List.setIfInBounds_toArray, List.set_cons_zero, List.set_cons_succ]
      refine wpAnyH_take (i := 12) (v := ?_) rfl (by kernel_rfl) (by kernel_rfl) (by kernel_rfl) (fun _ _ _ h => h) (Or.inl ⟨by kernel_rfl, ?_⟩) hHeld ?_
      rotate_left
      · intro w' hSw; try dsimp only at hSw
        go_simp; try (with_reducible rfl)
      try simp only [Act.put, List.getElem_toArray, List.getElem_cons_succ, List.getElem_cons_zero, List.setIfInBounds_toArray, List.set_cons_zero, List.set_cons_succ]
      refine wpAnyH_take (i := 13) (v := ?_) rfl (by kernel_rfl) (by kernel_rfl) (by kernel_rfl) (fun _ _ _ h => h) (Or.inl ⟨by kernel_rfl, ?_⟩) hHeld ?_
      rotate_left
      · intro w' hSw; try dsimp only at hSw
        go_simp; try (with_reducible rfl)
      try simp only [Act.put, List.getElem_toArray, List.getElem_cons_succ, List.getElem_cons_zero, List.setIfInBounds_toArray, List.set_cons_zero, List.set_cons_succ]
      refine wpAnyH_ready (rs := [14]) (by kernel_rfl) (by simp) ?_
      refine AllReadyH.cons rfl (fun K hK => ?_) AllReadyH.nil
      try rw [hv0, hv1, hv2]
      go_simp
      have hS4 := alloc3 (o := Obj.cells #[.int .i64 (f0 : Int), .int .i64 (f1 : Int), .int .i64 (f2 : Int)] 58) hb5 ⟨d0, d1, d2⟩
      have s4 := Blk.new' w3.drew 58 #[.int .i64 (f0 : Int), .int .i64 (f1 : Int), .int .i64 (f2 : Int)]
      have ho4 := (owns_below hown3 ((Below.refl _ _).drew)).alloc (.cells #[.int .i64 (f0 : Int), .int .i64 (f1 : Int), .int .i64 (f2 : Int)] 58)
      refine hK.out _ _ hS4 (fun hHeld => ?_)
      clear hK K
      try simp only [Act.put, List.getElem_toArray, List.getElem_cons_succ, List.getElem_cons_zero, List.setIfInBounds_toArray, List.set_cons_zero, List.set_cons_succ]
      refine wpAnyH_ready (rs := [15]) (by kernel_rfl) (by simp) ?_
      refine AllReadyH.cons rfl (fun K hK => ?_) AllReadyH.nil
      refine wp_append_desc (.tmp 18) (.tmp 32) rfl w.heap.size (.slice pl k cl) k (rdD xs k) ⟨(f0 : Int), (f1 : Int), (f2 : Int)⟩ (w3.drew.alloc (.cells #[.int .i64 (f0 : Int), .int .i64 (f1 : Int), .int .i64 (f2 : Int)] 58)) w3.heap.size rfl ho4 rfl s4 (by omega) (by rw [World.size_alloc]; exact Nat.le_succ_of_le hsz3) ?_
      intro p6 c6 w6 hown6 hgrow6 hb6
      have hS6 := grown3 hgrow6 (fun e => young_ne hown hyg (Nat.le_refl _) e) hS4
      refine hK.out _ _ hS6 (fun hHeld => ?_)
      clear hK K
      try simp only [Act.put, List.getElem_toArray, List.getElem_cons_succ, List.getElem_cons_zero, List.setIfInBounds_toArray, List.set_cons_zero, List.set_cons_succ]
      refine wpAnyH_take (i := 16) (v := ?_) rfl (by kernel_rfl) (by kernel_rfl) (by kernel_rfl) (fun _ _ _ h => h) (Or.inl ⟨by kernel_rfl, ?_⟩) hHeld ?_
      rotate_left
      · intro w' hSw; try dsimp only at hSw
        go_simp; try (with_reducible rfl)
      try simp only [Act.put, List.getElem_toArray, List.getElem_cons_succ, List.getElem_cons_zero, List.setIfInBounds_toArray, List.set_cons_zero, List.set_cons_succ]
      refine wpAnyH_done (by kernel_rfl) ?_ _
      refine NoPanic.normal ?_
      have hB6 : Below w.heap.size w w6 := (bt hB3.drew (below_alloc _ (.cells #[.int .i64 (f0 : Int), .int .i64 (f1 : Int), .int .i64 (f2 : Int)] 58))).trans hb6
      go_wp2
      go_roundw
      case rel => exact ⟨k + 1, p6, c6, by omega, by go_num, rfl, by rw [HRS.out]; exact hown6, hB6⟩
      case measure => simp [intOf]; omega
    · obtain rfl : k = n := by omega
      go_wp2
      go_ret
      obtain ⟨p', c', hv, hin⟩ := in_of_ownsD hown (by omega)
      cases hv
      exact ⟨_, _, rfl, hin, hbel⟩
end Go.Proofs.Ytbimcdaplnmjdaa
