/-
  Disks made of an image: the program's and the document's.
-/
import Derived.Test.YtbnnekpglnnneaaDkClone
namespace Go.Proofs.Ytbnnekpglnnneaa
open Go.RowKit
theorem RefIn.cell0' {w : World} {r : Nat} {V : RV} {t : RS} (h : RefIn w r V t) {v : Value} (hv : V.sv = v) : w.cell? ⟨r, 0, none⟩ = some v := by rw [← hv]; exact h.blk.cell' rfl
/-- The bytes of a sector, in its row, replaced. -/
theorem flat_data (l : List (List Nat × Bool)) (hl : ∀ x ∈ l, Is x.1) (i : Nat) (x : List Nat × Bool) (hx : l[i]? = some x) (D : List Nat) (_hD : D.length = 256) :
    (flatS l).take (i * 257) ++ vals D ++ (flatS l).drop (i * 257 + 256) = (flatS l).take (i * 257) ++ secV (D, x.2) ++ (flatS l).drop (i * 257 + 257) := by
  have hi : i < l.length := (List.getElem?_eq_some_iff.1 hx).1
  have hfl := flatS_length hl
  have hg : (flatS l)[i * 257 + 256]? = some (.bool x.2) := by
    have h1 : ((flatS l).drop (i * 257)).take 257 = secV x := flat_get secV 257 l (fun y hy => secV_length (hl y hy).1) i x hx
    have h2 : (secV x)[256]? = some (.bool x.2) := by
      have hxl := (hl x (List.mem_of_getElem? hx)).1
      rw [secV, List.getElem?_append_right (by rw [vals_length, hxl]; exact Nat.le_refl _), vals_length, hxl]; rfl
    rw [← h1, List.getElem?_take_of_lt (by omega), List.getElem?_drop] at h2
    exact h2
  have hlt : i * 257 + 256 < (flatS l).length := by omega
  rw [List.drop_eq_getElem_cons hlt]
  have e : (flatS l)[i * 257 + 256] = .bool x.2 := by
    rw [List.getElem?_eq_getElem hlt] at hg
    exact Option.some.inj hg
  rw [e, secV]
  simp
/-- copy of bytes into a sector. -/
theorem copy_sec {w : World} {d sb : Nat} {lv : Value} {s : DS} (h : DiskIn w d sb lv s) {k : Nat} {x : List Nat × Bool} (hx : s.secs[k]? = some x) {p : Option Addr} {c : Nat} {D : List Nat} (hin : In w p 256 c D) :
    ∃ w', (Builtin.copy_ #[31, 31] 3 #[.slice (some ⟨sb, k * 257, none⟩) 256 256, .slice p 256 c]).run Try.prog w = .ok (.int .i64 256) w' ∧ DAfter w w' d sb lv lv { s with secs := s.secs.set k (D, x.2) } := by
  obtain ⟨b, o, rfl, _, _⟩ := hin.at' (by omega)
  have hl : (vals D).length = 256 := by rw [vals_length, hin.len]
  have hk : k < s.secs.length := (List.getElem?_eq_some_iff.1 hx).1
  have hfl := flatS_length h.okS
  have hrun := run_copy_row (P := Try.prog) w 31 31 3 5 sb (k * 257) 256 256 ⟨b, o, none⟩ 256 c (flatS s.secs ++ s.sp).toArray 83 (vals D) Try.underlying31 size5 h.row
    (by rw [hl]; rfl) (fun i v hi => hin.cells rfl i v hi) (by rw [hl, List.size_toArray, List.length_append]; omega) (vals_one _)
  rw [hl, List.toList_toArray] at hrun
  refine ⟨_, hrun, h.sector hk ⟨hin.len, hin.byte⟩ (u := x.2) ?_ (Turned.setRow _ _ _)⟩
  have e : (flatS s.secs ++ s.sp).take (k * 257) ++ vals D ++ (flatS s.secs ++ s.sp).drop (k * 257 + 256) = (flatS s.secs ++ s.sp).take (k * 257) ++ secV (D, x.2) ++ (flatS s.secs ++ s.sp).drop (k * 257 + (secV (D, x.2)).length) := by
    have := flat_data s.secs h.okS k x hx D hin.len
    rw [secV_length (by exact hin.len), List.take_append_of_le_length (by omega), List.drop_append_of_le_length (by omega), List.drop_append_of_le_length (by omega), ← List.append_assoc, this, ← List.append_assoc]
  rw [← e]
  exact h.row.setRow _
def ofOk (Ds : List (List Nat)) : Bool := decide (1 ≤ Ds.length) && Ds.all (fun D => D.length == 256)
/-- A disk of these sectors. -/
def ofD (Ds : List (List Nat)) : DS := { newD Ds.length with secs := Ds.map (fun D => (D, false)) }
def ofR (Ds : List (List Nat)) : RS := { newR Ds.length with secs := Ds }
def upS (Ds : List (List Nat)) (k : Nat) : List (List Nat × Bool) := (Ds.take k).map (fun D => (D, false)) ++ List.replicate (Ds.length - k) (z256, false)
def upR (Ds : List (List Nat)) (k : Nat) : List (List Nat) := Ds.take k ++ List.replicate (Ds.length - k) z256
theorem upS_next (Ds : List (List Nat)) (k : Nat) (D : List Nat) (h : Ds[k]? = some D) : (upS Ds k)[k]? = some (z256, false) ∧ (upS Ds k).set k (D, false) = upS Ds (k + 1) := by
  have hk : k < Ds.length := (List.getElem?_eq_some_iff.1 h).1
  have hl : ((Ds.take k).map (fun D => (D, false))).length = k := by rw [List.length_map, List.length_take]; omega
  refine ⟨?_, ?_⟩
  · rw [upS, List.getElem?_append_right (by omega), hl, Nat.sub_self, List.getElem?_replicate, if_pos (by omega)]
  · rw [upS, List.set_append_right _ _ (by omega), hl, Nat.sub_self, upS, show Ds.length - k = (Ds.length - (k + 1)) + 1 from by omega, List.replicate_succ, List.set_cons_zero, List.take_add_one, h, List.map_append, List.append_assoc]
    rfl
theorem upR_next (Ds : List (List Nat)) (k : Nat) (D : List Nat) (h : Ds[k]? = some D) : (upR Ds k).set k D = upR Ds (k + 1) := by
  have hk : k < Ds.length := (List.getElem?_eq_some_iff.1 h).1
  have hl : (Ds.take k).length = k := by rw [List.length_take]; omega
  rw [upR, List.set_append_right _ _ (by omega), hl, Nat.sub_self, upR, show Ds.length - k = (Ds.length - (k + 1)) + 1 from by omega, List.replicate_succ, List.set_cons_zero, List.take_add_one, h, List.append_assoc]
  rfl
set_option linter.unusedSimpArgs false in
set_option maxRecDepth 100000 in
set_option maxHeartbeats 2000000 in
theorem of_any {w : World} {p : Option Addr} {n c : Nat} {rs : List SR} {Ds : List (List Nat)} (ha : RdB w p n c rs Ds) (hn : n ≤ 8192) :
    Calls Try.prog 24 #[.slice p n c] w fun e w' => Below w.heap.size w w' ∧ ((ofOk Ds = true ∧ ∃ d sb, e = .returned (.tuple #[.pointer (some ⟨d, 0, none⟩), .int .i64 0]) ∧ w.heap.size ≤ d ∧ w.heap.size ≤ sb ∧ DiskIn w' d sb (.slice none 0 0) (ofD Ds)) ∨ (ofOk Ds = false ∧ e = .returned (.tuple #[.pointer none, .int .i64 1]))) := by
  have la := ha.each.len
  have lra := ha.len
  rcases Nat.eq_zero_or_pos n with h0 | h0
  · subst h0
    have hof : Hid (ofOk Ds = false) := by show _ = _; simp [ofOk]; intro h; omega
    have hnw := new_no 0 (by omega) w
    go_enter Try.func24, Try.ntmps24
    go_wp2_with (go_at_call 8; refine hnw.mono ?_; rintro e w' ⟨rfl, hw'⟩; have hw2 := hw'.symm; subst hw2; clear hw')
    go_ret2
    exact ⟨Below.refl _ _, .inr ⟨hof.out, rfl⟩⟩
  · have hnw := new_ok n h0 hn w
    have hni : (n : Int) ≤ 8192 := by omega
    have HL : Hid (Ds.length = n) := by show _ = _; omega
    clear la
    obtain ⟨bi, oi, rfl, hbl, fi⟩ := ha.at' h0
    go_enter Try.func24, Try.ntmps24
    go_wp2_with (go_at_call 8; refine hnw.mono ?_; rintro e w1 ⟨hb1, d, sb, rfl, hd1, hs1, D1⟩)
    clear hnw
    have D1' : DiskIn w1 d sb (.slice none 0 0) { newD n with secs := upS Ds 0 } := by
      have e : upS Ds 0 = List.replicate n (z256, false) := by rw [upS, HL.out]; simp
      rw [e]; exact D1
    go_loopw [19] (fun i wr => ∃ k : Nat, k ≤ n ∧ i = .int .i64 (k : Int) ∧ DiskIn wr d sb (.slice none 0 0) { newD n with secs := upS Ds k } ∧ Below w.heap.size w wr ∧ Hid (∀ D ∈ Ds.take k, D.length = 256)) (fun i _ => n - (intOf i).toNat)
    case atStart => exact ⟨0, Nat.zero_le _, rfl, D1', hb1, fun D hD => by simp at hD⟩
    case round =>
      obtain ⟨k, hk, rfl, hD, hB, hE⟩ := hrel
      clear D1 D1' hb1
      by_cases hlt : k < n
      · have hki : (k : Int) < (n : Int) := by omega
        have hk8 : (k : Int) ≤ 8192 := by omega
        obtain ⟨x, hx⟩ : ∃ x, rs[k]? = some x := ⟨_, List.getElem?_eq_getElem (by omega)⟩
        obtain ⟨y, hy⟩ : ∃ y, Ds[k]? = some y := ⟨_, List.getElem?_eq_getElem (by rw [HL.out]; exact hlt)⟩
        have ci := (hB.cell (p := ⟨bi, oi + k, none⟩) hbl).trans (fi k x hx)
        unfold srV at ci
        have ix := (ha.each.each k x y hx hy).below hB
        have hroom := ix.room
        have hux := upS_next Ds k y hy
        by_cases h256 : x.n = 256
        · have HT : Hid (∀ D ∈ Ds.take (k + 1), D.length = 256) := by
            intro D hD'
            rw [List.take_add_one, hy] at hD'
            rcases List.mem_append.1 hD' with h' | h'
            · exact hE.out D h'
            · simp at h'; rw [h', ix.len]; exact h256
          rw [h256] at ix ci
          obtain ⟨w2, hcp, A2⟩ := copy_sec hD hux.1 ix
          have c0 := hD.c0
          have hsl := slice_arr sb (k * 257)
          have hul : (upS Ds k).length = n := by rw [upS, List.length_append, List.length_map, List.length_take, List.length_replicate, HL.out]; omega
          dsimp only at c0
          rw [hul] at c0
          have A2' : DiskIn w2 d sb (.slice none 0 0) { newD n with secs := upS Ds (k + 1) } := by rw [← hux.2]; exact A2.disk
          have hB2 : Below w.heap.size w w2 := hB.trans (A2.keep.below hB.size (by
            rintro j (rfl | rfl | hj)
            · exact hd1
            · exact hs1
            · simp [Value.ownBlock] at hj))
          clear hx hy hux A2 hul hD
          go_wp2_with fail
          go_roundw
          case rel => exact ⟨k + 1, by omega, by go_num, A2', hB2, HT⟩
          case measure => simp [intOf]; omega
        · have hof : Hid (ofOk Ds = false) := by
            show _ = _
            rw [ofOk, Bool.and_eq_false_iff]
            right
            rw [List.all_eq_false]
            exact ⟨y, List.mem_of_getElem? hy, by rw [← ix.len] at h256; simpa using h256⟩
          have hxn : (x.n : Int) ≠ 256 := by omega
          go_wp2_with fail
          go_ret2
          exact ⟨hB, .inr ⟨hof.out, rfl⟩⟩
      · obtain rfl : k = n := by omega
        have hki : ¬ (k : Int) < (k : Int) := by omega
        have hT : Ds.take k = Ds := List.take_of_length_le (by rw [HL.out]; exact Nat.le_refl _)
        have hof : Hid (ofOk Ds = true) := by
          show _ = _
          rw [ofOk, Bool.and_eq_true]
          refine ⟨by simp [HL.out]; omega, List.all_eq_true.2 (fun D hD' => ?_)⟩
          have := hE.out D (by rw [hT]; exact hD')
          simp [this]
        have e : upS Ds k = Ds.map (fun D => (D, false)) := by rw [upS, hT, HL.out, Nat.sub_self]; simp
        rw [e] at hD
        have hD' : DiskIn wr d sb (.slice none 0 0) (ofD Ds) := by rw [ofD, HL.out]; exact hD
        clear hT e hD
        go_wp2_with fail
        go_ret2
        exact ⟨hB, .inl ⟨hof.out, d, rfl, hd1, sb, hs1, hD'⟩⟩
set_option linter.unusedSimpArgs false in
set_option maxRecDepth 100000 in
set_option maxHeartbeats 2000000 in
theorem rof_any {w : World} {p : Option Addr} {n c : Nat} {rs : List SR} {Ds : List (List Nat)} (ha : RdB w p n c rs Ds) (hn : n ≤ 8192) :
    Calls Try.prog 25 #[.slice p n c] w fun e w' => Below w.heap.size w w' ∧ ((ofOk Ds = true ∧ ∃ r V, e = .returned (.tuple #[.pointer (some ⟨r, 0, none⟩), .int .i64 0]) ∧ RefIn w' r V (ofR Ds)) ∨ (ofOk Ds = false ∧ e = .returned (.tuple #[.pointer none, .int .i64 1]))) := by
  have la := ha.each.len
  have lra := ha.len
  rcases Nat.eq_zero_or_pos n with h0 | h0
  · subst h0
    have hof : Hid (ofOk Ds = false) := by show _ = _; simp [ofOk]; intro h; omega
    go_enter Try.func25, Try.ntmps25
    go_wp2
    go_ret2
    exact ⟨Below.refl _ _, .inr ⟨hof.out, rfl⟩⟩
  · have hni : (n : Int) ≤ 8192 := by omega
    have hn1 : ¬ (n : Int) < 1 := by omega
    have HL : Hid (Ds.length = n) := by show _ = _; omega
    clear la
    obtain ⟨bi, oi, rfl, hbl, fi⟩ := ha.at' h0
    go_enter Try.func25, Try.ntmps25
    go_wp2_with fail
    go_loopw [4] (fun i wr => ∃ k : Nat, k ≤ n ∧ i = .int .i64 (k : Int) ∧ wr = w ∧ Hid (∀ D ∈ Ds.take k, D.length = 256)) (fun i _ => n - (intOf i).toNat)
    case atStart => exact ⟨0, Nat.zero_le _, rfl, rfl, fun D hD => by simp at hD⟩
    case round =>
      obtain ⟨k, hk, rfl, hwr, hE⟩ := hrel
      have hwr' := hwr.symm
      subst hwr'
      clear hwr
      by_cases hlt : k < n
      · have hki : (k : Int) < (n : Int) := by omega
        have hk8 : (k : Int) ≤ 8192 := by omega
        obtain ⟨x, hx⟩ : ∃ x, rs[k]? = some x := ⟨_, List.getElem?_eq_getElem (by omega)⟩
        obtain ⟨y, hy⟩ : ∃ y, Ds[k]? = some y := ⟨_, List.getElem?_eq_getElem (by rw [HL.out]; exact hlt)⟩
        have ci := fi k x hx
        unfold srV at ci
        have ix := ha.each.each k x y hx hy
        clear fi
        have hroom := ix.room
        by_cases h256 : x.n = 256
        · have HT : Hid (∀ D ∈ Ds.take (k + 1), D.length = 256) := by
            intro D hD'
            rw [List.take_add_one, hy] at hD'
            rcases List.mem_append.1 hD' with h' | h'
            · exact hE.out D h'
            · simp at h'; rw [h', ix.len]; exact h256
          rw [h256] at ci
          clear hx hy ix
          go_wp2_with fail
          go_roundw
          case rel => exact ⟨k + 1, by omega, by go_num, trivial, HT⟩
          case measure => simp [intOf]; omega
        · have hof : Hid (ofOk Ds = false) := by
            show _ = _
            rw [ofOk, Bool.and_eq_false_iff]
            right
            rw [List.all_eq_false]
            exact ⟨y, List.mem_of_getElem? hy, by rw [← ix.len] at h256; simpa using h256⟩
          have hxn : (x.n : Int) ≠ 256 := by omega
          go_wp2_with fail
          go_ret2
          exact ⟨Below.refl _ _, .inr ⟨hof.out, rfl⟩⟩
      · obtain rfl : k = n := by omega
        have hki : ¬ (k : Int) < (k : Int) := by omega
        have hT : Ds.take k = Ds := List.take_of_length_le (by rw [HL.out]; exact Nat.le_refl _)
        have HOF : Hid (ofOk Ds = true) := by
          show _ = _
          rw [ofOk, Bool.and_eq_true]
          refine ⟨by simp [HL.out]; omega, List.all_eq_true.2 (fun D hD' => ?_)⟩
          have := hE.out D (by rw [hT]; exact hD')
          simp [this]
        clear hT
        go_wp2_with (go_at_call 9; refine (rnew_ok k h0 hn _).mono ?_; rintro e w1 ⟨hb1, r, V1, rfl, hF1, R1⟩)
        have R1' : RefIn w1 r V1 { newR k with secs := upR Ds 0 } := by
          have e : upR Ds 0 = List.replicate k z256 := by rw [upR, HL.out]; simp
          rw [e]; exact R1
        have fi' : ∀ (i : Nat) (x : SR), rs[i]? = some x → w1.cell? ⟨bi, oi + i, none⟩ = some (srV x) := fun i x hx => (hb1.cell (p := ⟨bi, oi + i, none⟩) hbl).trans (fi i x hx)
        have ha1 := ha.each.below hb1
        have HALL : Hid (∀ D ∈ Ds, D.length = 256) := fun D hD' => by have := List.all_eq_true.1 ((Bool.and_eq_true _ _ ▸ HOF.out : _ ∧ _).2) D hD'; simpa using this
        have fi0 := fi
        clear R1 fi hE fi' ha1
        go_loopw [7] (fun i wr => ∃ (j : Nat) (V : RV), j ≤ k ∧ i = .int .i64 (j : Int) ∧ RefIn wr r V { newR k with secs := upR Ds j } ∧ (∀ m, fpR r V m → w.heap.size ≤ m) ∧ Below w.heap.size w wr) (fun i _ => k - (intOf i).toNat)
        case atStart => exact ⟨0, V1, Nat.zero_le _, rfl, R1', hF1, hb1⟩
        case round =>
          obtain ⟨j, V, hj, rfl, hR, hF, hB⟩ := hrel
          clear R1' hF1 hb1
          by_cases hlt : j < k
          · have hji : (j : Int) < (k : Int) := by omega
            have hj8 : (j : Int) ≤ 8192 := by omega
            obtain ⟨x, hx⟩ : ∃ x, rs[j]? = some x := ⟨_, List.getElem?_eq_getElem (by omega)⟩
            obtain ⟨y, hy⟩ : ∃ y, Ds[j]? = some y := ⟨_, List.getElem?_eq_getElem (by rw [HL.out]; exact hlt)⟩
            have hur := upR_next Ds j y hy
            have ci := (hB.cell (p := ⟨bi, oi + j, none⟩) hbl).trans (fi0 j x hx)
            have ix := (ha.each.each j x y hx hy).below hB
            have hxn : x.n = 256 := by rw [← ix.len]; exact HALL.out y (List.mem_of_getElem? hy)
            unfold srV at ci
            rw [hxn] at ci ix
            have hul : (upR Ds j).length = k := by rw [upR, List.length_append, List.length_take, List.length_replicate, HL.out]; omega
            have hlen := hR.sec.len
            dsimp only at hlen
            rw [hul] at hlen
            obtain ⟨g, cap, hsv, _, _⟩ := owns_at hR.srow (by omega)
            obtain ⟨n, hvn⟩ : ∃ n, V.rs.length = n := ⟨_, rfl⟩
            rw [hvn] at hsv hlen
            have hjn : (j : Int) < (n : Int) := by omega
            have hjn' : j < n := by omega
            have hn8 : (n : Int) ≤ 8192 := by omega
            have hne : bi ≠ g := by have := hF g (.inr (.inl (by rw [hsv]; rfl))); omega
            have hbl' : bi < wr.heap.size := Nat.lt_of_lt_of_le hbl hB.size
            have HUR : Hid ((upR Ds j).set j y = upR Ds (j + 1)) := hur
            clear hur hx hy hxn hul fi0
            go_wp2_with fail
            refine wp_region_noPanic ?_
            refine wp_region_held_drew (S := fun X => X.cell? ⟨r, 0, none⟩ = some (.slice (some ⟨g, 0, none⟩) n cap) ∧ X.cell? ⟨bi, oi + j, none⟩ = some (.slice x.p 256 x.c)) (by kernel_rfl) ⟨hR.cell0' hsv, ci⟩ (fun hHeld => ?_)
            refine wpAnyH_take (i := 0) (v := ?_) rfl (by kernel_rfl) (by kernel_rfl) (by kernel_rfl) (fun _ _ _ h => h) (Or.inl ⟨by rfl, ?_⟩) hHeld ?_
            rotate_left
            · intro w' hSw; try dsimp only at hSw
              obtain ⟨s1, s2⟩ := hSw
              go_simp; try (with_reducible rfl)
            try simp only [Act.put, List.getElem_toArray, List.getElem_cons_succ, List.getElem_cons_zero, List.setIfInBounds_toArray, List.set_cons_zero, List.set_cons_succ]
            refine wpAnyH_take (i := 1) (v := ?_) rfl (by kernel_rfl) (by kernel_rfl) (by kernel_rfl) (fun _ _ _ h => h) (Or.inl ⟨by rfl, ?_⟩) hHeld ?_
            rotate_left
            · intro w' hSw; try dsimp only at hSw
              obtain ⟨s1, s2⟩ := hSw
              go_simp; try (with_reducible rfl)
            try simp only [Act.put, List.getElem_toArray, List.getElem_cons_succ, List.getElem_cons_zero, List.setIfInBounds_toArray, List.set_cons_zero, List.set_cons_succ]
            refine wpAnyH_take (i := 2) (v := ?_) rfl (by kernel_rfl) (by kernel_rfl) (by kernel_rfl) (fun _ _ _ h => h) (Or.inl ⟨by rfl, ?_⟩) hHeld ?_
            rotate_left
            · intro w' hSw; try dsimp only at hSw
              obtain ⟨s1, s2⟩ := hSw
              go_simp; try (with_reducible rfl)
            try simp only [Act.put, List.getElem_toArray, List.getElem_cons_succ, List.getElem_cons_zero, List.setIfInBounds_toArray, List.set_cons_zero, List.set_cons_succ]
            refine wpAnyH_take (i := 3) (v := ?_) rfl (by kernel_rfl) (by kernel_rfl) (by kernel_rfl) (fun _ _ _ h => h) (Or.inl ⟨by rfl, ?_⟩) hHeld ?_
            rotate_left
            · intro w' hSw; try dsimp only at hSw
              obtain ⟨s1, s2⟩ := hSw
              go_simp; try (with_reducible rfl)
            try simp only [Act.put, List.getElem_toArray, List.getElem_cons_succ, List.getElem_cons_zero, List.setIfInBounds_toArray, List.set_cons_zero, List.set_cons_succ]
            refine wpAnyH_take (i := 4) (v := ?_) rfl (by kernel_rfl) (by kernel_rfl) (by kernel_rfl) (fun _ _ _ h => h) (Or.inl ⟨by rfl, ?_⟩) hHeld ?_
            rotate_left
            · intro w' hSw; try dsimp only at hSw
              obtain ⟨s1, s2⟩ := hSw
              go_simp; try (with_reducible rfl)
            try simp only [Act.put, List.getElem_toArray, List.getElem_cons_succ, List.getElem_cons_zero, List.setIfInBounds_toArray, List.set_cons_zero, List.set_cons_succ]
            refine wpAnyH_take (i := 5) (v := ?_) rfl (by kernel_rfl) (by kernel_rfl) (by kernel_rfl) (fun _ _ _ h => h) (Or.inl ⟨by rfl, ?_⟩) hHeld ?_
            rotate_left
            · intro w' hSw; try dsimp only at hSw
              obtain ⟨s1, s2⟩ := hSw
              go_simp; try (with_reducible rfl)
            try simp only [Act.put, List.getElem_toArray, List.getElem_cons_succ, List.getElem_cons_zero, List.setIfInBounds_toArray, List.set_cons_zero, List.set_cons_succ]
            refine wpAnyH_take (i := 6) (v := ?_) rfl (by kernel_rfl) (by kernel_rfl) (by kernel_rfl) (fun _ _ _ h => h) (Or.inl ⟨by rfl, ?_⟩) hHeld ?_
            rotate_left
            · intro w' hSw; try dsimp only at hSw
              obtain ⟨s1, s2⟩ := hSw
              go_simp; try (with_reducible rfl)
            try simp only [Act.put, List.getElem_toArray, List.getElem_cons_succ, List.getElem_cons_zero, List.setIfInBounds_toArray, List.set_cons_zero, List.set_cons_succ]
            refine wpAnyH_take (i := 7) (v := ?_) rfl (by kernel_rfl) (by kernel_rfl) (by kernel_rfl) (fun _ _ _ h => h) (Or.inl ⟨by rfl, ?_⟩) hHeld ?_
            rotate_left
            · intro w' hSw; try dsimp only at hSw
              obtain ⟨s1, s2⟩ := hSw
              go_simp; try (with_reducible rfl)
            try simp only [Act.put, List.getElem_toArray, List.getElem_cons_succ, List.getElem_cons_zero, List.setIfInBounds_toArray, List.set_cons_zero, List.set_cons_succ]
            refine wpAnyH_take (i := 8) (v := ?_) rfl (by kernel_rfl) (by kernel_rfl) (by kernel_rfl) (fun _ _ _ h => h) (Or.inl ⟨by rfl, ?_⟩) hHeld ?_
            rotate_left
            · intro w' hSw; try dsimp only at hSw
              obtain ⟨s1, s2⟩ := hSw
              go_simp; try (with_reducible rfl)
            try simp only [Act.put, List.getElem_toArray, List.getElem_cons_succ, List.getElem_cons_zero, List.setIfInBounds_toArray, List.set_cons_zero, List.set_cons_succ]
            refine wpAnyH_ready (rs := [9]) (by kernel_rfl) (by simp) ?_
            refine AllReadyH.cons rfl (fun K hK => ?_) AllReadyH.nil
            go_simp
            refine (copied_any _ _ _ _ (ix.below ((Below.refl _ _).drew))).mono ?_
            rintro e w2 ⟨p2, c2, rfl, hin2, hb2', hu2⟩
            have hb2 : Below wr.heap.size wr w2 := bt ((Below.refl _ _).drew) hb2'
            try go_wp2_with fail
            refine hK.out _ _ ⟨(hR.below hb2).cell0' hsv, (hb2.cell (p := ⟨bi, oi + j, none⟩) hbl').trans ci⟩ (fun hHeld => ?_)
            clear hK K
            try simp only [Act.put, List.getElem_toArray, List.getElem_cons_succ, List.getElem_cons_zero, List.setIfInBounds_toArray, List.set_cons_zero, List.set_cons_succ]
            refine wpAnyH_take (i := 10) (v := ?_) rfl (by kernel_rfl) (by kernel_rfl) (by kernel_rfl) (fun _ _ _ h => h) (Or.inl ⟨by rfl, ?_⟩) hHeld ?_
            rotate_left
            · intro w' hSw; try dsimp only at hSw
              go_simp; try (with_reducible rfl)
            try simp only [Act.put, List.getElem_toArray, List.getElem_cons_succ, List.getElem_cons_zero, List.setIfInBounds_toArray, List.set_cons_zero, List.set_cons_succ]
            have A2 := hR.sector hb2 hin2 hu2 j (show V.sv.ownBlock = some g by rw [hsv]; rfl)
            have q2 := (hR.below hb2).srow
            rw [hsv, hvn] at q2
            have cg : w2.cell? ⟨g, j, none⟩ = some (srV (V.rs.getD j ⟨none, 0, 0⟩)) := by rw [q2.cellAt j (by omega)]; exact row_get' _ _ (by rw [hvn]; omega)
            have fg := q2.frozenAt j
            unfold srV at cg
            refine wpAnyH_ready (rs := [11]) (by kernel_rfl) (by simp) ?_
            refine AllReadyH.cons rfl (fun K hK => ?_) AllReadyH.nil
            go_simp
            refine hK.out _ _ ⟨A2.ref.cell0' hsv, (heap_cell_other _ _ _ _ (by exact hne)).trans ((hb2.cell (p := ⟨bi, oi + j, none⟩) hbl').trans ci)⟩ (fun hHeld => ?_)
            clear hK K
            try simp only [Act.put, List.getElem_toArray, List.getElem_cons_succ, List.getElem_cons_zero, List.setIfInBounds_toArray, List.set_cons_zero, List.set_cons_succ]
            refine wpAnyH_done (by kernel_rfl) ?_ _
            refine NoPanic.normal ?_
            have hB3 : Below w.heap.size w (w2.setCell ⟨g, j, none⟩ (.slice p2 256 c2)) := hB.trans (A2.keep.below hB.size hF)
            have R3 := A2.ref
            dsimp only at R3
            rw [HUR.out] at R3
            go_wp2_with fail
            go_roundw
            case rel => exact ⟨j + 1, _, by omega, by go_num, R3, fun m hm => (A2.fr m hm).elim (hF m) (fun e => Nat.le_trans hB.size e), hB3⟩
            case measure => simp [intOf]; omega
          · obtain rfl : j = k := by omega
            have hji : ¬ (j : Int) < (j : Int) := by omega
            have e : upR Ds j = Ds := by rw [upR, HL.out, Nat.sub_self, List.take_of_length_le (by rw [HL.out]; exact Nat.le_refl _)]; simp
            rw [e] at hR
            have hR' : RefIn wr r V (ofR Ds) := by rw [ofR, HL.out]; exact hR
            clear e hR
            go_wp2_with fail
            go_ret2
            exact ⟨hB, .inl ⟨HOF.out, r, rfl, V, hR'⟩⟩
end Go.Proofs.Ytbnnekpglnnneaa
