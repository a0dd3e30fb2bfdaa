/-
  scan.Needed, whole.
-/
import Derived.Test.YtfgelncfmopibabSnSort
namespace Go.Proofs.Ytfgelncfmopibab
open Go.RowKit Go.Sort Go.Shelf
theorem infoI' : (Try.prog.info? 3).map (fun i => (i.zero, i.size, i.bytes)) = some (some (.int .i64 0), 1, 8) := by kernel_rfl
theorem values_call (a : Option Addr) (len cap : Nat) (w : World) :
    Calls Try.prog 64 #[.slice a len cap] w fun e w' => e = .returned (.func (.func 79) #[] #[.pointer (some ⟨w.heap.size, 0, none⟩)]) ∧ w' = w.alloc (.cells #[.slice a len cap] 29) := by
  go_enter Try.func64, Try.ntmps64
  go_wp2
  go_ret
  exact ⟨rfl, rfl⟩
set_option linter.unusedSimpArgs false in
set_option maxRecDepth 100000 in
set_option maxHeartbeats 8000000 in
theorem needed_any (p : Option Addr) (n c : Nat) (zs : List Pl) (w : World) (hz : InZ w p n c zs) (hn : n ≤ 1000000) :
    Calls Try.prog 49 #[.slice p n c] w fun e w' => ∃ Bs q cl cq, e = .returned (.func (.func 79) #[] #[.pointer (some ⟨Bs, 0, none⟩)]) ∧ w.heap.size ≤ Bs ∧ Blk w' Bs 29 [.slice q cl cq] ∧ HoldsI w.heap.size w' q cl cq (neededL zs) ∧ cl ≤ n ∧ (∀ a, q = some a → w.heap.size ≤ a.block ∧ a.block < w'.heap.size) ∧ Below w.heap.size w w' := by
  have HL : Hid (zs.length = n) := hz.len
  have hroom := hz.room
  obtain ⟨i0, hi, hz0, hz1, hz2⟩ := info_parts infoI'
  go_enter Try.func49, Try.ntmps49
  go_wp2
  go_loopw [3, 8] (fun bl i wr => ∃ (k j : Nat) (q : Option Addr) (cq : Nat), k ≤ n ∧ j ≤ k ∧ i = .int .i64 k ∧ bl = .slice q j cq ∧ wr.ownsRow w.heap.size 3 1 (.slice q j cq) j (valsI (physL (zs.take k))) ∧ Below w.heap.size w wr) (fun _ i _ => n - (intOf i).toNat)
  case atStart => exact ⟨0, 0, none, 0, Nat.zero_le _, Nat.le_refl _, rfl, rfl, ⟨rfl, .inl ⟨rfl, rfl⟩⟩, Below.refl _ _⟩
  case round =>
    obtain ⟨k, j, q, cq, hk, hjk, rfl, rfl, hown, hbk⟩ := hrel
    by_cases hlt : k < n
    · obtain ⟨b, o, rfl, hbl, hc⟩ := (hz.below hbk).at' (by omega)
      obtain ⟨e0, e1⟩ := hc k hlt
      have HU : Hid (physL (zs.take (k + 1)) = physL (zs.take k) ++ (if isPl (eZ zs k) then [(eZ zs k).ph] else [])) := by
        show _ = _
        rw [takeZ_succ zs k (by rw [HL.out]; exact hlt), physL_snoc]
      generalize eZ zs k = z at *
      obtain ⟨zh, zg⟩ := z
      dsimp only at e0 e1 HU
      clear hc
      have hki : (k : Int) < (n : Int) := by omega
      have HO : Hid (wr.ownsRow w.heap.size 3 1 (.slice q j cq) j (valsI (physL (zs.take k)))) := hown
      clear hown
      have ba := below_alloc wr (.cells #[.int .i64 zh, .int .i64 zg] 41)
      have bb := Blk.new' wr 41 #[.int .i64 zh, .int .i64 zg]
      have hsz := hbk.size
      cases hp : isPl ⟨zh, zg⟩ with
      | false =>
        rw [hp, if_neg (by simp), List.append_nil] at HU
        go_wp2_with (go_at_call 23; refine (isPlace_any _ _ _).mono ?_; rintro e w1 ⟨rfl, hb1⟩; have t1 := bt ba hb1)
        have ho1 := owns_below HO.out t1
        go_roundw
        case rel => exact ⟨k + 1, j, q, cq, by omega, by omega, by go_num, rfl, by rw [HU.out]; exact ho1, bt hbk t1⟩
        case measure => simp [intOf]; omega
      | true =>
        rw [hp, if_pos rfl] at HU
        go_wp2_with (first
          | (go_at_call 23; refine (isPlace_any _ _ _).mono ?_; rintro e w1 ⟨rfl, hb1⟩; have t1 := bt ba hb1; have q1 := bb.kept hb1; have z0 := q1.cell' (i := 0) rfl; have z1 := q1.cell' (i := 1) rfl; have ho1 : Hid (w1.ownsRow w.heap.size 3 1 (.slice q j cq) j (valsI (physL (zs.take k)))) := owns_below HO.out t1; have bl := Blk.new' w1 3 #[.int .i64 zh]; have ho2 : Hid ((w1.alloc (.cells #[.int .i64 zh] 3)).ownsRow w.heap.size 3 1 (.slice q j cq) j (valsI (physL (zs.take k)))) := owns_below ho1.out (below_alloc _ _); have hs2 := t1.size)
          | (at_builtin; refine wpList_append_own _ rfl (.tmp 14) (.tmp 17) 29 rfl w.heap.size 3 i0 (.int .i64 0) 1 8 Try.underlying29 hi hz0 hz1 hz2 rfl (by decide) (.slice q j cq) j (valsI (physL (zs.take k))) rfl ho2.out ⟨w1.heap.size, 0, none⟩ 1 1 [.int .i64 zh] rfl rfl (fun i u hu => by rw [addr_add, Nat.zero_add]; exact bl.cell' hu) (by simp [Value.oneCell']) (by unfold maxLen; omega) (by omega) (by rw [World.size_alloc]; omega) ?_; intro v1 w5 hown5 hgrow5 _; obtain ⟨q', cq', hv⟩ := owns_slice hown5; subst hv))
        have hb5 : Below w.heap.size w w5 := (bt (bt hbk t1) (below_alloc _ _)).grown hgrow5 (by rw [World.size_alloc]; omega) (fun k' hk' => (ho2.out.lt k' hk').1)
        have e5 : valsI (physL (zs.take k)) ++ [.int .i64 zh] = valsI (physL (zs.take (k + 1))) := by rw [HU.out, valsI_append]; rfl
        rw [e5] at hown5
        go_roundw
        case rel => exact ⟨k + 1, j + 1, q', cq', by omega, by omega, by go_num, rfl, hown5, hb5⟩
        case measure => simp [intOf]; omega
    · obtain rfl : k = n := by omega
      rw [List.take_of_length_le (by rw [HL.out]; exact Nat.le_refl _)] at hown
      have hlow : ∀ a, q = some a → w.heap.size ≤ a.block ∧ a.block < wr.heap.size := fun a e => by subst e; exact hown.lt a.block rfl
      have hS := sort_own (holds_of_owns hown) (by omega) hbk.size
      have hsz := hbk.size
      have HN : Hid (Lib.compact (sortL (physL zs)) = neededL zs) := rfl
      go_wp2_with (first
        | (go_at_call 63; refine hS.mono ?_; rintro e w1 ⟨rfl, h1, hb1⟩; have hB1 : Below w.heap.size w w1 := hbk.trans hb1; have hC := compact_own h1 (by omega) hB1.size)
        | (go_at_call 65; refine hC.mono ?_; rintro e w2 ⟨rfl, h2, hle, hb2⟩; have hB2 : Below w.heap.size w w2 := hB1.trans hb2)
        | (go_at_call 64; refine (values_call _ _ _ _).mono ?_; rintro e w3 ⟨rfl, hw3⟩))
      go_ret
      subst hw3
      refine ⟨_, _, _, _, rfl, hB2.size, Blk.new' _ _ _, ?_, by omega, fun a e => ⟨(hlow a e).1, by have h1 := (hlow a e).2; have h2 := hb1.size; have h3 := hb2.size; rw [World.size_alloc]; omega⟩, bt hB2 (below_alloc _ _)⟩
      have hb3 := below_alloc w2 (.cells #[.slice q (Lib.compact (sortL (physL zs))).length cq] 29)
      rw [← HN.out]
      refine ⟨h2.len, h2.cap, h2.max, h2.nil, fun h0 => ?_⟩
      obtain ⟨g, e, h3, h4, h5⟩ := h2.at' h0
      refine ⟨g, e, h3, Nat.lt_of_lt_of_le h4 hb3.size, fun i hi => ?_⟩
      obtain ⟨h6, h7⟩ := h5 i hi
      exact ⟨(hb3.cell (p := ⟨g, 0 + i, none⟩) h4).trans h6, (hb3.frozen (p := ⟨g, 0 + i, none⟩) h4).trans h7⟩
end Go.Proofs.Ytfgelncfmopibab
