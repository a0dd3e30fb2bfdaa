/-
  What the reference's Set and Clear answer; the calls themselves.
-/
import Derived.Test.YthpbeppfiinooaaBmS
namespace Go.Proofs.Ythpbeppfiinooaa
open Go.RowKit
theorem xor_bitL2 {xs : List Nat} (h : ∀ x ∈ xs, x < 256) (i : Nat) : (vals xs).set (i / 8) (.int .u8 (bits .xor .u8 (el xs (i / 8)) (2 ^ (i % 8) % 256))) = vals (flipL xs i) := xor_bitL h i
theorem rturn_any (p : Option Addr) (l c : Nat) (xs : List Nat) (n a m : Int) (yes : Bool) (w : World) (hx : In w p l c xs) (ha : a ≤ 9223372036854775807) (hm : m ≤ 9223372036854775807) :
    Calls Try.prog 38 #[.slice p l c, .int .i64 n, .int .i64 a, .int .i64 m, .bool yes] w (RetB w (setE xs n a m (!yes)) (flF (bitL xs) a.toNat m.toNat)) := by
  have hc := rcheck_any p l c xs n w hx
  cases hb : chkB xs n with
  | false =>
    rw [setE_no a m _ hb]
    rw [chkE_no hb] at hc
    clear hb
    go_enter Try.func38, Try.ntmps38
    go_wp2_with (go_at_call 13; refine hc.mono ?_; rintro e w1 ⟨rfl, hw'⟩; have hw2 := hw'.symm; subst hw2; clear hw')
    go_ret2
    exact RetB.err _ (by decide) (Below.refl _ _)
  | true =>
    rw [chkE_ok hb] at hc
    have hn := (chkB_iff xs n).1 hb
    by_cases h2 : 0 ≤ a ∧ 0 ≤ m ∧ a + m ≤ n
    · obtain ⟨A, rfl⟩ : ∃ k : Nat, a = (k : Int) := ⟨a.toNat, by omega⟩
      obtain ⟨M, rfl⟩ : ∃ k : Nat, m = (k : Int) := ⟨m.toNat, by omega⟩
      obtain ⟨n1, n2, n3, -⟩ := hn
      have hl : l = 256 := by rw [← hx.len]; exact n3
      subst hl
      obtain ⟨i0, hi, hz0, hz1, hz2⟩ := info_parts info5
      obtain ⟨b, o, rfl, hbl, -⟩ := hx.at' (by decide)
      have HX : Hid (xs.length = 256) := n3
      have hw1 : IntKind.i64.wrap (n - (A : Int)) = n - (A : Int) := by rw [IntKind.wrap_i64]; omega
      have hg1 : ¬ (A : Int) > n := by omega
      have hg2 : ¬ (M : Int) > n - (A : Int) := by omega
      have HAM : Hid (A + M ≤ 2048) := by show _ ≤ _; omega
      obtain ⟨T, hT⟩ : ∃ T, T = A + M := ⟨_, rfl⟩
      have hw2 : IntKind.i64.wrap ((A : Int) + (M : Int)) = (T : Int) := by rw [IntKind.wrap_i64]; omega
      have HT : Hid (T = A + M) := hT
      have hT2 : (T : Int) ≤ 2048 := by omega
      have h0a : ¬ (A : Int) < 0 := by omega
      have h0m : ¬ (M : Int) < 0 := by omega
      have HB : Hid (chkB xs n = true) := hb
      have H2 : Hid (0 ≤ (A : Int) ∧ 0 ≤ (M : Int) ∧ (A : Int) + (M : Int) ≤ n) := h2
      obtain ⟨er, her⟩ : ∃ er, setE xs n (A : Int) (M : Int) (!yes) = er := ⟨_, rfl⟩
      rw [her]
      have HE : Hid (setE xs n (A : Int) (M : Int) (!yes) = er) := her
      rw [Int.toNat_natCast, Int.toNat_natCast]
      clear hb h2 n1 n2 n3 ha hm her hT
      go_enter Try.func38, Try.ntmps38
      go_wp2_with (first
        | (go_at_call 13; refine hc.mono ?_; rintro e w1 ⟨rfl, hw'⟩; have hw2 := hw'.symm; subst hw2; clear hw')
        | (at_builtin; refine wpList_append_own _ rfl (.const (.slice none 0 0)) (.tmp 36) 22 rfl w.heap.size 5 i0 (.int .u8 0) 1 1 Try.underlying22 hi hz0 hz1 hz2 rfl (by decide) (.slice none 0 0) 0 [] rfl (World.ownsRow_nil _ _ _ _) ⟨b, o, none⟩ 256 c (vals xs) rfl (by rw [vals_length, HX.out]) (hx.cells rfl) (vals_one xs) (by decide) (by decide) (Nat.le_refl _) ?_; intro v1 w2 ho2 hgrow2 _))
      rw [List.nil_append, Nat.zero_add] at ho2
      obtain ⟨g, cap, rfl⟩ : ∃ g cap, v1 = .slice (some ⟨g, 0, none⟩) 256 cap := by
        rcases ho2.2 with ⟨_, h0⟩ | ⟨g, cap, cur, rfl, _⟩
        · cases h0
        · exact ⟨g, cap, rfl⟩
      have hgb : w.heap.size ≤ g := by
        rcases ho2.2 with ⟨h0, _⟩ | ⟨g', cap', cur, h0, hg, _⟩
        · cases h0
        · cases h0; exact hg
      have hb0 : Below w.heap.size w w2 := (Below.refl _ _).grown hgrow2 (Nat.le_refl _) (fun k hk => by cases hk)
      clear hc hgrow2 h0a h0m hg1 hg2 hw1
      go_loopw [13] (fun i wr => ∃ k : Nat, k ≤ M ∧ i = .int .i64 ((A + k : Nat) : Int) ∧ (∃ ys, wr.ownsRow w.heap.size 5 1 (.slice (some ⟨g, 0, none⟩) 256 cap) 256 (vals ys) ∧ Bm ys (flF (bitL xs) A k)) ∧ Below w.heap.size w wr ∧ Hid (∀ j, j < k → (bitL xs (A + j) == !yes) = true)) (fun i _ => T - (intOf i).toNat)
      case atStart => exact ⟨0, Nat.zero_le _, rfl, ⟨_, ho2, (Bm.self HX.out hx.byte).of fun i _ => flF_zero _ _ _⟩, hb0, fun j hj => absurd hj (Nat.not_lt_zero _)⟩
      case round =>
        obtain ⟨k, hk, rfl, ⟨ys, ho, hm⟩, hb, HA⟩ := hrel
        clear ho2 hb0
        by_cases hlt : k < M
        · have hak : A + k < 2048 := by have := HAM.out; omega
          have hm2 := (hm.flip hak).of fun i _ => flF_next (bitL xs) A k i
          obtain ⟨q, hq⟩ : ∃ q, q = A + k := ⟨_, rfl⟩
          have hs := bit_any _ 256 c xs (A + k) wr (hx.below hb) (by omega)
          have hqT : (q : Int) < (T : Int) := by have := HT.out; omega
          rw [← hq] at hak hm2 hs ⊢
          have HQ : Hid (q = A + k) := hq
          have hl := hm.len
          have hc1 : wr.cell? ⟨g, q / 8, none⟩ = some (.int .u8 (el ys (q / 8))) := by
            rw [ho.cellAt _ (by omega), vals_get _ _ (by omega)]
          have hf1 : wr.frozen? ⟨g, q / 8, none⟩ = false := ho.frozenAt _
          have hst := ho.stored (q / 8) (.int .u8 (bits .xor .u8 (el ys (q / 8)) (2 ^ (q % 8) % 256)))
          rw [xor_bitL2 hm.byte q] at hst
          have HST : Hid (World.ownsRow _ w.heap.size 5 1 (.slice (some ⟨g, 0, none⟩) 256 cap) 256 (vals (flipL ys q))) := hst.1
          have hq8 : (q : Int) / 8 < 256 := by omega
          have HK0 : Hid (k < M ∧ q < T) := ⟨hlt, by omega⟩
          clear hst hl ho hm hq hlt hk hak
          by_cases he : bitL xs q = !yes
          · rw [he] at hs
            have HK : Hid (bitL xs q = !yes) := he
            have hd : ((!yes) == yes) = false := by cases yes <;> rfl
            clear he
            go_wp2_with (go_at_call 34; refine hs.mono ?_; rintro e w3 ⟨rfl, hw'⟩; have hw2 := hw'.symm; subst hw2; clear hw')
            go_roundw
            case rel =>
              refine ⟨k + 1, by have := HK0.out; omega, val_int (by have := HQ.out; omega), ⟨_, HST.out, hm2⟩, hb.setCell (p := ⟨g, q / 8, none⟩) hgb _, fun j hj => ?_⟩
              rcases Nat.lt_succ_iff_lt_or_eq.1 hj with h' | h'
              · exact HA.out j h'
              · rw [h', ← HQ.out, HK.out]; simp
            case measure => have := HK0.out; simp [intOf]; omega
          · have he' : bitL xs q = yes := by cases yes <;> simp_all
            rw [he'] at hs
            have HK : Hid (¬ bitL xs q = !yes) := he
            clear he he'
            go_wp2_with (go_at_call 34; refine hs.mono ?_; rintro e w3 ⟨rfl, hw'⟩; have hw2 := hw'.symm; subst hw2; clear hw')
            go_ret2
            have : er = 122 := by
              rw [← HE.out]
              refine setE_set HB.out H2.out fun h => HK.out ?_
              have := (allB_iff _ _ _).1 h k (by rw [Int.toNat_natCast]; exact HK0.out.1)
              rw [Int.toNat_natCast, ← HQ.out] at this
              simpa using this
            rw [this]
            exact RetB.err _ (by decide) hb
        · obtain rfl : k = M := by omega
          have hqT : ¬ ((A + k : Nat) : Int) < (T : Int) := by have := HT.out; omega
          generalize ((A + k : Nat) : Int) = q at *
          go_wp2
          go_ret2
          have : er = 0 := by
            rw [← HE.out]
            refine setE_ok HB.out H2.out ((allB_iff _ _ _).2 fun j hj => ?_)
            rw [Int.toNat_natCast] at hj ⊢
            exact HA.out j hj
          rw [this]
          exact RetB.ok ho hm hb
    · rw [setE_arg _ hb h2]
      obtain ⟨n1, n2, -, -⟩ := hn
      clear hb
      by_cases h0 : a < 0
      · go_enter Try.func38, Try.ntmps38
        go_wp2_with (go_at_call 13; refine hc.mono ?_; rintro e w1 ⟨rfl, hw'⟩; have hw2 := hw'.symm; subst hw2; clear hw')
        go_ret2
        exact RetB.err _ (by decide) (Below.refl _ _)
      · by_cases h1 : m < 0
        · go_enter Try.func38, Try.ntmps38
          go_wp2_with (go_at_call 13; refine hc.mono ?_; rintro e w1 ⟨rfl, hw'⟩; have hw2 := hw'.symm; subst hw2; clear hw')
          go_ret2
          exact RetB.err _ (by decide) (Below.refl _ _)
        · by_cases h3 : a > n
          · go_enter Try.func38, Try.ntmps38
            go_wp2_with (go_at_call 13; refine hc.mono ?_; rintro e w1 ⟨rfl, hw'⟩; have hw2 := hw'.symm; subst hw2; clear hw')
            go_ret2
            exact RetB.err _ (by decide) (Below.refl _ _)
          · have hw1 : IntKind.i64.wrap (n - a) = n - a := by rw [IntKind.wrap_i64]; omega
            have hg : m > n - a := by omega
            go_enter Try.func38, Try.ntmps38
            go_wp2_with (go_at_call 13; refine hc.mono ?_; rintro e w1 ⟨rfl, hw'⟩; have hw2 := hw'.symm; subst hw2; clear hw')
            go_ret2
            exact RetB.err _ (by decide) (Below.refl _ _)
theorem set_any (p : Option Addr) (l c : Nat) (xs : List Nat) (n a m : Int) (w : World) (hx : In w p l c xs) (ha : a ≤ 9223372036854775807) (hm : m ≤ 9223372036854775807) :
    Calls Try.prog 17 #[.slice p l c, .int .i64 n, .int .i64 a, .int .i64 m] w (RetB w (setE xs n a m false) (flF (bitL xs) a.toNat m.toNat)) := by
  have ht := turned_any p l c xs n a m false w hx ha hm
  generalize setE xs n a m false = er at *
  generalize flF (bitL xs) a.toNat m.toNat = f at *
  go_enter Try.func17, Try.ntmps17
  go_wp2_with (go_at_call 37; refine ht.mono ?_; rintro e w1 ⟨p1, n1, c1, ys, rfl, h1⟩)
  go_ret2
  exact ⟨p1, n1, c1, ys, rfl, h1⟩
theorem clear_any (p : Option Addr) (l c : Nat) (xs : List Nat) (n a m : Int) (w : World) (hx : In w p l c xs) (ha : a ≤ 9223372036854775807) (hm : m ≤ 9223372036854775807) :
    Calls Try.prog 19 #[.slice p l c, .int .i64 n, .int .i64 a, .int .i64 m] w (RetB w (setE xs n a m true) (flF (bitL xs) a.toNat m.toNat)) := by
  have ht := turned_any p l c xs n a m true w hx ha hm
  generalize setE xs n a m true = er at *
  generalize flF (bitL xs) a.toNat m.toNat = f at *
  go_enter Try.func19, Try.ntmps19
  go_wp2_with (go_at_call 37; refine ht.mono ?_; rintro e w1 ⟨p1, n1, c1, ys, rfl, h1⟩)
  go_ret2
  exact ⟨p1, n1, c1, ys, rfl, h1⟩
theorem rset_any (p : Option Addr) (l c : Nat) (xs : List Nat) (n a m : Int) (w : World) (hx : In w p l c xs) (ha : a ≤ 9223372036854775807) (hm : m ≤ 9223372036854775807) :
    Calls Try.prog 18 #[.slice p l c, .int .i64 n, .int .i64 a, .int .i64 m] w (RetB w (setE xs n a m false) (flF (bitL xs) a.toNat m.toNat)) := by
  have ht := rturn_any p l c xs n a m true w hx ha hm
  rw [show (!true) = false from rfl] at ht
  generalize setE xs n a m false = er at *
  generalize flF (bitL xs) a.toNat m.toNat = f at *
  go_enter Try.func18, Try.ntmps18
  go_wp2_with (go_at_call 38; refine ht.mono ?_; rintro e w1 ⟨p1, n1, c1, ys, rfl, h1⟩)
  go_ret2
  exact ⟨p1, n1, c1, ys, rfl, h1⟩
theorem rclear_any (p : Option Addr) (l c : Nat) (xs : List Nat) (n a m : Int) (w : World) (hx : In w p l c xs) (ha : a ≤ 9223372036854775807) (hm : m ≤ 9223372036854775807) :
    Calls Try.prog 20 #[.slice p l c, .int .i64 n, .int .i64 a, .int .i64 m] w (RetB w (setE xs n a m true) (flF (bitL xs) a.toNat m.toNat)) := by
  have ht := rturn_any p l c xs n a m false w hx ha hm
  rw [show (!false) = true from rfl] at ht
  generalize setE xs n a m true = er at *
  generalize flF (bitL xs) a.toNat m.toNat = f at *
  go_enter Try.func20, Try.ntmps20
  go_wp2_with (go_at_call 38; refine ht.mono ?_; rintro e w1 ⟨p1, n1, c1, ys, rfl, h1⟩)
  go_ret2
  exact ⟨p1, n1, c1, ys, rfl, h1⟩
end Go.Proofs.Ythpbeppfiinooaa
