/-
  scan.home: the block in which all that has a place stands, each page at its number.
-/
import Derived.Test.YtfgelncfmopibabSnColl
namespace Go.Proofs.Ytfgelncfmopibab
open Go.RowKit Go.Shelf
/-- Whether of the first k places each one that is one is at its number of block x. -/
def homeTo (x : Int) (zs : List Pl) : Nat → Bool
  | 0 => true
  | k + 1 => homeTo x zs k && (!isPl (eZ zs k) || ((eZ zs k).ph == x && (eZ zs k).pg == (k : Int)))
def homeP (zs : List Pl) : Int := match neededL zs with
  | [x] => if homeTo x zs zs.length then x else -1
  | _ => -1
theorem homeTo_false {x : Int} {zs : List Pl} {k : Nat} (h : homeTo x zs k = false) {m : Nat} (hm : k ≤ m) : homeTo x zs m = false := by
  induction m with
  | zero => obtain rfl : k = 0 := by omega
            exact h
  | succ m ih =>
    by_cases e : k = m + 1
    · subst e; exact h
    · unfold homeTo; rw [ih (by omega)]; rfl
set_option linter.unusedSimpArgs false in
set_option maxRecDepth 100000 in
set_option maxHeartbeats 8000000 in
theorem home_any (p : Option Addr) (n c : Nat) (zs : List Pl) (w : World) (hz : InZ w p n c zs) (hn : n ≤ 1000000) :
    Calls Try.prog 50 #[.slice p n c] w fun e w' => e = .returned (.int .i64 (homeP zs)) ∧ Below w.heap.size w w' := by
  have HL : Hid (zs.length = n) := hz.len
  have hroom := hz.room
  obtain ⟨ks, hks⟩ := idx_of (N := 256) (neededL zs) (fun x hx => needed_range hx)
  have hND := needed_any p n c zs w hz hn
  rw [← hks] at hND
  have HKS : Hid (valsK ks = neededL zs) := hks
  clear hks
  by_cases hone : ks.length = 1
  · obtain ⟨x, rfl⟩ : ∃ x, ks = [x] := by
      match ks, hone with
      | [x], _ => exact ⟨x, rfl⟩
    have HH : Hid (homeP zs = if homeTo (x.1 : Int) zs zs.length then (x.1 : Int) else -1) := by
      show _ = _
      unfold homeP
      rw [← HKS.out]
      rfl
    go_enter Try.func50, Try.ntmps50
    go_wp2_with (first
      | (go_at_call 49; refine hND.mono ?_; rintro e w1 ⟨Bs, q, cl, cq, rfl, hBs, hbx, hH, hcl, hlow, hb1⟩; have hlen := hH.len; rw [valsK_length] at hlen; subst hlen; have hI1 := hH.inI (by omega))
      | (go_at_call 66; refine (collect_any Bs cq q [x] _ hbx hI1 (fun a e => (hlow a e).2) (by simp)).mono ?_; rintro e w2 ⟨p2, c2, rfl, hown2, hb2⟩; have hB2 := bt hb1 hb2; obtain ⟨g2, rfl⟩ : ∃ g, p2 = some ⟨g, 0, none⟩ := by
          rcases hown2.2 with ⟨_, h'⟩ | ⟨g, cap, cur, hv, _⟩
          · cases h'
          · injection hv with e1 _ _; exact ⟨g, e1⟩
         ))
    have hcell2 : ∀ (W : World), Below w2.heap.size w2 W → W.cell? ⟨g2, 0, none⟩ = some (.int .i64 (x.1 : Int)) := fun W h => (owns_below hown2 h).cellAt 0 (by simp)
    obtain ⟨xv, hxv⟩ : ∃ xv : Int, xv = (x.1 : Int) := ⟨_, rfl⟩
    rw [← hxv] at hcell2 HH
    clear hND hH hI1 hbx hlow hown2 HKS hxv hb1 hb2 hBs hcl
    go_loopw [14] (fun i wr => ∃ k : Nat, k ≤ n ∧ i = .int .i64 k ∧ homeTo xv zs k = true ∧ Below w2.heap.size w2 wr) (fun i _ => n - (intOf i).toNat)
    case atStart => exact ⟨0, Nat.zero_le _, rfl, rfl, Below.refl _ _⟩
    case round =>
      obtain ⟨k, hk, rfl, hto, hbk⟩ := hrel
      have hBk := hB2.trans (hbk.mono hB2.size)
      by_cases hlt : k < n
      · obtain ⟨b, o, rfl, hbl, hc⟩ := (hz.below hBk).at' (by omega)
        obtain ⟨e0, e1⟩ := hc k hlt
        have HU : Hid (homeTo xv zs (k + 1) = (homeTo xv zs k && (!isPl (eZ zs k) || ((eZ zs k).ph == xv && (eZ zs k).pg == (k : Int))))) := rfl
        rw [hto, Bool.true_and] at HU
        have hki : (k : Int) < (n : Int) := by omega
        generalize eZ zs k = z at *
        obtain ⟨zh, zg⟩ := z
        dsimp only at e0 e1 HU
        clear hc hto
        have ba := below_alloc wr (.cells #[.int .i64 zh, .int .i64 zg] 41)
        have bb := Blk.new' wr 41 #[.int .i64 zh, .int .i64 zg]
        cases hp : isPl ⟨zh, zg⟩ with
        | false =>
          have HU' : Hid (homeTo xv zs (k + 1) = true) := by show _ = _; rw [HU.out, hp]; rfl
          clear HU
          go_upto_region 7 with (fail)
          refine wp_region_noPanic ?_
          refine wp_region_held_drew (S := fun X => Blk X wr.heap.size 41 [.int .i64 zh, .int .i64 zg] ∧ X.cell? ⟨g2, 0, none⟩ = some (.int .i64 xv) ∧ Below w2.heap.size w2 X) (by kernel_rfl) ⟨bb.drew, hcell2 _ ((hbk.trans (ba.mono hbk.size)).drew), (hbk.trans (ba.mono hbk.size)).drew⟩ (fun hHeld => ?_)
          refine wpAnyH_take (i := 0) (v := ?_) rfl (by kernel_rfl) (by kernel_rfl) (by kernel_rfl) (fun _ _ _ h => h) (Or.inl ⟨by rfl, ?_⟩) hHeld ?_
          rotate_left
          · intro w' hSw; try dsimp only at hSw
            obtain ⟨b1, b2, _⟩ := hSw
            have z0 := b1.cell' (i := 0) rfl
            have z1 := b1.cell' (i := 1) rfl
            go_simp; try (with_reducible rfl)
          try simp only [Act.put, List.getElem_toArray, List.getElem_cons_succ, List.getElem_cons_zero, List.setIfInBounds_toArray, List.set_cons_zero, List.set_cons_succ]
          refine wpAnyH_ready (rs := [1]) (by kernel_rfl) (by simp) ?_
          refine AllReadyH.cons rfl (fun K hK => ?_) AllReadyH.nil
          go_simp
          refine (isPlace_any _ _ _).mono ?_
          rintro e W5 ⟨rfl, hb5⟩
          try go_wp2_with fail
          refine hK.out _ _ ⟨hHeld.1.kept hb5, hcell2 _ (hHeld.2.2.trans (hb5.mono hHeld.2.2.size)), hHeld.2.2.trans (hb5.mono hHeld.2.2.size)⟩ (fun hHeld => ?_)
          clear hK K
          try simp only [Act.put, List.getElem_toArray, List.getElem_cons_succ, List.getElem_cons_zero, List.setIfInBounds_toArray, List.set_cons_zero, List.set_cons_succ]
          refine wpAnyH_take (i := 2) (v := ?_) rfl (by kernel_rfl) (by kernel_rfl) (by kernel_rfl) (fun _ _ _ h => h) (Or.inl ⟨by rfl, ?_⟩) hHeld ?_
          rotate_left
          · intro w' hSw; try dsimp only at hSw
            go_simp; try (with_reducible rfl)
          try simp only [Act.put, List.getElem_toArray, List.getElem_cons_succ, List.getElem_cons_zero, List.setIfInBounds_toArray, List.set_cons_zero, List.set_cons_succ]
          refine wpAnyH_take (i := 3) (v := undef) rfl (by kernel_rfl) (by kernel_rfl) (by kernel_rfl) (fun _ _ _ h => h) (Or.inr ⟨by rfl, rfl⟩) hHeld ?_
          try simp only [Act.put, List.getElem_toArray, List.getElem_cons_succ, List.getElem_cons_zero, List.setIfInBounds_toArray, List.set_cons_zero, List.set_cons_succ]
          refine wpAnyH_take (i := 4) (v := undef) rfl (by kernel_rfl) (by kernel_rfl) (by kernel_rfl) (fun _ _ _ h => h) (Or.inr ⟨by rfl, rfl⟩) hHeld ?_
          try simp only [Act.put, List.getElem_toArray, List.getElem_cons_succ, List.getElem_cons_zero, List.setIfInBounds_toArray, List.set_cons_zero, List.set_cons_succ]
          refine wpAnyH_take (i := 5) (v := undef) rfl (by kernel_rfl) (by kernel_rfl) (by kernel_rfl) (fun _ _ _ h => h) (Or.inr ⟨by rfl, rfl⟩) hHeld ?_
          try simp only [Act.put, List.getElem_toArray, List.getElem_cons_succ, List.getElem_cons_zero, List.setIfInBounds_toArray, List.set_cons_zero, List.set_cons_succ]
          refine wpAnyH_take (i := 6) (v := undef) rfl (by kernel_rfl) (by kernel_rfl) (by kernel_rfl) (fun _ _ _ h => h) (Or.inr ⟨by rfl, rfl⟩) hHeld ?_
          try simp only [Act.put, List.getElem_toArray, List.getElem_cons_succ, List.getElem_cons_zero, List.setIfInBounds_toArray, List.set_cons_zero, List.set_cons_succ]
          refine wpAnyH_take (i := 7) (v := undef) rfl (by kernel_rfl) (by kernel_rfl) (by kernel_rfl) (fun _ _ _ h => h) (Or.inr ⟨by rfl, rfl⟩) hHeld ?_
          try simp only [Act.put, List.getElem_toArray, List.getElem_cons_succ, List.getElem_cons_zero, List.setIfInBounds_toArray, List.set_cons_zero, List.set_cons_succ]
          refine wpAnyH_take (i := 8) (v := undef) rfl (by kernel_rfl) (by kernel_rfl) (by kernel_rfl) (fun _ _ _ h => h) (Or.inr ⟨by rfl, rfl⟩) hHeld ?_
          try simp only [Act.put, List.getElem_toArray, List.getElem_cons_succ, List.getElem_cons_zero, List.setIfInBounds_toArray, List.set_cons_zero, List.set_cons_succ]
          refine wpAnyH_take (i := 9) (v := undef) rfl (by kernel_rfl) (by kernel_rfl) (by kernel_rfl) (fun _ _ _ h => h) (Or.inr ⟨by rfl, rfl⟩) hHeld ?_
          try simp only [Act.put, List.getElem_toArray, List.getElem_cons_succ, List.getElem_cons_zero, List.setIfInBounds_toArray, List.set_cons_zero, List.set_cons_succ]
          refine wpAnyH_take (i := 10) (v := ?_) rfl (by kernel_rfl) (by kernel_rfl) (by kernel_rfl) (fun _ _ _ h => h) (Or.inl ⟨by rfl, ?_⟩) hHeld ?_
          rotate_left
          · intro w' hSw; try dsimp only at hSw
            go_simp; try (with_reducible rfl)
          try simp only [Act.put, List.getElem_toArray, List.getElem_cons_succ, List.getElem_cons_zero, List.setIfInBounds_toArray, List.set_cons_zero, List.set_cons_succ]
          refine wpAnyH_done (by kernel_rfl) ?_ _
          refine NoPanic.normal ?_
          obtain ⟨-, -, hb6⟩ := hHeld
          go_wp2_with fail
          go_roundw
          case rel => exact ⟨k + 1, by omega, by go_num, HU'.out, hb6⟩
          case measure => simp [intOf]; omega
        | true =>
          rw [hp, Bool.not_true, Bool.false_or] at HU
          by_cases hq : zh = xv ∧ zg = (k : Int)
          · obtain ⟨rfl, rfl⟩ := hq
            have HU' : Hid (homeTo zh zs (k + 1) = true) := by show _ = _; rw [HU.out]; simp
            clear HU
            go_upto_region 7 with (fail)
            refine wp_region_noPanic ?_
            refine wp_region_held_drew (S := fun X => Blk X wr.heap.size 41 [.int .i64 zh, .int .i64 (k : Int)] ∧ X.cell? ⟨g2, 0, none⟩ = some (.int .i64 zh) ∧ Below w2.heap.size w2 X) (by kernel_rfl) ⟨bb.drew, hcell2 _ ((hbk.trans (ba.mono hbk.size)).drew), (hbk.trans (ba.mono hbk.size)).drew⟩ (fun hHeld => ?_)
            refine wpAnyH_take (i := 0) (v := ?_) rfl (by kernel_rfl) (by kernel_rfl) (by kernel_rfl) (fun _ _ _ h => h) (Or.inl ⟨by rfl, ?_⟩) hHeld ?_
            rotate_left
            · intro w' hSw; try dsimp only at hSw
              obtain ⟨b1, b2, _⟩ := hSw
              have z0 := b1.cell' (i := 0) rfl
              have z1 := b1.cell' (i := 1) rfl
              go_simp; try (with_reducible rfl)
            try simp only [Act.put, List.getElem_toArray, List.getElem_cons_succ, List.getElem_cons_zero, List.setIfInBounds_toArray, List.set_cons_zero, List.set_cons_succ]
            refine wpAnyH_ready (rs := [1]) (by kernel_rfl) (by simp) ?_
            refine AllReadyH.cons rfl (fun K hK => ?_) AllReadyH.nil
            go_simp
            refine (isPlace_any _ _ _).mono ?_
            rintro e W5 ⟨rfl, hb5⟩
            try go_wp2_with fail
            refine hK.out _ _ ⟨hHeld.1.kept hb5, hcell2 _ (hHeld.2.2.trans (hb5.mono hHeld.2.2.size)), hHeld.2.2.trans (hb5.mono hHeld.2.2.size)⟩ (fun hHeld => ?_)
            clear hK K
            try simp only [Act.put, List.getElem_toArray, List.getElem_cons_succ, List.getElem_cons_zero, List.setIfInBounds_toArray, List.set_cons_zero, List.set_cons_succ]
            refine wpAnyH_take (i := 2) (v := ?_) rfl (by kernel_rfl) (by kernel_rfl) (by kernel_rfl) (fun _ _ _ h => h) (Or.inl ⟨by rfl, ?_⟩) hHeld ?_
            rotate_left
            · intro w' hSw; try dsimp only at hSw
              go_simp; try (with_reducible rfl)
            try simp only [Act.put, List.getElem_toArray, List.getElem_cons_succ, List.getElem_cons_zero, List.setIfInBounds_toArray, List.set_cons_zero, List.set_cons_succ]
            refine wpAnyH_take (i := 3) (v := ?_) rfl (by kernel_rfl) (by kernel_rfl) (by kernel_rfl) (fun _ _ _ h => h) (Or.inl ⟨by rfl, ?_⟩) hHeld ?_
            rotate_left
            · intro w' hSw; try dsimp only at hSw
              obtain ⟨b1, b2, _⟩ := hSw
              have z0 := b1.cell' (i := 0) rfl
              have z1 := b1.cell' (i := 1) rfl
              go_simp; try (with_reducible rfl)
            try simp only [Act.put, List.getElem_toArray, List.getElem_cons_succ, List.getElem_cons_zero, List.setIfInBounds_toArray, List.set_cons_zero, List.set_cons_succ]
            refine wpAnyH_take (i := 4) (v := ?_) rfl (by kernel_rfl) (by kernel_rfl) (by kernel_rfl) (fun _ _ _ h => h) (Or.inl ⟨by rfl, ?_⟩) hHeld ?_
            rotate_left
            · intro w' hSw; try dsimp only at hSw
              obtain ⟨b1, b2, _⟩ := hSw
              have z0 := b1.cell' (i := 0) rfl
              have z1 := b1.cell' (i := 1) rfl
              go_simp; try (with_reducible rfl)
            try simp only [Act.put, List.getElem_toArray, List.getElem_cons_succ, List.getElem_cons_zero, List.setIfInBounds_toArray, List.set_cons_zero, List.set_cons_succ]
            refine wpAnyH_take (i := 5) (v := ?_) rfl (by kernel_rfl) (by kernel_rfl) (by kernel_rfl) (fun _ _ _ h => h) (Or.inl ⟨by rfl, ?_⟩) hHeld ?_
            rotate_left
            · intro w' hSw; try dsimp only at hSw
              obtain ⟨b1, b2, _⟩ := hSw
              have z0 := b1.cell' (i := 0) rfl
              have z1 := b1.cell' (i := 1) rfl
              go_simp; try (with_reducible rfl)
            try simp only [Act.put, List.getElem_toArray, List.getElem_cons_succ, List.getElem_cons_zero, List.setIfInBounds_toArray, List.set_cons_zero, List.set_cons_succ]
            refine wpAnyH_take (i := 6) (v := ?_) rfl (by kernel_rfl) (by kernel_rfl) (by kernel_rfl) (fun _ _ _ h => h) (Or.inl ⟨by rfl, ?_⟩) hHeld ?_
            rotate_left
            · intro w' hSw; try dsimp only at hSw
              obtain ⟨b1, b2, _⟩ := hSw
              have z0 := b1.cell' (i := 0) rfl
              have z1 := b1.cell' (i := 1) rfl
              go_simp; try (with_reducible rfl)
            try simp only [Act.put, List.getElem_toArray, List.getElem_cons_succ, List.getElem_cons_zero, List.setIfInBounds_toArray, List.set_cons_zero, List.set_cons_succ]
            refine wpAnyH_take (i := 7) (v := ?_) rfl (by kernel_rfl) (by kernel_rfl) (by kernel_rfl) (fun _ _ _ h => h) (Or.inl ⟨by rfl, ?_⟩) hHeld ?_
            rotate_left
            · intro w' hSw; try dsimp only at hSw
              obtain ⟨b1, b2, _⟩ := hSw
              have z0 := b1.cell' (i := 0) rfl
              have z1 := b1.cell' (i := 1) rfl
              go_simp; try (with_reducible rfl)
            try simp only [Act.put, List.getElem_toArray, List.getElem_cons_succ, List.getElem_cons_zero, List.setIfInBounds_toArray, List.set_cons_zero, List.set_cons_succ]
            refine wpAnyH_take (i := 8) (v := ?_) rfl (by kernel_rfl) (by kernel_rfl) (by kernel_rfl) (fun _ _ _ h => h) (Or.inl ⟨by rfl, ?_⟩) hHeld ?_
            rotate_left
            · intro w' hSw; try dsimp only at hSw
              obtain ⟨b1, b2, _⟩ := hSw
              have z0 := b1.cell' (i := 0) rfl
              have z1 := b1.cell' (i := 1) rfl
              go_simp; try (with_reducible rfl)
            try simp only [Act.put, List.getElem_toArray, List.getElem_cons_succ, List.getElem_cons_zero, List.setIfInBounds_toArray, List.set_cons_zero, List.set_cons_succ]
            refine wpAnyH_take (i := 9) (v := ?_) rfl (by kernel_rfl) (by kernel_rfl) (by kernel_rfl) (fun _ _ _ h => h) (Or.inl ⟨by rfl, ?_⟩) hHeld ?_
            rotate_left
            · intro w' hSw; try dsimp only at hSw
              obtain ⟨b1, b2, _⟩ := hSw
              have z0 := b1.cell' (i := 0) rfl
              have z1 := b1.cell' (i := 1) rfl
              go_simp; try (with_reducible rfl)
            try simp only [Act.put, List.getElem_toArray, List.getElem_cons_succ, List.getElem_cons_zero, List.setIfInBounds_toArray, List.set_cons_zero, List.set_cons_succ]
            refine wpAnyH_take (i := 10) (v := ?_) rfl (by kernel_rfl) (by kernel_rfl) (by kernel_rfl) (fun _ _ _ h => h) (Or.inl ⟨by rfl, ?_⟩) hHeld ?_
            rotate_left
            · intro w' hSw; try dsimp only at hSw
              go_simp; try (with_reducible rfl)
            try simp only [Act.put, List.getElem_toArray, List.getElem_cons_succ, List.getElem_cons_zero, List.setIfInBounds_toArray, List.set_cons_zero, List.set_cons_succ]
            refine wpAnyH_done (by kernel_rfl) ?_ _
            refine NoPanic.normal ?_
            obtain ⟨-, -, hb6⟩ := hHeld
            go_wp2_with fail
            go_roundw
            case rel => exact ⟨k + 1, by omega, by go_num, HU'.out, hb6⟩
            case measure => simp [intOf]; omega
          · have hne : (zh == xv && zg == (k : Int)) = false := by
              cases h1 : (zh == xv && zg == (k : Int)) with
              | false => rfl
              | true => simp at h1; exact absurd h1 hq
            have HU' : Hid (homeTo xv zs zs.length = false) := homeTo_false (HU.out.trans hne) (by rw [HL.out]; exact hlt)
            clear HU
            have HR : Hid (homeP zs = -1) := by show _ = _; rw [HH.out, HU'.out]; rfl
            clear hne
            by_cases hzx : zh = xv
            · subst hzx
              have hzk : ¬ zg = (k : Int) := fun e => hq ⟨rfl, e⟩
              clear hq
              go_upto_region 7 with (fail)
              refine wp_region_noPanic ?_
              refine wp_region_held_drew (S := fun X => Blk X wr.heap.size 41 [.int .i64 zh, .int .i64 zg] ∧ X.cell? ⟨g2, 0, none⟩ = some (.int .i64 zh) ∧ Below w2.heap.size w2 X) (by kernel_rfl) ⟨bb.drew, hcell2 _ ((hbk.trans (ba.mono hbk.size)).drew), (hbk.trans (ba.mono hbk.size)).drew⟩ (fun hHeld => ?_)
              refine wpAnyH_take (i := 0) (v := ?_) rfl (by kernel_rfl) (by kernel_rfl) (by kernel_rfl) (fun _ _ _ h => h) (Or.inl ⟨by rfl, ?_⟩) hHeld ?_
              rotate_left
              · intro w' hSw; try dsimp only at hSw
                obtain ⟨b1, b2, _⟩ := hSw
                have z0 := b1.cell' (i := 0) rfl
                have z1 := b1.cell' (i := 1) rfl
                go_simp; try (with_reducible rfl)
              try simp only [Act.put, List.getElem_toArray, List.getElem_cons_succ, List.getElem_cons_zero, List.setIfInBounds_toArray, List.set_cons_zero, List.set_cons_succ]
              refine wpAnyH_ready (rs := [1]) (by kernel_rfl) (by simp) ?_
              refine AllReadyH.cons rfl (fun K hK => ?_) AllReadyH.nil
              go_simp
              refine (isPlace_any _ _ _).mono ?_
              rintro e W5 ⟨rfl, hb5⟩
              try go_wp2_with fail
              refine hK.out _ _ ⟨hHeld.1.kept hb5, hcell2 _ (hHeld.2.2.trans (hb5.mono hHeld.2.2.size)), hHeld.2.2.trans (hb5.mono hHeld.2.2.size)⟩ (fun hHeld => ?_)
              clear hK K
              try simp only [Act.put, List.getElem_toArray, List.getElem_cons_succ, List.getElem_cons_zero, List.setIfInBounds_toArray, List.set_cons_zero, List.set_cons_succ]
              refine wpAnyH_take (i := 2) (v := ?_) rfl (by kernel_rfl) (by kernel_rfl) (by kernel_rfl) (fun _ _ _ h => h) (Or.inl ⟨by rfl, ?_⟩) hHeld ?_
              rotate_left
              · intro w' hSw; try dsimp only at hSw
                go_simp; try (with_reducible rfl)
              try simp only [Act.put, List.getElem_toArray, List.getElem_cons_succ, List.getElem_cons_zero, List.setIfInBounds_toArray, List.set_cons_zero, List.set_cons_succ]
              refine wpAnyH_take (i := 3) (v := ?_) rfl (by kernel_rfl) (by kernel_rfl) (by kernel_rfl) (fun _ _ _ h => h) (Or.inl ⟨by rfl, ?_⟩) hHeld ?_
              rotate_left
              · intro w' hSw; try dsimp only at hSw
                obtain ⟨b1, b2, _⟩ := hSw
                have z0 := b1.cell' (i := 0) rfl
                have z1 := b1.cell' (i := 1) rfl
                go_simp; try (with_reducible rfl)
              try simp only [Act.put, List.getElem_toArray, List.getElem_cons_succ, List.getElem_cons_zero, List.setIfInBounds_toArray, List.set_cons_zero, List.set_cons_succ]
              refine wpAnyH_take (i := 4) (v := ?_) rfl (by kernel_rfl) (by kernel_rfl) (by kernel_rfl) (fun _ _ _ h => h) (Or.inl ⟨by rfl, ?_⟩) hHeld ?_
              rotate_left
              · intro w' hSw; try dsimp only at hSw
                obtain ⟨b1, b2, _⟩ := hSw
                have z0 := b1.cell' (i := 0) rfl
                have z1 := b1.cell' (i := 1) rfl
                go_simp; try (with_reducible rfl)
              try simp only [Act.put, List.getElem_toArray, List.getElem_cons_succ, List.getElem_cons_zero, List.setIfInBounds_toArray, List.set_cons_zero, List.set_cons_succ]
              refine wpAnyH_take (i := 5) (v := ?_) rfl (by kernel_rfl) (by kernel_rfl) (by kernel_rfl) (fun _ _ _ h => h) (Or.inl ⟨by rfl, ?_⟩) hHeld ?_
              rotate_left
              · intro w' hSw; try dsimp only at hSw
                obtain ⟨b1, b2, _⟩ := hSw
                have z0 := b1.cell' (i := 0) rfl
                have z1 := b1.cell' (i := 1) rfl
                go_simp; try (with_reducible rfl)
              try simp only [Act.put, List.getElem_toArray, List.getElem_cons_succ, List.getElem_cons_zero, List.setIfInBounds_toArray, List.set_cons_zero, List.set_cons_succ]
              refine wpAnyH_take (i := 6) (v := ?_) rfl (by kernel_rfl) (by kernel_rfl) (by kernel_rfl) (fun _ _ _ h => h) (Or.inl ⟨by rfl, ?_⟩) hHeld ?_
              rotate_left
              · intro w' hSw; try dsimp only at hSw
                obtain ⟨b1, b2, _⟩ := hSw
                have z0 := b1.cell' (i := 0) rfl
                have z1 := b1.cell' (i := 1) rfl
                go_simp; try (with_reducible rfl)
              try simp only [Act.put, List.getElem_toArray, List.getElem_cons_succ, List.getElem_cons_zero, List.setIfInBounds_toArray, List.set_cons_zero, List.set_cons_succ]
              refine wpAnyH_take (i := 7) (v := ?_) rfl (by kernel_rfl) (by kernel_rfl) (by kernel_rfl) (fun _ _ _ h => h) (Or.inl ⟨by rfl, ?_⟩) hHeld ?_
              rotate_left
              · intro w' hSw; try dsimp only at hSw
                obtain ⟨b1, b2, _⟩ := hSw
                have z0 := b1.cell' (i := 0) rfl
                have z1 := b1.cell' (i := 1) rfl
                go_simp; try (with_reducible rfl)
              try simp only [Act.put, List.getElem_toArray, List.getElem_cons_succ, List.getElem_cons_zero, List.setIfInBounds_toArray, List.set_cons_zero, List.set_cons_succ]
              refine wpAnyH_take (i := 8) (v := ?_) rfl (by kernel_rfl) (by kernel_rfl) (by kernel_rfl) (fun _ _ _ h => h) (Or.inl ⟨by rfl, ?_⟩) hHeld ?_
              rotate_left
              · intro w' hSw; try dsimp only at hSw
                obtain ⟨b1, b2, _⟩ := hSw
                have z0 := b1.cell' (i := 0) rfl
                have z1 := b1.cell' (i := 1) rfl
                go_simp; try (with_reducible rfl)
              try simp only [Act.put, List.getElem_toArray, List.getElem_cons_succ, List.getElem_cons_zero, List.setIfInBounds_toArray, List.set_cons_zero, List.set_cons_succ]
              refine wpAnyH_take (i := 9) (v := ?_) rfl (by kernel_rfl) (by kernel_rfl) (by kernel_rfl) (fun _ _ _ h => h) (Or.inl ⟨by rfl, ?_⟩) hHeld ?_
              rotate_left
              · intro w' hSw; try dsimp only at hSw
                obtain ⟨b1, b2, _⟩ := hSw
                have z0 := b1.cell' (i := 0) rfl
                have z1 := b1.cell' (i := 1) rfl
                go_simp; try (with_reducible rfl)
              try simp only [Act.put, List.getElem_toArray, List.getElem_cons_succ, List.getElem_cons_zero, List.setIfInBounds_toArray, List.set_cons_zero, List.set_cons_succ]
              refine wpAnyH_take (i := 10) (v := ?_) rfl (by kernel_rfl) (by kernel_rfl) (by kernel_rfl) (fun _ _ _ h => h) (Or.inl ⟨by rfl, ?_⟩) hHeld ?_
              rotate_left
              · intro w' hSw; try dsimp only at hSw
                go_simp; try (with_reducible rfl)
              try simp only [Act.put, List.getElem_toArray, List.getElem_cons_succ, List.getElem_cons_zero, List.setIfInBounds_toArray, List.set_cons_zero, List.set_cons_succ]
              refine wpAnyH_done (by kernel_rfl) ?_ _
              refine NoPanic.normal ?_
              obtain ⟨-, -, hb6⟩ := hHeld
              go_wp2_with fail
              go_ret
              exact ⟨by rw [HR.out] <;> rfl, hB2.trans (hb6.mono hB2.size)⟩
            · clear hq
              go_upto_region 7 with (fail)
              refine wp_region_noPanic ?_
              refine wp_region_held_drew (S := fun X => Blk X wr.heap.size 41 [.int .i64 zh, .int .i64 zg] ∧ X.cell? ⟨g2, 0, none⟩ = some (.int .i64 xv) ∧ Below w2.heap.size w2 X) (by kernel_rfl) ⟨bb.drew, hcell2 _ ((hbk.trans (ba.mono hbk.size)).drew), (hbk.trans (ba.mono hbk.size)).drew⟩ (fun hHeld => ?_)
              refine wpAnyH_take (i := 0) (v := ?_) rfl (by kernel_rfl) (by kernel_rfl) (by kernel_rfl) (fun _ _ _ h => h) (Or.inl ⟨by rfl, ?_⟩) hHeld ?_
              rotate_left
              · intro w' hSw; try dsimp only at hSw
                obtain ⟨b1, b2, _⟩ := hSw
                have z0 := b1.cell' (i := 0) rfl
                have z1 := b1.cell' (i := 1) rfl
                go_simp; try (with_reducible rfl)
              try simp only [Act.put, List.getElem_toArray, List.getElem_cons_succ, List.getElem_cons_zero, List.setIfInBounds_toArray, List.set_cons_zero, List.set_cons_succ]
              refine wpAnyH_ready (rs := [1]) (by kernel_rfl) (by simp) ?_
              refine AllReadyH.cons rfl (fun K hK => ?_) AllReadyH.nil
              go_simp
              refine (isPlace_any _ _ _).mono ?_
              rintro e W5 ⟨rfl, hb5⟩
              try go_wp2_with fail
              refine hK.out _ _ ⟨hHeld.1.kept hb5, hcell2 _ (hHeld.2.2.trans (hb5.mono hHeld.2.2.size)), hHeld.2.2.trans (hb5.mono hHeld.2.2.size)⟩ (fun hHeld => ?_)
              clear hK K
              try simp only [Act.put, List.getElem_toArray, List.getElem_cons_succ, List.getElem_cons_zero, List.setIfInBounds_toArray, List.set_cons_zero, List.set_cons_succ]
              refine wpAnyH_take (i := 2) (v := ?_) rfl (by kernel_rfl) (by kernel_rfl) (by kernel_rfl) (fun _ _ _ h => h) (Or.inl ⟨by rfl, ?_⟩) hHeld ?_
              rotate_left
              · intro w' hSw; try dsimp only at hSw
                go_simp; try (with_reducible rfl)
              try simp only [Act.put, List.getElem_toArray, List.getElem_cons_succ, List.getElem_cons_zero, List.setIfInBounds_toArray, List.set_cons_zero, List.set_cons_succ]
              refine wpAnyH_take (i := 3) (v := ?_) rfl (by kernel_rfl) (by kernel_rfl) (by kernel_rfl) (fun _ _ _ h => h) (Or.inl ⟨by rfl, ?_⟩) hHeld ?_
              rotate_left
              · intro w' hSw; try dsimp only at hSw
                obtain ⟨b1, b2, _⟩ := hSw
                have z0 := b1.cell' (i := 0) rfl
                have z1 := b1.cell' (i := 1) rfl
                go_simp; try (with_reducible rfl)
              try simp only [Act.put, List.getElem_toArray, List.getElem_cons_succ, List.getElem_cons_zero, List.setIfInBounds_toArray, List.set_cons_zero, List.set_cons_succ]
              refine wpAnyH_take (i := 4) (v := ?_) rfl (by kernel_rfl) (by kernel_rfl) (by kernel_rfl) (fun _ _ _ h => h) (Or.inl ⟨by rfl, ?_⟩) hHeld ?_
              rotate_left
              · intro w' hSw; try dsimp only at hSw
                obtain ⟨b1, b2, _⟩ := hSw
                have z0 := b1.cell' (i := 0) rfl
                have z1 := b1.cell' (i := 1) rfl
                go_simp; try (with_reducible rfl)
              try simp only [Act.put, List.getElem_toArray, List.getElem_cons_succ, List.getElem_cons_zero, List.setIfInBounds_toArray, List.set_cons_zero, List.set_cons_succ]
              refine wpAnyH_take (i := 5) (v := ?_) rfl (by kernel_rfl) (by kernel_rfl) (by kernel_rfl) (fun _ _ _ h => h) (Or.inl ⟨by rfl, ?_⟩) hHeld ?_
              rotate_left
              · intro w' hSw; try dsimp only at hSw
                obtain ⟨b1, b2, _⟩ := hSw
                have z0 := b1.cell' (i := 0) rfl
                have z1 := b1.cell' (i := 1) rfl
                go_simp; try (with_reducible rfl)
              try simp only [Act.put, List.getElem_toArray, List.getElem_cons_succ, List.getElem_cons_zero, List.setIfInBounds_toArray, List.set_cons_zero, List.set_cons_succ]
              refine wpAnyH_take (i := 6) (v := ?_) rfl (by kernel_rfl) (by kernel_rfl) (by kernel_rfl) (fun _ _ _ h => h) (Or.inl ⟨by rfl, ?_⟩) hHeld ?_
              rotate_left
              · intro w' hSw; try dsimp only at hSw
                obtain ⟨b1, b2, _⟩ := hSw
                have z0 := b1.cell' (i := 0) rfl
                have z1 := b1.cell' (i := 1) rfl
                go_simp; try (with_reducible rfl)
              try simp only [Act.put, List.getElem_toArray, List.getElem_cons_succ, List.getElem_cons_zero, List.setIfInBounds_toArray, List.set_cons_zero, List.set_cons_succ]
              refine wpAnyH_take (i := 7) (v := ?_) rfl (by kernel_rfl) (by kernel_rfl) (by kernel_rfl) (fun _ _ _ h => h) (Or.inl ⟨by rfl, ?_⟩) hHeld ?_
              rotate_left
              · intro w' hSw; try dsimp only at hSw
                obtain ⟨b1, b2, _⟩ := hSw
                have z0 := b1.cell' (i := 0) rfl
                have z1 := b1.cell' (i := 1) rfl
                go_simp; try (with_reducible rfl)
              try simp only [Act.put, List.getElem_toArray, List.getElem_cons_succ, List.getElem_cons_zero, List.setIfInBounds_toArray, List.set_cons_zero, List.set_cons_succ]
              refine wpAnyH_take (i := 8) (v := ?_) rfl (by kernel_rfl) (by kernel_rfl) (by kernel_rfl) (fun _ _ _ h => h) (Or.inl ⟨by rfl, ?_⟩) hHeld ?_
              rotate_left
              · intro w' hSw; try dsimp only at hSw
                obtain ⟨b1, b2, _⟩ := hSw
                have z0 := b1.cell' (i := 0) rfl
                have z1 := b1.cell' (i := 1) rfl
                go_simp; try (with_reducible rfl)
              try simp only [Act.put, List.getElem_toArray, List.getElem_cons_succ, List.getElem_cons_zero, List.setIfInBounds_toArray, List.set_cons_zero, List.set_cons_succ]
              refine wpAnyH_take (i := 9) (v := ?_) rfl (by kernel_rfl) (by kernel_rfl) (by kernel_rfl) (fun _ _ _ h => h) (Or.inl ⟨by rfl, ?_⟩) hHeld ?_
              rotate_left
              · intro w' hSw; try dsimp only at hSw
                obtain ⟨b1, b2, _⟩ := hSw
                have z0 := b1.cell' (i := 0) rfl
                have z1 := b1.cell' (i := 1) rfl
                go_simp; try (with_reducible rfl)
              try simp only [Act.put, List.getElem_toArray, List.getElem_cons_succ, List.getElem_cons_zero, List.setIfInBounds_toArray, List.set_cons_zero, List.set_cons_succ]
              refine wpAnyH_take (i := 10) (v := ?_) rfl (by kernel_rfl) (by kernel_rfl) (by kernel_rfl) (fun _ _ _ h => h) (Or.inl ⟨by rfl, ?_⟩) hHeld ?_
              rotate_left
              · intro w' hSw; try dsimp only at hSw
                go_simp; try (with_reducible rfl)
              try simp only [Act.put, List.getElem_toArray, List.getElem_cons_succ, List.getElem_cons_zero, List.setIfInBounds_toArray, List.set_cons_zero, List.set_cons_succ]
              refine wpAnyH_done (by kernel_rfl) ?_ _
              refine NoPanic.normal ?_
              obtain ⟨-, -, hb6⟩ := hHeld
              go_wp2_with fail
              go_ret
              exact ⟨by rw [HR.out] <;> rfl, hB2.trans (hb6.mono hB2.size)⟩
      · obtain rfl : k = n := by omega
        have HR : Hid (homeP zs = xv) := by show _ = _; rw [HH.out, HL.out, hto]; rfl
        have c2 := hcell2 _ hbk
        clear hto
        go_wp2
        go_ret
        exact ⟨by rw [HR.out] <;> rfl, hBk⟩
  · have HR : Hid (homeP zs = -1) := by
      show _ = _
      unfold homeP
      rw [← HKS.out]
      match ks, hone with
      | [], _ => rfl
      | [x], h => exact absurd rfl h
      | x :: y :: l, _ => rfl
    have hne : ((ks.length : Int) != 1) = true := by rw [bne_iff_ne]; omega
    rw [HR.out]
    go_enter Try.func50, Try.ntmps50
    go_wp2_with (first
      | (go_at_call 49; refine hND.mono ?_; rintro e w1 ⟨Bs, q, cl, cq, rfl, hBs, hbx, hH, hcl, hlow, hb1⟩; have hlen := hH.len; rw [valsK_length] at hlen; subst hlen; have hI1 := hH.inI (by omega))
      | (go_at_call 66; refine (collect_any Bs cq q ks _ hbx hI1 (fun a e => (hlow a e).2) (by omega)).mono ?_; rintro e w2 ⟨p2, c2, rfl, hown2, hb2⟩))
    go_ret
    exact ⟨rfl, bt hb1 hb2⟩
end Go.Proofs.Ytfgelncfmopibab
