/-
  How room is made.
-/
import Derived.Test.YtdmnddikcpfmfaaGreatCkHome2
import Derived.LaidEql
namespace Go.Proofs.YtdmnddikcpfmfaaGreat
open Go.RowKit Go.Maps Go.Shelf
theorem ptr_ne {a b : Nat} {w : World} {t u : TypeId} {cs ds : List Value} (h : ¬ a = b) (ha : Blk w a t cs) (hb : Blk w b u ds) : (binOp .neq 71 (.pointer (some ⟨a, 0, none⟩)) (.pointer (some ⟨b, 0, none⟩))).run Tryz.prog w = .ok (.bool true) w := by
  have h1 : ∀ d : Nat, (Op.equalIn (d + 1) 71 (.pointer (some ⟨a, 0, none⟩)) (.pointer (some ⟨b, 0, none⟩))).run Tryz.prog w = .ok false w := fun d => by
    simp [Op.equalIn, run_underlying Tryz.underlying71, run_sameAddr_other (P := Tryz.prog) w (a := ⟨a, 0, none⟩) (b := ⟨b, 0, none⟩) (fun e => h (Addr.mk.inj e).1) ha hb]
  simp only [binOp]
  simp [Op.equal, Op.maxDepth, h1 9999]
theorem ptr_eq {a b : Nat} {w : World} {t u : TypeId} {cs ds : List Value} (h : ¬ a = b) (ha : Blk w a t cs) (hb : Blk w b u ds) : (binOp .eql 71 (.pointer (some ⟨a, 0, none⟩)) (.pointer (some ⟨b, 0, none⟩))).run Tryz.prog w = .ok (.bool false) w := by
  have h1 : ∀ d : Nat, (Op.equalIn (d + 1) 71 (.pointer (some ⟨a, 0, none⟩)) (.pointer (some ⟨b, 0, none⟩))).run Tryz.prog w = .ok false w := fun d => by
    simp [Op.equalIn, run_underlying Tryz.underlying71, run_sameAddr_other (P := Tryz.prog) w (a := ⟨a, 0, none⟩) (b := ⟨b, 0, none⟩) (fun e => h (Addr.mk.inj e).1) ha hb]
  simp only [binOp]
  simp [Op.equal, Op.maxDepth, h1 9999]
theorem ptr_ne_self (a : Nat) (w : World) : (binOp .neq 71 (.pointer (some ⟨a, 0, none⟩)) (.pointer (some ⟨a, 0, none⟩))).run Tryz.prog w = .ok (.bool false) w := by
  have h1 : ∀ d : Nat, (Op.equalIn (d + 1) 71 (.pointer (some ⟨a, 0, none⟩)) (.pointer (some ⟨a, 0, none⟩))).run Tryz.prog w = .ok true w := fun d => by
    simp [Op.equalIn, run_underlying Tryz.underlying71, run_sameAddr_same]
  simp only [binOp]
  simp [Op.equal, Op.maxDepth, h1 9999]
theorem ptr_eq_self (a : Nat) (w : World) : (binOp .eql 71 (.pointer (some ⟨a, 0, none⟩)) (.pointer (some ⟨a, 0, none⟩))).run Tryz.prog w = .ok (.bool true) w := by
  have h1 : ∀ d : Nat, (Op.equalIn (d + 1) 71 (.pointer (some ⟨a, 0, none⟩)) (.pointer (some ⟨a, 0, none⟩))).run Tryz.prog w = .ok true w := fun d => by
    simp [Op.equalIn, run_underlying Tryz.underlying71, run_sameAddr_same]
  simp only [binOp]
  simp [Op.equal, Op.maxDepth, h1 9999]
theorem ring_hed {O N : Nat → Nat} {e x : Nat} {p q : List Nat} (h : Chain O N e (p ++ x :: q) e) : N x = hed q e := ((chain_append.1 h).2).first
set_option linter.unusedSimpArgs false in
set_option maxRecDepth 100000 in
set_option maxHeartbeats 2000000 in
theorem room_any {w : World} {s : CS} (h : CIn w s) (hwr : s.ds.writes < 1024) :
    Calls Tryz.prog 59 #[.pointer (some ⟨s.c, 0, none⟩)] w fun e w' => e = .returned (.int .i64 (roomR s.room s.P s.ds).1) ∧ ∃ s', CAfter w w' s s' ∧ s'.P = (roomR s.room s.P s.ds).2.1 ∧ s'.ds = (roomR s.room s.P s.ds).2.2 := by
  have hPl : s.P.length = s.L.length := by simp [CS.P]
  by_cases hlt : s.L.length < s.room
  · rw [roomR_room (by omega)]
    have hlt' : (s.L.length : Int) < (s.room : Int) := by omega
    go_enter Tryz.func59, Tryz.ntmps59
    go_wp2
    refine wp_region_noPanic ?_
    refine wp_region_held_drew (S := fun W => CIn W s) (by kernel_rfl) (h.drewN 1) (fun hHeld => ?_)
    refine wpAnyH_take (i := 0) (v := ?_) rfl (by kernel_rfl) (by kernel_rfl) (by kernel_rfl) (fun _ _ _ h => h) (Or.inl ⟨by rfl, ?_⟩) hHeld ?_
    rotate_left
    · intro w' hSw; try dsimp only at hSw
      go_simp; try (with_reducible rfl)
    try simp only [Act.put, List.getElem_toArray, List.getElem_cons_succ, List.getElem_cons_zero, List.setIfInBounds_toArray, List.set_cons_zero, List.set_cons_succ]
    refine wpAnyH_take (i := 1) (v := ?_) rfl (by kernel_rfl) (by kernel_rfl) (by kernel_rfl) (fun _ _ _ h => h) (Or.inl ⟨by rfl, ?_⟩) hHeld ?_
    rotate_left
    · intro w' hSw; try dsimp only at hSw
      go_simp; try (with_reducible rfl)
    try simp only [Act.put, List.getElem_toArray, List.getElem_cons_succ, List.getElem_cons_zero, List.setIfInBounds_toArray, List.set_cons_zero, List.set_cons_succ]
    refine wpAnyH_take (i := 2) (v := ?_) rfl (by kernel_rfl) (by kernel_rfl) (by kernel_rfl) (fun _ _ _ h => h) (Or.inl ⟨by rfl, ?_⟩) hHeld ?_
    rotate_left
    · intro w' hSw; try dsimp only at hSw
      go_simp; try (with_reducible rfl)
    try simp only [Act.put, List.getElem_toArray, List.getElem_cons_succ, List.getElem_cons_zero, List.setIfInBounds_toArray, List.set_cons_zero, List.set_cons_succ]
    refine wpAnyH_take (i := 3) (v := ?_) rfl (by kernel_rfl) (by kernel_rfl) (by kernel_rfl) (fun _ _ _ h => h) (Or.inl ⟨by rfl, ?_⟩) hHeld ?_
    rotate_left
    · intro w' hSw; try dsimp only at hSw
      have q := hSw.c2
      go_simp; try (with_reducible rfl)
    try simp only [Act.put, List.getElem_toArray, List.getElem_cons_succ, List.getElem_cons_zero, List.setIfInBounds_toArray, List.set_cons_zero, List.set_cons_succ]
    refine wpAnyH_take (i := 4) (v := ?_) rfl (by kernel_rfl) (by kernel_rfl) (by kernel_rfl) (fun _ _ _ h => h) (Or.inl ⟨by rfl, ?_⟩) hHeld ?_
    rotate_left
    · intro w' hSw; try dsimp only at hSw
      have q := hSw.map.len 3
      go_simp; try (with_reducible rfl)
    try simp only [Act.put, List.getElem_toArray, List.getElem_cons_succ, List.getElem_cons_zero, List.setIfInBounds_toArray, List.set_cons_zero, List.set_cons_succ]
    refine wpAnyH_take (i := 5) (v := ?_) rfl (by kernel_rfl) (by kernel_rfl) (by kernel_rfl) (fun _ _ _ h => h) (Or.inl ⟨by rfl, ?_⟩) hHeld ?_
    rotate_left
    · intro w' hSw; try dsimp only at hSw
      go_simp; try (with_reducible rfl)
    try simp only [Act.put, List.getElem_toArray, List.getElem_cons_succ, List.getElem_cons_zero, List.setIfInBounds_toArray, List.set_cons_zero, List.set_cons_succ]
    refine wpAnyH_take (i := 6) (v := ?_) rfl (by kernel_rfl) (by kernel_rfl) (by kernel_rfl) (fun _ _ _ h => h) (Or.inl ⟨by rfl, ?_⟩) hHeld ?_
    rotate_left
    · intro w' hSw; try dsimp only at hSw
      go_simp; try (with_reducible rfl)
    try simp only [Act.put, List.getElem_toArray, List.getElem_cons_succ, List.getElem_cons_zero, List.setIfInBounds_toArray, List.set_cons_zero, List.set_cons_succ]
    refine wpAnyH_take (i := 7) (v := ?_) rfl (by kernel_rfl) (by kernel_rfl) (by kernel_rfl) (fun _ _ _ h => h) (Or.inl ⟨by rfl, ?_⟩) hHeld ?_
    rotate_left
    · intro w' hSw; try dsimp only at hSw
      go_simp; try (with_reducible rfl)
    try simp only [Act.put, List.getElem_toArray, List.getElem_cons_succ, List.getElem_cons_zero, List.setIfInBounds_toArray, List.set_cons_zero, List.set_cons_succ]
    refine wpAnyH_take (i := 8) (v := ?_) rfl (by kernel_rfl) (by kernel_rfl) (by kernel_rfl) (fun _ _ _ h => h) (Or.inl ⟨by rfl, ?_⟩) hHeld ?_
    rotate_left
    · intro w' hSw; try dsimp only at hSw
      have q := hSw.c1
      go_simp; try (with_reducible rfl)
    try simp only [Act.put, List.getElem_toArray, List.getElem_cons_succ, List.getElem_cons_zero, List.setIfInBounds_toArray, List.set_cons_zero, List.set_cons_succ]
    refine wpAnyH_take (i := 9) (v := ?_) rfl (by kernel_rfl) (by kernel_rfl) (by kernel_rfl) (fun _ _ _ h => h) (Or.inl ⟨by rfl, ?_⟩) hHeld ?_
    rotate_left
    · intro w' hSw; try dsimp only at hSw
      go_simp; try (with_reducible rfl)
    try simp only [Act.put, List.getElem_toArray, List.getElem_cons_succ, List.getElem_cons_zero, List.setIfInBounds_toArray, List.set_cons_zero, List.set_cons_succ]
    refine wpAnyH_done (by kernel_rfl) ?_ _
    refine NoPanic.normal ?_
    go_wp2
    go_ret
    exact ⟨rfl, s, CAfter.kept (CAfter.refl h) (below_drewN (Below.refl _ _) 1), rfl, rfl⟩
  · have hlt' : ¬ (s.L.length : Int) < (s.room : Int) := by omega
    have hlP : ¬ s.P.length < s.room := by omega
    have h1 := h.drewN 1
    generalize hRR : roomR s.room s.P s.ds = RR
    have HRR : Hid (roomR s.room s.P s.ds = RR) := hRR
    clear hRR hPl
    go_enter Tryz.func59, Tryz.ntmps59
    go_wp2
    refine wp_region_noPanic ?_
    refine wp_region_held_drew (S := fun W => CIn W s) (by kernel_rfl) (h.drewN 1) (fun hHeld => ?_)
    refine wpAnyH_take (i := 0) (v := ?_) rfl (by kernel_rfl) (by kernel_rfl) (by kernel_rfl) (fun _ _ _ h => h) (Or.inl ⟨by rfl, ?_⟩) hHeld ?_
    rotate_left
    · intro w' hSw; try dsimp only at hSw
      go_simp; try (with_reducible rfl)
    try simp only [Act.put, List.getElem_toArray, List.getElem_cons_succ, List.getElem_cons_zero, List.setIfInBounds_toArray, List.set_cons_zero, List.set_cons_succ]
    refine wpAnyH_take (i := 1) (v := ?_) rfl (by kernel_rfl) (by kernel_rfl) (by kernel_rfl) (fun _ _ _ h => h) (Or.inl ⟨by rfl, ?_⟩) hHeld ?_
    rotate_left
    · intro w' hSw; try dsimp only at hSw
      go_simp; try (with_reducible rfl)
    try simp only [Act.put, List.getElem_toArray, List.getElem_cons_succ, List.getElem_cons_zero, List.setIfInBounds_toArray, List.set_cons_zero, List.set_cons_succ]
    refine wpAnyH_take (i := 2) (v := ?_) rfl (by kernel_rfl) (by kernel_rfl) (by kernel_rfl) (fun _ _ _ h => h) (Or.inl ⟨by rfl, ?_⟩) hHeld ?_
    rotate_left
    · intro w' hSw; try dsimp only at hSw
      go_simp; try (with_reducible rfl)
    try simp only [Act.put, List.getElem_toArray, List.getElem_cons_succ, List.getElem_cons_zero, List.setIfInBounds_toArray, List.set_cons_zero, List.set_cons_succ]
    refine wpAnyH_take (i := 3) (v := ?_) rfl (by kernel_rfl) (by kernel_rfl) (by kernel_rfl) (fun _ _ _ h => h) (Or.inl ⟨by rfl, ?_⟩) hHeld ?_
    rotate_left
    · intro w' hSw; try dsimp only at hSw
      have q := hSw.c2
      go_simp; try (with_reducible rfl)
    try simp only [Act.put, List.getElem_toArray, List.getElem_cons_succ, List.getElem_cons_zero, List.setIfInBounds_toArray, List.set_cons_zero, List.set_cons_succ]
    refine wpAnyH_take (i := 4) (v := ?_) rfl (by kernel_rfl) (by kernel_rfl) (by kernel_rfl) (fun _ _ _ h => h) (Or.inl ⟨by rfl, ?_⟩) hHeld ?_
    rotate_left
    · intro w' hSw; try dsimp only at hSw
      have q := hSw.map.len 3
      go_simp; try (with_reducible rfl)
    try simp only [Act.put, List.getElem_toArray, List.getElem_cons_succ, List.getElem_cons_zero, List.setIfInBounds_toArray, List.set_cons_zero, List.set_cons_succ]
    refine wpAnyH_take (i := 5) (v := ?_) rfl (by kernel_rfl) (by kernel_rfl) (by kernel_rfl) (fun _ _ _ h => h) (Or.inl ⟨by rfl, ?_⟩) hHeld ?_
    rotate_left
    · intro w' hSw; try dsimp only at hSw
      go_simp; try (with_reducible rfl)
    try simp only [Act.put, List.getElem_toArray, List.getElem_cons_succ, List.getElem_cons_zero, List.setIfInBounds_toArray, List.set_cons_zero, List.set_cons_succ]
    refine wpAnyH_take (i := 6) (v := ?_) rfl (by kernel_rfl) (by kernel_rfl) (by kernel_rfl) (fun _ _ _ h => h) (Or.inl ⟨by rfl, ?_⟩) hHeld ?_
    rotate_left
    · intro w' hSw; try dsimp only at hSw
      go_simp; try (with_reducible rfl)
    try simp only [Act.put, List.getElem_toArray, List.getElem_cons_succ, List.getElem_cons_zero, List.setIfInBounds_toArray, List.set_cons_zero, List.set_cons_succ]
    refine wpAnyH_take (i := 7) (v := ?_) rfl (by kernel_rfl) (by kernel_rfl) (by kernel_rfl) (fun _ _ _ h => h) (Or.inl ⟨by rfl, ?_⟩) hHeld ?_
    rotate_left
    · intro w' hSw; try dsimp only at hSw
      go_simp; try (with_reducible rfl)
    try simp only [Act.put, List.getElem_toArray, List.getElem_cons_succ, List.getElem_cons_zero, List.setIfInBounds_toArray, List.set_cons_zero, List.set_cons_succ]
    refine wpAnyH_take (i := 8) (v := ?_) rfl (by kernel_rfl) (by kernel_rfl) (by kernel_rfl) (fun _ _ _ h => h) (Or.inl ⟨by rfl, ?_⟩) hHeld ?_
    rotate_left
    · intro w' hSw; try dsimp only at hSw
      have q := hSw.c1
      go_simp; try (with_reducible rfl)
    try simp only [Act.put, List.getElem_toArray, List.getElem_cons_succ, List.getElem_cons_zero, List.setIfInBounds_toArray, List.set_cons_zero, List.set_cons_succ]
    refine wpAnyH_take (i := 9) (v := ?_) rfl (by kernel_rfl) (by kernel_rfl) (by kernel_rfl) (fun _ _ _ h => h) (Or.inl ⟨by rfl, ?_⟩) hHeld ?_
    rotate_left
    · intro w' hSw; try dsimp only at hSw
      go_simp; try (with_reducible rfl)
    try simp only [Act.put, List.getElem_toArray, List.getElem_cons_succ, List.getElem_cons_zero, List.setIfInBounds_toArray, List.set_cons_zero, List.set_cons_succ]
    refine wpAnyH_done (by kernel_rfl) ?_ _
    refine NoPanic.normal ?_
    have hbD : Below w.heap.size w w.drew := below_drewN (Below.refl _ _) 1
    generalize w.drew = W at hHeld hbD ⊢
    have c3 := hHeld.c3
    have hne0 := hHeld.fit.nd
    have hring := hHeld.fit.ring
    obtain ⟨b0, hb0⟩ : ∃ b0, Hid (b0 = hed s.gs s.e) := ⟨_, rfl⟩
    have e5 : W.cell? ⟨s.e, 5, none⟩ = some (.pointer (some ⟨b0, 0, none⟩)) := by
      rw [hb0.out, ← hring.first]
      exact (hHeld.mem (ebuf s.e) (List.mem_cons_self ..)).cell' rfl
    clear h1
    go_wp2_with fail
    go_loopg [3] s.L.length (fun k b wr => wr = W ∧ ∃ p q, Hid (s.L = p ++ q) ∧ (∀ y ∈ p, goesB y.b = false) ∧ b = .pointer (some ⟨hed (q.map (·.g)) s.e, 0, none⟩) ∧ k = q.length)
    case atStart => exact ⟨rfl, [], s.L, rfl, by simp, by rw [hb0.out]; rfl, rfl⟩
    case round =>
      obtain ⟨rfl, p, q, HL, hp, rfl, rfl⟩ := hrel
      cases q with
      | nil =>
        rw [List.append_nil] at HL
        have hall : ∀ y ∈ s.P, goesB y = false := fun y hy => by
          obtain ⟨x, hx, rfl⟩ := List.mem_map.1 hy
          exact hp x (HL.out ▸ hx)
        have e1 := HRR.out
        rw [roomR_pins hlP hall] at e1
        have HE : Hid (((100 : Int), s.P, s.ds) = RR) := e1
        clear e1 e5 hp hall
        rw [show hed (List.map (·.g) ([] : List BufS)) s.e = s.e from rfl]
        have q1 := ptr_ne_self s.e
        have q2 := ptr_eq_self s.e
        go_wp2_with fail
        go_ret
        exact ⟨by rw [← HE.out]; rfl, s, CAfter.kept (CAfter.refl h) hbD, by rw [← HE.out], by rw [← HE.out]⟩
      | cons x q =>
        have hL : s.L = p ++ x :: q := HL.out
        have hxL : x ∈ s.L := by rw [hL]; simp
        obtain ⟨hr2, hn2⟩ := hHeld.fit.mid hL
        have hN := ring_hed hr2
        have hxe : ¬ x.g = s.e := (nodup_mid hn2).2.2.1
        have hgx := hHeld.mem x (List.mem_cons_of_mem _ hxL)
        have x5 : wr.cell? ⟨x.g, 5, none⟩ = some (.pointer (some ⟨hed (q.map (·.g)) s.e, 0, none⟩)) := by rw [← hN]; exact hgx.cell' rfl
        have x2 := hgx.cell' (i := 2) (v := .int .i64 (x.b.cl : Int)) rfl
        have x0 := hgx.cell' (i := 0) (v := .int .i64 (x.b.k : Int)) rfl
        have hmg := mayGo_any hgx
        have hHL : Hid (s.L = p ++ x :: q) := hL
        clear hL HL hN hr2 hn2 e5 hring hne0
        rw [show hed (List.map (·.g) (x :: q)) s.e = x.g from rfl]
        have heb := hHeld.mem (ebuf s.e) (List.mem_cons_self ..)
        have q1 := ptr_ne hxe hgx heb
        have q2 := ptr_eq hxe hgx heb
        clear heb
        have hPe : Hid (s.P = p.map (·.b) ++ x.b :: q.map (·.b)) := by show s.P = _; rw [CS.P, hHL.out, map_mid]
        have hp' : ∀ y ∈ p.map (·.b), goesB y = false := fun y hy => by
          obtain ⟨z, hz, rfl⟩ := List.mem_map.1 hy
          exact hp z hz
        cases hgo : goesB x.b with
        | false =>
          rw [hgo] at hmg
          go_wp2_with (go_at_call 94; refine hmg.mono ?_; rintro e w' ⟨rfl, hw'⟩; have hw2 := hw'.symm; subst hw2; clear hw')
          go_roundg q.length
          case measure => simp
          case rel =>
            refine ⟨rfl, p ++ [x], q, by show s.L = _; rw [hHL.out]; simp, fun y hy => ?_, rfl, rfl⟩
            rcases List.mem_append.1 hy with e | e
            · exact hp y e
            · rw [List.mem_singleton.1 e]; exact hgo
        | true =>
          rw [hgo] at hmg
          have e1 := HRR.out
          rw [hPe.out] at e1 hlP
          by_cases hc0 : x.b.cl = 0
          · rw [roomR_clean hlP hp' hgo hc0] at e1
            have HE : Hid (((0 : Int), p.map (·.b) ++ q.map (·.b), s.ds) = RR) := e1
            rw [hc0] at x2
            have hdr := drop_any hHeld hHL.out
            clear e1 hlP hc0 HRR
            go_wp2_with (first
              | (go_at_call 94; refine hmg.mono ?_; rintro e w' ⟨rfl, hw'⟩; have hw2 := hw'.symm; subst hw2; clear hw')
              | (go_at_call 85; refine hdr.mono ?_; rintro e w3 ⟨⟨u3, rfl⟩, O3, N3, A3⟩))
            go_ret
            exact ⟨by rw [← HE.out]; rfl, _, CAfter.drop hbD A3, by rw [← HE.out]; exact List.map_append, by rw [← HE.out]⟩
          · rw [roomR_dirty hlP hp' hgo hc0] at e1
            have HE : Hid ((writeE s.ds (x.b.k : Int) x.b.D.length, if writeE s.ds (x.b.k : Int) x.b.D.length = 0 then p.map (·.b) ++ q.map (·.b) else p.map (·.b) ++ x.b :: q.map (·.b), writeS s.ds (x.b.k : Int) x.b.D) = RR) := e1
            have hc1 : ¬ (x.b.cl : Int) = 0 := by omega
            have hho := home_any hHeld hHL.out hwr
            clear e1 hlP hc0 HRR
            by_cases hE0 : writeE s.ds (x.b.k : Int) x.b.D.length = 0
            · have HE0 : Hid (writeE s.ds (x.b.k : Int) x.b.D.length = 0) := hE0
              rw [hE0] at hho
              rw [if_pos rfl] at hho
              clear hE0
              go_wp2_with (first
                | (go_at_call 94; refine hmg.mono ?_; rintro e w' ⟨rfl, hw'⟩; have hw2 := hw'.symm; subst hw2; clear hw')
                | (go_at_call 95; refine hho.mono ?_; rintro e w2 ⟨rfl, lv2, A2⟩; have x02 := (A2.cin.mem (cleanB x) (List.mem_cons_of_mem _ (by simp))).cell' (i := 0) (v := .int .i64 (x.b.k : Int)) rfl; have hdr := drop_any A2.cin (p := p) (q := q) (x := cleanB x) rfl; have hzz : w2.cell? ⟨x.g, 0, none⟩ = some (.int .i64 (x.b.k : Int)) := x02; clear x02)
                | (go_at_call 85; refine hdr.mono ?_; rintro e w3 ⟨⟨u3, rfl⟩, O3, N3, A3⟩))
              go_ret
              exact ⟨by rw [← HE.out, HE0.out]; rfl, _, CAfter.drop hbD (A2.trans A3), by rw [← HE.out, if_pos HE0.out]; exact List.map_append, by rw [← HE.out]⟩
            · rw [if_neg hE0] at hho
              go_wp2_with (first
                | (go_at_call 94; refine hmg.mono ?_; rintro e w' ⟨rfl, hw'⟩; have hw2 := hw'.symm; subst hw2; clear hw')
                | (go_at_call 95; refine hho.mono ?_; rintro e w2 ⟨rfl, lv2, A2⟩))
              go_ret
              exact ⟨by rw [← HE.out]; rfl, _, CAfter.drop hbD A2, by rw [← HE.out, if_neg hE0]; exact hPe.out, by rw [← HE.out]⟩
end Go.Proofs.YtdmnddikcpfmfaaGreat
