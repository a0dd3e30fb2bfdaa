/-
  What Write does.
-/
import Derived.Test.YtdmnddikcpfmfaaGreatCkWriteP
namespace Go.Proofs.YtdmnddikcpfmfaaGreat
open Go.RowKit Go.Maps Go.Shelf
theorem CIn.mapn {w : World} {s : CS} (h : CIn w s) (k : Nat) (hk : k < s.ds.secs.length) (hno : ∀ x ∈ s.L, x.b.k ≠ k) : (Instr.lookup 70 (.map (some s.bm)) (.int .i64 (k : Int)) false).run Tryz.prog w = .ok (.pointer none) w := h.map.look_no hno (by have := h.base.disk.n2; omega)
theorem CIn.mapy {w : World} {s : CS} (h : CIn w s) {x : BufS} (hx : x ∈ s.L) : (Instr.lookup 70 (.map (some s.bm)) (.int .i64 (x.b.k : Int)) false).run Tryz.prog w = .ok (.pointer (some ⟨x.g, 0, none⟩)) w := h.map.look hx (by have := h.base.disk.n2; have := h.fit.ok x hx; omega)
theorem cwrite_bad {w : World} {s : CS} (h : CIn w s) (i : Int) (p : Option Addr) (n c : Nat) (cl : Int) (hb : hasB s.ds.secs.length i = false ∨ n ≠ 256 ∨ ¬ (cl = 1 ∨ cl = 2)) :
    Calls Tryz.prog 16 #[.pointer (some ⟨s.c, 0, none⟩), .int .i64 i, .slice p n c, .int .i64 cl] w fun e w' => e = .returned (.int .i64 1) ∧ Below w.heap.size w w' := by
  have hck := ccheck_any h i
  cases hh : hasB s.ds.secs.length i
  · rw [chkE_no hh] at hck
    go_enter Tryz.func16, Tryz.ntmps16
    go_wp2_with (go_at_call 57; refine hck.mono ?_; rintro e w1 ⟨rfl, hb1⟩)
    go_ret
    exact ⟨rfl, hb1⟩
  · rw [chkE_yes hh] at hck
    have hb' : n ≠ 256 ∨ ¬ (cl = 1 ∨ cl = 2) := by rcases hb with e | e; rw [hh] at e; cases e; exact e
    clear hb hh
    by_cases hn : n = 256
    · subst hn
      have hcl : (decide (cl = 1) || decide (cl = 2)) = false := by rcases hb' with e | e; exact absurd rfl e; simpa [not_or] using e
      clear hb'
      have hic := fun W => cisClass_any cl W
      rw [hcl] at hic
      clear hcl
      go_enter Tryz.func16, Tryz.ntmps16
      go_wp2_with (first
        | (go_at_call 57; refine hck.mono ?_; rintro e w1 ⟨rfl, hb1⟩)
        | (go_at_call 58; refine (hic _).mono ?_; rintro e w' ⟨rfl, hw'⟩; have hw2 := hw'.symm; subst hw2; clear hw'))
      go_ret
      exact ⟨rfl, hb1⟩
    · have hn' : ¬ (n : Int) = 256 := by omega
      go_enter Tryz.func16, Tryz.ntmps16
      go_wp2_with (go_at_call 57; refine hck.mono ?_; rintro e w1 ⟨rfl, hb1⟩)
      go_ret
      exact ⟨rfl, hb1⟩
set_option maxRecDepth 100000 in
set_option maxHeartbeats 1000000 in
theorem cwrite_has {w : World} {s : CS} (h : CIn w s) {p q : List BufS} {x : BufS} (hL : s.L = p ++ x :: q) (pp : Option Addr) (cc : Nat) (D : List Nat) (hd : In w pp 256 cc D ∧ U8 w pp) (m : Nat) (hm : m = 1 ∨ m = 2) :
    Calls Tryz.prog 16 #[.pointer (some ⟨s.c, 0, none⟩), .int .i64 (x.b.k : Int), .slice pp 256 cc, .int .i64 (m : Int)] w fun e w' => e = .returned (.int .i64 0) ∧ ∃ s', CAfter w w' s s' ∧ s'.P = p.map (·.b) ++ q.map (·.b) ++ [⟨x.b.k, D, m, x.b.pins⟩] ∧ s'.ds = s.ds := by
  have hxL : x ∈ s.L := by rw [hL]; simp
  have hck := ccheck_any h (x.b.k : Int)
  rw [chkE_yes (hasB_yes (h.fit.ok x hxL))] at hck
  have hic := fun W => cisClass_any (m : Int) W
  rw [show (decide ((m : Int) = 1) || decide ((m : Int) = 2)) = true from by rcases hm with rfl | rfl <;> rfl] at hic
  have HL : Hid (s.L = p ++ x :: q) := hL
  have hlen : D.length = 256 := hd.1.len
  clear hL hm
  go_enter Tryz.func16, Tryz.ntmps16
  go_wp2_with (first
    | (go_at_call 57; refine hck.mono ?_; rintro e w1 ⟨rfl, hb1⟩; have h1 := h.kept hb1; have hy1 := h1.mapy hxL; have hc2 := h1.c2)
    | (go_at_call 58; refine (hic _).mono ?_; rintro e w' ⟨rfl, hw'⟩; have hw2 := hw'.symm; subst hw2; clear hw')
    | (go_at_call 61; refine (clone_u8 _ _ _ _ _ (hd.1.below hb1)).mono ?_; rintro e w2 ⟨p2, c2, rfl, hin2, hb2, hfr2, hu2⟩; have h2 := h1.kept hb2; have hg2 := h2.mem x (List.mem_cons_of_mem _ hxL); have d1 := hg2.cell' (i := 1) (v := .slice x.p x.b.D.length x.cap) rfl; have d2 := hg2.cell' (i := 2) (v := .int .i64 (x.b.cl : Int)) rfl; have f1 := hg2.frozen 1; have f2 := hg2.frozen 2))
  have A2 := h2.filled HL.out p2 c2 D m ⟨hlen.symm ▸ hin2, hu2⟩
  rw [hlen] at A2
  refine (use_any A2.cin (p := p) (q := q) (x := classB (dataB x p2 c2 D) m) rfl).mono ?_
  rintro e w3 ⟨⟨u3, rfl⟩, O3, N3, A3⟩
  go_wp2_with fail
  go_ret
  exact ⟨rfl, _, CAfter.drop (bt hb1 hb2) (A2.trans A3), by simp [CS.P, classB, dataB], rfl⟩
set_option maxRecDepth 100000 in
set_option maxHeartbeats 1000000 in
theorem cwrite_new {w : World} {s : CS} (h : CIn w s) (k : Nat) (hk : k < s.ds.secs.length) (hno : ∀ x ∈ s.L, x.b.k ≠ k) (pp : Option Addr) (cc : Nat) (D : List Nat) (hd : In w pp 256 cc D ∧ U8 w pp) (m : Nat) (hm : m = 1 ∨ m = 2) (hwr : s.ds.writes < 1024) :
    Calls Tryz.prog 16 #[.pointer (some ⟨s.c, 0, none⟩), .int .i64 (k : Int), .slice pp 256 cc, .int .i64 (m : Int)] w fun e w' => e = .returned (.int .i64 (roomR s.room s.P s.ds).1) ∧ ∃ s', CAfter w w' s s' ∧ s'.P = (if (roomR s.room s.P s.ds).1 = 0 then (roomR s.room s.P s.ds).2.1 ++ [⟨k, D, m, 0⟩] else (roomR s.room s.P s.ds).2.1) ∧ s'.ds = (roomR s.room s.P s.ds).2.2 := by
  have hck := ccheck_any h (k : Int)
  rw [chkE_yes (hasB_yes hk)] at hck
  have hic := fun W => cisClass_any (m : Int) W
  rw [show (decide ((m : Int) = 1) || decide ((m : Int) = 2)) = true from by rcases hm with rfl | rfl <;> rfl] at hic
  have hlen : D.length = 256 := hd.1.len
  have hsub := roomR_sub s.room s.P s.ds
  have hll := fun e => roomR_len (r := s.room) (l := s.P) (ds := s.ds) e (by simp [CS.P]; exact h.fit.len)
  have hss := roomR_secs s.room s.P s.ds
  have hro := fun (W : World) (hW : CIn W s) => room_any hW hwr
  generalize roomR s.room s.P s.ds = RR at *
  obtain ⟨E, l1, ds1⟩ := RR
  dsimp only at *
  clear hm hwr
  by_cases hE : E = 0
  · subst hE
    go_enter Tryz.func16, Tryz.ntmps16
    go_wp2_with (first
      | (go_at_call 57; refine hck.mono ?_; rintro e w1 ⟨rfl, hb1⟩; have h1 := h.kept hb1; have hy1 := h1.mapn k hk hno; have hc2 := h1.c2)
      | (go_at_call 58; refine (hic _).mono ?_; rintro e w' ⟨rfl, hw'⟩; have hw2 := hw'.symm; subst hw2; clear hw')
      | (go_at_call 59; refine (hro _ h1).mono ?_; rintro e w2 ⟨rfl, s2, A2, hP2, hD2⟩))
    have hk2 : k < s2.ds.secs.length := by rw [hD2, hss]; exact hk
    have hno2 : ∀ x ∈ s2.L, x.b.k ≠ k := fun x hx => by
      have h3 : x.b ∈ s.P := hsub _ (hP2 ▸ List.mem_map.2 ⟨x, hx, rfl⟩)
      obtain ⟨y, hy, e⟩ := List.mem_map.1 h3
      rw [← e]
      exact hno y hy
    have hr2 : s2.L.length < s2.room := by
      have := hll trivial
      rw [A2.room]
      rw [← hP2] at this
      simpa [CS.P] using this
    have hadd := add_any A2.cin k hk2 hno2 hr2
    rw [A2.c] at hadd
    have hd2 := A2.dat h1 ⟨hd.1.below hb1, hd.2.below hb1⟩
    refine hadd.mono ?_
    rintro e w3 ⟨rfl, O3, N3, A3⟩
    have hd3 := A3.dat A2.cin hd2
    generalize w2.heap.size = g at *
    go_wp2_with (go_at_call 61; refine (clone_u8 _ _ _ _ _ hd3.1).mono ?_; rintro e w4 ⟨p4, c4, rfl, hin4, hb4, hfr4, hu4⟩; have h4 := A3.cin.kept hb4; have hg4 := h4.mem (newBuf g k) (List.mem_cons_of_mem _ (by simp)); have d1 : w4.cell? ⟨g, 1, none⟩ = some (.slice none 0 0) := hg4.cell' rfl; have d2 : w4.cell? ⟨g, 2, none⟩ = some (.int .i64 0) := hg4.cell' rfl; have f1 : w4.frozen? ⟨g, 1, none⟩ = false := hg4.frozen 1; have f2 : w4.frozen? ⟨g, 2, none⟩ = false := hg4.frozen 2)
    have A5 := h4.filled (p := s2.L) (q := []) (x := newBuf g k) rfl p4 c4 D m ⟨hlen.symm ▸ hin4, hu4⟩
    rw [hlen] at A5
    have huse := use_any A5.cin (p := s2.L) (q := []) (x := classB (dataB (newBuf g k) p4 c4 D) m) rfl
    dsimp only at huse
    refine huse.mono ?_
    rintro e w6 ⟨⟨u6, rfl⟩, O6, N6, A6⟩
    go_wp2_with fail
    go_ret
    refine ⟨rfl, _, CAfter.drop hb1 (((A2.trans A3).kept hb4).trans (A5.trans A6)), ?_, hD2⟩
    rw [← hP2]
    simp [CS.P, classB, dataB, newBuf]
  · go_enter Tryz.func16, Tryz.ntmps16
    go_wp2_with (first
      | (go_at_call 57; refine hck.mono ?_; rintro e w1 ⟨rfl, hb1⟩; have h1 := h.kept hb1; have hy1 := h1.mapn k hk hno; have hc2 := h1.c2)
      | (go_at_call 58; refine (hic _).mono ?_; rintro e w' ⟨rfl, hw'⟩; have hw2 := hw'.symm; subst hw2; clear hw')
      | (go_at_call 59; refine (hro _ h1).mono ?_; rintro e w2 ⟨rfl, s2, A2, hP2, hD2⟩))
    go_ret
    exact ⟨rfl, s2, CAfter.drop hb1 A2, hP2, hD2⟩
/-- Write, whatever is handed in. -/
theorem cwrite_any {w : World} {s : CS} (h : CIn w s) (i : Int) (pp : Option Addr) (n cc : Nat) (D : List Nat) (hd : In w pp n cc D ∧ U8 w pp) (cl : Int) (hwr : s.ds.writes < 1024) :
    Calls Tryz.prog 16 #[.pointer (some ⟨s.c, 0, none⟩), .int .i64 i, .slice pp n cc, .int .i64 cl] w fun e w' => e = .returned (.int .i64 (wrC s.room s.P s.ds i D cl).1) ∧ ∃ s', CAfter w w' s s' ∧ s'.P = (wrC s.room s.P s.ds i D cl).2.1 ∧ s'.ds = (wrC s.room s.P s.ds i D cl).2.2 := by
  have hn : D.length = n := hd.1.len
  by_cases hb : hasB s.ds.secs.length i = false ∨ n ≠ 256 ∨ ¬ (cl = 1 ∨ cl = 2)
  · have e : wrC s.room s.P s.ds i D cl = (1, s.P, s.ds) := by
      unfold wrC
      rcases hb with e | e
      · rw [if_pos e]
      · split
        · rfl
        · rw [if_pos (by rw [hn]; exact e)]
    rw [e]
    exact (cwrite_bad h i pp n cc cl hb).mono fun e w' ⟨he, hb'⟩ => ⟨he, s, (CAfter.refl h).kept hb', rfl, rfl⟩
  · have h1 : hasB s.ds.secs.length i = true := by cases hh : hasB s.ds.secs.length i; exact absurd (.inl hh) hb; rfl
    have h2 : n = 256 := by rcases Nat.decEq n 256 with e | e; exact absurd (.inr (.inl e)) hb; exact e
    have h3 : cl = 1 ∨ cl = 2 := by by_cases e : cl = 1 ∨ cl = 2; exact e; exact absurd (.inr (.inr e)) hb
    subst h2
    obtain ⟨k, rfl, hk⟩ := hasB_nat h1
    obtain ⟨m, rfl, hm⟩ : ∃ m : Nat, cl = (m : Int) ∧ (m = 1 ∨ m = 2) := by rcases h3 with rfl | rfl; exact ⟨1, rfl, .inl rfl⟩; exact ⟨2, rfl, .inr rfl⟩
    have e : wrC s.room s.P s.ds (k : Int) D (m : Int) = putB s.room s.P s.ds k D m := by
      unfold wrC
      rw [if_neg (by rw [h1]; decide), if_neg (by rw [hn]; exact fun e => by rcases e with e | e; exact e rfl; exact e h3)]
      rfl
    rw [e]
    rcases split_k (L := s.L) k with ⟨p, x, q, hL, hx, hp⟩ | hno
    · subst hx
      have e2 : putB s.room s.P s.ds x.b.k D m = (0, p.map (·.b) ++ q.map (·.b) ++ [⟨x.b.k, D, m, x.b.pins⟩], s.ds) := by
        unfold putB
        rw [CS.P, hL, cut_k rfl hp]
      rw [e2]
      exact cwrite_has h hL pp cc D hd m hm
    · have e2 : putB s.room s.P s.ds k D m = if (roomR s.room s.P s.ds).1 = 0 then (0, (roomR s.room s.P s.ds).2.1 ++ [⟨k, D, m, 0⟩], (roomR s.room s.P s.ds).2.2) else roomR s.room s.P s.ds := by
        unfold putB
        rw [show cutAt (isK k) s.P = none from cut_no hno]
      rw [e2]
      refine (cwrite_new h k hk hno pp cc D hd m hm hwr).mono fun e w' ⟨he, s', hA, hP, hD⟩ => ?_
      by_cases h0 : (roomR s.room s.P s.ds).1 = 0
      · rw [if_pos h0] at hP ⊢
        rw [h0] at he
        exact ⟨he, s', hA, hP, hD⟩
      · rw [if_neg h0] at hP ⊢
        exact ⟨he, s', hA, hP, hD⟩
end Go.Proofs.YtdmnddikcpfmfaaGreat
