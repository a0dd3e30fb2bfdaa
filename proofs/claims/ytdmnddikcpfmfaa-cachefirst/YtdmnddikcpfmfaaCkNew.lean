/-
  A new cache; Has, Len; a filled block.
-/
import Derived.Test.YtdmnddikcpfmfaaCkWrite
import Derived.Test.YtdmnddikcpfmfaaDkRep
import Derived.Test.YtdmnddikcpfmfaaEqual
namespace Go.Proofs.Ytdmnddikcpfmfaa
open Go.RowKit Go.Maps Go.Shelf
theorem cring_any (w : World) : Calls Try.prog 29 #[] w fun e w' => e = .returned (.pointer (some ⟨w.heap.size, 0, none⟩)) ∧ Below w.heap.size w w' ∧ Blk w' w.heap.size 74 (bufV (ebuf w.heap.size) w.heap.size w.heap.size) := by
  have hX : Blk (w.alloc (.cells #[.int .i64 0, .slice none 0 0, .int .i64 0, .int .i64 0, .pointer none, .pointer none] 74)) w.heap.size 74 [.int .i64 0, .slice none 0 0, .int .i64 0, .int .i64 0, .pointer none, .pointer none] := Blk.new w 74 _
  have c4 := hX.cell' (i := 4) (v := .pointer none) rfl
  have c5 := hX.cell' (i := 5) (v := .pointer none) rfl
  have f4 := hX.frozen 4
  have f5 := hX.frozen 5
  have hb := below_alloc w (.cells #[.int .i64 0, .slice none 0 0, .int .i64 0, .int .i64 0, .pointer none, .pointer none] 74)
  go_enter Try.func29, Try.ntmps29
  go_wp2
  go_ret
  exact ⟨rfl, below_alloc w _, Blk.new' w 74 _⟩
/-- A cache without buffers. -/
def newC (d sb : Nat) (lv : Value) (ds : DS) (c e bm room : Nat) : CS := ⟨d, sb, lv, ds, c, e, bm, room, [], fun _ => e, fun _ => e⟩
set_option maxRecDepth 100000 in
theorem cnew_ok {w : World} {d sb : Nat} {lv : Value} {ds : DS} (h : DiskIn w d sb lv ds) (room : Nat) (h1 : 8 ≤ room) (h2 : room ≤ 1024) :
    Calls Try.prog 7 #[ramI d, .int .i64 (room : Int)] w fun e w' => Below w.heap.size w w' ∧ ∃ c e' bm, e = .returned (.tuple #[.pointer (some ⟨c, 0, none⟩), .int .i64 0]) ∧ w.heap.size ≤ c ∧ w.heap.size ≤ e' ∧ w.heap.size ≤ bm ∧ CIn w' (newC d sb lv ds c e' bm room) := by
  have hmi := cmissing_no h
  have hmm := @run_makeMap Try.prog
  have g1 : ¬ (room : Int) < 8 := by omega
  have g2 : ¬ (1024 : Int) < (room : Int) := by omega
  unfold ramI at hmi ⊢
  go_enter Try.func7, Try.ntmps7
  go_wp2_with (first
    | (go_at_call 28; refine hmi.mono ?_; rintro e w1 ⟨rfl, hb1⟩)
    | (go_at_call 29; refine (cring_any _).mono ?_; rintro e w3 ⟨rfl, hb3, hE3⟩))
  have hm2 := MapIn.made w1
  have hb2 := below_alloc w1 (.map #[] 0)
  have hs2 : (w1.alloc (.map #[] 0)).heap.size = w1.heap.size + 1 := by simp
  rw [hs2] at hE3 hb3
  have hbm : MapIn w3 w1.heap.size [] := hm2.same (hb3.block _ (by omega))
  have hb13 : Below w1.heap.size w1 w3 := hb2.trans (hb3.mono (by omega))
  have hb4 := below_alloc w3 (.cells #[.iface 23 (.pointer (some ⟨d, 0, none⟩)), .int .i64 (room : Int), .map (some w1.heap.size), .pointer (some ⟨w1.heap.size + 1, 0, none⟩)] 59)
  have hC := Blk.new w3 59 [.iface 23 (.pointer (some ⟨d, 0, none⟩)), .int .i64 (room : Int), .map (some w1.heap.size), .pointer (some ⟨w1.heap.size + 1, 0, none⟩)]
  have hs1 := hb1.size
  have hs3 := hb13.size
  go_ret2
  refine ⟨bt (bt hb1 hb13) hb4, w3.heap.size, w1.heap.size + 1, w1.heap.size, rfl, by omega, by omega, by omega, ⟨hC, ((h.below hb1).below hb13).below hb4, fun x hx => by cases hx⟩, ?_, hbm.same (hb4.block _ hbm.lt), ⟨⟨rfl, rfl⟩, by simp [newC, CS.gs], by simp [newC], h1, h2, by simp [newC], fun x hx => by cases hx⟩⟩
  intro x hx
  have hx' : x = ebuf (w1.heap.size + 1) := by simpa [newC] using hx
  subst hx'
  exact hE3.kept hb4
theorem cnew_no {w : World} {d sb : Nat} {lv : Value} {ds : DS} (h : DiskIn w d sb lv ds) (room : Int) (h1 : ¬ (8 ≤ room ∧ room ≤ 1024)) :
    Calls Try.prog 7 #[ramI d, .int .i64 room] w fun e w' => e = .returned (.tuple #[.pointer none, .int .i64 1]) ∧ Below w.heap.size w w' := by
  have hmi := cmissing_no h
  unfold ramI at hmi ⊢
  by_cases g1 : room < 8
  · go_enter Try.func7, Try.ntmps7
    go_wp2_with (go_at_call 28; refine hmi.mono ?_; rintro e w1 ⟨rfl, hb1⟩)
    go_ret2
    exact ⟨rfl, hb1⟩
  · have g2 : (1024 : Int) < room := by omega
    go_enter Try.func7, Try.ntmps7
    go_wp2_with (go_at_call 28; refine hmi.mono ?_; rintro e w1 ⟨rfl, hb1⟩)
    go_ret2
    exact ⟨rfl, hb1⟩
theorem cnew_nil (room : Int) (w : World) : Calls Try.prog 7 #[.nilIface, .int .i64 room] w fun e w' => e = .returned (.tuple #[.pointer none, .int .i64 2]) ∧ w' = w := by
  go_enter Try.func7, Try.ntmps7
  go_wp2_with (go_at_call 28; refine (cmissing_nil _).mono ?_; rintro e w' ⟨rfl, hw'⟩; have hw2 := hw'.symm; subst hw2; clear hw')
  go_ret2
  exact ⟨rfl, rfl⟩
def hasK (l : List BP) (n : Nat) (i : Int) : Bool := hasB n i && l.any (isK i.toNat)
theorem hasK_yes {s : CS} {x : BufS} (hx : x ∈ s.L) (hk : x.b.k < s.ds.secs.length) : hasK s.P s.ds.secs.length (x.b.k : Int) = true := by
  rw [hasK, hasB_yes hk, Bool.true_and, List.any_eq_true]
  exact ⟨x.b, List.mem_map.2 ⟨x, hx, rfl⟩, by simp [isK]⟩
theorem hasK_no {s : CS} {k : Nat} (hno : ∀ x ∈ s.L, x.b.k ≠ k) : hasK s.P s.ds.secs.length (k : Int) = false := by
  rw [hasK, Bool.and_eq_false_iff]
  refine .inr (List.any_eq_false.2 (fun y hy => ?_))
  obtain ⟨x, hx, rfl⟩ := List.mem_map.1 hy
  simp [isK, hno x hx]
theorem chas_any {w : World} {s : CS} (h : CIn w s) (i : Int) : Calls Try.prog 26 #[.pointer (some ⟨s.c, 0, none⟩), .int .i64 i] w fun e w' => e = .returned (.bool (hasK s.P s.ds.secs.length i)) ∧ Below w.heap.size w w' := by
  have hck := ccheck_any h i
  cases hh : hasB s.ds.secs.length i
  · rw [chkE_no hh] at hck
    rw [show hasK s.P s.ds.secs.length i = false from by rw [hasK, hh]; rfl]
    go_enter Try.func26, Try.ntmps26
    go_wp2_with (go_at_call 33; refine hck.mono ?_; rintro e w1 ⟨rfl, hb1⟩)
    go_ret
    exact ⟨rfl, hb1⟩
  · rw [chkE_yes hh] at hck
    obtain ⟨k, rfl, hk⟩ := hasB_nat hh
    rcases split_k (L := s.L) k with ⟨p, x, q, hL, hx, hp⟩ | hno
    · subst hx
      have hxL : x ∈ s.L := by rw [hL]; simp
      rw [hasK_yes hxL hk]
      clear hL
      go_enter Try.func26, Try.ntmps26
      go_wp2_with (go_at_call 33; refine hck.mono ?_; rintro e w1 ⟨rfl, hb1⟩; have h1 := h.kept hb1; have hy1 := h1.mapy hxL; have hc2 := h1.c2)
      go_ret
      exact ⟨rfl, hb1⟩
    · rw [hasK_no hno]
      go_enter Try.func26, Try.ntmps26
      go_wp2_with (go_at_call 33; refine hck.mono ?_; rintro e w1 ⟨rfl, hb1⟩; have h1 := h.kept hb1; have hy1 := h1.mapn k hk hno; have hc2 := h1.c2)
      go_ret
      exact ⟨rfl, hb1⟩
theorem clen_any {w : World} {s : CS} (h : CIn w s) : Calls Try.prog 17 #[.pointer (some ⟨s.c, 0, none⟩)] w fun e w' => e = .returned (.int .i64 (s.P.length : Int)) ∧ w' = w := by
  have hm := cmade_yes h.c0
  have hl := h.map.len 3
  have hc2 := h.c2
  rw [show s.P.length = s.L.length from by simp [CS.P]]
  go_enter Try.func17, Try.ntmps17
  go_wp2_with (go_at_call 39; refine hm.mono ?_; rintro e w' ⟨rfl, hw'⟩; have hw2 := hw'.symm; subst hw2; clear hw')
  go_ret
  exact ⟨rfl, rfl⟩
theorem filled_any (b : Nat) (hb : b < 256) (w : World) : Calls Try.prog 12 #[.int .u8 (b : Int)] w fun e w' => ∃ g, e = .returned (.slice (some ⟨g, 0, none⟩) 256 256) ∧ In w' (some ⟨g, 0, none⟩) 256 256 (cyc [b] 256) ∧ U8 w' (some ⟨g, 0, none⟩) ∧ Below w.heap.size w w' ∧ w.heap.size ≤ g := by
  have hlit : In (w.alloc (.cells #[.int .u8 (b : Int)] 5)) (some ⟨w.heap.size, 0, none⟩) 1 1 [b] := in_lit w (by rfl) rfl (by simpa using hb) (by omega)
  have hrep := repeat_small [b] w.heap.size 0 1 1 256 256 (by omega) (by omega) rfl (by omega) _ hlit
  have hb0 := below_alloc w (.cells #[.int .u8 (b : Int)] 5)
  go_enter Try.func12, Try.ntmps12
  go_wp2_with (go_at_call 38; refine hrep.mono ?_; rintro e w2 ⟨rfl, hin2, hb2, cs2, hc2⟩)
  go_ret
  have hbb := bt hb0 hb2
  rw [World.size_alloc] at hin2 hc2
  exact ⟨_, rfl, hin2, fun a ha => by cases ha; exact ⟨_, hc2⟩, hbb, by omega⟩
end Go.Proofs.Ytdmnddikcpfmfaa
