/-
  What bytes.Equal answers.
-/
import Derived.Test.YtdmnddikcpfmfaaGreatBase
import Derived.Lib.Bytes
import Derived.Test.YtdmnddikcpfmfaaGreatCkWrite
import Derived.Test.YtdmnddikcpfmfaaGreatDkRep
namespace Go.Proofs.YtdmnddikcpfmfaaGreat
open Go.RowKit
theorem conv_zero {P : Program} (w : World) (src e : TypeId) (hs : P.underlying src = some (.slice e)) (he : P.underlying e = some (.int .u8)) (p : Option Addr) (c : Nat) :
    ∀ dst, P.underlying dst = some .string → (convert src dst (.slice p 0 c)).run P w = .ok (.string (strOfNums [])) w := by
  intro dst hd
  rw [run_convert_bytes_string w src dst e _ 0 c hs he hd]
  cases p <;> simp [Conv.bytesToString, loadCells]
  all_goals rfl
theorem getD_cast (xs : List Nat) (i : Nat) : (xs.map (fun x : Nat => (x : Int))).getD i 0 = el xs i := by
  unfold el
  by_cases h : i < xs.length <;> simp [h]
theorem conv_in {w : World} {p : Option Addr} {n c : Nat} {xs : List Nat} (h : In w p n c xs) :
    (convert 52 9 (.slice p n c)).run Tryz.prog w = .ok (.string (strOfNums (xs.map fun x : Nat => (x : Int)))) w := by
  rcases Nat.eq_zero_or_pos n with hn | hn
  · subst hn
    have : xs = [] := List.eq_nil_of_length_eq_zero h.len
    subst this
    exact conv_zero w 52 5 Tryz.underlying52 Tryz.underlying5 p c 9 Tryz.underlying9
  · obtain ⟨b, o, rfl, _, hc⟩ := h.at' hn
    exact run_convert_bytes_arg (P := Tryz.prog) w 52 5 Tryz.underlying52 Tryz.underlying5 b o n c _ (by simpa using h.len) (fun i hi => by rw [getD_cast]; exact hc i hi) 9 Tryz.underlying9
theorem str_list (l : List Nat) : (strOfNums (l.map fun x : Nat => (x : Int))).toList = l.map fun x : Nat => UInt8.ofNat x := by
  rw [Lib.strOfNums_toList]; simp [Lib.bytesOf, Function.comp_def]
theorem ofNat_inj : ∀ {xs ys : List Nat}, (∀ x ∈ xs, x < 256) → (∀ x ∈ ys, x < 256) → xs.map (fun x : Nat => UInt8.ofNat x) = ys.map (fun x : Nat => UInt8.ofNat x) → xs = ys
  | [], [], _, _, _ => rfl
  | [], y :: ys, _, _, h => by simp at h
  | x :: xs, [], _, _, h => by simp at h
  | x :: xs, y :: ys, hx, hy, h => by
    simp only [List.map_cons, List.cons.injEq] at h
    have hX := hx x (by simp)
    have hY := hy y (by simp)
    have e := congrArg UInt8.toNat h.1
    simp only [UInt8.toNat_ofNat'] at e
    have : x = y := by omega
    rw [this, ofNat_inj (fun z hz => hx z (by simp [hz])) (fun z hz => hy z (by simp [hz])) h.2]
theorem str_eq {xs ys : List Nat} (hx : ∀ x ∈ xs, x < 256) (hy : ∀ x ∈ ys, x < 256) :
    ((strOfNums (xs.map fun x : Nat => (x : Int))).toList == (strOfNums (ys.map fun x : Nat => (x : Int))).toList) = (xs == ys) := by
  rw [str_list, str_list]
  by_cases h : xs = ys
  · subst h; simp
  · have : ¬ (xs.map fun x : Nat => UInt8.ofNat x) = ys.map fun x : Nat => UInt8.ofNat x := fun e => h (ofNat_inj hx hy e)
    rw [beq_eq_false_iff_ne.2 h, beq_eq_false_iff_ne.2 this]
theorem equal_any (p q : Option Addr) (n c m d : Nat) (xs ys : List Nat) (w : World) (hx : In w p n c xs) (hy : In w q m d ys) :
    Calls Tryz.prog 19 #[.slice p n c, .slice q m d] w fun e w' => e = .returned (.bool (xs == ys)) ∧ w' = w := by
  have h1 := conv_in hx
  have h2 := conv_in hy
  go_enter Tryz.func19, Tryz.ntmps19
  go_wp2
  go_ret
  refine ⟨?_, rfl⟩
  exact ret_bool (str_eq hx.byte hy.byte)
end Go.Proofs.YtdmnddikcpfmfaaGreat

namespace Go.Proofs.YtdmnddikcpfmfaaGreat
open Go.RowKit Go.Maps Go.Shelf
theorem cring_any (w : World) : Calls Tryz.prog 25 #[] w fun e w' => e = .returned (.pointer (some ⟨w.heap.size, 0, none⟩)) ∧ Below w.heap.size w w' ∧ Blk w' w.heap.size 97 (bufV (ebuf w.heap.size) w.heap.size w.heap.size) := by
  have hX : Blk (w.alloc (.cells #[.int .i64 0, .slice none 0 0, .int .i64 0, .int .i64 0, .pointer none, .pointer none] 97)) w.heap.size 97 [.int .i64 0, .slice none 0 0, .int .i64 0, .int .i64 0, .pointer none, .pointer none] := Blk.new w 97 _
  have c4 := hX.cell' (i := 4) (v := .pointer none) rfl
  have c5 := hX.cell' (i := 5) (v := .pointer none) rfl
  have f4 := hX.frozen 4
  have f5 := hX.frozen 5
  have hb := below_alloc w (.cells #[.int .i64 0, .slice none 0 0, .int .i64 0, .int .i64 0, .pointer none, .pointer none] 97)
  go_enter Tryz.func25, Tryz.ntmps25
  go_wp2
  go_ret
  exact ⟨rfl, below_alloc w _, Blk.new' w 97 _⟩
/-- A cache without buffers. -/
def newC (d sb : Nat) (lv : Value) (ds : DS) (c e bm room : Nat) : CS := ⟨d, sb, lv, ds, c, e, bm, room, [], fun _ => e, fun _ => e⟩
set_option maxRecDepth 100000 in
theorem cnew_ok {w : World} {d sb : Nat} {lv : Value} {ds : DS} (h : DiskIn w d sb lv ds) (room : Nat) (h1 : 8 ≤ room) (h2 : room ≤ 1024) :
    Calls Tryz.prog 7 #[ramI d, .int .i64 (room : Int)] w fun e w' => Below w.heap.size w w' ∧ ∃ c e' bm, e = .returned (.tuple #[.pointer (some ⟨c, 0, none⟩), .int .i64 0]) ∧ w.heap.size ≤ c ∧ w.heap.size ≤ e' ∧ w.heap.size ≤ bm ∧ CIn w' (newC d sb lv ds c e' bm room) := by
  have hmi := cmissing_no h
  have hmm := @run_makeMap Tryz.prog
  have g1 : ¬ (room : Int) < 8 := by omega
  have g2 : ¬ (1024 : Int) < (room : Int) := by omega
  unfold ramI at hmi ⊢
  go_enter Tryz.func7, Tryz.ntmps7
  go_wp2_with (first
    | (go_at_call 24; refine hmi.mono ?_; rintro e w1 ⟨rfl, hb1⟩)
    | (go_at_call 25; refine (cring_any _).mono ?_; rintro e w3 ⟨rfl, hb3, hE3⟩))
  have hm2 := MapIn.made w1
  have hb2 := below_alloc w1 (.map #[] 0)
  have hs2 : (w1.alloc (.map #[] 0)).heap.size = w1.heap.size + 1 := by simp
  rw [hs2] at hE3 hb3
  have hbm : MapIn w3 w1.heap.size [] := hm2.same (hb3.block _ (by omega))
  have hb13 : Below w1.heap.size w1 w3 := hb2.trans (hb3.mono (by omega))
  have hb4 := below_alloc w3 (.cells #[.iface 24 (.pointer (some ⟨d, 0, none⟩)), .int .i64 (room : Int), .map (some w1.heap.size), .pointer (some ⟨w1.heap.size + 1, 0, none⟩)] 74)
  have hC := Blk.new w3 74 [.iface 24 (.pointer (some ⟨d, 0, none⟩)), .int .i64 (room : Int), .map (some w1.heap.size), .pointer (some ⟨w1.heap.size + 1, 0, none⟩)]
  have hs1 := hb1.size
  have hs3 := hb13.size
  go_ret2
  refine ⟨bt (bt hb1 hb13) hb4, w3.heap.size, w1.heap.size + 1, w1.heap.size, rfl, by omega, by omega, by omega, ⟨hC, ((h.below hb1).below hb13).below hb4, fun x hx => by cases hx⟩, ?_, hbm.same (hb4.block _ hbm.lt), ⟨⟨rfl, rfl⟩, by simp [newC, CS.gs], by simp [newC], h1, h2, by simp [newC], fun x hx => by cases hx⟩⟩
  intro x hx
  have hx' : x = ebuf (w1.heap.size + 1) := by simpa [newC] using hx
  subst hx'
  exact hE3.kept hb4
theorem cnew_no {w : World} {d sb : Nat} {lv : Value} {ds : DS} (h : DiskIn w d sb lv ds) (room : Int) (h1 : ¬ (8 ≤ room ∧ room ≤ 1024)) :
    Calls Tryz.prog 7 #[ramI d, .int .i64 room] w fun e w' => e = .returned (.tuple #[.pointer none, .int .i64 1]) ∧ Below w.heap.size w w' := by
  have hmi := cmissing_no h
  unfold ramI at hmi ⊢
  by_cases g1 : room < 8
  · go_enter Tryz.func7, Tryz.ntmps7
    go_wp2_with (go_at_call 24; refine hmi.mono ?_; rintro e w1 ⟨rfl, hb1⟩)
    go_ret2
    exact ⟨rfl, hb1⟩
  · have g2 : (1024 : Int) < room := by omega
    go_enter Tryz.func7, Tryz.ntmps7
    go_wp2_with (go_at_call 24; refine hmi.mono ?_; rintro e w1 ⟨rfl, hb1⟩)
    go_ret2
    exact ⟨rfl, hb1⟩
theorem cnew_nil (room : Int) (w : World) : Calls Tryz.prog 7 #[.nilIface, .int .i64 room] w fun e w' => e = .returned (.tuple #[.pointer none, .int .i64 2]) ∧ w' = w := by
  go_enter Tryz.func7, Tryz.ntmps7
  go_wp2_with (go_at_call 24; refine (cmissing_nil _).mono ?_; rintro e w' ⟨rfl, hw'⟩; have hw2 := hw'.symm; subst hw2; clear hw')
  go_ret2
  exact ⟨rfl, rfl⟩
def hasK (l : List BP) (n : Nat) (i : Int) : Bool := hasB n i && l.any (isK i.toNat)
theorem hasK_yes {s : CS} {x : BufS} (hx : x ∈ s.L) (hk : x.b.k < s.ds.secs.length) : hasK s.P s.ds.secs.length (x.b.k : Int) = true := by
  rw [hasK, hasB_yes hk, Bool.true_and, List.any_eq_true]
  exact ⟨x.b, List.mem_map.2 ⟨x, hx, rfl⟩, by simp [isK]⟩
theorem hasK_no {s : CS} {k : Nat} (hno : ∀ x ∈ s.L, x.b.k ≠ k) : hasK s.P s.ds.secs.length (k : Int) = false := by
  rw [hasK, Bool.and_eq_false_iff]
  refine .inr (List.any_eq_false.2 (fun y hy => ?_))
  obtain ⟨x, hx, rfl⟩ := List.mem_map.1 hy
  simp [isK, hno x hx]
theorem chas_any {w : World} {s : CS} (h : CIn w s) (i : Int) : Calls Tryz.prog 21 #[.pointer (some ⟨s.c, 0, none⟩), .int .i64 i] w fun e w' => e = .returned (.bool (hasK s.P s.ds.secs.length i)) ∧ Below w.heap.size w w' := by
  have hck := ccheck_any h i
  cases hh : hasB s.ds.secs.length i
  · rw [chkE_no hh] at hck
    rw [show hasK s.P s.ds.secs.length i = false from by rw [hasK, hh]; rfl]
    go_enter Tryz.func21, Tryz.ntmps21
    go_wp2_with (go_at_call 57; refine hck.mono ?_; rintro e w1 ⟨rfl, hb1⟩)
    go_ret
    exact ⟨rfl, hb1⟩
  · rw [chkE_yes hh] at hck
    obtain ⟨k, rfl, hk⟩ := hasB_nat hh
    rcases split_k (L := s.L) k with ⟨p, x, q, hL, hx, hp⟩ | hno
    · subst hx
      have hxL : x ∈ s.L := by rw [hL]; simp
      rw [hasK_yes hxL hk]
      clear hL
      go_enter Tryz.func21, Tryz.ntmps21
      go_wp2_with (go_at_call 57; refine hck.mono ?_; rintro e w1 ⟨rfl, hb1⟩; have h1 := h.kept hb1; have hy1 := h1.mapy hxL; have hc2 := h1.c2)
      go_ret
      exact ⟨rfl, hb1⟩
    · rw [hasK_no hno]
      go_enter Tryz.func21, Tryz.ntmps21
      go_wp2_with (go_at_call 57; refine hck.mono ?_; rintro e w1 ⟨rfl, hb1⟩; have h1 := h.kept hb1; have hy1 := h1.mapn k hk hno; have hc2 := h1.c2)
      go_ret
      exact ⟨rfl, hb1⟩
theorem clen_any {w : World} {s : CS} (h : CIn w s) : Calls Tryz.prog 22 #[.pointer (some ⟨s.c, 0, none⟩)] w fun e w' => e = .returned (.int .i64 (s.P.length : Int)) ∧ w' = w := by
  have hm := cmade_yes h.c0
  have hl := h.map.len 3
  have hc2 := h.c2
  rw [show s.P.length = s.L.length from by simp [CS.P]]
  go_enter Tryz.func22, Tryz.ntmps22
  go_wp2_with (go_at_call 67; refine hm.mono ?_; rintro e w' ⟨rfl, hw'⟩; have hw2 := hw'.symm; subst hw2; clear hw')
  go_ret
  exact ⟨rfl, rfl⟩
theorem filled_any (b : Nat) (hb : b < 256) (w : World) : Calls Tryz.prog 17 #[.int .u8 (b : Int)] w fun e w' => ∃ g, e = .returned (.slice (some ⟨g, 0, none⟩) 256 256) ∧ In w' (some ⟨g, 0, none⟩) 256 256 (cyc [b] 256) ∧ U8 w' (some ⟨g, 0, none⟩) ∧ Below w.heap.size w w' ∧ w.heap.size ≤ g := by
  have hlit : In (w.alloc (.cells #[.int .u8 (b : Int)] 5)) (some ⟨w.heap.size, 0, none⟩) 1 1 [b] := in_lit w (by rfl) rfl (by simpa using hb) (by omega)
  have hrep := repeat_small [b] w.heap.size 0 1 1 256 256 (by omega) (by omega) rfl (by omega) _ hlit
  have hb0 := below_alloc w (.cells #[.int .u8 (b : Int)] 5)
  go_enter Tryz.func17, Tryz.ntmps17
  go_wp2_with (go_at_call 63; refine hrep.mono ?_; rintro e w2 ⟨rfl, hin2, hb2, cs2, hc2⟩)
  go_ret
  have hbb := bt hb0 hb2
  rw [World.size_alloc] at hin2 hc2
  exact ⟨_, rfl, hin2, fun a ha => by cases ha; exact ⟨_, hc2⟩, hbb, by omega⟩
end Go.Proofs.YtdmnddikcpfmfaaGreat
