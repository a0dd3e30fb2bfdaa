/-
  What slices.Clone and bytes.Clone of bytes answer; what Read answers.
-/
import Derived.Test.YtdmnddikcpfmfaaGreatDkTells
import Derived.Lib.LazyBuf
namespace Go.Proofs.YtdmnddikcpfmfaaGreat
open Go.RowKit
/-- A clone of bytes lies in a block of its own. -/
theorem cloneB_new (p : Option Addr) (n c : Nat) (xs : List Nat) (w : World) (hx : In w p n c xs) :
    Calls Tryz.prog 66 #[.slice p n c] w fun e w' => ∃ p' c', e = .returned (.slice p' n c') ∧ In w' p' n c' xs ∧ Below w.heap.size w w' ∧ ∀ a, 0 < n → p' = some a → w.heap.size ≤ a.block := by
  have hroom := hx.room
  have HX : Hid (xs.length = n) := hx.len
  obtain ⟨i0, hi, hz0, hz1, hz2⟩ := info_parts info5
  have hq := fun (w : World) => Lib.run_eql_slice_nil (P := Tryz.prog) w 52 5 p n c 0 0 Tryz.underlying52
  cases p with
  | none =>
    have h1 := hx.nil rfl
    have h2 := hx.cap
    have h3 : n = 0 := by omega
    subst h1
    subst h3
    go_enter Tryz.func66, Tryz.ntmps66
    go_wp2
    go_ret
    exact ⟨_, _, rfl, hx, Below.refl _ _, fun a h0 => by omega⟩
  | some a =>
    have ho := World.ownsRow_lit (e := 5) (size := 1) (base := w.heap.size) w #[] 0 (Nat.le_refl _) (by unfold maxLen; omega) (by simp)
    have HO : Hid ((w.alloc (.cells #[] 5)).ownsRow w.heap.size 5 1 (.slice (some ⟨w.heap.size, 0, none⟩) 0 0) 0 []) := ho
    clear ho
    go_enter Tryz.func66, Tryz.ntmps66
    go_wp2_with (at_builtin; refine wpList_append_own _ rfl (.tmp 5) (.tmp 6) 52 rfl w.heap.size 5 i0 (.int .u8 0) 1 1 Tryz.underlying52 hi hz0 hz1 hz2 rfl (by decide) (.slice (some ⟨w.heap.size, 0, none⟩) 0 0) 0 [] rfl HO.out a n c (vals xs) rfl (by rw [vals_length, HX.out, Nat.mul_one]) ((hx.below (below_alloc _ _)).cells rfl) (vals_one xs) (by unfold maxLen; omega) (by omega) (by simp) ?_; intro v1 w1 hown1 hgrow1 _)
    go_ret
    rw [List.nil_append, Nat.zero_add] at hown1
    have hlt := hown1.lt
    obtain ⟨p', c', hv, hin⟩ := in_of_owns hown1 hx.byte hroom
    refine ⟨p', c', congrArg Ending.returned hv, hin, (below_alloc w _).grown hgrow1 (by simp) (fun k hk => by simp [Value.ownBlock] at hk; omega), fun a' h0 ha => ?_⟩
    subst ha
    exact (hlt a'.block (by rw [hv]; rfl)).1
/-- A clone of bytes lies in a block of its own. -/
theorem clone_new (p : Option Addr) (n c : Nat) (xs : List Nat) (w : World) (hx : In w p n c xs) :
    Calls Tryz.prog 61 #[.slice p n c] w fun e w' => ∃ p' c', e = .returned (.slice p' n c') ∧ In w' p' n c' xs ∧ Below w.heap.size w w' ∧ ∀ a, 0 < n → p' = some a → w.heap.size ≤ a.block := by
  have hroom := hx.room
  have HX : Hid (xs.length = n) := hx.len
  obtain ⟨i0, hi, hz0, hz1, hz2⟩ := info_parts info5
  have hq := fun (w : World) => Lib.run_eql_slice_nil (P := Tryz.prog) w 52 5 p n c 0 0 Tryz.underlying52
  cases p with
  | none =>
    have h1 := hx.nil rfl
    have h2 := hx.cap
    have h3 : n = 0 := by omega
    subst h1
    subst h3
    go_enter Tryz.func61, Tryz.ntmps61
    go_wp2
    go_ret
    exact ⟨_, _, rfl, hx, Below.refl _ _, fun a h0 => by omega⟩
  | some a =>
    have ho := World.ownsRow_lit (e := 5) (size := 1) (base := w.heap.size) w #[] 0 (Nat.le_refl _) (by unfold maxLen; omega) (by simp)
    have HO : Hid ((w.alloc (.cells #[] 5)).ownsRow w.heap.size 5 1 (.slice (some ⟨w.heap.size, 0, none⟩) 0 0) 0 []) := ho
    clear ho
    go_enter Tryz.func61, Tryz.ntmps61
    go_wp2_with (at_builtin; refine wpList_append_own _ rfl (.tmp 5) (.tmp 6) 52 rfl w.heap.size 5 i0 (.int .u8 0) 1 1 Tryz.underlying52 hi hz0 hz1 hz2 rfl (by decide) (.slice (some ⟨w.heap.size, 0, none⟩) 0 0) 0 [] rfl HO.out a n c (vals xs) rfl (by rw [vals_length, HX.out, Nat.mul_one]) ((hx.below (below_alloc _ _)).cells rfl) (vals_one xs) (by unfold maxLen; omega) (by omega) (by simp) ?_; intro v1 w1 hown1 hgrow1 _)
    go_ret
    rw [List.nil_append, Nat.zero_add] at hown1
    have hlt := hown1.lt
    obtain ⟨p', c', hv, hin⟩ := in_of_owns hown1 hx.byte hroom
    refine ⟨p', c', congrArg Ending.returned hv, hin, (below_alloc w _).grown hgrow1 (by simp) (fun k hk => by simp [Value.ownBlock] at hk; omega), fun a' h0 ha => ?_⟩
    subst ha
    exact (hlt a'.block (by rw [hv]; rfl)).1

/-- The array of a sector, or of a write, as a slice. -/
theorem slice_arr (b o : Nat) (W : World) : (Instr.sliceAt 100 (.pointer (some ⟨b, o, none⟩)) none none none).run Tryz.prog W = .ok (.slice (some ⟨b, o, none⟩) 256 256) W := by
  simp [Instr.sliceAt, Instr.sliceBounds, run_underlying Tryz.underlying100, Instr.sureAddr, addr_add]
/-- What Read answers: an error, or the bytes. -/
def readE (s : DS) (i : Int) : Int := if s.on = false then 8 else if hasB s.secs.length i = false then 1 else if (s.secs.getD i.toNat ([], false)).2 = true then 80 else 0
def readD (s : DS) (i : Int) : List Nat := if readE s i = 0 then (s.secs.getD i.toNat ([], false)).1 else []
theorem readE_off {s : DS} {i : Int} (h : s.on = false) : readE s i = 8 := by simp [readE, h]
theorem readE_no {s : DS} {i : Int} (h : s.on = true) (h2 : hasB s.secs.length i = false) : readE s i = 1 := by simp [readE, h, h2]
theorem readE_at {s : DS} {k : Nat} {x : List Nat × Bool} (h : s.on = true) (hx : s.secs[k]? = some x) : readE s (k : Int) = if x.2 = true then 80 else 0 := by
  have hk : k < s.secs.length := (List.getElem?_eq_some_iff.1 hx).1
  simp [readE, h, hasB_yes hk, List.getD_eq_getElem?_getD, hx]
theorem readD_at {s : DS} {k : Nat} {x : List Nat × Bool} (h : s.on = true) (hx : s.secs[k]? = some x) (h2 : x.2 = false) : readD s (k : Int) = x.1 := by
  rw [readD, if_pos (by rw [readE_at h hx, h2]; rfl)]
  simp [List.getD_eq_getElem?_getD, hx]
theorem powE_on {s : DS} (h : s.on = true) : powE s.on = 0 := by simp [powE, h]
theorem powE_off {s : DS} (h : s.on = false) : powE s.on = 8 := by simp [powE, h]
set_option maxRecDepth 100000 in
set_option maxHeartbeats 1000000 in
theorem read_any {w : World} {d sb : Nat} {lv : Value} {s : DS} (h : DiskIn w d sb lv s) (i : Int) : Calls Tryz.prog 18 #[.pointer (some ⟨d, 0, none⟩), .int .i64 i] w fun e w' =>
    ∃ p c, e = .returned (.tuple #[.slice p (readD s i).length c, .int .i64 (readE s i)]) ∧ In w' p (readD s i).length c (readD s i) ∧ Below w.heap.size w w' ∧ ∀ a, 0 < (readD s i).length → p = some a → w.heap.size ≤ a.block := by
  have hp := power_any h
  have hh := has_any h i
  have h0 := h.c0
  have hn2 := h.n2
  cases ho : s.on
  · rw [powE_off ho] at hp
    have e1 : readE s i = 8 := readE_off ho
    have e2 : readD s i = [] := by simp [readD, e1]
    rw [e1, e2]
    go_enter Tryz.func18, Tryz.ntmps18
    go_wp2_with (go_at_call 64; refine hp.mono ?_; rintro e w' ⟨rfl, hw'⟩; have hw2 := hw'.symm; subst hw2; clear hw')
    go_ret2
    exact ⟨none, 0, rfl, In.empty _, Below.refl _ _, fun a h0 => by simp at h0⟩
  · rw [powE_on ho] at hp
    cases hb : hasB s.secs.length i
    · have e1 : readE s i = 1 := readE_no ho hb
      have e2 : readD s i = [] := by simp [readD, e1]
      rw [e1, e2]
      rw [hb] at hh
      go_enter Tryz.func18, Tryz.ntmps18
      go_wp2_with (first
        | (go_at_call 64; refine hp.mono ?_; rintro e w' ⟨rfl, hw'⟩; have hw2 := hw'.symm; subst hw2; clear hw')
        | (go_at_call 65; refine hh.mono ?_; rintro e w' ⟨rfl, hw'⟩; have hw2 := hw'.symm; subst hw2; clear hw'))
      go_ret2
      exact ⟨none, 0, rfl, In.empty _, Below.refl _ _, fun a h0 => by simp at h0⟩
    · rw [hb] at hh
      obtain ⟨k, rfl, hk⟩ := hasB_nat hb
      obtain ⟨x, hx⟩ : ∃ x, s.secs[k]? = some x := ⟨_, List.getElem?_eq_getElem hk⟩
      have hu := h.hurt hx
      have hd := h.data hx
      have e1 := readE_at ho hx
      cases hv : x.2
      · rw [hv] at hu e1
        have e2 := readD_at ho hx hv
        have hl := (h.okS x (List.mem_of_getElem? hx)).1
        rw [e1, e2, hl, if_neg (by decide)]
        have hsl := slice_arr sb (k * 257)
        clear e1 e2 hb
        go_enter Tryz.func18, Tryz.ntmps18
        go_wp2_with (first
          | (go_at_call 64; refine hp.mono ?_; rintro e w' ⟨rfl, hw'⟩; have hw2 := hw'.symm; subst hw2; clear hw')
          | (go_at_call 65; refine hh.mono ?_; rintro e w' ⟨rfl, hw'⟩; have hw2 := hw'.symm; subst hw2; clear hw')
          | (go_at_call 66; refine (cloneB_new _ _ _ _ _ hd).mono ?_; rintro e w' ⟨p', c', rfl, hin, hbel, hfr⟩))
        go_ret2
        exact ⟨_, _, rfl, hin, hbel, hfr⟩
      · rw [hv] at hu e1
        rw [if_pos rfl] at e1
        have e2 : readD s (k : Int) = [] := by simp [readD, e1]
        rw [e1, e2]
        clear e1 e2 hb
        go_enter Tryz.func18, Tryz.ntmps18
        go_wp2_with (first
          | (go_at_call 64; refine hp.mono ?_; rintro e w' ⟨rfl, hw'⟩; have hw2 := hw'.symm; subst hw2; clear hw')
          | (go_at_call 65; refine hh.mono ?_; rintro e w' ⟨rfl, hw'⟩; have hw2 := hw'.symm; subst hw2; clear hw'))
        go_ret2
        exact ⟨none, 0, rfl, In.empty _, Below.refl _ _, fun a h0 => by simp at h0⟩
end Go.Proofs.YtdmnddikcpfmfaaGreat
