/-
  What Clean does.
-/
import Derived.Test.YtdmnddikcpfmfaaGreatCkBegun
import Derived.Test.YtdmnddikcpfmfaaGreatCkTold
namespace Go.Proofs.YtdmnddikcpfmfaaGreat
open Go.RowKit Go.Maps Go.Shelf
def dirtyN (l : List BP) : Nat := l.countP (fun b => decide (b.cl ≠ 0))
/-- One block goes home. -/
def clean1 (l : List BP) (ds : DS) (i : Int) : Int × List BP × DS :=
  if hasB ds.secs.length i = false then (1, l, ds) else
  match cutAt (isK i.toNat) l with
  | none => (0, l, ds)
  | some (p, x, q) => if x.cl = 0 then (0, l, ds) else if 0 < x.pins then (101, l, ds) else
    (writeE ds (x.k : Int) x.D.length, if writeE ds (x.k : Int) x.D.length = 0 then p ++ ⟨x.k, x.D, 0, x.pins⟩ :: q else l, writeS ds (x.k : Int) x.D)
def cleanL (l : List BP) (ds : DS) : List Int → Int × List BP × DS
  | [] => (0, l, ds)
  | i :: r => if (clean1 l ds i).1 = 0 then cleanL (clean1 l ds i).2.1 (clean1 l ds i).2.2 r else clean1 l ds i
theorem writeS_writes (ds : DS) (i : Int) (xs : List Nat) : (writeS ds i xs).writes = if writeE ds i xs.length = 0 then ds.writes + 1 else ds.writes := by
  unfold writeS writeE putS
  by_cases h1 : ds.on = false
  · simp [h1]
  · by_cases h2 : hasB ds.secs.length i = false ∨ xs.length ≠ 256
    · simp [h1, h2]
    · by_cases h3 : ds.left = 0
      · simp [h1, h2, h3]
      · simp [h1, h2, h3]
theorem clean1_sum (l : List BP) (ds : DS) (i : Int) : (clean1 l ds i).2.2.writes + dirtyN (clean1 l ds i).2.1 ≤ ds.writes + dirtyN l := by
  unfold clean1
  split
  · exact Nat.le_refl _
  · split
    · exact Nat.le_refl _
    · next p x q hc =>
      obtain ⟨hl, _, _⟩ := cutAt_spec hc
      split
      · exact Nat.le_refl _
      · next h0 =>
        split
        · exact Nat.le_refl _
        · dsimp only
          rw [writeS_writes]
          by_cases hE : writeE ds (x.k : Int) x.D.length = 0
          · rw [if_pos hE, if_pos hE, hl]
            simp [dirtyN, h0]
            omega
          · rw [if_neg hE, if_neg hE]
            exact Nat.le_refl _
theorem clean1_secs (l : List BP) (ds : DS) (i : Int) : (clean1 l ds i).2.2.secs.length = ds.secs.length := by
  unfold clean1
  split
  · rfl
  · split
    · rfl
    · split
      · rfl
      · split
        · rfl
        · exact writeS_len _ _ _
set_option maxRecDepth 100000 in
theorem cleanOne_any {w : World} {s : CS} (h : CIn w s) (i : Int) (hsum : s.ds.writes + dirtyN s.P ≤ 1024) : Calls Tryz.prog 77 #[.pointer (some ⟨s.c, 0, none⟩), .int .i64 i] w fun e w' =>
    e = .returned (.int .i64 (clean1 s.P s.ds i).1) ∧ ∃ s', CAfter w w' s s' ∧ s'.P = (clean1 s.P s.ds i).2.1 ∧ s'.ds = (clean1 s.P s.ds i).2.2 := by
  have hck := cisBlock_any h i
  cases hh : hasB s.ds.secs.length i
  · rw [hh] at hck
    rw [show clean1 s.P s.ds i = (1, s.P, s.ds) from if_pos hh]
    go_enter Tryz.func77, Tryz.ntmps77
    go_wp2_with (go_at_call 84; refine hck.mono ?_; rintro e w1 ⟨rfl, hb1⟩)
    go_ret
    exact ⟨rfl, s, (CAfter.refl h).kept hb1, rfl, rfl⟩
  · rw [hh] at hck
    obtain ⟨k, rfl, hk⟩ := hasB_nat hh
    rcases split_k (L := s.L) k with ⟨p, x, q, hL, hx, hp⟩ | hno
    · subst hx
      have hxL : x ∈ s.L := by rw [hL]; simp
      have e1 : cutAt (isK x.b.k) s.P = some (p.map (·.b), x.b, q.map (·.b)) := by rw [CS.P, hL]; exact cut_k rfl hp
      have e2 : clean1 s.P s.ds (x.b.k : Int) = if x.b.cl = 0 then (0, s.P, s.ds) else if 0 < x.b.pins then (101, s.P, s.ds) else (writeE s.ds (x.b.k : Int) x.b.D.length, if writeE s.ds (x.b.k : Int) x.b.D.length = 0 then p.map (·.b) ++ ⟨x.b.k, x.b.D, 0, x.b.pins⟩ :: q.map (·.b) else s.P, writeS s.ds (x.b.k : Int) x.b.D) := by
        unfold clean1
        rw [if_neg (by rw [hh]; decide), show ((x.b.k : Int)).toNat = x.b.k from rfl, e1]
      rw [e2]
      clear e1 e2
      have HL : Hid (s.L = p ++ x :: q) := hL
      clear hL
      by_cases h0 : x.b.cl = 0
      · rw [if_pos h0]
        go_enter Tryz.func77, Tryz.ntmps77
        go_wp2_with (go_at_call 84; refine hck.mono ?_; rintro e w1 ⟨rfl, hb1⟩; have h1 := h.kept hb1; have hy1 := h1.mapy hxL; have hc2 := h1.c2; have d2 := (h1.mem x (List.mem_cons_of_mem _ hxL)).cell' (i := 2) (v := .int .i64 (x.b.cl : Int)) rfl; rw [h0] at d2)
        go_ret
        exact ⟨rfl, s, (CAfter.refl h).kept hb1, rfl, rfl⟩
      · rw [if_neg h0]
        have h0' : ¬ (x.b.cl : Int) = 0 := by omega
        by_cases hp0 : 0 < x.b.pins
        · rw [if_pos hp0]
          have hp1 : (0 : Int) < (x.b.pins : Int) := by omega
          go_enter Tryz.func77, Tryz.ntmps77
          go_wp2_with (go_at_call 84; refine hck.mono ?_; rintro e w1 ⟨rfl, hb1⟩; have h1 := h.kept hb1; have hy1 := h1.mapy hxL; have hc2 := h1.c2; have d2 := (h1.mem x (List.mem_cons_of_mem _ hxL)).cell' (i := 2) (v := .int .i64 (x.b.cl : Int)) rfl; have d3 := (h1.mem x (List.mem_cons_of_mem _ hxL)).cell' (i := 3) (v := .int .i64 (x.b.pins : Int)) rfl)
          go_ret
          exact ⟨rfl, s, (CAfter.refl h).kept hb1, rfl, rfl⟩
        · rw [if_neg hp0]
          have HP1 : Hid (x.b.pins = 0) := by show _ = _; omega
          have hwr : s.ds.writes < 1024 := by
            have : 1 ≤ dirtyN s.P := by
              refine List.countP_pos_iff.2 ⟨x.b, List.mem_map.2 ⟨x, hxL, rfl⟩, by simpa using h0⟩
            omega
          have hho := fun (W : World) (hW : CIn W s) => home_any hW HL.out hwr
          by_cases hE : writeE s.ds (x.b.k : Int) x.b.D.length = 0
          · simp only [hE, if_true] at hho ⊢
            clear hE
            go_enter Tryz.func77, Tryz.ntmps77
            go_wp2_with (first
              | (go_at_call 84; refine hck.mono ?_; rintro e w1 ⟨rfl, hb1⟩; have h1 := h.kept hb1; have hy1 := h1.mapy hxL; have hc2 := h1.c2; have d2 := (h1.mem x (List.mem_cons_of_mem _ hxL)).cell' (i := 2) (v := .int .i64 (x.b.cl : Int)) rfl; have d3 := (h1.mem x (List.mem_cons_of_mem _ hxL)).cell' (i := 3) (v := .int .i64 (x.b.pins : Int)) rfl; rw [HP1.out] at d3)
              | (go_at_call 95; refine (hho _ h1).mono ?_; rintro e w2 ⟨rfl, lv2, A2⟩))
            go_ret
            exact ⟨rfl, _, CAfter.drop hb1 A2, by simp [CS.P, cleanB], rfl⟩
          · simp only [hE, if_false] at hho ⊢
            clear hE
            go_enter Tryz.func77, Tryz.ntmps77
            go_wp2_with (first
              | (go_at_call 84; refine hck.mono ?_; rintro e w1 ⟨rfl, hb1⟩; have h1 := h.kept hb1; have hy1 := h1.mapy hxL; have hc2 := h1.c2; have d2 := (h1.mem x (List.mem_cons_of_mem _ hxL)).cell' (i := 2) (v := .int .i64 (x.b.cl : Int)) rfl; have d3 := (h1.mem x (List.mem_cons_of_mem _ hxL)).cell' (i := 3) (v := .int .i64 (x.b.pins : Int)) rfl; rw [HP1.out] at d3)
              | (go_at_call 95; refine (hho _ h1).mono ?_; rintro e w2 ⟨rfl, lv2, A2⟩))
            go_ret
            exact ⟨rfl, _, CAfter.drop hb1 A2, rfl, rfl⟩
    · have e2 : clean1 s.P s.ds (k : Int) = (0, s.P, s.ds) := by
        unfold clean1
        rw [if_neg (by rw [hh]; decide), show ((k : Int)).toNat = k from rfl, show cutAt (isK k) s.P = none from cut_no hno]
      rw [e2]
      clear e2
      go_enter Tryz.func77, Tryz.ntmps77
      go_wp2_with (go_at_call 84; refine hck.mono ?_; rintro e w1 ⟨rfl, hb1⟩; have h1 := h.kept hb1; have hy1 := h1.mapn k hk hno; have hc2 := h1.c2)
      go_ret
      exact ⟨rfl, s, (CAfter.refl h).kept hb1, rfl, rfl⟩
theorem InI.same {w w' : World} {p : Option Addr} {n c : Nat} {xs : List Int} (h : InI w p n c xs) (hs : ∀ a, p = some a → 0 < n → w'.heap[a.block]? = w.heap[a.block]?) : InI w' p n c xs :=
  ⟨h.len, h.cap, h.max, h.room, fun h0 => by
    obtain ⟨b, o, hp, hlt, hc⟩ := h.at' h0
    have e := hs _ hp h0
    refine ⟨b, o, hp, ?_, fun i hi => ?_⟩
    · rcases Nat.lt_or_ge b w'.heap.size with h' | h'
      · exact h'
      · rw [Array.getElem?_eq_none h', Array.getElem?_eq_getElem hlt] at e; cases e
    · have := hc i hi
      simp only [World.cell?] at this ⊢
      rw [e]
      exact this, h.nil⟩
/-- A slice of ints that lies in none of a cache's blocks. -/
structure IntsBy (w : World) (s : CS) (p : Option Addr) (n c : Nat) (xs : List Int) : Prop where
  ii : InI w p n c xs
  out : ∀ a, p = some a → 0 < n → ¬ fpC s a.block
theorem IntsBy.next {w w' : World} {s s' : CS} {p : Option Addr} {n c : Nat} {xs : List Int} (h : IntsBy w s p n c xs) (hA : CAfter w w' s s') : IntsBy w' s' p n c xs := by
  have hlt : ∀ a, p = some a → 0 < n → a.block < w.heap.size := fun a ha h0 => by
    obtain ⟨b, o, hp, hl, _⟩ := h.ii.at' h0
    rw [hp] at ha; cases ha; exact hl
  refine ⟨h.ii.same (fun a ha h0 => hA.keep.block _ (hlt a ha h0) (h.out a ha h0)), fun a ha h0 hf => ?_⟩
  rcases hA.fr _ hf with e | e
  · exact h.out a ha h0 e
  · have := hlt a ha h0; omega
theorem IntsBy.kept {w w' : World} {s : CS} {p : Option Addr} {n c : Nat} {xs : List Int} (h : IntsBy w s p n c xs) (hb : Below w.heap.size w w') : IntsBy w' s p n c xs := ⟨h.ii.below hb, h.out⟩
theorem drop_eI (xs : List Int) (k : Nat) (h : k < xs.length) : xs.drop k = eI xs k :: xs.drop (k + 1) := by
  rw [List.drop_eq_getElem_cons h]
  simp [eI, h]
set_option maxRecDepth 100000 in
theorem cClean_any {w : World} {s : CS} (h : CIn w s) (p : Option Addr) (n c : Nat) (xs : List Int) (hI : IntsBy w s p n c xs) (hsum : s.ds.writes + dirtyN s.P ≤ 1024) : Calls Tryz.prog 33 #[.pointer (some ⟨s.c, 0, none⟩), .slice p n c] w fun e w' =>
    e = .returned (.int .i64 (cleanL s.P s.ds xs).1) ∧ ∃ s', CAfter w w' s s' ∧ s'.P = (cleanL s.P s.ds xs).2.1 ∧ s'.ds = (cleanL s.P s.ds xs).2.2 := by
  have hm := cmade_yes h.c0
  have hlen := hI.ii.len
  have hroom := hI.ii.room
  obtain ⟨R, HR⟩ : ∃ R, Hid (R = cleanL s.P s.ds xs) := ⟨_, rfl⟩
  rw [← HR.out]
  go_enter Tryz.func33, Tryz.ntmps33
  go_wp2_with (go_at_call 67; refine hm.mono ?_; rintro e w' ⟨rfl, hw'⟩; have hw2 := hw'.symm; subst hw2; clear hw')
  go_loopg [13] n (fun j v wr => ∃ (k : Nat) (s' : CS), v = .int .i64 (k : Int) ∧ k ≤ n ∧ j = n - k ∧ CAfter w wr s s' ∧ Hid (R = cleanL s'.P s'.ds (xs.drop k)) ∧ s'.ds.writes + dirtyN s'.P ≤ 1024)
  case atStart => exact ⟨0, s, rfl, by omega, rfl, CAfter.refl h, HR, hsum⟩
  case round =>
    obtain ⟨k, s1, rfl, hk, rfl, A1, HR1, hs1⟩ := hrel
    clear HR hsum
    have hI1 := hI.next A1
    by_cases hkn : k < n
    · obtain ⟨b, o, rfl, hlt, hcell⟩ := hI1.ii.at' (by omega)
      have hck := hcell k hkn
      have hone := cleanOne_any A1.cin (eI xs k) hs1
      rw [A1.c] at hone
      have hd : xs.drop k = eI xs k :: xs.drop (k + 1) := drop_eI xs k (by omega)
      have hR2 := HR1.out
      rw [hd, cleanL] at hR2
      have hsm := clean1_sum s1.P s1.ds (eI xs k)
      generalize clean1 s1.P s1.ds (eI xs k) = R1 at *
      obtain ⟨E1, l1, d1⟩ := R1
      dsimp only at hone hR2 hsm
      clear HR1 hd
      generalize eI xs k = ik at *
      clear hcell hlen
      by_cases hE : E1 = 0
      · subst hE
        rw [if_pos rfl] at hR2
        have HR2 : Hid (R = cleanL l1 d1 (xs.drop (k + 1))) := hR2
        clear hR2
        go_wp2_with (go_at_call 77; refine hone.mono ?_; rintro e w2 ⟨rfl, s2, A2, hP2, hD2⟩; have HP2 : Hid (s2.P = l1) := hP2; have HD2 : Hid (s2.ds = d1) := hD2; clear hP2 hD2)
        go_roundg (n - (k + 1))
        case measure => omega
        case rel => exact ⟨k + 1, s2, by go_num, by omega, rfl, A1.trans A2, by rw [HP2.out, HD2.out]; exact HR2, by rw [HP2.out, HD2.out]; omega⟩
      · rw [if_neg hE] at hR2
        have HR2 : Hid (R = (E1, l1, d1)) := hR2
        clear hR2
        go_wp2_with (go_at_call 77; refine hone.mono ?_; rintro e w2 ⟨rfl, s2, A2, hP2, hD2⟩; have HP2 : Hid (s2.P = l1) := hP2; have HD2 : Hid (s2.ds = d1) := hD2; clear hP2 hD2)
        go_ret
        exact ⟨by rw [HR2.out]; rfl, s2, A1.trans A2, by rw [HP2.out, HR2.out], by rw [HD2.out, HR2.out]⟩
    · have hkn2 : k = n := by omega
      subst hkn2
      have hR2 := HR1.out
      rw [List.drop_of_length_le (by omega), cleanL] at hR2
      have HR2 : Hid (R = (0, s1.P, s1.ds)) := hR2
      clear hR2 HR1
      go_wp2_with fail
      go_ret
      exact ⟨by rw [HR2.out]; rfl, s1, A1, by rw [HR2.out], by rw [HR2.out]⟩
end Go.Proofs.YtdmnddikcpfmfaaGreat

namespace Go.Proofs.YtdmnddikcpfmfaaGreat
open Go.RowKit Go.Maps Go.Shelf
/-- A block's buffer goes. -/
def dropK (l : List BP) (k : Nat) : List BP :=
  match cutAt (isK k) l with
  | some (p, _, q) => p ++ q
  | none => l
def dropL (l : List BP) : List Int → List BP
  | [] => l
  | i :: r => dropL (dropK l i.toNat) r
def forR (l : List BP) (n : Nat) (xs : List Int) : Int × List BP := if xs.all (hasB n) = true then (0, dropL l xs) else (1, l)
theorem dropK_any {w : World} {s : CS} (h : CIn w s) (k : Nat) (hk : k < s.ds.secs.length) : Calls Tryz.prog 85 #[.pointer (some ⟨s.c, 0, none⟩), .int .i64 (k : Int)] w fun e w' =>
    (∃ u, e = .returned u) ∧ ∃ s', CAfter w w' s s' ∧ s'.P = dropK s.P k ∧ s'.ds = s.ds := by
  rcases split_k (L := s.L) k with ⟨p, x, q, hL, hx, hp⟩ | hno
  · subst hx
    refine (drop_any h hL).mono fun e w' ⟨he, O', N', hA⟩ => ⟨he, _, hA, ?_, rfl⟩
    rw [dropK, show cutAt (isK x.b.k) s.P = some (p.map (·.b), x.b, q.map (·.b)) from by rw [CS.P, hL]; exact cut_k rfl hp]
    simp [CS.P]
  · have hn2 := h.base.disk.n2
    refine (drop_none h k (by omega) hno).mono fun e w' ⟨he, hw⟩ => ⟨he, s, by rw [hw]; exact CAfter.refl h, ?_, rfl⟩
    rw [dropK, show cutAt (isK k) s.P = none from cut_no hno]
set_option maxRecDepth 100000 in
theorem cForget_any {w : World} {s : CS} (h : CIn w s) (p : Option Addr) (n c : Nat) (xs : List Int) (hI : IntsBy w s p n c xs) : Calls Tryz.prog 39 #[.pointer (some ⟨s.c, 0, none⟩), .slice p n c] w fun e w' =>
    e = .returned (.int .i64 (forR s.P s.ds.secs.length xs).1) ∧ ∃ s', CAfter w w' s s' ∧ s'.P = (forR s.P s.ds.secs.length xs).2 ∧ s'.ds = s.ds := by
  have hm := cmade_yes h.c0
  have hlen := hI.ii.len
  have hroom := hI.ii.room
  obtain ⟨R, HR⟩ : ∃ R, Hid (R = forR s.P s.ds.secs.length xs) := ⟨_, rfl⟩
  rw [← HR.out]
  go_enter Tryz.func39, Tryz.ntmps39
  go_wp2_with (go_at_call 67; refine hm.mono ?_; rintro e w' ⟨rfl, hw'⟩; have hw2 := hw'.symm; subst hw2; clear hw')
  go_loopg [14] n (fun j v wr => ∃ k : Nat, v = .int .i64 (k : Int) ∧ k ≤ n ∧ j = n - k ∧ Below w.heap.size w wr ∧ ∀ i, i < k → hasB s.ds.secs.length (eI xs i) = true)
  case atStart => exact ⟨0, rfl, by omega, rfl, Below.refl _ _, fun i hi => by omega⟩
  case round =>
    obtain ⟨k, rfl, hk, rfl, hB, hall⟩ := hrel
    have hI1 := hI.kept hB
    have h1 := h.kept hB
    by_cases hkn : k < n
    · obtain ⟨b, o, rfl, hlt, hcell⟩ := hI1.ii.at' (by omega)
      have hck := hcell k hkn
      have hib := cisBlock_any h1 (eI xs k)
      obtain ⟨ik, hik⟩ : ∃ ik, ik = eI xs k := ⟨_, rfl⟩
      have HK : Hid (ik = eI xs k) := hik
      rw [← hik] at hck hib
      clear hik hcell
      cases hb : hasB s.ds.secs.length ik
      · rw [hb] at hib
        go_wp2_with (go_at_call 84; refine hib.mono ?_; rintro e w2 ⟨rfl, hb2⟩)
        go_ret
        have e1 : forR s.P s.ds.secs.length xs = (1, s.P) := if_neg (fun ha => by
          have := List.all_eq_true.1 ha (eI xs k) (by simp only [eI, List.getD_eq_getElem?_getD, List.getElem?_eq_getElem (show k < xs.length by omega)]; exact List.getElem_mem _)
          rw [← HK.out, hb] at this; cases this)
        exact ⟨by rw [HR.out, e1]; rfl, s, (CAfter.refl h).kept (hB.trans (hb2.mono hB.size)), by rw [HR.out, e1], rfl⟩
      · rw [hb] at hib
        go_wp2_with (go_at_call 84; refine hib.mono ?_; rintro e w2 ⟨rfl, hb2⟩)
        go_roundg (n - (k + 1))
        case measure => omega
        case rel =>
          refine ⟨k + 1, by go_num, by omega, rfl, hB.trans (hb2.mono hB.size), fun i hi => ?_⟩
          by_cases e : i = k
          · rw [e, ← HK.out]; exact hb
          · exact hall i (by omega)
    · have hkn2 : n = k := by omega
      subst hkn2
      have HA : Hid (∀ i, i < xs.length → hasB s.ds.secs.length (eI xs i) = true) := (fun i hi => hall i (by omega))
      have hR1 : R = (0, dropL s.P xs) := by
        rw [HR.out]
        refine if_pos (List.all_eq_true.2 fun x hx => ?_)
        obtain ⟨i, hi, rfl⟩ := List.getElem_of_mem hx
        have := HA.out i hi
        simpa [eI, hi] using this
      have HR1 : Hid (R = (0, dropL s.P (xs.drop 0))) := hR1
      clear HR hR1 hall
      go_wp2_with fail
      go_loopg [25] n (fun j v wr => ∃ (k : Nat) (s' : CS), v = .int .i64 (k : Int) ∧ k ≤ n ∧ j = n - k ∧ CAfter w wr s s' ∧ Hid (R = (0, dropL s'.P (xs.drop k))) ∧ Hid (s'.ds = s.ds))
      case atStart => exact ⟨0, s, rfl, by omega, rfl, (CAfter.refl h).kept hB, HR1, rfl⟩
      case round =>
        clear HR1
        obtain ⟨k, s1, rfl, hk, rfl, A1, HR1, HD1⟩ := hrel
        have hI1 := hI.next A1
        by_cases hkn : k < n
        · obtain ⟨b, o, rfl, hlt, hcell⟩ := hI1.ii.at' (by omega)
          have hck := hcell k hkn
          have hd : xs.drop k = eI xs k :: xs.drop (k + 1) := drop_eI xs k (by omega)
          have hR2 := HR1.out
          rw [hd, dropL] at hR2
          obtain ⟨j, hj, hjl⟩ := hasB_nat (HA.out k (by omega))
          rw [hj] at hck hR2
          have hone := dropK_any A1.cin j (by rw [HD1.out]; exact hjl)
          rw [A1.c] at hone
          have HR2 : Hid (R = (0, dropL (dropK s1.P j) (xs.drop (k + 1)))) := hR2
          clear hR2 HR1 hd hj hcell hjl
          go_wp2_with (go_at_call 85; refine hone.mono ?_; rintro e w2 ⟨⟨u, rfl⟩, s2, A2, hP2, hD2⟩; have HP2 : Hid (s2.P = dropK s1.P j) := hP2; have HD2 : Hid (s2.ds = s1.ds) := hD2; clear hP2 hD2)
          go_roundg (n - (k + 1))
          case measure => omega
          case rel => exact ⟨k + 1, s2, by go_num, by omega, rfl, A1.trans A2, by rw [HP2.out]; exact HR2, HD2.out.trans HD1.out⟩
        · have hkn2 : k = n := by omega
          subst hkn2
          have hR2 := HR1.out
          rw [List.drop_of_length_le (by omega), dropL] at hR2
          have HR2 : Hid (R = (0, s1.P)) := hR2
          clear hR2 HR1
          go_wp2_with fail
          go_ret
          exact ⟨by rw [HR2.out]; rfl, s1, A1, by rw [HR2.out], HD1.out⟩
end Go.Proofs.YtdmnddikcpfmfaaGreat
