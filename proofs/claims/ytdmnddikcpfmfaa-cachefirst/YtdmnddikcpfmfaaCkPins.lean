/-
  What Pins and Dirty answer.
-/
import Derived.Test.YtdmnddikcpfmfaaCkTold2
import Derived.Test.YtdmnddikcpfmfaaCkSort
import Derived.Test.YtdmnddikcpfmfaaCkCont
import Derived.Test.YtdmnddikcpfmfaaCkClone
namespace Go.Proofs.Ytdmnddikcpfmfaa
open Go.RowKit Go.Maps Go.Shelf
theorem cpins_no {w : World} {s : CS} (h : CIn w s) (k : Nat) (hno : ∀ x ∈ s.L, x.b.k ≠ k) : Calls Try.prog 21 #[.pointer (some ⟨s.c, 0, none⟩), .int .i64 (k : Int)] w fun e w' => e = .returned (.int .i64 0) ∧ Below w.heap.size w w' := by
  have hh := chas_any h (k : Int)
  rw [hasK_no hno] at hh
  go_enter Try.func21, Try.ntmps21
  go_wp2_with (go_at_call 26; refine hh.mono ?_; rintro e w1 ⟨rfl, hb1⟩)
  go_ret
  exact ⟨rfl, hb1⟩
theorem cpins_yes {w : World} {s : CS} (h : CIn w s) {x : BufS} (hx : x ∈ s.L) : Calls Try.prog 21 #[.pointer (some ⟨s.c, 0, none⟩), .int .i64 (x.b.k : Int)] w fun e w' => e = .returned (.int .i64 (x.b.pins : Int)) ∧ Below w.heap.size w w' := by
  have hh := chas_any h (x.b.k : Int)
  rw [hasK_yes hx (h.fit.ok x hx)] at hh
  go_enter Try.func21, Try.ntmps21
  go_wp2_with (go_at_call 26; refine hh.mono ?_; rintro e w1 ⟨rfl, hb1⟩; have h1 := h.kept hb1; have hy1 := h1.mapy hx; have hc2 := h1.c2; have hbc := (h1.mem x (List.mem_cons_of_mem _ hx)).cell' (i := 3) (v := .int .i64 (x.b.pins : Int)) rfl)
  go_ret
  exact ⟨rfl, hb1⟩
theorem cpins_any {w : World} {s : CS} (h : CIn w s) (k : Nat) : Calls Try.prog 21 #[.pointer (some ⟨s.c, 0, none⟩), .int .i64 (k : Int)] w fun e w' => ∃ n : Nat, e = .returned (.int .i64 (n : Int)) ∧ pinnedB s.P (k : Int) = decide (0 < n) ∧ Below w.heap.size w w' := by
  rcases split_k (L := s.L) k with ⟨p, x, q, hL, hx, hp⟩ | hno
  · subst hx
    have hxL : x ∈ s.L := by rw [hL]; simp
    exact (cpins_yes h hxL).mono fun e w' ⟨he, hb⟩ => ⟨_, he, pinnedB_at h.fit.kd hxL, hb⟩
  · refine (cpins_no h k hno).mono fun e w' ⟨he, hb⟩ => ⟨0, he, ?_, hb⟩
    simp only [pinnedB, CS.P, List.any_map]
    rw [List.any_eq_false.2]
    · rfl
    · intro y hy
      simp
      intro e
      exact absurd (Int.ofNat.inj e) (hno y hy)
theorem idxs (N : Nat) : ∀ xs : List Int, (∀ x ∈ xs, ∃ k : Nat, k < N ∧ (k : Int) = x) → ∃ ks : List (IdxT N), valsK ks = xs
  | [], _ => ⟨[], rfl⟩
  | x :: r, h => by
    obtain ⟨k, hk, e⟩ := h x (List.mem_cons_self ..)
    obtain ⟨ks, e2⟩ := idxs N r (fun y hy => h y (List.mem_cons_of_mem _ hy))
    exact ⟨⟨k, hk⟩ :: ks, by simp only [valsK, List.map_cons]; rw [← e2]; simp only [valsK]; rw [e]⟩
theorem owns_slice_lt {w : World} {B : Nat} {e : TypeId} {z : Nat} {p : Option Addr} {m n c : Nat} {xs : List Value} (h : w.ownsRow B e z (.slice p m c) n xs) : ∀ a, p = some a → a.block < w.heap.size := by
  rcases h.2 with ⟨h1, _⟩ | ⟨g, cap, cur, h1, hg, hh, _⟩
  · cases h1; intro a ha; cases ha
  · cases h1; intro a ha; cases ha
    rcases Nat.lt_or_ge g w.heap.size with h' | h'
    · exact h'
    · rw [Array.getElem?_eq_none h'] at hh; simp at hh
theorem cDirty_any {w : World} {s : CS} (h : CIn w s) (cl : Nat) (hc : cl = 1 ∨ cl = 2) : Calls Try.prog 20 #[.pointer (some ⟨s.c, 0, none⟩), .int .i64 (cl : Int)] w fun e w' =>
    ∃ Bs c1 p1, e = .returned (.func (.func 66) #[] #[.pointer (some ⟨Bs, 0, none⟩)]) ∧ Blk w' Bs 32 [.slice p1 (dirtyKs s.ds.secs.length s.P cl).length c1] ∧ InI w' p1 (dirtyKs s.ds.secs.length s.P cl).length c1 (dirtyKs s.ds.secs.length s.P cl) ∧ Below w.heap.size w w' ∧ ∀ a, p1 = some a → a.block < w'.heap.size := by
  have hd := cdirty_any sorts_own h cl hc
  have hl := dirtyKs_len s.ds.secs.length s.P cl
  have hn2 := h.base.disk.n2
  clear hc
  generalize dirtyKs s.ds.secs.length s.P cl = X at *
  go_enter Try.func20, Try.ntmps20
  go_wp2_with fail
  refine hd.mono ?_
  rintro e w1 ⟨v, rfl, hrow, hb1⟩
  obtain ⟨p1, c1, rfl, hin⟩ := in_of_ownsI hrow (by omega)
  have hv := values_any p1 X.length c1 w1
  go_wp2_with fail
  refine hv.mono ?_
  rintro e w2 ⟨rfl, hw2⟩
  subst hw2
  go_wp2_with fail
  go_ret
  refine ⟨_, c1, p1, rfl, Blk.new w1 32 [.slice p1 X.length c1], hin.below (below_alloc _ _), bt hb1 (below_alloc _ _), fun a ha => ?_⟩
  have := owns_slice_lt hrow a ha
  rw [World.size_alloc]
  omega
theorem cDirty2 {w : World} {s : CS} (h : CIn w s) : Calls Try.prog 20 #[.pointer (some ⟨s.c, 0, none⟩), .int .i64 2] w fun e w' =>
    ∃ Bs c1 p1, e = .returned (.func (.func 66) #[] #[.pointer (some ⟨Bs, 0, none⟩)]) ∧ Blk w' Bs 32 [.slice p1 (dirtyKs s.ds.secs.length s.P 2).length c1] ∧ InI w' p1 (dirtyKs s.ds.secs.length s.P 2).length c1 (dirtyKs s.ds.secs.length s.P 2) ∧ Below w.heap.size w w' ∧ ∀ a, p1 = some a → a.block < w'.heap.size := cDirty_any h 2 (.inr rfl)
theorem told_dirty {w : World} {s : CS} (hs : s.ds.secs.length = 60) (Bs c1 : Nat) (p1 : Option Addr) (hbs : Blk w Bs 32 [.slice p1 (dirtyKs s.ds.secs.length s.P 2).length c1]) (hin : InI w p1 (dirtyKs s.ds.secs.length s.P 2).length c1 (dirtyKs s.ds.secs.length s.P 2)) (hlow : ∀ a, p1 = some a → a.block < w.heap.size) :
    Calls Try.prog 19 #[.func (.func 66) #[] #[.pointer (some ⟨Bs, 0, none⟩)], .int .i64 999] w fun e w' => ∃ p' n' c', e = .returned (.slice p' n' c') ∧ InI w' p' n' c' (dirtyKs 60 s.P 2) ∧ Below w.heap.size w w' ∧ ∀ a, p' = some a → w.heap.size ≤ a.block := by
  have hl := dirtyKs_len s.ds.secs.length s.P 2
  rw [hs] at hbs hin hl
  obtain ⟨ks, hks⟩ := idxs 60 (dirtyKs 60 s.P 2) (fun x hx => by
    obtain ⟨b, _, hb, _, e⟩ := dirtyKs_mem.1 hx
    exact ⟨b.k, hb, e⟩)
  have hlk : ks.length = (dirtyKs 60 s.P 2).length := by rw [← hks, valsK_length]
  rw [← hlk] at hbs hin
  rw [← hks] at hin
  have ht := told_new Bs c1 p1 ks 999 (by omega) w hbs hin hlow
  rw [List.take_of_length_le (by omega), hks] at ht
  exact ht.mono fun e w' ⟨p', c', he, h1, h2, h3⟩ => ⟨p', _, c', he, h1, h2, h3⟩
end Go.Proofs.Ytdmnddikcpfmfaa
