/-
  What dirent.Entries answers, and what its iterator gives.
-/
import Derived.Test.YtikigfjdddgkpaaDtRecs
import Derived.Test.YtikigfjdddgkpaaDtAddP
import Derived.Deep.Cut
import Derived.RangeFuncNested
import Derived.RangeFuncBound
import Derived.RangeFuncCalls
import Derived.RangeFuncLeaves
import Derived.Shelf.RegionOpen
import Derived.OwnWalkIn
import Derived.TacticsInMore
import Derived.LoopNIn
import Derived.LoopIn
namespace Go.Proofs.Ytikigfjdddgkpaa
open Go.RowKit Go.Shelf
attribute [local go_sem] Oper.semAt_some
/-- The entries of records. -/
def entsL (rs : List Rc) : List Ent := (rs.filter Rc.has).map Rc.en
theorem entsL_append (a b : List Rc) : entsL (a ++ b) = entsL a ++ entsL b := by simp [entsL]
theorem entsL_yes {r : Rc} (h : r.has = true) : entsL [r] = [r.en] := by simp [entsL, h]
theorem entsL_no {r : Rc} (h : r.has = false) : entsL [r] = [] := by simp [entsL, h]
theorem entsL_len (rs : List Rc) : (entsL rs).length ≤ rs.length := by rw [entsL, List.length_map]; exact List.length_filter_le _ _
/-- What yield is handed. -/
def encE (x : Ent) : Array Value := #[x.val]
/-- The box and the records that are read lie as they lay. -/
structure KpT (gr : Nat) (p : Option Addr) (A B : World) : Prop where
  s : B.heap[gr]? = A.heap[gr]?
  size : A.heap.size ≤ B.heap.size
  dat : ∀ a, p = some a → B.heap[a.block]? = A.heap[a.block]?
theorem KpT.refl (gr : Nat) (p : Option Addr) (A : World) : KpT gr p A A := ⟨rfl, Nat.le_refl _, fun _ _ => rfl⟩
theorem KpT.trans {gr : Nat} {p : Option Addr} {A B C : World} (h : KpT gr p A B) (k : KpT gr p B C) : KpT gr p A C := ⟨k.s.trans h.s, Nat.le_trans h.size k.size, fun a e => (k.dat a e).trans (h.dat a e)⟩
theorem KpT.of_below {gr : Nat} {p : Option Addr} {A B : World} {m : Nat} (h : Below m A B) (h1 : gr < m) (h3 : ∀ a, p = some a → a.block < m) : KpT gr p A B := ⟨h.block gr h1, h.size, fun a e => h.block _ (h3 a e)⟩
/-- What the iterator stands on. -/
structure EntIn (W : World) (gr : Nat) (p : Option Addr) (n c : Nat) (rs : List Rc) : Prop where
  bs : Blk W gr 64 [.slice p n c]
  inn : InR W p n c rs
  le : n ≤ 1000
  low : ∀ a, p = some a → a.block < W.heap.size
theorem EntIn.kept {A B : World} {gr : Nat} {p : Option Addr} {n c : Nat} {rs : List Rc} (h : EntIn A gr p n c rs) (k : KpT gr p A B) : EntIn B gr p n c rs := by
  refine ⟨h.bs.same k.s, ⟨h.inn.len, h.inn.cap, h.inn.max, h.inn.room, fun h1 => ?_, h.inn.nil⟩, h.le, fun a e => Nat.lt_of_lt_of_le (h.low a e) k.size⟩
  obtain ⟨b, o, e, hlt, hc⟩ := h.inn.at' h1
  have hk : ∀ q, B.cell? ⟨b, q, none⟩ = A.cell? ⟨b, q, none⟩ := fun q => World.cell?_of_block (a := ⟨b, q, none⟩) (k.dat ⟨b, o, none⟩ e)
  refine ⟨b, o, e, Nat.lt_of_lt_of_le hlt k.size, fun i hi => ?_⟩
  obtain ⟨c0, c1, c2, c3, c4⟩ := hc i hi
  exact ⟨(hk _).trans c0, (hk _).trans c1, (hk _).trans c2, (hk _).trans c3, (hk _).trans c4⟩
theorem EntIn.below {A B : World} {gr : Nat} {p : Option Addr} {n c : Nat} {rs : List Rc} (h : EntIn A gr p n c rs) (hb : Below A.heap.size A B) : EntIn B gr p n c rs :=
  ⟨h.bs.kept hb, h.inn.below hb, h.le, fun a e => Nat.lt_of_lt_of_le (h.low a e) hb.size⟩
theorem entsL_take {rs : List Rc} {k : Nat} (h : k < rs.length) : entsL (rs.take (k + 1)) = entsL (rs.take k) ++ entsL [eR rs k] := by rw [takeR_succ rs k h, entsL_append]
theorem entsL_prefix {rs : List Rc} (k : Nat) : entsL (rs.take k) <+: entsL rs := by
  have : entsL rs = entsL (rs.take k) ++ entsL (rs.drop k) := by rw [← entsL_append, List.take_append_drop]
  rw [this]
  exact List.prefix_append _ _
set_option linter.unusedSimpArgs false in
set_option maxRecDepth 100000 in
set_option maxHeartbeats 4000000 in
/-- The closure of Entries, for every loop body that keeps what it stands on. -/
theorem ent1_in (nf : Nat) (hnf : 2 ≤ nf) (l gr : Nat) (p : Option Addr) (n c : Nat) (rs : List Rc) (J Jx : List Ent → World → Prop) (W : World)
    (hJ : AbidesFrom W.heap.size J)
    (hY : ∀ pre x W, J pre W → pre.length < (entsL rs).length → YieldAt Fence.wide (nf - 1) Try.prog l (encE x) W fun e W' =>
      (e = .returned (.bool true) ∧ J (pre ++ [x]) W' ∧ KpT gr p W W') ∨ (e = .returned (.bool false) ∧ Jx (pre ++ [x]) W'))
    (h1 : EntIn W gr p n c rs) (h0 : J [] W) :
    CallsIn Fence.wide nf Try.prog 44 #[.func (.yield l) #[] #[], .pointer (some ⟨gr, 0, none⟩)] W fun e W' => (∃ v, e = .returned v) ∧
      ((∃ ys, ys = entsL rs ∧ J ys W') ∨ (∃ pre, pre <+: entsL rs ∧ Jx pre W')) := by
  have hn1 : 1 ≤ nf := by omega
  have hle := h1.le
  have HL : Hid (rs.length = n) := h1.inn.len
  have c0 := h1.bs.cell' (i := 0) rfl
  refine callsIn_of_wp Try.func44 rfl trivial ?_ rfl
  simp only [Try.ntmps44, List.size_toArray, List.length_cons, List.length_nil, Nat.reduceAdd, Nat.reduceSub, Array.replicate_succ, Array.replicate_zero, List.push_toArray, List.append_toArray, List.nil_append, List.cons_append]
  gi_wp2
  clear c0
  gi_loopw [7] (fun i wr => ∃ k : Nat, k ≤ n ∧ i = .int .i64 k ∧ J (entsL (rs.take k)) wr ∧ KpT gr p W wr) (fun i _ => n - (intOf i).toNat)
  case atStart => exact ⟨0, Nat.zero_le _, rfl, h0, KpT.refl _ _ _⟩
  case round =>
    obtain ⟨k, hk, rfl, hJs, hnx⟩ := hrel
    by_cases hlt : k < n
    · have hki : (k : Int) < (n : Int) := by omega
      have hR := h1.kept hnx
      obtain ⟨b, o, hpe, hbl, hc⟩ := hR.inn.at' (by omega)
      subst hpe
      obtain ⟨e0, e1, e2, e3, e4⟩ := hc k hlt
      have HT : Hid (entsL (rs.take (k + 1)) = entsL (rs.take k) ++ entsL [eR rs k]) := entsL_take (by rw [HL.out]; exact hlt)
      have HP : Hid (entsL (rs.take (k + 1)) <+: entsL rs) := entsL_prefix _
      have hgl := hR.bs.lt
      have hln := hR.low ⟨b, o, none⟩ rfl
      have hhas := has_any (eR rs k)
      have B1 := below_alloc wr (.cells #[.int .i64 (eR rs k).pl, .int .i64 (eR rs k).ln, .string ⟨(eR rs k).nm.toArray⟩, .int .i64 (eR rs k).ino, .int .i64 (eR rs k).kd] 69)
      have k1 := Blk.new' wr 69 #[.int .i64 (eR rs k).pl, .int .i64 (eR rs k).ln, .string ⟨(eR rs k).nm.toArray⟩, .int .i64 (eR rs k).ino, .int .i64 (eR rs k).kd]
      have hJd : ∀ w1, Below wr.heap.size wr w1 → J (entsL (rs.take k)) w1 := fun w1 hb => hJ _ _ _ none hJs (grown_of hb) (fun r e => by cases e)
      have hKd : ∀ w1, Below wr.heap.size wr w1 → KpT gr (some ⟨b, o, none⟩) W w1 := fun w1 hb => hnx.trans (KpT.of_below hb hgl (fun a e => by cases e; exact hln))
      clear hc hR hJs
      generalize eR rs k = r at *
      cases hh : r.has with
      | false =>
        have HE : Hid (entsL (rs.take (k + 1)) = entsL (rs.take k)) := by show _ = _; rw [HT.out, entsL_no hh, List.append_nil]
        gi_wp2_with (first | (refine ⟨trivial, ?_⟩; gi_at_call 45; refine (callsIn_wide.2 (hhas _)).mono ?_; rintro e w1 ⟨rfl, hb1⟩; rw [hh]; have B2 := bt B1 hb1) | (guard_target = (∀ f : FuncId, none = some f → Fence.wide.fn f) ∧ _; refine And.intro (fun _ _ => trivial) ?_) | (guard_target = Fence.wide.fn _ ∧ _; refine And.intro trivial ?_))
        go_roundw
        case rel => exact ⟨k + 1, by omega, by simp, by rw [HE.out]; exact hJd _ B2, hKd _ B2⟩
        case measure => simp [intOf]; omega
      | true =>
        have HE : Hid (entsL (rs.take (k + 1)) = entsL (rs.take k) ++ [r.en]) := by show _ = _; rw [HT.out, entsL_yes hh]
        have HLt : Hid ((entsL (rs.take k)).length < (entsL rs).length) := by
          have := HP.out.length_le
          rw [HE.out, List.length_append, List.length_singleton] at this
          show _ < _
          omega
        gi_wp2_with (first
          | (refine ⟨trivial, ?_⟩; gi_at_call 45; refine (callsIn_wide.2 (hhas _)).mono ?_; rintro e w1 ⟨rfl, hb1⟩; rw [hh]; have B2 := bt B1 hb1; have k2 := k1.kept hb1; have d2 := k2.cell' (i := 2) rfl; have d3 := k2.cell' (i := 3) rfl; have d4 := k2.cell' (i := 4) rfl; obtain ⟨fn, tmps, assign, body, hy, hR⟩ := hY _ r.en _ (hJd _ B2) HLt.out; clear hY; dsimp only [encE, Rc.en, Ent.val] at hy))
        refine hR.mono ?_
        rintro e W3 (⟨rfl, hJ3, hk3⟩ | ⟨rfl, hJx3⟩)
        · gi_wp2
          go_roundw
          case rel => exact ⟨k + 1, by omega, by simp, by rw [HE.out]; exact hJ3, (hKd _ B2).trans hk3⟩
          case measure => simp [intOf]; omega
        · gi_wp2
          refine bodyPost_ret (results_none rfl _ _ _) rfl ?_
          exact ⟨⟨_, rfl⟩, .inr ⟨_, by rw [← HE.out]; exact HP.out, hJx3⟩⟩
    · obtain rfl : k = n := by omega
      have HE : Hid (rs.take k = rs) := List.take_of_length_le (by rw [HL.out]; exact Nat.le_refl _)
      rw [HE.out] at hJs
      gi_wp2
      go_end0
      exact ⟨⟨_, rfl⟩, .inl ⟨_, rfl, hJs⟩⟩
/-- What Entries hands back goes through the entries, in order; or through the first of them. -/
theorem ent_stops (nf : Nat) (hnf : 2 ≤ nf) (gr : Nat) (p : Option Addr) (n c : Nat) (rs : List Rc) (w : World) (h : EntIn w gr p n c rs) :
    SeqStopsK Fence.wide nf Try.prog 44 #[.pointer (some ⟨gr, 0, none⟩)] encE (KpT gr p) (fun ys => ys = entsL rs) (fun pre => pre <+: entsL rs) (entsL rs).length w := fun l J Jx W hW hJ _ hY h0 =>
  ent1_in nf hnf l gr p n c rs J Jx W hJ hY (h.below hW) h0
theorem entries_any (p : Option Addr) (n c : Nat) (xs : List Nat) (w : World) (hx : In w p n c xs) :
    Calls Try.prog 24 #[.slice p n c] w fun e w' => ∃ gr q m d, e = .returned (.func (.func 44) #[] #[.pointer (some ⟨gr, 0, none⟩)]) ∧ EntIn w' gr q m d (recsL xs) ∧ Below w.heap.size w w' := by
  go_enter Try.func24, Try.ntmps24
  go_wp2_with (go_at_call 39; refine (recordsOf_any p n c xs _ hx).mono ?_; rintro e w1 ⟨v1, n1, rfl, ho1, hb1⟩; obtain ⟨q, d, hv1⟩ := owns_slice ho1; subst hv1)
  go_ret
  have hl : (recsL xs).length ≤ 32 := by
    unfold recsL
    cases h : recsO xs with
    | none => simp
    | some rs => exact recsO_count h
  have hn1 : n1 ≤ 32 := by have := ho1.1; rw [flatR_length] at this; omega
  have hlow := own_lt ho1
  obtain ⟨q', d', hv, hi⟩ := in_of_ownsR ho1 (by omega)
  cases hv
  have hb2 := below_alloc w1 (.cells #[.slice q n1 d] 64)
  exact ⟨_, q, n1, d, rfl, ⟨Blk.new' w1 64 #[.slice q n1 d], hi.below hb2, by omega, fun a e => by subst e; have := hlow a.block (by simp [Value.ownBlock]); simp; omega⟩, bt hb1 hb2⟩
end Go.Proofs.Ytikigfjdddgkpaa
