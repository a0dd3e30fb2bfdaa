/-
  Rows of slots; the reference's All.
-/
import Derived.Test.YtgeomfgfeemciaaInRD
import Derived.Maps.AppendAt
namespace Go.Proofs.Ytgeomfgfeemciaa
open Go.RowKit
/-- A slot in use, its inode, and where its root's row lies. -/
structure Sl where
  k : Nat
  x : Ino
  p : Option Addr
  n : Nat
  c : Nat
def Sl.cells (s : Sl) : List Value := [.int .i64 (s.k : Int), .int .i64 s.x.kd, .int .i64 s.x.lk, .int .i64 s.x.sz, .int .i64 s.x.nx, .int .i64 s.x.ge, .int .i64 s.x.dp, .slice s.p s.n s.c]
def flatS (l : List Sl) : List Value := l.flatMap Sl.cells
def Sl.pair (s : Sl) : Nat × Ino := (s.k, s.x)
theorem flatS_app (l : List Sl) (s : Sl) : flatS (l ++ [s]) = flatS l ++ s.cells := by simp [flatS]
/-- The slots in use among the first k. -/
def liveN (xs : List Nat) (k : Nat) : List (Nat × Ino) := (List.range k).filterMap fun i : Nat => if getE xs (i : Int) = 0 ∧ (getI xs (i : Int)).kd ≠ 0 then some (i, getI xs (i : Int)) else none
theorem liveN_yes {xs : List Nat} {k : Nat} (h : getE xs (k : Int) = 0) (h' : (getI xs (k : Int)).kd ≠ 0) : liveN xs (k + 1) = liveN xs k ++ [(k, getI xs (k : Int))] := by
  simp [liveN, List.range_succ, h, h']
theorem liveN_no {xs : List Nat} {k : Nat} (h : ¬ (getE xs (k : Int) = 0 ∧ (getI xs (k : Int)).kd ≠ 0)) : liveN xs (k + 1) = liveN xs k := by
  simp [liveN, List.range_succ, h]
theorem liveN_length (xs : List Nat) (k : Nat) : (liveN xs k).length ≤ k := by
  have := List.length_filterMap_le (fun i : Nat => if getE xs (i : Int) = 0 ∧ (getI xs (i : Int)).kd ≠ 0 then some (i, getI xs (i : Int)) else none) (List.range k)
  rw [List.length_range] at this
  exact this
theorem infoS : (Try.prog.info? 47).map (fun i => (i.zero, i.size, i.bytes)) = some (some (.agg #[.int .i64 0, .int .i64 0, .int .i64 0, .int .i64 0, .int .i64 0, .int .i64 0, .int .i64 0, .slice none 0 0]), 8, 80) := by kernel_rfl
theorem InE.same2 {w w' : World} {p : Option Addr} {n c : Nat} {l : List Ext} (h : InE w p n c l) (hs : w.heap.size ≤ w'.heap.size) (hb : 0 < n → ∀ a, p = some a → w'.heap[a.block]? = w.heap[a.block]?) : InE w' p n c l :=
  ⟨h.len, h.cap, h.max, h.room, fun h0 => by
    obtain ⟨b, o, hp, hl, hc⟩ := h.at' h0
    have hk := fun j => World.cell?_of_block (a := ⟨b, j, none⟩) (hb h0 ⟨b, o, none⟩ hp)
    exact ⟨b, o, hp, Nat.lt_of_lt_of_le hl hs, fun i hi => ⟨(hk _).trans (hc i hi).1, (hk _).trans (hc i hi).2.1, (hk _).trans (hc i hi).2.2⟩⟩, h.nil⟩
/-- The roots of slots lie in memory, none of them in the slots' own row. -/
def SlIn (w : World) (v : Value) (l : List Sl) : Prop := ∀ s ∈ l, InE w s.p s.n s.c s.x.rt ∧ (0 < s.n → ∀ a, s.p = some a → v.ownBlock ≠ some a.block)
theorem SlIn.below {w w' : World} {v : Value} {l : List Sl} (h : SlIn w v l) (hb : Below w.heap.size w w') : SlIn w' v l := fun s hs => ⟨(h s hs).1.below hb, (h s hs).2⟩
theorem SlIn.app {w w' : World} {v v' : Value} {l : List Sl} {s : Sl} (h : SlIn w v l) (hs : InE w s.p s.n s.c s.x.rt) (hne : 0 < s.n → ∀ a, s.p = some a → v.ownBlock ≠ some a.block) (hg : w.grownBy w' v.ownBlock) (hat : v'.ownBlock = v.ownBlock ∨ v'.ownBlock = some w.heap.size) : SlIn w' v' (l ++ [s]) := by
  have key : ∀ s : Sl, InE w s.p s.n s.c s.x.rt → (0 < s.n → ∀ a, s.p = some a → v.ownBlock ≠ some a.block) → InE w' s.p s.n s.c s.x.rt ∧ (0 < s.n → ∀ a, s.p = some a → v'.ownBlock ≠ some a.block) := fun s hi hn =>
    ⟨hi.same2 hg.size (fun h0 a ha => hg.block _ (hi.lt h0 a ha) (fun e => hn h0 a ha e.symm)), fun h0 a ha e => by
      rcases hat with h1 | h1
      · exact hn h0 a ha (h1.symm.trans e)
      · have := hi.lt h0 a ha; rw [h1] at e; have := Option.some.inj e; omega⟩
  intro t ht
  rcases List.mem_append.1 ht with h1 | h1
  · exact key t (h t h1).1 (h t h1).2
  · rw [List.mem_singleton.1 h1]; exact key s hs hne
theorem wpList_append_slot {w : World} {ops : Array Oper} {rest : List Oper} {o : Oper} {a : Act} {Q : Exit → Act → World → Prop} (hgd : o.guard = none) (s x : Operand)
    (ho : o.op = .call { callee := .builtin .append, args := #[s, x], argTypes := #[44, 44] }) (B : Nat) (v : Value) (m : Nat) (l : List Sl) (r : Sl) (gl : Nat) (hs : a.eval s = v) (hown : w.ownsRow B 47 8 v m (flatS l))
    (hx : a.eval x = .slice (some ⟨gl, 0, none⟩) 1 1) (hlit : Blk w gl 47 r.cells) (hlen : m ≤ 1000) (hB : B ≤ w.heap.size)
    (hK : ∀ p' c' w', w'.ownsRow B 47 8 (.slice p' (m + 1) c') (m + 1) (flatS (l ++ [r])) → w.grownBy w' v.ownBlock → Below B w w' → ((Value.slice p' (m + 1) c').ownBlock = v.ownBlock ∨ (Value.slice p' (m + 1) c').ownBlock = some w.heap.size) → wpList Try.prog ops Q rest (a.put o.dst (.slice p' (m + 1) c')) w') : wpList Try.prog ops Q (o :: rest) a w := by
  obtain ⟨i0, hi, hz0, hz1, hz2⟩ := info_parts infoS
  refine wpList_append_own_at _ hgd s x 44 ho B 47 i0 _ 8 80 Try.underlying44 hi hz0 hz1 hz2 rfl (by decide) v m (flatS l) hs hown ⟨gl, 0, none⟩ 1 1 r.cells hx rfl (fun j u hj => ?_) ?_ (by unfold maxLen; omega) (by omega) hB ?_
  · have := hlit.cell' (i := j) hj
    rw [addr_add, Nat.zero_add]; exact this
  · intro u hu
    simp only [Sl.cells, List.mem_cons, List.not_mem_nil, or_false] at hu
    rcases hu with rfl | rfl | rfl | rfl | rfl | rfl | rfl | rfl <;> rfl
  · intro v' w' h2 h3 _ h5
    obtain ⟨p', c', rfl⟩ := owns_slice h2
    rw [← flatS_app] at h2
    exact hK p' c' w' h2 h3 ((Below.refl B w).grown h3 hB (fun i hi => (hown.lt i hi).1)) h5
set_option linter.unusedSimpArgs false in
set_option linter.unusedVariables false in
set_option maxRecDepth 100000 in
set_option maxHeartbeats 8000000 in
theorem rall_any (p : Option Addr) (n c : Nat) (xs : List Nat) (w : World) (hx : In w p n c xs) :
    Calls Try.prog 27 #[.slice p n c] w fun e w' => ∃ po co L, e = .returned (.slice po L.length co) ∧ L.map Sl.pair = liveN xs 4 ∧ w'.ownsRow w.heap.size 47 8 (.slice po L.length co) L.length (flatS L) ∧ SlIn w' (.slice po L.length co) L ∧ Below w.heap.size w w' := by
  have HBS : Hid (w.heap.size ≤ w.heap.size) := Nat.le_refl _
  go_enter Try.func27, Try.ntmps27
  go_wp2
  go_loopw [3, 4] (fun out i wr => ∃ (k m : Nat) (po : Option Addr) (co : Nat) (L : List Sl), k ≤ 4 ∧ i = .int .i64 (k : Int) ∧ out = .slice po m co ∧ Hid (L.length = m) ∧ Hid (L.map Sl.pair = liveN xs k) ∧ wr.ownsRow w.heap.size 47 8 (.slice po m co) m (flatS L) ∧ SlIn wr (.slice po m co) L ∧ Below w.heap.size w wr) (fun _ i _ => 4 - (intOf i).toNat)
  case atStart => exact ⟨0, 0, none, 0, [], by omega, rfl, rfl, rfl, rfl, World.ownsRow_nil _ _ _ _, (fun s hs => by cases hs), Below.refl _ _⟩
  case round =>
    obtain ⟨k, m, po, co, L, hk, rfl, rfl, HLn, HMp, hown, hin, hbel⟩ := hrel
    by_cases hlt : k < 4
    · have hki : (k : Int) < 4 := by omega
      have hg := fun p n c w h => rget_any p n c xs (k : Int) w h
      have HY : Hid (getE xs (k : Int) = 0 ∧ (getI xs (k : Int)).kd ≠ 0 → liveN xs (k + 1) = liveN xs k ++ [(k, getI xs (k : Int))]) := fun h => liveN_yes h.1 h.2
      have HN : Hid (¬ (getE xs (k : Int) = 0 ∧ (getI xs (k : Int)).kd ≠ 0) → liveN xs (k + 1) = liveN xs k) := fun h => liveN_no h
      have hm4 : m ≤ 4 := by have h1 := liveN_length xs k; rw [← HMp.out, List.length_map, HLn.out] at h1; omega
      generalize getE xs (k : Int) = ea at *
      generalize getI xs (k : Int) = x at *
      obtain ⟨kd, lk, sz, nx, ge, dp, rt⟩ := x
      dsimp only at hg HY HN
      go_wp2_with fail
      refine (hg p n c _ (hx.below hbel)).mono ?_
      rintro e w2 ⟨p2, n2, c2, rfl, hi2, hb2, hf2⟩
      try dsimp only at hi2
      have k2 := below_alloc w2 (.cells #[.int .i64 kd, .int .i64 lk, .int .i64 sz, .int .i64 nx, .int .i64 ge, .int .i64 dp, .slice p2 n2 c2] 24)
      have sA := Blk.new' w2 24 #[.int .i64 kd, .int .i64 lk, .int .i64 sz, .int .i64 nx, .int .i64 ge, .int .i64 dp, .slice p2 n2 c2]
      have hB2 := hbel.trans ((bt hb2 k2).mono hbel.size)
      have hown2 := owns_below (owns_below hown hb2) k2
      have hin2 := (hin.below hb2).below k2
      have hi3 := hi2.below k2
      have hrow : ∀ i, (Value.slice po m co).ownBlock = some i → i < wr.heap.size := fun i hi => (hown.lt i hi).2
      obtain ⟨a0, a1, a2, a3, a4, a5, a6⟩ := sA.ino7
      by_cases h0 : ea = 0
      · subst h0
        by_cases hkd : kd = 0
        · subst hkd
          have HU : Hid (liveN xs (k + 1) = liveN xs k) := HN.out (fun h => h.2 rfl)
          go_wp2
          go_roundw
          case rel => exact ⟨k + 1, m, po, co, L, by omega, by go_num, rfl, HLn, by show _ = _; rw [HU.out]; exact HMp.out, hown2, hin2, hB2⟩
          case measure => simp [intOf]; omega
        · have hz : (kd != 0) = true := by rw [bne_iff_ne]; exact hkd
          have HU : Hid (liveN xs (k + 1) = liveN xs k ++ [(k, ⟨kd, lk, sz, nx, ge, dp, rt⟩)]) := HY.out ⟨rfl, hkd⟩
          clear hkd
          have k3 := below_alloc (w2.alloc (.cells #[.int .i64 kd, .int .i64 lk, .int .i64 sz, .int .i64 nx, .int .i64 ge, .int .i64 dp, .slice p2 n2 c2] 24)) (.cells #[.int .i64 (k : Int), .int .i64 kd, .int .i64 lk, .int .i64 sz, .int .i64 nx, .int .i64 ge, .int .i64 dp, .slice p2 n2 c2] 47)
          have s3 := Blk.new' (w2.alloc (.cells #[.int .i64 kd, .int .i64 lk, .int .i64 sz, .int .i64 nx, .int .i64 ge, .int .i64 dp, .slice p2 n2 c2] 24)) 47 #[.int .i64 (k : Int), .int .i64 kd, .int .i64 lk, .int .i64 sz, .int .i64 nx, .int .i64 ge, .int .i64 dp, .slice p2 n2 c2]
          rw [show (w2.alloc (.cells #[.int .i64 kd, .int .i64 lk, .int .i64 sz, .int .i64 nx, .int .i64 ge, .int .i64 dp, .slice p2 n2 c2] 24)).heap.size = w2.heap.size + 1 from World.size_alloc _ _] at s3
          have hown3 := owns_below hown2 k3
          have hin3 := hin2.below k3
          have hi4 := hi3.below k3
          have hB3 := hB2.trans (k3.mono hB2.size)
          have hne3 : 0 < n2 → ∀ a, p2 = some a → (Value.slice po m co).ownBlock ≠ some a.block := fun _ a ha e => by have := hrow _ e; have := hf2 a ha; omega
          go_wp2_with (at_builtin; refine wpList_append_slot rfl (.tmp 24) (.tmp 28) rfl w.heap.size (.slice po m co) m L ⟨k, ⟨kd, lk, sz, nx, ge, dp, rt⟩, p2, n2, c2⟩ _ rfl hown3 rfl s3 (by omega) hB3.size ?_; intro p5 c5 w5 hown5 hgrow5 hb5 hat5; have hin5 := hin3.app (s := ⟨k, ⟨kd, lk, sz, nx, ge, dp, rt⟩, p2, n2, c2⟩) hi4 hne3 hgrow5 hat5; have hB5 := hB3.trans hb5)
          go_roundw
          case rel => exact ⟨k + 1, m + 1, p5, c5, L ++ [⟨k, ⟨kd, lk, sz, nx, ge, dp, rt⟩, p2, n2, c2⟩], by omega, by go_num, rfl, by show _ = _; rw [List.length_append, HLn.out]; rfl, by show _ = _; rw [List.map_append, HMp.out, HU.out]; rfl, hown5, hin5, hB5⟩
          case measure => simp [intOf]; omega
      · have hz : (ea == 0) = false := by rw [beq_eq_false_iff_ne]; exact h0
        have HU : Hid (liveN xs (k + 1) = liveN xs k) := HN.out (fun h => h0 h.1)
        clear h0
        go_wp2
        go_roundw
        case rel => exact ⟨k + 1, m, po, co, L, by omega, by go_num, rfl, HLn, by show _ = _; rw [HU.out]; exact HMp.out, hown2, hin2, hB2⟩
        case measure => simp [intOf]; omega
    · have hkn : ¬ (k : Int) < 4 := by omega
      obtain rfl : k = 4 := by omega
      go_wp2
      go_ret
      have hl := HLn.out
      subst hl
      exact ⟨po, co, L, rfl, HMp.out, hown, hin, hbel⟩
end Go.Proofs.Ytgeomfgfeemciaa
