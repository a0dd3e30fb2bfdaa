/-
  What the reference's Encode answers.
-/
import Derived.Test.YtmagcohdhljaeaaPgRefHead
import Derived.Test.YtmagcohdhljaeaaRefState
namespace Go.Proofs.Ytmagcohdhljaeaa
open Go.RowKit
/-- An append of bytes, whatever slice they lie in, to bytes that a call owns. -/
theorem wpList_append_in {ops : Array Oper} {rest : List Oper} {o : Oper} {a : Act} {w : World} {Q : Exit → Act → World → Prop} (hgd : o.guard = none) (s x : Operand)
    (ho : o.op = .call { callee := .builtin .append, args := #[s, x], argTypes := #[24, 24] }) (base : Nat) (v : Value) (k : Nat) (ys : List Nat) (hs : a.eval s = v) (hown : w.ownsRow base 5 1 v k (vals ys))
    (p : Option Addr) (n c : Nat) (zs : List Nat) (hx : a.eval x = .slice p n c) (hin : In w p n c zs) (hlen : k + n ≤ 1000000) (hb : base ≤ w.heap.size)
    (h : ∀ p1 c1 w', w'.ownsRow base 5 1 (.slice p1 (k + n) c1) (k + n) (vals (ys ++ zs)) → w.grownBy w' v.ownBlock → wpList Try.prog ops Q rest (a.put o.dst (.slice p1 (k + n) c1)) w') : wpList Try.prog ops Q (o :: rest) a w := by
  obtain ⟨i0, hi, hz0, hz1, hz2⟩ := info_parts info5
  have hl := hin.len
  cases p with
  | none =>
    have h1 := hin.nil rfl
    have h2 := hin.cap
    have h3 : n = 0 := by omega
    subst h1
    subst h3
    have h4 : zs = [] := List.eq_nil_of_length_eq_zero hl
    subst h4
    obtain ⟨p1, c1, rfl⟩ := owns_slice hown
    refine wpList_append_own_none hgd s x 24 ho base 5 i0 1 Try.underlying24 hi _ k (vals ys) hs hown hx ?_
    exact h p1 c1 w (by simpa using hown) ⟨rfl, rfl, rfl, Nat.le_refl _, fun _ _ _ => rfl⟩
  | some ad =>
    refine wpList_append_own _ hgd s x 24 ho base 5 i0 (.int .u8 0) 1 1 Try.underlying24 hi hz0 hz1 hz2 rfl (by decide) v k (vals ys) hs hown ad n c (vals zs) hx (by rw [vals_length, hl, Nat.mul_one]) (hin.cells rfl) (vals_one _) (by unfold maxLen; omega) (by omega) hb ?_
    intro v1 w1 hown1 hg1 _
    rw [← vals_append] at hown1
    obtain ⟨p1, c1, rfl⟩ := owns_slice hown1
    exact h p1 c1 w1 hown1 hg1
set_option maxRecDepth 100000 in
set_option maxHeartbeats 2000000 in
theorem qencode_head (k g s t : Int) (p : Option Addr) (n c : Nat) (w : World) (hok : chkB k g s t = false) :
    Calls Try.prog 11 #[.agg #[.int .i64 k, .int .i64 g, .int .i64 s, .int .i64 t], .slice p n c] w fun e w' => e = .returned (.tuple #[.agg (vals (fillP 0)).toArray, .int .i64 30]) ∧ Below w.heap.size w w' := by
  have hz := zeroPage
  have b1 : Blk ((w.alloc (.cells #[.int .i64 k, .int .i64 g, .int .i64 s, .int .i64 t] 23)).alloc (.cells (vals (fillP 0)).toArray 29)) (w.heap.size + 1) 29 (vals (fillP 0)) := by
    have := Blk.new (w.alloc (.cells #[.int .i64 k, .int .i64 g, .int .i64 s, .int .i64 t] 23)) 29 (vals (fillP 0)); rwa [World.size_alloc] at this
  have hbel : Below w.heap.size w ((w.alloc (.cells #[.int .i64 k, .int .i64 g, .int .i64 s, .int .i64 t] 23)).alloc (.cells (vals (fillP 0)).toArray 29)) := (below_alloc w _).alloc (by simp) _
  have HE : Hid (chkE k g s t = 30) := by show _ = _; unfold chkE; rw [hok]; rfl
  clear hok
  go_enter Try.func11, Try.ntmps11
  go_wp2_with (first
    | (go_at_call 13; refine (qcheck_any k g s t _).mono ?_; rintro e w1 ⟨rfl, hb1⟩; rw [HE.out]; have b2 := b1.kept hb1; have hB1 := bt hbel hb1)
    | (refine wpList_store_blk rfl 29 _ _ rfl _ _ (vals (fillP 0)) rfl rfl b2 (page_fits (fillP_length 0) (fillP_length 0)) (sizeP (fillP_length 0)) (vals_one _) ?_; intro w5 h5 ht5))
  rw [page_whole (fillP_length 0) (fillP_length 0)] at h5
  exact ret_page2 Try.results11 rfl h5 (fillP_length 0) rfl ⟨rfl, ht5.below hB1 (by omega)⟩
set_option maxRecDepth 100000 in
set_option maxHeartbeats 2000000 in
theorem qencode_long (k g s t : Int) (p : Option Addr) (n c : Nat) (w : World) (hok : chkB k g s t = true) (hn : 256 < n) :
    Calls Try.prog 11 #[.agg #[.int .i64 k, .int .i64 g, .int .i64 s, .int .i64 t], .slice p n c] w fun e w' => e = .returned (.tuple #[.agg (vals (fillP 0)).toArray, .int .i64 3]) ∧ Below w.heap.size w w' := by
  have hz := zeroPage
  have b1 : Blk ((w.alloc (.cells #[.int .i64 k, .int .i64 g, .int .i64 s, .int .i64 t] 23)).alloc (.cells (vals (fillP 0)).toArray 29)) (w.heap.size + 1) 29 (vals (fillP 0)) := by
    have := Blk.new (w.alloc (.cells #[.int .i64 k, .int .i64 g, .int .i64 s, .int .i64 t] 23)) 29 (vals (fillP 0)); rwa [World.size_alloc] at this
  have hbel : Below w.heap.size w ((w.alloc (.cells #[.int .i64 k, .int .i64 g, .int .i64 s, .int .i64 t] 23)).alloc (.cells (vals (fillP 0)).toArray 29)) := (below_alloc w _).alloc (by simp) _
  have HE : Hid (chkE k g s t = 0) := by show _ = _; unfold chkE; rw [hok]; rfl
  clear hok
  have hn1 : (256 : Int) < (n : Int) := by omega
  go_enter Try.func11, Try.ntmps11
  go_wp2_with (first
    | (go_at_call 13; refine (qcheck_any k g s t _).mono ?_; rintro e w1 ⟨rfl, hb1⟩; rw [HE.out]; have b2 := b1.kept hb1; have hB1 := bt hbel hb1)
    | (refine wpList_store_blk rfl 29 _ _ rfl _ _ (vals (fillP 0)) rfl rfl b2 (page_fits (fillP_length 0) (fillP_length 0)) (sizeP (fillP_length 0)) (vals_one _) ?_; intro w5 h5 ht5))
  rw [page_whole (fillP_length 0) (fillP_length 0)] at h5
  exact ret_page2 Try.results11 rfl h5 (fillP_length 0) rfl ⟨rfl, ht5.below hB1 (by omega)⟩
theorem refSeal_284 (p : Option Addr) (c : Nat) (xs : List Nat) (w : World) (hx : In w p 284 c xs) :
    Calls Try.prog 34 #[.slice p 284 c] w fun e w' => ∃ p' c', e = .returned (.tuple #[.slice p' 288 c', .int .i64 0]) ∧ In w' p' 288 c' (xs ++ cnt xs) ∧ Below w.heap.size w w' := by
  refine (refSeal_any p 284 c xs w hx).mono ?_
  rintro e w1 ⟨p', n', c', rfl, hin, hb⟩
  have hl := hx.len
  rw [show sealL xs = xs ++ cnt xs from by unfold sealL; rw [if_neg (by omega)]] at hin
  have e1 : n' = 288 := by have := hin.len; rw [List.length_append, cnt_length] at this; omega
  subst e1
  rw [show sealE xs = 0 from by unfold sealE; rw [if_neg (by omega)]]
  exact ⟨p', c', rfl, hin, hb⟩
set_option maxRecDepth 100000 in
set_option maxHeartbeats 4000000 in
theorem qencode_ok (k g s t : Int) (p : Option Addr) (n c : Nat) (data : List Nat) (w : World) (hd : In w p n c data) (hok : chkB k g s t = true) (hn : n ≤ 256) :
    Calls Try.prog 11 #[.agg #[.int .i64 k, .int .i64 g, .int .i64 s, .int .i64 t], .slice p n c] w fun e w' => e = .returned (.tuple #[.agg (vals (encL k g s t data)).toArray, .int .i64 0]) ∧ Below w.heap.size w w' := by
  obtain ⟨i0, hi, hz0, hz1, hz2⟩ := info_parts info5
  have hz := zeroPage
  have b0 : Blk ((w.alloc (.cells #[.int .i64 k, .int .i64 g, .int .i64 s, .int .i64 t] 23)).alloc (.cells (vals (fillP 0)).toArray 29)) w.heap.size 23 [.int .i64 k, .int .i64 g, .int .i64 s, .int .i64 t] := (Blk.new' w 23 #[.int .i64 k, .int .i64 g, .int .i64 s, .int .i64 t]).alloc _
  have b1 : Blk ((w.alloc (.cells #[.int .i64 k, .int .i64 g, .int .i64 s, .int .i64 t] 23)).alloc (.cells (vals (fillP 0)).toArray 29)) (w.heap.size + 1) 29 (vals (fillP 0)) := by
    have := Blk.new (w.alloc (.cells #[.int .i64 k, .int .i64 g, .int .i64 s, .int .i64 t] 23)) 29 (vals (fillP 0)); rwa [World.size_alloc] at this
  have hbel : Below w.heap.size w ((w.alloc (.cells #[.int .i64 k, .int .i64 g, .int .i64 s, .int .i64 t] 23)).alloc (.cells (vals (fillP 0)).toArray 29)) := (below_alloc w _).alloc (by simp) _
  have HE : Hid (chkE k g s t = 0) := by show _ = _; unfold chkE; rw [hok]; rfl
  have HD : Hid (data.length = n) := hd.len
  have hn1 : ¬ (256 : Int) < (n : Int) := by omega
  have HBL : Hid (∀ x ∈ bodyL k g s t data, x < 256) := bodyL_byte hok hd.byte
  have HBB : Hid (fillD data ++ headL k g s t = bodyL k g s t data) := rfl
  have hP : IsP (encL k g s t data) := encL_isP hok (by rw [hd.len]; exact hn) hd.byte
  have HOK : Hid (chkB k g s t = true) := hok
  clear hok
  go_enter Try.func11, Try.ntmps11
  go_wp2_with (first
    | (go_at_call 13; refine (qcheck_any k g s t _).mono ?_; rintro e w1 ⟨rfl, hb1⟩; rw [HE.out]; have b2 := b1.kept hb1; have hB1 := bt hbel hb1; have b3 := b0.kept hb1)
    | (at_builtin; refine wpList_append_in rfl (.tmp 18) (.tmp 19) rfl w1.heap.size (.slice none 0 0) 0 [] rfl (World.ownsRow_nil _ _ _ _) p n c data rfl (hd.below hB1) (by omega) (Nat.le_refl _) ?_; intro p2 c2 w2 hown2 hgrow2; rw [Nat.zero_add, List.nil_append] at hown2; have hb2 : Below w1.heap.size w1 w2 := (Below.refl _ _).grown hgrow2 (Nat.le_refl _) (fun j hj => by simp [Value.ownBlock] at hj)))
  clear b0 b1 hbel hb1
  go_loopw [7] (fun v wr => ∃ j : Nat, n + j ≤ 256 ∧ wr.ownsRow w1.heap.size 5 1 v (n + j) (vals (data ++ List.replicate j 0)) ∧ Below w1.heap.size w1 wr) (fun v _ => 256 - sliceLen v)
  case atStart => exact ⟨0, by omega, by simpa using hown2, hb2⟩
  case round =>
    clear hown2 hb2 hgrow2
    obtain ⟨j, hj, hown, hbl⟩ := hrel
    obtain ⟨p3, c3, rfl⟩ := owns_slice hown
    by_cases hlt : n + j < 256
    · have hdd : ((n + j : Nat) : Int) < 256 := by omega
      go_wp2_with (at_builtin; refine wpList_append_own _ rfl (.tmp 24) (.tmp 25) 24 rfl w1.heap.size 5 i0 (.int .u8 0) 1 1 Try.underlying24 hi hz0 hz1 hz2 rfl (by decide) _ (n + j) _ rfl (hown.alloc _) ⟨wr.heap.size, 0, none⟩ 1 1 [.int .u8 0] rfl rfl (one_cell_at _ _) (by intro u hu; simp at hu; subst hu; rfl) (by unfold maxLen; omega) (by omega) (by have := hbl.size; simp; omega) ?_; intro v4 w4 hown4 hgrow4 _; rw [zero_snoc] at hown4; have hb4 : Below w1.heap.size w1 w4 := (hbl.alloc hbl.size _).grown hgrow4 (by have := hbl.size; simp; omega) (fun q hq => (hown.lt q hq).1))
      obtain ⟨p4, c4, rfl⟩ := owns_slice hown4
      go_roundw
      case rel => exact ⟨j + 1, by omega, hown4, hb4⟩
      case measure => simp [sliceLen]; omega
    · have hj6 : j = 256 - n := by omega
      subst hj6
      rw [show n + (256 - n) = 256 from by omega, show data ++ List.replicate (256 - n) 0 = fillD data from by unfold fillD; rw [HD.out]] at hown
      have b4 := b3.kept hbl
      have b5 := b2.kept hbl
      have hB2 := bt hB1 hbl
      have hsz := hbl.size
      have e256 : n + (256 - n) = 256 := by omega
      rw [e256]
      clear e256 hlt hj
      go_wp2_with (first
        | (refine wpList_load_mid rfl 23 _ rfl w.heap.size 0 rfl [.int .i64 k, .int .i64 g, .int .i64 s, .int .i64 t] _ (b4.range 0 4 _ rfl) Try.underlying23 rfl hdr_size ?_)
        | (go_at_call 35; refine (qheader_any k g s t _ HOK.out).mono ?_; rintro e w5 ⟨p5, c5, rfl, hin5, hb5⟩; have hB3 := bt hB2 hb5; have b6 := b5.kept hb5; have hown5 := owns_below hown hb5)
        | (at_builtin; refine wpList_append_in rfl (.tmp 28) (.tmp 30) rfl w1.heap.size _ 256 (fillD data) rfl hown5 p5 28 c5 (headL k g s t) rfl hin5 (by omega) (Nat.le_trans hsz hb5.size) ?_; intro p6 c6 w6 hown6 hgrow6; rw [HBB.out] at hown6; have b7 := Blk.grown b6 hgrow6 (b6.not_row (by decide) hown5); have hb6 : Below w.heap.size w w6 := hB3.grown hgrow6 hB3.size (fun q hq => by have := (hown5.lt q hq).1; have := b2.lt; omega); obtain ⟨p6', c6', hv6, hin6⟩ := in_of_owns hown6 HBL.out (by omega); cases hv6)
        | (go_at_call 34; refine (refSeal_284 p6 c6 (bodyL k g s t data) _ hin6).mono ?_; rintro e w7 ⟨p7, c7, rfl, hin7, hb7⟩; have hB7 := bt hb6 hb7; have b8 := b7.kept hb7)
        | (go_at_call 36; refine (qof_any p7 c7 (encL k g s t data) _ hin7).mono ?_; rintro e w8 ⟨rfl, hb8⟩; have hB8 := bt hB7 hb8; have b9 := b8.kept hb8)
        | (refine wpList_store_blk rfl 29 (.tmp 4) (.tmp 36) rfl _ _ (vals (encL k g s t data)) rfl rfl b9 (page_fits hP.1 (fillP_length 0)) (sizeP hP.1) (vals_one _) ?_; intro w9 h9 ht9))
      rw [page_whole hP.1 (fillP_length 0)] at h9
      exact ret_page2 Try.results11 rfl h9 hP.1 rfl ⟨rfl, ht9.below hB8 (by omega)⟩
theorem qencode_any (k g s t : Int) (p : Option Addr) (n c : Nat) (data : List Nat) (w : World) (hd : In w p n c data) :
    Calls Try.prog 11 #[.agg #[.int .i64 k, .int .i64 g, .int .i64 s, .int .i64 t], .slice p n c] w fun e w' => e = .returned (.tuple #[.agg (vals (encP k g s t data)).toArray, .int .i64 (encE k g s t data)]) ∧ Below w.heap.size w w' := by
  have hl := hd.len
  cases hok : chkB k g s t with
  | false =>
    have e1 : encE k g s t data = 30 := by unfold encE; rw [hok]; rfl
    have e2 : encP k g s t data = fillP 0 := by unfold encP; rw [e1]; rfl
    rw [e1, e2]
    exact qencode_head k g s t p n c w hok
  | true =>
    by_cases hn : 256 < n
    · have e1 : encE k g s t data = 3 := by unfold encE; rw [hok, if_pos rfl, if_pos (by omega)]
      have e2 : encP k g s t data = fillP 0 := by unfold encP; rw [e1]; rfl
      rw [e1, e2]
      exact qencode_long k g s t p n c w hok hn
    · have e1 : encE k g s t data = 0 := by unfold encE; rw [hok, if_pos rfl, if_neg (by omega)]
      have e2 : encP k g s t data = encL k g s t data := by unfold encP; rw [e1]; rfl
      rw [e1, e2]
      exact qencode_ok k g s t p n c data w hd hok (by omega)
end Go.Proofs.Ytmagcohdhljaeaa
