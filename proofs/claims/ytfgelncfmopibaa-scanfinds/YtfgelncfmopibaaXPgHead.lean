/-
  What header and slices.Clone of bytes answer.
-/
import Derived.Test.YtfgelncfmopibaaXPgEnc2
import Derived.Test.YtfgelncfmopibaaXFields
namespace Go.Proofs.Ytfgelncfmopibaa.Pg
open Go.RowKit
/-- The values that stand in a page's header. -/
def fld (P : List Nat) (i : Nat) : Nat := (valsTo wsH ((P.drop 256).take 28) 6).getD i 0
theorem head_tail (xs : List Nat) : tailN wsH xs = 0 := by
  unfold tailN
  rw [wsH_bytes, show atW wsH wsH.length = 224 from by decide +kernel]
  rfl
theorem head_unpackE {xs : List Nat} (h : xs.length = 28) : unpackE wsH xs = 0 := by
  unfold unpackE
  rw [if_neg (by rw [wsH_ok]; decide), if_neg (by rw [h, wsH_bytes]; decide), if_neg (by rw [head_tail]; decide)]
theorem head_unpackL {xs : List Nat} (h : xs.length = 28) : unpackL wsH xs = valsTo wsH xs 6 := by
  unfold unpackL; rw [if_pos (head_unpackE h)]; rfl
theorem unpack_head (p q : Option Addr) (d : Nat) (xs : List Nat) (w : World) (hx : InI w p 6 6 wsH) (hy : In w q 28 d xs) :
    Calls Try.prog 87 #[.slice p 6 6, .slice q 28 d] w fun e w' => ∃ p' c', e = .returned (.tuple #[.slice p' 6 c', .int .i64 0]) ∧ In64 w' p' 6 c' (valsTo wsH xs 6) ∧ Below w.heap.size w w' := by
  refine (unpack_any p q 6 6 28 d wsH xs w hx hy).mono ?_
  rintro e w1 ⟨p', n', c', rfl, hin, hb⟩
  rw [head_unpackL hy.len] at hin
  have e3 : n' = 6 := by rw [← hin.len, valsTo_length]; rfl
  subst e3
  rw [head_unpackE hy.len]
  exact ⟨p', c', rfl, hin, hb⟩
theorem cloneB_any (p : Option Addr) (n c : Nat) (xs : List Nat) (w : World) (hx : In w p n c xs) :
    Calls Try.prog 60 #[.slice p n c] w fun e w' => ∃ p' c', e = .returned (.slice p' n c') ∧ In w' p' n c' xs ∧ Below w.heap.size w w' ∧ ∀ a, 0 < n → p' = some a → w.heap.size ≤ a.block := by
  have hroom := hx.room
  have HX : Hid (xs.length = n) := hx.len
  obtain ⟨i0, hi, hz0, hz1, hz2⟩ := info_parts info5
  have hq := fun (w : World) => Lib.run_eql_slice_nil (P := Try.prog) w 75 5 p n c 0 0 Try.underlying75
  cases p with
  | none =>
    have h1 := hx.nil rfl
    have h2 := hx.cap
    have h3 : n = 0 := by omega
    subst h1
    subst h3
    go_enter Try.func60, Try.ntmps60
    go_wp2
    go_ret
    exact ⟨_, _, rfl, hx, Below.refl _ _, fun a h0 => by omega⟩
  | some a =>
    have ho := World.ownsRow_lit (e := 5) (size := 1) (base := w.heap.size) w #[] 0 (Nat.le_refl _) (by unfold maxLen; omega) (by simp)
    have HO : Hid ((w.alloc (.cells #[] 5)).ownsRow w.heap.size 5 1 (.slice (some ⟨w.heap.size, 0, none⟩) 0 0) 0 []) := ho
    clear ho
    go_enter Try.func60, Try.ntmps60
    go_wp2_with (at_builtin; refine wpList_append_own _ rfl (.tmp 5) (.tmp 6) 75 rfl w.heap.size 5 i0 (.int .u8 0) 1 1 Try.underlying75 hi hz0 hz1 hz2 rfl (by decide) (.slice (some ⟨w.heap.size, 0, none⟩) 0 0) 0 [] rfl HO.out a n c (vals xs) rfl (by rw [vals_length, HX.out, Nat.mul_one]) ((hx.below (below_alloc _ _)).cells rfl) (vals_one xs) (by unfold maxLen; omega) (by omega) (by simp) ?_; intro v1 w1 hown1 hgrow1 _)
    go_ret
    rw [List.nil_append, Nat.zero_add] at hown1
    have hlt := hown1.lt
    obtain ⟨p', c', hv, hin⟩ := in_of_owns hown1 hx.byte hroom
    refine ⟨p', c', congrArg Ending.returned hv, hin, (below_alloc w _).grown hgrow1 (by simp) (fun k hk => by simp [Value.ownBlock] at hk; omega), fun a' h0 ha => ?_⟩
    subst ha
    exact (hlt a'.block (by rw [hv]; rfl)).1
theorem In.same {w w' : World} {p : Option Addr} {n c : Nat} {xs : List Nat} (h : In w p n c xs) (hs : w.heap.size ≤ w'.heap.size) (hb : ∀ a, 0 < n → p = some a → a.block < w.heap.size → w'.heap[a.block]? = w.heap[a.block]?) : In w' p n c xs :=
  ⟨h.len, h.cap, h.max, h.room, h.byte, fun h0 => by
    obtain ⟨b, o, hp, hlt, hc⟩ := h.at' h0
    exact ⟨b, o, hp, Nat.lt_of_lt_of_le hlt hs, fun i hi => (World.cell?_of_block (a := ⟨b, o + i, none⟩) (hb ⟨b, o, none⟩ h0 hp hlt)).trans (hc i hi)⟩, h.nil⟩
/-- A part of a block, as a slice of bytes. -/
theorem in_blk {w : World} {g : Nat} {t : TypeId} {P : List Nat} (h : Blk w g t (vals P)) (o n : Nat) (hn : o + n ≤ P.length) (hr : P.length ≤ 1000000) (hP : ∀ x ∈ P, x < 256) (c : Nat) (hc : n ≤ c) (hcm : c ≤ 1000000) : In w (some ⟨g, o, none⟩) n c ((P.drop o).take n) := by
  refine ⟨by rw [List.length_take, List.length_drop]; omega, hc, by unfold maxLen; omega, by omega, fun x hx => hP x (List.mem_of_mem_drop (List.mem_of_mem_take hx)), fun _ => ⟨g, o, rfl, h.lt, fun i hi => ?_⟩, fun e => by simp at e⟩
  refine h.cell' ?_
  rw [vals_get P (o + i) (by omega)]
  congr 2
  simp [el, List.getElem?_take_of_lt hi]
/-- A function with two results, of which the first lies in a cell, a header. -/
theorem ret_hdr2 {fn : Func} {p u : Tmp} (h : fn.results = #[.cell p 31, .tmp u]) {R : Ending → World → Prop} {a : Act} {w : World} {g : Nat} {t : TypeId} {x0 x1 x2 x3 : Value} (hp : a.tmps.getD p undef = .pointer (some ⟨g, 0, none⟩))
    (hb : Blk w g t [x0, x1, x2, x3]) (hd : a.defers = []) (hR : R (.returned (.tuple #[.agg #[x0, x1, x2, x3], a.tmps.getD u undef])) w) : bodyPost Try.prog fn R .ret a w := by
  refine bodyPost_ret (v := .tuple #[.agg #[x0, x1, x2, x3], a.tmps.getD u undef]) ?_ hd hR
  rw [results_cell_tmp h, hp]
  simp only [asAddr, Sem.run_pure, Result.andThen_ok, run_loadVar_mid w g 0 31 [x0, x1, x2, x3] _ (hb.range 0 4 _ rfl) Try.underlying31 rfl (by kernel_rfl)]
set_option maxRecDepth 100000 in
set_option maxHeartbeats 2000000 in
theorem header_any (P : List Nat) (hP : IsP P) (w : World) :
    Calls Try.prog 58 #[.agg (vals (P.drop 256)).toArray] w fun e w' => e = .returned (.tuple #[.agg #[.int .i64 (IntKind.i64.wrap (fld P 0)), .int .i64 (IntKind.i64.wrap (fld P 2)), .int .i64 (IntKind.i64.wrap (fld P 3)), .int .i64 (IntKind.i64.wrap (fld P 4))], .int .i64 0]) ∧ Below w.heap.size w w' := by
  have hO : (P.drop 256).length = 32 := by rw [List.length_drop, hP.1]
  have HO : Hid ((P.drop 256).length = 32) := hO
  have hOb : ∀ x ∈ P.drop 256, x < 256 := fun x hx => hP.2 x (List.mem_of_mem_drop hx)
  have HF : Hid (∀ i, fld P i = (valsTo wsH ((P.drop 256).take 28) 6).getD i 0) := fun _ => rfl
  clear hO
  generalize fld P = F at *
  generalize P.drop 256 = O at *
  have b0 := (Blk.new w 72 (vals O)).alloc (.cells #[.int .i64 0, .int .i64 0, .int .i64 0, .int .i64 0] 31)
  have hin0 := in_blk b0 0 28 (by rw [HO.out]; decide) (by rw [HO.out]; decide) hOb 32 (by decide) (by decide)
  rw [List.drop_zero] at hin0
  have HIN : Hid (In ((w.alloc (.cells (vals O).toArray 72)).alloc (.cells #[.int .i64 0, .int .i64 0, .int .i64 0, .int .i64 0] 31)) (some ⟨w.heap.size, 0, none⟩) 28 32 (O.take 28)) := hin0
  clear hin0 b0
  go_enter Try.func58, Try.ntmps58
  go_wp2
  go_region_held3 (fun _ => True) (trivial)
    (first
      | (go_at_call 88; refine (widths_any _).mono ?_; rintro e w2 ⟨p2, rfl, hin2, hb2⟩)
      | (go_at_call 87; refine (unpack_head p2 _ _ (O.take 28) _ hin2 (HIN.out.below (((Below.refl _ _).drew).trans hb2))).mono ?_; rintro e w3 ⟨p3, c3, rfl, hin3, hb3⟩))
  obtain ⟨b, o, rfl, hb, hc⟩ := hin3.at' (by omega)
  have hv : ∀ i, i < 6 → w3.cell? ⟨b, o + i, none⟩ = some (.int .u64 (F i : Int)) := fun i hi => by rw [hc i hi, HF.out i]; rfl
  have c0 := hv 0 (by decide)
  have c2 := hv 2 (by decide)
  have c3' := hv 3 (by decide)
  have c4 := hv 4 (by decide)
  rw [Nat.add_zero] at c0
  have hbel : Below w.heap.size w ((w.alloc (.cells (vals O).toArray 72)).alloc (.cells #[.int .i64 0, .int .i64 0, .int .i64 0, .int .i64 0] 31)) := (below_alloc w _).alloc (by simp) _
  have b1 := Blk.new' (w.alloc (.cells (vals O).toArray 72)) 31 #[.int .i64 0, .int .i64 0, .int .i64 0, .int .i64 0]
  rw [World.size_alloc] at b1
  have hb23 := (((Below.refl _ _).drew).trans hb2).trans (hb3.mono (((Below.refl _ _).drew).trans hb2).size)
  have b2 := b1.kept hb23
  have hB3 := bt hbel hb23
  have hcap := hin3.cap
  clear hv hc hin2 hin3 hb2 hb3 hbel b1 hb23 HIN HF hP hOb HO
  obtain ⟨f0, hf0⟩ : ∃ f, F 0 = f := ⟨_, rfl⟩
  obtain ⟨f2, hf2⟩ : ∃ f, F 2 = f := ⟨_, rfl⟩
  obtain ⟨f3, hf3⟩ : ∃ f, F 3 = f := ⟨_, rfl⟩
  obtain ⟨f4, hf4⟩ : ∃ f, F 4 = f := ⟨_, rfl⟩
  rw [hf0] at c0
  rw [hf2] at c2
  rw [hf3] at c3'
  rw [hf4] at c4
  have HF : Hid (F 0 = f0 ∧ F 2 = f2 ∧ F 3 = f3 ∧ F 4 = f4) := ⟨hf0, hf2, hf3, hf4⟩
  clear hf0 hf2 hf3 hf4
  go_wp2
  go_region_held3 (fun w' => w'.cell? ⟨b, o, none⟩ = some (.int .u64 (f0 : Int)) ∧ w'.cell? ⟨b, o + 2, none⟩ = some (.int .u64 (f2 : Int)) ∧ w'.cell? ⟨b, o + 3, none⟩ = some (.int .u64 (f3 : Int)) ∧ w'.cell? ⟨b, o + 4, none⟩ = some (.int .u64 (f4 : Int))) (go_keep) (fail)
  clear c0 c2 c3' c4
  obtain ⟨k0, hk0⟩ : ∃ k, IntKind.i64.wrap (f0 : Int) = k := ⟨_, rfl⟩
  obtain ⟨k2, hk2⟩ : ∃ k, IntKind.i64.wrap (f2 : Int) = k := ⟨_, rfl⟩
  obtain ⟨k3, hk3⟩ : ∃ k, IntKind.i64.wrap (f3 : Int) = k := ⟨_, rfl⟩
  obtain ⟨k4, hk4⟩ : ∃ k, IntKind.i64.wrap (f4 : Int) = k := ⟨_, rfl⟩
  rename_i hHeld
  clear hHeld
  rw [hk0, hk2, hk3, hk4]
  have HK : Hid (IntKind.i64.wrap (f0 : Int) = k0 ∧ IntKind.i64.wrap (f2 : Int) = k2 ∧ IntKind.i64.wrap (f3 : Int) = k3 ∧ IntKind.i64.wrap (f4 : Int) = k4) := ⟨hk0, hk2, hk3, hk4⟩
  clear hk0 hk2 hk3 hk4
  have b3 := (b2.alloc (.cells #[.int .i64 k0, .int .i64 k2, .int .i64 k3, .int .i64 k4] 31)).drew
  have b4 := (Blk.new' w3 31 #[.int .i64 k0, .int .i64 k2, .int .i64 k3, .int .i64 k4]).drew
  have hB4 := (hB3.alloc hB3.size (.cells #[.int .i64 k0, .int .i64 k2, .int .i64 k3, .int .i64 k4] 31)).drew
  generalize ((w3.alloc (.cells #[.int .i64 k0, .int .i64 k2, .int .i64 k3, .int .i64 k4] 31)).drew) = W at *
  go_wp2_with (first
    | (refine wpList_load_mid rfl 31 (.tmp 6) rfl w3.heap.size 0 rfl [.int .i64 k0, .int .i64 k2, .int .i64 k3, .int .i64 k4] _ (b4.range 0 4 _ rfl) Try.underlying31 rfl (by kernel_rfl) ?_)
    | (refine wpList_store_blk rfl 31 (.tmp 2) (.tmp 34) rfl _ _ [.int .i64 k0, .int .i64 k2, .int .i64 k3, .int .i64 k4] rfl rfl b3 (by simp) (by kernel_rfl) (by simp [Value.oneCell']) ?_; intro w9 h9 ht9))
  refine ret_hdr2 Try.results58 rfl h9 rfl ⟨?_, ht9.below hB4 (by omega)⟩
  rw [HF.out.1, HF.out.2.1, HF.out.2.2.1, HF.out.2.2.2, HK.out.1, HK.out.2.1, HK.out.2.2.1, HK.out.2.2.2]
  rfl
end Go.Proofs.Ytfgelncfmopibaa.Pg
