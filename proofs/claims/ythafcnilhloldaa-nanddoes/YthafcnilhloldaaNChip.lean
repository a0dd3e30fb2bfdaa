/-
  A chip in memory.
-/
import Derived.Test.YthafcnilhloldaaNPages
namespace Go.Proofs.Ythafcnilhloldaa
open Go.RowKit
/-- What a block of a chip is. -/
structure BlkS where
  pages : List (List Nat)
  wear : Nat
  next : Nat
  bad : Bool
/-- An event. -/
structure Ev where
  at' : Int
  kind : Int
  mask : List Nat
def noEv : Ev := ⟨0, 0, []⟩
/-- What a chip is. -/
structure St where
  nb : Nat
  np : Nat
  bl : List BlkS
  ev : List Ev
  ops : Nat
  on : Bool
  z : Nat → Prop
  cr : Nat
/-- A slice of events that lies in a world, in blocks that are none of S. -/
structure EvsIn (S : Nat → Prop) (w : World) (p : Option Addr) (n c : Nat) (es : List Ev) : Prop where
  len : es.length = n
  cap : n ≤ c
  max : c ≤ maxLen
  at' : 0 < n → ∃ b o, p = some ⟨b, o, none⟩ ∧ b < w.heap.size ∧ ¬ S b ∧ ∀ i e, es[i]? = some e → ∃ q m d, w.cell? ⟨b, o + i * 3, none⟩ = some (.int .i64 e.at') ∧ w.cell? ⟨b, o + i * 3 + 1, none⟩ = some (.int .i64 e.kind) ∧
    w.cell? ⟨b, o + i * 3 + 2, none⟩ = some (.slice q m d) ∧ In w q m d e.mask ∧ ∀ a, 0 < m → q = some a → ¬ S a.block
theorem In.same {w w' : World} {p : Option Addr} {n c : Nat} {xs : List Nat} (h : In w p n c xs) (hs : w.heap.size ≤ w'.heap.size) (hb : ∀ a, 0 < n → p = some a → a.block < w.heap.size → w'.heap[a.block]? = w.heap[a.block]?) : In w' p n c xs :=
  ⟨h.len, h.cap, h.max, h.room, h.byte, fun h0 => by
    obtain ⟨b, o, hp, hlt, hc⟩ := h.at' h0
    exact ⟨b, o, hp, Nat.lt_of_lt_of_le hlt hs, fun i hi => (World.cell?_of_block (a := ⟨b, o + i, none⟩) (hb ⟨b, o, none⟩ h0 hp hlt)).trans (hc i hi)⟩, h.nil⟩
theorem EvsIn.keep {S T : Nat → Prop} {w w' : World} {p : Option Addr} {n c : Nat} {es : List Ev} (h : EvsIn S w p n c es) (hk : Keep T w w') (hT : ∀ k, k < w.heap.size → T k → S k) : EvsIn S w' p n c es :=
  ⟨h.len, h.cap, h.max, fun h0 => by
    obtain ⟨b, o, hp, hlt, hS, hc⟩ := h.at' h0
    have hb : w'.heap[b]? = w.heap[b]? := hk.block b hlt (fun e => hS (hT b hlt e))
    refine ⟨b, o, hp, Nat.lt_of_lt_of_le hlt hk.size, hS, fun i e he => ?_⟩
    obtain ⟨q, m, d, h1, h2, h3, h4, h5⟩ := hc i e he
    exact ⟨q, m, d, (World.cell?_of_block (a := ⟨b, _, none⟩) hb).trans h1, (World.cell?_of_block (a := ⟨b, _, none⟩) hb).trans h2, (World.cell?_of_block (a := ⟨b, _, none⟩) hb).trans h3,
      h4.same hk.size (fun a h0 ha hl => hk.block _ hl (fun e => h5 a h0 ha (hT _ hl e))), h5⟩⟩
theorem EvsIn.mono {S T : Nat → Prop} {w : World} {p : Option Addr} {n c : Nat} {es : List Ev} (h : EvsIn S w p n c es) (hT : ∀ k, k < w.heap.size → T k → S k) : EvsIn T w p n c es :=
  ⟨h.len, h.cap, h.max, fun h0 => by
    obtain ⟨b, o, hp, hlt, hS, hc⟩ := h.at' h0
    refine ⟨b, o, hp, hlt, fun e => hS (hT b hlt e), fun i e he => ?_⟩
    obtain ⟨q, m, d, h1, h2, h3, h4, h5⟩ := hc i e he
    refine ⟨q, m, d, h1, h2, h3, h4, fun a h0 ha e => ?_⟩
    obtain ⟨b', o', hp', hlt', _⟩ := h4.at' h0
    rw [ha] at hp'
    cases hp'
    exact h5 _ h0 ha (hT _ hlt' e)⟩
/-- The blocks of memory that a chip writes to. -/
def fpOf (c bb : Nat) (PV : Nat → Value) (nb : Nat) : Nat → Prop := fun k => k = c ∨ k = bb ∨ ∃ i, i < nb ∧ (PV i).ownBlock = some k
/-- A chip that lies in a world: its own block, its blocks' and their pages'. -/
structure ChipIn (w : World) (c : Nat) (s : St) (bb : Nat) (PV : Nat → Value) : Prop where
  chip : ∃ ep el ec, Blk w c 82 (chipCells s.nb s.np (.slice (some ⟨bb, 0, none⟩) s.nb s.cr) (.slice ep el ec) s.ops s.on) ∧ EvsIn (fun k => fpOf c bb PV s.nb k ∨ s.z k) w ep el ec s.ev
  blks : ∃ BC, Blk w bb 78 BC ∧ BC.length = s.cr * 4 ∧ ∀ i b, s.bl[i]? = some b → BC[i * 4]? = some (PV i) ∧ BC[i * 4 + 1]? = some (.int .i64 (b.wear : Int)) ∧ BC[i * 4 + 2]? = some (.int .i64 (b.next : Int)) ∧ BC[i * 4 + 3]? = some (.bool b.bad)
  bll : s.bl.length = s.nb
  pg : ∀ i b, s.bl[i]? = some b → PagesIn w (PV i) b.pages
  ne : c ≠ bb
  nec : ∀ i, i < s.nb → ∀ k, (PV i).ownBlock = some k → k ≠ c ∧ k ≠ bb
  dis : ∀ i j, i < s.nb → j < s.nb → i ≠ j → ∀ k, (PV i).ownBlock = some k → (PV j).ownBlock ≠ some k
  nbl : 16 ≤ s.nb ∧ s.nb ≤ 256
  npl : 4 ≤ s.np ∧ s.np ≤ 32
  lim : ∀ b ∈ s.bl, b.pages.length ≤ b.next ∧ b.next ≤ s.np ∧ b.wear ≤ s.ops
  ler : s.nb ≤ s.cr
theorem ChipIn.get {w : World} {c : Nat} {s : St} {bb : Nat} {PV : Nat → Value} (h : ChipIn w c s bb PV) (i : Nat) (hi : i < s.nb) : ∃ k, s.bl[i]? = some k := ⟨_, List.getElem?_eq_getElem (by rw [h.bll]; exact hi)⟩
/-- What does not touch a chip's blocks leaves it as it is. -/
theorem ChipIn.keep {S : Nat → Prop} {w w' : World} {c : Nat} {s : St} {bb : Nat} {PV : Nat → Value} (h : ChipIn w c s bb PV) (hk : Keep S w w') (hS : ∀ k, k < w.heap.size → S k → ¬ fpOf c bb PV s.nb k)
    (hE : ∀ ep el ec, EvsIn (fun k => fpOf c bb PV s.nb k ∨ s.z k) w ep el ec s.ev → EvsIn (fun k => fpOf c bb PV s.nb k ∨ s.z k) w' ep el ec s.ev) : ChipIn w' c s bb PV := by
  obtain ⟨ep, el, ec, hc, he⟩ := h.chip
  obtain ⟨BC, hB, hl, hcell⟩ := h.blks
  exact ⟨⟨ep, el, ec, hc.keep hk (fun e => hS _ hc.lt e (.inl rfl)), hE _ _ _ he⟩, ⟨BC, hB.keep hk (fun e => hS _ hB.lt e (.inr (.inl rfl))), hl, hcell⟩, h.bll,
    fun i b hb => (h.pg i b hb).same (fun k hk' => hk.block k ((h.pg i b hb).lt hk') (fun e => hS k ((h.pg i b hb).lt hk') e (.inr (.inr ⟨i, by rw [← h.bll]; exact (List.getElem?_eq_some_iff.1 hb).1, hk'⟩)))), h.ne, h.nec, h.dis, h.nbl, h.npl, h.lim, h.ler⟩
theorem ChipIn.below {w w' : World} {c : Nat} {s : St} {bb : Nat} {PV : Nat → Value} (h : ChipIn w c s bb PV) (hb : Below w.heap.size w w') : ChipIn w' c s bb PV :=
  h.keep (S := fun _ => False) (Keep.of_below hb) (fun _ _ e => e.elim) (fun _ _ _ he => he.keep (T := fun _ => False) (Keep.of_below hb) (fun _ _ e => e.elim))
/-- A function with a page and an error for its results. -/
theorem ret_pageE {fn : Func} {p u : Tmp} (h : fn.results = #[.cell p 46, .tmp u]) {R : Ending → World → Prop} {a : Act} {w : World} {g : Nat} {t : TypeId} {xs : List Nat} {v : Value} (hp : a.tmps.getD p undef = .pointer (some ⟨g, 0, none⟩))
    (hb : Blk w g t (vals xs)) (hl : xs.length = 288) (hd : a.defers = []) (hu : a.tmps.getD u undef = v) (hR : R (.returned (.tuple #[.agg (vals xs).toArray, v])) w) : bodyPost Try.prog fn R .ret a w := by
  have hr := run_loadVar_row w g t 46 (vals xs).toArray (0, 0) _ hb Try.underlying46 rfl (P := Try.prog) (by rw [List.size_toArray, vals_length, hl]; kernel_rfl)
  refine bodyPost_ret (v := .tuple #[.agg (vals xs).toArray, v]) ?_ hd hR
  rw [results_cell_tmp h, hp, hu]
  simp [asAddr, Result.andThen, hr]
theorem zeroVals : (vals (fillP 0)).length = 288 := by rw [vals_length, fillP_length]
theorem reach_ok {nb np : Nat} {on : Bool} {b p : Int} (h : reachE nb np on b p = 0) : ∃ bk pk : Nat, b = bk ∧ p = pk ∧ bk < nb ∧ pk < np ∧ on = true := by
  unfold reachE at h
  split at h
  · split at h
    · exact ⟨b.toNat, p.toNat, by omega, by omega, by omega, by omega, by assumption⟩
    · simp at h
  · simp at h
/-- What a page reads as. -/
def readP (s : St) (b p : Nat) : List Nat := match s.bl[b]? with | some k => k.pages.getD p blankP | none => blankP
def emptyPage : Value := .agg (vals (fillP 0)).toArray
theorem build_page (w : World) : (Instr.build 46 #[]).run Try.prog w = .ok emptyPage w := run_build w 46 #[] _ (by kernel_rfl)
set_option maxRecDepth 100000 in
theorem read_any (c : Nat) (s : St) (bb : Nat) (PV : Nat → Value) (b p : Int) (w : World) (h : ChipIn w c s bb PV) :
    Calls Try.prog 32 #[.pointer (some ⟨c, 0, none⟩), .int .i64 b, .int .i64 p] w fun e w' =>
      e = .returned (.tuple #[if reachE s.nb s.np s.on b p = 0 then .agg (vals (readP s b.toNat p.toNat)).toArray else emptyPage, .int .i64 (reachE s.nb s.np s.on b p)]) ∧ Below w.heap.size w w' := by
  have hz := zeroPage
  have hbp := build_page
  obtain ⟨ep, el, ec, hc, he⟩ := h.chip
  have hb0 := Blk.new w 46 (vals (fillP 0))
  have hbel := below_alloc w (.cells (vals (fillP 0)).toArray 46)
  have hc' := hc.kept hbel
  have hr := reach_any c _ s.nb s.np s.cr s.on b p (w.alloc (.cells (vals (fillP 0)).toArray 46)) (by have := h.nbl; omega) (hc'.cell' (i := 2) rfl) (hc'.cell' (i := 1) rfl) (hc'.cell' (i := 5) rfl)
  by_cases h0 : reachE s.nb s.np s.on b p = 0
  · rw [if_pos h0]
    rw [h0] at hr ⊢
    obtain ⟨bk, pk, rfl, rfl, hbk, hpk, hon⟩ := reach_ok h0
    obtain ⟨BC, hB, hl, hcell⟩ := h.blks
    obtain ⟨K, hx⟩ := h.get bk hbk
    obtain ⟨h1, _⟩ := hcell bk _ hx
    have hP := (h.pg bk _ hx).below hbel
    have hB' := hB.kept hbel
    have hpage := blkPage_any bb (bk * 4) pk (PV bk) _ _ (hB'.cell' h1) hP
    have e : readP s (bk : Int).toNat (pk : Int).toNat = K.pages.getD pk blankP := by simp [readP, hx]
    rw [e]
    have he : IsP (K.pages.getD pk blankP) := by
      rw [List.getD_eq_getElem?_getD]
      rcases Nat.lt_or_ge pk K.pages.length with hlt | hge
      · rw [List.getElem?_eq_getElem hlt]; exact hP.each _ (List.getElem_mem hlt)
      · rw [List.getElem?_eq_none hge]; exact isP_fill 255 (by omega)
    generalize K.pages.getD pk blankP = x at *
    have hc2 := hc'.cell' (i := 2) rfl
    clear hB hcell h1 hx h0 e hc
    have hnb : bk < s.nb := hbk
    go_enter Try.func32, Try.ntmps32
    go_wp2_with (first
      | (go_at_call 37; refine hr.mono ?_; rintro e w' ⟨rfl, rfl⟩)
      | (go_at_call 48; refine hpage.mono ?_; rintro e w1 ⟨rfl, hb1⟩)
      | (refine wpList_store_blk rfl 46 _ _ rfl _ _ (vals x) rfl rfl (hb0.kept hb1) (by rw [zeroVals, vals_length, he.1]; exact Nat.le_refl _) (sizeP he.1) (vals_one _) ?_; intro w2 h2 ht2))
    rw [whole_row (by rw [zeroVals, vals_length, he.1])] at h2
    exact ret_pageE Try.results32 rfl h2 he.1 rfl rfl ⟨rfl, ht2.below (bt hbel hb1) (Nat.le_refl _)⟩
  · rw [if_neg h0]
    generalize reachE s.nb s.np s.on b p = r at *
    have h0' : (r == 0) = false := by simpa using h0
    go_enter Try.func32, Try.ntmps32
    go_wp2_with (first
      | (go_at_call 37; refine hr.mono ?_; rintro e w' ⟨rfl, rfl⟩)
      | (refine wpList_store_blk rfl 46 _ _ rfl _ _ (vals (fillP 0)) rfl rfl hb0 (by rw [zeroVals]; exact Nat.le_refl _) (sizeP (fillP_length _)) (vals_one _) ?_; intro w2 h2 ht2))
    rw [whole_row rfl] at h2
    exact ret_pageE Try.results32 rfl h2 (fillP_length _) rfl rfl ⟨rfl, ht2.below hbel (Nat.le_refl _)⟩
end Go.Proofs.Ythafcnilhloldaa
