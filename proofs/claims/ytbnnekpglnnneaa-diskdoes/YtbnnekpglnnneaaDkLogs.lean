/-
  Log of both disks, and the law's logs.
-/
import Derived.Test.YtbnnekpglnnneaaDkLog
import Derived.Test.YtbnnekpglnnneaaDkGather
namespace Go.Proofs.Ytbnnekpglnnneaa
open Go.RowKit Go.Shelf
attribute [local go_sem] Oper.semAt_some
theorem log_any {w : World} {d sb : Nat} {lv : Value} {s : DS} (h : DiskIn w d sb lv s) (hw : s.writes < 1024) :
    Calls Try.prog 31 #[.pointer (some ⟨d, 0, none⟩)] w fun e w' => ∃ Bs q cq, e = .returned (.func (.func 55) #[] #[.pointer (some ⟨Bs, 0, none⟩)]) ∧ w'.cell? ⟨Bs, 0, none⟩ = some (.slice q s.log.length cq) ∧ Bs < w'.heap.size ∧
      w'.ownsRow w.heap.size 87 257 (.slice q s.log.length cq) s.log.length (flatW s.log) ∧ Below w.heap.size w w' := by
  have hmf : ∀ (fn : Fn) (first cap : Array Value) (w : World), (Instr.makeFunc fn first cap).run Try.prog w = .ok (.func fn first cap) w := fun _ _ _ _ => rfl
  have hl := last_any h hw
  go_enter Try.func31, Try.ntmps31
  go_wp2_with (go_at_call 54; refine hl.mono ?_; rintro e w1 ⟨v, rfl, ho1, hb1⟩; obtain ⟨q, cq, rfl⟩ := owns_slice ho1)
  have hb2 := below_alloc w1 (.cells #[.slice q s.log.length cq] 63)
  have g2 := Blk.new' w1 63 #[.slice q s.log.length cq]
  have ho2 := owns_below ho1 hb2
  go_ret
  exact ⟨w1.heap.size, q, cq, rfl, g2.cell' rfl, g2.lt, ho2, bt hb1 hb2⟩
theorem slice_r0 (q : Option Addr) (n c : Nat) (W : World) : (Instr.slice 38 (.slice q n c) (some (.int .i64 0)) none none).run Try.prog W = .ok (.slice q n c) W := by
  obtain ⟨i0, hi, _, _, _⟩ := info_parts infoRW
  have : (Option.map (fun x : Addr => x.add 0) q) = q := by
    cases q with
    | none => rfl
    | some a => obtain ⟨b, o, s⟩ := a; cases s <;> simp [Addr.add]
  simp [Instr.slice, Instr.sliceBounds, Instr.sliceBound, run_underlying Try.underlying38, asIntOf, sizeOf, typeInfo, hi, this]
theorem rlog_any {w : World} {r : Nat} {V : RV} {t : RS} (h : RefIn w r V t) (hn : t.wrote.length ≤ 1024) : Calls Try.prog 42 #[.pointer (some ⟨r, 0, none⟩)] w fun e w' => e = .returned V.wv ∧ Below w.heap.size w w' := by
  obtain ⟨q, cq, hv⟩ := owns_slice h.wrow
  have g6 := h.blk.cell' (i := 6) (v := V.wv) rfl
  have hwl := h.wec.len
  rw [List.length_map] at hwl
  rw [hv] at g6 ⊢
  have hs := slice_r0 q V.ws.length cq
  have hm : max (0 : Int) ((V.ws.length : Int) - 1024) = 0 := by omega
  have hl : (V.ws.length : Int) ≤ 1024 := by omega
  clear hv hwl hn
  generalize V.ws.length = n at *
  go_enter Try.func42, Try.ntmps42
  go_wp2
  go_quiet (fail)
  go_wp2
  go_ret
  exact ⟨rfl, below_drewN (Below.refl _ _) _⟩
theorem RefIn.cellsSame {w w' : World} {r : Nat} {V : RV} {t : RS} (h : RefIn w r V t) (hs : ∀ (k : Nat) (o : Obj), w.heap[k]? = some o → o.isCells = true → w'.heap[k]? = w.heap[k]?) : RefIn w' r V t := by
  refine h.same (fun k hk => ?_) (fun k cs hk => hs k _ hk rfl)
  rcases hk with rfl | hk | hk | hk
  · exact hs _ _ h.blk rfl
  · obtain ⟨cs, hc, _⟩ := owns_row h.srow hk; exact hs _ _ hc rfl
  · obtain ⟨cs, hc, _⟩ := owns_row h.brow hk; exact hs _ _ hc rfl
  · obtain ⟨cs, hc, _⟩ := owns_row h.wrow hk; exact hs _ _ hc rfl
theorem RefIn.wr {w : World} {r : Nat} {V : RV} {t : RS} (h : RefIn w r V t) {k : Nat} {x : Int × List Nat} (hx : t.wrote[k]? = some x) {g n cap : Nat} (hv : V.wv = .slice (some ⟨g, 0, none⟩) n cap) :
    ∃ sr : SR, w.cell? ⟨g, k * 2, none⟩ = some (.int .i64 x.1) ∧ w.cell? ⟨g, k * 2 + 1, none⟩ = some (.slice sr.p sr.n sr.c) ∧ In w sr.p sr.n sr.c x.2 := by
  have hk : k < t.wrote.length := (List.getElem?_eq_some_iff.1 hx).1
  have hwl := h.wec.len
  rw [List.length_map] at hwl
  obtain ⟨sr, hsr⟩ : ∃ sr, V.ws[k]? = some sr := ⟨_, List.getElem?_eq_getElem (by omega)⟩
  have hz : ((t.wrote.map (·.1)).zip V.ws)[k]? = some (x.1, sr) := by rw [List.getElem?_zip_eq_some]; exact ⟨by rw [List.getElem?_map, hx]; rfl, hsr⟩
  have hf := flat_get rwV 2 ((t.wrote.map (·.1)).zip V.ws) (fun y _ => rfl) k (x.1, sr) hz
  have hw := h.wrow
  obtain ⟨p', c', hv'⟩ := owns_slice hw
  rw [hv] at hw hv'
  cases hv'
  have hc : ∀ j u, j < 2 → (rwV (x.1, sr))[j]? = some u → w.cell? ⟨g, k * 2 + j, none⟩ = some u := fun j u hj hu => by
    rw [hw.cellAt (k * 2 + j) (by omega)]
    rw [← hf, List.getElem?_take_of_lt hj, List.getElem?_drop] at hu
    exact hu
  exact ⟨sr, hc 0 _ (by omega) rfl, hc 1 _ (by omega) rfl, h.wec.each k sr x.2 hsr (by rw [List.getElem?_map, hx]; rfl)⟩
/-- Behind k rounds of logs. -/
structure LogI (w : World) (B6 B7 : Nat) (want : Value) (r : Nat) (V : RV) (t : RS) (W : World) (k : Nat) : Prop where
  res : Blk W w.heap.size 4 [.bool false]
  box : Blk W B6 38 [want]
  cnt : Blk W B7 3 [.int .i64 (k : Int)]
  ref : RefIn W r V t
  bel : Below w.heap.size w W
theorem LogI.abide {w W W' : World} {B6 B7 : Nat} {want : Value} {r : Nat} {V : RV} {t : RS} {k : Nat} (h : LogI w B6 B7 want r V t W k) {row : Option Nat} {B : Nat} (hB : w.heap.size ≤ B) (hg : W.grownBy W' row) (hr : ∀ r, row = some r → B ≤ r ∧ ∃ o : Obj, W.heap[r]? = some o ∧ o.isCells = false) : LogI w B6 B7 want r V t W' k := by
  have hs : ∀ (k : Nat) (o : Obj), W.heap[k]? = some o → o.isCells = true → W'.heap[k]? = W.heap[k]? := fun k o hk hc => grownBy_keeps_cells hg (fun r e => (hr r e).2) hk hc
  exact ⟨h.res.same (hs _ _ h.res rfl), h.box.same (hs _ _ h.box rfl), h.cnt.same (hs _ _ h.cnt rfl), h.ref.cellsSame hs, h.bel.grown hg h.bel.size (fun r e => Nat.le_trans hB (hr r e).1)⟩
theorem RefIn.far {w : World} {r : Nat} {V : RV} {t : RS} (h : RefIn w r V t) {B : Nat} {cs : List Value} (hb : Blk w B 3 cs) (i : Nat) (u : Value) : RefIn (w.setCell ⟨B, i, none⟩ u) r V t := by
  refine h.same (fun k hk => heap_setCell_other _ _ _ _ ?_) (fun k cs' hk => heap_setCell_other _ _ _ _ ?_)
  · rcases hk with rfl | hk | hk | hk
    · exact blk_ne h.blk hb (by decide)
    · exact owns_ne h.srow hk hb (by decide)
    · exact owns_ne h.brow hk hb (by decide)
    · exact owns_ne h.wrow hk hb (by decide)
  · rintro rfl
    rw [Blk, hk] at hb
    simp at hb
theorem LogI.next {w W : World} {B6 B7 : Nat} {want : Value} {r : Nat} {V : RV} {t : RS} {k : Nat} (h : LogI w B6 B7 want r V t W k) (hB : w.heap.size < B7) : LogI w B6 B7 want r V t (W.setCell ⟨B7, 0, none⟩ (.int .i64 ((k + 1 : Nat) : Int))) (k + 1) :=
  ⟨h.res.setOther _ _ (by show w.heap.size ≠ B7; omega), h.box.setOther _ _ (blk_ne h.box h.cnt (by decide)), h.cnt.set 0 _, h.ref.far h.cnt 0 _, h.bel.trans ((Turned.setCell W ⟨B7, 0, none⟩ _).below (Below.refl _ _) (by show w.heap.size ≤ B7; omega))⟩
end Go.Proofs.Ytbnnekpglnnneaa
