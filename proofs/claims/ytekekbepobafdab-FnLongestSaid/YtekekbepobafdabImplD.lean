/- A relief's own methods: a cell, its place; the lists of a relief. -/
import Derived.Test.YtekekbepobafdabLawV
import Derived.Laws.CopyOwn
namespace Go.Proofs.Ytekekbepobafdab
open Go.RowKit
set_option linter.unusedVariables false

theorem ret_int {k : IntKind} {a b : Int} (h : a = b) : Ending.returned (.int k a) = .returned (.int k b) := by rw [h]

def IntPost (m : Int) (w : World) (e : Ending) (w' : World) : Prop := e = .returned (.int .i64 m) ∧ Below w.heap.size w w'

set_option maxHeartbeats 1000000 in
set_option maxRecDepth 20000 in
theorem index_any (R C n gg cap : Nat) (r c : Int) (m : Nat) (w : World) (hm : r * C + c = m) (h0 : 0 ≤ r * C) (h1 : r * C ≤ 1000) (h2 : m ≤ 1000) :
    Calls Try.prog 78 #[.agg #[.int .i64 R, .int .i64 C, .slice (some ⟨gg, 0, none⟩) n cap], .int .i64 r, .int .i64 c] w (IntPost m w) := by
  have hs0 : 0 ≤ r * C + c := by omega
  have hs1 : r * C + c ≤ 1000 := by omega
  have HM := Lib.hid hm
  clear hm
  go_enter Try.func78, Try.ntmps78
  go_wp2
  go_ret
  exact ⟨ret_int HM.out, (Below.refl _ _).alloc (Nat.le_refl _) _⟩

set_option maxHeartbeats 2000000 in
set_option maxRecDepth 20000 in
theorem at_any (R C n gg cap : Nat) (Z : Int) (r c : Int) (m : Nat) (w : World) (hm : r * C + c = m) (h0 : 0 ≤ r * C) (h1 : r * C ≤ 1000) (h2 : m < n) (h3 : n ≤ 1000) (hc : w.cell? ⟨gg, m, none⟩ = some (.int .i64 Z)) :
    Calls Try.prog 92 #[.agg #[.int .i64 R, .int .i64 C, .slice (some ⟨gg, 0, none⟩) n cap], .int .i64 r, .int .i64 c] w (IntPost Z w) := by
  have HM := Lib.hid hm
  have hgg : gg < w.heap.size := World.block_lt_of_cell? _ _ hc
  clear hm
  have hm0 : (0 : Int) ≤ m := by omega
  have hm1 : (m : Int) < n := by omega
  have HC := Lib.hid hc
  clear hc
  go_enter Try.func92, Try.ntmps92
  go_wp2_with fail
  go_region_held3 (fun w' => w'.cell? ⟨w.heap.size, 0, none⟩ = some (.int .i64 R) ∧ w'.cell? ⟨w.heap.size, 1, none⟩ = some (.int .i64 C) ∧ w'.cell? ⟨w.heap.size, 2, none⟩ = some (.slice (some ⟨gg, 0, none⟩) n cap) ∧ w'.cell? ⟨gg, m, none⟩ = some (.int .i64 Z))
    (first | exact ⟨by simp [go_sem], by simp [go_sem], by simp [go_sem], (World.cell?_of_block (a := ⟨gg, m, none⟩) (Below.heap_alloc w _ gg hgg)).trans HC.out⟩ | exact s4)
    (first | (go_at_call 78; refine (index_any R C n gg cap r c m _ HM.out h0 h1 (by omega)).mono ?_; rintro e w2 ⟨rfl, hb2⟩; have s4 : w2.cell? ⟨w.heap.size, 0, none⟩ = some (.int .i64 R) ∧ w2.cell? ⟨w.heap.size, 1, none⟩ = some (.int .i64 C) ∧ w2.cell? ⟨w.heap.size, 2, none⟩ = some (.slice (some ⟨gg, 0, none⟩) n cap) ∧ w2.cell? ⟨gg, m, none⟩ = some (.int .i64 Z) := ⟨(hb2.cell (p := ⟨w.heap.size, 0, none⟩) (by simp)).trans (by simp [go_sem]), (hb2.cell (p := ⟨w.heap.size, 1, none⟩) (by simp)).trans (by simp [go_sem]), (hb2.cell (p := ⟨w.heap.size, 2, none⟩) (by simp)).trans (by simp [go_sem]), (hb2.cell (p := ⟨gg, m, none⟩) (by simp; omega)).trans ((World.cell?_of_block (a := ⟨gg, m, none⟩) (Below.heap_alloc w _ gg hgg)).trans HC.out)⟩; have HB2 := Lib.hid hb2; clear hb2))
  all_goals go_wp2
  all_goals go_ret
  all_goals exact ⟨rfl, ((Below.refl _ _).alloc (Nat.le_refl _) _).trans (HB2.out.undrew.mono (by simp))⟩

/-- the state of the loop that makes the lists: k rows are made -/
structure LInv (w wr : World) (R C n gg cap : Nat) (Z : Nat → Int) (k : Nat) (Gb : Nat → Nat) : Prop where
  below : Below w.heap.size w wr
  size : w.heap.size + 2 ≤ wr.heap.size
  box : wr.heap[w.heap.size]? = some (.cells #[.int .i64 R, .int .i64 C, .slice (some ⟨gg, 0, none⟩) n cap] 49 (0, 0))
  outer : wr.rowIs (w.heap.size + 1) 28 R (fun r => if r < k then .slice (some ⟨Gb r, 0, none⟩) C C else .slice none 0 0)
  rows : ∀ r, r < k → w.heap.size + 1 < Gb r ∧ Gb r < wr.heap.size ∧ wr.rowIs (Gb r) 3 C (fun c => .int .i64 (Z (r * C + c)))
  inj : ∀ r s, r < k → s < k → Gb r = Gb s → r = s

/-- behind the making of row k -/
structure LMid (w wr : World) (R C n gg cap : Nat) (Z : Nat → Int) (k : Nat) (Gb : Nat → Nat) (g : Nat) : Prop where
  below : Below w.heap.size w wr
  lt : w.heap.size + 1 < g ∧ g < wr.heap.size
  box : wr.heap[w.heap.size]? = some (.cells #[.int .i64 R, .int .i64 C, .slice (some ⟨gg, 0, none⟩) n cap] 49 (0, 0))
  outer : wr.rowIs (w.heap.size + 1) 28 R (fun r => if r = k then .slice (some ⟨g, 0, none⟩) C C else if r < k then .slice (some ⟨Gb r, 0, none⟩) C C else .slice none 0 0)
  rows : ∀ r, r < k → w.heap.size + 1 < Gb r ∧ Gb r < g ∧ wr.rowIs (Gb r) 3 C (fun c => .int .i64 (Z (r * C + c)))
  inj : ∀ r s, r < k → s < k → Gb r = Gb s → r = s
  row : wr.heap[g]? = some (.cells (List.replicate C (Value.int .i64 0)).toArray 3 (0, 0))

theorem madeCells_replicate (z : Value) (n : Nat) : madeCells #[z] n = (List.replicate n z).toArray := by
  apply Array.ext'
  rw [toList_madeCells_one]

theorem LInv.mid {w wr : World} {R C n gg cap : Nat} {Z : Nat → Int} {k : Nat} {Gb : Nat → Nat} (h : LInv w wr R C n gg cap Z k Gb) :
    LMid w ((wr.alloc (.cells (madeCells #[.int .i64 0] C) 3)).setCell ⟨w.heap.size + 1, k, none⟩ (.slice (some ⟨wr.heap.size, 0, none⟩) C C)) R C n gg cap Z k Gb wr.heap.size := by
  obtain ⟨h1, h2, h3, h4, h5, h6⟩ := h
  refine ⟨(h1.alloc (by omega) _).setCell (by show w.heap.size ≤ w.heap.size + 1; omega) _, ⟨by omega, by simp [World.setCell]⟩, ?_, ?_, fun r hr => ?_, h6, ?_⟩
  · rw [Below.heap_setCell _ _ _ _ (by show w.heap.size ≠ w.heap.size + 1; omega), Below.heap_alloc _ _ _ (by omega)]; exact h3
  · exact ((h4.alloc _).set k _).congr (fun j _ => rfl)
  · obtain ⟨a1, a2, a3⟩ := h5 r hr
    exact ⟨a1, a2, (a3.alloc _).setOther (by show Gb r ≠ w.heap.size + 1; omega) _⟩
  · rw [Below.heap_setCell _ _ _ _ (by show wr.heap.size ≠ w.heap.size + 1; omega), heap_alloc_new, madeCells_replicate]

theorem LMid.fill {w wr w3 w4 : World} {R C n gg cap : Nat} {Z : Nat → Int} {k : Nat} {Gb : Nat → Nat} {g : Nat} (h : LMid w wr R C n gg cap Z k Gb g) (hb : Below wr.heap.size wr w3) (hb4 : Below g w3 w4)
    (hrow : w4.heap[g]? = some (.cells (splice (List.replicate C (Value.int .i64 0)) 0 ((List.range C).map fun c => Value.int .i64 (Z (k * C + c)))).toArray 3 (0, 0))) :
    LInv w w4 R C n gg cap Z (k + 1) (fun r => if r = k then g else Gb r) := by
  obtain ⟨h1, ⟨h2, h2'⟩, h3, h4, h5, h6, h7⟩ := h
  have hs := hb.size
  have hs4 := hb4.size
  have old : ∀ b, b < g → w4.heap[b]? = wr.heap[b]? := fun b hbg => (hb4.block b hbg).trans (hb.block b (by omega))
  have hg4 : g < w4.heap.size := by omega
  refine ⟨(h1.trans (hb.mono (by omega))).trans (hb4.mono (by omega)), by omega, (old _ (by omega)).trans h3, ?_, fun r hr => ?_, fun r s hr hs' e => ?_⟩
  · refine (h4.of_block (old _ h2)).congr (fun j _ => ?_)
    by_cases e : j = k
    · subst e; simp
    · by_cases e2 : j < k
      · simp [e, e2, Nat.lt_succ_of_lt e2]
      · have : ¬ j < k + 1 := by omega
        simp [e, e2, this]
  · by_cases e : r = k
    · subst e
      simp only [if_true]
      refine ⟨h2, hg4, _, hrow, ?_, fun c hc => ?_⟩
      · simp [splice]
      · simp [splice, hc]
    · obtain ⟨a1, a2, a3⟩ := h5 r (by omega)
      simp only [e, if_false]
      exact ⟨a1, by omega, a3.of_block (old _ a2)⟩
  · by_cases e1 : r = k
    · by_cases e2 : s = k
      · omega
      · have := (h5 s (by omega)).2.1
        simp only [e1, e2, if_true, if_false] at e
        omega
    · by_cases e2 : s = k
      · have := (h5 r (by omega)).2.1
        simp only [e1, e2, if_true, if_false] at e
        omega
      · simp only [e1, e2, if_false] at e
        exact h6 r s (by omega) (by omega) e

/-- the grid of R rows of C numbers that lie flat -/
def gridOf (R C : Nat) (Z : Nat → Int) : G := { n := R, len := fun _ => C, z := fun r c => Z (r * C + c) }

def ListsPost (R C : Nat) (Z : Nat → Int) (w : World) (e : Ending) (w' : World) : Prop :=
  ∃ v, e = .returned v ∧ (∃ a l c, v = .slice a l c) ∧ OwM w.heap.size w'.heap.size w' v (gridOf R C Z) ∧ Below w.heap.size w w'

theorem LInv.done {w wr : World} {R C n gg cap : Nat} {Z : Nat → Int} {Gb : Nat → Nat} (h : LInv w wr R C n gg cap Z R Gb) (hR : R ≤ 7) (hC : C ≤ 7) (hZ : ∀ r, r < R → ∀ c, c < C → -9223372036854775808 ≤ Z (r * C + c) ∧ Z (r * C + c) ≤ 9223372036854775807) :
    ListsPost R C Z w (.returned (.slice (some ⟨w.heap.size + 1, 0, none⟩) R R)) wr := by
  obtain ⟨h1, h2, h3, h4, h5, h6⟩ := h
  refine ⟨_, rfl, ⟨_, _, _, rfl⟩, Or.inr ⟨w.heap.size + 1, Gb, rfl, by simp only [gridOf]; omega, by omega, by omega, h4.congr (fun i hi => by simp [hi, gridOf]), fun r hr => ?_, fun r s hr hs => h6 r s hr hs⟩, h1⟩
  obtain ⟨a1, a2, a3⟩ := h5 r hr
  exact ⟨by omega, a2, by omega, by simp only [gridOf]; omega, a3, fun c hc => hZ r hr c hc⟩

theorem Try.sizeI : (Try.prog.info? 3).map (·.size) = some 1 := by kernel_rfl

theorem keep4 {b : Nat} {w w2 : World} {x k y : Nat} {p q r s : Value} (h : Below b w w2) (hx : x < b) (hy : y < b) (h0 : w.cell? ⟨x, k, none⟩ = some p) (h1 : w.cell? ⟨y, 0, none⟩ = some q) (h2 : w.cell? ⟨y, 1, none⟩ = some r) (h3 : w.cell? ⟨y, 2, none⟩ = some s) :
    w2.cell? ⟨x, k, none⟩ = some p ∧ w2.cell? ⟨y, 0, none⟩ = some q ∧ w2.cell? ⟨y, 1, none⟩ = some r ∧ w2.cell? ⟨y, 2, none⟩ = some s :=
  ⟨(h.cell (p := ⟨x, k, none⟩) hx).trans h0, (h.cell (p := ⟨y, 0, none⟩) hy).trans h1, (h.cell (p := ⟨y, 1, none⟩) hy).trans h2, (h.cell (p := ⟨y, 2, none⟩) hy).trans h3⟩

theorem lists_src {w w3 : World} {gg n m k C : Nat} {Z : Nat → Int} (hm : m = k * C) (hmn : m + C ≤ n) (hc : ∀ i, i < n → w.cell? ⟨gg, i, none⟩ = some (.int .i64 (Z i))) (he : ∀ i, i < n → w3.cell? ⟨gg, i, none⟩ = w.cell? ⟨gg, i, none⟩) :
    ∀ j v, ((List.range C).map fun c => Value.int .i64 (Z (k * C + c)))[j]? = some v → w3.cell? ((⟨gg, m, none⟩ : Addr).add j) = some v := by
  intro j v hj
  rw [List.getElem?_map, Option.map_eq_some_iff] at hj
  obtain ⟨c, h1, rfl⟩ := hj
  rw [List.getElem?_eq_some_iff] at h1
  obtain ⟨h2, h3⟩ := h1
  simp at h2 h3
  subst h3
  have : (⟨gg, m, none⟩ : Addr).add j = ⟨gg, m + j, none⟩ := by unfold Addr.add; split <;> simp_all
  rw [this, he _ (by omega), hc _ (by omega), hm]

set_option maxHeartbeats 4000000 in
set_option maxRecDepth 20000 in
theorem lists_any (R C n gg cap : Nat) (Z : Nat → Int) (w : World) (hn : n = R * C) (hR : R ≤ 7) (hC : C ≤ 7) (hC1 : 1 ≤ C) (hc : ∀ i, i < n → w.cell? ⟨gg, i, none⟩ = some (.int .i64 (Z i))) (hgg : gg < w.heap.size) (hcap : n ≤ cap)
    (hZ : ∀ i, i < n → -9223372036854775808 ≤ Z i ∧ Z i ≤ 9223372036854775807) :
    Calls Try.prog 93 #[.agg #[.int .i64 R, .int .i64 C, .slice (some ⟨gg, 0, none⟩) n cap]] w (ListsPost R C Z w) := by
  have hmk1 := run_make_row' (P := Try.prog) 23 28 (.slice none 0 0) 24 Try.underlying23 Try.infoR rfl .i64 .i64 R (by omega) (by omega)
  have hmk2 := run_make_row' (P := Try.prog) 28 3 (.int .i64 0) 8 Try.underlying28 Try.infoI rfl .i64 .i64 C (by omega) (by omega)
  have hn49 : n ≤ 49 := by rw [hn]; exact Nat.mul_le_mul hR hC
  have HN := Lib.hid hn
  have HC := Lib.hid hc
  have HZ := Lib.hid hZ
  clear hn hc hZ
  go_enter Try.func93, Try.ntmps93
  go_wp2
  clear hmk1
  go_loopw [10] (fun i wr => ∃ (k : Nat) (Gb : Nat → Nat), k ≤ R ∧ i = .int .i64 k ∧ LInv w wr R C n gg cap Z k Gb) (fun i _ => R - (intOf i).toNat)
  case atStart =>
    refine ⟨0, fun _ => 0, Nat.zero_le _, rfl, ((Below.refl _ _).alloc (Nat.le_refl _) _).alloc (by simp) _, by simp, ?_, ?_, fun r hr => by omega, fun r s hr => by omega⟩
    · rw [Below.heap_alloc _ _ _ (by simp)]; exact heap_alloc_new _ _
    · have hw := World.rowIs_made (w.alloc (Obj.cells #[Value.int IntKind.i64 ↑R, Value.int IntKind.i64 ↑C, Value.slice (some { block := gg, off := 0 }) n cap] 49)) (.slice none 0 0) R 28
      have hs : (w.alloc (Obj.cells #[Value.int IntKind.i64 ↑R, Value.int IntKind.i64 ↑C, Value.slice (some { block := gg, off := 0 }) n cap] 49)).heap.size = w.heap.size + 1 := by simp
      rw [hs] at hw
      exact hw.congr (fun j _ => by simp)
  case round =>
    obtain ⟨k, Gb, hk, rfl, hinv⟩ := hrel
    by_cases hlt : k < R
    · obtain ⟨c0, c1, c2, _, _, _⟩ := cells3 hinv.box
      have o1 : ∀ o, (wr.alloc o).cell? ⟨w.heap.size + 1, k, none⟩ = some (.slice none 0 0) := fun o => by
        have := (hinv.outer.alloc o).cell hlt
        simpa using this
      have o2 : ∀ o, (wr.alloc o).frozen? ⟨w.heap.size + 1, k, none⟩ = false := fun o => (hinv.outer.alloc o).frozen k
      have hmid := hinv.mid
      have HM := Lib.hid hmid
      have hlt' : (k : Int) < R := by omega
      clear hinv hmid
      go_wp2_with fail
      generalize ((wr.alloc (Obj.cells (madeCells #[Value.int IntKind.i64 0] C) 3)).setCell { block := w.heap.size + 1, off := k } (Value.slice (some { block := wr.heap.size, off := 0 }) C C)) = wm at HM ⊢
      generalize wr.heap.size = g at HM ⊢
      have hm := HM.out
      obtain ⟨m, hmm⟩ : ∃ m, m = k * C := ⟨_, rfl⟩
      have hmn : m + C ≤ n := by
        have h1 : (k + 1) * C ≤ R * C := Nat.mul_le_mul_right C hlt
        rw [Nat.add_mul, ← hmm, ← HN.out] at h1
        omega
      have hI : (k : Int) * C + 0 = m := by rw [hmm]; simp
      have hI0 : (0 : Int) ≤ (k : Int) * C := by omega
      have hI1 : (k : Int) * C ≤ 1000 := by omega
      have HI := Lib.hid hI
      have HMM := Lib.hid hmm
      have hgl := hm.lt.2
      have hgw : w.heap.size + 1 < g := hm.lt.1
      have hcne : ¬ cap = m := by omega
      have hm0 : (0 : Int) ≤ m := by omega
      have hm1 : (m : Int) ≤ n := by omega
      have hm2 : (m : Int) ≤ cap := by omega
      have hm3 : (n : Int) ≤ cap := by omega
      have hm4 : m ≤ n := by omega
      have hm5 : m ≤ cap := by omega
      have k0 : wm.cell? ⟨w.heap.size + 1, k, none⟩ = some (.slice (some ⟨g, 0, none⟩) C C) := by simpa using hm.outer.cell hlt
      obtain ⟨k1, k2, k3, _, _, _⟩ := cells3 hm.box
      have hlen : ((List.range C).map fun c => Value.int .i64 (Z (k * C + c))).length = C := by simp
      have HLEN := Lib.hid hlen
      clear hI hmm hm hlen
      go_region_held3 (fun w' => w'.cell? ⟨w.heap.size + 1, k, none⟩ = some (.slice (some ⟨g, 0, none⟩) C C) ∧ w'.cell? ⟨w.heap.size, 0, none⟩ = some (.int .i64 R) ∧ w'.cell? ⟨w.heap.size, 1, none⟩ = some (.int .i64 C) ∧ w'.cell? ⟨w.heap.size, 2, none⟩ = some (.slice (some ⟨gg, 0, none⟩) n cap))
        (first | exact ⟨k0, k1, k2, k3⟩ | exact s4 | exact s5)
        (first
          | (go_at_call 78; refine (index_any R C n gg cap k 0 m _ HI.out hI0 hI1 (by omega)).mono ?_; rintro e w3 ⟨rfl, hb0⟩; have hb3 := hb0.undrew; have s4 := keep4 hb3 (by omega) (by omega) k0 k1 k2 k3; have HB3 := Lib.hid hb3; have HG3 := Lib.hid ((hb3.block g hgl).trans HM.out.row); have HS3 := Lib.hid (lists_src (w3 := w3) HMM.out hmn HC.out (fun i hi => (((HM.out.below.trans (hb3.mono HM.out.below.size)).cell (p := ⟨gg, i, none⟩) hgg)))); clear hb0 hb3)
          | (refine step_copy_splice rfl _ _ 28 28 rfl 3 Try.underlying28 Try.sizeI (some ⟨g, 0, none⟩) (some ⟨gg, m, none⟩) C C (n - m) (cap - m) (by rfl) (by rfl) g 0 (List.replicate C (Value.int .i64 0)) 3 HG3.out ((List.range C).map fun c => Value.int .i64 (Z (k * C + c))) (by rw [HLEN.out]; show C = min (n - m) C; omega) (fun _ => ⟨rfl, _, rfl, HS3.out⟩) (by simp) (by simp [Value.oneCell']) g w3 (Below.refl _ _) (Nat.le_refl _) ?_; intro w4 hrow hb4; have s5 := keep4 (b := g) hb4 (by omega) (by omega) s4.1 s4.2.1 s4.2.2.1 s4.2.2.2; have HINV := Lib.hid (HM.out.fill HB3.out hb4 hrow.out); clear hrow hb4))
      all_goals
        go_wp2
        go_roundw
        case rel => exact ⟨k + 1, _, by omega, by go_num, HINV.out⟩
        case measure => simp [intOf]; omega
    · have e : k = R := by omega
      subst e
      have HD := Lib.hid (hinv.done hR hC (fun r hr c hc => HZ.out _ (by
        rw [HN.out]
        have h1 : (r + 1) * C ≤ k * C := Nat.mul_le_mul_right C hr
        rw [Nat.add_mul] at h1
        omega)))
      clear hinv
      go_wp2
      go_ret
      exact HD.out

end Go.Proofs.Ytekekbepobafdab
