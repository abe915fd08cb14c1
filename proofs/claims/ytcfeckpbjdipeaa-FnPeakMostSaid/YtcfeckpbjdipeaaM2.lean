/- Several texts of this family in one. -/
import Derived.Test.YtcfeckpbjdipeaaM1
import Derived.Laws.CopyOwn
import Derived.Deep.AppendLies
import Derived.Deep.Matrix
import Derived.StillTailTactics

/- A relief's own methods: a cell, its place; the lists of a relief. -/
namespace Go.Proofs.Ytcfeckpbjdipeaa
open Go.RowKit
set_option linter.unusedVariables false

theorem ret_int {k : IntKind} {a b : Int} (h : a = b) : Ending.returned (.int k a) = .returned (.int k b) := by rw [h]

def IntPost (m : Int) (w : World) (e : Ending) (w' : World) : Prop := e = .returned (.int .i64 m) ∧ Below w.heap.size w w'

set_option maxHeartbeats 1000000 in
set_option maxRecDepth 20000 in
theorem index_any (R C n gg cap : Nat) (r c : Int) (m : Nat) (w : World) (hm : r * C + c = m) (h0 : 0 ≤ r * C) (h1 : r * C ≤ 1000) (h2 : m ≤ 1000) :
    Calls Try.prog 58 #[.agg #[.int .i64 R, .int .i64 C, .slice (some ⟨gg, 0, none⟩) n cap], .int .i64 r, .int .i64 c] w (IntPost m w) := by
  have hs0 : 0 ≤ r * C + c := by omega
  have hs1 : r * C + c ≤ 1000 := by omega
  have HM := Lib.hid hm
  clear hm
  go_enter Try.func58, Try.ntmps58
  go_wp2
  go_ret
  exact ⟨ret_int HM.out, (Below.refl _ _).alloc (Nat.le_refl _) _⟩

set_option maxHeartbeats 2000000 in
set_option maxRecDepth 20000 in
theorem at_any (R C n gg cap : Nat) (Z : Int) (r c : Int) (m : Nat) (w : World) (hm : r * C + c = m) (h0 : 0 ≤ r * C) (h1 : r * C ≤ 1000) (h2 : m < n) (h3 : n ≤ 1000) (hc : w.cell? ⟨gg, m, none⟩ = some (.int .i64 Z)) :
    Calls Try.prog 109 #[.agg #[.int .i64 R, .int .i64 C, .slice (some ⟨gg, 0, none⟩) n cap], .int .i64 r, .int .i64 c] w (IntPost Z w) := by
  have HM := Lib.hid hm
  have hgg : gg < w.heap.size := World.block_lt_of_cell? _ _ hc
  clear hm
  have hm0 : (0 : Int) ≤ m := by omega
  have hm1 : (m : Int) < n := by omega
  have HC := Lib.hid hc
  clear hc
  go_enter Try.func109, Try.ntmps109
  go_wp2_with fail
  go_region_held3 (fun w' => w'.cell? ⟨w.heap.size, 0, none⟩ = some (.int .i64 R) ∧ w'.cell? ⟨w.heap.size, 1, none⟩ = some (.int .i64 C) ∧ w'.cell? ⟨w.heap.size, 2, none⟩ = some (.slice (some ⟨gg, 0, none⟩) n cap) ∧ w'.cell? ⟨gg, m, none⟩ = some (.int .i64 Z))
    (first | exact ⟨by simp [go_sem], by simp [go_sem], by simp [go_sem], (World.cell?_of_block (a := ⟨gg, m, none⟩) (Below.heap_alloc w _ gg hgg)).trans HC.out⟩ | exact s4)
    (first | (go_at_call 58; refine (index_any R C n gg cap r c m _ HM.out h0 h1 (by omega)).mono ?_; rintro e w2 ⟨rfl, hb2⟩; have s4 : w2.cell? ⟨w.heap.size, 0, none⟩ = some (.int .i64 R) ∧ w2.cell? ⟨w.heap.size, 1, none⟩ = some (.int .i64 C) ∧ w2.cell? ⟨w.heap.size, 2, none⟩ = some (.slice (some ⟨gg, 0, none⟩) n cap) ∧ w2.cell? ⟨gg, m, none⟩ = some (.int .i64 Z) := ⟨(hb2.cell (p := ⟨w.heap.size, 0, none⟩) (by simp)).trans (by simp [go_sem]), (hb2.cell (p := ⟨w.heap.size, 1, none⟩) (by simp)).trans (by simp [go_sem]), (hb2.cell (p := ⟨w.heap.size, 2, none⟩) (by simp)).trans (by simp [go_sem]), (hb2.cell (p := ⟨gg, m, none⟩) (by simp; omega)).trans ((World.cell?_of_block (a := ⟨gg, m, none⟩) (Below.heap_alloc w _ gg hgg)).trans HC.out)⟩; have HB2 := Lib.hid hb2; clear hb2))
  all_goals go_wp2
  all_goals go_ret
  all_goals exact ⟨rfl, ((Below.refl _ _).alloc (Nat.le_refl _) _).trans (HB2.out.undrew.mono (by simp))⟩

/-- the state of the loop that makes the lists: k rows are made -/
structure LInv (w wr : World) (R C n gg cap : Nat) (Z : Nat → Int) (k : Nat) (Gb : Nat → Nat) : Prop where
  below : Below w.heap.size w wr
  size : w.heap.size + 2 ≤ wr.heap.size
  box : wr.heap[w.heap.size]? = some (.cells #[.int .i64 R, .int .i64 C, .slice (some ⟨gg, 0, none⟩) n cap] 50 (0, 0))
  outer : wr.rowIs (w.heap.size + 1) 27 R (fun r => if r < k then .slice (some ⟨Gb r, 0, none⟩) C C else .slice none 0 0)
  rows : ∀ r, r < k → w.heap.size + 1 < Gb r ∧ Gb r < wr.heap.size ∧ wr.rowIs (Gb r) 3 C (fun c => .int .i64 (Z (r * C + c)))
  inj : ∀ r s, r < k → s < k → Gb r = Gb s → r = s

/-- behind the making of row k -/
structure LMid (w wr : World) (R C n gg cap : Nat) (Z : Nat → Int) (k : Nat) (Gb : Nat → Nat) (g : Nat) : Prop where
  below : Below w.heap.size w wr
  lt : w.heap.size + 1 < g ∧ g < wr.heap.size
  box : wr.heap[w.heap.size]? = some (.cells #[.int .i64 R, .int .i64 C, .slice (some ⟨gg, 0, none⟩) n cap] 50 (0, 0))
  outer : wr.rowIs (w.heap.size + 1) 27 R (fun r => if r = k then .slice (some ⟨g, 0, none⟩) C C else if r < k then .slice (some ⟨Gb r, 0, none⟩) C C else .slice none 0 0)
  rows : ∀ r, r < k → w.heap.size + 1 < Gb r ∧ Gb r < g ∧ wr.rowIs (Gb r) 3 C (fun c => .int .i64 (Z (r * C + c)))
  inj : ∀ r s, r < k → s < k → Gb r = Gb s → r = s
  row : wr.heap[g]? = some (.cells (List.replicate C (Value.int .i64 0)).toArray 3 (0, 0))

theorem madeCells_replicate (z : Value) (n : Nat) : madeCells #[z] n = (List.replicate n z).toArray := by
  apply Array.ext'
  rw [toList_madeCells_one]

theorem LInv.mid {w wr : World} {R C n gg cap : Nat} {Z : Nat → Int} {k : Nat} {Gb : Nat → Nat} (h : LInv w wr R C n gg cap Z k Gb) :
    LMid w ((wr.alloc (.cells (madeCells #[.int .i64 0] C) 3)).setCell ⟨w.heap.size + 1, k, none⟩ (.slice (some ⟨wr.heap.size, 0, none⟩) C C)) R C n gg cap Z k Gb wr.heap.size := by
  obtain ⟨h1, h2, h3, h4, h5, h6⟩ := h
  refine ⟨(h1.alloc (by omega) _).setCell (by show w.heap.size ≤ w.heap.size + 1; omega) _, ⟨by omega, by simp [World.setCell]⟩, ?_, ?_, fun r hr => ?_, h6, ?_⟩
  · rw [Below.heap_setCell _ _ _ _ (by show w.heap.size ≠ w.heap.size + 1; omega), Below.heap_alloc _ _ _ (by omega)]; exact h3
  · exact ((h4.alloc _).set k _).congr (fun j _ => rfl)
  · obtain ⟨a1, a2, a3⟩ := h5 r hr
    exact ⟨a1, a2, (a3.alloc _).setOther (by show Gb r ≠ w.heap.size + 1; omega) _⟩
  · rw [Below.heap_setCell _ _ _ _ (by show wr.heap.size ≠ w.heap.size + 1; omega), heap_alloc_new, madeCells_replicate]

theorem LMid.fill {w wr w3 w4 : World} {R C n gg cap : Nat} {Z : Nat → Int} {k : Nat} {Gb : Nat → Nat} {g : Nat} (h : LMid w wr R C n gg cap Z k Gb g) (hb : Below wr.heap.size wr w3) (hb4 : Below g w3 w4)
    (hrow : w4.heap[g]? = some (.cells (splice (List.replicate C (Value.int .i64 0)) 0 ((List.range C).map fun c => Value.int .i64 (Z (k * C + c)))).toArray 3 (0, 0))) :
    LInv w w4 R C n gg cap Z (k + 1) (fun r => if r = k then g else Gb r) := by
  obtain ⟨h1, ⟨h2, h2'⟩, h3, h4, h5, h6, h7⟩ := h
  have hs := hb.size
  have hs4 := hb4.size
  have old : ∀ b, b < g → w4.heap[b]? = wr.heap[b]? := fun b hbg => (hb4.block b hbg).trans (hb.block b (by omega))
  have hg4 : g < w4.heap.size := by omega
  refine ⟨(h1.trans (hb.mono (by omega))).trans (hb4.mono (by omega)), by omega, (old _ (by omega)).trans h3, ?_, fun r hr => ?_, fun r s hr hs' e => ?_⟩
  · refine (h4.of_block (old _ h2)).congr (fun j _ => ?_)
    by_cases e : j = k
    · subst e; simp
    · by_cases e2 : j < k
      · simp [e, e2, Nat.lt_succ_of_lt e2]
      · have : ¬ j < k + 1 := by omega
        simp [e, e2, this]
  · by_cases e : r = k
    · subst e
      simp only [if_true]
      refine ⟨h2, hg4, _, hrow, ?_, fun c hc => ?_⟩
      · simp [splice]
      · simp [splice, hc]
    · obtain ⟨a1, a2, a3⟩ := h5 r (by omega)
      simp only [e, if_false]
      exact ⟨a1, by omega, a3.of_block (old _ a2)⟩
  · by_cases e1 : r = k
    · by_cases e2 : s = k
      · omega
      · have := (h5 s (by omega)).2.1
        simp only [e1, e2, if_true, if_false] at e
        omega
    · by_cases e2 : s = k
      · have := (h5 r (by omega)).2.1
        simp only [e1, e2, if_true, if_false] at e
        omega
      · simp only [e1, e2, if_false] at e
        exact h6 r s (by omega) (by omega) e

/-- the grid of R rows of C numbers that lie flat -/
def gridOf (R C : Nat) (Z : Nat → Int) : G := { n := R, len := fun _ => C, z := fun r c => Z (r * C + c) }

def ListsPost (R C : Nat) (Z : Nat → Int) (w : World) (e : Ending) (w' : World) : Prop :=
  ∃ v, e = .returned v ∧ (∃ a l c, v = .slice a l c) ∧ OwM w.heap.size w'.heap.size w' v (gridOf R C Z) ∧ Below w.heap.size w w'

theorem LInv.done {w wr : World} {R C n gg cap : Nat} {Z : Nat → Int} {Gb : Nat → Nat} (h : LInv w wr R C n gg cap Z R Gb) (hR : R ≤ 7) (hC : C ≤ 7) (hZ : ∀ r, r < R → ∀ c, c < C → -9223372036854775808 ≤ Z (r * C + c) ∧ Z (r * C + c) ≤ 9223372036854775807) :
    ListsPost R C Z w (.returned (.slice (some ⟨w.heap.size + 1, 0, none⟩) R R)) wr := by
  obtain ⟨h1, h2, h3, h4, h5, h6⟩ := h
  refine ⟨_, rfl, ⟨_, _, _, rfl⟩, Or.inr ⟨w.heap.size + 1, Gb, rfl, by simp only [gridOf]; omega, by omega, by omega, h4.congr (fun i hi => by simp [hi, gridOf]), fun r hr => ?_, fun r s hr hs => h6 r s hr hs⟩, h1⟩
  obtain ⟨a1, a2, a3⟩ := h5 r hr
  exact ⟨by omega, a2, by omega, by simp only [gridOf]; omega, a3, fun c hc => hZ r hr c hc⟩

theorem Try.sizeI : (Try.prog.info? 3).map (·.size) = some 1 := by kernel_rfl

theorem keep4 {b : Nat} {w w2 : World} {x k y : Nat} {p q r s : Value} (h : Below b w w2) (hx : x < b) (hy : y < b) (h0 : w.cell? ⟨x, k, none⟩ = some p) (h1 : w.cell? ⟨y, 0, none⟩ = some q) (h2 : w.cell? ⟨y, 1, none⟩ = some r) (h3 : w.cell? ⟨y, 2, none⟩ = some s) :
    w2.cell? ⟨x, k, none⟩ = some p ∧ w2.cell? ⟨y, 0, none⟩ = some q ∧ w2.cell? ⟨y, 1, none⟩ = some r ∧ w2.cell? ⟨y, 2, none⟩ = some s :=
  ⟨(h.cell (p := ⟨x, k, none⟩) hx).trans h0, (h.cell (p := ⟨y, 0, none⟩) hy).trans h1, (h.cell (p := ⟨y, 1, none⟩) hy).trans h2, (h.cell (p := ⟨y, 2, none⟩) hy).trans h3⟩

theorem lists_src {w w3 : World} {gg n m k C : Nat} {Z : Nat → Int} (hm : m = k * C) (hmn : m + C ≤ n) (hc : ∀ i, i < n → w.cell? ⟨gg, i, none⟩ = some (.int .i64 (Z i))) (he : ∀ i, i < n → w3.cell? ⟨gg, i, none⟩ = w.cell? ⟨gg, i, none⟩) :
    ∀ j v, ((List.range C).map fun c => Value.int .i64 (Z (k * C + c)))[j]? = some v → w3.cell? ((⟨gg, m, none⟩ : Addr).add j) = some v := by
  intro j v hj
  rw [List.getElem?_map, Option.map_eq_some_iff] at hj
  obtain ⟨c, h1, rfl⟩ := hj
  rw [List.getElem?_eq_some_iff] at h1
  obtain ⟨h2, h3⟩ := h1
  simp at h2 h3
  subst h3
  have : (⟨gg, m, none⟩ : Addr).add j = ⟨gg, m + j, none⟩ := by unfold Addr.add; split <;> simp_all
  rw [this, he _ (by omega), hc _ (by omega), hm]

set_option maxHeartbeats 4000000 in
set_option maxRecDepth 20000 in
theorem lists_any (R C n gg cap : Nat) (Z : Nat → Int) (w : World) (hn : n = R * C) (hR : R ≤ 7) (hC : C ≤ 7) (hC1 : 1 ≤ C) (hc : ∀ i, i < n → w.cell? ⟨gg, i, none⟩ = some (.int .i64 (Z i))) (hgg : gg < w.heap.size) (hcap : n ≤ cap)
    (hZ : ∀ i, i < n → -9223372036854775808 ≤ Z i ∧ Z i ≤ 9223372036854775807) :
    Calls Try.prog 99 #[.agg #[.int .i64 R, .int .i64 C, .slice (some ⟨gg, 0, none⟩) n cap]] w (ListsPost R C Z w) := by
  have hmk1 := run_make_row' (P := Try.prog) 23 27 (.slice none 0 0) 24 Try.underlying23 Try.infoR rfl .i64 .i64 R (by omega) (by omega)
  have hmk2 := run_make_row' (P := Try.prog) 27 3 (.int .i64 0) 8 Try.underlying27 Try.infoI rfl .i64 .i64 C (by omega) (by omega)
  have hn49 : n ≤ 49 := by rw [hn]; exact Nat.mul_le_mul hR hC
  have HN := Lib.hid hn
  have HC := Lib.hid hc
  have HZ := Lib.hid hZ
  clear hn hc hZ
  go_enter Try.func99, Try.ntmps99
  go_wp2
  clear hmk1
  go_loopw [10] (fun i wr => ∃ (k : Nat) (Gb : Nat → Nat), k ≤ R ∧ i = .int .i64 k ∧ LInv w wr R C n gg cap Z k Gb) (fun i _ => R - (intOf i).toNat)
  case atStart =>
    refine ⟨0, fun _ => 0, Nat.zero_le _, rfl, ((Below.refl _ _).alloc (Nat.le_refl _) _).alloc (by simp) _, by simp, ?_, ?_, fun r hr => by omega, fun r s hr => by omega⟩
    · rw [Below.heap_alloc _ _ _ (by simp)]; exact heap_alloc_new _ _
    · have hw := World.rowIs_made (w.alloc (Obj.cells #[Value.int IntKind.i64 ↑R, Value.int IntKind.i64 ↑C, Value.slice (some { block := gg, off := 0 }) n cap] 50)) (.slice none 0 0) R 27
      have hs : (w.alloc (Obj.cells #[Value.int IntKind.i64 ↑R, Value.int IntKind.i64 ↑C, Value.slice (some { block := gg, off := 0 }) n cap] 50)).heap.size = w.heap.size + 1 := by simp
      rw [hs] at hw
      exact hw.congr (fun j _ => by simp)
  case round =>
    obtain ⟨k, Gb, hk, rfl, hinv⟩ := hrel
    by_cases hlt : k < R
    · obtain ⟨c0, c1, c2, _, _, _⟩ := cells3 hinv.box
      have o1 : ∀ o, (wr.alloc o).cell? ⟨w.heap.size + 1, k, none⟩ = some (.slice none 0 0) := fun o => by
        have := (hinv.outer.alloc o).cell hlt
        simpa using this
      have o2 : ∀ o, (wr.alloc o).frozen? ⟨w.heap.size + 1, k, none⟩ = false := fun o => (hinv.outer.alloc o).frozen k
      have hmid := hinv.mid
      have HM := Lib.hid hmid
      have hlt' : (k : Int) < R := by omega
      clear hinv hmid
      go_wp2_with fail
      generalize ((wr.alloc (Obj.cells (madeCells #[Value.int IntKind.i64 0] C) 3)).setCell { block := w.heap.size + 1, off := k } (Value.slice (some { block := wr.heap.size, off := 0 }) C C)) = wm at HM ⊢
      generalize wr.heap.size = g at HM ⊢
      have hm := HM.out
      obtain ⟨m, hmm⟩ : ∃ m, m = k * C := ⟨_, rfl⟩
      have hmn : m + C ≤ n := by
        have h1 : (k + 1) * C ≤ R * C := Nat.mul_le_mul_right C hlt
        rw [Nat.add_mul, ← hmm, ← HN.out] at h1
        omega
      have hI : (k : Int) * C + 0 = m := by rw [hmm]; simp
      have hI0 : (0 : Int) ≤ (k : Int) * C := by omega
      have hI1 : (k : Int) * C ≤ 1000 := by omega
      have HI := Lib.hid hI
      have HMM := Lib.hid hmm
      have hgl := hm.lt.2
      have hgw : w.heap.size + 1 < g := hm.lt.1
      have hcne : ¬ cap = m := by omega
      have hm0 : (0 : Int) ≤ m := by omega
      have hm1 : (m : Int) ≤ n := by omega
      have hm2 : (m : Int) ≤ cap := by omega
      have hm3 : (n : Int) ≤ cap := by omega
      have hm4 : m ≤ n := by omega
      have hm5 : m ≤ cap := by omega
      have k0 : wm.cell? ⟨w.heap.size + 1, k, none⟩ = some (.slice (some ⟨g, 0, none⟩) C C) := by simpa using hm.outer.cell hlt
      obtain ⟨k1, k2, k3, _, _, _⟩ := cells3 hm.box
      have hlen : ((List.range C).map fun c => Value.int .i64 (Z (k * C + c))).length = C := by simp
      have HLEN := Lib.hid hlen
      clear hI hmm hm hlen
      go_region_held3 (fun w' => w'.cell? ⟨w.heap.size + 1, k, none⟩ = some (.slice (some ⟨g, 0, none⟩) C C) ∧ w'.cell? ⟨w.heap.size, 0, none⟩ = some (.int .i64 R) ∧ w'.cell? ⟨w.heap.size, 1, none⟩ = some (.int .i64 C) ∧ w'.cell? ⟨w.heap.size, 2, none⟩ = some (.slice (some ⟨gg, 0, none⟩) n cap))
        (first | exact ⟨k0, k1, k2, k3⟩ | exact s4 | exact s5)
        (first
          | (go_at_call 58; refine (index_any R C n gg cap k 0 m _ HI.out hI0 hI1 (by omega)).mono ?_; rintro e w3 ⟨rfl, hb0⟩; have hb3 := hb0.undrew; have s4 := keep4 hb3 (by omega) (by omega) k0 k1 k2 k3; have HB3 := Lib.hid hb3; have HG3 := Lib.hid ((hb3.block g hgl).trans HM.out.row); have HS3 := Lib.hid (lists_src (w3 := w3) HMM.out hmn HC.out (fun i hi => (((HM.out.below.trans (hb3.mono HM.out.below.size)).cell (p := ⟨gg, i, none⟩) hgg)))); clear hb0 hb3)
          | (refine step_copy_splice rfl _ _ 27 27 rfl 3 Try.underlying27 Try.sizeI (some ⟨g, 0, none⟩) (some ⟨gg, m, none⟩) C C (n - m) (cap - m) (by rfl) (by rfl) g 0 (List.replicate C (Value.int .i64 0)) 3 HG3.out ((List.range C).map fun c => Value.int .i64 (Z (k * C + c))) (by rw [HLEN.out]; show C = min (n - m) C; omega) (fun _ => ⟨rfl, _, rfl, HS3.out⟩) (by simp) (by simp [Value.oneCell']) g w3 (Below.refl _ _) (Nat.le_refl _) ?_; intro w4 hrow hb4; have s5 := keep4 (b := g) hb4 (by omega) (by omega) s4.1 s4.2.1 s4.2.2.1 s4.2.2.2; have HINV := Lib.hid (HM.out.fill HB3.out hb4 hrow.out); clear hrow hb4))
      all_goals
        go_wp2
        go_roundw
        case rel => exact ⟨k + 1, _, by omega, by go_num, HINV.out⟩
        case measure => simp [intOf]; omega
    · have e : k = R := by omega
      subst e
      have HD := Lib.hid (hinv.done hR hC (fun r hr c hc => HZ.out _ (by
        rw [HN.out]
        have h1 : (r + 1) * C ≤ k * C := Nat.mul_le_mul_right C hr
        rw [Nat.add_mul] at h1
        omega)))
      clear hinv
      go_wp2
      go_ret
      exact HD.out

end Go.Proofs.Ytcfeckpbjdipeaa

/- A relief as a grid again; turned, mirrored, inverted, raised. -/
namespace Go.Proofs.Ytcfeckpbjdipeaa
open Go.RowKit
set_option linter.unusedVariables false

theorem G.Eqv.refl (g : G) : G.Eqv g g := ⟨rfl, fun _ _ => ⟨rfl, fun _ _ => rfl⟩⟩

theorem OwM.congr {lo hi : Nat} {w : World} {v : Value} {g g' : G} (h : OwM lo hi w v g) (e : G.Eqv g g') : OwM lo hi w v g' := by
  obtain ⟨e1, e2⟩ := e
  rcases h with ⟨h, h0⟩ | ⟨b, Gb, h0, hn, h1, h2, h3, h4, h5⟩
  · exact Or.inl ⟨h, by omega⟩
  · refine Or.inr ⟨b, Gb, by rw [h0, e1], by omega, h1, h2, ?_, fun r hr => ?_, fun r s hr hs => h5 r s (by omega) (by omega)⟩
    · rw [← e1]; exact h3.congr (fun i hi => by rw [(e2 i hi).1])
    · obtain ⟨a1, a2, a3, a4, a5, a6⟩ := h4 r (by omega)
      obtain ⟨c1, c2⟩ := e2 r (by omega)
      exact ⟨a1, a2, a3, by omega, by rw [← c1]; exact a5.congr (fun i hi => by rw [c2 i hi]), fun c hc => by rw [← c2 c (by omega)]; exact a6 c (by omega)⟩

/-- a relief's heights can be read -/
structure Rv (w : World) (R C n gg cap : Nat) (Z : Nat → Int) : Prop where
  n_eq : n = R * C
  lt : gg < w.heap.size
  le : n ≤ cap
  cell : ∀ i, i < n → w.cell? ⟨gg, i, none⟩ = some (.int .i64 (Z i))

theorem Rv.keep {w w' : World} {R C n gg cap : Nat} {Z : Nat → Int} (h : Rv w R C n gg cap Z) {B : Nat} (hb : Below B w w') (hB : w.heap.size ≤ B) : Rv w' R C n gg cap Z :=
  ⟨h.n_eq, Nat.lt_of_lt_of_le h.lt hb.size, h.le, fun i hi => (hb.cell (p := ⟨gg, i, none⟩) (Nat.lt_of_lt_of_le h.lt hB)).trans (h.cell i hi)⟩

theorem Rv.of_own {w : World} {base R C n gg cap : Nat} {xs : List Value} {Z : Nat → Int} (h : w.ownsRow base 3 1 (.slice (some ⟨gg, 0, none⟩) n cap) n xs) (hn : n = R * C) (hv : ∀ i, i < n → xs[i]? = some (.int .i64 (Z i))) : Rv w R C n gg cap Z := by
  refine ⟨hn, (h.lt gg rfl).2, ?_, fun i hi => by rw [h.cellAt i (by omega)]; exact hv i hi⟩
  rcases h.2 with ⟨h', _⟩ | ⟨g, c, cur, hv', _, _, hle, _⟩
  · simp at h'
  · simp at hv'; omega

/-- what a function that answers a grid and true, or none and false, leaves -/
def GPost (b : Bool) (g : G) (w : World) (e : Ending) (w' : World) : Prop :=
  ∃ v, e = .returned (.tuple #[v, .bool b]) ∧ (∃ a l c, v = .slice a l c) ∧ OwM w.heap.size w'.heap.size w' v g ∧ Below w.heap.size w w'
def G0 : G := ⟨0, fun _ => 0, fun _ _ => 0⟩
theorem OwM.none (lo hi : Nat) (w : World) : OwM lo hi w (.slice none 0 0) G0 := Or.inl ⟨rfl, rfl⟩

theorem mul_le_49 {R C : Nat} (h1 : R ≤ 7) (h2 : C ≤ 7) : R * C ≤ 49 := Nat.mul_le_mul h1 h2

theorem OwM.mono {lo hi lo' hi' : Nat} {w : World} {v : Value} {g : G} (h : OwM lo hi w v g) (h1 : lo' ≤ lo) (h2 : hi ≤ hi') : OwM lo' hi' w v g := by
  rcases h with h | ⟨b, Gb, h0, hn, a1, a2, h3, h4, h5⟩
  · exact Or.inl h
  · refine Or.inr ⟨b, Gb, h0, hn, by omega, by omega, h3, fun r hr => ?_, h5⟩
    obtain ⟨c1, c2, c3⟩ := h4 r hr
    exact ⟨by omega, by omega, c3⟩

set_option maxHeartbeats 1000000 in
set_option maxRecDepth 20000 in
theorem grid_yes (R C n gg cap : Nat) (Z : Nat → Int) (w : World) (h : Rv w R C n gg cap Z) (hok : RelOk R C n Z) :
    Calls Try.prog 59 #[.agg #[.int .i64 R, .int .i64 C, .slice (some ⟨gg, 0, none⟩) n cap]] w (GPost true (gridOf R C Z) w) := by
  have hn49 : n ≤ 49 := by rw [h.n_eq]; exact mul_le_49 hok.1.2 hok.2.1.2
  have hb1 : Below w.heap.size w (w.alloc (.cells #[.int .i64 R, .int .i64 C, .slice (some ⟨gg, 0, none⟩) n cap] 50)) := (Below.refl _ _).alloc (Nat.le_refl _) _
  have H1 := Lib.hid (h.keep hb1 (Nat.le_refl _))
  have HV := Lib.hid (valid_any R C n gg cap Z _ H1.out.cell (by omega) H1.out.lt (by have := hok.1.2; omega) (by have := hok.2.1.2; omega))
  have HB := Lib.hid (relB_yes hok)
  have HOK := Lib.hid hok
  have HB1 := Lib.hid hb1
  clear h hok hb1
  go_enter Try.func59, Try.ntmps59
  go_wp2_with fail
  refine HV.out.mono ?_
  rintro e w2 ⟨rfl, hb2⟩
  rw [HB.out]
  have H2 := Lib.hid (H1.out.keep hb2 (Nat.le_refl _))
  have k0 : w2.cell? ⟨w.heap.size, 0, none⟩ = some (.int .i64 R) := (hb2.cell (p := ⟨w.heap.size, 0, none⟩) (by simp)).trans (by simp [go_sem])
  have k1 : w2.cell? ⟨w.heap.size, 1, none⟩ = some (.int .i64 C) := (hb2.cell (p := ⟨w.heap.size, 1, none⟩) (by simp)).trans (by simp [go_sem])
  have k2 : w2.cell? ⟨w.heap.size, 2, none⟩ = some (.slice (some ⟨gg, 0, none⟩) n cap) := (hb2.cell (p := ⟨w.heap.size, 2, none⟩) (by simp)).trans (by simp [go_sem])
  have HB2 := Lib.hid (HB1.out.trans (hb2.mono (by simp)))
  clear hb2
  go_wp2_with fail
  have hok := HOK.out
  refine (lists_any R C n gg cap Z w2 H2.out.n_eq hok.1.2 hok.2.1.2 hok.2.1.1 H2.out.cell H2.out.lt H2.out.le (fun i hi => by have := hok.2.2 i hi; omega)).mono ?_
  clear hok
  rintro e w3 ⟨v, rfl, ⟨a, l, c, rfl⟩, ho, hb3⟩
  have HO := Lib.hid ho
  have HB3 := Lib.hid hb3
  clear ho hb3
  go_wp2
  go_ret2
  exact ⟨_, rfl, ⟨_, _, _, rfl⟩, HO.out.mono HB2.out.size (Nat.le_refl _), HB2.out.trans (HB3.out.mono HB2.out.size)⟩

set_option maxHeartbeats 1000000 in
set_option maxRecDepth 20000 in
theorem grid_no (R C n gg cap : Nat) (Z : Nat → Int) (w : World) (h : Rv w R C n gg cap Z) (hok : ¬ RelOk R C n Z) (hn : n ≤ 1000) (hR : R ≤ 1000) (hC : C ≤ 1000) :
    Calls Try.prog 59 #[.agg #[.int .i64 R, .int .i64 C, .slice (some ⟨gg, 0, none⟩) n cap]] w (GPost false G0 w) := by
  have hb1 : Below w.heap.size w (w.alloc (.cells #[.int .i64 R, .int .i64 C, .slice (some ⟨gg, 0, none⟩) n cap] 50)) := (Below.refl _ _).alloc (Nat.le_refl _) _
  have H1 := Lib.hid (h.keep hb1 (Nat.le_refl _))
  have HV := Lib.hid (valid_any R C n gg cap Z _ H1.out.cell (by omega) H1.out.lt hR hC)
  have HB := Lib.hid (relB_no hok)
  have HB1 := Lib.hid hb1
  clear h hok hb1
  go_enter Try.func59, Try.ntmps59
  go_wp2_with fail
  refine HV.out.mono ?_
  rintro e w2 ⟨rfl, hb2⟩
  rw [HB.out]
  have HB2 := Lib.hid (HB1.out.trans (hb2.mono (by simp)))
  clear hb2
  go_wp2
  go_ret2
  exact ⟨_, rfl, ⟨_, _, _, rfl⟩, OwM.none _ _ _, HB2.out⟩

/-- what a method that makes a relief leaves -/
def MPost (R C : Nat) (Z : Nat → Int) (w : World) (e : Ending) (w' : World) : Prop :=
  ∃ n gg cap, e = .returned (.agg #[.int .i64 R, .int .i64 C, .slice (some ⟨gg, 0, none⟩) n cap]) ∧ Rv w' R C n gg cap Z ∧ Below w.heap.size w w'

theorem div_at (r c C : Nat) (hc : c < C) : (r * C + c) / C = r ∧ (r * C + c) % C = c := by
  have h0 : 0 < C := by omega
  constructor
  · rw [Nat.add_comm, Nat.add_mul_div_right _ _ h0, Nat.div_eq_of_lt hc]; omega
  · rw [Nat.add_comm, Nat.add_mul_mod_self_right, Nat.mod_eq_of_lt hc]

theorem cell_lt {r c R C n : Nat} (hn : n = R * C) (hr : r < R) (hc : c < C) : r * C + c < n := by
  have h1 : (r + 1) * C ≤ R * C := Nat.mul_le_mul_right C hr
  rw [Nat.add_mul] at h1
  omega


theorem callFunc_inverted : ∀ (args : Array Value) (W : World), Sem.run Try.prog (callFunc 119 args) W = .ok (.enter 119 args) W := fun _ _ => by kernel_rfl

set_option maxHeartbeats 1000000 in
set_option maxRecDepth 20000 in
theorem clos_inverted (R C n gg cap B r c m : Nat) (Zm : Int) (W : World) (h0 : W.cell? ⟨B, 0, none⟩ = some (.int .i64 R)) (h1 : W.cell? ⟨B, 1, none⟩ = some (.int .i64 C)) (h2 : W.cell? ⟨B, 2, none⟩ = some (.slice (some ⟨gg, 0, none⟩) n cap))
    (hr : r < R) (hc : c < C) (hR : R ≤ 7) (hC : C ≤ 7) (hm : m = r * C + c) (hmn : m < n) (hn : n ≤ 49) (hcell : W.cell? ⟨gg, m, none⟩ = some (.int .i64 Zm)) (hz : 0 ≤ Zm ∧ Zm ≤ 99) :
    Calls Try.prog 119 #[.int .i64 r, .int .i64 c, .pointer (some ⟨B, 0, none⟩)] W (IntPost (99 - Zm) W) := by
  have hmi : (r : Int) * (C : Int) + (c : Int) = (m : Int) := by
    have e : ((r : Nat) : Int) = (r : Int) := by omega
    have e2 : ((c : Nat) : Int) = (c : Int) := by omega
    rw [hm, Int.natCast_add, Int.natCast_mul]
  have hp0 : 0 ≤ (r : Int) * (C : Int) := Int.mul_nonneg (by omega) (by omega)
  have hp1 : (r : Int) * (C : Int) ≤ 1000 := by omega
  have HA := Lib.hid (at_any R C n gg cap Zm (r : Int) (c : Int) m W hmi hp0 hp1 hmn (by omega) hcell)
  obtain ⟨hz0, hz1⟩ := hz
  clear hcell hmi hm hp0 hp1
  go_enter Try.func119, Try.ntmps119
  go_wp2_with fail
  refine HA.out.mono ?_
  rintro e w2 ⟨rfl, hb⟩
  go_wp2
  go_ret
  exact ⟨rfl, hb⟩

set_option maxHeartbeats 1000000 in
set_option maxRecDepth 20000 in
theorem inverted_any (R C n gg cap : Nat) (Z : Nat → Int) (w : World) (h : Rv w R C n gg cap Z) (hR : R ≤ 7) (hC : C ≤ 7) (hz : ∀ i, i < n → 0 ≤ Z i ∧ Z i ≤ 99) :
    Calls Try.prog 84 #[.agg #[.int .i64 R, .int .i64 C, .slice (some ⟨gg, 0, none⟩) n cap]] w (MPost R C (fun i => 99 - Z i) w) := by
  have hn49 : n ≤ 49 := by rw [h.n_eq]; exact mul_le_49 hR hC
  obtain ⟨W0, hW0⟩ : ∃ W0, W0 = (w.alloc (.cells #[.int .i64 R, .int .i64 C, .slice (some ⟨gg, 0, none⟩) n cap] 50)).alloc (.cells #[.int .i64 0, .int .i64 0, .slice none 0 0] 50) := ⟨_, rfl⟩
  have hs0 : W0.heap.size = w.heap.size + 2 := by rw [hW0]; simp
  have hb0 : Below w.heap.size w W0 := by rw [hW0]; exact ((Below.refl _ _).alloc (Nat.le_refl _) _).alloc (by simp) _
  have hbox : W0.heap[w.heap.size]? = some (.cells #[.int .i64 R, .int .i64 C, .slice (some ⟨gg, 0, none⟩) n cap] 50 (0, 0)) := by rw [hW0]; exact heap_alloc2_old _ _ _
  have hres : W0.heap[w.heap.size + 1]? = some (.cells #[.int .i64 0, .int .i64 0, .slice none 0 0] 50 (0, 0)) := by rw [hW0]; exact heap_alloc2_new _ _ _
  have h0 := h.keep hb0 (Nat.le_refl _)
  have hcon := newRelief_any R C 119 #[.pointer (some ⟨w.heap.size, 0, none⟩)] (fun i => 99 - Z i) W0 (by omega) (by omega) callFunc_inverted (fun r c W hr hc hbel => by
    obtain ⟨k0, k1, k2, _, _, _⟩ := cells3 ((hbel.block _ (by omega)).trans hbox)
    have hv := h0.keep hbel (Nat.le_refl _)
    have hlt : r * C + c < n := cell_lt h0.n_eq hr hc
    have hdz := div_at r c C hc
    have key := clos_inverted R C n gg cap w.heap.size r c (r * C + c) (Z (r * C + c)) W k0 k1 k2 hr hc hR hC rfl hlt hn49 (hv.cell _ hlt) (hz _ hlt)
    refine key.mono fun e w' hp => ⟨?_, hp.2⟩
    rw [hp.1])
  have HC := Lib.hid hcon
  have HRES := Lib.hid hres
  have HB0 := Lib.hid hb0
  have HS0 := Lib.hid hs0
  rw [hW0] at HC
  clear hcon h0 hbox hres hb0 hs0 h hz
  go_enter Try.func84, Try.ntmps84
  go_wp2_with fail
  refine HC.out.mono ?_
  rintro e w2 ⟨n', gg', cap', xs, hn', rfl, hown, hval, hb2⟩
  have hb3 : Below W0.heap.size W0 w2 := by rw [hW0]; exact hb2
  have hown' := hown
  rw [← hW0] at hown'
  have R3 := (hb3.block (w.heap.size + 1) (by have := HS0.out; omega)).trans HRES.out
  obtain ⟨r0, r1, r2, g0, g1, g2⟩ := cells3 R3
  have hlo := (hown'.lt gg' rfl).1
  have hE := three_set w2 (w.heap.size + 1) _ _ _ (.int .i64 R) (.int .i64 C) (.slice (some ⟨gg', 0, none⟩) n' cap') R3
  have O1 := own3 hown' (x := w.heap.size + 1) (by have := HS0.out; omega) (.int .i64 R) (.int .i64 C) (.slice (some ⟨gg', 0, none⟩) n' cap')
  have B1 := below3 (HB0.out.trans (hb3.mono HB0.out.size)) (x := w.heap.size + 1) (by omega) (.int .i64 R) (.int .i64 C) (.slice (some ⟨gg', 0, none⟩) n' cap')
  have HRV := Lib.hid (Rv.of_own O1 hn' hval)
  have HE := Lib.hid hE
  have HB1 := Lib.hid B1
  clear hE R3 O1 B1 hown hown' hval hb2 hb3 hn' hW0
  go_wp2
  exact bodyPost_ret (results_cell_row rfl _ _ (w.heap.size + 1) _ #[.int .i64 R, .int .i64 C, .slice (some ⟨gg', 0, none⟩) n' cap'] _ _ rfl HE.out Try.underlying50 rfl Try.sizeRel) rfl ⟨n', gg', cap', rfl, HRV.out, HB1.out⟩

end Go.Proofs.Ytcfeckpbjdipeaa

/- The program's GridTurn, GridMirror, GridInvert: what they answer. -/
namespace Go.Proofs.Ytcfeckpbjdipeaa
open Go.RowKit
set_option linter.unusedVariables false

def turnG (g : G) : G := { n := g.len 0, len := fun _ => g.n, z := fun r c => g.z (g.n - 1 - c) r }
def mirrorG (g : G) : G := { n := g.n, len := fun _ => g.len 0, z := fun r c => g.z r (g.len 0 - 1 - c) }
def invertG (g : G) : G := { n := g.n, len := fun _ => g.len 0, z := fun r c => 99 - g.z r c }

theorem relOk_of {R C n : Nat} {Z : Nat → Int} (hn : n = R * C) (hR : 1 ≤ R ∧ R ≤ 7) (hC : 1 ≤ C ∧ C ≤ 7) (h : ∀ r, r < R → ∀ c, c < C → 0 ≤ Z (r * C + c) ∧ Z (r * C + c) ≤ 99) : RelOk R C n Z := by
  refine ⟨hR, hC, fun i hi => ?_⟩
  have h0 : 0 < C := by omega
  have e1 : i / C < R := by rw [Nat.div_lt_iff_lt_mul h0]; omega
  have := h _ e1 (i % C) (Nat.mod_lt _ h0)
  rwa [Nat.mul_comm, Nat.div_add_mod] at this

theorem valid_at {g : G} (h : g.Valid) {r c : Nat} (hr : r < g.n) (hc : c < g.len 0) : 0 ≤ g.z r c ∧ g.z r c ≤ 99 :=
  (h.2.2 r hr).2 c (by rw [(h.2.2 r hr).1]; exact hc)

theorem RelYes.rv {g : G} {w w' : World} {e : Ending} (h : RelYes g w e w') : ∃ n gg cap, e = .returned (.tuple #[.agg #[.int .i64 g.n, .int .i64 (g.len 0), .slice (some ⟨gg, 0, none⟩) n cap], .bool true]) ∧ Rv w' g.n (g.len 0) n gg cap g.flat ∧ Below w.heap.size w w' := by
  obtain ⟨n, gg, cap, xs, hn, he, ho, hv, hb⟩ := h
  exact ⟨n, gg, cap, he, Rv.of_own ho hn hv, hb⟩

theorem GPost.up {b : Bool} {g g' : G} {w w1 w' : World} {e : Ending} (h : GPost b g w1 e w') (hb : Below w.heap.size w w1) (hg : G.Eqv g g') : GPost b g' w e w' := by
  obtain ⟨v, h1, h2, h3, h4⟩ := h
  exact ⟨v, h1, h2, (h3.mono hb.size (Nat.le_refl _)).congr hg, hb.trans (h4.mono hb.size)⟩

theorem z_turned {g : G} {r c : Nat} (hr : r < g.len 0) (hc : c < g.n) : (fun i => g.flat ((g.n - 1 - i % g.n) * g.len 0 + i / g.n)) (r * g.n + c) = g.z (g.n - 1 - c) r := by
  have hd := div_at r c (g.n) hc
  simp only [hd.1, hd.2]; rw [g.flat_at _ _ hr]

theorem z_mirrored {g : G} {r c : Nat} (hr : r < g.n) (hc : c < g.len 0) : (fun i => g.flat (i / g.len 0 * g.len 0 + (g.len 0 - 1 - i % g.len 0))) (r * g.len 0 + c) = g.z r (g.len 0 - 1 - c) := by
  have hd := div_at r c (g.len 0) hc
  simp only [hd.1, hd.2]; rw [g.flat_at _ _ (by omega)]

theorem z_inverted {g : G} {r c : Nat} (hr : r < g.n) (hc : c < g.len 0) : (fun i => 99 - g.flat i) (r * g.len 0 + c) = 99 - g.z r c := by
  have hd := div_at r c (g.len 0) hc
  show (99 : Int) - g.flat (r * g.len 0 + c) = _; rw [g.flat_at _ _ hc]

end Go.Proofs.Ytcfeckpbjdipeaa

/- Grids that a call builds by append, row by row: what holds of them, step by step. -/
namespace Go.Proofs.Ytcfeckpbjdipeaa
open Go.RowKit
set_option linter.unusedVariables false

theorem ownsRow_low {w : World} {base base' : Nat} {e : TypeId} {size : Nat} {v : Value} {n : Nat} {xs : List Value} (h : w.ownsRow base e size v n xs) (hb : base' ≤ base) : w.ownsRow base' e size v n xs := by
  obtain ⟨h1, h2⟩ := h
  refine ⟨h1, ?_⟩
  rcases h2 with h2 | ⟨g, cap, cur, hv, hg, r⟩
  · exact Or.inl h2
  · exact Or.inr ⟨g, cap, cur, hv, Nat.le_trans hb hg, r⟩

theorem ownsRow_below {w w2 : World} {base : Nat} {e : TypeId} {size : Nat} {v : Value} {n : Nat} {xs : List Value} {B : Nat} (h : w.ownsRow base e size v n xs) (hb : Below B w w2) (hB : ∀ k, v.ownBlock = some k → k < B) : w2.ownsRow base e size v n xs := by
  obtain ⟨h1, h2⟩ := h
  refine ⟨h1, ?_⟩
  rcases h2 with h2 | ⟨g, cap, cur, hv, hg, hh, r⟩
  · exact Or.inl h2
  · exact Or.inr ⟨g, cap, cur, hv, hg, by rw [hb.block _ (hB g (by rw [hv]; rfl))]; exact hh, r⟩

/-- two owned rows of different element types lie in different blocks -/
theorem ownsRow_apart {w : World} {b1 b2 e1 e2 s1 s2 n1 n2 : Nat} {v1 v2 : Value} {x1 x2 : List Value} (h1 : w.ownsRow b1 e1 s1 v1 n1 x1) (h2 : w.ownsRow b2 e2 s2 v2 n2 x2) (hne : e1 ≠ e2) : v1.ownBlock = none ∨ v1.ownBlock ≠ v2.ownBlock := by
  rcases h1.2 with ⟨rfl, _⟩ | ⟨g, cap, cur, rfl, _, hh, _⟩
  · exact Or.inl rfl
  · right
    rcases h2.2 with ⟨rfl, _⟩ | ⟨g', cap', cur', rfl, _, hh', _⟩
    · simp [Value.ownBlock]
    · intro e
      simp only [Value.ownBlock, Option.some.injEq] at e
      subst e
      rw [hh] at hh'
      simp only [Option.some.injEq, Obj.cells.injEq] at hh'
      exact hne hh'.2.1

/-- a row of m numbers that the call is making, in a block from B on -/
def Rw (B : Nat) (wr : World) (v : Value) (m : Nat) (Z : Nat → Int) : Prop :=
  ∃ ys, wr.ownsRow B 3 1 v m ys ∧ ∀ i, i < m → ys[i]? = some (.int .i64 (Z i))

/-- k rows of g are made -/
structure Gr (w wr : World) (v : Value) (k B : Nat) (RV : Nat → Value) (g : G) : Prop where
  below : Below w.heap.size w wr
  lo : w.heap.size ≤ B
  hi : B ≤ wr.heap.size
  top : wr.ownsRow w.heap.size 27 1 v k ((List.range k).map RV)
  topB : ∀ b, v.ownBlock = some b → b < B
  rows : ∀ r, r < k → ∃ ys, wr.ownsRow w.heap.size 3 1 (RV r) (g.len r) ys ∧ (∀ b, (RV r).ownBlock = some b → b < B) ∧ ∀ c, c < g.len r → ys[c]? = some (.int .i64 (g.z r c))
  inj : ∀ r s, r < k → s < k → ∀ b, (RV r).ownBlock = some b → (RV s).ownBlock = some b → r = s

theorem Gr.keep {w wr w1 : World} {v : Value} {k B : Nat} {RV : Nat → Value} {g : G} (h : Gr w wr v k B RV g) (hb : Below B wr w1) : Gr w w1 v k B RV g := by
  obtain ⟨h1, h2, h3, h4, h5, h6, h7⟩ := h
  refine ⟨h1.trans (hb.mono h2), h2, Nat.le_trans h3 hb.size, ownsRow_below h4 hb h5, h5, fun r hr => ?_, h7⟩
  obtain ⟨ys, a1, a2, a3⟩ := h6 r hr
  exact ⟨ys, ownsRow_below a1 hb a2, a2, a3⟩

theorem Gr.raise {w wr : World} {v : Value} {k B B' : Nat} {RV : Nat → Value} {g : G} (h : Gr w wr v k B RV g) (h1 : B ≤ B') (h2 : B' ≤ wr.heap.size) : Gr w wr v k B' RV g := by
  obtain ⟨a1, a2, a3, a4, a5, a6, a7⟩ := h
  refine ⟨a1, by omega, h2, a4, fun b hb => by have := a5 b hb; omega, fun r hr => ?_, a7⟩
  obtain ⟨ys, c1, c2, c3⟩ := a6 r hr
  exact ⟨ys, c1, fun b hb => by have := c2 b hb; omega, c3⟩

theorem Rw.keep {B B' : Nat} {wr w1 : World} {v : Value} {m : Nat} {Z : Nat → Int} (h : Rw B wr v m Z) (hb : Below B' wr w1) (hB : wr.heap.size ≤ B') : Rw B w1 v m Z := by
  obtain ⟨ys, h1, h2⟩ := h
  exact ⟨ys, ownsRow_below h1 hb (fun k hk => by have := (h1.lt k hk).2; omega), h2⟩

theorem Rw.push {B : Nat} {w1 : World} {v' : Value} {m : Nat} {Z : Nat → Int} {ys : List Value} (hy : ys.length = m) (hv : ∀ i, i < m → ys[i]? = some (.int .i64 (Z i))) (hown : w1.ownsRow B 3 1 v' (m + 1) (ys ++ [.int .i64 (Z m)])) : Rw B w1 v' (m + 1) Z := by
  refine ⟨_, hown, fun i hi => ?_⟩
  by_cases e : i < m
  · rw [List.getElem?_append_left (by omega)]; exact hv i e
  · have : i = m := by omega
    subst this
    rw [List.getElem?_append_right (by omega), hy]; simp

theorem Gr.push {w wr w1 : World} {v v' rv : Value} {k B : Nat} {RV : Nat → Value} {g : G} {o : Obj} (h : Gr w wr v k B RV g) (hr : Rw B wr rv (g.len k) (g.z k)) (hown : w1.ownsRow w.heap.size 27 1 v' (k + 1) ((List.range k).map RV ++ [rv])) (hg : (wr.alloc o).grownBy w1 v.ownBlock) :
    Gr w w1 v' (k + 1) w1.heap.size (fun r => if r = k then rv else RV r) g := by
  obtain ⟨a1, a2, a3, a4, a5, a6, a7⟩ := h
  have hsz : wr.heap.size + 1 ≤ w1.heap.size := by have := hg.size; simp at this; omega
  have hlow : ∀ b, v.ownBlock = some b → w.heap.size ≤ b := fun b hb => (a4.lt b hb).1
  obtain ⟨yk, k1, k2⟩ := hr
  refine ⟨(a1.alloc (by omega) o).grown hg (by simp; omega) hlow, by omega, Nat.le_refl _, ?_, fun b hb => (hown.lt b hb).2, fun r hr' => ?_, fun r s hr' hs b e1 e2 => ?_⟩
  · have e : (List.range (k + 1)).map (fun r => if r = k then rv else RV r) = (List.range k).map RV ++ [rv] := by
      rw [List.range_succ, List.map_append]
      simp only [List.map_cons, List.map_nil, if_true]
      congr 1
      exact List.map_congr_left (fun r hr => by
        have := List.mem_range.1 hr
        rw [if_neg (by omega)])
    rw [e]; exact hown
  · by_cases e : r = k
    · subst e
      simp only [if_true]
      have hap := ownsRow_apart k1 a4 (by decide)
      have k3 := ((k1.alloc o).kept hg hap)
      exact ⟨yk, ownsRow_low k3 a2, fun b hb => (k3.lt b hb).2, k2⟩
    · obtain ⟨ys, c1, c2, c3⟩ := a6 r (by omega)
      simp only [e, if_false]
      have hap := ownsRow_apart c1 a4 (by decide)
      exact ⟨ys, (c1.alloc o).kept hg hap, fun b hb => by have := c2 b hb; omega, c3⟩
  · by_cases e3 : r = k
    · by_cases e4 : s = k
      · omega
      · simp only [e3, if_true] at e1
        simp only [e4, if_false] at e2
        have h5 := (k1.lt b e1).1
        obtain ⟨ys, c1, c2, c3⟩ := a6 s (by omega)
        have := c2 b e2
        omega
    · by_cases e4 : s = k
      · simp only [e4, if_true] at e2
        simp only [e3, if_false] at e1
        have h5 := (k1.lt b e2).1
        obtain ⟨ys, c1, c2, c3⟩ := a6 r (by omega)
        have := c2 b e1
        omega
      · simp only [e3, e4, if_false] at e1 e2
        exact a7 r s (by omega) (by omega) b e1 e2

theorem own_slice {w : World} {base e n : Nat} {v : Value} {xs : List Value} (h : w.ownsRow base e 1 v n xs) : ∃ b cap, n ≤ cap ∧ cap ≤ 9223372036854775807 ∧ ((v = .slice (some ⟨b, 0, none⟩) n cap ∧ v.ownBlock = some b ∧ base ≤ b ∧ b < w.heap.size ∧ ∀ i, i < n → w.cell? ⟨b, i, none⟩ = xs[i]? ∧ w.frozen? ⟨b, i, none⟩ = false) ∨ (v = .slice none n cap ∧ n = 0)) := by
  rcases h.2 with ⟨rfl, rfl⟩ | ⟨g, cap, cur, rfl, hb, hh, hn, hm, _⟩
  · exact ⟨0, 0, by omega, by omega, Or.inr ⟨rfl, rfl⟩⟩
  · refine ⟨g, cap, hn, by unfold maxLen at hm; omega, Or.inl ⟨rfl, rfl, hb, lt_of_block hh, fun i hi => ⟨h.cellAt i (by omega), h.frozenAt i⟩⟩⟩

theorem own_shape {w : World} {base e n : Nat} {v : Value} {xs : List Value} (h : w.ownsRow base e 1 v n xs) : ∃ (a : Option Addr) (c : Nat), v = .slice a n c := by
  obtain ⟨b, cap, _, _, h3⟩ := own_slice h
  rcases h3 with h3 | h3
  · exact ⟨_, _, h3.1⟩
  · exact ⟨_, _, h3.1⟩

theorem Rw.rdI {B : Nat} {w : World} {v : Value} {m : Nat} {Z : Nat → Int} (h : Rw B w v m Z) (hz : ∀ i, i < m → -9223372036854775808 ≤ Z i ∧ Z i ≤ 9223372036854775807) : RdI B w.heap.size w v m Z := by
  obtain ⟨ys, h1, h2⟩ := h
  obtain ⟨b, cap, hn, hm, h3⟩ := own_slice h1
  rcases h3 with ⟨hv, _, hb, hlt, hc⟩ | ⟨hv, h0⟩
  · exact ⟨_, cap, b, 0, hv, hn, hm, hz, fun _ => ⟨rfl, hb, hlt⟩, fun i hi => by rw [Nat.zero_add, (hc i hi).1]; exact h2 i hi⟩
  · exact ⟨_, cap, 0, 0, hv, hn, hm, hz, fun h => by omega, fun i hi => by omega⟩

theorem Gr.rdM {w wr : World} {v : Value} {B : Nat} {RV : Nat → Value} {g : G} (h : Gr w wr v g.n B RV g) (hz : ∀ r, r < g.n → ∀ c, c < g.len r → -9223372036854775808 ≤ g.z r c ∧ g.z r c ≤ 9223372036854775807) : RdM w.heap.size wr.heap.size wr v g := by
  obtain ⟨a1, a2, a3, a4, a5, a6, a7⟩ := h
  have hrow : ∀ r, r < g.n → ∃ y : Option Addr × Nat, RV r = .slice y.1 (g.len r) y.2 ∧ RdI w.heap.size wr.heap.size wr (RV r) (g.len r) (g.z r) := fun r hr => by
    obtain ⟨ys, c1, c2, c3⟩ := a6 r hr
    have hR : RdI w.heap.size wr.heap.size wr (RV r) (g.len r) (g.z r) := Rw.rdI ⟨ys, c1, c3⟩ (hz r hr)
    obtain ⟨ao, cap, _, _, e, _⟩ := id hR
    exact ⟨(ao, cap), e, hR⟩
  obtain ⟨y, hy⟩ := Go.Deep.choose_lt hrow
  obtain ⟨b, cap, hn, hm, h3⟩ := own_slice a4
  rcases h3 with ⟨hv, _, hb, hlt, hc⟩ | ⟨hv, h0⟩
  · refine ⟨_, cap, b, 0, fun r => (y r).1, fun r => (y r).2, hv, hn, hm, fun _ => ⟨rfl, hb, hlt⟩, fun r hr => ?_, fun r hr => by rw [← (hy r hr).1]; exact (hy r hr).2⟩
    rw [Nat.zero_add, (hc r hr).1, ← (hy r hr).1]
    simp [hr]
  · exact ⟨_, cap, 0, 0, fun _ => none, fun _ => 0, hv, hn, hm, fun h => by omega, fun r hr => by omega, fun r hr => by omega⟩

end Go.Proofs.Ytcfeckpbjdipeaa

/- The model's functions that make a grid of a grid. -/
namespace Go.Proofs.Ytcfeckpbjdipeaa
open Go.RowKit
set_option linter.unusedVariables false

/-- what a function of the model that answers a grid and a bool leaves -/
def SPost (b : Bool) (g : G) (w : World) (e : Ending) (w' : World) : Prop :=
  ∃ v, e = .returned (.tuple #[v, .bool b]) ∧ (∃ a l c, v = .slice a l c) ∧ RdM w.heap.size w'.heap.size w' v g ∧ Below w.heap.size w w'

theorem RdM.empty (lo hi : Nat) (w : World) (a : Option Addr) (c : Nat) (hc : c ≤ 9223372036854775807) : RdM lo hi w (.slice a 0 c) G0 :=
  ⟨a, c, 0, 0, fun _ => none, fun _ => 0, rfl, by simp [G0], hc, fun h => by simp [G0] at h, fun r hr => by simp [G0] at hr, fun r hr => by simp [G0] at hr⟩

theorem G.off_marked (g : G) (k : Int) : ∀ r, (g.mark k).off r = g.off r := by
  intro r
  induction r with
  | zero => rfl
  | succ r ih => simp only [G.off, ih]; rfl

theorem Gr.start (w : World) (RV : Nat → Value) (g : G) : Gr w (w.alloc (.cells #[] 27)) (.slice (some ⟨w.heap.size, 0, none⟩) 0 0) 0 (w.heap.size + 1) RV g := by
  refine ⟨(Below.refl _ _).alloc (Nat.le_refl _) _, by omega, by simp, ?_, fun b hb => by simp [Value.ownBlock] at hb; omega, fun r hr => by omega, fun r s hr => by omega⟩
  exact World.ownsRow_lit w #[] 0 (Nat.le_refl _) (Nat.zero_le _) (by simp)

theorem Rw.start (wr : World) (Z : Nat → Int) : Rw wr.heap.size (wr.alloc (.cells #[] 3)) (.slice (some ⟨wr.heap.size, 0, none⟩) 0 0) 0 Z :=
  ⟨[], World.ownsRow_lit wr #[] 0 (Nat.le_refl _) (Nat.zero_le _) (by simp), fun i hi => by omega⟩

theorem G.range_of {g : G} (h : g.Valid) : ∀ r, r < g.n → ∀ c, c < g.len r → -9223372036854775808 ≤ g.z r c ∧ g.z r c ≤ 9223372036854775807 := fun r hr c hc => by
  have := (h.2.2 r hr).2 c hc
  omega

theorem turn_valid {g : G} (h : g.Valid) : (turnG g).Valid :=
  ⟨h.2.1, h.1, fun r hr => ⟨rfl, fun c hc => valid_at h (by simp only [turnG] at hc; omega) hr⟩⟩
theorem mirror_valid {g : G} (h : g.Valid) : (mirrorG g).Valid :=
  ⟨h.1, h.2.1, fun r hr => ⟨rfl, fun c hc => valid_at h hr (by simp only [mirrorG] at hc; omega)⟩⟩
theorem invert_valid {g : G} (h : g.Valid) : (invertG g).Valid :=
  ⟨h.1, h.2.1, fun r hr => ⟨rfl, fun c hc => by have := valid_at h hr hc; simp only [invertG]; omega⟩⟩

end Go.Proofs.Ytcfeckpbjdipeaa

/- The model's GridMirror. -/
namespace Go.Proofs.Ytcfeckpbjdipeaa
open Go.RowKit
set_option linter.unusedVariables false

end Go.Proofs.Ytcfeckpbjdipeaa

/- The model's copy of a grid, a store into it, and what is built on both. -/
namespace Go.Proofs.Ytcfeckpbjdipeaa
open Go.RowKit
set_option linter.unusedVariables false

/-- what the copy leaves -/
def CpPost (g : G) (w : World) (e : Ending) (w' : World) : Prop := ∃ v B RV, e = .returned v ∧ Gr w w' v g.n B RV g

set_option maxHeartbeats 4000000 in
set_option maxRecDepth 20000 in
theorem l1Copy_any (v : Value) (lo hi : Nat) (g : G) (w : World) (hv : RdM lo hi w v g) (hh : hi ≤ w.heap.size) (hn : g.n ≤ 1048576) (hl : ∀ r, r < g.n → 0 < g.len r ∧ g.len r ≤ 1048576) :
    Calls Try.prog 130 #[v] w (CpPost g w) := by
  obtain ⟨i0, hi0, hz0, hz1, hz2⟩ := info_parts Try.infoI
  obtain ⟨i1, hi1, hy0, hy1, hy2⟩ := info_parts Try.infoR
  obtain ⟨ao, cap, b, off, Ao, Cp, rfl, a2, a3, a5, a6, a7⟩ := hv
  have HA5 := Lib.hid a5
  have HA6 := Lib.hid a6
  have HA7 := Lib.hid a7
  have HL := Lib.hid hl
  have HG0 := Lib.hid (Gr.start w (fun _ => undef) g)
  clear a5 a6 a7 hl
  go_enter Try.func130, Try.ntmps130
  go_wp2
  go_loopw [3, 4] (fun o i wr => ∃ (c : Nat) (v : Value) (B : Nat) (RV : Nat → Value), c ≤ g.n ∧ i = .int .i64 c ∧ v = o ∧ Gr w wr v c B RV g) (fun _ i _ => g.n - (intOf i).toNat)
  case atStart => exact ⟨0, _, _, _, Nat.zero_le _, rfl, rfl, HG0.out⟩
  case round =>
    obtain ⟨k, v, B, RV, hc, rfl, rfl, hgr⟩ := hrel
    by_cases hlt : k < g.n
    · have hlt' : (k : Int) < g.n := by omega
      obtain ⟨rfl, hb1, hb2⟩ := HA5.out (by omega)
      have hlk := HL.out k hlt
      obtain ⟨ao1, cap1, b1, off1, e1, i2, i3, i4, i5, i6⟩ := HA7.out k hlt
      have i5' := i5 hlk.1
      have ea : Ao k = ao1 := by simp only [Value.slice.injEq] at e1; exact e1.1
      have p1 : ∀ o, (wr.alloc o).cell? ⟨b, off + k, none⟩ = some (.slice (some ⟨b1, off1, none⟩) (g.len k) (Cp k)) := fun o => by
        rw [World.cell?_of_block (a := ⟨b, off + k, none⟩) (Below.heap_alloc wr o b (by have := hgr.below.size; omega))]
        rw [← i5'.1, ← ea]
        exact (hgr.below.cell (p := ⟨b, off + k, none⟩) (by show b < _; omega)).trans (HA6.out k hlt)
      have HGB := Lib.hid ((hgr.raise hgr.hi (Nat.le_refl _)).keep ((Below.refl _ _).alloc (Nat.le_refl _) (.cells #[] 3)))
      have hrs := (Rw.start wr (g.z k))
      obtain ⟨ys0, hs1, hs2⟩ := hrs
      have hys0 : ys0 = [] := List.length_eq_zero_iff.1 (by have := hs1.1; omega)
      subst hys0
      have hnews : ∀ j u, ((List.range (g.len k)).map fun c => Value.int .i64 (g.z k c))[j]? = some u → (wr.alloc (.cells #[] 3)).cell? ((⟨b1, off1, none⟩ : Addr).add j) = some u := by
        intro j u hj
        rw [List.getElem?_map, Option.map_eq_some_iff] at hj
        obtain ⟨c, hc1, rfl⟩ := hj
        rw [List.getElem?_eq_some_iff] at hc1
        obtain ⟨hc2, hc3⟩ := hc1
        simp at hc2 hc3
        subst hc3
        have : (⟨b1, off1, none⟩ : Addr).add j = ⟨b1, off1 + j, none⟩ := by unfold Addr.add; split <;> simp_all
        rw [this, World.cell?_of_block (a := ⟨b1, off1 + j, none⟩) (Below.heap_alloc wr _ b1 (by have := hgr.below.size; omega))]
        exact (hgr.below.cell (p := ⟨b1, off1 + j, none⟩) (by show b1 < _; omega)).trans (i6 j hc2)
      have HN := Lib.hid hnews
      have hwr : w.heap.size ≤ wr.heap.size := hgr.below.size
      have hlk2 := hlk.2
      clear hgr i4 i5 i6 e1 ea i5' hnews hs2 hlk
      go_wp2_with (first
        | (at_builtin; refine wpList_append_own _ rfl _ _ 27 rfl wr.heap.size 3 i0 (.int .i64 0) 1 8 Try.underlying27 hi0 hz0 hz1 hz2 rfl (by decide) (.slice (some ⟨wr.heap.size, 0, none⟩) 0 0) 0 [] rfl hs1 ⟨b1, off1, none⟩ (g.len k) (Cp k) ((List.range (g.len k)).map fun c => Value.int .i64 (g.z k c)) rfl (by simp) HN.out (by simp [Value.oneCell']) (by unfold maxLen; omega) (by omega) (by simp) ?_; intro v1 w1 hown1 hg1 _; simp only [List.nil_append, Nat.zero_add] at hown1; obtain ⟨aq, cq, rfl⟩ := own_shape hown1; have HR1 := Lib.hid (show Rw wr.heap.size w1 (.slice aq (g.len k) cq) (g.len k) (g.z k) from ⟨_, hown1, fun i hi => by simp [hi]⟩); have hbl1 : Below wr.heap.size (wr.alloc (.cells #[] 3)) w1 := ((Below.refl _ _).grown hg1 (by simp) (fun j hj => by simp [Value.ownBlock] at hj; exact Nat.le_of_eq hj)); have HG1 := Lib.hid (HGB.out.keep hbl1); have hs1' : wr.heap.size ≤ w1.heap.size := Nat.le_trans (by simp) hbl1.size; have htop1 := HG1.out.top; clear hown1 hg1 hbl1)
        | (at_builtin; refine wpList_append_own _ rfl _ _ 23 rfl w.heap.size 27 i1 (.slice none 0 0) 1 24 Try.underlying23 hi1 hy0 hy1 hy2 rfl (by decide) v k _ rfl (htop1.alloc _) ⟨w1.heap.size, 0, none⟩ 1 1 [.slice aq (g.len k) cq] rfl rfl (World.news_of_block (cs := #[.slice aq (g.len k) cq]) (t := 27) (fr := (0, 0)) (heap_alloc_new w1 _)) (by simp [Value.oneCell']) (by unfold maxLen; omega) (by omega) (by simp; omega) ?_; intro v2 w2 hown2 hg2 _; have HG2 := Lib.hid (HG1.out.push HR1.out hown2 hg2); clear hown2 hg2 htop1))
      go_roundw
      case rel => exact ⟨k + 1, v2, _, _, by omega, by go_num, rfl, HG2.out⟩
      case measure => simp [intOf]; omega
    · have ec : k = g.n := by omega
      subst ec
      go_wp2
      go_ret
      exact ⟨_, _, _, rfl, hgr⟩

end Go.Proofs.Ytcfeckpbjdipeaa

/- The model's GridAt and GridSet. -/
namespace Go.Proofs.Ytcfeckpbjdipeaa
open Go.RowKit
set_option linter.unusedVariables false

/-- there is such a cell of a grid -/
def G.Cell (g : G) (r c : Int) : Prop := g.Valid ∧ (0 ≤ r ∧ r ≤ (g.n : Int) - 1) ∧ 0 ≤ c ∧ c ≤ (g.len 0 : Int) - 1
noncomputable def G.cB (g : G) (r c : Int) : Bool := @decide (g.Cell r c) (Classical.propDecidable _)
theorem G.cB_yes {g : G} {r c : Int} (h : g.Cell r c) : g.cB r c = true := by simp [G.cB, h]
theorem G.cB_no {g : G} {r c : Int} (h : ¬ g.Cell r c) : g.cB r c = false := by simp [G.cB, h]

noncomputable def G.atV (g : G) (r c : Int) : Int := if g.cB r c = true then g.z r.toNat c.toNat else -1
theorem G.atV_yes {g : G} {r c : Nat} (h : g.Cell r c) : g.atV r c = g.z r c := by simp [G.atV, G.cB_yes h]
theorem G.atV_no {g : G} {r c : Int} (h : ¬ g.Cell r c) : g.atV r c = -1 := by simp [G.atV, G.cB_no h]

/-- a cell of a grid, opened -/
theorem RdM.cellAt {lo hi : Nat} {w : World} {v : Value} {g : G} (h : RdM lo hi w v g) {r c : Nat} (hr : r < g.n) (hc : c < g.len r) :
    ∃ b off cap b1 off1 cp, v = .slice (some ⟨b, off, none⟩) g.n cap ∧ w.cell? ⟨b, off + r, none⟩ = some (.slice (some ⟨b1, off1, none⟩) (g.len r) cp) ∧ w.cell? ⟨b1, off1 + c, none⟩ = some (.int .i64 (g.z r c)) ∧ b < hi ∧ b1 < hi := by
  obtain ⟨ao, cap, b, off, Ao, Cp, rfl, a2, a3, a5, a6, a7⟩ := h
  obtain ⟨rfl, _, hb⟩ := a5 (by omega)
  obtain ⟨ao1, cap1, b1, off1, e1, i2, i3, i4, i5, i6⟩ := a7 r hr
  have i5' := i5 (by omega)
  have ea : Ao r = ao1 := by simp only [Value.slice.injEq] at e1; exact e1.1
  exact ⟨b, off, cap, b1, off1, Cp r, rfl, by rw [← i5'.1, ← ea]; exact a6 r hr, i6 c hc, hb, i5'.2.2⟩

/-- the grid with another number at a cell -/
def G.upd (g : G) (r c : Nat) (x : Int) : G := { n := g.n, len := g.len, z := fun i j => if i = r ∧ j = c then x else g.z i j }

theorem Gr.store {w wr : World} {v : Value} {n B : Nat} {RV : Nat → Value} {g : G} (h : Gr w wr v n B RV g) {r c bq cq : Nat} (hr : r < n) (hc : c < g.len r) (hRV : RV r = .slice (some ⟨bq, 0, none⟩) (g.len r) cq) (x : Int) :
    Gr w (wr.setCell ⟨bq, c, none⟩ (.int .i64 x)) v n B RV (g.upd r c x) := by
  obtain ⟨a1, a2, a3, a4, a5, a6, a7⟩ := h
  obtain ⟨yr, k1, k2, k3⟩ := a6 r hr
  have hob : (RV r).ownBlock = some bq := by rw [hRV]; rfl
  have hbw := (k1.lt bq hob)
  refine ⟨a1.setCell (by show w.heap.size ≤ bq; omega) _, a2, by simpa [World.setCell] using a3, ?_, a5, fun s hs => ?_, a7⟩
  · refine ownsRow_setCell_other a4 ?_ _
    have hap := ownsRow_apart a4 k1 (by decide)
    rcases hap with h1 | h1
    · rw [h1]; simp
    · rw [hob] at h1; exact h1
  · by_cases e : s = r
    · subst e
      rw [hRV] at k1 ⊢
      have hst := (k1.stored c (.int .i64 x)).1
      refine ⟨_, hst, fun b hb => k2 b (by rw [hRV]; exact hb), fun j hj => ?_⟩
      have hl : yr.length = g.len s := by have := k1.1; omega
      have hj' : j < g.len s := hj
      simp only [G.upd, true_and]
      by_cases ej : j = c
      · subst ej
        rw [if_pos rfl, List.getElem?_set_self (by omega)]
      · rw [if_neg ej, List.getElem?_set_ne (by omega)]
        exact k3 j hj'
    · obtain ⟨ys, c1, c2, c3⟩ := a6 s hs
      refine ⟨ys, ownsRow_setCell_other c1 ?_ _, c2, fun j hj => ?_⟩
      · intro e'
        exact e (a7 s r hs hr bq e' hob)
      · have : ¬ (s = r ∧ j = c) := fun h => e h.1
        simp only [G.upd, this, if_false]
        exact c3 j hj

/-- the row of a built grid, opened for a store -/
theorem Gr.cellAt {w wr : World} {v : Value} {n B : Nat} {RV : Nat → Value} {g : G} (h : Gr w wr v n B RV g) {r c : Nat} (hr : r < n) (hc : c < g.len r) :
    ∃ b cap bq cq, v = .slice (some ⟨b, 0, none⟩) n cap ∧ RV r = .slice (some ⟨bq, 0, none⟩) (g.len r) cq ∧ wr.cell? ⟨b, r, none⟩ = some (.slice (some ⟨bq, 0, none⟩) (g.len r) cq) ∧ wr.cell? ⟨bq, c, none⟩ = some (.int .i64 (g.z r c)) ∧ wr.frozen? ⟨bq, c, none⟩ = false := by
  obtain ⟨a1, a2, a3, a4, a5, a6, a7⟩ := h
  obtain ⟨yr, k1, k2, k3⟩ := a6 r hr
  obtain ⟨b, cap, _, _, h3⟩ := own_slice a4
  obtain ⟨bq, cq, _, _, h4⟩ := own_slice k1
  rcases h3 with ⟨hv, _, _, _, hcell⟩ | ⟨_, h0⟩
  · rcases h4 with ⟨hq, _, _, _, hcq⟩ | ⟨_, h0⟩
    · refine ⟨b, cap, bq, cq, hv, hq, ?_, ?_, (hcq c hc).2⟩
      · rw [(hcell r hr).1, ← hq]; simp [hr]
      · rw [(hcq c hc).1]; exact k3 c hc
    · omega
  · omega

theorem upd_range {g : G} (h : g.Valid) {r c : Nat} {x : Int} (hx : 0 ≤ x ∧ x ≤ 99) : (g.upd r c x).Valid := by
  refine ⟨h.1, h.2.1, fun i hi => ⟨(h.2.2 i hi).1, fun j hj => ?_⟩⟩
  simp only [G.upd]
  split
  · exact hx
  · exact (h.2.2 i hi).2 j hj

/-- what GridSet asks -/
def G.SetOk (g : G) (r c x : Int) : Prop := g.Cell r c ∧ 0 ≤ x ∧ x ≤ 99

end Go.Proofs.Ytcfeckpbjdipeaa
