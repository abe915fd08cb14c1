/- The program's iterator over the run of a cell, by contract. -/
import Derived.Test.YtplfphpnpjjinabWNext
import Derived.Test.YtplfphpnpjjinabM3
namespace Go.Proofs.Ytplfphpnpjjinab
open Go.RowKit Go.Shelf
set_option linter.unusedVariables false
attribute [local go_sem] Oper.semAt_some

set_option maxHeartbeats 1000000 in
set_option maxRecDepth 20000 in
theorem isSink_yes (R C gg cap cnt : Nat) (hR : R ≤ 7) (hC : C ≤ 7) (Z : Nat → Int) (i : Ix (R * C)) (w : World) (h : Rv w R C cnt gg cap Z) (hs : nxt R C Z i = i) :
    Calls Try.prog 101 #[.agg #[.int .i64 R, .int .i64 C, .slice (some ⟨gg, 0, none⟩) cnt cap], .int .i64 i.1] w (BlPost true w) := by
  have hb := (Below.refl w.heap.size w).alloc (Nat.le_refl _) (.cells #[.int .i64 R, .int .i64 C, .slice (some ⟨gg, 0, none⟩) cnt cap] 50)
  have HN := Lib.hid (next_any R C gg cap cnt hR hC Z i _ (h.keep hb (Nat.le_refl _)))
  have HB := Lib.hid hb
  have HS := Lib.hid hs
  clear h hs hb
  go_enter Try.func101, Try.ntmps101
  go_wp2_with fail
  refine HN.out.mono ?_
  rintro e w2 ⟨rfl, hb2⟩
  rw [HS.out]
  have hx : ((i.1 : Int) == (i.1 : Int)) = true := by simp
  go_wp2
  go_ret
  exact ⟨rfl, HB.out.trans (hb2.mono HB.out.size)⟩

set_option maxHeartbeats 1000000 in
set_option maxRecDepth 20000 in
theorem isSink_no (R C gg cap cnt : Nat) (hR : R ≤ 7) (hC : C ≤ 7) (Z : Nat → Int) (i : Ix (R * C)) (w : World) (h : Rv w R C cnt gg cap Z) (hs : nxt R C Z i ≠ i) :
    Calls Try.prog 101 #[.agg #[.int .i64 R, .int .i64 C, .slice (some ⟨gg, 0, none⟩) cnt cap], .int .i64 i.1] w (BlPost false w) := by
  have hb := (Below.refl w.heap.size w).alloc (Nat.le_refl _) (.cells #[.int .i64 R, .int .i64 C, .slice (some ⟨gg, 0, none⟩) cnt cap] 50)
  have HN := Lib.hid (next_any R C gg cap cnt hR hC Z i _ (h.keep hb (Nat.le_refl _)))
  have HB := Lib.hid hb
  obtain ⟨y, ey⟩ : ∃ y, (nxt R C Z i).1 = y := ⟨_, rfl⟩
  obtain ⟨x, ex⟩ : ∃ x, i.1 = x := ⟨_, rfl⟩
  have hne : y ≠ x := fun e => hs (Subtype.ext (by rw [ey, ex, e]))
  have hx1 : ((y : Int) == (x : Int)) = false := by rw [beq_eq_false_iff_ne]; omega
  rw [ey, ex] at HN
  rw [ex]
  clear h hs hb ey ex hne
  go_enter Try.func101, Try.ntmps101
  go_wp2_with fail
  refine HN.out.mono ?_
  rintro e w2 ⟨rfl, hb2⟩
  go_wp2
  go_ret
  exact ⟨rfl, HB.out.trans (hb2.mono HB.out.size)⟩

/-- blocks Bm and gg lie as they lay -/
def Kb2 (Bm gg : Nat) (W W' : World) : Prop := Kb Bm W W' ∧ Kb gg W W'
theorem Kb2.trans {Bm gg : Nat} {A B C : World} (h : Kb2 Bm gg A B) (k : Kb2 Bm gg B C) : Kb2 Bm gg A C := ⟨h.1.trans k.1, h.2.trans k.2⟩
theorem kb2_b {Bm gg : Nat} {w : World} (h1 : Bm < w.heap.size) (h2 : gg < w.heap.size) (W : World) (l : Nat) (o o' : Obj) (hl : w.heap.size ≤ l) (h : W.heap[l]? = some o) (ha : o.isCells = false) (hb : o.isWalk = false) : Kb2 Bm gg W (W.putObj l o') :=
  ⟨kb_b h1 W l o o' hl h ha hb, kb_b h2 W l o o' hl h ha hb⟩
theorem Kb2.of_below {Bm gg n : Nat} {A B : World} (h : Below n A B) (h1 : Bm < n) (h2 : gg < n) : Kb2 Bm gg A B := ⟨Kb.of_below h h1, Kb.of_below h h2⟩
theorem Rv.kb {w w' : World} {R C n gg cap : Nat} {Z : Nat → Int} (h : Rv w R C n gg cap Z) (k : Kb gg w w') : Rv w' R C n gg cap Z :=
  ⟨h.n_eq, Nat.lt_of_lt_of_le h.lt k.1, h.le, fun i hi => (k.cell i).trans (h.cell i hi)⟩

end Go.Proofs.Ytplfphpnpjjinab
