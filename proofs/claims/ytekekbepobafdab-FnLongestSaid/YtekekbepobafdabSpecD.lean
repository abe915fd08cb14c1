/- The model's copy of a grid, a store into it, and what is built on both. -/
import Derived.Test.YtekekbepobafdabSpecC
import Derived.StillTailTactics
namespace Go.Proofs.Ytekekbepobafdab
open Go.RowKit
set_option linter.unusedVariables false

/-- what the copy leaves -/
def CpPost (g : G) (w : World) (e : Ending) (w' : World) : Prop := ∃ v B RV, e = .returned v ∧ Gr w w' v g.n B RV g

set_option maxHeartbeats 4000000 in
set_option maxRecDepth 20000 in
theorem l1Copy_any (v : Value) (lo hi : Nat) (g : G) (w : World) (hv : RdM lo hi w v g) (hh : hi ≤ w.heap.size) (hn : g.n ≤ 1048576) (hl : ∀ r, r < g.n → 0 < g.len r ∧ g.len r ≤ 1048576) :
    Calls Try.prog 96 #[v] w (CpPost g w) := by
  obtain ⟨i0, hi0, hz0, hz1, hz2⟩ := info_parts Try.infoI
  obtain ⟨i1, hi1, hy0, hy1, hy2⟩ := info_parts Try.infoR
  obtain ⟨ao, cap, b, off, Ao, Cp, rfl, a2, a3, a5, a6, a7⟩ := hv
  have HA5 := Lib.hid a5
  have HA6 := Lib.hid a6
  have HA7 := Lib.hid a7
  have HL := Lib.hid hl
  have HG0 := Lib.hid (Gr.start w (fun _ => undef) g)
  clear a5 a6 a7 hl
  go_enter Try.func96, Try.ntmps96
  go_wp2
  go_loopw [3, 4] (fun o i wr => ∃ (c : Nat) (v : Value) (B : Nat) (RV : Nat → Value), c ≤ g.n ∧ i = .int .i64 c ∧ v = o ∧ Gr w wr v c B RV g) (fun _ i _ => g.n - (intOf i).toNat)
  case atStart => exact ⟨0, _, _, _, Nat.zero_le _, rfl, rfl, HG0.out⟩
  case round =>
    obtain ⟨k, v, B, RV, hc, rfl, rfl, hgr⟩ := hrel
    by_cases hlt : k < g.n
    · have hlt' : (k : Int) < g.n := by omega
      obtain ⟨rfl, hb1, hb2⟩ := HA5.out (by omega)
      have hlk := HL.out k hlt
      obtain ⟨ao1, cap1, b1, off1, e1, i2, i3, i4, i5, i6⟩ := HA7.out k hlt
      have i5' := i5 hlk.1
      have ea : Ao k = ao1 := by simp only [Value.slice.injEq] at e1; exact e1.1
      have p1 : ∀ o, (wr.alloc o).cell? ⟨b, off + k, none⟩ = some (.slice (some ⟨b1, off1, none⟩) (g.len k) (Cp k)) := fun o => by
        rw [World.cell?_of_block (a := ⟨b, off + k, none⟩) (Below.heap_alloc wr o b (by have := hgr.below.size; omega))]
        rw [← i5'.1, ← ea]
        exact (hgr.below.cell (p := ⟨b, off + k, none⟩) (by show b < _; omega)).trans (HA6.out k hlt)
      have HGB := Lib.hid ((hgr.raise hgr.hi (Nat.le_refl _)).keep ((Below.refl _ _).alloc (Nat.le_refl _) (.cells #[] 3)))
      have hrs := (Rw.start wr (g.z k))
      obtain ⟨ys0, hs1, hs2⟩ := hrs
      have hys0 : ys0 = [] := List.length_eq_zero_iff.1 (by have := hs1.1; omega)
      subst hys0
      have hnews : ∀ j u, ((List.range (g.len k)).map fun c => Value.int .i64 (g.z k c))[j]? = some u → (wr.alloc (.cells #[] 3)).cell? ((⟨b1, off1, none⟩ : Addr).add j) = some u := by
        intro j u hj
        rw [List.getElem?_map, Option.map_eq_some_iff] at hj
        obtain ⟨c, hc1, rfl⟩ := hj
        rw [List.getElem?_eq_some_iff] at hc1
        obtain ⟨hc2, hc3⟩ := hc1
        simp at hc2 hc3
        subst hc3
        have : (⟨b1, off1, none⟩ : Addr).add j = ⟨b1, off1 + j, none⟩ := by unfold Addr.add; split <;> simp_all
        rw [this, World.cell?_of_block (a := ⟨b1, off1 + j, none⟩) (Below.heap_alloc wr _ b1 (by have := hgr.below.size; omega))]
        exact (hgr.below.cell (p := ⟨b1, off1 + j, none⟩) (by show b1 < _; omega)).trans (i6 j hc2)
      have HN := Lib.hid hnews
      have hwr : w.heap.size ≤ wr.heap.size := hgr.below.size
      have hlk2 := hlk.2
      clear hgr i4 i5 i6 e1 ea i5' hnews hs2 hlk
      go_wp2_with (first
        | (at_builtin; refine wpList_append_own _ rfl _ _ 28 rfl wr.heap.size 3 i0 (.int .i64 0) 1 8 Try.underlying28 hi0 hz0 hz1 hz2 rfl (by decide) (.slice (some ⟨wr.heap.size, 0, none⟩) 0 0) 0 [] rfl hs1 ⟨b1, off1, none⟩ (g.len k) (Cp k) ((List.range (g.len k)).map fun c => Value.int .i64 (g.z k c)) rfl (by simp) HN.out (by simp [Value.oneCell']) (by unfold maxLen; omega) (by omega) (by simp) ?_; intro v1 w1 hown1 hg1 _; simp only [List.nil_append, Nat.zero_add] at hown1; obtain ⟨aq, cq, rfl⟩ := own_shape hown1; have HR1 := Lib.hid (show Rw wr.heap.size w1 (.slice aq (g.len k) cq) (g.len k) (g.z k) from ⟨_, hown1, fun i hi => by simp [hi]⟩); have hbl1 : Below wr.heap.size (wr.alloc (.cells #[] 3)) w1 := ((Below.refl _ _).grown hg1 (by simp) (fun j hj => by simp [Value.ownBlock] at hj; exact Nat.le_of_eq hj)); have HG1 := Lib.hid (HGB.out.keep hbl1); have hs1' : wr.heap.size ≤ w1.heap.size := Nat.le_trans (by simp) hbl1.size; have htop1 := HG1.out.top; clear hown1 hg1 hbl1)
        | (at_builtin; refine wpList_append_own _ rfl _ _ 23 rfl w.heap.size 28 i1 (.slice none 0 0) 1 24 Try.underlying23 hi1 hy0 hy1 hy2 rfl (by decide) v k _ rfl (htop1.alloc _) ⟨w1.heap.size, 0, none⟩ 1 1 [.slice aq (g.len k) cq] rfl rfl (World.news_of_block (cs := #[.slice aq (g.len k) cq]) (t := 28) (fr := (0, 0)) (heap_alloc_new w1 _)) (by simp [Value.oneCell']) (by unfold maxLen; omega) (by omega) (by simp; omega) ?_; intro v2 w2 hown2 hg2 _; have HG2 := Lib.hid (HG1.out.push HR1.out hown2 hg2); clear hown2 hg2 htop1))
      go_roundw
      case rel => exact ⟨k + 1, v2, _, _, by omega, by go_num, rfl, HG2.out⟩
      case measure => simp [intOf]; omega
    · have ec : k = g.n := by omega
      subst ec
      go_wp2
      go_ret
      exact ⟨_, _, _, rfl, hgr⟩

end Go.Proofs.Ytekekbepobafdab
