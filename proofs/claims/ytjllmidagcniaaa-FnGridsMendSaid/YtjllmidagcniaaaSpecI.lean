/- The model's copy of any lists, and its GridBelow. -/
import Derived.Test.YtjllmidagcniaaaConcat
namespace Go.Proofs.Ytjllmidagcniaaa
open Go.RowKit
set_option linter.unusedVariables false

/-- append of nothing -/
theorem run_append_none {P : Program} (w : World) (t ty e : TypeId) (i : TypeInfo) (ht : P.underlying t = some (.slice e)) (hi : P.info? e = some i) (a : Addr) (b : Option Addr) (cb : Nat) :
    (Builtin.append_ #[t, t] ty #[.slice (some a) 0 0, .slice b 0 cb]).run P w = .ok (.slice (some a) 0 0) w := by
  have hf : (Builtin.firstCells i.size 0 (.slice b 0 cb)).run P w = .ok #[] w := by
    cases b with
    | none => exact run_firstCells_none w i.size 0 0 cb
    | some b => exact run_firstCells_some w i.size 0 b 0 cb [] (by simp) (fun j v hj => by simp at hj)
  simp [Builtin.append_, run_underlying ht, sizeOf, typeInfo, hi, Builtin.lenOf, hf, storeCells]

/-- what the copy of any lists leaves -/
def CaPost (g : G) (w : World) (e : Ending) (w' : World) : Prop := ∃ bq cq B RV, e = .returned (.slice (some ⟨bq, 0, none⟩) g.n cq) ∧ Gr w w' (.slice (some ⟨bq, 0, none⟩) g.n cq) g.n B RV g

set_option maxHeartbeats 4000000 in
set_option maxRecDepth 20000 in
theorem l1CopyE_any (v : Value) (lo hi : Nat) (g : G) (w : World) (hv : RdM lo hi w v g) (hh : hi ≤ w.heap.size) (hn : g.n ≤ 1048576) (hl : ∀ r, r < g.n → g.len r ≤ 1048576) :
    Calls Try.prog 66 #[v] w (CaPost g w) := by
  obtain ⟨i0, hi0, hz0, hz1, hz2⟩ := info_parts Try.infoI
  obtain ⟨i1, hi1, hy0, hy1, hy2⟩ := info_parts Try.infoR
  obtain ⟨ao, cap, b, off, Ao, Cp, rfl, a2, a3, a5, a6, a7⟩ := hv
  have HA5 := Lib.hid a5
  have HA6 := Lib.hid a6
  have HA7 := Lib.hid a7
  have HL := Lib.hid hl
  have HG0 := Lib.hid (Gr.start w (fun _ => undef) g)
  clear a5 a6 a7 hl
  go_enter Try.func66, Try.ntmps66
  go_wp2
  go_loopw [3, 4] (fun o i wr => ∃ (c : Nat) (v : Value) (B : Nat) (RV : Nat → Value), c ≤ g.n ∧ i = .int .i64 c ∧ v = o ∧ v ≠ .slice none 0 0 ∧ Gr w wr v c B RV g) (fun _ i _ => g.n - (intOf i).toNat)
  case atStart => exact ⟨0, _, _, _, Nat.zero_le _, rfl, rfl, by simp, HG0.out⟩
  case round =>
    obtain ⟨k, v, B, RV, hc, rfl, rfl, hvn, hgr⟩ := hrel
    have HVN := Lib.hid hvn
    clear hvn
    by_cases hlt : k < g.n
    · have hlt' : (k : Int) < g.n := by omega
      obtain ⟨rfl, hb1, hb2⟩ := HA5.out (by omega)
      have hlk := HL.out k hlt
      by_cases hz : g.len k = 0
      · have p1 : ∀ o, (wr.alloc o).cell? ⟨b, off + k, none⟩ = some (.slice (Ao k) 0 (Cp k)) := fun o => by
          rw [World.cell?_of_block (a := ⟨b, off + k, none⟩) (Below.heap_alloc wr o b (by have := hgr.below.size; omega)), ← hz]
          exact (hgr.below.cell (p := ⟨b, off + k, none⟩) (by show b < _; omega)).trans (HA6.out k hlt)
        have HGB := Lib.hid ((hgr.raise hgr.hi (Nat.le_refl _)).keep ((Below.refl _ _).alloc (Nat.le_refl _) (.cells #[] 3)))
        have HR1 := Lib.hid (show Rw wr.heap.size (wr.alloc (.cells #[] 3)) (.slice (some ⟨wr.heap.size, 0, none⟩) 0 0) (g.len k) (g.z k) from by rw [hz]; exact Rw.start wr (g.z k))
        have hwr : w.heap.size ≤ wr.heap.size := hgr.below.size
        have htop1 := HGB.out.top
        have HAP := Lib.hid (fun ty => run_append_none (P := Try.prog) (wr.alloc (.cells #[] 3)) 34 ty 3 i0 Try.underlying34 hi0 ⟨wr.heap.size, 0, none⟩ (Ao k) (Cp k))
        clear hgr hz hlk
        go_wp2_with (first
          | (at_builtin; refine Lib.wpList_append_run _ rfl _ _ _ _ rfl _ _ rfl rfl _ _ (HAP.out _) ?_)
          | (at_builtin; (refine wpList_append_own _ rfl _ _ 23 rfl w.heap.size 34 i1 (.slice none 0 0) 1 24 Try.underlying23 hi1 hy0 hy1 hy2 rfl (by decide) v k _ rfl (htop1.alloc _) ⟨(wr.heap.size + 1), 0, none⟩ 1 1 [.slice (some ⟨wr.heap.size, 0, none⟩) 0 0] rfl rfl (World.news_of_block (cs := #[.slice (some ⟨wr.heap.size, 0, none⟩) 0 0]) (t := 34) (fr := (0, 0)) (heap_alloc2_new wr _ _)) (by simp [Value.oneCell']) (by unfold maxLen; omega) (by omega) (by simp <;> omega) ?_); (intro v2 w2 hown2 hg2 hnn; have HG2 := Lib.hid (HGB.out.push HR1.out hown2 hg2); have hv2 : v2 ≠ .slice none 0 0 := fun e => (by have := (hnn.1 e).2; omega); clear hown2 hg2 htop1 hnn)))
        go_roundw
        case rel => exact ⟨k + 1, v2, _, _, by omega, by go_num, rfl, hv2, HG2.out⟩
        case measure => simp [intOf]; omega
      · have hpos : 0 < g.len k := Nat.pos_of_ne_zero hz
        obtain ⟨ao1, cap1, b1, off1, e1, i2, i3, i4, i5, i6⟩ := HA7.out k hlt
        have i5' := i5 hpos
        have ea : Ao k = ao1 := by simp only [Value.slice.injEq] at e1; exact e1.1
        have p1 : ∀ o, (wr.alloc o).cell? ⟨b, off + k, none⟩ = some (.slice (some ⟨b1, off1, none⟩) (g.len k) (Cp k)) := fun o => by
          rw [World.cell?_of_block (a := ⟨b, off + k, none⟩) (Below.heap_alloc wr o b (by have := hgr.below.size; omega))]
          rw [← i5'.1, ← ea]
          exact (hgr.below.cell (p := ⟨b, off + k, none⟩) (by show b < _; omega)).trans (HA6.out k hlt)
        have HGB := Lib.hid ((hgr.raise hgr.hi (Nat.le_refl _)).keep ((Below.refl _ _).alloc (Nat.le_refl _) (.cells #[] 3)))
        have hrs := (Rw.start wr (g.z k))
        obtain ⟨ys0, hs1, hs2⟩ := hrs
        have hys0 : ys0 = [] := List.length_eq_zero_iff.1 (by have := hs1.1; omega)
        subst hys0
        have hbb : ∀ j, j < g.len k → (wr.alloc (.cells #[] 3)).cell? ⟨b1, off1 + j, none⟩ = some (.int .i64 (g.z k j)) := fun j hj => by
          rw [World.cell?_of_block (a := ⟨b1, off1 + j, none⟩) (Below.heap_alloc wr _ b1 (by have := hgr.below.size; omega))]
          exact (hgr.below.cell (p := ⟨b1, off1 + j, none⟩) (by show b1 < _; omega)).trans (i6 j hj)
        have HN := Lib.hid (news_of hbb)
        have hwr : w.heap.size ≤ wr.heap.size := hgr.below.size
        clear hgr i4 i5 i6 e1 ea i5' hbb hs2 hz
        go_wp2_with (first
          | (at_builtin; refine wpList_append_own _ rfl _ _ 34 rfl wr.heap.size 3 i0 (.int .i64 0) 1 8 Try.underlying34 hi0 hz0 hz1 hz2 rfl (by decide) (.slice (some ⟨wr.heap.size, 0, none⟩) 0 0) 0 [] rfl hs1 ⟨b1, off1, none⟩ (g.len k) (Cp k) ((List.range (g.len k)).map fun c => Value.int .i64 (g.z k c)) rfl (by simp) HN.out (by simp [Value.oneCell']) (by unfold maxLen; omega) (by omega) (by simp) ?_; intro v1 w1 hown1 hg1 _; simp only [List.nil_append, Nat.zero_add] at hown1; obtain ⟨aq, cq, rfl⟩ := own_shape hown1; have HR1 := Lib.hid (show Rw wr.heap.size w1 (.slice aq (g.len k) cq) (g.len k) (g.z k) from ⟨_, hown1, fun i hi => by simp [hi]⟩); have hbl1 : Below wr.heap.size (wr.alloc (.cells #[] 3)) w1 := ((Below.refl _ _).grown hg1 (by simp) (fun j hj => by simp [Value.ownBlock] at hj; exact Nat.le_of_eq hj)); have HG1 := Lib.hid (HGB.out.keep hbl1); have hs1' : wr.heap.size ≤ w1.heap.size := Nat.le_trans (by simp) hbl1.size; have htop1 := HG1.out.top; clear hown1 hg1 hbl1)
          | (at_builtin; (refine wpList_append_own _ rfl _ _ 23 rfl w.heap.size 34 i1 (.slice none 0 0) 1 24 Try.underlying23 hi1 hy0 hy1 hy2 rfl (by decide) v k _ rfl (htop1.alloc _) ⟨w1.heap.size, 0, none⟩ 1 1 [.slice aq (g.len k) cq] rfl rfl (World.news_of_block (cs := #[.slice aq (g.len k) cq]) (t := 34) (fr := (0, 0)) (heap_alloc_new w1 _)) (by simp [Value.oneCell']) (by unfold maxLen; omega) (by omega) (by simp; omega) ?_); (intro v2 w2 hown2 hg2 hnn; have HG2 := Lib.hid (HG1.out.push HR1.out hown2 hg2); have hv2 : v2 ≠ .slice none 0 0 := fun e => (by have := (hnn.1 e).2; omega); clear hown2 hg2 htop1 hnn)))
        go_roundw
        case rel => exact ⟨k + 1, v2, _, _, by omega, by go_num, rfl, hv2, HG2.out⟩
        case measure => simp [intOf]; omega
    · have ec : k = g.n := by omega
      subst ec
      obtain ⟨bq, cq, rfl⟩ : ∃ bq cq, v = .slice (some ⟨bq, 0, none⟩) g.n cq := by
        rcases hgr.top.2 with ⟨h1, _⟩ | ⟨gq, cq, _, h1, _⟩
        · exact absurd h1 HVN.out
        · exact ⟨gq, cq, h1⟩
      go_wp2
      go_ret
      exact ⟨_, _, _, _, rfl, hgr⟩

def belowG (a b : G) : G := { n := a.n + b.n, len := fun r => if r < a.n then a.len r else b.len (r - a.n), z := fun r c => if r < a.n then a.z r c else b.z (r - a.n) c }

theorem Gr.join {w w1 w2 w3 : World} {vA vB v' : Value} {BA BB : Nat} {RVA RVB : Nat → Value} {a b : G} (hA : Gr w w1 vA a.n BA RVA a) (hB : Gr w1 w2 vB b.n BB RVB b)
    (hown : w3.ownsRow w.heap.size 34 1 v' (a.n + b.n) ((List.range a.n).map RVA ++ (List.range b.n).map RVB)) (hg : w2.grownBy w3 vA.ownBlock) :
    Gr w w3 v' (belowG a b).n w3.heap.size (fun r => if r < a.n then RVA r else RVB (r - a.n)) (belowG a b) := by
  have hA' := hA.keep (hB.below.mono hA.hi)
  have s1 : w1.heap.size ≤ w2.heap.size := hB.below.size
  have s0 : w.heap.size ≤ w1.heap.size := hA.below.size
  have s3 : w2.heap.size ≤ w3.heap.size := hg.size
  have hlow : ∀ k, vA.ownBlock = some k → w.heap.size ≤ k := fun k hk => (hA.top.lt k hk).1
  refine ⟨hA'.below.grown hg (by omega) hlow, by omega, Nat.le_refl _, ?_, fun k hk => (hown.lt k hk).2, fun r hr => ?_, fun r s hr hs k e1 e2 => ?_⟩
  · have e : (List.range (belowG a b).n).map (fun r => if r < a.n then RVA r else RVB (r - a.n)) = (List.range a.n).map RVA ++ (List.range b.n).map RVB := by
      show (List.range (a.n + b.n)).map _ = _
      rw [List.range_add, List.map_append, List.map_map]
      congr 1
      · exact List.map_congr_left (fun r hr => by rw [if_pos (List.mem_range.1 hr)])
      · exact List.map_congr_left (fun r hr => by simp only [Function.comp]; rw [if_neg (by omega), Nat.add_sub_cancel_left])
    rw [e]; exact hown
  · have hr' : r < a.n + b.n := hr
    by_cases h1 : r < a.n
    · obtain ⟨ys, c1, c2, c3⟩ := hA'.rows r h1
      have k3 := c1.kept hg (ownsRow_apart c1 hA'.top (by decide))
      simp only [belowG, h1, if_true]
      exact ⟨ys, k3, fun k hk => (k3.lt k hk).2, c3⟩
    · obtain ⟨ys, c1, c2, c3⟩ := hB.rows (r - a.n) (by omega)
      have k3 := c1.kept hg (ownsRow_apart c1 hA'.top (by decide))
      simp only [belowG, h1, if_false]
      exact ⟨ys, ownsRow_low k3 s0, fun k hk => (k3.lt k hk).2, c3⟩
  · have hr' : r < a.n + b.n := hr
    have hs' : s < a.n + b.n := hs
    by_cases h1 : r < a.n
    · by_cases h2 : s < a.n
      · simp only [h1, if_true] at e1
        simp only [h2, if_true] at e2
        exact hA.inj r s h1 h2 k e1 e2
      · simp only [h1, if_true] at e1
        simp only [h2, if_false] at e2
        obtain ⟨ys, c1, c2, c3⟩ := hA.rows r h1
        obtain ⟨zs, d1, d2, d3⟩ := hB.rows (s - a.n) (by omega)
        have := (c1.lt k e1).2
        have := (d1.lt k e2).1
        omega
    · by_cases h2 : s < a.n
      · simp only [h1, if_false] at e1
        simp only [h2, if_true] at e2
        obtain ⟨ys, c1, c2, c3⟩ := hA.rows s h2
        obtain ⟨zs, d1, d2, d3⟩ := hB.rows (r - a.n) (by omega)
        have := (c1.lt k e2).2
        have := (d1.lt k e1).1
        omega
      · simp only [h1, if_false] at e1
        simp only [h2, if_false] at e2
        have := hB.inj (r - a.n) (s - a.n) (by omega) (by omega) k e1 e2
        omega

end Go.Proofs.Ytjllmidagcniaaa
