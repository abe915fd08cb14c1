/- Runs and WaterLongest of the model. -/
import Derived.Test.YtjllmidagcniaaaLongI
import Derived.Test.YtjllmidagcniaaaWSpec
namespace Go.Proofs.Ytjllmidagcniaaa
open Go.RowKit
set_option linter.unusedVariables false

/-- the value lists the indexes l -/
def Lists (B : Nat) (wr : World) (v : Value) {M : Nat} (l : List (Ix M)) : Prop := wr.ownsRow B 3 1 v l.length (ixV l)

theorem Lists.rdI {B : Nat} {w : World} {v : Value} {M : Nat} {l : List (Ix M)} (h : Lists B w v l) (hM : M ≤ 49) : RdI B w.heap.size w v l.length (ixZ l) := by
  refine Rw.rdI ⟨ixV l, h, fun j hj => ?_⟩ (fun j hj => ?_)
  · rw [ixZ_at _ hj]; simp [ixV, hj]
  · rw [ixZ_at _ hj]; have := l[j].2; omega

theorem lists_one {w : World} {M : Nat} (i : Ix M) : Lists w.heap.size (w.alloc (.cells #[.int .i64 i.1] 3)) (.slice (some ⟨w.heap.size, 0, none⟩) 1 1) [i] :=
  ⟨by simp [ixV], Or.inr ⟨w.heap.size, 1, #[.int .i64 i.1], rfl, Nat.le_refl _, heap_alloc_new w _, Nat.le_refl _, by decide, rfl, by simp [ixV]⟩⟩

/-- what a list of indexes leaves -/
def LiPost {M : Nat} (l : List (Ix M)) (w : World) (e : Ending) (w' : World) : Prop :=
  ∃ v, e = .returned v ∧ (∃ a c, v = .slice a l.length c) ∧ Lists w.heap.size w' v l ∧ Below w.heap.size w w'

theorem Lists.shape {B : Nat} {w : World} {v : Value} {M : Nat} {l : List (Ix M)} (h : Lists B w v l) : ∃ a c, v = .slice a l.length c := own_shape h
theorem Lists.below {B C : Nat} {w w' : World} {v : Value} {M : Nat} {l : List (Ix M)} (h : Lists B w v l) (hb : Below C w w') (hC : w.heap.size ≤ C) : Lists B w' v l := ownsRow_below h hb (fun k hk => by have := (h.lt k hk).2; omega)

set_option maxHeartbeats 4000000 in
set_option maxRecDepth 100000 in
theorem l2Run_any (v : Value) (lo hi : Nat) (g : G) (R C : Nat) (eR : g.n = R) (eC : g.len 0 = C) (i : Ix (R * C)) (w : World) (hv : RdM lo hi w v g) (hh : hi ≤ w.heap.size) (h : g.Valid) (hZ : ∀ x, x < R * C → 0 ≤ g.flat x ∧ g.flat x ≤ 99) :
    Calls Try.prog 80 #[v, .int .i64 i.1] w (LiPost (runL R C g.flat i) w) := by
  obtain ⟨i0, hi0, hz0, hz1, hz2⟩ := info_parts Try.infoI
  have HN := Lib.hid (fun (W : World) (hb : Below w.heap.size w W) (j : Ix (R * C)) => l2Next_any v lo hi g R C eR eC j W (hv.same (SameIn.below hb hh)) (Nat.le_trans hh hb.size) h)
  have HRUN := Lib.hid (runL_is hZ i)
  have hL100 := runL_len R C g.flat i
  have HZ := Lib.hid hZ
  obtain ⟨L, eL⟩ : ∃ L, runL R C g.flat i = L := ⟨_, rfl⟩
  rw [eL] at HRUN hL100 ⊢
  obtain ⟨b0, off0, cap0, rfl⟩ := hv.shapeW h.1.1
  have HL1 := Lib.hid (lists_one (w := w) i)
  have HB1 := Lib.hid ((Below.refl w.heap.size w).alloc (Nat.le_refl _) (.cells #[.int .i64 i.1] 3))
  clear eR eC hv h hZ eL
  go_enter Try.func80, Try.ntmps80
  go_wp2
  go_loopw [1, 5] (fun s o wr => ∃ (pre rest : List (Ix (R * C))) (j : Ix (R * C)) (v : Value), s = .int .i64 j.1 ∧ v = o ∧ L = pre ++ j :: rest ∧ IsRun R C g.flat j (j :: rest) ∧ Lists w.heap.size wr v (pre ++ [j]) ∧ Below w.heap.size w wr) (fun s _ _ => (g.flat (intOf s).toNat).toNat)
  case atStart =>
    rcases HRUN.out.cons with ⟨h1, h2⟩ | ⟨h1, t, h2, h3⟩
    · exact ⟨[], [], i, _, rfl, rfl, h2, by rw [← h2]; exact HRUN.out, HL1.out, HB1.out⟩
    · exact ⟨[], t, i, _, rfl, rfl, h2, by rw [← h2]; exact HRUN.out, HL1.out, HB1.out⟩
  case round =>
    obtain ⟨pre, rest, j, v, rfl, rfl, hL, hrun, hli, hb⟩ := hrel
    have HL := Lib.hid hL
    have HLI := Lib.hid hli
    have HB := Lib.hid hb
    have HNJ := Lib.hid (HN.out wr hb j)
    have hsz := hb.size
    clear hL hli hb
    rcases hrun.cons with ⟨hs, hr⟩ | ⟨hs, t, hr, hrt⟩
    · have HS := Lib.hid hs
      have hr' : rest = [] := by simpa using hr
      have HR := Lib.hid hr'
      obtain ⟨y, ey⟩ : ∃ y, j.1 = y := ⟨_, rfl⟩
      have hx : ((y : Int) != (y : Int)) = false := by simp
      have HY := Lib.hid (show (nxt R C g.flat j).1 = y by rw [hs, ey])
      rw [ey] at HNJ ⊢
      clear hs hr hr' hrun ey
      go_wp2_with fail
      refine HNJ.out.mono ?_
      rintro e w2 ⟨rfl, hb2⟩
      rw [HY.out]
      have HB2 := Lib.hid (HB.out.trans (hb2.mono HB.out.size))
      have hl2 := HLI.out.below hb2 (Nat.le_refl _)
      obtain ⟨a, c, rfl⟩ := hl2.shape
      have e1 : (pre ++ [j]).length = pre.length + 1 := by simp
      rw [e1] at hl2 ⊢
      have HL2 := Lib.hid hl2
      clear e1
      clear hb2 hl2
      go_wp2
      go_ret
      have e : L = pre ++ [j] := by rw [HL.out, HR.out]
      rw [e]
      exact ⟨.slice a (pre.length + 1) c, rfl, ⟨a, c, by simp⟩, HL2.out, HB2.out⟩
    · have hr' : rest = t := by simpa using hr
      have HLOW := Lib.hid (nxt_low R C g.flat j hs)
      have hlen : pre.length + 2 ≤ L.length := by
        have : 1 ≤ t.length := by rcases hrt.cons with ⟨_, e⟩ | ⟨_, t2, e, _⟩ <;> rw [e] <;> simp
        rw [HL.out, hr']; simp; omega
      have HR := Lib.hid hr'
      have HRT := Lib.hid hrt
      obtain ⟨z, ez⟩ : ∃ z, nxt R C g.flat j = z := ⟨_, rfl⟩
      have hne : z.1 ≠ j.1 := fun e => hs (Subtype.ext (by rw [ez, e]))
      rw [ez] at HNJ HLOW HRT
      obtain ⟨y, ey⟩ : ∃ y, j.1 = y := ⟨_, rfl⟩
      obtain ⟨x, ex⟩ : ∃ x, z.1 = x := ⟨_, rfl⟩
      have hx : ((x : Int) != (y : Int)) = true := by rw [bne_iff_ne]; omega
      have HEY := Lib.hid ey
      have HEX := Lib.hid ex
      have HNJ2 := Lib.hid (fun (W : World) (hb : Below w.heap.size w W) => HN.out W hb j)
      rw [ez, ey, ex] at HNJ2
      rw [ey, ex] at HNJ
      rw [ey]
      clear hs hr hr' hrt hrun ey ez ex hne
      go_wp2_with fail
      refine HNJ.out.mono ?_
      rintro e w2 ⟨rfl, hb2⟩
      have HB2 := Lib.hid (HB.out.trans (hb2.mono HB.out.size))
      have hl2 := HLI.out.below hb2 (Nat.le_refl _)
      have HL2 := Lib.hid hl2
      clear hb2 hl2
      go_wp2_with fail
      refine (HNJ2.out w2 HB2.out).mono ?_
      rintro e w3 ⟨rfl, hb3⟩
      have HB3 := Lib.hid (HB2.out.trans (hb3.mono HB2.out.size))
      have hl3 := HL2.out.below hb3 (Nat.le_refl _)
      have hs3 := HB3.out.size
      have HL3 := Lib.hid hl3
      have hl3' : w3.ownsRow w.heap.size 3 1 v (pre ++ [j]).length (ixV (pre ++ [j])) := hl3
      have hpl : (pre ++ [j]).length ≤ 100 := by simp; omega
      clear hb3 hl3
      go_wp2_with (first | (at_builtin; refine wpList_append_own _ rfl _ _ 34 rfl w.heap.size 3 i0 (.int .i64 0) 1 8 Try.underlying34 hi0 hz0 hz1 hz2 rfl (by decide) _ (pre ++ [j]).length (ixV (pre ++ [j])) rfl (hl3'.alloc _) ⟨w3.heap.size, 0, none⟩ 1 1 [.int .i64 x] rfl rfl (World.news_of_block (cs := #[.int .i64 x]) (t := 3) (fr := (0, 0)) (heap_alloc_new w3 _)) (by simp [Value.oneCell']) (by unfold maxLen; omega) (by omega) (by simp; omega) ?_; intro v' w4 hown4 hg4 _))
      have HB4 := Lib.hid ((HB3.out.alloc HB3.out.size (.cells #[.int .i64 x] 3)).grown hg4 (by simp; omega) (fun k hk => (hl3'.lt k hk).1))
      have HL4 := Lib.hid (show Lists w.heap.size w4 v' ((pre ++ [j]) ++ [z]) from by
        have e : ixV ((pre ++ [j]) ++ [z]) = ixV (pre ++ [j]) ++ [.int .i64 x] := by simp [ixV, HEX.out]
        unfold Lists
        rw [e, List.length_append]
        exact hown4)
      clear hown4 hg4 hl3'
      go_wp2
      go_roundw
      case rel =>
        rcases HRT.out.cons with ⟨h1, h2⟩ | ⟨h1, t2, h2, h3⟩
        · exact ⟨pre ++ [j], [], z, v', by rw [HEX.out], rfl, by rw [HL.out, HR.out, h2]; simp, by rw [← h2]; exact HRT.out, HL4.out, HB4.out⟩
        · exact ⟨pre ++ [j], t2, z, v', by rw [HEX.out], rfl, by rw [HL.out, HR.out, h2]; simp, by rw [← h2]; exact HRT.out, HL4.out, HB4.out⟩
      case measure =>
        have h1 := HLOW.out
        have h2 := HZ.out _ z.2
        rw [HEX.out] at h1 h2
        rw [HEY.out] at h1
        simp [intOf]; omega

end Go.Proofs.Ytjllmidagcniaaa
