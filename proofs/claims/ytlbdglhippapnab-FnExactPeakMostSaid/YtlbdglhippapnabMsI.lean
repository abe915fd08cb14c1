/- The most prominent peaks: the model and the program. -/
import Derived.Test.YtlbdglhippapnabSmI
namespace Go.Proofs.Ytlbdglhippapnab
open Go.RowKit
set_option linter.unusedVariables false

noncomputable def G.mstL (g : G) (least : Int) {M : Nat} (l : List (Ix M)) : List (Ix M) := l.filter (fun i => decide (least ≤ g.prV (i.1 : Int)))
noncomputable def G.msV (g : G) (least : Int) : List (Ix (g.n * g.len 0)) := g.mstL least g.rkV
theorem G.mstL_yes (g : G) (least : Int) {M : Nat} (l : List (Ix M)) {k : Nat} (h : k < l.length) (hs : least ≤ g.prV ((l[k]).1 : Int)) : g.mstL least (l.take (k + 1)) = g.mstL least (l.take k) ++ [l[k]] := by
  unfold G.mstL
  rw [List.take_succ_eq_append_getElem h, List.filter_append]
  simp [hs]
theorem G.mstL_no (g : G) (least : Int) {M : Nat} (l : List (Ix M)) {k : Nat} (h : k < l.length) (hs : ¬ least ≤ g.prV ((l[k]).1 : Int)) : g.mstL least (l.take (k + 1)) = g.mstL least (l.take k) := by
  unfold G.mstL
  rw [List.take_succ_eq_append_getElem h, List.filter_append]
  simp [hs]
theorem G.mstL_len (g : G) (least : Int) {M : Nat} (l : List (Ix M)) (k : Nat) : (g.mstL least (l.take k)).length ≤ k := by
  have := List.length_filter_le (fun i : Ix M => decide (least ≤ g.prV (i.1 : Int))) (l.take k)
  rw [List.length_take] at this
  unfold G.mstL
  omega
theorem G.rkV_len (g : G) : g.rkV.length ≤ 49 := by
  by_cases h : g.Valid
  · rw [G.rkV_yes h]
    have := rkL_len (R := g.n) (C := g.len 0) (Z := g.flat) (k := g.n * g.len 0)
    have := mul_le_49 h.1.2 h.2.1.2
    omega
  · rw [G.rkV_no h]; simp

/-- the state of a loop that picks from a list -/
structure MsI {M : Nat} (B D B3 : Nat) (w0 : World) (t3 : Value) (l : List (Ix M)) (wr : World) (v : Value) (L : List (Ix M)) : Prop where
  li : Lists B wr v L
  far : ∀ k, v.ownBlock = some k → k = D ∨ B3 ≤ k
  l3 : Lists B wr t3 l
  off : ∀ k, t3.ownBlock = some k → k ≠ D ∧ k < B3
  bel : Below B w0 wr
  siz : B3 ≤ wr.heap.size
  bsz : B ≤ wr.heap.size

theorem MsI.below {M B D B3 : Nat} {w0 wr w' : World} {t3 v : Value} {l L : List (Ix M)} (h : MsI B D B3 w0 t3 l wr v L) (hb : Below wr.heap.size wr w') : MsI B D B3 w0 t3 l w' v L :=
  ⟨h.li.below hb (Nat.le_refl _), h.far, h.l3.below hb (Nat.le_refl _), h.off, h.bel.trans (hb.mono h.bsz), Nat.le_trans h.siz hb.size, Nat.le_trans h.bsz hb.size⟩
theorem MsI.app {M B D B3 : Nat} {w0 wr w' : World} {t3 v v' : Value} {l L : List (Ix M)} {o : Obj} (h : MsI B D B3 w0 t3 l wr v L) (i : Ix M) (hown : w'.ownsRow B 3 1 v' (L.length + 1) (ixV L ++ [.int .i64 i.1])) (hg : (wr.alloc o).grownBy w' v.ownBlock)
    (hat : v'.ownBlock = v.ownBlock ∨ v'.ownBlock = some (wr.alloc o).heap.size) : MsI B D B3 w0 t3 l w' v' (L ++ [i]) := by
  have hs := hg.size
  rw [World.size_alloc] at hs
  have h1 := h.siz
  have h2 := h.bsz
  refine ⟨?_, fun k hk => ?_, ?_, h.off, ?_, by omega, by omega⟩
  · have e : ixV (L ++ [i]) = ixV L ++ [.int .i64 i.1] := by simp [ixV]
    unfold Lists
    rw [e, List.length_append]
    exact hown
  · rcases hat with e | e
    · exact h.far k (by rw [← e]; exact hk)
    · rw [e] at hk
      simp at hk
      omega
  · have ha : Lists B (wr.alloc o) t3 l := World.ownsRow.alloc h.l3 _
    refine World.ownsRow.kept ha hg ?_
    cases e : t3.ownBlock with
    | none => exact Or.inl rfl
    | some k =>
      right
      intro e2
      have := h.off k e
      have := h.far k e2.symm
      omega
  · exact (h.bel.alloc h2 o).grown hg (by rw [World.size_alloc]; omega) (fun k hk => (h.li.lt k hk).1)

set_option maxHeartbeats 4000000 in
set_option maxRecDepth 100000 in
theorem specPeakMost_any (v : Value) (lo hi : Nat) (g : G) (least : Int) (w : World) (hv : RdM lo hi w v g) (hh : hi ≤ w.heap.size) :
    Calls Try.prog 30 #[v, .int .i64 least] w (LvPost (g.msV least) w) := by
  have hb0 := (Below.refl w.heap.size w).alloc (Nat.le_refl _) (.cells #[] 3)
  have HB0 := Lib.hid hb0
  have HL0 := Lib.hid (show Lists w.heap.size (w.alloc (.cells #[] 3)) (.slice (some ⟨w.heap.size, 0, none⟩) 0 0) ([] : List (Ix (g.n * g.len 0))) from World.ownsRow_lit w #[] 0 (Nat.le_refl _) (Nat.zero_le _) (by simp))
  have HPL := Lib.hid (specPeakList_any v lo hi g (w.alloc (.cells #[] 3)) (hv.same (SameIn.below hb0 hh)) (Nat.le_trans hh hb0.size))
  have HPR := Lib.hid (fun (W : World) (hb : Below w.heap.size w W) (i : Int) => specPeakProminence_any v lo hi g i W (hv.same (SameIn.below hb hh)) (Nat.le_trans hh hb.size))
  have hlen := g.rkV_len
  have HA := Lib.hid (show g.msV least = g.mstL least (g.rkV.take g.rkV.length) by rw [List.take_length]; rfl)
  obtain ⟨l, el⟩ : ∃ l, g.rkV = l := ⟨_, rfl⟩
  rw [el] at HA hlen HPL
  clear hv hb0 el
  go_enter Try.func30, Try.ntmps30
  go_wp2_with fail
  refine HPL.out.mono ?_
  rintro e w3 ⟨v3, rfl, hl3, hb3⟩
  have HB3 := Lib.hid (HB0.out.trans (hb3.mono HB0.out.size))
  have HL03 := Lib.hid (HL0.out.below hb3 (Nat.le_refl _))
  obtain ⟨a3, c3, rfl⟩ := Lists.shape hl3
  have hsz0 : (w.alloc (.cells #[] 3)).heap.size = w.heap.size + 1 := by simp
  have hs3 := hb3.size
  have HMS := Lib.hid (show MsI w.heap.size w.heap.size w3.heap.size w (.slice a3 l.length c3) l w3 (.slice (some ⟨w.heap.size, 0, none⟩) 0 0) (g.mstL least (l.take 0)) from
    ⟨HL03.out, fun k hk => by simp [Value.ownBlock] at hk; omega, World.ownsRow.mono hl3 (by omega), fun k hk => by have := World.ownsRow.lt hl3 k hk; omega, HB3.out, Nat.le_refl _, HB3.out.size⟩)
  clear hb3 hl3
  obtain ⟨i0, hi0, hz0, hz1, hz2⟩ := info_parts Try.infoI
  go_wp2
  go_loopw [5, 7] (fun s k wr => ∃ (kk : Nat) (v' : Value), kk ≤ l.length ∧ k = .int .i64 kk ∧ v' = s ∧ MsI w.heap.size w.heap.size w3.heap.size w (.slice a3 l.length c3) l wr v' (g.mstL least (l.take kk))) (fun _ k _ => l.length - (intOf k).toNat)
  case atStart => exact ⟨0, _, Nat.zero_le _, rfl, rfl, HMS.out⟩
  case round =>
    obtain ⟨kk, v', hk, rfl, rfl, hms⟩ := hrel
    have MS := Lib.hid hms
    have HLN := Lib.hid (g.mstL_len least l kk)
    obtain ⟨a', c', rfl⟩ := Lists.shape hms.li
    by_cases hlt : kk < l.length
    · have hlt' : (kk : Int) < l.length := by omega
      obtain ⟨b3, rfl, c1, hc1, hc2⟩ := hms.l3.atCell hlt
      have hc2' : c3 ≤ 9223372036854775807 := by unfold maxLen at hc2; omega
      have HYES := Lib.hid (g.mstL_yes least l hlt)
      have HNO := Lib.hid (g.mstL_no least l hlt)
      have HPP := Lib.hid (HPR.out wr hms.bel ((l[kk]).1 : Int))
      have HAP := Lib.hid (fun (w4 : World) (h4 : MsI w.heap.size w.heap.size w3.heap.size w (.slice (some ⟨b3, 0, none⟩) l.length c3) l w4 (.slice a' (g.mstL least (l.take kk)).length c') (g.mstL least (l.take kk))) => show w4.cell? ⟨b3, kk, none⟩ = some (.int .i64 (l[kk]).1) from by
        obtain ⟨b9, e9, c9, _, _⟩ := h4.l3.atCell hlt
        cases e9; exact c9)
      obtain ⟨i, ei⟩ : ∃ i, l[kk] = i := ⟨_, rfl⟩
      rw [ei] at c1 HYES HNO HPP HAP
      obtain ⟨x, ex⟩ : ∃ x, i.1 = x := ⟨_, rfl⟩
      have EX := Lib.hid ex
      rw [ex] at c1 HYES HNO HPP HAP
      obtain ⟨p, ep⟩ : ∃ p, g.prV (x : Int) = p := ⟨_, rfl⟩
      rw [ep] at HYES HNO HPP
      obtain ⟨L, eL⟩ : ∃ L, g.mstL least (l.take kk) = L := ⟨_, rfl⟩
      rw [eL] at HYES HNO HAP MS HLN
      rw [eL]
      have hln := HLN.out
      clear ex ep eL ei hms hc2 hlt
      by_cases hs : least ≤ p
      · have HS := Lib.hid (HYES.out hs)
        go_wp2_with fail
        refine HPP.out.mono ?_
        rintro e w4 ⟨rfl, hb4⟩
        have M4 := Lib.hid (MS.out.below hb4)
        have hs4 := M4.out.bsz
        have c4 := HAP.out w4 M4.out
        have hli := M4.out.li
        unfold Lists at hli
        clear hb4 c1
        go_wp2_with (first | (at_builtin; refine wpList_append_own_at _ rfl _ _ 24 rfl w.heap.size 3 i0 (.int .i64 0) 1 8 Try.underlying24 hi0 hz0 hz1 hz2 rfl (by decide) _ L.length (ixV L) rfl (hli.alloc _) ⟨w4.heap.size, 0, none⟩ 1 1 [.int .i64 x] rfl rfl (World.news_of_block (cs := #[.int .i64 x]) (t := 3) (fr := (0, 0)) (heap_alloc_new w4 _)) (by simp [Value.oneCell']) (by unfold maxLen; omega) (by omega) (by simp; omega) ?_; intro v5 w5 hown5 hg5 _ hat5))
        have M5 := Lib.hid (M4.out.app i (by rw [EX.out]; exact hown5) hg5 hat5)
        clear hown5 hg5 hat5 hli c4
        go_wp2
        go_roundw
        case rel => exact ⟨kk + 1, v5, by omega, by go_num, rfl, by rw [HS.out]; exact M5.out⟩
        case measure => simp [intOf]; omega
      · have HS := Lib.hid (HNO.out hs)
        go_wp2_with fail
        refine HPP.out.mono ?_
        rintro e w4 ⟨rfl, hb4⟩
        have M4 := Lib.hid (MS.out.below hb4)
        clear hb4 c1
        go_wp2
        go_roundw
        case rel => exact ⟨kk + 1, _, by omega, by go_num, rfl, by rw [HS.out]; exact M4.out⟩
        case measure => simp [intOf]; omega
    · have hge : ¬ (kk : Int) < l.length := by omega
      have hkk : kk = l.length := by omega
      have HE := Lib.hid (show g.msV least = g.mstL least (l.take kk) by rw [hkk]; exact HA.out)
      obtain ⟨L, eL⟩ : ∃ L, g.mstL least (l.take kk) = L := ⟨_, rfl⟩
      rw [eL] at HE MS
      rw [eL]
      clear eL hms hkk
      go_wp2
      go_ret
      exact LvPost.mk' HE.out MS.out.li MS.out.bel

end Go.Proofs.Ytlbdglhippapnab
