/- The list of the peaks in the model. -/
import Derived.Test.YtepnhamkadkipaaPkL
import Derived.Test.YtepnhamkadkipaaPkS
import Derived.Test.YtepnhamkadkipaaSinkS
namespace Go.Proofs.Ytepnhamkadkipaa
open Go.RowKit
set_option linter.unusedVariables false

theorem Lists.cellAt {B : Nat} {w : World} {M : Nat} {l : List (Ix M)} {b n c q : Nat} (h : Lists B w (.slice (some ⟨b, 0, none⟩) n c) l) (hq : q < l.length) : w.cell? ⟨b, q, none⟩ = some (.int .i64 (l[q]).1) := by
  obtain ⟨hlen, ⟨e, h0⟩ | ⟨b', cap, cur, e, hB, hb, hc, hcap, hcs, ht⟩⟩ := h
  · cases e
  · simp only [Value.slice.injEq, Option.some.injEq, Addr.mk.injEq, and_true] at e
    obtain ⟨rfl, rfl, rfl⟩ := e
    have e1 : cur.toList[q]? = (ixV l)[q]? := by rw [← ht, List.getElem?_take_of_lt (by omega)]
    have e2 : cur[q]? = some (.int .i64 (l[q]).1) := by rw [← Array.getElem?_toList, e1]; simp [ixV, hq]
    simp [World.cell?, hb, e2]
/-- a list that is not nil -/
theorem Lists.shapeS {B : Nat} {w : World} {M : Nat} {l : List (Ix M)} {v : Value} (h : Lists B w v l) (hv : v ≠ .slice none 0 0) : ∃ b c, v = .slice (some ⟨b, 0, none⟩) l.length c ∧ B ≤ b ∧ b < w.heap.size ∧ l.length ≤ c ∧ c ≤ 9223372036854775807 := by
  obtain ⟨hlen, ⟨e, h0⟩ | ⟨b', cap, cur, e, hB, hb, hc, hcap, hcs, ht⟩⟩ := h
  · exact absurd e hv
  · exact ⟨b', cap, e, hB, lt_of_block hb, hc, by unfold maxLen at hcap; omega⟩
theorem ixV_len {M : Nat} (l : List (Ix M)) : (ixV l).length = l.length := by simp [ixV]
/-- the cells of a part of a list -/
theorem Lists.part {B : Nat} {w : World} {M : Nat} {l m : List (Ix M)} {b n c off : Nat} (h : Lists B w (.slice (some ⟨b, 0, none⟩) n c) l) (hm : ∀ j (hj : j < m.length), ∃ hq : off + j < l.length, m[j] = l[off + j]) :
    ∀ j u, (ixV m)[j]? = some u → w.cell? ((⟨b, off, none⟩ : Addr).add j) = some u := fun j u hu => by
  have hj : j < m.length := by
    rcases Nat.lt_or_ge j m.length with h | h
    · exact h
    · rw [List.getElem?_eq_none (by rw [ixV_len]; omega)] at hu; cases hu
  obtain ⟨hq, e⟩ := hm j hj
  rw [add_none, h.cellAt hq]
  have : (ixV m)[j]? = some (.int .i64 (m[j]).1) := by simp [ixV, hj]
  rw [this] at hu
  cases hu
  rw [e]
theorem ixV_one {M : Nat} (l : List (Ix M)) : ∀ u ∈ ixV l, u.oneCell' = true := by
  intro u hu
  unfold ixV at hu
  rw [List.mem_map] at hu
  obtain ⟨x, _, rfl⟩ := hu
  rfl

set_option maxHeartbeats 8000000 in
set_option maxRecDepth 100000 in
theorem specPeakList_any (v : Value) (lo hi : Nat) (g : G) (w : World) (hv : RdM lo hi w v g) (hh : hi ≤ w.heap.size) :
    Calls Try.prog 22 #[v] w (LvPost g.rkV w) := by
  have hb0 := (Below.refl w.heap.size w).alloc (Nat.le_refl _) (.cells #[] 3)
  have HB0 := Lib.hid hb0
  have HL0 := Lib.hid (show Lists w.heap.size (w.alloc (.cells #[] 3)) (.slice (some ⟨w.heap.size, 0, none⟩) 0 0) ([] : List (Ix (g.n * g.len 0))) from World.ownsRow_lit w #[] 0 (Nat.le_refl _) (Nat.zero_le _) (by simp))
  have HC := Lib.hid (specValid_any v lo hi g (w.alloc (.cells #[] 3)) (hv.same (SameIn.below hb0 hh)))
  by_cases h : g.Valid
  · have HB := Lib.hid (G.vB_yes h)
    have HA := Lib.hid (G.rkV_yes h)
    obtain ⟨b0, off0, cap0, rfl⟩ := hv.shapeW h.1.1
    have HV := Lib.hid hv
    have HH := Lib.hid h
    clear hv h hb0
    go_enter Try.func22, Try.ntmps22
    go_wp2_with fail
    refine HC.out.mono ?_
    rintro e w1 ⟨rfl, n1, rfl⟩
    rw [HB.out]
    go_wp2
    have h49 := mul_le_49 HH.out.1.2 HH.out.2.1.2
    obtain ⟨i0, hi0, hz0, hz1, hz2⟩ := info_parts Try.infoI
    go_loopw [3, 4] (fun o k wr => ∃ (kk : Nat) (v : Value), kk ≤ g.n * g.len 0 ∧ k = .int .i64 kk ∧ v = o ∧ v ≠ .slice none 0 0 ∧ Lists w.heap.size wr v (rkL g.n (g.len 0) g.flat kk) ∧ Below w.heap.size w wr) (fun _ k _ => g.n * g.len 0 - (intOf k).toNat)
    case atStart => exact ⟨0, _, Nat.zero_le _, rfl, rfl, by simp, HL0.out.below (below_drewN (Below.refl _ _) _) (Nat.le_refl _), below_drewN HB0.out _⟩
    case round =>
      obtain ⟨kk, v, hk, rfl, rfl, hvn, hli, hb⟩ := hrel
      have HVR := Lib.hid (HV.out.same (SameIn.below hb hh))
      have hsz := hb.size
      have HB1 := Lib.hid hb
      have hln := rkL_len (R := g.n) (C := g.len 0) (Z := g.flat) (k := kk)
      obtain ⟨bl, cl, rfl, hbl1, hbl2, hcl1, hcl2⟩ := hli.shapeS hvn
      have HLI := Lib.hid hli
      clear hb hli hvn
      by_cases hlt : kk < g.n * g.len 0
      · obtain ⟨i, hi'⟩ : ∃ i : Ix (g.n * g.len 0), i.1 = kk := ⟨⟨kk, hlt⟩, rfl⟩
        subst hi'
        have HN := Lib.hid (l4Peak_any _ lo hi g g.n (g.len 0) rfl rfl i wr HVR.out (by omega) HH.out)
        have HHI := Lib.hid (fun (W : World) (hW : RdM lo hi W (.slice (some ⟨b0, off0, none⟩) g.n cap0) g) (z : Ix (g.n * g.len 0)) => l4Higher_any _ lo hi g z.1 i.1 W hW HH.out z.2 i.2)
        have HCE := Lib.hid (fun (W : World) (hW : RdM lo hi W (.slice (some ⟨b0, off0, none⟩) g.n cap0) g) => l2Cells_any _ lo hi g W hW HH.out)
        obtain ⟨N, eN⟩ : ∃ N, g.n * g.len 0 = N := ⟨_, rfl⟩
        rw [eN] at HCE
        have EN := Lib.hid eN
        obtain ⟨x, ex⟩ : ∃ x, i.1 = x := ⟨_, rfl⟩
        have HEX := Lib.hid ex
        have hlt' : (x : Int) < N := by omega
        have hN49 : N ≤ 49 := by omega
        have hltN : x < N := by omega
        by_cases hs : pkQ g.n (g.len 0) g.flat i = true
        · have HL := Lib.hid (rkL_yes i hs)
          rw [hs, ex] at HN
          rw [ex] at hln HLI hcl1 HHI ⊢
          obtain ⟨l, el⟩ : ∃ l, rkL g.n (g.len 0) g.flat x = l := ⟨_, rfl⟩
          rw [HEX.out, el] at HL
          rw [el] at hln HLI hcl1 ⊢
          clear eN ex hlt hs el
          go_wp2_with fail
          refine (HCE.out _ HVR.out).mono ?_
          rintro e w2 ⟨rfl, rfl⟩
          go_wp2_with fail
          refine HN.out.mono ?_
          rintro e w3 ⟨rfl, hb3⟩
          have HB3 := Lib.hid (HB1.out.trans (hb3.mono hsz))
          have HV3 := Lib.hid (HV.out.same (SameIn.below HB3.out hh))
          have HL3 := Lib.hid (HLI.out.below hb3 (Nat.le_refl _))
          have hs3 := hb3.size
          clear hb3 HLI
          go_wp2
          obtain ⟨wo, rfl⟩ : ∃ wo : World, wo = wr := ⟨_, rfl⟩
          go_loopw [5] (fun s wr => ∃ at_ m : Nat, at_ ≤ l.length ∧ s = .int .i64 at_ ∧ wr = w3.drewN m ∧ ∀ j (h : j < l.length), j < at_ → hiB g.flat (l[j]).1 x = true) (fun s _ => l.length - (intOf s).toNat)
          case atStart => exact ⟨0, 0, Nat.zero_le _, rfl, rfl, fun j h hj => by omega⟩
          case round =>
            obtain ⟨q, m, hq, rfl, rfl, hup⟩ := hrel
            have HUP := Lib.hid hup
            clear hup
            by_cases hql : q < l.length
            · have hql' : (q : Int) < l.length := by omega
              have c1 := HL3.out.cellAt hql
              have c1' : (w3.drewN m).cell? ⟨bl, q, none⟩ = some (.int .i64 (l[q]).1) := c1
              obtain ⟨z, ez⟩ : ∃ z, l[q] = z := ⟨_, rfl⟩
              have HQ := Lib.hid ez
              rw [ez] at c1'
              have HHZ := Lib.hid (HHI.out (w3.drewN m) (HV3.out.same (fun _ _ _ => rfl)) z)
              obtain ⟨t, et⟩ : ∃ t, hiB g.flat z.1 x = t := ⟨_, rfl⟩
              rw [et] at HHZ
              have ET := Lib.hid et
              clear c1 ez et
              cases t
              case true =>
                go_wp2_with fail
                refine HHZ.out.mono ?_
                rintro e w4 ⟨rfl, m2, rfl⟩
                go_wp2
                go_roundw
                case rel => exact ⟨q + 1, m + m2, by omega, by go_num, rfl, fun j h hj => by
                  by_cases e : j = q
                  · subst e; rw [HQ.out]; exact ET.out
                  · exact HUP.out j h (by omega)⟩
                case measure => simp [intOf]; omega
              case false =>
                have HI := Lib.hid (show insR g.flat i l = l.take q ++ i :: l.drop q from insR_at (by omega) (fun j h hj => by rw [HEX.out]; exact HUP.out j h hj) (fun h => by rw [HQ.out, HEX.out]; exact ET.out))
                go_wp2_with fail
                refine HHZ.out.mono ?_
                rintro e w4 ⟨rfl, m2, rfl⟩
                have HBE := Lib.hid (show Below w3.heap.size w3 ((w3.drewN m).drewN m2) from below_drewN (below_drewN (Below.refl _ _) _) _)
                have hszE : ((w3.drewN m).drewN m2).heap.size = w3.heap.size := rfl
                have HLE := Lib.hid (show Lists w.heap.size ((w3.drewN m).drewN m2) (.slice (some ⟨bl, 0, none⟩) l.length cl) l from HL3.out.below HBE.out (Nat.le_refl _))
                generalize hWE : ((w3.drewN m).drewN m2) = WE at HBE HLE hszE ⊢
                clear hWE
                have HBA := Lib.hid (HBE.out.alloc HBE.out.size (.cells #[] 3))
                have own0 : (WE.alloc (.cells #[] 3)).ownsRow w3.heap.size 3 1 (.slice (some ⟨w3.heap.size, 0, none⟩) 0 0) 0 [] := by
                  have := World.ownsRow_lit WE #[] 0 (base := WE.heap.size) (e := 3) (size := 1) (Nat.le_refl _) (Nat.zero_le _) (by simp)
                  rw [hszE] at this
                  exact this
                have hqc : (q : Int) ≤ cl := by omega
                have hqle : (q : Int) ≤ (l.length : Int) := by omega
                have hlcl : (l.length : Int) ≤ cl := by omega
                have hql0 : q ≤ l.length := by omega
                go_wp2_with (first
                  | (at_builtin; (refine wpList_append_own _ rfl _ _ 32 rfl w3.heap.size 3 i0 (.int .i64 0) 1 8 Try.underlying32 hi0 hz0 hz1 hz2 rfl (by decide) (.slice (some ⟨w3.heap.size, 0, none⟩) 0 0) 0 [] rfl own0 ⟨bl, 0, none⟩ q cl (ixV (l.take q)) rfl (by rw [ixV_len, List.length_take]; omega) ((HLE.out.below (w' := WE.alloc (.cells #[] 3)) ((Below.refl _ _).alloc (Nat.le_refl _) _) (Nat.le_refl _)).part (fun j hj => ⟨by rw [List.length_take] at hj; omega, by simp⟩)) (ixV_one _) (by unfold maxLen; omega) (by omega) (by rw [World.size_alloc]; omega) ?_; intro v5 w5 hown5 hg5 hn5; have HB5 := Lib.hid (HBA.out.grown hg5 (by simp; omega) (fun k hk => by have := (own0.lt k hk).1; omega)); have hs5 : w3.heap.size ≤ w5.heap.size := (by have := hg5.size; simp at this; omega); have hv5 : v5 ≠ .slice none 0 0 := (fun e => by have := (hn5.1 e).1; simp at this); have hown5' : w5.ownsRow w3.heap.size 3 1 v5 q (ixV (l.take q)) := (by simpa using hown5); have HV5 := Lib.hid hv5; clear hown5 hg5 hn5 own0 hv5))
                  | (at_builtin; refine wpList_append_own _ rfl _ _ 32 rfl w3.heap.size 3 i0 (.int .i64 0) 1 8 Try.underlying32 hi0 hz0 hz1 hz2 rfl (by decide) v5 q (ixV (l.take q)) rfl (hown5'.alloc _) ⟨w5.heap.size, 0, none⟩ 1 1 [.int .i64 x] rfl rfl (World.news_of_block (cs := #[.int .i64 x]) (t := 3) (fr := (0, 0)) (heap_alloc_new w5 _)) (by simp [Value.oneCell']) (by unfold maxLen; omega) (by omega) (by simp; omega) ?_; intro v6 w6 hown6 hg6 hn6; have HB6 := Lib.hid ((HB5.out.alloc HB5.out.size (.cells #[.int .i64 x] 3)).grown hg6 (by simp; omega) (fun k hk => by have := (hown5'.lt k hk).1; omega)); have hs6 : w5.heap.size ≤ w6.heap.size := (by have := hg6.size; simp at this; omega); have HV6 := Lib.hid (show v6 ≠ .slice none 0 0 from fun e => by have := (hn6.1 e).2; omega); clear hg6 hn6 hown5')
                  | (at_builtin; (refine wpList_append_own _ rfl _ _ 32 rfl w3.heap.size 3 i0 (.int .i64 0) 1 8 Try.underlying32 hi0 hz0 hz1 hz2 rfl (by decide) v6 (q + 1) (ixV (l.take q) ++ [.int .i64 x]) rfl hown6 ⟨bl, q, none⟩ (l.length - q) (cl - q) (ixV (l.drop q)) rfl (by rw [ixV_len, List.length_drop]; omega) ((HL3.out.below HB6.out (Nat.le_refl _)).part (fun j hj => ⟨by rw [List.length_drop] at hj; omega, by simp⟩)) (ixV_one _) (by unfold maxLen; omega) (by omega) (by omega) ?_; intro v7 w7 hown7 hg7 hn7)))
                have HB7 := Lib.hid (HB3.out.trans ((HB6.out.grown hg7 (by omega) (fun k hk => (hown6.lt k hk).1)).mono (by omega)))
                have hv7 : v7 ≠ .slice none 0 0 := fun e => HV6.out (hn7.1 e).1
                have HL7 := Lib.hid (show Lists w.heap.size w7 v7 (rkL g.n (g.len 0) g.flat (x + 1)) from by
                  have e1 : ixV (l.take q ++ i :: l.drop q) = ixV (l.take q) ++ [.int .i64 x] ++ ixV (l.drop q) := by simp [ixV, HEX.out]
                  have e2 : (l.take q ++ i :: l.drop q).length = q + 1 + (l.length - q) := by simp; omega
                  rw [HL.out, HI.out]
                  unfold Lists
                  rw [e1, e2]
                  exact ownsRow_base hown7 (by have := HB3.out.size; omega))
                have HV7 := Lib.hid hv7
                clear hown7 hg7 hn7 hown6 hv7
                go_wp2
                go_roundw
                case rel => exact ⟨x + 1, v7, by have := EN.out; omega, by go_num, rfl, HV7.out, HL7.out, HB7.out⟩
                case measure => have := EN.out; simp [intOf]; omega
            · have eq0 : q = l.length := by omega
              have hqge : ¬ (q : Int) < l.length := by omega
              have HI := Lib.hid (show insR g.flat i l = l.take q ++ i :: l.drop q from insR_at (by omega) (fun j h hj => by rw [HEX.out]; exact HUP.out j h hj) (fun h => absurd h hql))
              obtain ⟨o, hif⟩ : ∃ o, (if cl = q then (some ⟨bl, 0, none⟩ : Option Addr) else some ⟨bl, q, none⟩) = some ⟨bl, o, none⟩ := by
                by_cases h : cl = q
                · exact ⟨0, by rw [if_pos h]⟩
                · exact ⟨q, by rw [if_neg h]⟩
              have hdr : l.drop q = [] := List.drop_eq_nil_of_le (by omega)
              have HDR := Lib.hid hdr
              clear hql eq0 hdr
              have HBE := Lib.hid (show Below w3.heap.size w3 (w3.drewN m) from below_drewN (Below.refl _ _) _)
              have hszE : (w3.drewN m).heap.size = w3.heap.size := rfl
              have HLE := Lib.hid (show Lists w.heap.size (w3.drewN m) (.slice (some ⟨bl, 0, none⟩) l.length cl) l from HL3.out.below HBE.out (Nat.le_refl _))
              generalize hWE : (w3.drewN m) = WE at HBE HLE hszE ⊢
              clear hWE
              have HBA := Lib.hid (HBE.out.alloc HBE.out.size (.cells #[] 3))
              have own0 : (WE.alloc (.cells #[] 3)).ownsRow w3.heap.size 3 1 (.slice (some ⟨w3.heap.size, 0, none⟩) 0 0) 0 [] := by
                have := World.ownsRow_lit WE #[] 0 (base := WE.heap.size) (e := 3) (size := 1) (Nat.le_refl _) (Nat.zero_le _) (by simp)
                rw [hszE] at this
                exact this
              have hqc : (q : Int) ≤ cl := by omega
              have hqle : (q : Int) ≤ (l.length : Int) := by omega
              have hlcl : (l.length : Int) ≤ cl := by omega
              have hql0 : q ≤ l.length := by omega
              go_wp2_with (first
                | (at_builtin; (refine wpList_append_own _ rfl _ _ 32 rfl w3.heap.size 3 i0 (.int .i64 0) 1 8 Try.underlying32 hi0 hz0 hz1 hz2 rfl (by decide) (.slice (some ⟨w3.heap.size, 0, none⟩) 0 0) 0 [] rfl own0 ⟨bl, 0, none⟩ q cl (ixV (l.take q)) rfl (by rw [ixV_len, List.length_take]; omega) ((HLE.out.below (w' := WE.alloc (.cells #[] 3)) ((Below.refl _ _).alloc (Nat.le_refl _) _) (Nat.le_refl _)).part (fun j hj => ⟨by rw [List.length_take] at hj; omega, by simp⟩)) (ixV_one _) (by unfold maxLen; omega) (by omega) (by rw [World.size_alloc]; omega) ?_; intro v5 w5 hown5 hg5 hn5; have HB5 := Lib.hid (HBA.out.grown hg5 (by simp; omega) (fun k hk => by have := (own0.lt k hk).1; omega)); have hs5 : w3.heap.size ≤ w5.heap.size := (by have := hg5.size; simp at this; omega); have hv5 : v5 ≠ .slice none 0 0 := (fun e => by have := (hn5.1 e).1; simp at this); have hown5' : w5.ownsRow w3.heap.size 3 1 v5 q (ixV (l.take q)) := (by simpa using hown5); have HV5 := Lib.hid hv5; clear hown5 hg5 hn5 own0 hv5))
                | (at_builtin; refine wpList_append_own _ rfl _ _ 32 rfl w3.heap.size 3 i0 (.int .i64 0) 1 8 Try.underlying32 hi0 hz0 hz1 hz2 rfl (by decide) v5 q (ixV (l.take q)) rfl (hown5'.alloc _) ⟨w5.heap.size, 0, none⟩ 1 1 [.int .i64 x] rfl rfl (World.news_of_block (cs := #[.int .i64 x]) (t := 3) (fr := (0, 0)) (heap_alloc_new w5 _)) (by simp [Value.oneCell']) (by unfold maxLen; omega) (by omega) (by simp; omega) ?_; intro v6 w6 hown6 hg6 hn6; have HB6 := Lib.hid ((HB5.out.alloc HB5.out.size (.cells #[.int .i64 x] 3)).grown hg6 (by simp; omega) (fun k hk => by have := (hown5'.lt k hk).1; omega)); have hs6 : w5.heap.size ≤ w6.heap.size := (by have := hg6.size; simp at this; omega); have HV6 := Lib.hid (show v6 ≠ .slice none 0 0 from fun e => by have := (hn6.1 e).2; omega); clear hg6 hn6 hown5')
                | (at_builtin; (refine wpList_append_own _ rfl _ _ 32 rfl w3.heap.size 3 i0 (.int .i64 0) 1 8 Try.underlying32 hi0 hz0 hz1 hz2 rfl (by decide) v6 (q + 1) (ixV (l.take q) ++ [.int .i64 x]) rfl hown6 ⟨bl, o, none⟩ (l.length - q) (cl - q) [] rfl (by simp; omega) (fun j u hu => by simp at hu) (fun u hu => by simp at hu) (by unfold maxLen; omega) (by omega) (by omega) ?_; intro v7 w7 hown7 hg7 hn7)))
              have HB7 := Lib.hid (HB3.out.trans ((HB6.out.grown hg7 (by omega) (fun k hk => (hown6.lt k hk).1)).mono (by omega)))
              have hv7 : v7 ≠ .slice none 0 0 := fun e => HV6.out (hn7.1 e).1
              have HL7 := Lib.hid (show Lists w.heap.size w7 v7 (rkL g.n (g.len 0) g.flat (x + 1)) from by
                have e1 : ixV (l.take q ++ i :: l.drop q) = ixV (l.take q) ++ [.int .i64 x] ++ ixV (l.drop q) := by rw [HDR.out]; simp [ixV, HEX.out]
                have e2 : (l.take q ++ i :: l.drop q).length = q + 1 + (l.length - q) := by simp; omega
                rw [HL.out, HI.out]
                unfold Lists
                rw [e1, e2, HDR.out]
                exact ownsRow_base hown7 (by have := HB3.out.size; omega))
              have HV7 := Lib.hid hv7
              clear hown7 hg7 hn7 hown6 hv7
              go_wp2
              go_roundw
              case rel => exact ⟨x + 1, v7, by have := EN.out; omega, by go_num, rfl, HV7.out, HL7.out, HB7.out⟩
              case measure => have := EN.out; simp [intOf]; omega
        · have hs' : pkQ g.n (g.len 0) g.flat i = false := by simpa using hs
          have HL := Lib.hid (rkL_no i hs')
          rw [hs', ex] at HN
          rw [ex] at hln HLI hcl1 ⊢
          clear eN ex hlt hs hs'
          go_wp2_with fail
          refine (HCE.out _ HVR.out).mono ?_
          rintro e w2 ⟨rfl, rfl⟩
          go_wp2_with fail
          refine HN.out.mono ?_
          rintro e w3 ⟨rfl, hb3⟩
          have HB3 := Lib.hid (HB1.out.trans (hb3.mono hsz))
          have HL3 := Lib.hid (HLI.out.below hb3 (Nat.le_refl _))
          clear hb3
          go_wp2
          go_roundw
          case rel => exact ⟨x + 1, _, by have := EN.out; omega, by go_num, rfl, by simp, by rw [← HEX.out, HL.out, HEX.out]; exact HL3.out, HB3.out⟩
          case measure => have := EN.out; simp [intOf]; omega
      · have ek : kk = g.n * g.len 0 := by omega
        have HA2 := Lib.hid (show g.rkV = rkL g.n (g.len 0) g.flat kk by rw [HA.out, ek])
        have HCE := Lib.hid (fun (W : World) (hW : RdM lo hi W (.slice (some ⟨b0, off0, none⟩) g.n cap0) g) => l2Cells_any _ lo hi g W hW HH.out)
        obtain ⟨N, eN⟩ : ∃ N, g.n * g.len 0 = N := ⟨_, rfl⟩
        rw [eN] at HCE
        have EN := Lib.hid eN
        have hge : N ≤ kk := by omega
        have hge' : ¬ (kk : Int) < N := by omega
        clear ek eN hlt
        go_wp2_with fail
        refine (HCE.out _ HVR.out).mono ?_
        rintro e w2 ⟨rfl, rfl⟩
        go_wp2
        go_ret
        exact LvPost.mk' HA2.out HLI.out HB1.out
  · have HB := Lib.hid (G.vB_no h)
    have HA := Lib.hid (G.rkV_no h)
    clear hv h hb0
    go_enter Try.func22, Try.ntmps22
    go_wp2_with fail
    refine HC.out.mono ?_
    rintro e w1 ⟨rfl, n1, rfl⟩
    rw [HB.out]
    go_wp2
    go_ret
    exact LvPost.mk' HA.out (HL0.out.below (below_drewN (Below.refl _ _) _) (Nat.le_refl _)) (below_drewN HB0.out _)

end Go.Proofs.Ytepnhamkadkipaa
