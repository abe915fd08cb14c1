/- The most prominent peaks in the program. -/
import Derived.Test.YtcfeckpbjdipeaaKeZ
namespace Go.Proofs.Ytcfeckpbjdipeaa
open Go.RowKit
set_option linter.unusedVariables false

theorem G.msV_no {g : G} (h : ¬ g.Valid) (least : Int) : g.msV least = [] := by unfold G.msV; rw [G.rkV_no h]; rfl

set_option maxHeartbeats 4000000 in
set_option maxRecDepth 100000 in
theorem implPeakMost_any (v : Value) (lo hi : Nat) (g : G) (least : Int) (w : World) (hv : RdM lo hi w v g) (hh : hi ≤ w.heap.size) :
    Calls Try.prog 34 #[v, .int .i64 least] w (LvPost (g.msV least) w) := by
  by_cases h : g.Valid
  case neg =>
    have HC := Lib.hid (reliefOf_no v lo hi g w hv hh h)
    have HA := Lib.hid (G.msV_no h least)
    clear hv h
    go_enter Try.func34, Try.ntmps34
    go_wp2_with fail
    refine HC.out.mono ?_
    rintro e w1 ⟨rfl, hb1⟩
    have HB1 := Lib.hid (hb1.alloc hb1.size (.cells #[.int .i64 0, .int .i64 0, .slice none 0 0] 50))
    clear hb1
    go_wp2
    go_ret
    exact LvPost.mk' HA.out (lists_nil _ _) HB1.out
  case pos =>
    have HC := Lib.hid (reliefOf_yes v lo hi g w hv hh h)
    have HA := Lib.hid (show g.msV least = g.mstL least (g.rkV.take g.rkV.length) by rw [List.take_length]; rfl)
    have hn7 := h.1.2
    have hl7 := h.2.1.2
    have hlen := g.rkV_len
    have HPK := Lib.hid (fun (gg cap cnt : Nat) (W : World) (hr : Rv W g.n (g.len 0) cnt gg cap g.flat) => show Calls Try.prog 60 #[.agg #[.int .i64 g.n, .int .i64 (g.len 0), .slice (some ⟨gg, 0, none⟩) cnt cap]] W (LvPost g.rkV W) by
      rw [G.rkV_yes h]; exact peaks_any g.n (g.len 0) gg cap cnt hn7 hl7 g.flat W hr)
    have HPR := Lib.hid (fun (i : Ix (g.n * g.len 0)) (hi : i ∈ g.rkV) (gg cap cnt : Nat) (W : World) (hr : Rv W g.n (g.len 0) cnt gg cap g.flat) => show Calls Try.prog 70 #[.agg #[.int .i64 g.n, .int .i64 (g.len 0), .slice (some ⟨gg, 0, none⟩) cnt cap], .int .i64 i.1] W (IntPost (g.prV (i.1 : Int)) W) by
      rw [prV_mem h hi]; exact prominence_any g.n (g.len 0) gg cap cnt hn7 hl7 g.flat (fun a ha => flat_okW h ha) i W hr)
    obtain ⟨l, el⟩ : ∃ l, g.rkV = l := ⟨_, rfl⟩
    rw [el] at HA hlen HPK HPR
    clear hv h el
    obtain ⟨i0, hi0, hz0, hz1, hz2⟩ := info_parts Try.infoI
    go_enter Try.func34, Try.ntmps34
    go_wp2_with fail
    refine HC.out.mono ?_
    intro e w1 hq
    obtain ⟨n, gg, cap, rfl, hrv, hb1⟩ := hq.rv
    have hb2 := (Below.refl w1.heap.size w1).alloc (Nat.le_refl _) (.cells #[.int .i64 g.n, .int .i64 (g.len 0), .slice (some ⟨gg, 0, none⟩) n cap] 50)
    have HB1 := Lib.hid (hb1.alloc hb1.size (.cells #[.int .i64 g.n, .int .i64 (g.len 0), .slice (some ⟨gg, 0, none⟩) n cap] 50))
    have HRV := Lib.hid (hrv.keep hb2 (Nat.le_refl _))
    have HBX := Lib.hid (heap_alloc_new w1 (.cells #[.int .i64 g.n, .int .i64 (g.len 0), .slice (some ⟨gg, 0, none⟩) n cap] 50))
    have hsz1 : (w1.alloc (.cells #[.int .i64 g.n, .int .i64 (g.len 0), .slice (some ⟨gg, 0, none⟩) n cap] 50)).heap.size = w1.heap.size + 1 := by simp
    have hgl := hrv.lt
    have hwl := hb1.size
    obtain ⟨d0, d1, d2, _, _, _⟩ := cells3 HBX.out
    clear hq hrv hb1 hb2
    go_wp2_with fail
    refine (HPK.out gg cap n _ HRV.out).mono ?_
    rintro e w3 ⟨v3, rfl, hl3, hb3⟩
    have HB3 := Lib.hid (HB1.out.trans (hb3.mono HB1.out.size))
    have HX3 := Lib.hid ((hb3.block _ (by omega)).trans HBX.out)
    have HR3 := Lib.hid (HRV.out.keep hb3 (Nat.le_refl _))
    have hs3 := hb3.size
    obtain ⟨a3, c3, rfl⟩ := Lists.shape hl3
    have HMS := Lib.hid (show MsI w.heap.size w3.heap.size w3.heap.size w (.slice a3 l.length c3) l w3 (.slice none 0 0) (g.mstL least (l.take 0)) from
      ⟨lists_nil _ _, fun k hk => by simp [Value.ownBlock] at hk, World.ownsRow.mono hl3 (by omega), fun k hk => by have := World.ownsRow.lt hl3 k hk; omega, HB3.out, Nat.le_refl _, HB3.out.size⟩)
    clear hb3 hl3 d0 d1 d2
    go_wp2
    go_loopw [7, 20] (fun s k wr => ∃ (kk : Nat) (v' : Value), kk ≤ l.length ∧ k = .int .i64 kk ∧ v' = s ∧ MsI w.heap.size w3.heap.size w3.heap.size w (.slice a3 l.length c3) l wr v' (g.mstL least (l.take kk)) ∧ Below w3.heap.size w3 wr) (fun _ k _ => l.length - (intOf k).toNat)
    case atStart => exact ⟨0, _, Nat.zero_le _, rfl, rfl, HMS.out, Below.refl _ _⟩
    case round =>
      obtain ⟨kk, v', hk, rfl, rfl, hms, hbr⟩ := hrel
      have MS := Lib.hid hms
      have HBR := Lib.hid hbr
      have HRR := Lib.hid (HR3.out.keep hbr (Nat.le_refl _))
      obtain ⟨d0, d1, d2, _, _, _⟩ := cells3 ((hbr.block _ (by omega)).trans HX3.out)
      clear hbr
      have HLN := Lib.hid (g.mstL_len least l kk)
      obtain ⟨a', c', rfl⟩ := Lists.shape hms.li
      by_cases hlt : kk < l.length
      · have hlt' : (kk : Int) < l.length := by omega
        obtain ⟨b3, rfl, c1, hc1, hc2⟩ := hms.l3.atCell hlt
        have hc2' : c3 ≤ 9223372036854775807 := by unfold maxLen at hc2; omega
        have HYES := Lib.hid (g.mstL_yes least l hlt)
        have HNO := Lib.hid (g.mstL_no least l hlt)
        have HPP := Lib.hid (HPR.out (l[kk]) (List.getElem_mem hlt) gg cap n wr HRR.out)
        have HAP := Lib.hid (fun (w4 : World) (h4 : MsI w.heap.size w3.heap.size w3.heap.size w (.slice (some ⟨b3, 0, none⟩) l.length c3) l w4 (.slice a' (g.mstL least (l.take kk)).length c') (g.mstL least (l.take kk))) => show w4.cell? ⟨b3, kk, none⟩ = some (.int .i64 (l[kk]).1) from by
          obtain ⟨b9, e9, c9, _, _⟩ := h4.l3.atCell hlt
          cases e9; exact c9)
        obtain ⟨i, ei⟩ : ∃ i, l[kk] = i := ⟨_, rfl⟩
        rw [ei] at c1 HYES HNO HPP HAP
        obtain ⟨x, ex⟩ : ∃ x, i.1 = x := ⟨_, rfl⟩
        have EX := Lib.hid ex
        rw [ex] at c1 HYES HNO HPP HAP
        obtain ⟨p, ep⟩ : ∃ p, g.prV (x : Int) = p := ⟨_, rfl⟩
        rw [ep] at HYES HNO HPP
        obtain ⟨L, eL⟩ : ∃ L, g.mstL least (l.take kk) = L := ⟨_, rfl⟩
        rw [eL] at HYES HNO HAP MS HLN
        rw [eL]
        have hln := HLN.out
        clear ex ep eL ei hms hc2 hlt
        by_cases hs : least ≤ p
        · have HS := Lib.hid (HYES.out hs)
          go_wp2_with fail
          refine HPP.out.mono ?_
          rintro e w4 ⟨rfl, hb4⟩
          have M4 := Lib.hid (MS.out.below hb4)
          have HB4 := Lib.hid (HBR.out.trans (hb4.mono HBR.out.size))
          clear d0 d1 d2
          have hs4 := M4.out.bsz
          have c4 := HAP.out w4 M4.out
          have hli := M4.out.li
          unfold Lists at hli
          clear hb4 c1
          go_wp2_with (first | (at_builtin; refine wpList_append_own_at _ rfl _ _ 27 rfl w.heap.size 3 i0 (.int .i64 0) 1 8 Try.underlying27 hi0 hz0 hz1 hz2 rfl (by decide) _ L.length (ixV L) rfl (hli.alloc _) ⟨w4.heap.size, 0, none⟩ 1 1 [.int .i64 x] rfl rfl (World.news_of_block (cs := #[.int .i64 x]) (t := 3) (fr := (0, 0)) (heap_alloc_new w4 _)) (by simp [Value.oneCell']) (by unfold maxLen; omega) (by omega) (by simp; omega) ?_; intro v5 w5 hown5 hg5 _ hat5))
          have HB5 := Lib.hid ((HB4.out.alloc HB4.out.size _).grown hg5 (by rw [World.size_alloc]; have := HB4.out.size; omega) (fun k hk => by have := M4.out.far k hk; omega))
          have M5 := Lib.hid (M4.out.app i (by rw [EX.out]; exact hown5) hg5 hat5)
          clear hown5 hg5 hat5 hli c4
          go_wp2
          go_roundw
          case rel => exact ⟨kk + 1, v5, by omega, by go_num, rfl, by rw [HS.out]; exact M5.out, HB5.out⟩
          case measure => simp [intOf]; omega
        · have HS := Lib.hid (HNO.out hs)
          go_wp2_with fail
          refine HPP.out.mono ?_
          rintro e w4 ⟨rfl, hb4⟩
          have M4 := Lib.hid (MS.out.below hb4)
          have HB4 := Lib.hid (HBR.out.trans (hb4.mono HBR.out.size))
          clear d0 d1 d2
          clear hb4 c1
          go_wp2
          go_roundw
          case rel => exact ⟨kk + 1, _, by omega, by go_num, rfl, by rw [HS.out]; exact M4.out, HB4.out⟩
          case measure => simp [intOf]; omega
      · have hge : ¬ (kk : Int) < l.length := by omega
        have hkk : kk = l.length := by omega
        have HE := Lib.hid (show g.msV least = g.mstL least (l.take kk) by rw [hkk]; exact HA.out)
        obtain ⟨L, eL⟩ : ∃ L, g.mstL least (l.take kk) = L := ⟨_, rfl⟩
        rw [eL] at HE MS
        rw [eL]
        clear eL hms hkk
        go_wp2
        go_ret
        exact LvPost.mk' HE.out MS.out.li MS.out.bel

end Go.Proofs.Ytcfeckpbjdipeaa
