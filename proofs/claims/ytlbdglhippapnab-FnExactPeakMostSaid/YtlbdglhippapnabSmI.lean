/- The sum of the prominences, and the most prominent peaks: what is reckoned, and the model. -/
import Derived.Test.YtlbdglhippapnabKeyS
import Derived.Test.YtlbdglhippapnabPkLS
import Derived.Test.YtlbdglhippapnabNumS
import Derived.Test.YtlbdglhippapnabKeyI
namespace Go.Proofs.Ytlbdglhippapnab
open Go.RowKit
set_option linter.unusedVariables false

noncomputable def G.smL (g : G) {M : Nat} (l : List (Ix M)) : Int := l.foldl (fun s i => s + g.prV (i.1 : Int)) 0
theorem G.smL_step (g : G) {M : Nat} (l : List (Ix M)) {k : Nat} (h : k < l.length) : g.smL (l.take (k + 1)) = g.smL (l.take k) + g.prV ((l[k]).1 : Int) := by
  unfold G.smL
  rw [List.take_succ_eq_append_getElem h, List.foldl_append]
  rfl
theorem G.prV_range {g : G} (h : g.Valid) (i : Ix (g.n * g.len 0)) : -1 ≤ g.prV (i.1 : Int) ∧ g.prV (i.1 : Int) ≤ 99 := by
  unfold G.prV
  by_cases hp : g.pkB (i.1 : Int) = true
  · rw [if_pos hp, G.kyV_yes h hp]
    have h1 := keyV_range (Z := g.flat) (fun a ha => flat_okW h ha) i
    have h2 := flat_okW h i.2
    have h3 : keyV g.n (g.len 0) g.flat i ≤ g.flat i.1 := by
      have := keyV_is (Z := g.flat) (fun a ha => flat_okW h ha) i
      rcases this with ⟨x, _, hx, _⟩ | ⟨_, hx, _⟩
      · exact hx.1.fst
      · exact hx i
    show -1 ≤ g.flat i.1 - _ ∧ g.flat i.1 - _ ≤ 99
    omega
  · rw [if_neg hp]; omega
theorem G.smL_range {g : G} (h : g.Valid) (l : List (Ix (g.n * g.len 0))) : ∀ k, k ≤ l.length → -(k : Int) ≤ g.smL (l.take k) ∧ g.smL (l.take k) ≤ 99 * k
  | 0, _ => by simp [G.smL]
  | k + 1, hk => by
    have h1 := G.smL_range h l k (by omega)
    have h2 := G.prV_range h (l[k]'(by omega))
    rw [g.smL_step l (by omega)]
    omega
open Classical in
noncomputable def G.smV (g : G) : Int := if g.Valid then g.smL g.rkV else -1
theorem G.smV_yes {g : G} (h : g.Valid) : g.smV = g.smL (g.rkV.take g.rkV.length) := by unfold G.smV; rw [if_pos h, List.take_length]
theorem G.smV_no {g : G} (h : ¬ g.Valid) : g.smV = -1 := by unfold G.smV; rw [if_neg h]

set_option maxHeartbeats 2000000 in
set_option maxRecDepth 100000 in
theorem specPeakSum_any (v : Value) (lo hi : Nat) (g : G) (w : World) (hv : RdM lo hi w v g) (hh : hi ≤ w.heap.size) :
    Calls Try.prog 32 #[v] w (IntPost g.smV w) := by
  have HC := Lib.hid (specValid_any v lo hi g w hv)
  by_cases h : g.Valid
  case neg =>
    have HB := Lib.hid (G.vB_no h)
    have HA := Lib.hid (G.smV_no h)
    clear hv h
    go_enter Try.func32, Try.ntmps32
    go_wp2_with fail
    refine HC.out.mono ?_
    rintro e w1 ⟨rfl, m, rfl⟩
    rw [HB.out]
    go_wp2
    go_ret
    exact ⟨ret_int HA.out.symm, below_drewN (Below.refl _ _) m⟩
  case pos =>
    have HB := Lib.hid (G.vB_yes h)
    have HA := Lib.hid (G.smV_yes h)
    have h49 := mul_le_49 h.1.2 h.2.1.2
    have hlen : g.rkV.length ≤ 49 := by rw [G.rkV_yes h]; have := rkL_len (R := g.n) (C := g.len 0) (Z := g.flat) (k := g.n * g.len 0); omega
    have HPL := Lib.hid (fun (W : World) (hb : Below w.heap.size w W) => specPeakList_any v lo hi g W (hv.same (SameIn.below hb hh)) (Nat.le_trans hh hb.size))
    have HPR := Lib.hid (fun (W : World) (hb : Below w.heap.size w W) (i : Int) => specPeakProminence_any v lo hi g i W (hv.same (SameIn.below hb hh)) (Nat.le_trans hh hb.size))
    have HRG := Lib.hid (fun (k : Nat) (hk : k ≤ g.rkV.length) => G.smL_range h g.rkV k hk)
    have HRP := Lib.hid (G.prV_range h)
    obtain ⟨l, el⟩ : ∃ l, g.rkV = l := ⟨_, rfl⟩
    rw [el] at HA hlen HPL HRG
    clear hv h el
    go_enter Try.func32, Try.ntmps32
    go_wp2_with fail
    refine HC.out.mono ?_
    rintro e w1 ⟨rfl, m, rfl⟩
    rw [HB.out]
    have HB1 := Lib.hid (show Below w.heap.size w (w.drewN m) from below_drewN (Below.refl _ _) m)
    go_wp2_with fail
    refine (HPL.out _ HB1.out).mono ?_
    rintro e w3 ⟨v3, rfl, hl3, hb3⟩
    have HB3 := Lib.hid (HB1.out.trans (hb3.mono HB1.out.size))
    have hl3' := World.ownsRow.mono hl3 HB1.out.size
    obtain ⟨a3, c3, rfl⟩ := Lists.shape hl3
    have HL3 := Lib.hid (show Lists w.heap.size w3 (.slice a3 l.length c3) l from hl3')
    clear hb3 hl3 hl3'
    go_wp2
    go_loopw [3, 5] (fun s k wr => ∃ kk : Nat, kk ≤ l.length ∧ k = .int .i64 kk ∧ s = .int .i64 (g.smL (l.take kk)) ∧ Below w3.heap.size w3 wr) (fun _ k _ => l.length - (intOf k).toNat)
    case atStart => exact ⟨0, Nat.zero_le _, rfl, rfl, Below.refl _ _⟩
    case round =>
      obtain ⟨kk, hk, rfl, rfl, hb⟩ := hrel
      have HBR := Lib.hid hb
      have HB4 := Lib.hid (HB3.out.trans (hb.mono HB3.out.size))
      have hlr := HL3.out.below hb (Nat.le_refl _)
      clear hb
      by_cases hlt : kk < l.length
      · have hlt' : (kk : Int) < l.length := by omega
        obtain ⟨b3, rfl, c1, hc1, hc2⟩ := hlr.atCell hlt
        have hc2' : c3 ≤ 9223372036854775807 := by unfold maxLen at hc2; omega
        have HST := Lib.hid (g.smL_step l hlt)
        obtain ⟨hr1, hr2⟩ := HRG.out (kk + 1) (by omega)
        rw [HST.out] at hr1 hr2
        have hww : IntKind.i64.wrap (g.smL (l.take kk) + g.prV ((l[kk]).1 : Int)) = g.smL (l.take kk) + g.prV ((l[kk]).1 : Int) := IntWalk.i64_in _ (by omega)
        have HPP := Lib.hid (HPR.out wr HB4.out ((l[kk]).1 : Int))
        obtain ⟨x, ex⟩ : ∃ x, (l[kk]).1 = x := ⟨_, rfl⟩
        rw [ex] at c1 HST hww HPP
        obtain ⟨p, ep⟩ : ∃ p, g.prV (x : Int) = p := ⟨_, rfl⟩
        rw [ep] at HST hww HPP
        obtain ⟨s0, es⟩ : ∃ p, g.smL (l.take kk) = p := ⟨_, rfl⟩
        rw [es] at HST hww ⊢
        clear ex ep es hlt hlr hc2 hr1 hr2
        go_wp2_with fail
        refine HPP.out.mono ?_
        rintro e w5 ⟨rfl, hb5⟩
        have HB5 := Lib.hid (HBR.out.trans (hb5.mono HBR.out.size))
        clear hb5 c1
        go_wp2
        go_roundw
        case rel => exact ⟨kk + 1, by omega, by go_num, by rw [HST.out], HB5.out⟩
        case measure => simp [intOf]; omega
      · have hge : ¬ (kk : Int) < l.length := by omega
        have hkk : kk = l.length := by omega
        have HE := Lib.hid (show g.smV = g.smL (l.take kk) by rw [hkk]; exact HA.out)
        obtain ⟨s0, es⟩ : ∃ p, g.smL (l.take kk) = p := ⟨_, rfl⟩
        rw [es] at HE ⊢
        clear es hlr hkk
        go_wp2
        go_ret
        exact ⟨ret_int HE.out.symm, HB4.out⟩

end Go.Proofs.Ytlbdglhippapnab

/- The sum of the prominences in the program. -/
namespace Go.Proofs.Ytlbdglhippapnab
open Go.RowKit
set_option linter.unusedVariables false

theorem prV_mem {g : G} (h : g.Valid) {i : Ix (g.n * g.len 0)} (hi : i ∈ g.rkV) : g.prV (i.1 : Int) = g.flat i.1 - keyV g.n (g.len 0) g.flat i := by
  rw [G.rkV_yes h] at hi
  have hp : g.pkB (i.1 : Int) = true := by rw [G.pkB_yes h]; exact ((rkL_mem (Nat.le_refl _) _).1 hi).2
  unfold G.prV
  rw [if_pos hp, G.kyV_yes h hp]
  rfl

set_option maxHeartbeats 2000000 in
set_option maxRecDepth 100000 in
theorem implPeakSum_any (v : Value) (lo hi : Nat) (g : G) (w : World) (hv : RdM lo hi w v g) (hh : hi ≤ w.heap.size) :
    Calls Try.prog 33 #[v] w (IntPost g.smV w) := by
  by_cases h : g.Valid
  case neg =>
    have HC := Lib.hid (reliefOf_no v lo hi g w hv hh h)
    have HA := Lib.hid (G.smV_no h)
    clear hv h
    go_enter Try.func33, Try.ntmps33
    go_wp2_with fail
    refine HC.out.mono ?_
    rintro e w1 ⟨rfl, hb1⟩
    have HB1 := Lib.hid (hb1.alloc hb1.size (.cells #[.int .i64 0, .int .i64 0, .slice none 0 0] 38))
    clear hb1
    go_wp2
    go_ret
    exact ⟨ret_int HA.out.symm, HB1.out⟩
  case pos =>
    have HC := Lib.hid (reliefOf_yes v lo hi g w hv hh h)
    have HA := Lib.hid (G.smV_yes h)
    have hn7 := h.1.2
    have hl7 := h.2.1.2
    have h49 := mul_le_49 h.1.2 h.2.1.2
    have hlen : g.rkV.length ≤ 49 := by rw [G.rkV_yes h]; have := rkL_len (R := g.n) (C := g.len 0) (Z := g.flat) (k := g.n * g.len 0); omega
    have HRG := Lib.hid (fun (k : Nat) (hk : k ≤ g.rkV.length) => G.smL_range h g.rkV k hk)
    have HPK := Lib.hid (fun (gg cap cnt : Nat) (W : World) (hr : Rv W g.n (g.len 0) cnt gg cap g.flat) => show Calls Try.prog 41 #[.agg #[.int .i64 g.n, .int .i64 (g.len 0), .slice (some ⟨gg, 0, none⟩) cnt cap]] W (LvPost g.rkV W) by
      rw [G.rkV_yes h]; exact peaks_any g.n (g.len 0) gg cap cnt hn7 hl7 g.flat W hr)
    have HPR := Lib.hid (fun (i : Ix (g.n * g.len 0)) (hi : i ∈ g.rkV) (gg cap cnt : Nat) (W : World) (hr : Rv W g.n (g.len 0) cnt gg cap g.flat) => show Calls Try.prog 53 #[.agg #[.int .i64 g.n, .int .i64 (g.len 0), .slice (some ⟨gg, 0, none⟩) cnt cap], .int .i64 i.1] W (IntPost (g.prV (i.1 : Int)) W) by
      rw [prV_mem h hi]; exact prominence_any g.n (g.len 0) gg cap cnt hn7 hl7 g.flat (fun a ha => flat_okW h ha) i W hr)
    obtain ⟨l, el⟩ : ∃ l, g.rkV = l := ⟨_, rfl⟩
    rw [el] at HA hlen HRG HPK HPR
    clear hv h el
    go_enter Try.func33, Try.ntmps33
    go_wp2_with fail
    refine HC.out.mono ?_
    intro e w1 hq
    obtain ⟨n, gg, cap, rfl, hrv, hb1⟩ := hq.rv
    have hb2 := (Below.refl w1.heap.size w1).alloc (Nat.le_refl _) (.cells #[.int .i64 g.n, .int .i64 (g.len 0), .slice (some ⟨gg, 0, none⟩) n cap] 38)
    have HB1 := Lib.hid (hb1.alloc hb1.size (.cells #[.int .i64 g.n, .int .i64 (g.len 0), .slice (some ⟨gg, 0, none⟩) n cap] 38))
    have HRV := Lib.hid (hrv.keep hb2 (Nat.le_refl _))
    have HBX := Lib.hid (heap_alloc_new w1 (.cells #[.int .i64 g.n, .int .i64 (g.len 0), .slice (some ⟨gg, 0, none⟩) n cap] 38))
    have hsz1 : (w1.alloc (.cells #[.int .i64 g.n, .int .i64 (g.len 0), .slice (some ⟨gg, 0, none⟩) n cap] 38)).heap.size = w1.heap.size + 1 := by simp
    have hgl := hrv.lt
    obtain ⟨d0, d1, d2, _, _, _⟩ := cells3 HBX.out
    clear hq hrv hb1 hb2
    go_wp2_with fail
    refine (HPK.out gg cap n _ HRV.out).mono ?_
    rintro e w3 ⟨v3, rfl, hl3, hb3⟩
    have HB3 := Lib.hid (HB1.out.trans (hb3.mono HB1.out.size))
    have HX3 := Lib.hid ((hb3.block _ (by omega)).trans HBX.out)
    have HR3 := Lib.hid (HRV.out.keep hb3 (Nat.le_refl _))
    have hs3 := hb3.size
    obtain ⟨a3, c3, rfl⟩ := Lists.shape hl3
    have HL3 := Lib.hid hl3
    clear hb3 hl3 d0 d1 d2
    go_wp2
    go_loopw [5, 18] (fun s k wr => ∃ kk : Nat, kk ≤ l.length ∧ k = .int .i64 kk ∧ s = .int .i64 (g.smL (l.take kk)) ∧ Below w3.heap.size w3 wr) (fun _ k _ => l.length - (intOf k).toNat)
    case atStart => exact ⟨0, Nat.zero_le _, rfl, rfl, Below.refl _ _⟩
    case round =>
      obtain ⟨kk, hk, rfl, rfl, hb⟩ := hrel
      have HBR := Lib.hid hb
      have HB4 := Lib.hid (HB3.out.trans (hb.mono HB3.out.size))
      have hlr := HL3.out.below hb (Nat.le_refl _)
      have HRR := Lib.hid (HR3.out.keep hb (Nat.le_refl _))
      obtain ⟨d0, d1, d2, _, _, _⟩ := cells3 ((hb.block _ (by omega)).trans HX3.out)
      clear hb
      by_cases hlt : kk < l.length
      · have hlt' : (kk : Int) < l.length := by omega
        obtain ⟨b3, rfl, c1, hc1, hc2⟩ := hlr.atCell hlt
        have hc2' : c3 ≤ 9223372036854775807 := by unfold maxLen at hc2; omega
        have HST := Lib.hid (g.smL_step l hlt)
        obtain ⟨hr1, hr2⟩ := HRG.out (kk + 1) (by omega)
        rw [HST.out] at hr1 hr2
        have hww : IntKind.i64.wrap (g.smL (l.take kk) + g.prV ((l[kk]).1 : Int)) = g.smL (l.take kk) + g.prV ((l[kk]).1 : Int) := IntWalk.i64_in _ (by omega)
        have HPP := Lib.hid (HPR.out (l[kk]) (List.getElem_mem hlt) gg cap n wr HRR.out)
        obtain ⟨x, ex⟩ : ∃ x, (l[kk]).1 = x := ⟨_, rfl⟩
        rw [ex] at c1 HST hww HPP
        obtain ⟨p, ep⟩ : ∃ p, g.prV (x : Int) = p := ⟨_, rfl⟩
        rw [ep] at HST hww HPP
        obtain ⟨s0, es⟩ : ∃ p, g.smL (l.take kk) = p := ⟨_, rfl⟩
        rw [es] at HST hww ⊢
        clear ex ep es hlt hlr hc2 hr1 hr2
        go_wp2_with fail
        refine HPP.out.mono ?_
        rintro e w5 ⟨rfl, hb5⟩
        have HB5 := Lib.hid (HBR.out.trans (hb5.mono HBR.out.size))
        clear hb5 c1 d0 d1 d2
        go_wp2
        go_roundw
        case rel => exact ⟨kk + 1, by omega, by go_num, by rw [HST.out], HB5.out⟩
        case measure => simp [intOf]; omega
      · have hge : ¬ (kk : Int) < l.length := by omega
        have hkk : kk = l.length := by omega
        have HE := Lib.hid (show g.smV = g.smL (l.take kk) by rw [hkk]; exact HA.out)
        obtain ⟨s0, es⟩ : ∃ p, g.smL (l.take kk) = p := ⟨_, rfl⟩
        rw [es] at HE ⊢
        clear es hlr hkk
        go_wp2
        go_ret
        exact ⟨ret_int HE.out.symm, HB4.out⟩

end Go.Proofs.Ytlbdglhippapnab
