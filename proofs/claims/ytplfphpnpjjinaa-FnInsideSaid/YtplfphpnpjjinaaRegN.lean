/- LevelInside, in the model and in the program. -/
import Derived.Test.YtplfphpnpjjinaaRegI
namespace Go.Proofs.Ytplfphpnpjjinaa
open Go.RowKit
set_option linter.unusedVariables false

/-- a list of the call's own, while another block of memory is kept -/
structure AQ (w w2 wr : World) (B1 : Nat) (xs : List Value) (v : Value) : Prop where
  own : wr.ownsRow w.heap.size 3 1 v xs.length xs
  far : ∀ kk, v.ownBlock = some kk → kk < B1 ∨ w2.heap.size ≤ kk
  same : SameIn B1 w2.heap.size w2 wr
  sz : w2.heap.size ≤ wr.heap.size
  bel : Below w.heap.size w wr
theorem AQ.push {w w2 wr w5 : World} {B1 : Nat} {xs : List Value} {v v' : Value} (h : AQ w w2 wr B1 xs v) {o : Obj} {x : Value} (hown : w5.ownsRow w.heap.size 3 1 v' (xs.length + 1) (xs ++ [x])) (hg : (wr.alloc o).grownBy w5 v.ownBlock) (hat : v'.ownBlock = v.ownBlock ∨ v'.ownBlock = some (wr.alloc o).heap.size) : AQ w w2 w5 B1 (xs ++ [x]) v' := by
  obtain ⟨h1, h2, h3, h4, h5⟩ := h
  have hs : (wr.alloc o).heap.size = wr.heap.size + 1 := by simp
  refine ⟨by simpa using hown, fun kk hk => ?_, fun kk hk1 hk2 => ?_, by have := hg.size; omega, ?_⟩
  · rcases hat with e | e
    · exact h2 kk (e ▸ hk)
    · rw [hk] at e
      simp only [Option.some.injEq] at e
      omega
  · rw [hg.block kk (by omega) (fun e => by rcases h2 kk e.symm with h | h <;> omega), Below.heap_alloc _ o kk (by omega)]
    exact h3 kk hk1 hk2
  · exact (h5.alloc (by have := h5.size; omega) o).grown hg (by have := h5.size; omega) (fun kk hk => (h1.lt kk hk).1)
theorem AQ.drewN {w w2 wr : World} {B1 : Nat} {xs : List Value} {v : Value} (h : AQ w w2 wr B1 xs v) (n : Nat) : AQ w w2 (wr.drewN n) B1 xs v :=
  ⟨ownsRow_below h.own (below_drewN (Below.refl wr.heap.size _) _) (fun k hk => (h.own.lt k hk).2), h.far, fun k h1 h2 => h.same k h1 h2, h.sz, below_drewN h.bel n⟩

/-- when the regions of a level lie in those of a lower one -/
def G.InOk (g : G) (hv lv : Int) : Prop := g.LvOk hv ∧ g.LvOk lv ∧ lv < hv
noncomputable def G.inB (g : G) (hv lv : Int) : Bool := @decide (g.InOk hv lv) (Classical.propDecidable _)
theorem G.inB_yes {g : G} {hv lv : Int} (h : g.InOk hv lv) : g.inB hv lv = true := by simp [G.inB, h]
theorem G.inB_no {g : G} {hv lv : Int} (h : ¬ g.InOk hv lv) : g.inB hv lv = false := by simp [G.inB, h]
noncomputable def G.inN (g : G) (hv lv : Int) : Nat := open Classical in if g.InOk hv lv then rgN g.n (g.len 0) g.flat hv (g.n * g.len 0) else 0
theorem G.inN_yes {g : G} {hv lv : Int} (h : g.InOk hv lv) : g.inN hv lv = rgN g.n (g.len 0) g.flat hv (g.n * g.len 0) := by unfold G.inN; rw [if_pos h]
theorem G.inN_no {g : G} {hv lv : Int} (h : ¬ g.InOk hv lv) : g.inN hv lv = 0 := by unfold G.inN; rw [if_neg h]
theorem G.inN_le {g : G} {hv lv : Int} : g.inN hv lv ≤ 49 := by
  by_cases h : g.InOk hv lv
  · rw [G.inN_yes h]
    have h1 := mul_le_49 h.1.1.1.2 h.1.1.2.1.2
    have h2 := rgN_le g.n (g.len 0) g.flat hv (g.n * g.len 0)
    omega
  · rw [G.inN_no h]; omega

noncomputable def inV (R C : Nat) (Z : Nat → Int) (hv lv : Int) (k : Nat) : List Value := (List.range k).map fun j => .int .i64 (inZ R C Z hv lv j)
theorem inV_len (R C : Nat) (Z : Nat → Int) (hv lv : Int) (k : Nat) : (inV R C Z hv lv k).length = k := by simp [inV]
theorem inV_succ (R C : Nat) (Z : Nat → Int) (hv lv : Int) (k : Nat) : inV R C Z hv lv (k + 1) = inV R C Z hv lv k ++ [.int .i64 (inZ R C Z hv lv k)] := by simp [inV, List.range_succ]

theorem own_owI {B n : Nat} {w : World} {v : Value} {Z : Nat → Int} (h : w.ownsRow B 3 1 v n ((List.range n).map fun j => .int .i64 (Z j))) (hZ : ∀ i, i < n → -9223372036854775808 ≤ Z i ∧ Z i ≤ 9223372036854775807) : OwI B w.heap.size w v n Z := by
  rcases h.2 with ⟨rfl, rfl⟩ | ⟨b, cap, cur, rfl, hB, hb, hc, hcap, hcs, ht⟩
  · exact Or.inl ⟨rfl, rfl⟩
  · obtain ⟨F, hF, hF2, hc1, hc2⟩ := own_row h
    exact Or.inr ⟨b, cap, cap, F, rfl, hB, hF.lt, hF, hc1, hc1, by unfold maxLen at hc2; omega, fun i hi => hF2 i _ hi (by simp [hi]), hZ⟩

set_option maxHeartbeats 20000000 in
set_option maxRecDepth 100000 in
theorem specLevelInside_any (v : Value) (lo hi : Nat) (g : G) (hv lv : Int) (w : World) (hr : RdM lo hi w v g) (hh : hi ≤ w.heap.size) :
    Calls Try.prog 29 #[v, .int .i64 hv, .int .i64 lv] w (LgPost (g.inB hv lv) (g.inN hv lv) (inZ g.n (g.len 0) g.flat hv lv) w) := by
  obtain ⟨i0, hi0, hz0, hz1, hz2⟩ := info_parts Try.infoI
  have hb0 := (Below.refl w.heap.size w).alloc (Nat.le_refl _) (.cells #[] 3)
  have HB0 := Lib.hid hb0
  have HR0 := Lib.hid (hr.same (SameIn.below hb0 hh))
  have HO0 := Lib.hid (show ∀ n, OwI w.heap.size ((w.alloc (.cells #[] 3)).drewN n).heap.size ((w.alloc (.cells #[] 3)).drewN n) (.slice (some ⟨w.heap.size, 0, none⟩) 0 0) 0 (inZ g.n (g.len 0) g.flat hv lv) from fun n =>
      Or.inr ⟨w.heap.size, 0, 0, fun _ => .int .i64 0, rfl, Nat.le_refl _, by simp, ⟨#[], heap_alloc_new w _, rfl, fun i hi => by omega⟩, Nat.le_refl _, Nat.le_refl _, by omega, fun i hi => by omega, fun i hi => by omega⟩)
  have HC1 := Lib.hid (fun n => l3Ok_any v lo hi g hv ((w.alloc (.cells #[] 3)).drewN n) (HR0.out.same (fun _ _ _ => rfl)))
  have HC2 := Lib.hid (fun n => l3Ok_any v lo hi g lv ((w.alloc (.cells #[] 3)).drewN n) (HR0.out.same (fun _ _ _ => rfl)))
  by_cases h : g.InOk hv lv
  case neg =>
    have HB := Lib.hid (G.inB_no h)
    have HA := Lib.hid (G.inN_no h)
    rw [HA.out]
    by_cases h1 : g.LvOk hv
    · have H1 := Lib.hid (G.lvB_yes h1)
      by_cases h2 : g.LvOk lv
      · have H2 := Lib.hid (G.lvB_yes h2)
        have h3 : hv ≤ lv := by
          rcases Int.lt_or_le lv hv with h3 | h3
          · exact absurd ⟨h1, h2, h3⟩ h
          · exact h3
        clear hr h h1 h2 hb0
        go_enter Try.func29, Try.ntmps29
        go_wp2_with fail
        refine (HC1.out 0).mono ?_
        rintro e w1 ⟨rfl, n1, rfl⟩
        rw [H1.out]
        go_wp2_with fail
        refine (HC2.out n1).mono ?_
        rintro e w1 ⟨rfl, n2, rfl⟩
        rw [H2.out]
        go_wp2
        go_ret2
        exact ⟨_, by rw [HB.out]; rfl, ⟨_, _, _, rfl⟩, HO0.out (n1 + n2), below_drewN HB0.out (n1 + n2)⟩
      · have H2 := Lib.hid (G.lvB_no h2)
        clear hr h h1 h2 hb0
        go_enter Try.func29, Try.ntmps29
        go_wp2_with fail
        refine (HC1.out 0).mono ?_
        rintro e w1 ⟨rfl, n1, rfl⟩
        rw [H1.out]
        go_wp2_with fail
        refine (HC2.out n1).mono ?_
        rintro e w1 ⟨rfl, n2, rfl⟩
        rw [H2.out]
        go_wp2
        go_ret2
        exact ⟨_, by rw [HB.out]; rfl, ⟨_, _, _, rfl⟩, HO0.out (n1 + n2), below_drewN HB0.out (n1 + n2)⟩
    · have H1 := Lib.hid (G.lvB_no h1)
      clear hr h h1 hb0
      go_enter Try.func29, Try.ntmps29
      go_wp2_with fail
      refine (HC1.out 0).mono ?_
      rintro e w1 ⟨rfl, n1, rfl⟩
      rw [H1.out]
      go_wp2
      go_ret2
      exact ⟨_, by rw [HB.out]; rfl, ⟨_, _, _, rfl⟩, HO0.out n1, below_drewN HB0.out n1⟩
  case pos =>
    have HB := Lib.hid (G.inB_yes h)
    have HA := Lib.hid (G.inN_yes h)
    have H1 := Lib.hid (G.lvB_yes h.1)
    have H2 := Lib.hid (G.lvB_yes h.2.1)
    have hlt3 := h.2.2
    have hlv := h.2.1.2
    have HV := Lib.hid h.1.1
    have h49 := mul_le_49 h.1.1.1.2 h.1.1.2.1.2
    have HRR := Lib.hid hr
    rw [HA.out]
    have HI := Lib.hid (fun (x k : Nat) (hx : x < g.n * g.len 0) (e : numZ g.n (g.len 0) g.flat hv x = k) => inZ_at (R := g.n) (C := g.len 0) (Z := g.flat) (hv := hv) (lv := lv) (by omega) hx e)
    have HX := Lib.hid (fun (k : Nat) (hk : k < rgN g.n (g.len 0) g.flat hv (g.n * g.len 0)) => inZ_ex (R := g.n) (C := g.len 0) (Z := g.flat) (hv := hv) (lv := lv) (by omega) hk)
    have HRG := Lib.hid (fun k => inZ_range (R := g.n) (C := g.len 0) (Z := g.flat) (hv := hv) (lv := lv) (by omega) k)
    have hrl := rgN_le g.n (g.len 0) g.flat hv (g.n * g.len 0)
    have HN1 := Lib.hid (fun (W : World) (hb : Below w.heap.size w W) => numS_nm v lo hi g g.n (g.len 0) rfl rfl hv W (HRR.out.same (SameIn.below hb hh)) (Nat.le_trans hh hb.size) HV.out)
    have HN2 := Lib.hid (fun (W : World) (hb : Below w.heap.size w W) => numS_nm v lo hi g g.n (g.len 0) rfl rfl lv W (HRR.out.same (SameIn.below hb hh)) (Nat.le_trans hh hb.size) HV.out)
    have hN0 : 0 < g.n * g.len 0 := Nat.mul_pos h.1.1.1.1 h.1.1.2.1.1
    obtain ⟨N, eN⟩ : ∃ N, g.n * g.len 0 = N := ⟨_, rfl⟩
    rw [eN] at hN0 HI HX hrl HN1 HN2 h49 ⊢
    obtain ⟨rg, erg⟩ : ∃ rg, rgN g.n (g.len 0) g.flat hv N = rg := ⟨_, rfl⟩
    have ERG := Lib.hid erg
    rw [erg] at HX hrl ⊢
    clear hr h hb0 eN erg
    go_enter Try.func29, Try.ntmps29
    go_wp2_with fail
    refine (HC1.out 0).mono ?_
    rintro e w1 ⟨rfl, n1, rfl⟩
    rw [H1.out]
    go_wp2_with fail
    refine (HC2.out n1).mono ?_
    rintro e w1 ⟨rfl, n2, rfl⟩
    rw [H2.out]
    have HB2 := Lib.hid (below_drewN HB0.out (n1 + n2))
    go_wp2_with fail
    refine (HN1.out _ HB2.out).mono ?_
    rintro e w3 ⟨q1, rfl, ⟨a1, c1, rfl⟩, ho1, hb3⟩
    have HB3 := Lib.hid (HB2.out.trans (hb3.mono HB2.out.size))
    have HO1 := Lib.hid ho1.rd
    have HOW := Lib.hid (show w3.ownsRow w.heap.size 3 1 (.slice (some ⟨w.heap.size, 0, none⟩) 0 0) (inV g.n (g.len 0) g.flat hv lv 0).length (inV g.n (g.len 0) g.flat hv lv 0) from
      ownsRow_below (World.ownsRow_lit w #[] 0 (Nat.le_refl _) (Nat.zero_le _) (by simp)) ((below_drewN (Below.refl (w.alloc (.cells #[] 3)).heap.size _) (n1 + n2)).trans hb3) (fun k hk => by simp [Value.ownBlock] at hk; subst hk; simp))
    have hs3 : w.heap.size + 1 ≤ w3.heap.size := by have := hb3.size; simpa using this
    have HO1' := Lib.hid (show RdI (w.heap.size + 1) w3.heap.size w3 (.slice a1 N c1) N (numZ g.n (g.len 0) g.flat hv) from ho1.rd.mono (by simp) (Nat.le_refl _))
    clear hb3 ho1 HO1
    rw [ERG.out]
    go_wp2_with fail
    refine (HN2.out _ HB3.out).mono ?_
    rintro e w4 ⟨q2, rfl, ⟨a2, c2, rfl⟩, ho2, hb4⟩
    have HB4 := Lib.hid (HB3.out.trans (hb4.mono HB3.out.size))
    have hs4 := hb4.size
    obtain ⟨ao1, cp1, b1, off1, e1, i2, i3, i4, i5, i6⟩ := (HO1'.out.same (SameIn.below hb4 (Nat.le_refl _))).mono (Nat.le_refl _) hs4
    simp only [Value.slice.injEq] at e1
    obtain ⟨rfl, _, rfl⟩ := e1
    obtain ⟨rfl, hb11, hb12⟩ := i5 hN0
    have HC1c := Lib.hid (fun (W : World) (hs : SameIn (w.heap.size + 1) w4.heap.size w4 W) (i : Nat) (hi : i < N) => show W.cell? ⟨b1, off1 + i, none⟩ = some (.int .i64 (numZ g.n (g.len 0) g.flat hv i)) from (World.cell?_of_block (a := ⟨b1, off1 + i, none⟩) (hs b1 hb11 hb12)).trans (i6 i hi))
    clear i4 i5 i6
    obtain ⟨ao2, cp2, b2, off2, e2, j2, j3, j4, j5, j6⟩ := ho2.rd
    simp only [Value.slice.injEq] at e2
    obtain ⟨rfl, _, rfl⟩ := e2
    obtain ⟨rfl, hb21, hb22⟩ := j5 hN0
    have HC2c := Lib.hid (fun (W : World) (hs : SameIn (w.heap.size + 1) w4.heap.size w4 W) (i : Nat) (hi : i < N) => show W.cell? ⟨b2, off2 + i, none⟩ = some (.int .i64 (numZ g.n (g.len 0) g.flat lv i)) from (World.cell?_of_block (a := ⟨b2, off2 + i, none⟩) (hs b2 (by omega) hb22)).trans (j6 i hi))
    clear j4 j5 j6
    have HQ0 := Lib.hid (show AQ w w4 w4 (w.heap.size + 1) (inV g.n (g.len 0) g.flat hv lv 0) (.slice (some ⟨w.heap.size, 0, none⟩) 0 0) from
      ⟨ownsRow_below HOW.out hb4 (fun k hk => (HOW.out.lt k hk).2), fun kk hk => by simp [Value.ownBlock] at hk; omega, SameIn.refl _ _ _, Nat.le_refl _, HB4.out⟩)
    clear hb4 ho2 HOW HN1 HN2 HC1 HC2
    go_wp2
    go_loopw [8, 13] (fun o k wr => ∃ (kk : Nat) (v : Value), kk ≤ rg ∧ k = .int .i64 kk ∧ v = o ∧ AQ w w4 wr (w.heap.size + 1) (inV g.n (g.len 0) g.flat hv lv kk) v) (fun _ k _ => rg - (intOf k).toNat)
    case atStart => exact ⟨0, _, Nat.zero_le _, rfl, rfl, HQ0.out⟩
    case round =>
      obtain ⟨kk, v, hk, rfl, rfl, hq⟩ := hrel
      have HQ := Lib.hid hq
      have hsq := hq.sz
      have hown := hq.own
      by_cases hlt : kk < rg
      · have hlt' : (kk : Int) < rg := by omega
        obtain ⟨x, hx, ex⟩ := HX.out kk hlt
        have HEX := Lib.hid ex
        have HC1d := Lib.hid (fun i hi => HC1c.out wr HQ.out.same i hi)
        have HC2d := Lib.hid (fun i hi => HC2c.out wr HQ.out.same i hi)
        clear ex hq
        go_wp2
        go_loop [14] (fun i => ∃ q : Nat, q ≤ x ∧ i = .int .i64 q) (fun i => x - (intOf i).toNat)
        case atStart => exact ⟨0, Nat.zero_le _, rfl⟩
        case round =>
          obtain ⟨q, hqx, rfl⟩ := hrel
          have hqN : q < N := by omega
          have hqN' : (q : Int) < N := by omega
          have c1 := HC1d.out q hqN
          have c2 := HC2d.out q hqN
          by_cases hz : numZ g.n (g.len 0) g.flat hv q = kk
          · have HZ := Lib.hid (HI.out q kk hqN hz)
            rw [hz] at c1
            rw [← HZ.out] at c2
            have hzz : ((kk : Int) != (kk : Int)) = false := by simp
            have hrr := HRG.out kk
            obtain ⟨y, ey⟩ : ∃ y, inZ g.n (g.len 0) g.flat hv lv kk = y := ⟨_, rfl⟩
            have EY := Lib.hid ey
            rw [ey] at c2
            have hl := inV_len g.n (g.len 0) g.flat hv lv kk
            clear hz ey hrr
            obtain ⟨xs, exs⟩ : ∃ xs, inV g.n (g.len 0) g.flat hv lv kk = xs := ⟨_, rfl⟩
            have EXS := Lib.hid exs
            rw [exs] at hown hl
            have HL := Lib.hid hl
            have hl49 : xs.length ≤ 49 := by omega
            clear exs hl
            go_wp2_with (first | (at_builtin; refine wpList_append_own_at _ rfl _ _ 33 rfl w.heap.size 3 i0 (.int .i64 0) 1 8 Try.underlying33 hi0 hz0 hz1 hz2 rfl (by decide) _ xs.length xs rfl (hown.alloc _) ⟨wr.heap.size, 0, none⟩ 1 1 [.int .i64 y] rfl rfl (World.news_of_block (cs := #[.int .i64 y]) (t := 3) (fr := (0, 0)) (heap_alloc_new wr _)) (by simp [Value.oneCell']) (by unfold maxLen; omega) (by omega) (by simp; omega) ?_; intro v9 w9 hown9 hg9 _ hat9))
            have HQ9 := Lib.hid (show AQ w w4 w9 (w.heap.size + 1) (inV g.n (g.len 0) g.flat hv lv (kk + 1)) v9 from by
              rw [inV_succ, EY.out, EXS.out]
              have := HQ.out
              rw [EXS.out] at this
              exact this.push hown9 hg9 hat9)
            clear hown9 hg9 hat9 hown
            go_wp2
            go_roundw
            case rel => exact ⟨kk + 1, v9, by omega, by go_num, rfl, HQ9.out⟩
            case measure => simp [intOf]; omega
          · have hqx2 : q < x := by
              rcases Nat.lt_or_ge q x with h | h
              · exact h
              · obtain rfl : q = x := by omega
                exact absurd HEX.out hz
            obtain ⟨zz, ezz⟩ : ∃ zz, numZ g.n (g.len 0) g.flat hv q = zz := ⟨_, rfl⟩
            rw [ezz] at c1 hz
            have hzz : (zz != (kk : Int)) = true := by simp [hz]
            clear ezz hz
            go_wp2
            go_round
            case rel => exact ⟨q + 1, by omega, by go_num⟩
            case measure => simp [intOf]; omega
      · have ek : kk = rg := by omega
        have HOWI := Lib.hid (show OwI w.heap.size wr.heap.size wr v rg (inZ g.n (g.len 0) g.flat hv lv) from by
          have h9 := hown
          rw [inV_len, ek] at h9
          exact own_owI h9 (fun i _ => by have := HRG.out i; omega))
        obtain ⟨a9, c9, rfl⟩ := own_shape hown
        rw [inV_len, ek] at HOWI ⊢
        have HBF := Lib.hid hq.bel
        have hge : ¬ (rg : Int) < rg := by omega
        clear hq hown HQ ek hlt
        go_wp2
        go_ret2
        exact ⟨_, by rw [HB.out]; rfl, ⟨_, _, _, rfl⟩, HOWI.out, HBF.out⟩

end Go.Proofs.Ytplfphpnpjjinaa
