/- The draw of two grids side by side. -/
import Derived.Test.YtjllmidagcniaaaDrawSd
import Derived.Test.YtjllmidagcniaaaDrawTw
import Derived.RegionTactic
import Derived.Deep.RegionHeld3
namespace Go.Proofs.Ytjllmidagcniaaa
open Go.RowKit
set_option linter.unusedVariables false
set_option linter.unusedSimpArgs false

set_option maxHeartbeats 8000000 in
set_option maxRecDepth 100000 in
theorem sides_any (B q : Nat) (w : World) (h : Rdr w B q) (hBw : B < w.heap.size) (hq : q ≤ 300) :
    Calls Try.prog 51 #[.pointer (some ⟨B, 0, none⟩)] w (TwgPost B w) := by
  have HR := Lib.hid h
  clear h
  go_enter Try.func51, Try.ntmps51
  go_wp2_with fail
  refine (pick_any B q 4 _ HR.out (by omega) (by omega) (by omega)).mono ?_
  rintro e w1 ⟨x, hx, rfl, hr1, hc1, hs1⟩
  have HR1 := Lib.hid hr1
  have HC1 := Lib.hid hc1
  have hs1' : w.heap.size ≤ w1.heap.size := by omega
  clear hr1 hc1 hs1
  go_wp2_with fail
  refine (pick_any B (q + 1) 4 _ HR1.out (by omega) (by omega) (by omega)).mono ?_
  rintro e w2 ⟨y, hy, rfl, hr2, hc2, hs2⟩
  have HR2 := Lib.hid hr2
  have HC2 := Lib.hid (HC1.out.trans hc2)
  have hs2' : w1.heap.size ≤ w2.heap.size := by omega
  clear hr2 hc2 hs2
  have EX := Lib.hid (show 1 + (x : Int) = ((x + 1 : Nat) : Int) by omega)
  have EY := Lib.hid (show 1 + (y : Int) = ((y + 1 : Nat) : Int) by omega)
  have EX2 := Lib.hid (show (x : Int) + 1 = ((x + 1 : Nat) : Int) by omega)
  go_wp2_with fail
  rw [EX.out, EY.out]
  refine (rough_flt B (q + 2) (x + 1) (y + 1) _ HR2.out (by omega) (by omega) (by omega) (by omega) (by omega)).mono ?_
  rintro e w3 ⟨va, ga, rfl, ⟨a1, l1, c1, rfl⟩, ⟨hma, bta, capa, Bfa, Cfa, hfa, hla, hra⟩, hna, hsha, ⟨q3, hq3, hr3⟩, hc3⟩
  have HMA := Lib.hid hma
  have HFA := Lib.hid hfa
  have HSA := Lib.hid hsha
  have HLA := Lib.hid hla
  have HRA := Lib.hid hra
  have HR3 := Lib.hid hr3
  have HC3 := Lib.hid (HC2.out.trans hc3)
  have hs3' : w2.heap.size ≤ w3.heap.size := hc3.size
  clear hma hfa hsha hr3 hc3 hla hra
  go_wp2_with fail
  refine (pick_any B q3 4 _ HR3.out (by omega) (by omega) (by omega)).mono ?_
  rintro e w4 ⟨y2, hy2, rfl, hr4, hc4, hs4⟩
  have HR4 := Lib.hid hr4
  have HC4 := Lib.hid (HC3.out.trans hc4)
  have HC34 := Lib.hid hc4
  have hs4' : w3.heap.size ≤ w4.heap.size := by omega
  have EY2 := Lib.hid (show 1 + (y2 : Int) = ((y2 + 1 : Nat) : Int) by omega)
  clear hr4 hc4 hs4
  go_wp2_with fail
  rw [EX2.out, EY2.out]
  refine (rough_flt B (q3 + 1) (x + 1) (y2 + 1) _ HR4.out (by omega) (by omega) (by omega) (by omega) (by omega)).mono ?_
  rintro e w5 ⟨vb, gb, rfl, ⟨a2, l2, c2, rfl⟩, ⟨hmb, bt, cap, Bf, Cf, hfb, hlb, hrb⟩, hnb, hshb, ⟨q5, hq5, hr5⟩, hc5⟩
  have HMB := Lib.hid hmb
  have HFB := Lib.hid hfb
  have HSB := Lib.hid hshb
  have HLB := Lib.hid hlb
  have HRB := Lib.hid hrb
  have HR5 := Lib.hid hr5
  have HC5 := Lib.hid (HC4.out.trans hc5)
  have HC35 := Lib.hid (HC34.out.trans hc5)
  have hs5' : w4.heap.size ≤ w5.heap.size := hc5.size
  clear hmb hfb hshb hr5 hc5 hlb hrb
  go_wp2_with fail
  refine (pick_any B q5 10 _ HR5.out (by omega) (by omega) (by omega)).mono ?_
  rintro e w6 ⟨z, hz, rfl, hr6, hc6, hs6⟩
  have HR6 := Lib.hid hr6
  have HC6 := Lib.hid (HC5.out.trans hc6)
  have HC36 := Lib.hid (HC35.out.trans hc6)
  have HC56 := Lib.hid hc6
  have hs6' : w5.heap.size ≤ w6.heap.size := by omega
  have HMA6 := Lib.hid ((HMA.out.same (HC36.out.sameIn (Nat.le_refl _) (Or.inr (by omega)))).mono (show B + 1 ≤ w2.heap.size by omega) (show w3.heap.size ≤ w6.heap.size by omega))
  have hna5 : 1 ≤ ga.n ∧ ga.n ≤ 5 := by omega
  have hnb5 : 1 ≤ gb.n ∧ gb.n ≤ 5 := by omega
  clear hr6 hc6 hs6
  by_cases z0 : z = 0
  · subst z0
    go_wp2_with fail
    refine (grid_any B (q5 + 1) _ HR6.out (by omega)).mono ?_
    rintro e w7 ⟨u, hh, rfl, ⟨a3, l3, c3, rfl⟩, hm7, hn7, hl7, _, hc7⟩
    have HM7 := Lib.hid hm7
    have HN7 := Lib.hid hn7
    have HL7 := Lib.hid (fun r hr => (hl7 r hr).1)
    have HC7 := Lib.hid hc7
    have hs7' : w6.heap.size ≤ w7.heap.size := hc7.size
    clear hm7 hn7 hl7 hc7
    go_wp2
    go_ret2
    exact ⟨_, ga, _, hh, rfl, ⟨_, _, _, rfl⟩, ⟨_, _, _, rfl⟩, (HMA6.out.same (HC7.out.sameIn (by omega) (Or.inr (Nat.le_refl _)))).mono (Nat.le_refl _) (by omega), HM7.out, hna5, HN7.out, (fun r hr => (HSA.out r hr).1), HL7.out, HC6.out.trans HC7.out⟩
  · have e0 : ((z : Int) == 0) = false := by rw [beq_eq_false_iff_ne]; omega
    clear z0
    go_wp2_with fail
    refine (pick_any B (q5 + 1) 3 _ HR6.out (by omega) (by omega) (by omega)).mono ?_
    rintro e w7 ⟨u, hu, rfl, hr7, hc7, hs7⟩
    have HC7 := Lib.hid (HC6.out.trans hc7)
    have HC37 := Lib.hid (HC36.out.trans hc7)
    have HC57 := Lib.hid (HC56.out.trans hc7)
    have hs7' : w6.heap.size ≤ w7.heap.size := by omega
    have HMA7 := Lib.hid ((HMA6.out.same (hc7.sameIn (by omega) (Or.inr (Nat.le_refl _)))).mono (Nat.le_refl _) (show w6.heap.size ≤ w7.heap.size by omega))
    have HMA8 := Lib.hid (HMA.out.same (HC37.out.sameIn (Nat.le_refl _) (Or.inr (show B + 1 ≤ w2.heap.size by omega))))
    clear hr7 hc7 hs7
    by_cases u0 : u = 0
    · subst u0
      go_wp2
      go_ret2
      exact ⟨_, ga, _, gb, rfl, ⟨_, _, _, rfl⟩, ⟨_, _, _, rfl⟩, HMA7.out, (HMB.out.same (HC57.out.sameIn (by omega) (Or.inr (by omega)))).mono (by omega) (by omega), hna5, hnb5, (fun r hr => (HSA.out r hr).1), (fun r hr => (HSB.out r hr).1), HC7.out⟩
    · have u1 : (0 : Int) < u := by omega
      have u1n : 0 < u := by omega
      have u1d : decide (0 < u) = true := by simp; omega
      have hA7 := Lib.hid (HFA.out.keep HC37.out.size (HC37.out.block _ HFA.out.lt (by have := HLA.out; omega)) (fun r hr => HC37.out.block _ (HFA.out.row r hr).2.1 (by have := HRA.out r hr; omega)))
      have hB7 := Lib.hid (HFB.out.keep HC57.out.size (HC57.out.block _ HFB.out.lt (by have := HLB.out; omega)) (fun r hr => HC57.out.block _ (HFB.out.row r hr).2.1 (by have := HRB.out r hr; omega)))
      have eva := HFA.out.v_eq
      have evb := HFB.out.v_eq
      simp only [Value.slice.injEq] at eva evb
      obtain ⟨rfl, rfl, rfl⟩ := eva
      obtain ⟨rfl, rfl, rfl⟩ := evb
      have hcapa := HFA.out.le
      have hcapb := HFB.out.le
      have hbta := HFA.out.lt
      have EN := Lib.hid hna
      have ENB := Lib.hid hnb
      have eab : ga.n = gb.n := by omega
      have hxn : (x : Int) + 1 = ga.n := by omega
      obtain ⟨R, eR⟩ : ∃ R, ga.n = R := ⟨_, rfl⟩
      have ER := Lib.hid eR
      have eRb : gb.n = R := by omega
      rw [eR] at hA7 hcapa hna5 hxn HMA7 HMA8 ⊢
      rw [eRb] at hB7 hcapb hnb5 ⊢
      clear hna hnb eab eR eRb HMA6 u0 HR HR1 HR2 HR3 HR4 HR5 HR6 EX EY EY2
      go_wp2_with fail
      try simp only [hxn]
      clear hxn
      go_loopw [7] (fun c wr => ∃ (i : Nat) (g' : G), i ≤ R ∧ c = .int .i64 i ∧ Flt wr (.slice (some ⟨bt, 0, none⟩) R c2) R bt c2 Bf Cf g' ∧ (∀ s, s < R → g'.len s = gb.len s ∧ ∀ k, k < gb.len s → -1 ≤ g'.z s k ∧ g'.z s k ≤ 100) ∧ Below w4.heap.size w7 wr) (fun c _ => R - (intOf c).toNat)
      case atStart => exact ⟨0, gb, Nat.zero_le _, rfl, hB7.out, fun s hs => ⟨rfl, fun k hk => (HSB.out s (by have := ENB.out; have := EN.out; have := ER.out; omega)).2.2 k hk⟩, Below.refl _ _⟩
      case round =>
        obtain ⟨i, g', hi, rfl, hfl, hok, hbel⟩ := hrel
        have HFL := Lib.hid hfl
        have HOK := Lib.hid hok
        have HBL := Lib.hid hbel
        have hszr := hbel.size
        by_cases hlt : i < R
        · have hlt' : (i : Int) < R := by omega
          have hta := (hA7.out.top i hlt).1
          have hra := hA7.out.row i hlt
          have hsa := HSA.out i (by have := ER.out; omega)
          have htb := hfl.top i hlt
          have hrb := hfl.row i hlt
          have hlb := (hok i hlt).1
          have hsb := HSB.out i (by have := ENB.out; have := EN.out; have := ER.out; omega)
          have ha4 := HRA.out i (by have := ER.out; omega)
          have ha5 := (HFA.out.row i (by have := ER.out; omega)).2.1
          have hb4 := HRB.out i (by have := ENB.out; have := EN.out; have := ER.out; omega)
          have hbt4 := HLB.out
          obtain ⟨la, ela⟩ : ∃ la, ga.len i = la := ⟨_, rfl⟩
          obtain ⟨lb, elb⟩ : ∃ lb, g'.len i = lb := ⟨_, rfl⟩
          obtain ⟨m, em⟩ : ∃ m, la = m + 1 := ⟨la - 1, by omega⟩
          have hval := hsa.2.2 m (by omega)
          have hcl := (hra.2.2.2.2 m (by omega)).1
          obtain ⟨h, eh⟩ : ∃ h, ga.z i m = h := ⟨_, rfl⟩
          rw [eh] at hval hcl
          rw [ela] at hta hra
          rw [elb] at htb hrb
          obtain ⟨ca, eca⟩ : ∃ ca, Cfa i = ca := ⟨_, rfl⟩
          obtain ⟨cb, ecb⟩ : ∃ cb, Cf i = cb := ⟨_, rfl⟩
          rw [eca] at hta hra
          rw [ecb] at htb hrb
          have hcb := hrb.2.2.2.2 0 (by omega)
          have hsub : (la : Int) - 1 = m := by omega
          have hla0 : (m : Int) < la := by omega
          have hlb0 : (0 : Int) < lb := by omega
          have hlb1 : 0 < lb := by omega
          have hla1 : m < la := by omega
          have hm0 : (0 : Int) ≤ m := by omega
          have hwm : IntKind.i64.wrap (m : Int) = m := IntWalk.i64_in _ (by omega)
          have hne1 : Bf i ≠ bt := hrb.1
          have hne2 : Bf i ≠ bta := by omega
          have hne3 : Bf i ≠ Bfa i := by omega
          obtain ⟨W8, hW8⟩ : ∃ W8, wr.drew.setCell ⟨Bf i, 0, none⟩ (.int .i64 h) = W8 := ⟨_, rfl⟩
          have HN := Lib.hid (show Flt W8 (.slice (some ⟨bt, 0, none⟩) R c2) R bt c2 Bf Cf ⟨g'.n, g'.len, fun r c => if r = i ∧ c = 0 then h else g'.z r c⟩ from by
            rw [← hW8]; exact (hfl.keep (w' := wr.drew) (Nat.le_refl _) rfl (fun _ _ => rfl)).set i 0 hlt (by omega) h)
          have HB8 := Lib.hid (show Below w4.heap.size w7 W8 from by rw [← hW8]; exact (hbel.drew).setCell (p := ⟨Bf i, 0, none⟩) hb4 _)
          have HHELD := Lib.hid (show (fun w' => w'.cell? ⟨bt, i, none⟩ = some (.slice (some ⟨Bf i, 0, none⟩) lb cb) ∧ w'.cell? ⟨bta, i, none⟩ = some (.slice (some ⟨Bfa i, 0, none⟩) la ca) ∧ w'.cell? ⟨Bfa i, m, none⟩ = some (.int .i64 h) ∧ w'.frozen? ⟨Bf i, 0, none⟩ = false) wr.drew from
            ⟨htb.1, (hbel.cell (p := ⟨bta, i, none⟩) (by show bta < _; omega)).trans hta, (hbel.cell (p := ⟨Bfa i, m, none⟩) (by show Bfa i < _; omega)).trans hcl, hcb.2⟩)
          have q62 := hcb.1
          have HST := Lib.hid (show (fun w' => w'.cell? ⟨bt, i, none⟩ = some (.slice (some ⟨Bf i, 0, none⟩) lb cb) ∧ w'.cell? ⟨bta, i, none⟩ = some (.slice (some ⟨Bfa i, 0, none⟩) la ca) ∧ w'.cell? ⟨Bfa i, m, none⟩ = some (.int .i64 h) ∧ w'.frozen? ⟨Bf i, 0, none⟩ = false) W8 from by
            rw [← hW8]
            obtain ⟨q0, q1, q2, q3⟩ := HHELD.out
            exact ⟨(World.cell?_setCell_far _ _ _ _ hne1).trans q0, (World.cell?_setCell_far _ _ _ _ hne2).trans q1, (World.cell?_setCell_far _ _ _ _ hne3).trans q2, by rw [World.frozen?_setCell]; exact q3⟩)
          have HV := Lib.hid hval
          clear hfl hok hbel hta hra hsa htb hrb hsb eh ela em eca ecb hval hcl hcb
          go_wp2_with fail
          try rw [hW8]
          refine wp_region_held_drew (S := (fun w' => w'.cell? ⟨bt, i, none⟩ = some (.slice (some ⟨Bf i, 0, none⟩) lb cb) ∧ w'.cell? ⟨bta, i, none⟩ = some (.slice (some ⟨Bfa i, 0, none⟩) la ca) ∧ w'.cell? ⟨Bfa i, m, none⟩ = some (.int .i64 h) ∧ w'.frozen? ⟨Bf i, 0, none⟩ = false)) (by kernel_rfl) ?_ (fun hHeld => ?_)
          · exact HHELD.out
          refine wpAnyH_take (i := 0) (v := ?_) (by simp only [List.getElem?_toArray, List.getElem?_cons_succ, List.getElem?_cons_zero]; exact rfl) (by kernel_rfl) (by kernel_rfl) (by kernel_rfl) (by exact fun _ _ _ h => h) (Or.inl ⟨by rfl, ?_⟩) (by assumption) ?_
          rotate_left
          · intro w hSw; (try dsimp only at hSw); go_simp; try with_reducible rfl
          try simp only [Act.put, List.setIfInBounds_toArray, List.set_cons_zero, List.set_cons_succ]
          refine wpAnyH_take (i := 1) (v := ?_) (by simp only [List.getElem?_toArray, List.getElem?_cons_succ, List.getElem?_cons_zero]; exact rfl) (by kernel_rfl) (by kernel_rfl) (by kernel_rfl) (by exact fun _ _ _ h => h) (Or.inl ⟨by rfl, ?_⟩) (by assumption) ?_
          rotate_left
          · intro w hSw; (try dsimp only at hSw); go_simp; try with_reducible rfl
          try simp only [Act.put, List.setIfInBounds_toArray, List.set_cons_zero, List.set_cons_succ]
          refine wpAnyH_take (i := 2) (v := ?_) (by simp only [List.getElem?_toArray, List.getElem?_cons_succ, List.getElem?_cons_zero]; exact rfl) (by kernel_rfl) (by kernel_rfl) (by kernel_rfl) (by exact fun _ _ _ h => h) (Or.inl ⟨by rfl, ?_⟩) (by assumption) ?_
          rotate_left
          · intro w hSw; (try dsimp only at hSw); go_simp; try with_reducible rfl
          try simp only [Act.put, List.setIfInBounds_toArray, List.set_cons_zero, List.set_cons_succ]
          refine wpAnyH_take (i := 3) (v := ?_) (by simp only [List.getElem?_toArray, List.getElem?_cons_succ, List.getElem?_cons_zero]; exact rfl) (by kernel_rfl) (by kernel_rfl) (by kernel_rfl) (by exact fun _ _ _ h => h) (Or.inl ⟨by rfl, ?_⟩) (by assumption) ?_
          rotate_left
          · intro w hSw; (try dsimp only at hSw); go_simp; try with_reducible rfl
          try simp only [Act.put, List.setIfInBounds_toArray, List.set_cons_zero, List.set_cons_succ]
          refine wpAnyH_take (i := 4) (v := ?_) (by simp only [List.getElem?_toArray, List.getElem?_cons_succ, List.getElem?_cons_zero]; exact rfl) (by kernel_rfl) (by kernel_rfl) (by kernel_rfl) (by exact fun _ _ _ h => h) (Or.inl ⟨by rfl, ?_⟩) (by assumption) ?_
          rotate_left
          · intro w hSw; (try dsimp only at hSw); go_simp; try with_reducible rfl
          try simp only [Act.put, List.setIfInBounds_toArray, List.set_cons_zero, List.set_cons_succ]
          refine wpAnyH_take (i := 5) (v := ?_) (by simp only [List.getElem?_toArray, List.getElem?_cons_succ, List.getElem?_cons_zero]; exact rfl) (by kernel_rfl) (by kernel_rfl) (by kernel_rfl) (by exact fun _ _ _ h => h) (Or.inl ⟨by rfl, ?_⟩) (by assumption) ?_
          rotate_left
          · intro w hSw; (try dsimp only at hSw); go_simp; try with_reducible rfl
          try simp only [Act.put, List.setIfInBounds_toArray, List.set_cons_zero, List.set_cons_succ]
          refine wpAnyH_take (i := 6) (v := ?_) (by simp only [List.getElem?_toArray, List.getElem?_cons_succ, List.getElem?_cons_zero]; exact rfl) (by kernel_rfl) (by kernel_rfl) (by kernel_rfl) (by exact fun _ _ _ h => h) (Or.inl ⟨by rfl, ?_⟩) (by assumption) ?_
          rotate_left
          · intro w hSw; (try dsimp only at hSw); go_simp; try with_reducible rfl
          try simp only [Act.put, List.setIfInBounds_toArray, List.set_cons_zero, List.set_cons_succ]
          refine wpAnyH_take (i := 7) (v := ?_) (by simp only [List.getElem?_toArray, List.getElem?_cons_succ, List.getElem?_cons_zero]; exact rfl) (by kernel_rfl) (by kernel_rfl) (by kernel_rfl) (by exact fun _ _ _ h => h) (Or.inl ⟨by rfl, ?_⟩) (by assumption) ?_
          rotate_left
          · intro w hSw; (try dsimp only at hSw); go_simp; try with_reducible rfl
          try simp only [Act.put, List.setIfInBounds_toArray, List.set_cons_zero, List.set_cons_succ]
          refine wpAnyH_take (i := 8) (v := ?_) (by simp only [List.getElem?_toArray, List.getElem?_cons_succ, List.getElem?_cons_zero]; exact rfl) (by kernel_rfl) (by kernel_rfl) (by kernel_rfl) (by exact fun _ _ _ h => h) (Or.inl ⟨by rfl, ?_⟩) (by assumption) ?_
          rotate_left
          · intro w hSw; (try dsimp only at hSw); go_simp; try with_reducible rfl
          try simp only [Act.put, List.setIfInBounds_toArray, List.set_cons_zero, List.set_cons_succ]
          refine wpAnyH_take (i := 9) (v := ?_) (by simp only [List.getElem?_toArray, List.getElem?_cons_succ, List.getElem?_cons_zero]; exact rfl) (by kernel_rfl) (by kernel_rfl) (by kernel_rfl) (by exact fun _ _ _ h => h) (Or.inl ⟨by rfl, ?_⟩) (by assumption) ?_
          rotate_left
          · intro w hSw; (try dsimp only at hSw); go_simp; try with_reducible rfl
          try simp only [Act.put, List.setIfInBounds_toArray, List.set_cons_zero, List.set_cons_succ]
          refine wpAnyH_take (i := 10) (v := ?_) (by simp only [List.getElem?_toArray, List.getElem?_cons_succ, List.getElem?_cons_zero]; exact rfl) (by kernel_rfl) (by kernel_rfl) (by kernel_rfl) (by exact fun _ _ _ h => h) (Or.inl ⟨by rfl, ?_⟩) (by assumption) ?_
          rotate_left
          · intro w hSw; (try dsimp only at hSw); go_simp; try with_reducible rfl
          try simp only [Act.put, List.setIfInBounds_toArray, List.set_cons_zero, List.set_cons_succ]
          refine wpAnyH_take (i := 11) (v := ?_) (by simp only [List.getElem?_toArray, List.getElem?_cons_succ, List.getElem?_cons_zero]; exact rfl) (by kernel_rfl) (by kernel_rfl) (by kernel_rfl) (by exact fun _ _ _ h => h) (Or.inl ⟨by rfl, ?_⟩) (by assumption) ?_
          rotate_left
          · intro w hSw; (try dsimp only at hSw); go_simp; try with_reducible rfl
          try simp only [Act.put, List.setIfInBounds_toArray, List.set_cons_zero, List.set_cons_succ]
          refine wpAnyH_take (i := 12) (v := ?_) (by simp only [List.getElem?_toArray, List.getElem?_cons_succ, List.getElem?_cons_zero]; exact rfl) (by kernel_rfl) (by kernel_rfl) (by kernel_rfl) (by exact fun _ _ _ h => h) (Or.inl ⟨by rfl, ?_⟩) (by assumption) ?_
          rotate_left
          · intro w hSw; (try dsimp only at hSw); go_simp; try with_reducible rfl
          try simp only [Act.put, List.setIfInBounds_toArray, List.set_cons_zero, List.set_cons_succ]
          refine wpAnyH_take (i := 13) (v := ?_) (by simp only [List.getElem?_toArray, List.getElem?_cons_succ, List.getElem?_cons_zero]; exact rfl) (by kernel_rfl) (by kernel_rfl) (by kernel_rfl) (by exact fun _ _ _ h => h) (Or.inl ⟨by rfl, ?_⟩) (by assumption) ?_
          rotate_left
          · intro w hSw; (try dsimp only at hSw); go_simp; try with_reducible rfl
          try simp only [Act.put, List.setIfInBounds_toArray, List.set_cons_zero, List.set_cons_succ]
          refine wpAnyH_take (i := 14) (v := ?_) (by simp only [List.getElem?_toArray, List.getElem?_cons_succ, List.getElem?_cons_zero]; exact rfl) (by kernel_rfl) (by kernel_rfl) (by kernel_rfl) (by exact fun _ _ _ h => h) (Or.inl ⟨by rfl, ?_⟩) (by assumption) ?_
          rotate_left
          · intro w hSw; (try dsimp only at hSw); go_simp; try with_reducible rfl
          try simp only [Act.put, List.setIfInBounds_toArray, List.set_cons_zero, List.set_cons_succ]
          refine wpAnyH_take (i := 15) (v := ?_) (by simp only [List.getElem?_toArray, List.getElem?_cons_succ, List.getElem?_cons_zero]; exact rfl) (by kernel_rfl) (by kernel_rfl) (by kernel_rfl) (by exact fun _ _ _ h => h) (Or.inl ⟨by rfl, ?_⟩) (by assumption) ?_
          rotate_left
          · intro w hSw; (try dsimp only at hSw); go_simp; try with_reducible rfl
          try simp only [Act.put, List.setIfInBounds_toArray, List.set_cons_zero, List.set_cons_succ]
          refine wpAnyH_take (i := 16) (v := ?_) (by simp only [List.getElem?_toArray, List.getElem?_cons_succ, List.getElem?_cons_zero]; exact rfl) (by kernel_rfl) (by kernel_rfl) (by kernel_rfl) (by exact fun _ _ _ h => h) (Or.inl ⟨by rfl, ?_⟩) (by assumption) ?_
          rotate_left
          · intro w hSw; (try dsimp only at hSw); go_simp; try with_reducible rfl
          try simp only [Act.put, List.setIfInBounds_toArray, List.set_cons_zero, List.set_cons_succ]
          refine wpAnyH_ready (rs := [17]) (by kernel_rfl) (by simp) ?_
          refine AllReadyH.cons (by simp only [List.getElem?_toArray, List.getElem?_cons_succ, List.getElem?_cons_zero]; exact rfl) (fun K hK => ?_) AllReadyH.nil
          go_simp
          refine hK.out _ _ ?_ (fun hHeld2 => ?_)
          · exact HST.out
          clear hK K
          try simp only [Act.put, List.setIfInBounds_toArray, List.set_cons_zero, List.set_cons_succ]
          refine wpAnyH_done (by kernel_rfl) ?_ _
          clear HHELD HST q62 hHeld hHeld2
          go_wp2
          go_roundw
          case rel => exact ⟨i + 1, _, by omega, by go_num, HN.out, fun s hs => ⟨(HOK.out s hs).1, fun k hk => by
            simp only
            split
            · have := HV.out; omega
            · exact (HOK.out s hs).2 k hk⟩, HB8.out⟩
          case measure => simp [intOf]; omega
        · obtain rfl : i = R := by omega
          have hlt' : ¬ (i : Int) < i := by omega
          clear hfl hok hbel
          go_wp2
          go_ret2
          have e1 := ER.out
          have e2 := EN.out
          have e3 := ENB.out
          exact ⟨_, ga, _, ⟨i, g'.len, g'.z⟩, rfl, ⟨_, _, _, rfl⟩, ⟨_, _, _, rfl⟩, ((HMA8.out.same (SameIn.below (HBL.out) (by omega))).mono (by omega) (by omega)), (Flt.rdM (lo := B + 1) (g := ⟨i, g'.len, g'.z⟩) ⟨HFL.out.v_eq, HFL.out.le, HFL.out.lt, HFL.out.top, HFL.out.row, HFL.out.inj⟩ ⟨by have := HLB.out; omega, fun r hr => by have := HRB.out r (by omega); omega⟩ rfl (fun r hr c hc => by have h1 := HOK.out r hr; have := h1.2 c (by simp only at hc; omega); simp only; omega)), by omega, by simp only; omega, (fun r hr => (HSA.out r hr).1), (fun r hr => by have hr' : r < i := hr; have h1 := (HOK.out r hr').1; have := (HSB.out r (by omega)).1; simp only; omega), Chg.then_below HC7.out HBL.out (by omega)⟩

set_option maxHeartbeats 1000000 in
set_option maxRecDepth 100000 in
theorem draw_DrawGridsAgree (v : Value) (n hi : Nat) (w : World) (hv : RdB hi w v n) (hh : hi ≤ w.heap.size) :
    Calls Try.prog 12 #[v] w (DwPost w) := by
  have HO := Lib.hid (open_any v n hi w hv hh)
  obtain ⟨ao, cap, cb, off, Z, rfl, _⟩ := hv
  go_enter Try.func12, Try.ntmps12
  go_wp2_with fail
  refine HO.out.mono ?_
  rintro e w1 ⟨rfl, hr, hb, hs⟩
  have HB := Lib.hid hb
  have HR := Lib.hid hr
  clear hb hr
  go_wp2_with fail
  refine (sides_any w.heap.size 0 w1 HR.out (by omega) (by omega)).mono ?_
  rintro e w2 ⟨v, g, u, h, rfl, ⟨a1, l1, c1, rfl⟩, ⟨a2, l2, c2, rfl⟩, hm, hu, hn, hnu, hl, hlu, hc⟩
  have HM := Lib.hid hm
  have HU := Lib.hid hu
  have HN := Lib.hid hn
  have HNU := Lib.hid hnu
  have HL := Lib.hid hl
  have HLU := Lib.hid hlu
  have HC := Lib.hid hc
  clear hm hu hn hnu hl hlu hc
  go_wp2
  go_ret2
  exact ⟨_, g, _, h, rfl, ⟨_, _, _, rfl⟩, ⟨_, _, _, rfl⟩, HM.out.mono (Nat.zero_le _) (Nat.le_refl _), HU.out.mono (Nat.zero_le _) (Nat.le_refl _), HN.out, HNU.out, HL.out, HLU.out, chg_below HB.out HC.out⟩

set_option maxHeartbeats 1000000 in
set_option maxRecDepth 100000 in
theorem draw_DrawGridsJoin (v : Value) (n hi : Nat) (w : World) (hv : RdB hi w v n) (hh : hi ≤ w.heap.size) :
    Calls Try.prog 19 #[v] w (DwPost w) := by
  have HO := Lib.hid (open_any v n hi w hv hh)
  obtain ⟨ao, cap, cb, off, Z, rfl, _⟩ := hv
  go_enter Try.func19, Try.ntmps19
  go_wp2_with fail
  refine HO.out.mono ?_
  rintro e w1 ⟨rfl, hr, hb, hs⟩
  have HB := Lib.hid hb
  have HR := Lib.hid hr
  clear hb hr
  go_wp2_with fail
  refine (sides_any w.heap.size 0 w1 HR.out (by omega) (by omega)).mono ?_
  rintro e w2 ⟨v, g, u, h, rfl, ⟨a1, l1, c1, rfl⟩, ⟨a2, l2, c2, rfl⟩, hm, hu, hn, hnu, hl, hlu, hc⟩
  have HM := Lib.hid hm
  have HU := Lib.hid hu
  have HN := Lib.hid hn
  have HNU := Lib.hid hnu
  have HL := Lib.hid hl
  have HLU := Lib.hid hlu
  have HC := Lib.hid hc
  clear hm hu hn hnu hl hlu hc
  go_wp2
  go_ret2
  exact ⟨_, g, _, h, rfl, ⟨_, _, _, rfl⟩, ⟨_, _, _, rfl⟩, HM.out.mono (Nat.zero_le _) (Nat.le_refl _), HU.out.mono (Nat.zero_le _) (Nat.le_refl _), HN.out, HNU.out, HL.out, HLU.out, chg_below HB.out HC.out⟩

set_option maxHeartbeats 1000000 in
set_option maxRecDepth 100000 in
theorem draw_DrawGridsMend (v : Value) (n hi : Nat) (w : World) (hv : RdB hi w v n) (hh : hi ≤ w.heap.size) :
    Calls Try.prog 26 #[v] w (DwPost w) := by
  have HO := Lib.hid (open_any v n hi w hv hh)
  obtain ⟨ao, cap, cb, off, Z, rfl, _⟩ := hv
  go_enter Try.func26, Try.ntmps26
  go_wp2_with fail
  refine HO.out.mono ?_
  rintro e w1 ⟨rfl, hr, hb, hs⟩
  have HB := Lib.hid hb
  have HR := Lib.hid hr
  clear hb hr
  go_wp2_with fail
  refine (sides_any w.heap.size 0 w1 HR.out (by omega) (by omega)).mono ?_
  rintro e w2 ⟨v, g, u, h, rfl, ⟨a1, l1, c1, rfl⟩, ⟨a2, l2, c2, rfl⟩, hm, hu, hn, hnu, hl, hlu, hc⟩
  have HM := Lib.hid hm
  have HU := Lib.hid hu
  have HN := Lib.hid hn
  have HNU := Lib.hid hnu
  have HL := Lib.hid hl
  have HLU := Lib.hid hlu
  have HC := Lib.hid hc
  clear hm hu hn hnu hl hlu hc
  go_wp2
  go_ret2
  exact ⟨_, g, _, h, rfl, ⟨_, _, _, rfl⟩, ⟨_, _, _, rfl⟩, HM.out.mono (Nat.zero_le _) (Nat.le_refl _), HU.out.mono (Nat.zero_le _) (Nat.le_refl _), HN.out, HNU.out, HL.out, HLU.out, chg_below HB.out HC.out⟩

set_option maxHeartbeats 1000000 in
set_option maxRecDepth 100000 in
theorem draw_DrawGridsGap (v : Value) (n hi : Nat) (w : World) (hv : RdB hi w v n) (hh : hi ≤ w.heap.size) :
    Calls Try.prog 23 #[v] w (DwPost w) := by
  have HO := Lib.hid (open_any v n hi w hv hh)
  obtain ⟨ao, cap, cb, off, Z, rfl, _⟩ := hv
  go_enter Try.func23, Try.ntmps23
  go_wp2_with fail
  refine HO.out.mono ?_
  rintro e w1 ⟨rfl, hr, hb, hs⟩
  have HB := Lib.hid hb
  have HR := Lib.hid hr
  clear hb hr
  go_wp2_with fail
  refine (sides_any w.heap.size 0 w1 HR.out (by omega) (by omega)).mono ?_
  rintro e w2 ⟨v, g, u, h, rfl, ⟨a1, l1, c1, rfl⟩, ⟨a2, l2, c2, rfl⟩, hm, hu, hn, hnu, hl, hlu, hc⟩
  have HM := Lib.hid hm
  have HU := Lib.hid hu
  have HN := Lib.hid hn
  have HNU := Lib.hid hnu
  have HL := Lib.hid hl
  have HLU := Lib.hid hlu
  have HC := Lib.hid hc
  clear hm hu hn hnu hl hlu hc
  go_wp2
  go_ret2
  exact ⟨_, g, _, h, rfl, ⟨_, _, _, rfl⟩, ⟨_, _, _, rfl⟩, HM.out.mono (Nat.zero_le _) (Nat.le_refl _), HU.out.mono (Nat.zero_le _) (Nat.le_refl _), HN.out, HNU.out, HL.out, HLU.out, chg_below HB.out HC.out⟩

end Go.Proofs.Ytjllmidagcniaaa
