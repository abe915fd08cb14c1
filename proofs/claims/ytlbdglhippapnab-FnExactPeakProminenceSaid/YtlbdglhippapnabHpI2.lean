/- The program's heap by rank: settle, pop. -/
import Derived.Test.YtlbdglhippapnabHpI
namespace Go.Proofs.Ytlbdglhippapnab
open Go.RowKit
set_option linter.unusedVariables false

/-- the state of settle's loop -/
structure DnI (w wr : World) (hb b cap : Nat) (Z : Nat → Int) (n i : Nat) (S : Nat → Prop) (f : Nat → Nat) : Prop where
  dn : DnOk Z f n i
  inj : InjN f n
  mem : ∀ y, S y ↔ InN f n y
  box : wr.heap[hb]? = some (.cells #[.slice (some ⟨b, 0, none⟩) n cap] 56 (0, 0))
  row : HpR wr b cap Z f n
  fr : HpFr hb (some b) w wr
  cp : n ≤ cap ∧ cap ≤ maxLen
  hb : hb < b
theorem DnI.drewN {w wr : World} {hb b cap n i : Nat} {Z : Nat → Int} {S : Nat → Prop} {f : Nat → Nat} (h : DnI w wr hb b cap Z n i S f) (k : Nat) : DnI w (wr.drewN k) hb b cap Z n i S f :=
  ⟨h.dn, h.inj, h.mem, h.box, h.row.keep rfl, ⟨h.fr.os, h.fr.tape, h.fr.output, h.fr.size, h.fr.block⟩, h.cp, h.hb⟩
theorem DnI.below {w wr w2 : World} {hb b cap n i : Nat} {Z : Nat → Int} {S : Nat → Prop} {f : Nat → Nat} (h : DnI w wr hb b cap Z n i S f) (hb2 : Below wr.heap.size wr w2) : DnI w w2 hb b cap Z n i S f :=
  ⟨h.dn, h.inj, h.mem, (hb2.block hb (Array.getElem?_eq_some_iff.1 h.box).1).trans h.box, h.row.keep (hb2.block b h.row.lt), h.fr.trans (HpFr.ofBelow hb2 (Nat.le_refl _)) (Or.inl rfl), h.cp, h.hb⟩
/-- what settle leaves -/
def StPost (hb b : Nat) (Z : Nat → Int) (n : Nat) (S : Nat → Prop) (w w' : World) : Prop := ∃ f', HpW w' hb (some b) Z f' n ∧ HpS Z f' n S ∧ HpFr hb (some b) w w'
theorem DnI.done {w wr : World} {hb b cap n i : Nat} {Z : Nat → Int} {S : Nat → Prop} {f : Nat → Nat} (h : DnI w wr hb b cap Z n i S f) (hi : ∀ k, (k = 2 * i + 1 ∨ k = 2 * i + 2) → k < n → hiB Z (f k) (f i) = false) : StPost hb b Z n S w wr :=
  ⟨f, ⟨_, h.box, Or.inr ⟨b, cap, rfl, rfl, h.hb, h.cp.1, h.cp.2, h.row⟩⟩, ⟨dnOk_end h.dn hi, h.inj, h.mem⟩, h.fr⟩
theorem DnI.swap {w wr : World} {hb b cap n i m : Nat} {Z : Nat → Int} {S : Nat → Prop} {f : Nat → Nat} (h : DnI w wr hb b cap Z n i S f) (hm : m = 2 * i + 1 ∨ m = 2 * i + 2) (hn : m < n) (hi : hiB Z (f m) (f i) = true)
    (hg : ∀ k, (k = 2 * i + 1 ∨ k = 2 * i + 2) → k < n → hiB Z (f k) (f m) = false) :
    DnI w ((((wr.setCell ⟨b, i * 2, none⟩ (.int .i64 (Z (f m)))).setCell ⟨b, i * 2 + 1, none⟩ (.int .i64 (f m))).setCell ⟨b, m * 2, none⟩ (.int .i64 (Z (f i)))).setCell ⟨b, m * 2 + 1, none⟩ (.int .i64 (f i))) hb b cap Z n m S (swp f i m) := by
  have hn2 : NewOb w.heap.size (some b) (some b) := Or.inl rfl
  refine ⟨dnOk_step h.dn hm hn hi hg, injN_swp (by omega) hn h.inj, fun y => by rw [inN_swp (by omega) hn, h.mem], ?_, h.row.swap (by omega), (((h.fr.setCell hn2 _).setCell hn2 _).setCell hn2 _).setCell hn2 _, h.cp, h.hb⟩
  have hne : hb ≠ b := by have := h.hb; omega
  rw [Below.heap_setCell _ _ _ _ (by simpa using hne), Below.heap_setCell _ _ _ _ (by simpa using hne), Below.heap_setCell _ _ _ _ (by simpa using hne), Below.heap_setCell _ _ _ _ (by simpa using hne), h.box]

/-- the highest of i and those of its places that lie below k -/
structure Bst (Z : Nat → Int) (f : Nat → Nat) (n i k m : Nat) : Prop where
  lo : 2 * i + 1 ≤ k
  hi : k ≤ 2 * i + 3
  is : m = i ∨ (2 * i + 1 ≤ m ∧ m < k ∧ m < n ∧ hiB Z (f m) (f i) = true)
  top : ∀ j, 2 * i + 1 ≤ j → j < k → j < n → hiB Z (f j) (f m) = false
theorem Bst.start (Z : Nat → Int) (f : Nat → Nat) (n i : Nat) : Bst Z f n i (2 * i + 1) i := ⟨Nat.le_refl _, by omega, Or.inl rfl, fun j h1 h2 => by omega⟩
theorem Bst.yes {Z : Nat → Int} {f : Nat → Nat} {n i k m : Nat} (h : Bst Z f n i k m) (hk : k ≤ 2 * i + 2) (hn : k < n) (ht : hiB Z (f k) (f m) = true) : Bst Z f n i (k + 1) k := by
  refine ⟨by have := h.lo; omega, by omega, Or.inr ⟨h.lo, by omega, hn, ?_⟩, fun j h1 h2 h3 => ?_⟩
  · rcases h.is with e | ⟨_, _, _, e⟩
    · rw [← e]; exact ht
    · exact hiB_trans ht e
  · by_cases e : j = k
    · subst e; exact hiB_irr _ _
    · exact hiB_ntrans (h.top j h1 (by omega) h3) (hiB_asymm ht)
theorem Bst.no {Z : Nat → Int} {f : Nat → Nat} {n i k m : Nat} (h : Bst Z f n i k m) (hk : k ≤ 2 * i + 2) (ht : hiB Z (f k) (f m) = false) : Bst Z f n i (k + 1) m := by
  refine ⟨by have := h.lo; omega, by omega, ?_, fun j h1 h2 h3 => ?_⟩
  · rcases h.is with e | ⟨e1, e2, e3, e⟩
    · exact Or.inl e
    · exact Or.inr ⟨e1, by omega, e3, e⟩
  · by_cases e : j = k
    · subst e; exact ht
    · exact h.top j h1 (by omega) h3
theorem Bst.all {Z : Nat → Int} {f : Nat → Nat} {n i k m : Nat} (h : Bst Z f n i k m) (hk : ¬ k ≤ 2 * i + 2 ∨ ¬ k < n) : ∀ j, (j = 2 * i + 1 ∨ j = 2 * i + 2) → j < n → hiB Z (f j) (f m) = false := fun j hj hn => h.top j (by omega) (by omega) hn

set_option maxHeartbeats 8000000 in
set_option maxRecDepth 100000 in
theorem settle_any (hb b cap : Nat) (Z : Nat → Int) (f : Nat → Nat) (n : Nat) (S : Nat → Prop) (w : World) (h : DnI w w hb b cap Z n 0 S f) (hn : n ≤ 1000) :
    Calls Try.prog 77 #[.pointer (some ⟨hb, 0, none⟩)] w (fun e w' => (∃ v, e = .returned v) ∧ StPost hb b Z n S w w') := by
  have H := Lib.hid h
  clear h
  go_enter Try.func77, Try.ntmps77
  go_wp2
  go_loopw [2] (fun s wr => ∃ (i : Nat) (f' : Nat → Nat), s = .int .i64 i ∧ i ≤ n ∧ DnI w wr hb b cap Z n i S f') (fun s _ => n - (intOf s).toNat)
  case atStart => exact ⟨0, f, rfl, Nat.zero_le _, H.out⟩
  case round =>
    obtain ⟨i, f', rfl, hi, dni⟩ := hrel
    clear H f
    have HI := Lib.hid dni
    clear dni
    go_wp2
    obtain ⟨wo, rfl⟩ : ∃ wo : World, wo = wr := ⟨_, rfl⟩
    go_loopw [3, 4] (fun s3 s4 wr => ∃ (m k : Nat), s3 = .int .i64 m ∧ s4 = .int .i64 k ∧ Bst Z f' n i k m ∧ DnI w wr hb b cap Z n i S f') (fun _ s4 _ => 2 * i + 3 - (intOf s4).toNat)
    case atStart => exact ⟨i, 2 * i + 1, rfl, by go_num, Bst.start _ _ _ _, HI.out⟩
    case round =>
      clear HI
      obtain ⟨m, k, rfl, rfl, bst, dni⟩ := hrel
      have HD := Lib.hid dni
      have HBS := Lib.hid bst
      have hk1 := bst.lo
      have hk2 := bst.hi
      have c4 := one_cell dni.box
      obtain ⟨hnc, hcm⟩ := dni.cp
      have hcm' : cap ≤ 9223372036854775807 := by unfold maxLen at hcm; omega
      have hmk : m < k := by
        rcases bst.is with e | ⟨_, e, _⟩ <;> omega
      by_cases hin : k ≤ 2 * i + 2 ∧ k < n
      · obtain ⟨h1, h2⟩ := hin
        have h1' : (k : Int) ≤ 2 * (i : Int) + 2 := by omega
        have h2' : (k : Int) < n := by omega
        have hm' : (m : Int) < n := by omega
        obtain ⟨a1, a2, a3, a4⟩ := dni.row.at hnc h2
        obtain ⟨b1, b2, b3, b4⟩ := dni.row.at (k := m) hnc (by omega)
        have HAB := Lib.hid (fun U => show Calls Try.prog 72 #[.agg #[.int .i64 (Z (f' k)), .int .i64 (f' k)], .agg #[.int .i64 (Z (f' m)), .int .i64 (f' m)]] U (BlPost (hiB Z (f' k) (f' m)) U) from above_any _ _ _ _ U)
        obtain ⟨t, et⟩ : ∃ t, hiB Z (f' k) (f' m) = t := ⟨_, rfl⟩
        rw [et] at HAB
        have BY := Lib.hid (fun (e : t = true) => bst.yes h1 h2 (et.trans e))
        have BN := Lib.hid (fun (e : t = false) => bst.no h1 (et.trans e))
        obtain ⟨zi, ezi⟩ : ∃ z, Z (f' k) = z := ⟨_, rfl⟩
        obtain ⟨zu, ezu⟩ : ∃ z, Z (f' m) = z := ⟨_, rfl⟩
        rw [ezi] at a1 HAB
        rw [ezu] at b1 HAB
        obtain ⟨p, ep⟩ : ∃ z, f' k = z := ⟨_, rfl⟩
        obtain ⟨q, eq⟩ : ∃ z, f' m = z := ⟨_, rfl⟩
        rw [ep] at a2 HAB
        rw [eq] at b2 HAB
        clear et ezi ezu ep eq a3 a4 b3 b4 hcm dni bst
        have hm := Try.methodAbove
        go_wp2_with fail
        go_still_tail 15, (by kernel_rfl)
        change wpList _ _ _ _ _ wr.drew
        go_wp2_with fail
        refine (HAB.out _).mono ?_
        rintro e w2 ⟨rfl, hb2⟩
        have P2 := Lib.hid (HD.out.below hb2.undrew)
        clear a1 a2 b1 b2 c4 hb2 hm
        cases t
        case false =>
          go_wp2
          go_roundw
          case rel => exact ⟨m, k + 1, rfl, by go_num, BN.out (by trivial), P2.out⟩
          case measure => simp [intOf]; omega
        case true =>
          go_wp2
          go_roundw
          case rel => exact ⟨k, k + 1, rfl, by go_num, BY.out (by trivial), P2.out⟩
          case measure => simp [intOf]; omega
      · have hcase : (¬ (k : Int) ≤ 2 * (i : Int) + 2) ∨ ((k : Int) ≤ 2 * (i : Int) + 2 ∧ ¬ (k : Int) < n) := by omega
        have HALL := Lib.hid (bst.all (by omega))
        have HIS := Lib.hid bst.is
        clear bst
        by_cases hmi : m = i
        · subst hmi
          have HDN := Lib.hid (dni.done HALL.out)
          clear dni hcm
          rcases hcase with h1 | ⟨h1, h2⟩
          · go_wp2
            first | go_end0 | refine bodyPost_ret (results_none rfl _ _ _) rfl ?_
            exact ⟨⟨_, rfl⟩, HDN.out⟩
          · go_wp2
            first | go_end0 | refine bodyPost_ret (results_none rfl _ _ _) rfl ?_
            exact ⟨⟨_, rfl⟩, HDN.out⟩
        · have hmi' : ((m : Int) == (i : Int)) = false := by rw [beq_eq_false_iff_ne]; omega
          obtain ⟨q1, q2, q3, q4⟩ : 2 * i + 1 ≤ m ∧ m < k ∧ m < n ∧ hiB Z (f' m) (f' i) = true := HIS.out.resolve_left hmi
          have PSW := Lib.hid (fun k => (dni.drewN k).swap (m := m) (by omega) q3 q4 HALL.out)
          obtain ⟨a1, a2, a3, a4⟩ := dni.row.at (k := i) hnc (by omega)
          obtain ⟨b1, b2, b3, b4⟩ := dni.row.at (k := m) hnc q3
          have hm' : (m : Int) < n := by omega
          have hi' : (i : Int) < n := by omega
          obtain ⟨zi, ezi⟩ : ∃ z, Z (f' i) = z := ⟨_, rfl⟩
          obtain ⟨zu, ezu⟩ : ∃ z, Z (f' m) = z := ⟨_, rfl⟩
          rw [ezi] at a1 PSW
          rw [ezu] at b1 PSW
          obtain ⟨p, ep⟩ : ∃ z, f' i = z := ⟨_, rfl⟩
          obtain ⟨q, eq⟩ : ∃ z, f' m = z := ⟨_, rfl⟩
          rw [ep] at a2 PSW
          rw [eq] at b2 PSW
          clear ezi ezu ep eq dni hcm q4 hmi
          rcases hcase with h1 | ⟨h1, h2⟩
          · go_wp2_with fail
            go_region
            go_wp2
            go_roundw
            case rel => exact ⟨m, _, by go_num, by omega, PSW.out 1⟩
            case measure => simp [intOf]; omega
          · go_wp2_with fail
            go_region
            go_wp2
            go_roundw
            case rel => exact ⟨m, _, by go_num, by omega, PSW.out 1⟩
            case measure => simp [intOf]; omega

end Go.Proofs.Ytlbdglhippapnab
