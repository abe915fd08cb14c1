/- LabelsDrop: the program and the model. -/
import Derived.Test.YthelaffjpmcdbaaLd
namespace Go.Proofs.Ythelaffjpmcdbaa
open Go.RowKit
set_option linter.unusedVariables false

theorem st_append_any {P : Program} {w : World} {ops : Array Oper} {o : Oper} {a : Act} {K : Act → World → Prop} {Q : Exit → Act → World → Prop} {E : Prop} (hgd : o.guard = none) (s x : Operand) (t : TypeId)
    (ho : o.op = .call { callee := .builtin .append, args := #[s, x], argTypes := #[t, t] })
    (base : Nat) (e : TypeId) (i : TypeInfo) (z : Value) (size bytes : Nat) (ht : P.underlying t = some (.slice e)) (hi : P.info? e = some i) (hz : i.zero = some z)
    (hsize : i.size = size) (hby : i.bytes = bytes) (hzs : z.cells.size = size) (hsz : 0 < size)
    (v : Value) (n : Nat) (xs : List Value) (hs : a.eval s = v) (hown : w.ownsRow base e size v n xs)
    (ad : Addr) (m c : Nat) (news : List Value) (hx : a.eval x = .slice (some ad) m c) (hl : news.length = m * size) (hnews : ∀ j u, news[j]? = some u → w.cell? (ad.add j) = some u) (h1 : ∀ u ∈ news, u.oneCell' = true)
    (h63 : n + m ≤ maxLen) (hbytes : (n + m) * bytes ≤ 140737488355328) (hbase : base ≤ w.heap.size)
    (h : ∀ v' w', w'.ownsRow base e size v' (n + m) (xs ++ news) → w.grownBy w' v.ownBlock → (v' = .slice none 0 0 ↔ v = .slice none 0 0 ∧ m = 0) → K (a.put o.dst v') w') :
    if Region.wanted o (yielded ops a.tmps) = true then Oper.wp P o a w K Q else E := by
  have hw : Region.wanted o (yielded ops a.tmps) = true := by simp [Region.wanted, hgd]
  rw [if_pos hw]
  exact wp_append_own w s x t ho base e i z size bytes ht hi hz hsize hby hzs hsz v n xs hs hown ad m c news hx hl hnews h1 h63 hbytes hbase h

theorem ld_cells2 {w : World} {b : Nat} {x y : Value} {t : TypeId} (h : w.heap[b]? = some (.cells #[x, y] t (0, 0))) : w.cell? ⟨b, 0, none⟩ = some x ∧ w.cell? ⟨b, 1, none⟩ = some y :=
  ⟨by simp [World.cell?, h], by simp [World.cell?, h]⟩


set_option maxRecDepth 20000 in
set_option maxHeartbeats 16000000 in
theorem implLabelsDrop_yes (v : Value) (lo hi n : Nat) (Z : Nat → Int) (k : Nat) (w : World) (hv : RdT lo hi w v n Z) (hh : hi ≤ w.heap.size) (hok : LsOk n Z) (hk : k < n) :
    Calls Try.prog 29 #[v, .int .i64 k] w (TgPost true (n - 1) (dzF Z k) w) := by
  have HLV := Lib.hid (implLabelsValid_any v lo hi n Z w hv hh (by have := hok.1; omega))
  rw [lsB_yes hok] at HLV
  have hn6 := hok.1
  obtain ⟨b, off, cap, rfl, hnc, hcm, hbl, hbh, h6⟩ := hv.open (by omega)
  have H6 := Lib.hid (fun (W : World) (hb : Below w.heap.size w W) (j : Nat) (hj : j < n * 4) => (hb.cell (p := ⟨b, off + j, none⟩) (by show b < _; omega)).trans (h6 j hj))
  have HRG := Lib.hid (dz_range hok k)
  have HDZ := Lib.hid (dz_cat Z n k hk)
  have hk' : (k : Int) < n := by omega
  have hkm : (k : Int) ≤ n := by omega
  have hkm1 : (k : Int) + 1 ≤ n := by omega
  have hkc : (k : Int) ≤ cap := by omega
  have hk0 : ¬ ((k : Int) < 0) := by omega
  have hk00 : (0 : Int) ≤ k := by omega
  have hk01 : (0 : Int) ≤ (k : Int) + 1 := by omega
  have hmc : (n : Int) ≤ cap := by omega
  have hwk : IntKind.i64.wrap ((k : Int) + 1) = (k : Int) + 1 := IntWalk.i64_in _ (by omega)
  have hkn : ((k : Int) + 1).toNat = k + 1 := by omega
  have hge : ¬ ((k : Int) ≥ n) := by omega
  clear hv hok h6
  go_enter Try.func29, Try.ntmps29
  go_wp2_with fail
  refine HLV.out.mono ?_
  rintro e w1 ⟨rfl, hb1⟩
  have HB1 := Lib.hid hb1
  have hs1 := hb1.size
  clear hb1
  by_cases hck : cap = k + 1
  · have hnk : n - (k + 1) = 0 := by omega
    have hkc2 : (k : Int) ≤ (k : Int) + 1 := by omega
    have hkc3 : (k : Int) ≤ ((k + 1 : Nat) : Int) := by omega
    have hnc3 : (n : Int) ≤ (k : Int) + 1 := by omega
    have hnk3 : n = k + 1 := by omega
    subst hnk3
    subst hck
    have hnk : k + 1 - (k + 1) = 0 := by omega
    rw [hnk] at HDZ
    have s00 : w1.heap.size ≤ w1.drew.heap.size := Nat.le_refl _
    have HBW := Lib.hid (show Below w1.heap.size w1 (w1.alloc (.cells #[.slice (some ⟨b, off, none⟩) k (k + 1), .slice (some ⟨b, off, none⟩) 0 0] 23)).drew from below_drewN ((Below.refl _ _).alloc (Nat.le_refl _) _) 1)
    have HNW := Lib.hid (show ((w1.alloc (.cells #[.slice (some ⟨b, off, none⟩) k (k + 1), .slice (some ⟨b, off, none⟩) 0 0] 23)).drew).heap[w1.heap.size]? = some (.cells #[.slice (some ⟨b, off, none⟩) k (k + 1), .slice (some ⟨b, off, none⟩) 0 0] 23 (0, 0)) from heap_alloc_new w1 _)
    have HC := Lib.hid (concatL_any w1.heap.size b off b (off) (k + 1) 0 k 0 Z (fun j => Z ((k + 1) * 4 + j)) (w1.alloc (.cells #[.slice (some ⟨b, off, none⟩) k (k + 1), .slice (some ⟨b, off, none⟩) 0 0] 23)).drew (ld_cells2 HNW.out).1 (ld_cells2 HNW.out).2 (fun j hj => H6.out _ (HB1.out.trans (HBW.out.mono hs1)) j (by omega)) (fun j hj => by
      omega) (lt_of_block HNW.out) (by have := HBW.out.size; omega) (by have := HBW.out.size; omega) (by omega) (by omega))
    go_wp2_with fail
    go_region_held3 (fun w' => w1.heap.size ≤ w'.heap.size) (first | go_keep | exact s00 | exact s01.out | (simp; omega))
      (first | (go_at_call 64; (with_reducible refine HC.out.mono ?_); rintro e w2 ⟨v', rfl, how, hb2⟩; have HOW := Lib.hid how; have HB2 := Lib.hid (HB1.out.trans ((HBW.out.trans (hb2.mono HBW.out.size)).mono hs1)); have s01 := Lib.hid (show w1.heap.size ≤ w2.heap.size from Nat.le_trans HBW.out.size hb2.size); have hzz := HBW.out.size; clear how hb2))
    all_goals go_wp2
    all_goals go_ret2
    all_goals (
      have hl : Labs w.heap.size w2 v' ((k + 1) - 1) (dzF Z k) := by
        have h := ownsRow_base (base' := w.heap.size) HOW.out (by omega)
        unfold Labs
        rw [← HDZ.out]
        rw [show k + 0 = (k + 1) - 1 by omega] at h
        exact h
      have ho := hl.owT HRG.out
      obtain ⟨sa, sc, hs⟩ := ho.rd.shape
      exact ⟨_, rfl, ⟨_, _, _, hs⟩, ho, HB2.out⟩)
  · skip
    have s00 : w1.heap.size ≤ w1.drew.heap.size := Nat.le_refl _
    have HBW := Lib.hid (show Below w1.heap.size w1 (w1.alloc (.cells #[.slice (some ⟨b, off, none⟩) k cap, .slice (some ⟨b, off + (k + 1) * 4, none⟩) (n - (k + 1)) (cap - (k + 1))] 23)).drew from below_drewN ((Below.refl _ _).alloc (Nat.le_refl _) _) 1)
    have HNW := Lib.hid (show ((w1.alloc (.cells #[.slice (some ⟨b, off, none⟩) k cap, .slice (some ⟨b, off + (k + 1) * 4, none⟩) (n - (k + 1)) (cap - (k + 1))] 23)).drew).heap[w1.heap.size]? = some (.cells #[.slice (some ⟨b, off, none⟩) k cap, .slice (some ⟨b, off + (k + 1) * 4, none⟩) (n - (k + 1)) (cap - (k + 1))] 23 (0, 0)) from heap_alloc_new w1 _)
    have HC := Lib.hid (concatL_any w1.heap.size b off b (off + (k + 1) * 4) cap (cap - (k + 1)) k (n - (k + 1)) Z (fun j => Z ((k + 1) * 4 + j)) (w1.alloc (.cells #[.slice (some ⟨b, off, none⟩) k cap, .slice (some ⟨b, off + (k + 1) * 4, none⟩) (n - (k + 1)) (cap - (k + 1))] 23)).drew (ld_cells2 HNW.out).1 (ld_cells2 HNW.out).2 (fun j hj => H6.out _ (HB1.out.trans (HBW.out.mono hs1)) j (by omega)) (fun j hj => by
      have := H6.out _ (HB1.out.trans (HBW.out.mono hs1)) ((k + 1) * 4 + j) (by omega); rwa [← Nat.add_assoc] at this) (lt_of_block HNW.out) (by have := HBW.out.size; omega) (by have := HBW.out.size; omega) (by omega) (by omega))
    go_wp2_with fail
    go_region_held3 (fun w' => w1.heap.size ≤ w'.heap.size) (first | go_keep | exact s00 | exact s01.out | (simp; omega))
      (first | (go_at_call 64; (with_reducible refine HC.out.mono ?_); rintro e w2 ⟨v', rfl, how, hb2⟩; have HOW := Lib.hid how; have HB2 := Lib.hid (HB1.out.trans ((HBW.out.trans (hb2.mono HBW.out.size)).mono hs1)); have s01 := Lib.hid (show w1.heap.size ≤ w2.heap.size from Nat.le_trans HBW.out.size hb2.size); have hzz := HBW.out.size; clear how hb2))
    all_goals go_wp2
    all_goals go_ret2
    all_goals (
      have hl : Labs w.heap.size w2 v' (n - 1) (dzF Z k) := by
        have h := ownsRow_base (base' := w.heap.size) HOW.out (by omega)
        unfold Labs
        rw [← HDZ.out]
        rw [show k + (n - (k + 1)) = n - 1 by omega] at h
        exact h
      have ho := hl.owT HRG.out
      obtain ⟨sa, sc, hs⟩ := ho.rd.shape
      exact ⟨_, rfl, ⟨_, _, _, hs⟩, ho, HB2.out⟩)

set_option maxRecDepth 20000 in
set_option maxHeartbeats 16000000 in
theorem implLabelsDrop_no (v : Value) (lo hi n : Nat) (Z : Nat → Int) (k : Int) (w : World) (hv : RdT lo hi w v n Z) (hh : hi ≤ w.heap.size) (hn : n ≤ 1048576) (h : ¬ DpLs n Z k) :
    Calls Try.prog 29 #[v, .int .i64 k] w (TgPost false 0 (dzF Z k.toNat) w) := by
  have HLV := Lib.hid (implLabelsValid_any v lo hi n Z w hv hh (by omega))
  obtain ⟨av, cv, rfl⟩ := hv.shape
  have fin : ∀ w1 : World, Below w.heap.size w w1 → TgPost false 0 (dzF Z k.toNat) w (.returned (.tuple #[.slice (some ⟨w1.heap.size, 0, none⟩) 0 0, .bool false])) (w1.alloc (.cells #[] 28)) := fun w1 hb => ⟨_, rfl, ⟨_, _, _, rfl⟩, Labs.owT (ownsRow_base (labs_lit w1 (dzF Z k.toNat)) hb.size) (fun j hj => by simp at hj), hb.alloc hb.size _⟩
  have FIN := Lib.hid fin
  clear hv fin
  by_cases hok : LsOk n Z
  case neg =>
    rw [lsB_no hok] at HLV
    clear hok h
    go_enter Try.func29, Try.ntmps29
    go_wp2_with fail
    refine HLV.out.mono ?_
    rintro e w1 ⟨rfl, hb1⟩
    have HB1 := Lib.hid hb1
    clear hb1
    go_wp2
    go_ret2
    exact FIN.out _ HB1.out
  rw [lsB_yes hok] at HLV
  by_cases h0 : k < 0
  · clear hok h
    go_enter Try.func29, Try.ntmps29
    go_wp2_with fail
    refine HLV.out.mono ?_
    rintro e w1 ⟨rfl, hb1⟩
    have HB1 := Lib.hid hb1
    clear hb1
    go_wp2
    go_ret2
    exact FIN.out _ HB1.out
  · have h1 : (n : Int) ≤ k := by
      by_cases h2 : (n : Int) ≤ k
      · exact h2
      · exact absurd ⟨hok, by omega, by omega⟩ h
    clear hok h
    go_enter Try.func29, Try.ntmps29
    go_wp2_with fail
    refine HLV.out.mono ?_
    rintro e w1 ⟨rfl, hb1⟩
    have HB1 := Lib.hid hb1
    clear hb1
    go_wp2
    go_ret2
    exact FIN.out _ HB1.out

theorem implLabelsDrop_any (v : Value) (lo hi n : Nat) (Z : Nat → Int) (k : Int) (w : World) (hv : RdT lo hi w v n Z) (hh : hi ≤ w.heap.size) (hn : n ≤ 1048576) :
    Calls Try.prog 29 #[v, .int .i64 k] w (TgPost (dlB n Z k) (dlN n Z k) (dzF Z k.toNat) w) := by
  unfold dlN
  by_cases h : DpLs n Z k
  · rw [dlB_yes h, if_pos rfl]
    obtain ⟨q, rfl⟩ : ∃ q : Nat, k = q := ⟨k.toNat, by have := h.2.1; omega⟩
    exact implLabelsDrop_yes v lo hi n Z q w hv hh h.1 (by have := h.2.2; omega)
  · rw [dlB_no h]
    exact implLabelsDrop_no v lo hi n Z k w hv hh hn h


set_option maxRecDepth 20000 in
set_option maxHeartbeats 16000000 in
theorem specLabelsDrop_yes (v : Value) (lo hi n : Nat) (Z : Nat → Int) (k : Nat) (w : World) (hv : RdT lo hi w v n Z) (hh : hi ≤ w.heap.size) (hok : LsOk n Z) (hk : k < n) :
    Calls Try.prog 30 #[v, .int .i64 k] w (TsPost true (n - 1) (dzF Z k) w) := by
  have HLV := Lib.hid (specLabelsValid_any v lo hi n Z w hv hh (by have := hok.1; omega))
  rw [lsB_yes hok] at HLV
  obtain ⟨i0, hi0, hz0, hz1, hz2⟩ := info_parts Try.infoLb
  have hn6 := hok.1
  obtain ⟨b, off, cap, rfl, hnc, hcm, hbl, hbh, h6⟩ := hv.open (by omega)
  have H6 := Lib.hid (fun (W : World) (hb : Below w.heap.size w W) (j : Nat) (hj : j < n * 4) => (hb.cell (p := ⟨b, off + j, none⟩) (by show b < _; omega)).trans (h6 j hj))
  have HRG := Lib.hid (dz_range hok k)
  have HDZ := Lib.hid (dz_cat Z n k hk)
  have hk' : (k : Int) < n := by omega
  have hkm : (k : Int) ≤ n := by omega
  have hkm1 : (k : Int) + 1 ≤ n := by omega
  have hkc : (k : Int) ≤ cap := by omega
  have hk0 : ¬ ((k : Int) < 0) := by omega
  have hk00 : (0 : Int) ≤ k := by omega
  have hk01 : (0 : Int) ≤ (k : Int) + 1 := by omega
  have hmc : (n : Int) ≤ cap := by omega
  have hwk : IntKind.i64.wrap ((k : Int) + 1) = (k : Int) + 1 := IntWalk.i64_in _ (by omega)
  have hkn : ((k : Int) + 1).toNat = k + 1 := by omega
  have hge : ¬ ((k : Int) ≥ n) := by omega
  have hle1 : (k : Int) ≤ (n : Int) - 1 := by omega
  clear hv hok h6
  go_enter Try.func30, Try.ntmps30
  go_wp2_with fail
  refine HLV.out.mono ?_
  rintro e w1 ⟨rfl, hb1⟩
  have HB1 := Lib.hid hb1
  have hs1 := hb1.size
  clear hb1
  go_wp2_with fail
  refine (l6In_yes _ _ _ _ hk00 hle1).mono ?_
  rintro e wx ⟨rfl, rfl⟩
  by_cases hck : cap = k + 1
  · have hkc2 : (k : Int) ≤ (k : Int) + 1 := by omega
    have hkc3 : (k : Int) ≤ ((k + 1 : Nat) : Int) := by omega
    have hnk3 : n = k + 1 := by omega
    subst hnk3
    subst hck
    have hnk : k + 1 - (k + 1) = 0 := by omega
    rw [hnk] at HDZ
    have s00 : w1.heap.size ≤ w1.drew.heap.size := Nat.le_refl _
    have HBW := Lib.hid (show Below w1.heap.size w1 (w1.alloc (.cells #[] 28)).drew from below_drewN ((Below.refl _ _).alloc (Nat.le_refl _) _) 1)
    have HL0 := Lib.hid (show ((w1.alloc (.cells #[] 28)).drew).ownsRow w1.heap.size 28 4 (.slice (some ⟨w1.heap.size, 0, none⟩) 0 0) 0 [] from labs_lit w1 Z)
    have HN1 := Lib.hid (ld_news (W := (w1.alloc (.cells #[] 28)).drew) (b := b) (off := off) (n := k * 4) (F := Z) (fun j hj => H6.out _ (HB1.out.trans (HBW.out.mono hs1)) j (by omega)))
    have HN2 := Lib.hid (fun (W : World) (hb : Below w.heap.size w W) => ld_news (W := W) (b := b) (off := off) (n := 0 * 4) (F := fun j => Z ((k + 1) * 4 + j)) (fun j hj => by
      omega))
    go_wp2_with fail
    go_region_held3 (fun w' => w1.heap.size ≤ w'.heap.size) (first | go_keep | exact s00 | exact s01.out | exact s02.out | (simp; omega))
      (first
        | (refine st_append_any (by rfl) _ _ _ (by rfl) w1.heap.size 28 i0 _ 4 32 Try.underlying23 hi0 hz0 hz1 hz2 rfl (by omega) v1' k (nsV (fnL Z (k * 4))) (by rfl) HO1.out ⟨b, off, none⟩ 0 _ (nsV (fnL (fun j => Z ((k + 1) * 4 + j)) (0 * 4))) (by rfl) (labs_len _ _) (HN2.out _ HB2.out) (ld_one _ _) (by unfold maxLen; omega) (by omega) s01.out ?_; intro v2' w3 hown3 hg3 _; have HO2 := Lib.hid hown3; have HB3 := Lib.hid (HB2.out.trans ((Below.refl w.heap.size w2).grown hg3 HB2.out.size (fun q hq => by have := (HO1.out.lt q hq).1; omega))); have s02 := Lib.hid (Nat.le_trans s01.out hg3.size); clear hown3 hg3)
        | (refine st_append_any (by rfl) _ _ _ (by rfl) w1.heap.size 28 i0 _ 4 32 Try.underlying23 hi0 hz0 hz1 hz2 rfl (by omega) (.slice (some ⟨w1.heap.size, 0, none⟩) 0 0) 0 [] (by rfl) HL0.out ⟨b, off, none⟩ k _ (nsV (fnL Z (k * 4))) (by rfl) (labs_len _ _) HN1.out (ld_one _ _) (by unfold maxLen; omega) (by omega) HBW.out.size ?_; intro v1' w2 hown2 hg2 _; have HO1 := Lib.hid (show w2.ownsRow w1.heap.size 28 4 v1' k (nsV (fnL Z (k * 4))) by simpa using hown2); have HB2 := Lib.hid (HB1.out.trans (((HBW.out.mono hs1)).grown hg2 (by have := HBW.out.size; omega) (fun q hq => by have := (HL0.out.lt q hq).1; omega))); have s01 := Lib.hid (Nat.le_trans HBW.out.size hg2.size); clear hown2 hg2))
    all_goals go_wp2
    all_goals go_ret2
    all_goals (
      have hl : Labs w.heap.size w3 v2' ((k + 1) - 1) (dzF Z k) := by
        have h := ownsRow_base (base' := w.heap.size) HO2.out (by omega)
        unfold Labs
        rw [← HDZ.out]
        rw [show k + 0 = (k + 1) - 1 by omega] at h
        exact h
      have ho := hl.owT HRG.out
      obtain ⟨sa, sc, hs⟩ := ho.rd.shape
      exact ⟨_, rfl, ⟨_, _, _, hs⟩, ho.rd, HB3.out⟩)
  · skip
    have s00 : w1.heap.size ≤ w1.drew.heap.size := Nat.le_refl _
    have HBW := Lib.hid (show Below w1.heap.size w1 (w1.alloc (.cells #[] 28)).drew from below_drewN ((Below.refl _ _).alloc (Nat.le_refl _) _) 1)
    have HL0 := Lib.hid (show ((w1.alloc (.cells #[] 28)).drew).ownsRow w1.heap.size 28 4 (.slice (some ⟨w1.heap.size, 0, none⟩) 0 0) 0 [] from labs_lit w1 Z)
    have HN1 := Lib.hid (ld_news (W := (w1.alloc (.cells #[] 28)).drew) (b := b) (off := off) (n := k * 4) (F := Z) (fun j hj => H6.out _ (HB1.out.trans (HBW.out.mono hs1)) j (by omega)))
    have HN2 := Lib.hid (fun (W : World) (hb : Below w.heap.size w W) => ld_news (W := W) (b := b) (off := off + (k + 1) * 4) (n := (n - (k + 1)) * 4) (F := fun j => Z ((k + 1) * 4 + j)) (fun j hj => by
      have := H6.out W hb ((k + 1) * 4 + j) (by omega); rwa [← Nat.add_assoc] at this))
    go_wp2_with fail
    go_region_held3 (fun w' => w1.heap.size ≤ w'.heap.size) (first | go_keep | exact s00 | exact s01.out | exact s02.out | (simp; omega))
      (first
        | (refine st_append_any (by rfl) _ _ _ (by rfl) w1.heap.size 28 i0 _ 4 32 Try.underlying23 hi0 hz0 hz1 hz2 rfl (by omega) v1' k (nsV (fnL Z (k * 4))) (by rfl) HO1.out ⟨b, off + (k + 1) * 4, none⟩ (n - (k + 1)) _ (nsV (fnL (fun j => Z ((k + 1) * 4 + j)) ((n - (k + 1)) * 4))) (by rfl) (labs_len _ _) (HN2.out _ HB2.out) (ld_one _ _) (by unfold maxLen; omega) (by omega) s01.out ?_; intro v2' w3 hown3 hg3 _; have HO2 := Lib.hid hown3; have HB3 := Lib.hid (HB2.out.trans ((Below.refl w.heap.size w2).grown hg3 HB2.out.size (fun q hq => by have := (HO1.out.lt q hq).1; omega))); have s02 := Lib.hid (Nat.le_trans s01.out hg3.size); clear hown3 hg3)
        | (refine st_append_any (by rfl) _ _ _ (by rfl) w1.heap.size 28 i0 _ 4 32 Try.underlying23 hi0 hz0 hz1 hz2 rfl (by omega) (.slice (some ⟨w1.heap.size, 0, none⟩) 0 0) 0 [] (by rfl) HL0.out ⟨b, off, none⟩ k _ (nsV (fnL Z (k * 4))) (by rfl) (labs_len _ _) HN1.out (ld_one _ _) (by unfold maxLen; omega) (by omega) HBW.out.size ?_; intro v1' w2 hown2 hg2 _; have HO1 := Lib.hid (show w2.ownsRow w1.heap.size 28 4 v1' k (nsV (fnL Z (k * 4))) by simpa using hown2); have HB2 := Lib.hid (HB1.out.trans (((HBW.out.mono hs1)).grown hg2 (by have := HBW.out.size; omega) (fun q hq => by have := (HL0.out.lt q hq).1; omega))); have s01 := Lib.hid (Nat.le_trans HBW.out.size hg2.size); clear hown2 hg2))
    all_goals go_wp2
    all_goals go_ret2
    all_goals (
      have hl : Labs w.heap.size w3 v2' (n - 1) (dzF Z k) := by
        have h := ownsRow_base (base' := w.heap.size) HO2.out (by omega)
        unfold Labs
        rw [← HDZ.out]
        rw [show k + (n - (k + 1)) = n - 1 by omega] at h
        exact h
      have ho := hl.owT HRG.out
      obtain ⟨sa, sc, hs⟩ := ho.rd.shape
      exact ⟨_, rfl, ⟨_, _, _, hs⟩, ho.rd, HB3.out⟩)

set_option maxRecDepth 20000 in
set_option maxHeartbeats 16000000 in
theorem specLabelsDrop_no (v : Value) (lo hi n : Nat) (Z : Nat → Int) (k : Int) (w : World) (hv : RdT lo hi w v n Z) (hh : hi ≤ w.heap.size) (hn : n ≤ 1048576) (h : ¬ DpLs n Z k) :
    Calls Try.prog 30 #[v, .int .i64 k] w (TsPost false 0 (dzF Z k.toNat) w) := by
  have HLV := Lib.hid (specLabelsValid_any v lo hi n Z w hv hh hn)
  obtain ⟨av, cv, rfl⟩ := hv.shape
  have fin : ∀ w1 : World, Below w.heap.size w w1 → TsPost false 0 (dzF Z k.toNat) w (.returned (.tuple #[.slice (some ⟨w1.heap.size, 0, none⟩) 0 0, .bool false])) (w1.alloc (.cells #[] 28)) := fun w1 hb => ⟨_, rfl, ⟨_, _, _, rfl⟩, (Labs.owT (ownsRow_base (labs_lit w1 (dzF Z k.toNat)) hb.size) (fun j hj => by simp at hj)).rd, hb.alloc hb.size _⟩
  have FIN := Lib.hid fin
  clear hv fin
  by_cases hok : LsOk n Z
  case neg =>
    rw [lsB_no hok] at HLV
    clear hok h
    go_enter Try.func30, Try.ntmps30
    go_wp2_with fail
    refine HLV.out.mono ?_
    rintro e w1 ⟨rfl, hb1⟩
    have HB1 := Lib.hid hb1
    clear hb1
    go_wp2
    go_ret2
    exact FIN.out _ HB1.out
  rw [lsB_yes hok] at HLV
  have HK := Lib.hid (show k < 0 ∨ (n : Int) - 1 < k from by
    by_cases h0 : 0 ≤ k ∧ k < n
    · exact absurd ⟨hok, h0⟩ h
    · omega)
  have hn6 := hok.1
  clear hok h
  go_enter Try.func30, Try.ntmps30
  go_wp2_with fail
  refine HLV.out.mono ?_
  rintro e w1 ⟨rfl, hb1⟩
  have HB1 := Lib.hid hb1
  clear hb1
  go_wp2_with fail
  refine (l6In_no _ _ _ _ HK.out).mono ?_
  rintro e wx ⟨rfl, rfl⟩
  go_wp2
  go_ret2
  exact FIN.out _ HB1.out

theorem specLabelsDrop_any (v : Value) (lo hi n : Nat) (Z : Nat → Int) (k : Int) (w : World) (hv : RdT lo hi w v n Z) (hh : hi ≤ w.heap.size) (hn : n ≤ 1048576) :
    Calls Try.prog 30 #[v, .int .i64 k] w (TsPost (dlB n Z k) (dlN n Z k) (dzF Z k.toNat) w) := by
  unfold dlN
  by_cases h : DpLs n Z k
  · rw [dlB_yes h, if_pos rfl]
    obtain ⟨q, rfl⟩ : ∃ q : Nat, k = q := ⟨k.toNat, by have := h.2.1; omega⟩
    exact specLabelsDrop_yes v lo hi n Z q w hv hh h.1 (by have := h.2.2; omega)
  · rw [dlB_no h]
    exact specLabelsDrop_no v lo hi n Z k w hv hh hn h

end Go.Proofs.Ythelaffjpmcdbaa
