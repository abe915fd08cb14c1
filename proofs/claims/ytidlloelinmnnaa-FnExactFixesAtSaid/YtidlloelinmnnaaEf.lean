/- From relief to relief, in the program; FixesMake, FixesShort, EditionFar. -/
import Derived.Test.YtidlloelinmnnaaEd
import Derived.Test.YtidlloelinmnnaaEh
namespace Go.Proofs.Ytidlloelinmnnaa
open Go.RowKit Go.Shelf
set_option linter.unusedVariables false
set_option linter.unusedSimpArgs false
attribute [local go_sem] Oper.semAt_some

set_option maxRecDepth 100000 in
set_option maxHeartbeats 4000000 in
theorem bki_seq (n : Nat) (hn : 1 ≤ n) (Bm b off m cap : Nat) (Y : Nat → Int) (w : World) (hBm : Bm < w.heap.size) (hbl : b < w.heap.size) (hm : m ≤ 1000) (hmc : m ≤ cap)
    (hbox : w.cell? ⟨Bm, 0, none⟩ = some (.slice (some ⟨b, off, none⟩) m cap)) (hc : ∀ i, i < m → w.cell? ⟨b, off + i, none⟩ = some (.int .i64 (Y i))) :
    SeqB Fence.wide n Try.prog 129 #[.pointer (some ⟨Bm, 0, none⟩)] (fun x : Nat => #[Value.int .i64 x, .int .i64 (Y x)]) (Kc Bm b) (fun _ _ => False) (fun ys => ys = dnK m m) (fun l => l <+: dnK m m) w := by
  intro l J W hW hJo _ hY h0
  have HBX := Lib.hid ((hW.cell (p := ⟨Bm, 0, none⟩) hBm).trans hbox)
  have HC := Lib.hid (fun i (hi : i < m) => (hW.cell (p := ⟨b, off + i, none⟩) hbl).trans (hc i hi))
  have HJ0 := Lib.hid h0
  have HY := Lib.hid hY
  clear hY h0 hJo hc hbox hW
  refine callsIn_of_wp Try.func129 rfl trivial ?_ rfl
  simp only [Try.ntmps129, List.size_toArray, List.length_cons, List.length_nil, Nat.reduceAdd, Nat.reduceSub, Array.replicate_succ, Array.replicate_zero, List.push_toArray, List.append_toArray, List.nil_append, List.cons_append]
  have hbox := HBX.out
  gi_wp2
  clear hbox
  gi_loopw [3] (fun s wr => ∃ i : Nat, i ≤ m ∧ s = .int .i64 ((i : Int) - 1) ∧ J (dnK m (m - i)) wr ∧ Kc Bm b W wr) (fun s _ => (intOf s + 1).toNat)
  case atStart => exact ⟨m, by omega, by go_num, by rw [Nat.sub_self]; exact HJ0.out, Kc.refl _ _ _⟩
  case round =>
    obtain ⟨i', hi', rfl, hJ, hb⟩ := hrel
    cases i' with
    | zero =>
      have HJ1 := Lib.hid hJ
      clear hJ hb
      gi_wp2
      go_end0
      exact ⟨⟨_, rfl⟩, _, rfl, HJ1.out⟩
    | succ i =>
      rw [show (((i + 1 : Nat) : Int) - 1) = (i : Int) by omega]
      have hi0 : i < m := by omega
      have hi0' : (i : Int) < m := by omega
      have c0 := (hb.cellA 0).trans HBX.out
      have c1 := (hb.cellB (off + i)).trans (HC.out i hi0)
      have HK := Lib.hid hb
      have hS : dnK m (m - i) = dnK m (m - (i + 1)) ++ [i] := by rw [show m - i = (m - (i + 1)) + 1 by omega]; show _ ++ [m - 1 - (m - (i + 1))] = _; rw [show m - 1 - (m - (i + 1)) = i by omega]
      have HS := Lib.hid hS
      obtain ⟨fn, tmps, assign, body, hy, hR⟩ := HY.out (dnK m (m - (i + 1))) i wr hJ (by rw [← hS]; exact dnK_pre m (m - i) m (by omega))
      obtain ⟨y, ey⟩ : ∃ y, Y i = y := ⟨_, rfl⟩
      rw [ey] at c1 hy
      clear hJ hb ey hS
      gi_wp2
      refine hR.mono ?_
      rintro e W' ⟨rfl, hJ', hk'⟩
      have HJ' := Lib.hid hJ'
      have HK' := Lib.hid (HK.out.trans hk')
      clear hJ' hk' hy hR
      gi_wp2
      go_roundw
      case rel => exact ⟨i, by omega, by go_num, by rw [HS.out]; exact HJ'.out, HK'.out⟩
      case measure => simp [intOf]
theorem dnK_lt {m x : Nat} : ∀ t, x ∈ dnK m t → t ≤ m → x < m
  | 0, h, _ => by cases h
  | t + 1, h, ht => by
    rcases List.mem_append.1 h with h | h
    · exact dnK_lt t h (by omega)
    · rw [List.mem_singleton] at h; omega

/-- the corrections at the visited indexes, the last first -/
def mkP (C : Nat) (Z Y : Nat → Int) (pre : List Nat) : List Fx := (pre.map (mk1 C Z Y)).reverse.flatten
theorem mkP_snoc (C : Nat) (Z Y : Nat → Int) (pre : List Nat) (x : Nat) : mkP C Z Y (pre ++ [x]) = mk1 C Z Y x ++ mkP C Z Y pre := by simp [mkP]
theorem mkP_all (C : Nat) (Z Y : Nat → Int) (m : Nat) : ∀ t, t ≤ m → mkP C Z Y (dnK m t) = mkD C Z Y (m - t) t := by
  intro t
  induction t with
  | zero => intro _; rfl
  | succ t ih =>
    intro h
    have h1 : dnK m (t + 1) = dnK m t ++ [m - 1 - t] := rfl
    rw [h1, mkP_snoc, ih (by omega)]
    show _ = mk1 C Z Y (m - (t + 1)) ++ mkD C Z Y (m - (t + 1) + 1) t
    rw [show m - 1 - t = m - (t + 1) by omega, show m - (t + 1) + 1 = m - t by omega]

set_option maxRecDepth 100000 in
set_option maxHeartbeats 8000000 in
theorem correctionsTo_any (R C n1 g1 c1 R2 C2 g2 c2 : Nat) (Z Y : Nat → Int) (w : World) (h1 : Rv w R C n1 g1 c1 Z) (h2 : Rv w R2 C2 n1 g2 c2 Y) (hC : 1 ≤ C) (hn : n1 ≤ 49) :
    Calls Try.prog 86 #[.agg #[.int .i64 R, .int .i64 C, .slice (some ⟨g1, 0, none⟩) n1 c1], .agg #[.int .i64 R2, .int .i64 C2, .slice (some ⟨g2, 0, none⟩) n1 c2]] w (fun e w' => e = .returned (ckV (mkD C Z Y 0 n1)) ∧ Below w.heap.size w w') := by
  have H1 := Lib.hid h1
  have H2 := Lib.hid h2
  have hg1 := h1.lt
  have hg2 := h2.lt
  have hle1 := h1.le
  have hle2 := h2.le
  clear h1 h2
  refine (callsIn_wide (n := 5)).1 ?_
  refine callsIn_of_wp_marks Try.func86 rfl trivial ?_ rfl
  simp only [Try.ntmps86, List.size_toArray, List.length_cons, List.length_nil, Nat.reduceAdd, Nat.reduceSub, Array.replicate_succ, Array.replicate_zero, List.push_toArray, List.append_toArray, List.nil_append, List.cons_append]
  obtain ⟨W3, hW3, hs3, k0, k1, k2, kb⟩ := alloc3_all w (.cells #[.int .i64 R, .int .i64 C, .slice (some ⟨g1, 0, none⟩) n1 c1] 68) (.cells #[.int .i64 R2, .int .i64 C2, .slice (some ⟨g2, 0, none⟩) n1 c2] 68) (.cells #[.iface 93 (.agg #[])] 70)
  gi_wp2_with (refine ⟨trivial, ?_⟩; gi_at_call 108; refine (callsIn_wide.2 (bk_any _ _ _ _)).mono ?_; rintro e w' ⟨rfl, rfl⟩)
  rw [← hW3]
  have kb4 : Below W3.heap.size W3 (W3.alloc (.cells #[.slice (some ⟨g2, 0, none⟩) n1 c2] 26)) := (Below.refl _ _).alloc (Nat.le_refl _) _
  have hs4 : (W3.alloc (.cells #[.slice (some ⟨g2, 0, none⟩) n1 c2] 26)).heap.size = w.heap.size + 4 := by rw [World.size_alloc]; omega
  have k3 : (W3.alloc (.cells #[.slice (some ⟨g2, 0, none⟩) n1 c2] 26)).heap[w.heap.size + 3]? = some (.cells #[.slice (some ⟨g2, 0, none⟩) n1 c2] 26 (0, 0)) := by have := heap_alloc_new W3 (.cells #[.slice (some ⟨g2, 0, none⟩) n1 c2] 26); rw [hs3] at this; exact this
  have j0 := (kb4.block w.heap.size (by omega)).trans k0
  have j2 := (kb4.block (w.heap.size + 2) (by omega)).trans k2
  have hbw := kb.trans (kb4.mono (by omega))
  generalize W3.alloc (.cells #[.slice (some ⟨g2, 0, none⟩) n1 c2] 26) = W0 at hs4 k3 j0 j2 hbw ⊢
  clear hW3 k0 k1 k2 kb kb4 hs3
  refine wpIn_seqB (bki_seq 4 (by omega) (w.heap.size + 1 + 1 + 1) g2 0 n1 c2 Y W0 (by omega) (by omega) (by omega) hle2 (one_cellF k3) (fun i hi => by rw [Nat.zero_add]; exact (H2.out.keep hbw (Nat.le_refl _)).cell i hi)) rfl (by omega) rfl trivial (enters_of Try.func129 (by kernel_rfl) rfl) Kc.trans (fun W l o o' hl ho hc => ⟨by rw [World.putObj_size]; exact Nat.le_refl _, World.putObj_heap_other (by omega), World.putObj_heap_other (by omega)⟩) (fun X Y hX h => ⟨h.size, h.block _ (by omega) (by simp), h.block _ (by omega) (by simp)⟩)
    (fun X Y h => h.elim) (Below.refl _ _) (fun _ => rfl)
    (fun pre W => (Ck W (w.heap.size + 2) (mkP C Z Y pre) ∧ W.heap[w.heap.size]? = some (.cells #[.int .i64 R, .int .i64 C, .slice (some ⟨g1, 0, none⟩) n1 c1] 68 (0, 0))) ∧ Below w.heap.size w W)
    (OwnFrom.and (OwnFrom.and (fun s X Y row hs hg hrow => (hg.block _ (lt_of_block hs) (fun e => by have := (hrow _ e.symm).1; omega)).trans hs) (own_block (by omega))) (ownFrom_below (Nat.le_refl _) (by omega)))
    (fun s X Y hs hT => hT.elim) ⟨⟨j2, j0⟩, hbw⟩
    (fun x W1 => { tmps := #[.agg #[.int .i64 R, .int .i64 C, .slice (some ⟨g1, 0, none⟩) n1 c1], .agg #[.int .i64 R2, .int .i64 C2, .slice (some ⟨g2, 0, none⟩) n1 c2], .pointer (some ⟨w.heap.size, 0, none⟩), .pointer (some ⟨w.heap.size + 1, 0, none⟩), .nilIface, .pointer (some ⟨w.heap.size + 1 + 1, 0, none⟩), .int .i64 x, .int .i64 (Y x), undef, .agg #[], .iface 93 (.agg #[]), .pointer (some ⟨w.heap.size + 1, 2, none⟩), .slice (some ⟨g2, 0, none⟩) n1 c2, .func (.func 129) #[] #[.pointer (some ⟨w.heap.size + 1 + 1 + 1, 0, none⟩)], .int .i64 x, .int .i64 (Y x), undef, undef, undef, undef, undef, undef, undef, undef, undef, undef, undef, undef, undef, undef, undef, undef, undef, undef, undef, undef, undef, undef, undef, undef, undef, undef, undef], defers := [] })
    (fun x W1 W2 => True) (fun x W1 W2 l o o' ho hc h => trivial) ?assign ?body ?done
  case assign =>
    intro l x W K hK
    gi_wp2
    exact hK _ ⟨rfl, rfl, rfl, Nat.le_refl _, fun _ _ _ => rfl⟩ trivial
  case body =>
    rintro l pre x W1 W ⟨⟨hck, hbx⟩, hB⟩ _ hs1 hs2 hpx
    have hx : x < n1 := dnK_lt n1 (hpx.subset (by simp)) (Nat.le_refl _)
    have hx' : (x : Int) < n1 := by omega
    have hx48 : (x : Int) ≤ 48 := by omega
    have hcz := (H1.out.keep hB (Nat.le_refl _)).cell x hx
    obtain ⟨b0, b1, b2, _, _, _⟩ := cells3 hbx
    obtain ⟨vt, vu, eV⟩ := ckV_iface (mkP C Z Y pre)
    have d1 : W.cell? ⟨w.heap.size + 1 + 1, 0, none⟩ = some (.iface vt vu) := by rw [← eV]; exact one_cellF hck
    have d0 : W.frozen? ⟨w.heap.size + 1 + 1, 0, none⟩ = false := by simp [World.frozen?, show W.heap[w.heap.size + 1 + 1]? = _ from hck]
    have HCK := Lib.hid hck
    have HBX := Lib.hid hbx
    have HB := Lib.hid hB
    have hltc := lt_of_block hck
    have hB' := hB.size
    have HSN := Lib.hid (mkP_snoc C Z Y pre x)
    by_cases hzy : Y x = Z x
    · have HE := Lib.hid (show mkP C Z Y (pre ++ [x]) = mkP C Z Y pre from by rw [HSN.out, mk1, if_pos hzy.symm]; rfl)
      have hne : (Y x != Z x) = false := by simpa using hzy
      obtain ⟨zx, ez⟩ : ∃ t, Z x = t := ⟨_, rfl⟩
      obtain ⟨yx, ey⟩ : ∃ t, Y x = t := ⟨_, rfl⟩
      rw [ez] at hcz hne
      rw [ey] at hne ⊢
      clear hck hbx hB hzy ez ey eV HSN
      gi_wp2
      exact ⟨KeepsOthers.refl _, Kc.refl _ _ _, ⟨by rw [HE.out]; exact HCK.out, HBX.out⟩, HB.out⟩
    · have hne : (Y x != Z x) = true := by simpa using hzy
      obtain ⟨r, er⟩ : ∃ r, x / C = r := ⟨_, rfl⟩
      obtain ⟨c, ec⟩ : ∃ c, x % C = c := ⟨_, rfl⟩
      have HE := Lib.hid (show mkP C Z Y (pre ++ [x]) = ⟨(r : Int), (c : Int), Z x, Y x⟩ :: mkP C Z Y pre from by rw [HSN.out, mk1, if_neg (fun h => hzy h.symm), er, ec]; rfl)
      have t1 : (x : Int) / (C : Int) = (r : Int) := by rw [← er]; exact (Int.natCast_ediv x C).symm
      have t2 : (x : Int) % (C : Int) = (c : Int) := by rw [← ec]; exact (Int.natCast_emod x C).symm
      have hr48 : (r : Int) ≤ 48 := by have : x / C ≤ x := Nat.div_le_self _ _; omega
      have hc48 : (c : Int) ≤ 48 := by have : x % C ≤ x := Nat.mod_le _ _; omega
      have h3' : ¬ (C : Int) = 0 := by omega
      have h3'' : ((C : Int) == 0) = false := by rw [beq_eq_false_iff_ne]; omega
      have h3n : ¬ C = 0 := by omega
      have h7 : (0 : Int) < C := by omega
      have hq1 : IntKind.i64.wrap ((x : Int).tdiv (C : Int)) = (r : Int) := (IntWalk.i64_quo _ _ ⟨by omega, by omega, by omega⟩).trans t1
      have hq2 : (x : Int).tmod (C : Int) = (c : Int) := (IntWalk.rem_in _ _ (by omega)).trans t2
      have hq3 : IntKind.i64.wrap ((x : Int).tmod (C : Int)) = (c : Int) := by rw [hq2]; exact IntWalk.i64_in _ (by omega)
      have hqd : IntKind.i64.wrap ((x : Int) / (C : Int)) = (r : Int) := by rw [t1]; exact IntWalk.i64_in _ (by omega)
      obtain ⟨zx, ez⟩ : ∃ t, Z x = t := ⟨_, rfl⟩
      obtain ⟨yx, ey⟩ : ∃ t, Y x = t := ⟨_, rfl⟩
      rw [ez, ey] at HE
      rw [ez] at hcz hne
      rw [ey] at hne ⊢
      have HEV := Lib.hid eV
      clear hck hbx hB hzy ez ey eV HSN er ec t1 t2
      have HS := Lib.hid (fun (V : World) (hb : Below W.heap.size W V) => show V.cell? ⟨w.heap.size, 1, none⟩ = some (.int .i64 C) ∧ V.cell? ⟨w.heap.size, 2, none⟩ = some (.slice (some ⟨g1, 0, none⟩) n1 c1) ∧ V.cell? ⟨g1, x, none⟩ = some (.int .i64 zx) from ⟨(hb.cell (p := ⟨w.heap.size, 1, none⟩) (by show w.heap.size < _; omega)).trans b1, (hb.cell (p := ⟨w.heap.size, 2, none⟩) (by show w.heap.size < _; omega)).trans b2, (hb.cell (p := ⟨g1, x, none⟩) (by show g1 < _; omega)).trans hcz⟩)
      have hba : Below W.heap.size W (W.alloc (.cells #[.int .i64 r, .int .i64 c, .int .i64 zx, .int .i64 yx] 63)) := (Below.refl _ _).alloc (Nat.le_refl _) _
      have hA := heap_alloc_new W (.cells #[.int .i64 r, .int .i64 c, .int .i64 zx, .int .i64 yx] 63)
      have HCK2 := Lib.hid (show Ck (W.alloc (.cells #[.int .i64 r, .int .i64 c, .int .i64 zx, .int .i64 yx] 63)) (w.heap.size + 2) (mkP C Z Y pre) from (hba.block _ hltc).trans HCK.out)
      have HBA := Lib.hid hba
      have HAA := Lib.hid hA
      clear hba hA
      gi_wp2
      refine held_round (S := (fun w' => w'.cell? ⟨w.heap.size, 1, none⟩ = some (.int .i64 C) ∧ w'.cell? ⟨w.heap.size, 2, none⟩ = some (.slice (some ⟨g1, 0, none⟩) n1 c1) ∧ w'.cell? ⟨g1, x, none⟩ = some (.int .i64 zx))) (by kernel_rfl) (by kernel_rfl) (by rintro ⟨a, w, h⟩; exact h) ?_ (fun hHeld => ?_)
      · exact ⟨b1, b2, hcz⟩
      refine wpAnyH_take (i := 0) (v := ?_) (by simp only [List.getElem?_toArray, List.getElem?_cons_succ, List.getElem?_cons_zero]; exact rfl) (by kernel_rfl) (by kernel_rfl) (by kernel_rfl) (by exact fun _ _ _ h => h) (Or.inl ⟨by rfl, ?_⟩) (by assumption) ?_
      rotate_left
      · intro w hSw; (try dsimp only at hSw); go_simp; try with_reducible rfl
      try simp only [Act.put, List.setIfInBounds_toArray, List.set_cons_zero, List.set_cons_succ]
      refine wpAnyH_take (i := 1) (v := ?_) (by simp only [List.getElem?_toArray, List.getElem?_cons_succ, List.getElem?_cons_zero]; exact rfl) (by kernel_rfl) (by kernel_rfl) (by kernel_rfl) (by exact fun _ _ _ h => h) (Or.inl ⟨by rfl, ?_⟩) (by assumption) ?_
      rotate_left
      · intro w hSw; (try dsimp only at hSw); go_simp; try with_reducible rfl
      try simp only [Act.put, List.setIfInBounds_toArray, List.set_cons_zero, List.set_cons_succ]
      refine wpAnyH_take (i := 2) (v := ?_) (by simp only [List.getElem?_toArray, List.getElem?_cons_succ, List.getElem?_cons_zero]; exact rfl) (by kernel_rfl) (by kernel_rfl) (by kernel_rfl) (by exact fun _ _ _ h => h) (Or.inl ⟨by rfl, ?_⟩) (by assumption) ?_
      rotate_left
      · intro w hSw; (try dsimp only at hSw); go_simp; try with_reducible rfl
      try simp only [Act.put, List.setIfInBounds_toArray, List.set_cons_zero, List.set_cons_succ]
      refine wpAnyH_take (i := 3) (v := ?_) (by simp only [List.getElem?_toArray, List.getElem?_cons_succ, List.getElem?_cons_zero]; exact rfl) (by kernel_rfl) (by kernel_rfl) (by kernel_rfl) (by exact fun _ _ _ h => h) (Or.inl ⟨by rfl, ?_⟩) (by assumption) ?_
      rotate_left
      · intro w hSw; (try dsimp only at hSw); go_simp; try with_reducible rfl
      try simp only [Act.put, List.setIfInBounds_toArray, List.set_cons_zero, List.set_cons_succ]
      refine wpAnyH_take (i := 4) (v := ?_) (by simp only [List.getElem?_toArray, List.getElem?_cons_succ, List.getElem?_cons_zero]; exact rfl) (by kernel_rfl) (by kernel_rfl) (by kernel_rfl) (by exact fun _ _ _ h => h) (Or.inl ⟨by rfl, ?_⟩) (by assumption) ?_
      rotate_left
      · intro w hSw; (try dsimp only at hSw); go_simp; try with_reducible rfl
      try simp only [Act.put, List.setIfInBounds_toArray, List.set_cons_zero, List.set_cons_succ]
      refine wpAnyH_take (i := 5) (v := ?_) (by simp only [List.getElem?_toArray, List.getElem?_cons_succ, List.getElem?_cons_zero]; exact rfl) (by kernel_rfl) (by kernel_rfl) (by kernel_rfl) (by exact fun _ _ _ h => h) (Or.inl ⟨by rfl, ?_⟩) (by assumption) ?_
      rotate_left
      · intro w hSw; (try dsimp only at hSw); go_simp; try with_reducible rfl
      try simp only [Act.put, List.setIfInBounds_toArray, List.set_cons_zero, List.set_cons_succ]
      refine wpAnyH_take (i := 6) (v := ?_) (by simp only [List.getElem?_toArray, List.getElem?_cons_succ, List.getElem?_cons_zero]; exact rfl) (by kernel_rfl) (by kernel_rfl) (by kernel_rfl) (by exact fun _ _ _ h => h) (Or.inl ⟨by rfl, ?_⟩) (by assumption) ?_
      rotate_left
      · intro w hSw; (try dsimp only at hSw); go_simp; try with_reducible rfl
      try simp only [Act.put, List.setIfInBounds_toArray, List.set_cons_zero, List.set_cons_succ]
      refine wpAnyH_take (i := 7) (v := ?_) (by simp only [List.getElem?_toArray, List.getElem?_cons_succ, List.getElem?_cons_zero]; exact rfl) (by kernel_rfl) (by kernel_rfl) (by kernel_rfl) (by exact fun _ _ _ h => h) (Or.inl ⟨by rfl, ?_⟩) (by assumption) ?_
      rotate_left
      · intro w hSw; (try dsimp only at hSw); go_simp; try with_reducible rfl
      try simp only [Act.put, List.setIfInBounds_toArray, List.set_cons_zero, List.set_cons_succ]
      refine wpAnyH_take (i := 8) (v := ?_) (by simp only [List.getElem?_toArray, List.getElem?_cons_succ, List.getElem?_cons_zero]; exact rfl) (by kernel_rfl) (by kernel_rfl) (by kernel_rfl) (by exact fun _ _ _ h => h) (Or.inl ⟨by rfl, ?_⟩) (by assumption) ?_
      rotate_left
      · intro w hSw; (try dsimp only at hSw); go_simp; try with_reducible rfl
      try simp only [Act.put, List.setIfInBounds_toArray, List.set_cons_zero, List.set_cons_succ]
      refine wpAnyH_take (i := 9) (v := ?_) (by simp only [List.getElem?_toArray, List.getElem?_cons_succ, List.getElem?_cons_zero]; exact rfl) (by kernel_rfl) (by kernel_rfl) (by kernel_rfl) (by exact fun _ _ _ h => h) (Or.inl ⟨by rfl, ?_⟩) (by assumption) ?_
      rotate_left
      · intro w hSw; (try dsimp only at hSw); go_simp; try with_reducible rfl
      try simp only [Act.put, List.setIfInBounds_toArray, List.set_cons_zero, List.set_cons_succ]
      refine wpAnyH_take (i := 10) (v := ?_) (by simp only [List.getElem?_toArray, List.getElem?_cons_succ, List.getElem?_cons_zero]; exact rfl) (by kernel_rfl) (by kernel_rfl) (by kernel_rfl) (by exact fun _ _ _ h => h) (Or.inl ⟨by rfl, ?_⟩) (by assumption) ?_
      rotate_left
      · intro w hSw; (try dsimp only at hSw); go_simp; try with_reducible rfl
      try simp only [Act.put, List.setIfInBounds_toArray, List.set_cons_zero, List.set_cons_succ]
      refine wpAnyH_take (i := 11) (v := ?_) (by simp only [List.getElem?_toArray, List.getElem?_cons_succ, List.getElem?_cons_zero]; exact rfl) (by kernel_rfl) (by kernel_rfl) (by kernel_rfl) (by exact fun _ _ _ h => h) (Or.inl ⟨by rfl, ?_⟩) (by assumption) ?_
      rotate_left
      · intro w hSw; (try dsimp only at hSw); go_simp; try with_reducible rfl
      try simp only [Act.put, List.setIfInBounds_toArray, List.set_cons_zero, List.set_cons_succ]
      refine wpAnyH_take (i := 12) (v := ?_) (by simp only [List.getElem?_toArray, List.getElem?_cons_succ, List.getElem?_cons_zero]; exact rfl) (by kernel_rfl) (by kernel_rfl) (by kernel_rfl) (by exact fun _ _ _ h => h) (Or.inl ⟨by rfl, ?_⟩) (by assumption) ?_
      rotate_left
      · intro w hSw; (try dsimp only at hSw); go_simp; try with_reducible rfl
      try simp only [Act.put, List.setIfInBounds_toArray, List.set_cons_zero, List.set_cons_succ]
      refine wpAnyH_take (i := 13) (v := ?_) (by simp only [List.getElem?_toArray, List.getElem?_cons_succ, List.getElem?_cons_zero]; exact rfl) (by kernel_rfl) (by kernel_rfl) (by kernel_rfl) (by exact fun _ _ _ h => h) (Or.inl ⟨by rfl, ?_⟩) (by assumption) ?_
      rotate_left
      · intro w hSw; (try dsimp only at hSw); go_simp; try with_reducible rfl
      try simp only [Act.put, List.setIfInBounds_toArray, List.set_cons_zero, List.set_cons_succ]
      refine wpAnyH_take (i := 14) (v := ?_) (by simp only [List.getElem?_toArray, List.getElem?_cons_succ, List.getElem?_cons_zero]; exact rfl) (by kernel_rfl) (by kernel_rfl) (by kernel_rfl) (by exact fun _ _ _ h => h) (Or.inl ⟨by rfl, ?_⟩) (by assumption) ?_
      rotate_left
      · intro w hSw; (try dsimp only at hSw); go_simp; try with_reducible rfl
      try simp only [Act.put, List.setIfInBounds_toArray, List.set_cons_zero, List.set_cons_succ]
      refine wpAnyH_ready (rs := [15]) (by kernel_rfl) (by simp) ?_
      refine AllReadyH.cons (by simp only [List.getElem?_toArray, List.getElem?_cons_succ, List.getElem?_cons_zero]; exact rfl) (fun K hK => ?_) AllReadyH.nil
      go_simp
      refine hK.out _ _ ?_ (fun hHeld2 => ?_)
      · exact HS.out _ (below_un ((Below.refl _ _).alloc (Nat.le_refl _) _))
      clear hK K
      try simp only [Act.put, List.setIfInBounds_toArray, List.set_cons_zero, List.set_cons_succ]
      refine wpAnyH_ready (rs := [16]) (by kernel_rfl) (by simp) ?_
      refine AllReadyH.cons (by simp only [List.getElem?_toArray, List.getElem?_cons_succ, List.getElem?_cons_zero]; exact rfl) (fun K hK => ?_) AllReadyH.nil
      go_simp
      refine hK.out _ _ ?_ (fun hHeld3 => ?_)
      · exact HS.out _ (below_un ((Below.refl _ _).alloc (Nat.le_refl _) _))
      clear hK K
      try simp only [Act.put, List.setIfInBounds_toArray, List.set_cons_zero, List.set_cons_succ]
      refine wpAnyH_done (by kernel_rfl) ?_ _
      obtain ⟨q0, q1, q2, q3⟩ := cellsLb HAA.out
      have e1 : (W.alloc (.cells #[.int .i64 r, .int .i64 c, .int .i64 zx, .int .i64 yx] 63)).cell? ⟨w.heap.size + 1 + 1, 0, none⟩ = some (.iface vt vu) := by rw [← HEV.out]; exact one_cellF HCK2.out
      have e0 : (W.alloc (.cells #[.int .i64 r, .int .i64 c, .int .i64 zx, .int .i64 yx] 63)).frozen? ⟨w.heap.size + 1 + 1, 0, none⟩ = false := by simp [World.frozen?, show (W.alloc (.cells #[.int .i64 r, .int .i64 c, .int .i64 zx, .int .i64 yx] 63)).heap[w.heap.size + 1 + 1]? = _ from HCK2.out]
      have HBX2 := Lib.hid ((HBA.out.block w.heap.size (by omega)).trans HBX.out)
      have HBB := Lib.hid (HB.out.trans (HBA.out.mono hB'))
      have HKO := Lib.hid (KeepsOthers.alloc W (.cells #[.int .i64 r, .int .i64 c, .int .i64 zx, .int .i64 yx] 63))
      have HKC := Lib.hid (show Kc (w.heap.size + 1 + 1 + 1) g2 W (W.alloc (.cells #[.int .i64 r, .int .i64 c, .int .i64 zx, .int .i64 yx] 63)) from ⟨HBA.out.size, HBA.out.block _ (by omega), HBA.out.block _ (by omega)⟩)
      have HN := Lib.hid (show ckV (mkP C Z Y (pre ++ [x])) = .iface 96 (.agg #[.int .i64 r, .int .i64 c, .int .i64 zx, .int .i64 yx, .iface vt vu]) by rw [HE.out]; show Value.iface _ (.agg #[_, _, _, _, ckV (mkP C Z Y pre)]) = _; rw [HEV.out])
      clear hHeld hHeld2 hHeld3 d0 d1 b0 b1 b2 hcz
      generalize (W.alloc (.cells #[.int .i64 r, .int .i64 c, .int .i64 zx, .int .i64 yx] 63)) = V at q0 q1 q2 q3 e0 e1 HBX2 HBB HKO HKC HCK2 ⊢
      gi_wp2
      have HS2 := HCK2.out.set (mkP C Z Y (pre ++ [x]))
      unfold Ck at HS2
      rw [HN.out] at HS2
      refine ⟨(HKO.out.trans (KeepsOthers.setCell _ _ _)).trans (KeepsOthers.drew _), HKC.out.trans ⟨by simp [World.setCell], Below.heap_setCell _ _ _ _ (by simp), Below.heap_setCell _ _ _ _ (by show g2 ≠ w.heap.size + 1 + 1; omega)⟩, ⟨?_, (Below.heap_setCell _ _ _ _ (by show w.heap.size ≠ w.heap.size + 1 + 1; omega)).trans HBX2.out⟩, below_un (HBB.out.setCell (p := ⟨w.heap.size + 1 + 1, 0, none⟩) (by show w.heap.size ≤ w.heap.size + 1 + 1; omega) _)⟩
      unfold Ck
      rw [HN.out]
      exact HS2
  case done =>
    rintro D ys W hD rfl ⟨⟨hck, hbx⟩, hB⟩ hK
    rw [mkP_all C Z Y n1 n1 (Nat.le_refl _), Nat.sub_self] at hck
    obtain ⟨vt, vu, eV⟩ := ckV_iface (mkD C Z Y 0 n1)
    have d1 : W.cell? ⟨w.heap.size + 1 + 1, 0, none⟩ = some (.iface vt vu) := by rw [← eV]; exact one_cellF hck
    have HB := Lib.hid hB
    have HK := Lib.hid hK
    have EV := Lib.hid eV
    clear hck hbx hB hK eV
    gi_wp2
    refine ⟨by simp, .inl ⟨_, _, rfl, run_takeDeferred HK.out, ?_⟩⟩
    exact ⟨_, results_tmp rfl _ _ _, by rw [EV.out]; rfl, HB.out.trans (belowK_b (w := w) (Nat.le_refl _) W D _ _ (by omega) HK.out rfl rfl)⟩

end Go.Proofs.Ytidlloelinmnnaa
