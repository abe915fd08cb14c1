/- slices.Clone of numbers; a correction done. -/
import Derived.Test.YtidlloelinmnnaaFh
namespace Go.Proofs.Ytidlloelinmnnaa
open Go.RowKit Go.Shelf
set_option linter.unusedVariables false
set_option linter.unusedSimpArgs false

theorem sz_newsF {W : World} {b off n : Nat} {F : Nat → Int} (hc : ∀ j, j < n → W.cell? ⟨b, off + j, none⟩ = some (.int .i64 (F j))) : ∀ j u, (nsV (fnL F n))[j]? = some u → W.cell? ((⟨b, off, none⟩ : Addr).add j) = some u := fun j u hu => by
  have hj : j < n := by
    have := (List.getElem?_eq_some_iff.1 hu).1
    simpa [nsV, fnL_len] using this
  have e2 : (nsV (fnL F n))[j]? = some (.int .i64 (F j)) := by rw [nsV_at _ _ (by rw [fnL_len]; exact hj), fnL_z F n j hj]
  rw [e2] at hu
  obtain rfl := Option.some.inj hu
  rw [add_none]
  exact hc j hj
theorem sz_lenF (n : Nat) (F : Nat → Int) : (nsV (fnL F n)).length = n := by simp [nsV, fnL_len]
theorem owI_congrF {lo hi : Nat} {w : World} {v : Value} {n : Nat} {Z Z' : Nat → Int} (h : OwI lo hi w v n Z) (e : ∀ i, i < n → Z i = Z' i) : OwI lo hi w v n Z' := by
  rcases h with ⟨rfl, rfl⟩ | ⟨b, N, cap, F, rfl, h1, h2, h3, h4, h5, h6, h7, h8⟩
  · exact Or.inl ⟨rfl, rfl⟩
  · exact Or.inr ⟨b, N, cap, F, rfl, h1, h2, h3, h4, h5, h6, fun i hi => by rw [← e i hi]; exact h7 i hi, fun i hi => by rw [← e i hi]; exact h8 i hi⟩
theorem owI_monoF {lo hi lo' hi' : Nat} {w : World} {v : Value} {n : Nat} {Z : Nat → Int} (h : OwI lo hi w v n Z) (h1 : lo' ≤ lo) (h2 : hi ≤ hi') : OwI lo' hi' w v n Z := by
  rcases h with h | ⟨b, N, cap, F, k0, k1, k2, k3⟩
  · exact Or.inl h
  · exact Or.inr ⟨b, N, cap, F, k0, by omega, by omega, k3⟩

set_option maxHeartbeats 2000000 in
set_option maxRecDepth 20000 in
theorem cloneS_anyF (b off cap n : Nat) (Z : Nat → Int) (w : World) (hcap : n ≤ cap) (hbh : b < w.heap.size) (hc : ∀ j, j < n → w.cell? ⟨b, off + j, none⟩ = some (.int .i64 (Z j))) (hr : ∀ j, j < n → -9223372036854775808 ≤ Z j ∧ Z j ≤ 9223372036854775807) (h0 : 0 < n) (hn : n ≤ 100) :
    Calls Try.prog 164 #[.slice (some ⟨b, off, none⟩) n cap] w (LgPost1 n Z w) := by
  obtain ⟨i0, hi0, hz0, hz1, hz2⟩ := info_parts Try.infoI
  have HOK := Lib.hid (show NsOk (fnL Z n) from fnL_ok hr)
  have HB0 := Lib.hid ((Below.refl w.heap.size w).alloc (Nat.le_refl _) (.cells #[] 3))
  have HL0 := Lib.hid (nums_lit w)
  have HC := Lib.hid (fun j (hj : j < n) => (HB0.out.cell (p := ⟨b, off + j, none⟩) (by show b < _; omega)).trans (hc j hj))
  have he : ∀ W : World, (binOp .eql 26 (.slice (some ⟨b, off, none⟩) n cap) (.slice none 0 0)).run Try.prog W = .ok (.bool false) W := fun _ => rfl
  clear hc hr
  go_enter Try.func164, Try.ntmps164
  go_wp2_with (first | (at_builtin; refine wpList_append_own _ rfl _ _ 26 rfl w.heap.size 3 i0 (.int .i64 0) 1 8 Try.underlying26 hi0 hz0 hz1 hz2 rfl (by decide) _ 0 (nsV []) rfl HL0.out ⟨b, off, none⟩ n cap (nsV (fnL Z n)) rfl (by rw [sz_lenF]; omega) (sz_newsF HC.out) (by simp [nsV, Value.oneCell']) (by unfold maxLen; omega) (by omega) (by simp) ?_; intro v' w4 hown4 hg4 _; have HO4 := Lib.hid hown4; have HG4 := Lib.hid hg4; clear hown4 hg4))
  have HB4 := Lib.hid (HB0.out.grown HG4.out (by simp) (fun k hk => (HL0.out.lt k hk).1))
  have hnum : Nums w.heap.size w4 v' (fnL Z n) := by
    have h := HO4.out
    unfold Nums
    rw [fnL_len]
    simpa [nsV] using h
  have HL4 := Lib.hid (hnum.owI HOK.out)
  obtain ⟨a, c, e⟩ := hnum.shape
  clear hnum
  go_wp2
  go_ret
  have HL5 := HL4.out
  rw [fnL_len] at HL5
  exact ⟨v', rfl, ⟨_, _, _, e⟩, owI_congrF HL5 (fun i hi => fnL_z Z n i hi), HB4.out⟩

set_option maxHeartbeats 2000000 in
set_option maxRecDepth 20000 in
theorem cellIn_any (R C cnt gg cap : Nat) (r c o n : Int) (m : Nat) (w : World) (hm : r * C + c = m) (h0 : 0 ≤ r * C) (h1 : r * C ≤ 1000) (h2 : m ≤ 1000) :
    Calls Try.prog 78 #[.agg #[.int .i64 r, .int .i64 c, .int .i64 o, .int .i64 n], .agg #[.int .i64 R, .int .i64 C, .slice (some ⟨gg, 0, none⟩) cnt cap]] w (IntPost m w) := by
  have HI := Lib.hid (fun W : World => index_any R C cnt gg cap r c m W hm h0 h1 h2)
  clear hm h0 h1
  go_enter Try.func78, Try.ntmps78
  go_wp2_with fail
  refine (HI.out _).mono ?_
  rintro e w2 ⟨rfl, hb2⟩
  have HB := Lib.hid (show Below w.heap.size w w2 from (((Below.refl _ _).alloc (Nat.le_refl _) _).alloc (by simp) _).trans (hb2.mono (by simp; omega)))
  clear hb2
  go_wp2
  go_ret
  exact ⟨rfl, HB.out⟩

/-- a relief with heights of its own -/
def MqPost (R C : Nat) (Z : Nat → Int) (w : World) (e : Ending) (w' : World) : Prop :=
  ∃ n gg cap, e = .returned (.agg #[.int .i64 R, .int .i64 C, .slice (some ⟨gg, 0, none⟩) n cap]) ∧ Rv w' R C n gg cap Z ∧ Below w.heap.size w w' ∧ w.heap.size ≤ gg

set_option maxRecDepth 20000 in
set_option maxHeartbeats 4000000 in
theorem corrected_any (R C cnt gg cap : Nat) (r c : Nat) (o n : Int) (Z : Nat → Int) (w : World) (h : Rv w R C cnt gg cap Z) (hR : R ≤ 7) (hC : C ≤ 7) (hr : r < R) (hc : c < C) (hz : ∀ i, i < cnt → 0 ≤ Z i ∧ Z i ≤ 99) (hn : 0 ≤ n ∧ n ≤ 99) :
    Calls Try.prog 161 #[.agg #[.int .i64 R, .int .i64 C, .slice (some ⟨gg, 0, none⟩) cnt cap], .agg #[.int .i64 r, .int .i64 c, .int .i64 o, .int .i64 n]] w (MqPost R C (put C Z ⟨r, c, o, n⟩) w) := by
  have hcnt : cnt ≤ 49 := by rw [h.n_eq]; exact mul_le_49 hR hC
  have hm := cell_lt (R := R) (C := C) h.n_eq hr hc
  have hm2 : (r : Int) * C + c = ((r * C + c : Nat) : Int) := by simp
  have hcap := h.le
  have HN := Lib.hid h.n_eq
  have hm3 : (r : Int) * C ≤ 1000 := by have h1 : r * C ≤ 1000 := by omega
                                        exact_mod_cast h1
  have HCI := Lib.hid (fun (g' cp' : Nat) (W : World) => cellIn_any R C cnt g' cp' r c o n (r * C + c) W hm2 (Int.natCast_nonneg (r * C)) hm3 (by omega))
  clear hm2 hm3
  obtain ⟨m, em⟩ : ∃ m, r * C + c = m := ⟨_, rfl⟩
  rw [em] at HCI hm
  have HPUT := Lib.hid (show ∀ i, put C Z ⟨(r : Int), (c : Int), o, n⟩ i = if i = m then n else Z i from fun i => by simp only [put, Int.toNat_natCast, em])
  have hb3 : Below w.heap.size w (((w.alloc (.cells #[.int .i64 R, .int .i64 C, .slice (some ⟨gg, 0, none⟩) cnt cap] 68)).alloc (.cells #[.int .i64 r, .int .i64 c, .int .i64 o, .int .i64 n] 63)).alloc (.cells #[.int .i64 0, .int .i64 0, .slice none 0 0] 68)) := (((Below.refl _ _).alloc (Nat.le_refl _) _).alloc (by simp) _).alloc (by simp; omega) _
  obtain ⟨W3, hW3⟩ : ∃ W3, W3 = (((w.alloc (.cells #[.int .i64 R, .int .i64 C, .slice (some ⟨gg, 0, none⟩) cnt cap] 68)).alloc (.cells #[.int .i64 r, .int .i64 c, .int .i64 o, .int .i64 n] 63)).alloc (.cells #[.int .i64 0, .int .i64 0, .slice none 0 0] 68)) := ⟨_, rfl⟩
  have hs3 : W3.heap.size = w.heap.size + 3 := by rw [hW3]; simp
  have k0 : W3.heap[w.heap.size]? = some (.cells #[.int .i64 R, .int .i64 C, .slice (some ⟨gg, 0, none⟩) cnt cap] 68 (0, 0)) := by
    rw [hW3]; exact (Below.heap_alloc _ _ _ (by simp; omega)).trans ((Below.heap_alloc _ _ _ (by simp)).trans (heap_alloc_new w _))
  have k1 : W3.heap[w.heap.size + 1]? = some (.cells #[.int .i64 r, .int .i64 c, .int .i64 o, .int .i64 n] 63 (0, 0)) := by
    rw [hW3]; exact (Below.heap_alloc _ _ _ (by simp)).trans (heap_alloc2_new w _ _)
  have k2 : W3.heap[w.heap.size + 2]? = some (.cells #[.int .i64 0, .int .i64 0, .slice none 0 0] 68 (0, 0)) := by
    rw [hW3]; exact heap_alloc3_new w _ _ _
  rw [← hW3] at hb3
  have HCL := Lib.hid (cloneS_anyF gg 0 cap cnt Z W3 h.le (by have := h.lt; omega) (fun j hj => by rw [Nat.zero_add]; exact (hb3.cell (p := ⟨gg, j, none⟩) h.lt).trans (h.cell j hj)) (fun j hj => by have := hz j hj; omega) (by omega) (by omega))
  have HZ := Lib.hid hz
  have K0 := Lib.hid k0
  have K1 := Lib.hid k1
  have K2 := Lib.hid k2
  have HB3 := Lib.hid hb3
  obtain ⟨a0, a1, a2, _, _, _⟩ := cells3 k0
  clear h hz k0 k1 k2 hb3
  go_enter Try.func161, Try.ntmps161
  go_wp2_with fail
  rw [← hW3]
  refine HCL.out.mono ?_
  rintro e w4 ⟨v4, rfl, ⟨_, _, capq, rfl⟩, hO, hb4⟩
  rcases hO with ⟨_, h0⟩ | ⟨gq, N, capz, F, hv, g1, g2, g3, g4, g5, g6, g7, g8⟩
  · omega
  simp only [Value.slice.injEq] at hv
  obtain ⟨rfl, _, rfl⟩ := hv
  rw [hs3] at g1
  have j0 := (hb4.block w.heap.size (by omega)).trans K0.out
  have j1 := (hb4.block (w.heap.size + 1) (by omega)).trans K1.out
  have j2 := (hb4.block (w.heap.size + 2) (by omega)).trans K2.out
  have hz4 := hb4.size
  have HB4 := Lib.hid (HB3.out.trans (hb4.mono (by omega)))
  obtain ⟨b0, b1, b2, e0, e1, e2⟩ := cells3 j0
  have J1 := Lib.hid j1
  have J2 := Lib.hid j2
  have J0 := Lib.hid (show (w4.setCell ⟨w.heap.size, 2, none⟩ (.slice (some ⟨gq, 0, none⟩) cnt capq)).heap[w.heap.size]? = some (.cells #[.int .i64 R, .int .i64 C, .slice (some ⟨gq, 0, none⟩) cnt capq] 68 (0, 0)) by simpa using heap_setCell_same w4 w.heap.size 2 _ _ (.slice (some ⟨gq, 0, none⟩) cnt capq) j0)
  have G3 := Lib.hid g3
  have G7 := Lib.hid g7
  clear j0 j1 j2 hb4 g3 g7 a0 a1 a2 g8
  go_wp2_with fail
  have HB5 := Lib.hid (HB4.out.setCell (p := ⟨w.heap.size, 2, none⟩) (Nat.le_refl _) (.slice (some ⟨gq, 0, none⟩) cnt capq))
  have hz5 : (w4.setCell ⟨w.heap.size, 2, none⟩ (.slice (some ⟨gq, 0, none⟩) cnt capq)).heap.size = w4.heap.size := by simp [World.setCell]
  have L1 := Lib.hid ((Below.heap_setCell w4 ⟨w.heap.size, 2, none⟩ (.slice (some ⟨gq, 0, none⟩) cnt capq) (w.heap.size + 1) (by simp)).trans J1.out)
  have L2 := Lib.hid ((Below.heap_setCell w4 ⟨w.heap.size, 2, none⟩ (.slice (some ⟨gq, 0, none⟩) cnt capq) (w.heap.size + 2) (by simp)).trans J2.out)
  have L3 := Lib.hid (G3.out.of_block (Below.heap_setCell w4 ⟨w.heap.size, 2, none⟩ (.slice (some ⟨gq, 0, none⟩) cnt capq) gq (by show gq ≠ w.heap.size; omega)))
  clear b0 b1 b2 e0 e1 e2 J1 J2 G3 HB4
  generalize w4.setCell ⟨w.heap.size, 2, none⟩ (.slice (some ⟨gq, 0, none⟩) cnt capq) = W5 at J0 HB5 hz5 L1 L2 L3 ⊢
  have HS5 := Lib.hid (show AlS w R C gq cnt capq r c o n W5 from by
    obtain ⟨x0, x1, x2, _⟩ := cells3 J0.out
    obtain ⟨y0, y1, y2, y3⟩ := cellsLb L1.out
    exact ⟨x0, x1, x2, y0, y1, y2, y3⟩)
  have hm0 : (0 : Int) ≤ m := by omega
  have hm1 : (m : Int) < cnt := by omega
  refine wp_region_held_drew (S := (fun w' => w'.cell? ⟨w.heap.size, 0, none⟩ = some (.int .i64 R) ∧ w'.cell? ⟨w.heap.size, 1, none⟩ = some (.int .i64 C) ∧ w'.cell? ⟨w.heap.size, 2, none⟩ = some (.slice (some ⟨gq, 0, none⟩) cnt capq) ∧ w'.cell? ⟨w.heap.size + 1, 0, none⟩ = some (.int .i64 r) ∧ w'.cell? ⟨w.heap.size + 1, 1, none⟩ = some (.int .i64 c) ∧ w'.cell? ⟨w.heap.size + 1, 2, none⟩ = some (.int .i64 o) ∧ w'.cell? ⟨w.heap.size + 1, 3, none⟩ = some (.int .i64 n))) (by kernel_rfl) ?_ (fun hHeld => ?_)
  · exact HS5.out
  refine wpAnyH_take (i := 0) (v := ?_) (by simp only [List.getElem?_toArray, List.getElem?_cons_succ, List.getElem?_cons_zero]; exact rfl) (by kernel_rfl) (by kernel_rfl) (by kernel_rfl) (by exact fun _ _ _ h => h) (Or.inl ⟨by rfl, ?_⟩) (by assumption) ?_
  rotate_left
  · intro w hSw; (try dsimp only at hSw); go_simp; try with_reducible rfl
  try simp only [Act.put, List.setIfInBounds_toArray, List.set_cons_zero, List.set_cons_succ]
  refine wpAnyH_take (i := 1) (v := ?_) (by simp only [List.getElem?_toArray, List.getElem?_cons_succ, List.getElem?_cons_zero]; exact rfl) (by kernel_rfl) (by kernel_rfl) (by kernel_rfl) (by exact fun _ _ _ h => h) (Or.inl ⟨by rfl, ?_⟩) (by assumption) ?_
  rotate_left
  · intro w hSw; (try dsimp only at hSw); go_simp; try with_reducible rfl
  try simp only [Act.put, List.setIfInBounds_toArray, List.set_cons_zero, List.set_cons_succ]
  refine wpAnyH_take (i := 2) (v := ?_) (by simp only [List.getElem?_toArray, List.getElem?_cons_succ, List.getElem?_cons_zero]; exact rfl) (by kernel_rfl) (by kernel_rfl) (by kernel_rfl) (by exact fun _ _ _ h => h) (Or.inl ⟨by rfl, ?_⟩) (by assumption) ?_
  rotate_left
  · intro w hSw; (try dsimp only at hSw); go_simp; try with_reducible rfl
  try simp only [Act.put, List.setIfInBounds_toArray, List.set_cons_zero, List.set_cons_succ]
  refine wpAnyH_take (i := 3) (v := ?_) (by simp only [List.getElem?_toArray, List.getElem?_cons_succ, List.getElem?_cons_zero]; exact rfl) (by kernel_rfl) (by kernel_rfl) (by kernel_rfl) (by exact fun _ _ _ h => h) (Or.inl ⟨by rfl, ?_⟩) (by assumption) ?_
  rotate_left
  · intro w hSw; (try dsimp only at hSw); go_simp; try with_reducible rfl
  try simp only [Act.put, List.setIfInBounds_toArray, List.set_cons_zero, List.set_cons_succ]
  refine wpAnyH_take (i := 5) (v := ?_) (by simp only [List.getElem?_toArray, List.getElem?_cons_succ, List.getElem?_cons_zero]; exact rfl) (by kernel_rfl) (by kernel_rfl) (by kernel_rfl) (by exact fun _ _ _ h => h) (Or.inl ⟨by rfl, ?_⟩) (by assumption) ?_
  rotate_left
  · intro w hSw; (try dsimp only at hSw); go_simp; try with_reducible rfl
  try simp only [Act.put, List.setIfInBounds_toArray, List.set_cons_zero, List.set_cons_succ]
  refine wpAnyH_take (i := 6) (v := ?_) (by simp only [List.getElem?_toArray, List.getElem?_cons_succ, List.getElem?_cons_zero]; exact rfl) (by kernel_rfl) (by kernel_rfl) (by kernel_rfl) (by exact fun _ _ _ h => h) (Or.inl ⟨by rfl, ?_⟩) (by assumption) ?_
  rotate_left
  · intro w hSw; (try dsimp only at hSw); go_simp; try with_reducible rfl
  try simp only [Act.put, List.setIfInBounds_toArray, List.set_cons_zero, List.set_cons_succ]
  refine wpAnyH_ready (rs := [4]) (by kernel_rfl) (by simp) ?_
  refine AllReadyH.cons (by simp only [List.getElem?_toArray, List.getElem?_cons_succ, List.getElem?_cons_zero]; exact rfl) (fun K hK => ?_) AllReadyH.nil
  go_simp
  go_at_call 78
  refine (HCI.out _ _ _).mono ?_
  rintro e w6 ⟨rfl, hb6⟩
  have X6 := Lib.hid (show Below W5.heap.size W5 w6 from hb6.undrew)
  have s6 := Lib.hid (HS5.out.keep (by omega) X6.out)
  have M3 := Lib.hid (L3.out.of_block (X6.out.block gq (by omega)))
  have M2 := Lib.hid ((X6.out.block (w.heap.size + 2) (by omega)).trans L2.out)
  have hc6 : w6.cell? ⟨gq, m, none⟩ = some (.int .i64 (Z m)) := by rw [M3.out.cell (by omega), G7.out m (by omega)]
  have hf6 : w6.frozen? ⟨gq, m, none⟩ = false := M3.out.frozen m
  clear hb6
  go_wp2_with fail
  refine hK.out _ _ ?_ (fun hHeld2 => ?_)
  · exact s6.out
  clear hK K
  try simp only [Act.put, List.setIfInBounds_toArray, List.set_cons_zero, List.set_cons_succ]
  refine wpAnyH_take (i := 7) (v := ?_) (by simp only [List.getElem?_toArray, List.getElem?_cons_succ, List.getElem?_cons_zero]; exact rfl) (by kernel_rfl) (by kernel_rfl) (by kernel_rfl) (by exact fun _ _ _ h => h) (Or.inl ⟨by rfl, ?_⟩) (by assumption) ?_
  rotate_left
  · intro w hSw; (try dsimp only at hSw); go_simp; try with_reducible rfl
  try simp only [Act.put, List.setIfInBounds_toArray, List.set_cons_zero, List.set_cons_succ]
  refine wpAnyH_ready (rs := [8]) (by kernel_rfl) (by simp) ?_
  refine AllReadyH.cons (by simp only [List.getElem?_toArray, List.getElem?_cons_succ, List.getElem?_cons_zero]; exact rfl) (fun K hK => ?_) AllReadyH.nil
  go_simp
  have s7 := Lib.hid (show AlS w R C gq cnt capq r c o n (w6.setCell ⟨gq, m, none⟩ (.int .i64 n)) from by
    obtain ⟨h0, h1, h2, h3, h4, h5, h6⟩ := s6.out
    have hf : ∀ (b k : Nat), gq ≠ b → (w6.setCell ⟨gq, m, none⟩ (.int .i64 n)).cell? ⟨b, k, none⟩ = w6.cell? ⟨b, k, none⟩ := fun b k hb => World.cell?_setCell_far _ _ _ _ hb
    exact ⟨(hf _ _ (by omega)).trans h0, (hf _ _ (by omega)).trans h1, (hf _ _ (by omega)).trans h2, (hf _ _ (by omega)).trans h3, (hf _ _ (by omega)).trans h4, (hf _ _ (by omega)).trans h5, (hf _ _ (by omega)).trans h6⟩)
  refine hK.out _ _ ?_ (fun hHeld4 => ?_)
  · exact s7.out
  clear hK K
  try simp only [Act.put, List.setIfInBounds_toArray, List.set_cons_zero, List.set_cons_succ]
  refine wpAnyH_done (by kernel_rfl) ?_ _
  have HB7 := Lib.hid ((HB5.out.trans (X6.out.mono (by omega))).setCell (p := ⟨gq, m, none⟩) (by show w.heap.size ≤ gq; omega) (.int .i64 n))
  have N3 := Lib.hid (M3.out.set m (.int .i64 n))
  have N2 := Lib.hid ((Below.heap_setCell w6 ⟨gq, m, none⟩ (.int .i64 n) (w.heap.size + 2) (by show w.heap.size + 2 ≠ gq; omega)).trans M2.out)
  have hz7 : (w6.setCell ⟨gq, m, none⟩ (.int .i64 n)).heap.size = w6.heap.size := by simp [World.setCell]
  have hz6 := X6.out.size
  clear hHeld4 hc6 hf6
  generalize w6.setCell ⟨gq, m, none⟩ (.int .i64 n) = W7 at s7 HB7 N3 N2 hz7 ⊢
  obtain ⟨t0, t1, t2, _⟩ := s7.out
  obtain ⟨_, _, _, u0, u1, u2⟩ := cells3 N2.out
  have HE := Lib.hid (three_set W7 (w.heap.size + 2) _ _ _ (.int .i64 R) (.int .i64 C) (.slice (some ⟨gq, 0, none⟩) cnt capq) N2.out)
  have HRV := Lib.hid (show Rv (((W7.setCell ⟨w.heap.size + 2, 0, none⟩ (.int .i64 R)).setCell ⟨w.heap.size + 2, 1, none⟩ (.int .i64 C)).setCell ⟨w.heap.size + 2, 2, none⟩ (.slice (some ⟨gq, 0, none⟩) cnt capq)) R C cnt gq capq (put C Z ⟨(r : Int), (c : Int), o, n⟩) from
    ⟨HN.out, by simp [World.setCell]; omega, g5, fun i hi => by
      rw [cell3_far _ _ _ _ _ _ (by omega), N3.out.cell (by omega), HPUT.out]
      by_cases e : i = m
      · rw [if_pos e, if_pos e]
      · rw [if_neg e, if_neg e, G7.out i hi]⟩)
  have HB8 := Lib.hid (below3 HB7.out (x := w.heap.size + 2) (by omega) (.int .i64 R) (.int .i64 C) (.slice (some ⟨gq, 0, none⟩) cnt capq))
  go_wp2
  exact bodyPost_ret (results_cell_row rfl _ _ (w.heap.size + 2) _ #[.int .i64 R, .int .i64 C, .slice (some ⟨gq, 0, none⟩) cnt capq] _ _ rfl HE.out Try.underlying68 rfl Try.sizeRel) rfl ⟨cnt, gq, capq, rfl, HRV.out, HB8.out, by omega⟩

end Go.Proofs.Ytidlloelinmnnaa
