/- The heights that a cell had: the mathematics, and the model's FixesAt. -/
import Derived.Test.YtidlloelinmnnaaFd
import Derived.Test.YtidlloelinmnnaaFs
namespace Go.Proofs.Ytidlloelinmnnaa
open Go.RowKit
set_option linter.unusedVariables false
set_option linter.unusedSimpArgs false

def AhOk (g : G) (n : Nat) (Z : Nat → Int) (r c : Int) : Prop := FxOk g n Z ∧ g.Cell r c
noncomputable def ahB (g : G) (n : Nat) (Z : Nat → Int) (r c : Int) : Bool := @decide (AhOk g n Z r c) (Classical.propDecidable _)
theorem ahB_yes {g : G} {n : Nat} {Z : Nat → Int} {r c : Int} (h : AhOk g n Z r c) : ahB g n Z r c = true := by simp [ahB, h]
theorem ahB_no {g : G} {n : Nat} {Z : Nat → Int} {r c : Int} (h : ¬ AhOk g n Z r c) : ahB g n Z r c = false := by simp [ahB, h]
/-- the new heights of one cell among corrections -/
def ahP (r c : Int) (L : List Fx) : List Int := (L.filter (fun f => decide (f.r = r) && decide (f.c = c))).map (·.n)
theorem ahP_yes {r c : Int} {L : List Fx} {f : Fx} (h1 : f.r = r) (h2 : f.c = c) : ahP r c (L ++ [f]) = ahP r c L ++ [f.n] := by simp [ahP, List.filter_append, h1, h2]
theorem ahP_no {r c : Int} {L : List Fx} {f : Fx} (h : ¬ (f.r = r ∧ f.c = c)) : ahP r c (L ++ [f]) = ahP r c L := by
  have : (decide (f.r = r) && decide (f.c = c)) = false := by simpa using h
  simp [ahP, List.filter_append, this]
theorem ahP_len (r c : Int) (L : List Fx) : (ahP r c L).length ≤ L.length := by
  unfold ahP; rw [List.length_map]; exact List.length_filter_le _ _
noncomputable def ahL (g : G) (n : Nat) (Z : Nat → Int) (r c : Int) : List Int := if ahB g n Z r c = true then g.z r.toNat c.toNat :: ahP r c (fxF Z 0 n) else []
theorem ahL_yes {g : G} {n : Nat} {Z : Nat → Int} {r c : Int} (h : AhOk g n Z r c) : ahL g n Z r c = g.z r.toNat c.toNat :: ahP r c (fxF Z 0 n) := by rw [ahL, if_pos (ahB_yes h)]
theorem ahL_no {g : G} {n : Nat} {Z : Nat → Int} {r c : Int} (h : ¬ AhOk g n Z r c) : ahL g n Z r c = [] := by rw [ahL, if_neg (by rw [ahB_no h]; simp)]
theorem nums_one' (w : World) (x : Int) : Nums w.heap.size (w.alloc (.cells #[.int .i64 x] 3)) (.slice (some ⟨w.heap.size, 0, none⟩) 1 1) [x] := World.ownsRow_lit w #[.int .i64 x] 1 (Nat.le_refl _) (by decide) (by simp)

set_option maxRecDepth 20000 in
set_option maxHeartbeats 4000000 in
theorem specFixesAt_any (v u : Value) (lo hi n : Nat) (g : G) (Z : Nat → Int) (r c : Int) (w : World) (hv : RdM lo hi w v g) (hu : RdT lo hi w u n Z) (hh : hi ≤ w.heap.size) (hn : n ≤ 1048576) :
    Calls Try.prog 17 #[v, u, .int .i64 r, .int .i64 c] w (NbPost (ahB g n Z r c) (ahL g n Z r c) w) := by
  have HF := Lib.hid (specFixesValid_any v u lo hi n g Z w hv hu hh hn)
  have HCL := Lib.hid (fun (W : World) (hb : Below w.heap.size w W) => l1Cell_any v lo hi g r c W (hv.same (SameIn.below hb hh)))
  have HV := Lib.hid (fun (W : World) (hb : Below w.heap.size w W) => hv.same (SameIn.below hb hh))
  have HU := Lib.hid hu
  obtain ⟨au, cu, rfl⟩ := hu.shape
  have hcn : n ≤ cu ∧ cu ≤ 9223372036854775807 := by obtain ⟨_, _, _, _, he, q1, q2, _⟩ := hu; simp only [Value.slice.injEq] at he; omega
  obtain ⟨i0, hi0, hz0, hz1, hz2⟩ := info_parts Try.infoI
  by_cases hok : FxOk g n Z
  case neg =>
    have HTB := Lib.hid (ahB_no (g := g) (n := n) (Z := Z) (r := r) (c := c) (fun h => hok h.1))
    have HA := Lib.hid (ahL_no (g := g) (n := n) (Z := Z) (r := r) (c := c) (fun h => hok h.1))
    rw [fxB_no hok] at HF
    clear hv hu hok
    go_enter Try.func17, Try.ntmps17
    go_wp2_with fail
    refine HF.out.mono ?_
    rintro e w2 ⟨rfl, hb2⟩
    have HB2 := Lib.hid (hb2.alloc hb2.size (.cells #[] 3))
    have HL2 := Lib.hid (ownsRow_base (nums_lit w2) hb2.size)
    clear hb2
    go_wp2
    go_ret2
    exact NbPost.mk' HTB.out HA.out HL2.out HB2.out
  rw [fxB_yes hok] at HF
  by_cases hcl : g.Cell r c
  case neg =>
    have HTB := Lib.hid (ahB_no (g := g) (n := n) (Z := Z) (r := r) (c := c) (fun h => hcl h.2))
    have HA := Lib.hid (ahL_no (g := g) (n := n) (Z := Z) (r := r) (c := c) (fun h => hcl h.2))
    rw [G.cB_no hcl] at HCL
    clear hv hu hok hcl
    go_enter Try.func17, Try.ntmps17
    go_wp2_with fail
    refine HF.out.mono ?_
    rintro e w2 ⟨rfl, hb2⟩
    have HB2 := Lib.hid hb2
    clear hb2
    go_wp2_with fail
    refine (HCL.out _ HB2.out).mono ?_
    rintro e w3 ⟨rfl, n1, rfl⟩
    have HB3 := Lib.hid ((below_drewN HB2.out n1).alloc (below_drewN HB2.out n1).size (.cells #[] 3))
    have HL3 := Lib.hid (ownsRow_base (nums_lit (w2.drewN n1)) (below_drewN HB2.out n1).size)
    go_wp2
    go_ret2
    exact NbPost.mk' HTB.out HA.out HL3.out HB3.out
  rw [G.cB_yes hcl] at HCL
  have HTB := Lib.hid (ahB_yes (g := g) (n := n) (Z := Z) (r := r) (c := c) ⟨hok, hcl⟩)
  have HA := Lib.hid (ahL_yes (g := g) (n := n) (Z := Z) (r := r) (c := c) ⟨hok, hcl⟩)
  have hn60 : n ≤ 60 := hok.2.1
  obtain ⟨r, rfl⟩ := Int.eq_ofNat_of_zero_le hcl.2.1.1
  obtain ⟨c, rfl⟩ := Int.eq_ofNat_of_zero_le hcl.2.2.1
  have hr : r < g.n := by have := hcl.2.1.2; omega
  have hcr : c < g.len r := by have := hcl.2.2.2; have := (hcl.1.2.2 r hr).1; omega
  have hr' : (r : Int) < g.n := by omega
  have hc' : (c : Int) < g.len r := by omega
  obtain ⟨z0, ez0⟩ : ∃ z, g.z r c = z := ⟨_, rfl⟩
  have HZ0 := Lib.hid (show g.z (r : Int).toNat (c : Int).toNat = z0 from ez0)
  rw [HZ0.out] at HA
  have HVC := Lib.hid (fun (W : World) (hb : Below w.heap.size w W) => (HV.out W hb).cellAt hr hcr)
  rw [ez0] at HVC
  clear hv hu hok hcl hr hcr ez0
  go_enter Try.func17, Try.ntmps17
  go_wp2_with fail
  refine HF.out.mono ?_
  rintro e w2 ⟨rfl, hb2⟩
  have HB2 := Lib.hid hb2
  clear hb2
  go_wp2_with fail
  refine (HCL.out _ HB2.out).mono ?_
  rintro e w3 ⟨rfl, n1, rfl⟩
  obtain ⟨b, off, cap, b1, off1, cp, rfl, p1, p2, _, _⟩ := HVC.out _ (below_drewN HB2.out n1)
  have HB3 := Lib.hid ((below_drewN HB2.out n1).alloc (below_drewN HB2.out n1).size (.cells #[.int .i64 z0] 3))
  have HL3 := Lib.hid (ownsRow_base (nums_one' (w2.drewN n1) z0) (below_drewN HB2.out n1).size)
  go_wp2
  go_loopw [10, 11] (fun o ci wr => ∃ (k : Nat) (x : Value), k ≤ n ∧ ci = .int .i64 k ∧ x = o ∧ Nums w.heap.size wr x (z0 :: ahP r c (fxF Z 0 k)) ∧ Below w.heap.size w wr) (fun _ ci _ => n - (intOf ci).toNat)
  case atStart => exact ⟨0, _, Nat.zero_le _, rfl, rfl, HL3.out, HB3.out⟩
  case round =>
    obtain ⟨k, x, hk, rfl, rfl, hli, hb⟩ := hrel
    have HB1 := Lib.hid hb
    have HLI := Lib.hid hli
    clear p1 p2
    by_cases hlt : k < n
    · obtain ⟨bk, offk, capk, hsl, hc1, hc2, _, hbh, hcell⟩ := (HU.out.same (SameIn.below hb hh)).open (by omega)
      simp only [Value.slice.injEq] at hsl
      obtain ⟨rfl, _, rfl⟩ := hsl
      have hbl : bk < wr.heap.size := by have := hb.size; omega
      have hlt' : (k : Int) < n := by omega
      obtain ⟨q0, q1, q2, q3⟩ := four_of hcell hlt
      have hln : (z0 :: ahP r c (fxF Z 0 k)).length ≤ 61 := by have := ahP_len (r : Int) c (fxF Z 0 k); rw [fxF_len] at this; simp only [List.length_cons]; omega
      obtain ⟨P, eP⟩ : ∃ P, Z (k * 4) = P := ⟨_, rfl⟩
      obtain ⟨Q, eQ⟩ : ∃ Q, Z (k * 4 + 1) = Q := ⟨_, rfl⟩
      obtain ⟨N, eN⟩ : ∃ N, Z (k * 4 + 3) = N := ⟨_, rfl⟩
      have HS := Lib.hid (show (P = r ∧ Q = c → z0 :: ahP r c (fxF Z 0 (k + 1)) = (z0 :: ahP r c (fxF Z 0 k)) ++ [N]) ∧ (¬ (P = r ∧ Q = c) → z0 :: ahP r c (fxF Z 0 (k + 1)) = z0 :: ahP r c (fxF Z 0 k)) from by
        rw [fxF_snoc, Nat.zero_add]
        constructor
        · rintro ⟨h1, h2⟩
          rw [ahP_yes (f := fxAt Z k) (eP.trans h1) (eQ.trans h2)]
          show _ = (z0 :: ahP r c (fxF Z 0 k)) ++ [N]
          rw [← eN]; rfl
        · intro h
          rw [ahP_no (f := fxAt Z k) (fun h' => h ⟨eP.symm.trans h'.1, eQ.symm.trans h'.2⟩)])
      rw [eP] at q0
      rw [eQ] at q1
      rw [eN] at q3
      obtain ⟨L, eL⟩ : ∃ L, z0 :: ahP r c (fxF Z 0 k) = L := ⟨_, rfl⟩
      rw [eL] at HLI HS hln hli
      clear eP eQ eN eL hcell q2 hb hlt
      by_cases h1 : P = r
      · by_cases h2 : Q = c
        · have HS1 := Lib.hid (HS.out.1 ⟨h1, h2⟩)
          subst h1
          subst h2
          have HLN := Lib.hid HLI.out; have hs3 := HB1.out.size
          have hfar : (wr.alloc (.cells #[.int .i64 N] 3)).heap.size = wr.heap.size + 1 := by simp
          clear HLI hli
          go_wp2_with (first | (at_builtin; refine wpList_append_own _ rfl _ _ 26 rfl w.heap.size 3 i0 (.int .i64 0) 1 8 Try.underlying26 hi0 hz0 hz1 hz2 rfl (by decide) _ L.length (nsV L) rfl (HLN.out.alloc _) ⟨wr.heap.size, 0, none⟩ 1 1 [.int .i64 N] rfl rfl (World.news_of_block (cs := #[.int .i64 N]) (t := 3) (fr := (0, 0)) (heap_alloc_new wr _)) (by simp [Value.oneCell']) (by unfold maxLen; omega) (by omega) (by simp; omega) ?_; intro v' w4 hown4 hg4 _))
          have HB4 := Lib.hid ((HB1.out.alloc HB1.out.size (.cells #[.int .i64 N] 3)).grown hg4 (by simp; have := HB1.out.size; omega) (fun k hk => (HLN.out.lt k hk).1))
          have HL4 := Lib.hid (nums_push (L := L) (x := N) hown4)
          clear hown4 hg4 HLN
          go_wp2
          go_roundw
          case rel => exact ⟨k + 1, _, by omega, by go_num, rfl, by rw [HS1.out]; exact HL4.out, HB4.out⟩
          case measure => simp [intOf]; omega
        · have HS1 := Lib.hid (HS.out.2 (fun h => h2 h.2))
          subst h1
          have h2' : (Q == (c : Int)) = false := by simpa using h2
          clear hli
          go_wp2
          go_roundw
          case rel => exact ⟨k + 1, _, by omega, by go_num, rfl, by rw [HS1.out]; exact HLI.out, HB1.out⟩
          case measure => simp [intOf]; omega
      · have HS1 := Lib.hid (HS.out.2 (fun h => h1 h.1))
        have h1' : (P == (r : Int)) = false := by simpa using h1
        clear hli
        go_wp2
        go_roundw
        case rel => exact ⟨k + 1, _, by omega, by go_num, rfl, by rw [HS1.out]; exact HLI.out, HB1.out⟩
        case measure => simp [intOf]; omega
    · obtain rfl : k = n := by omega
      have hlt' : ¬ (k : Int) < k := by omega
      clear hli hb
      go_wp2
      go_ret2
      exact NbPost.mk' HTB.out HA.out HLI.out HB1.out

end Go.Proofs.Ytidlloelinmnnaa
