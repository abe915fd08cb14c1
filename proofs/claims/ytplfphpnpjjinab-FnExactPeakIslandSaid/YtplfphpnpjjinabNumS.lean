/- The numbers of the cells' regions, in the model. -/
import Derived.Test.YtplfphpnpjjinabLvS
import Derived.Test.YtplfphpnpjjinabBasS
import Derived.Test.YtplfphpnpjjinabRgM2
import Derived.Maps.AppendAt
import Derived.Deep.AppendLies
namespace Go.Proofs.Ytplfphpnpjjinab
open Go.RowKit
set_option linter.unusedVariables false

/-- a cell of a list -/
theorem Lists.atCell {B : Nat} {w : World} {M : Nat} {l : List (Ix M)} {a : Option Addr} {n c q : Nat} (h : Lists B w (.slice a n c) l) (hq : q < l.length) :
    ∃ b, a = some ⟨b, 0, none⟩ ∧ w.cell? ⟨b, q, none⟩ = some (.int .i64 (l[q]).1) ∧ l.length ≤ c ∧ c ≤ maxLen := by
  obtain ⟨hlen, ⟨e, h0⟩ | ⟨b, cap, cur, e, hB, hb, hc, hcap, hcs, ht⟩⟩ := h
  · omega
  · simp only [Value.slice.injEq] at e
    obtain ⟨rfl, rfl, rfl⟩ := e
    refine ⟨b, rfl, ?_, hc, hcap⟩
    have e1 : cur.toList[q]? = (ixV l)[q]? := by rw [← ht, List.getElem?_take_of_lt (by omega)]
    have e2 : cur[q]? = some (.int .i64 (l[q]).1) := by rw [← Array.getElem?_toList, e1]; simp [ixV, hq]
    simp [World.cell?, hb, e2]

/-- a list of the call's own is a row -/
theorem own_row {B n b cap : Nat} {w : World} {xs : List Value} (h : w.ownsRow B 3 1 (.slice (some ⟨b, 0, none⟩) n cap) n xs) :
    ∃ F : Nat → Value, w.rowIs b 3 cap F ∧ (∀ i x, i < n → xs[i]? = some x → F i = x) ∧ n ≤ cap ∧ cap ≤ maxLen := by
  obtain ⟨hlen, ⟨e, h0⟩ | ⟨b', cap', cur, e, hB, hb, hc, hcap, hcs, ht⟩⟩ := h
  · cases e
  · simp only [Value.slice.injEq, Option.some.injEq, Addr.mk.injEq, and_true, true_and] at e
    obtain ⟨rfl, rfl⟩ := e
    refine ⟨fun i => cur[i]?.getD (.int .i64 0), ⟨cur, hb, by omega, fun i hi => ?_⟩, fun i x hi hx => ?_, hc, hcap⟩
    · have hi' : i < cur.size := by omega
      simp [hi']
    · show cur[i]?.getD _ = x
      rw [← ht, List.getElem?_take_of_lt (by omega)] at hx
      rw [← Array.getElem?_toList, hx]; rfl

/-- a row whose first N cells hold numbers -/
def ouF (N : Nat) (T : Nat → Value) (Y : Nat → Int) (j : Nat) : Value := if j < N then .int .i64 (Y j) else T j
theorem ouF_at {N : Nat} {T : Nat → Value} {Y : Nat → Int} {j : Nat} (h : j < N) : ouF N T Y j = .int .i64 (Y j) := by unfold ouF; rw [if_pos h]
theorem ouF_set {N : Nat} {T : Nat → Value} {Y Y' : Nat → Int} {y : Nat} {v : Int} (hy : y < N) (h : ∀ j, (if j = y then v else Y j) = Y' j) (j : Nat) : (if j = y then Value.int .i64 v else ouF N T Y j) = ouF N T Y' j := by
  have h1 := h j
  unfold ouF
  by_cases e : j = y
  · subst e
    simp only [if_true] at h1 ⊢
    rw [if_pos hy, h1]
  · simp only [if_neg e] at h1 ⊢
    rw [h1]
theorem ouF_congr {N : Nat} {T : Nat → Value} {Y Y' : Nat → Int} (h : ∀ j, j < N → Y j = Y' j) (j : Nat) : ouF N T Y j = ouF N T Y' j := by
  unfold ouF
  by_cases e : j < N
  · rw [if_pos e, if_pos e, h j e]
  · rw [if_neg e, if_neg e]

theorem lists_one' {w : World} {B M : Nat} (i : Ix M) (hB : w.heap.size = B) : Lists B (w.alloc (.cells #[.int .i64 i.1] 3)) (.slice (some ⟨B, 0, none⟩) 1 1) [i] := by subst hB; exact lists_one i

/-- the state of the search: the row of numbers, the list, the neighbors that are being looked at -/
structure NQ (w wr : World) (b cap N LB B1 B2 : Nat) (T : Nat → Value) {M : Nat} (Y : Nat → Int) (L : List (Ix M)) (v nv : Value) (l : List (Ix M)) : Prop where
  row : wr.rowIs b 3 cap (ouF N T Y)
  li : Lists LB wr v L
  far : ∀ kk, v.ownBlock = some kk → kk < B1 ∨ B2 ≤ kk
  nr : RdI B1 B2 wr nv l.length (ixZ l)
  sz : B2 ≤ wr.heap.size
  bel : Below w.heap.size w wr

theorem NQ.drewN {w wr : World} {b cap N LB B1 B2 : Nat} {T : Nat → Value} {M : Nat} {Y : Nat → Int} {L : List (Ix M)} {v nv : Value} {l : List (Ix M)} (h : NQ w wr b cap N LB B1 B2 T Y L v nv l) (n : Nat) : NQ w (wr.drewN n) b cap N LB B1 B2 T Y L v nv l :=
  ⟨h.row.of_block rfl, h.li.below (below_drewN (Below.refl wr.heap.size _) _) (Nat.le_refl _), h.far, h.nr.same (fun _ _ _ => rfl), h.sz, below_drewN h.bel n⟩

theorem NQ.push {w wr w5 : World} {b cap N LB B1 B2 : Nat} {T : Nat → Value} {M : Nat} {Y Y' : Nat → Int} {L : List (Ix M)} {v v' nv : Value} {l : List (Ix M)} (h : NQ w wr b cap N LB B1 B2 T Y L v nv l) (y : Ix M) (z : Int) (hyN : y.1 < N)
    (hY : ∀ j, (if j = y.1 then z else Y j) = Y' j) (hb1 : b < LB) (hb2 : b < B1) (hwb : w.heap.size ≤ b) (hlb : w.heap.size ≤ LB) {o : Obj} {yy : Nat} (ey : y.1 = yy)
    (hown : w5.ownsRow LB 3 1 v' (L.length + 1) (ixV L ++ [.int .i64 yy])) (hg : ((wr.setCell ⟨b, yy, none⟩ (.int .i64 z)).alloc o).grownBy w5 v.ownBlock) (hat : v'.ownBlock = v.ownBlock ∨ v'.ownBlock = some ((wr.setCell ⟨b, yy, none⟩ (.int .i64 z)).alloc o).heap.size) :
    NQ w w5 b cap N LB B1 B2 T Y' (L ++ [y]) v' nv l := by
  subst ey
  obtain ⟨h1, h2, h3, h4, h5, h6⟩ := h
  have hs : ((wr.setCell ⟨b, y.1, none⟩ (.int .i64 z)).alloc o).heap.size = wr.heap.size + 1 := by simp [World.setCell]
  have hblt := h1.lt
  have hne : ∀ kk, v.ownBlock = some kk → LB ≤ kk := fun kk hk => (h2.lt kk hk).1
  have r1 := ((h1.set y.1 (.int .i64 z)).congr (fun j _ => ouF_set hyN hY j)).alloc o
  have blk : ∀ kk, kk < wr.heap.size → kk ≠ b → some kk ≠ v.ownBlock → w5.heap[kk]? = wr.heap[kk]? := fun kk hk hn hf => by
    rw [hg.block kk (by omega) hf, Below.heap_alloc _ o kk (by simpa [World.setCell] using hk)]
    exact Below.heap_setCell wr ⟨b, y.1, none⟩ _ kk (by simpa using hn)
  refine ⟨r1.of_block (hg.block b (by omega) (fun e => ?_)), ?_, fun kk hk => ?_, h4.same (fun kk hk1 hk2 => blk kk (by omega) (by omega) (fun e => ?_)), ?_, ?_⟩
  · have := hne b e.symm; omega
  · unfold Lists
    have e : ixV (L ++ [y]) = ixV L ++ [.int .i64 y.1] := by simp [ixV]
    rw [e, List.length_append]
    exact hown
  · rcases hat with e | e
    · exact h3 kk (e ▸ hk)
    · rw [hk] at e
      simp only [Option.some.injEq] at e
      omega
  · rcases h3 kk e.symm with h | h <;> omega
  · have := hg.size; omega
  · have hb3 := ((h6.setCell (p := ⟨b, y.1, none⟩) hwb (.int .i64 z)).alloc (by have := h6.size; simpa [World.setCell] using this) o)
    exact hb3.grown hg (by have := h6.size; omega) (fun kk hk => Nat.le_trans hlb (hne kk hk))

theorem own_setCell {w : World} {B n : Nat} {v : Value} {xs : List Value} (h : w.ownsRow B 3 1 v n xs) {p : Addr} (hp : p.block < B) (u : Value) (k : Nat) : ((w.drewN k).setCell p u).ownsRow B 3 1 v n xs := by
  have hg : w.grownBy ((w.drewN k).setCell p u) (some p.block) := ⟨rfl, rfl, rfl, by simp [World.setCell], fun kk hk hn => Below.heap_setCell (w.drewN k) p u kk (fun e => hn (by rw [e]))⟩
  exact h.kept hg (Or.inr (fun e => by have := (h.lt p.block e).1; omega))

/-- what the numbers leave -/
def NumSPost (R C : Nat) (Z : Nat → Int) (lv : Int) (w : World) (e : Ending) (w' : World) : Prop :=
  ∃ q cap F, e = .returned (.tuple #[.slice (some ⟨q, 0, none⟩) (R * C) cap, .int .i64 (rgN R C Z lv (R * C) : Nat)]) ∧ w.heap.size ≤ q ∧ (R * C ≤ cap ∧ cap ≤ maxLen) ∧ w'.rowIs q 3 cap F ∧ (∀ j, j < R * C → F j = .int .i64 (numZ R C Z lv j)) ∧ Below w.heap.size w w'

set_option maxHeartbeats 20000000 in
set_option maxRecDepth 100000 in
theorem l3Numbers_any (v : Value) (lo hi : Nat) (g : G) (R C : Nat) (eR : g.n = R) (eC : g.len 0 = C) (lv : Int) (w : World) (hv : RdM lo hi w v g) (hh : hi ≤ w.heap.size) (h : g.Valid) :
    Calls Try.prog 86 #[v, .int .i64 lv] w (NumSPost R C g.flat lv w) := by
  obtain ⟨i0, hi0, hz0, hz1, hz2⟩ := info_parts Try.infoI
  have hb0 := (Below.refl w.heap.size w).alloc (Nat.le_refl _) (.cells #[] 3)
  have HB0 := Lib.hid hb0
  have HL0 := Lib.hid (show (w.alloc (.cells #[] 3)).ownsRow w.heap.size 3 1 (.slice (some ⟨w.heap.size, 0, none⟩) 0 0) 0 (List.replicate 0 (.int .i64 (-1))) from World.ownsRow_lit w #[] 0 (Nat.le_refl _) (Nat.zero_le _) (by simp))
  have HEQ := Lib.hid (show g.n = R ∧ g.len 0 = C from ⟨eR, eC⟩)
  have h49 : R * C ≤ 49 := mul_le_49 (by have := h.1.2; omega) (by have := h.2.1.2; omega)
  have hpos : 0 < R * C := Nat.mul_pos (by have := h.1.1; omega) (by have := h.2.1.1; omega)
  obtain ⟨b0, off0, cap0, rfl⟩ := hv.shapeW h.1.1
  have HV := Lib.hid hv
  have HH := Lib.hid h
  have EG0 : g.n * g.len 0 = R * C := by rw [eR, eC]
  obtain ⟨N, eN⟩ : ∃ N, R * C = N := ⟨_, rfl⟩
  have EN := Lib.hid eN
  have EG := Lib.hid (EG0.trans eN)
  rw [eN] at h49 hpos
  clear hv h hb0 eR eC EG0 eN
  go_enter Try.func86, Try.ntmps86
  go_wp2
  go_loopw [6, 7] (fun o i wr => ∃ (k : Nat) (v : Value), k ≤ N ∧ i = .int .i64 k ∧ v = o ∧ wr.ownsRow w.heap.size 3 1 v k (List.replicate k (.int .i64 (-1))) ∧ Below w.heap.size w wr) (fun _ i _ => N - (intOf i).toNat)
  case atStart => exact ⟨0, _, Nat.zero_le _, rfl, rfl, HL0.out, HB0.out⟩
  case round =>
    obtain ⟨k, v, hk, rfl, rfl, hown, hb⟩ := hrel
    have HVR := Lib.hid (HV.out.same (SameIn.below hb hh))
    have HB1 := Lib.hid hb
    have hsz := hb.size
    clear hb
    by_cases hlt : k < N
    · have hlt' : (k : Int) < N := by omega
      go_wp2_with fail
      refine (l2Cells_any _ lo hi g _ HVR.out HH.out).mono ?_
      rintro e w2 ⟨rfl, rfl⟩
      rw [EG.out]
      go_wp2_with (first | (at_builtin; refine wpList_append_own _ rfl _ _ 27 rfl w.heap.size 3 i0 (.int .i64 0) 1 8 Try.underlying27 hi0 hz0 hz1 hz2 rfl (by decide) _ k (List.replicate k (.int .i64 (-1))) rfl (hown.alloc _) ⟨wr.heap.size, 0, none⟩ 1 1 [.int .i64 (-1)] rfl rfl (World.news_of_block (cs := #[.int .i64 (-1)]) (t := 3) (fr := (0, 0)) (heap_alloc_new wr _)) (by simp [Value.oneCell']) (by unfold maxLen; omega) (by omega) (by simp; omega) ?_; intro v' w4 hown4 hg4 _))
      have HB4 := Lib.hid ((HB1.out.alloc HB1.out.size (.cells #[.int .i64 (-1)] 3)).grown hg4 (by simp; omega) (fun k hk => (hown.lt k hk).1))
      have HO4 := Lib.hid (show w4.ownsRow w.heap.size 3 1 v' (k + 1) (List.replicate (k + 1) (.int .i64 (-1))) from by rw [List.replicate_succ']; exact hown4)
      clear hown4 hg4 hown
      go_wp2
      go_roundw
      case rel => exact ⟨k + 1, v', by omega, by go_num, rfl, HO4.out, HB4.out⟩
      case measure => simp [intOf]; omega
    · have ek : k = N := by omega
      rw [ek] at hown ⊢
      obtain ⟨b, cap, rfl, hb1, hb2⟩ := hown.form hpos
      obtain ⟨F, hF, hF2, hc1, hc2⟩ := own_row hown
      have HROW := Lib.hid (show wr.rowIs b 3 cap (ouF N F (lab R C g.flat lv 0)) from hF.congr (fun j hj => by
        unfold ouF
        split
        · rename_i hjn
          rw [lab_zero]
          exact hF2 j (.int .i64 (-1)) hjn (by simp [hjn])
        · rfl))
      obtain ⟨wa, hwa⟩ : ∃ W, W = wr := ⟨_, rfl⟩
      subst hwa
      have hcl : (cap : Int) ≤ 9223372036854775807 := by unfold maxLen at hc2; omega
      have HC2 := Lib.hid hc2
      clear hown hF hF2 ek hlt hk hc2
      have hge : ¬ (N : Int) < N := by omega
      go_wp2_with fail
      refine (l2Cells_any _ lo hi g _ HVR.out HH.out).mono ?_
      rintro e w2 ⟨rfl, rfl⟩
      rw [EG.out]
      go_wp2
      go_loopw [8, 9] (fun n i wr => ∃ k : Nat, k ≤ N ∧ i = .int .i64 k ∧ n = .int .i64 (rgN R C g.flat lv k : Nat) ∧ wr.rowIs b 3 cap (ouF N F (lab R C g.flat lv k)) ∧ Below w.heap.size w wr) (fun _ i _ => N - (intOf i).toNat)
      case atStart => exact ⟨0, Nat.zero_le _, rfl, rfl, HROW.out, HB1.out⟩
      case round =>
        obtain ⟨k, hk, rfl, rfl, hrow, hb⟩ := hrel
        have HVK := Lib.hid (HV.out.same (SameIn.below hb hh))
        have HBK := Lib.hid hb
        have hszk := hb.size
        have hbl : b < wr.heap.size := hrow.lt
        have hrg := rgN_le R C g.flat lv k
        have HRK := Lib.hid hrow
        clear hb
        by_cases hlt : k < N
        · have hlt' : (k : Int) < N := by omega
          have c5 := hrow.cell (i := k) (by omega)
          have f5 : wr.frozen? ⟨b, k, none⟩ = false := hrow.frozen k
          rw [ouF_at hlt] at c5
          have HG := Lib.hid (l2Height_any _ lo hi g k wr HVK.out HH.out (by rw [EG.out]; exact hlt))
          have hcm := cmZ_le R C g.flat lv k
          by_cases hroot : lv ≤ g.flat k ∧ cmZ R C g.flat lv k = k
          · -- a new region
            obtain ⟨ix, hix⟩ : ∃ ix : Ix (R * C), ix.1 = k := ⟨⟨k, by rw [EN.out]; exact hlt⟩, rfl⟩
            have HIX := Lib.hid hix
            have hlab : lab R C g.flat lv k k = -1 := lab_neg (by omega)
            rw [hlab] at c5
            have HFD := Lib.hid (show Found R C g.flat lv k [ix] from hix ▸ Found.one ix (by rw [hix]; exact hroot.1) (by rw [hix]; exact hroot.2))
            have HRG := Lib.hid (rgN_yes (R := R) (C := C) hroot.1 hroot.2)
            obtain ⟨rg, erg⟩ : ∃ rg, rgN R C g.flat lv k = rg := ⟨_, rfl⟩
            have ERG := Lib.hid erg
            have hz : ¬ g.flat k < lv := by omega
            obtain ⟨z, ez⟩ : ∃ z, g.flat k = z := ⟨_, rfl⟩
            rw [ez] at HG hz
            rw [erg] at hrg HRG ⊢
            clear hlab hroot erg ez hix
            go_wp2_with fail
            refine HG.out.mono ?_
            rintro e w3 ⟨rfl, n3, rfl⟩
            have HS1 := Lib.hid (show (((wr.drewN n3).setCell ⟨b, k, none⟩ (.int .i64 rg)).alloc (.cells #[.int .i64 k] 3)).rowIs b 3 cap (ouF N F (labF g.flat lv k [ix])) from
              (((show (wr.drewN n3).rowIs b 3 cap (ouF N F (lab R C g.flat lv k)) from HRK.out.of_block rfl).set k (.int .i64 rg)).congr (fun j _ => ouF_set hlt (fun j => by
                have := labF_one (R := R) (C := C) (Z := g.flat) (lv := lv) ix j
                rw [HIX.out, ERG.out] at this
                exact this) j)).alloc _)
            have HS2 := Lib.hid (show Lists wr.heap.size (((wr.drewN n3).setCell ⟨b, k, none⟩ (.int .i64 rg)).alloc (.cells #[.int .i64 k] 3)) (.slice (some ⟨wr.heap.size, 0, none⟩) 1 1) [ix] from by
              have := lists_one' (w := (wr.drewN n3).setCell ⟨b, k, none⟩ (.int .i64 rg)) (B := wr.heap.size) ix (by simp [World.setCell])
              rw [HIX.out] at this
              exact this)
            have HS3 := Lib.hid (show Below w.heap.size w (((wr.drewN n3).setCell ⟨b, k, none⟩ (.int .i64 rg)).alloc (.cells #[.int .i64 k] 3)) from
              ((below_drewN HBK.out n3).setCell (p := ⟨b, k, none⟩) hb1 (.int .i64 rg)).alloc (by have := HBK.out.size; simpa [World.setCell] using this) _)
            clear HROW
            go_wp2
            obtain ⟨wb, hwb⟩ : ∃ W, W = wr := ⟨_, rfl⟩
            subst hwb
            go_loopw [10, 11] (fun s q wr => ∃ (L : List (Ix (R * C))) (p : Nat) (v : Value), p ≤ L.length ∧ q = .int .i64 p ∧ v = s ∧ Found R C g.flat lv k L ∧ Lists wb.heap.size wr v L ∧ wr.rowIs b 3 cap (ouF N F (labF g.flat lv k L)) ∧ (∀ j (hj : j < L.length), j < p → ∀ y, y ∈ near R C L[j] 4 → lv ≤ g.flat y.1 → y ∈ L) ∧ Below w.heap.size w wr) (fun _ q _ => N - (intOf q).toNat)
            case atStart => exact ⟨[ix], 0, _, Nat.zero_le _, rfl, rfl, HFD.out, HS2.out, HS1.out, fun j _ hj => by omega, HS3.out⟩
            case round =>
              obtain ⟨L, p, v, hp, rfl, rfl, hfd, hli, hrow3, hcl3, hb3⟩ := hrel
              have hLN : L.length ≤ N := by rw [← EN.out]; exact ix_nodup_le hfd.nodup
              have HFD3 := Lib.hid hfd
              have HLI3 := Lib.hid hli
              have HR3 := Lib.hid hrow3
              have HCL3 := Lib.hid hcl3
              have HB3 := Lib.hid hb3
              have HV3 := Lib.hid (HV.out.same (SameIn.below hb3 hh))
              have hsz3 := hb3.size
              have hbl3 : b < wr.heap.size := hrow3.lt
              obtain ⟨a3, c3, rfl⟩ := hli.shape
              clear hfd hcl3 hb3 hrow3
              by_cases hlt3 : p < L.length
              · obtain ⟨lb, rfl, hcell, hcc, hcm3⟩ := hli.atCell hlt3
                have hlt3' : (p : Int) < L.length := by omega
                have hwb3 : wb.heap.size ≤ wr.heap.size := by obtain ⟨_, _, _, h1, h2⟩ := World.ownsRow.form hli (by omega); omega
                have hcm4 : (c3 : Int) ≤ 9223372036854775807 := by unfold maxLen at hcm3; omega
                obtain ⟨x, ex⟩ : ∃ x, L[p] = x := ⟨_, rfl⟩
                have HX := Lib.hid (show lv ≤ g.flat x.1 ∧ cmZ R C g.flat lv x.1 = k from by
                  have h9 := HFD3.out.all _ (List.getElem_mem hlt3)
                  rw [ex] at h9
                  exact h9)
                have HXL := Lib.hid (show ∀ h : p < L.length, L[p] = x from fun _ => ex)
                rw [ex] at hcell
                have HN := Lib.hid (l2Near_any _ lo hi g R C HEQ.out.1 HEQ.out.2 x wr HV3.out (by omega) HH.out)
                clear hli ex hcm3
                go_wp2_with fail
                refine HN.out.mono ?_
                rintro e w5 ⟨nv, rfl, ⟨an, cn, rfl⟩, hnr, hb5⟩
                have hl4 : (near R C x 4).length ≤ 4 := near_len R C x 4
                obtain ⟨l, el⟩ : ∃ l, near R C x 4 = l := ⟨_, rfl⟩
                have EL := Lib.hid el
                rw [el] at hnr hl4 ⊢
                have hs5 := hb5.size
                have HQ5 := Lib.hid (show NQ w w5 b cap N wb.heap.size wr.heap.size w5.heap.size F (labF g.flat lv k L) L (.slice (some ⟨lb, 0, none⟩) L.length c3) (.slice an l.length cn) l from
                  ⟨HR3.out.of_block (hb5.block b hbl3), HLI3.out.below hb5 (Nat.le_refl _), fun kk hk => Or.inl (HLI3.out.lt kk hk).2, hnr, Nat.le_refl _, HB3.out.trans (hb5.mono HB3.out.size)⟩)
                obtain ⟨wc3, hwc3⟩ : ∃ W, W = wr := ⟨_, rfl⟩
                subst hwc3
                clear el hnr hb5 hcell HLI3 HR3 HB3 HV3 HN
                go_wp2
                go_loopw [10, 13] (fun s m wr => ∃ (L' : List (Ix (R * C))) (mm : Nat) (v' : Value), mm ≤ l.length ∧ m = .int .i64 mm ∧ v' = s ∧ Found R C g.flat lv k L' ∧ NQ w wr b cap N wb.heap.size wc3.heap.size w5.heap.size F (labF g.flat lv k L') L' v' (.slice an l.length cn) l ∧ (∃ t, L' = L ++ t) ∧ (∀ y, y ∈ l.take mm → lv ≤ g.flat y.1 → y ∈ L')) (fun _ m _ => l.length - (intOf m).toNat)
                case atStart => exact ⟨L, 0, _, Nat.zero_le _, rfl, rfl, HFD3.out, HQ5.out, ⟨[], by simp⟩, fun y hy => by simp at hy⟩
                case round =>
                  obtain ⟨L', mm, v', hmm, rfl, rfl, hfd', hq, hpre, hdone⟩ := hrel
                  have HFD4 := Lib.hid hfd'
                  have HQ := Lib.hid hq
                  have HPRE := Lib.hid hpre
                  have HDONE := Lib.hid hdone
                  have hLN' : L'.length ≤ N := by rw [← EN.out]; exact ix_nodup_le hfd'.nodup
                  have HV4 := Lib.hid (HV.out.same (SameIn.below hq.bel hh))
                  have hszq := hq.sz
                  clear hpre hdone hfd'
                  by_cases hlt4 : mm < l.length
                  · have hlt4' : (mm : Int) < l.length := by omega
                    obtain ⟨ao, cp, nb, no, e1, i2, i3, i4, i5, i6⟩ := hq.nr
                    have q1 := i6 mm hlt4
                    rw [ixZ_at l hlt4] at q1
                    simp only [Value.slice.injEq] at e1
                    obtain ⟨rfl, _, rfl⟩ := e1
                    obtain ⟨rfl, hnb1, hnb2⟩ := i5 (by omega)
                    have HTK := Lib.hid (show l.take (mm + 1) = l.take mm ++ [l[mm]] from List.take_succ_eq_append_getElem hlt4)
                    have HMEM := Lib.hid (show l[mm] ∈ near R C x 4 from by rw [EL.out]; exact List.getElem_mem hlt4)
                    obtain ⟨y, ey⟩ : ∃ y, l[mm] = y := ⟨_, rfl⟩
                    rw [ey] at q1 HTK HMEM
                    have hyN : y.1 < N := by rw [← EN.out]; exact y.2
                    have c6 := hq.row.cell (i := y.1) (by omega)
                    have f6 : wr.frozen? ⟨b, y.1, none⟩ = false := hq.row.frozen y.1
                    rw [ouF_at hyN] at c6
                    have HLQ := Lib.hid hq.li
                    clear ey i4 i5 i6 hq
                    by_cases hyL : y ∈ L'
                    · rw [labF_in hyL, ERG.out] at c6
                      have hneg : ¬ (rg : Int) < 0 := by omega
                      have HD2 := Lib.hid (show ∀ y', y' ∈ l.take (mm + 1) → lv ≤ g.flat y'.1 → y' ∈ L' from fun y' hy' hl' => by
                        rw [HTK.out] at hy'
                        rcases List.mem_append.1 hy' with h | h
                        · exact HDONE.out y' h hl'
                        · simp at h; subst h; exact hyL)
                      obtain ⟨yy, eyy⟩ : ∃ yy, y.1 = yy := ⟨_, rfl⟩
                      rw [eyy] at q1 c6 f6 hyN
                      have hyN' : (yy : Int) < N := by omega
                      clear eyy
                      go_wp2
                      go_roundw
                      case rel => exact ⟨L', mm + 1, _, by omega, by go_num, rfl, HFD4.out, HQ.out, HPRE.out, HD2.out⟩
                      case measure => simp [intOf]; omega
                    · rw [labF_out hyL] at c6
                      have HG4 := Lib.hid (l2Height_any _ lo hi g y.1 wr HV4.out HH.out (by rw [EG.out]; exact hyN))
                      by_cases hz4 : lv ≤ g.flat y.1
                      · have hcy : cmZ R C g.flat lv y.1 = k := by rw [← cm_adj ⟨HMEM.out, HX.out.1, hz4⟩]; exact HX.out.2
                        rw [lab_neg (by omega)] at c6
                        obtain ⟨xx, hxx1, hxx2⟩ : ∃ xx, xx ∈ L' ∧ y ∈ near R C xx 4 := ⟨x, by
                          obtain ⟨t, ht⟩ := HPRE.out
                          rw [ht, ← HXL.out hlt3]
                          exact List.mem_append_left _ (List.getElem_mem hlt3), HMEM.out⟩
                        have HFD5 := Lib.hid (HFD4.out.push hxx1 hxx2 hz4 hyL)
                        have HD2 := Lib.hid (show ∀ y', y' ∈ l.take (mm + 1) → lv ≤ g.flat y'.1 → y' ∈ L' ++ [y] from fun y' hy' hl' => by
                          rw [HTK.out] at hy'
                          rcases List.mem_append.1 hy' with h | h
                          · exact List.mem_append_left _ (HDONE.out y' h hl')
                          · exact List.mem_append_right _ h)
                        have HPRE2 := Lib.hid (show ∃ t, L' ++ [y] = L ++ t from by
                          obtain ⟨t, ht⟩ := HPRE.out
                          exact ⟨t ++ [y], by rw [ht, List.append_assoc]⟩)
                        have HLB := Lib.hid (fun j => (show (if j = y.1 then (rg : Int) else labF g.flat lv k L' j) = labF g.flat lv k (L' ++ [y]) j from by
                          have := labF_push (R := R) (C := C) (Z := g.flat) (lv := lv) (i := k) (L := L') y j
                          rw [ERG.out] at this
                          exact this))
                        obtain ⟨yy, eyy⟩ : ∃ yy, y.1 = yy := ⟨_, rfl⟩
                        have EYY := Lib.hid eyy
                        obtain ⟨z4, ez4⟩ : ∃ z4, g.flat y.1 = z4 := ⟨_, rfl⟩
                        rw [ez4] at HG4 hz4
                        rw [eyy] at q1 c6 f6 hyN HG4
                        have hyN' : (yy : Int) < N := by omega
                        clear eyy ez4 hcy hxx1 hxx2 hyL
                        go_wp2_with fail
                        refine HG4.out.mono ?_
                        rintro e w7 ⟨rfl, n7, rfl⟩
                        have HQ7 := Lib.hid (HQ.out.drewN n7)
                        have q7 : ((wr.drewN n7).setCell ⟨b, yy, none⟩ (.int .i64 rg)).cell? ⟨nb, no + mm, none⟩ = some (.int .i64 yy) := by
                          rw [World.cell?_setCell_other _ _ _ _ (by intro e; simp only [Addr.mk.injEq] at e; omega)]
                          exact q1
                        have hown7 : ((wr.drewN n7).setCell ⟨b, yy, none⟩ (.int .i64 rg)).ownsRow wb.heap.size 3 1 v' L'.length (ixV L') := own_setCell HLQ.out hbl _ n7
                        have hs7 : ((wr.drewN n7).setCell ⟨b, yy, none⟩ (.int .i64 rg)).heap.size = wr.heap.size := by simp [World.setCell]
                        go_wp2_with (first | (at_builtin; refine wpList_append_own_at _ rfl _ _ 27 rfl wb.heap.size 3 i0 (.int .i64 0) 1 8 Try.underlying27 hi0 hz0 hz1 hz2 rfl (by decide) _ L'.length (ixV L') rfl (hown7.alloc _) ⟨wr.heap.size, 0, none⟩ 1 1 [.int .i64 yy] rfl rfl (World.news_of_block (cs := #[.int .i64 yy]) (t := 3) (fr := (0, 0)) (by have h9 := heap_alloc_new ((wr.drewN n7).setCell ⟨b, yy, none⟩ (.int .i64 rg)) (.cells #[.int .i64 yy] 3); rw [hs7] at h9; exact h9)) (by simp [Value.oneCell']) (by unfold maxLen; omega) (by omega) (by simp [World.setCell] <;> omega) ?_; intro v9 w9 hown9 hg9 _ hat9))
                        have HQ9 := Lib.hid (HQ7.out.push y rg (by rw [EYY.out]; exact hyN) HLB.out hbl hbl3 hb1 hszk EYY.out hown9 hg9 hat9)
                        clear hown9 hg9 hat9 hown7 q7
                        go_wp2
                        go_roundw
                        case rel => exact ⟨L' ++ [y], mm + 1, v9, by omega, by go_num, rfl, HFD5.out, HQ9.out, HPRE2.out, HD2.out⟩
                        case measure => simp [intOf]; omega
                      · rw [lab_neg (by omega)] at c6
                        have HD2 := Lib.hid (show ∀ y', y' ∈ l.take (mm + 1) → lv ≤ g.flat y'.1 → y' ∈ L' from fun y' hy' hl' => by
                          rw [HTK.out] at hy'
                          rcases List.mem_append.1 hy' with h | h
                          · exact HDONE.out y' h hl'
                          · simp at h; subst h; exact absurd hl' hz4)
                        obtain ⟨yy, eyy⟩ : ∃ yy, y.1 = yy := ⟨_, rfl⟩
                        obtain ⟨z4, ez4⟩ : ∃ z4, g.flat y.1 = z4 := ⟨_, rfl⟩
                        rw [ez4] at HG4 hz4
                        rw [eyy] at q1 c6 f6 hyN HG4
                        have hyN' : (yy : Int) < N := by omega
                        clear eyy ez4
                        go_wp2_with fail
                        refine HG4.out.mono ?_
                        rintro e w7 ⟨rfl, n7, rfl⟩
                        have HQ7 := Lib.hid (HQ.out.drewN n7)
                        go_wp2
                        go_roundw
                        case rel => exact ⟨L', mm + 1, _, by omega, by go_num, rfl, HFD4.out, HQ7.out, HPRE.out, HD2.out⟩
                        case measure => simp [intOf]; omega
                  · have emm : mm = l.length := by omega
                    subst emm
                    have HCL := Lib.hid (show ∀ j (hj : j < L'.length), j < p + 1 → ∀ y, y ∈ near R C L'[j] 4 → lv ≤ g.flat y.1 → y ∈ L' from fun j hj hjp y hy hl' => by
                      obtain ⟨t, ht⟩ := HPRE.out
                      by_cases e : j = p
                      · subst e
                        have e1 : L'[j] = x := by
                          rw [← HXL.out hlt3]
                          simp only [ht]
                          rw [List.getElem_append_left hlt3]
                        rw [e1, EL.out] at hy
                        exact HDONE.out y (by rw [List.take_length]; exact hy) hl'
                      · have hjL : j < L.length := by omega
                        have e1 : L'[j] = L[j] := by
                          simp only [ht]
                          rw [List.getElem_append_left hjL]
                        rw [e1] at hy
                        rw [ht]
                        exact List.mem_append_left _ (HCL3.out j hjL (by omega) y hy hl'))
                    have hlen : p + 1 ≤ L'.length := by
                      obtain ⟨t, ht⟩ := HPRE.out
                      rw [ht, List.length_append]
                      omega
                    have hge4 : ¬ ((l.length : Nat) : Int) < l.length := by omega
                    clear hq
                    go_wp2
                    go_roundw
                    case rel => exact ⟨L', p + 1, _, hlen, by go_num, rfl, HFD4.out, HQ.out.li, HQ.out.row, HCL.out, HQ.out.bel⟩
                    case measure => simp [intOf]; omega
              · have ep : p = L.length := by omega
                have HDN := Lib.hid (HFD3.out.done (fun x hx y hy hl => by
                  obtain ⟨j, hj, rfl⟩ := List.getElem_of_mem hx
                  exact HCL3.out j hj (by omega) y hy hl))
                have HROW9 := Lib.hid (show wr.rowIs b 3 cap (ouF N F (lab R C g.flat lv (k + 1))) from HR3.out.congr (fun j _ => ouF_congr (fun j hj => HDN.out j (by rw [EN.out]; exact hj)) j))
                rw [ep]
                have hge3 : ¬ ((L.length : Nat) : Int) < L.length := by omega
                clear hli ep
                go_wp2
                go_roundw
                case rel => exact ⟨k + 1, by omega, by go_num, by rw [HRG.out]; go_num, HROW9.out, HB3.out⟩
                case measure => simp [intOf]; omega
          · have HSK := Lib.hid (fun j => lab_skip (R := R) (C := C) (Z := g.flat) (lv := lv) (i := k) (j := j) hroot)
            have HRN := Lib.hid (rgN_no (R := R) (C := C) (Z := g.flat) (lv := lv) (k := k) hroot)
            have HROW9 := Lib.hid (fun n => show (wr.drewN n).rowIs b 3 cap (ouF N F (lab R C g.flat lv (k + 1))) from (HRK.out.congr (fun j _ => ouF_congr (fun j _ => (HSK.out j).symm) j)).of_block rfl)
            by_cases hl : lv ≤ g.flat k
            · have hq0 := lab_pos (R := R) (C := C) (Z := g.flat) (lv := lv) (i := k) (j := k) ⟨hl, by have : cmZ R C g.flat lv k ≠ k := fun e => hroot ⟨hl, e⟩; omega⟩
              have hq1 := lab_range R C g.flat lv k k (by omega)
              obtain ⟨q, eq⟩ : ∃ q, lab R C g.flat lv k k = q := ⟨_, rfl⟩
              rw [eq] at c5 hq0 hq1
              clear eq hroot hl
              go_wp2
              go_roundw
              case rel => exact ⟨k + 1, by omega, by go_num, by rw [HRN.out], HROW9.out 0, HBK.out⟩
              case measure => simp [intOf]; omega
            · rw [lab_neg (by omega)] at c5
              obtain ⟨z, ez⟩ : ∃ z, g.flat k = z := ⟨_, rfl⟩
              rw [ez] at HG hl
              clear ez hroot
              go_wp2_with fail
              refine HG.out.mono ?_
              rintro e w3 ⟨rfl, n3, rfl⟩
              have hl2 : z < lv := by omega
              go_wp2
              go_roundw
              case rel => exact ⟨k + 1, by omega, by go_num, by rw [HRN.out], HROW9.out n3, below_drewN HBK.out n3⟩
              case measure => simp [intOf]; omega
        · have ek : k = N := by omega
          have HF9 := Lib.hid (show ∀ j, j < R * C → ouF N F (lab R C g.flat lv N) j = .int .i64 (numZ R C g.flat lv j) from fun j hj => by
            rw [ouF_at (by rw [← EN.out]; exact hj), lab_all (by rw [← EN.out]; exact hj)])
          rw [ek] at HRK ⊢
          have hge2 : ¬ (N : Int) < N := by omega
          have HCAP := Lib.hid (show R * C ≤ cap ∧ cap ≤ maxLen from ⟨by rw [EN.out]; exact hc1, HC2.out⟩)
          clear hrow ek hlt hk
          go_wp2
          go_ret2
          exact ⟨b, cap, _, by rw [EN.out]; rfl, hb1, HCAP.out, HRK.out, HF9.out, HBK.out⟩

end Go.Proofs.Ytplfphpnpjjinab
