/- The program's iterator over the sides between land cells. -/
import Derived.Test.YtplfphpnpjjinabLvI2
import Derived.Test.YtplfphpnpjjinabRgM2
import Derived.Test.YtplfphpnpjjinabM3
namespace Go.Proofs.Ytplfphpnpjjinab
open Go.RowKit Go.Shelf
set_option linter.unusedVariables false
attribute [local go_sem] Oper.semAt_some

/-- from s on, and at Bm and gg, all blocks lie as they lay -/
structure KqS (Bm gg s : Nat) (A B : World) : Prop where
  size : A.heap.size ≤ B.heap.size
  same : ∀ k, (s ≤ k ∨ k = Bm ∨ k = gg) → k < A.heap.size → B.heap[k]? = A.heap[k]?
theorem KqS.refl (Bm gg s : Nat) (A : World) : KqS Bm gg s A A := ⟨Nat.le_refl _, fun _ _ _ => rfl⟩
theorem KqS.trans {Bm gg s : Nat} {A B C : World} (h : KqS Bm gg s A B) (k : KqS Bm gg s B C) : KqS Bm gg s A C :=
  ⟨Nat.le_trans h.size k.size, fun i hi hlt => (k.same i hi (Nat.lt_of_lt_of_le hlt h.size)).trans (h.same i hi hlt)⟩
theorem KqS.of_below {Bm gg s : Nat} {A B : World} (h : Below A.heap.size A B) : KqS Bm gg s A B := ⟨h.size, fun k _ hk => h.block k hk⟩
theorem KqS.low {Bm gg s s' : Nat} {A B : World} (h : KqS Bm gg s A B) (hs : s ≤ s') : KqS Bm gg s' A B := ⟨h.size, fun k hk => h.same k (by omega)⟩
theorem ownFrom_kqs {β : Type} {Bm gg s B : Nat} {A : World} (hB : A.heap.size ≤ B) : OwnFrom B (fun (_ : β) W => KqS Bm gg s A W) := fun _ X Y row hs hg hrow =>
  ⟨Nat.le_trans hs.size hg.size, fun k hk hlt => (hg.block k (Nat.lt_of_lt_of_le hlt hs.size) (fun e => by have := (hrow k e.symm).1; omega)).trans (hs.same k hk hlt)⟩
theorem own_below {β : Type} {B : Nat} {J : β → World → Prop} (h : OwnFrom B J) {s : β} {W W' : World} (hs : J s W) (hb : Below W.heap.size W W') : J s W' :=
  h s W W' none hs ⟨hb.os, hb.tape, hb.output, hb.size, fun k hk _ => hb.block k hk⟩ (fun r e => by cases e)

def pEnc {M : Nat} (x : Ix M × Ix M) : Array Value := #[.int .i64 x.1.1, .int .i64 x.2.1]

set_option maxRecDepth 100000 in
set_option maxHeartbeats 20000000 in
theorem sides_calm (n : Nat) (hn : 4 ≤ n) (Bm R C gg cap cnt : Nat) (hR : R ≤ 7) (hC : C ≤ 7) (Z : Nat → Int) (lv : Int) (w : World) (hBm : Bm < w.heap.size)
    (hlay : w.heap[Bm]? = some (.cells #[.int .i64 R, .int .i64 C, .slice (some ⟨gg, 0, none⟩) cnt cap, .int .i64 lv] 60 (0, 0))) (hrv : Rv w R C cnt gg cap Z) :
    CalmSeq Fence.wide n Try.prog 107 #[.pointer (some ⟨Bm, 0, none⟩)] pEnc (KqS Bm gg) (fun ys => ys = prN R C Z lv (R * C)) (4 * (R * C)) w := by
  intro l J W hW hJ hY h0
  have HJ := Lib.hid hJ
  have HJ0 := Lib.hid h0
  have HY := Lib.hid hY
  have hcn := hrv.n_eq
  have h49 := mul_le_49 hR hC
  have hcn49 : cnt ≤ 49 := by omega
  have HCN := Lib.hid hcn
  have hgg : gg < w.heap.size := hrv.lt
  have hcap : cnt ≤ cap := hrv.le
  have hsW := hW.size
  have HLAY := Lib.hid ((hW.block Bm hBm).trans hlay)
  have HRV := Lib.hid (hrv.keep hW (Nat.le_refl _))
  have hBW : Bm < W.heap.size := Nat.lt_of_lt_of_le hBm hsW
  have hgW : gg < W.heap.size := Nat.lt_of_lt_of_le hgg hsW
  obtain ⟨a0, a1, a2, a3⟩ := cells4 HLAY.out
  clear hJ h0 hY hcn hrv hlay hW
  refine callsIn_of_wp_marks Try.func107 rfl trivial ?_ rfl
  simp only [Try.ntmps107, List.size_toArray, List.length_cons, List.length_nil, Nat.reduceAdd, Nat.reduceSub, Array.replicate_succ, Array.replicate_zero, List.push_toArray, List.append_toArray, List.nil_append, List.cons_append]
  gi_wp2
  have HB1 := Lib.hid ((Below.refl W.heap.size W).alloc (Nat.le_refl _) (.cells #[.func (.yield l) #[] #[]] 69))
  have HYB := Lib.hid (heap_alloc_new W (.cells #[.func (.yield l) #[] #[]] 69))
  generalize hW1 : W.alloc (.cells #[.func (.yield l) #[] #[]] 69) = W1 at HB1 HYB ⊢
  have hsW1 : W1.heap.size = W.heap.size + 1 := by rw [← hW1]; simp
  have HJ1 := Lib.hid (own_below HJ.out HJ0.out HB1.out)
  clear hW1 a0 a1 a2 a3
  refine wpIn_loop_k (fun a V => ∃ (k : Nat) (ds : List Deferred) (u3 u10 u11 u12 u13 u14 u15 u37 : Value), a = { tmps := #[.func (.yield l) #[] #[], .pointer (some ⟨Bm, 0, none⟩), .pointer (some ⟨W.heap.size, 0, none⟩), u3, undef, .pointer (some ⟨Bm, 0, none⟩), .pointer (some ⟨Bm, 2, none⟩), .slice (some ⟨gg, 0, none⟩) cnt cap, .int .i64 cnt, .int .i64 k, u10, u11, u12, u13, u14, u15, undef, undef, undef, undef, undef, undef, undef, undef, undef, undef, undef, undef, undef, undef, undef, undef, undef, undef, undef, undef, undef, u37], defers := ds } ∧
      k ≤ cnt ∧ J (prN R C Z lv k) V ∧ KqS Bm gg W.heap.size W1 V ∧ Coll W.heap.size V.heap.size ds V)
    (fun a _ => cnt - (intOf (a.tmps.getD 9 undef)).toNat) ⟨0, [], _, _, _, _, _, _, _, _, rfl, Nat.zero_le _, HJ1.out, KqS.refl _ _ _ _, Coll.nil⟩ ?_
  rintro _ V ⟨k, ds, u3, u10, u11, u12, u13, u14, u15, u37, rfl, hk, hJk, hkq, hcoll⟩ K hK
  have HK := Lib.hid @hK
  have HJK := Lib.hid hJk
  have HKQ := Lib.hid hkq
  have HCO := Lib.hid hcoll
  have hsV := hkq.size
  have HLV := Lib.hid ((hkq.same Bm (by omega) (by omega)).trans ((HB1.out.block Bm hBW).trans HLAY.out))
  have HYV := Lib.hid ((hkq.same W.heap.size (by omega) (by omega)).trans HYB.out)
  have HRVV := Lib.hid ((HRV.out.keep HB1.out (Nat.le_refl _)).kb (show Kb gg W1 V from ⟨hkq.size, hkq.same gg (by omega) (by omega)⟩))
  by_cases hlt : k < cnt
  · obtain ⟨i, hi'⟩ : ∃ i : Ix (R * C), i.1 = k := ⟨⟨k, by rw [← HCN.out]; exact hlt⟩, rfl⟩
    have HI := Lib.hid hi'
    obtain ⟨m0, m1, m2, m3⟩ := cells4 HLV.out
    have hne : Bm ≠ V.heap.size := by omega
    have hBV : Bm < V.heap.size := by omega
    have hlen := prN_len R C Z lv k
    have hle := sidesN_le R C Z lv k
    have HPR := Lib.hid (show prN R C Z lv (k + 1) = prN R C Z lv k ++ prL Z lv i (near R C i 4) by rw [← hi']; exact prN_succ i)
    clear hK hJk hkq hcoll hi'
    gi_wp2_with (refine ⟨trivial, (fun _ => by omega), ?_⟩; gi_at_call 93; refine (callsIn_wide.2 (nb_any R C gg cnt cap k _)).mono ?_; rintro e w' ⟨rfl, rfl⟩)
    obtain ⟨n1, n2, n3, nsz, nb⟩ := three_allocs V (.cells #[.int .i64 k] 3) (.cells #[.int .i64 R, .int .i64 C, .slice (some ⟨gg, 0, none⟩) cnt cap] 50) (.cells #[.int .i64 k] 3)
    generalize hV3 : ((V.alloc (.cells #[.int .i64 k] 3)).alloc (.cells #[.int .i64 R, .int .i64 C, .slice (some ⟨gg, 0, none⟩) cnt cap] 50)).alloc (.cells #[.int .i64 k] 3) = V3 at n1 n2 n3 nsz nb ⊢
    have E1 := Lib.hid n1
    have E2 := Lib.hid n2
    have E3 := Lib.hid n3
    have NB := Lib.hid nb
    clear hV3 n1 n2 n3 nb m0 m1 m2 m3
    refine wpIn_rangeFunc_ownG (ps := #[16]) rfl (by omega) (gf := 108) (lb := #[.pointer (some ⟨V.heap.size + 1 + 1, 0, none⟩), .pointer (some ⟨V.heap.size + 1, 0, none⟩)]) rfl trivial (enters_of Try.func108 (by kernel_rfl) rfl)
      (nb_stops (n - 1) (by omega) (V.heap.size + 1 + 1) (V.heap.size + 1) R C gg cap cnt hR hC i V3 (by omega) (by omega) (by rw [HI.out]; exact one_cell E3.out) (three_cells E2.out)) Kb.trans (kb_b (by omega)) (Below.refl _ _) (fun _ => rfl)
      (fun pre X => (J (prN R C Z lv k ++ prL Z lv i pre) X ∧ KqS Bm gg W.heap.size V3 X) ∧ Coll W.heap.size V.heap.size ds X)
      (fun _ _ _ => False)
      (OwnFrom.and (OwnFrom.and (fun s X Y row hs hg hrow => HJ.out _ X Y row hs hg (fun r e => ⟨by have := (hrow r e).1; omega, (hrow r e).2⟩)) (ownFrom_kqs (Nat.le_refl _))) (ownFrom_coll (by omega)))
      (fun _ _ _ _ _ hs _ _ => hs)
      ⟨⟨by simpa [prL] using own_below HJ.out HJK.out NB.out, KqS.refl _ _ _ _⟩, HCO.out.below NB.out (Nat.le_refl _)⟩
      (fun x => { tmps := #[.func (.yield l) #[] #[], .pointer (some ⟨Bm, 0, none⟩), .pointer (some ⟨W.heap.size, 0, none⟩), .pointer (some ⟨V.heap.size, 0, none⟩), .int .i64 x.1, .pointer (some ⟨Bm, 0, none⟩), .pointer (some ⟨Bm, 2, none⟩), .slice (some ⟨gg, 0, none⟩) cnt cap, .int .i64 cnt, .int .i64 k, .bool true, .int .i64 k, .pointer (some ⟨Bm, 0, none⟩), .agg #[.int .i64 R, .int .i64 C, .slice (some ⟨gg, 0, none⟩) cnt cap], .int .i64 k, .func (.func 108) #[] #[.pointer (some ⟨V.heap.size + 1 + 1, 0, none⟩), .pointer (some ⟨V.heap.size + 1, 0, none⟩)], .int .i64 x.1, undef, undef, undef, undef, undef, undef, undef, undef, undef, undef, undef, undef, undef, undef, undef, undef, undef, undef, undef, undef, u37], defers := [] }) ?assign ?body ?done ?stop
    case assign =>
      intro l2 x X K2 hK2
      gi_wp2
      simpa using hK2
    case body =>
      rintro l2 pre x X ⟨⟨hJx, hkx⟩, hco⟩ hpl
      dsimp only
      have hsX := hkx.size
      have hlX := (hkx.same Bm (by omega) (by omega)).trans ((NB.out.block Bm hBV).trans HLV.out)
      have hiX := (hkx.same V.heap.size (by omega) (by omega)).trans E1.out
      have hyX := (hkx.same W.heap.size (by omega) (by omega)).trans ((NB.out.block W.heap.size (by omega)).trans HYV.out)
      have HRX := Lib.hid ((HRVV.out.keep NB.out (Nat.le_refl _)).kb (show Kb gg V3 X from ⟨hkx.size, hkx.same gg (by omega) (by omega)⟩))
      have hplen := prL_len Z lv i pre
      have hsdl := sdL_le Z lv i pre
      have HLEN := Lib.hid (show (prN R C Z lv k ++ prL Z lv i pre).length < 4 * (R * C) by rw [List.length_append]; have := HCN.out; omega)
      have HSN := Lib.hid (prL_snoc Z lv i pre x)
      rw [HI.out] at HSN
      have hxc : x.1 < cnt := by rw [HCN.out]; exact x.2
      have HJX := Lib.hid hJx
      have HKX := Lib.hid hkx
      have HCX := Lib.hid hco
      have HLX := Lib.hid hlX
      have HIX := Lib.hid hiX
      have HYX := Lib.hid hyX
      obtain ⟨m0, m1, m2, m3⟩ := cells4 hlX
      have ci := one_cell hiX
      have cy := one_cell hyX
      obtain ⟨y, ey⟩ : ∃ y, x.1 = y := ⟨_, rfl⟩
      have HYE := Lib.hid ey
      rw [ey] at HSN hxc
      rw [ey]
      have hy49 : y ≤ 48 := by omega
      have hk48 : k ≤ 48 := by omega
      clear hJx hkx hco hlX hiX hyX ey hplen hsdl hle hlen
      by_cases hlx : k < y
      case neg =>
        have hd : decide ((k : Int) < (y : Int)) = false := by simp; omega
        have HS2 := Lib.hid (show prL Z lv i (pre ++ [x]) = prL Z lv i pre by rw [HSN.out, if_neg (fun h => by omega), List.append_nil])
        gi_wp2
        repeat (first | (refine ⟨trivial, ?_⟩; gi_wp2) | (refine ⟨trivial, (fun _ => by omega), ?_⟩; gi_wp2) | (refine ⟨fun _ h => (by cases h), ?_⟩; gi_wp2))
        exact ⟨KeepsFrom.refl _ _, ⟨Nat.le_refl _, rfl⟩, ⟨by rw [HS2.out]; exact HJX.out, HKX.out⟩, HCX.out⟩
      case pos =>
        have hd : decide ((k : Int) < (y : Int)) = true := by simp; omega
        by_cases hz1 : lv ≤ Z k
        case neg =>
          have HS2 := Lib.hid (show prL Z lv i (pre ++ [x]) = prL Z lv i pre by rw [HSN.out, if_neg (fun h => hz1 h.2.1), List.append_nil])
          have HIL := Lib.hid (isLand_no R C gg cap cnt Z lv k X HRX.out hlt (by omega) hz1)
          clear hz1
          gi_wp2_with fail
          refine ⟨trivial, (fun _ => by omega), ?_⟩
          gi_at_call 92
          refine ((callsIn_wide.2 HIL.out).inRound l2).mono ?_
          rintro e v0 ⟨rfl, hb0⟩
          have B0 := Lib.hid hb0
          clear hb0 m0 m1 m2 m3 ci cy
          gi_wp2
          repeat (first | (refine ⟨trivial, ?_⟩; gi_wp2) | (refine ⟨trivial, (fun _ => by omega), ?_⟩; gi_wp2) | (refine ⟨fun _ h => (by cases h), ?_⟩; gi_wp2))
          exact ⟨(others_below B0.out).from _, Kb.of_below B0.out (by omega), ⟨by rw [HS2.out]; exact own_below HJ.out HJX.out B0.out, HKX.out.trans (KqS.of_below B0.out)⟩, HCX.out.others (others_below B0.out)⟩
        case pos =>
          have HIL := Lib.hid (isLand_yes R C gg cap cnt Z lv k X HRX.out hlt (by omega) hz1)
          by_cases hz2 : lv ≤ Z y
          case neg =>
            have HS2 := Lib.hid (show prL Z lv i (pre ++ [x]) = prL Z lv i pre by rw [HSN.out, if_neg (fun h => hz2 h.2.2), List.append_nil])
            have HIN := Lib.hid (fun (U : World) (hU : Below X.heap.size X U) => isLand_no R C gg cap cnt Z lv y U (HRX.out.keep hU (Nat.le_refl _)) hxc (by omega) hz2)
            clear hz1 hz2
            gi_wp2_with fail
            refine ⟨trivial, (fun _ => by omega), ?_⟩
            gi_at_call 92
            refine ((callsIn_wide.2 HIL.out).inRound l2).mono ?_
            rintro e v0 ⟨rfl, hb0⟩
            have B0 := Lib.hid hb0
            have n0 := (hb0.cell (p := ⟨Bm, 0, none⟩) (by show Bm < _; omega)).trans m0
            have n1 := (hb0.cell (p := ⟨Bm, 1, none⟩) (by show Bm < _; omega)).trans m1
            have n2 := (hb0.cell (p := ⟨Bm, 2, none⟩) (by show Bm < _; omega)).trans m2
            have n3 := (hb0.cell (p := ⟨Bm, 3, none⟩) (by show Bm < _; omega)).trans m3
            clear hb0 m0 m1 m2 m3 ci cy
            gi_wp2_with fail
            refine ⟨trivial, (fun _ => by omega), ?_⟩
            gi_at_call 92
            refine ((callsIn_wide.2 (HIN.out v0 B0.out)).inRound l2).mono ?_
            rintro e v1 ⟨rfl, hb1⟩
            have B1 := Lib.hid (B0.out.trans (hb1.mono B0.out.size))
            clear hb1 n0 n1 n2 n3
            gi_wp2
            repeat (first | (refine ⟨trivial, ?_⟩; gi_wp2) | (refine ⟨trivial, (fun _ => by omega), ?_⟩; gi_wp2) | (refine ⟨fun _ h => (by cases h), ?_⟩; gi_wp2))
            exact ⟨(others_below B1.out).from _, Kb.of_below B1.out (by omega), ⟨by rw [HS2.out]; exact own_below HJ.out HJX.out B1.out, HKX.out.trans (KqS.of_below B1.out)⟩, HCX.out.others (others_below B1.out)⟩
          case pos =>
            have HS2 := Lib.hid (show prL Z lv i (pre ++ [x]) = prL Z lv i pre ++ [(i, x)] by rw [HSN.out, if_pos ⟨hlx, hz1, hz2⟩])
            have HIN := Lib.hid (fun (U : World) (hU : Below X.heap.size X U) => isLand_yes R C gg cap cnt Z lv y U (HRX.out.keep hU (Nat.le_refl _)) hxc (by omega) hz2)
            clear hz1 hz2
            gi_wp2_with fail
            refine ⟨trivial, (fun _ => by omega), ?_⟩
            gi_at_call 92
            refine ((callsIn_wide.2 HIL.out).inRound l2).mono ?_
            rintro e v0 ⟨rfl, hb0⟩
            have B0 := Lib.hid hb0
            have n0 := (hb0.cell (p := ⟨Bm, 0, none⟩) (by show Bm < _; omega)).trans m0
            have n1 := (hb0.cell (p := ⟨Bm, 1, none⟩) (by show Bm < _; omega)).trans m1
            have n2 := (hb0.cell (p := ⟨Bm, 2, none⟩) (by show Bm < _; omega)).trans m2
            have n3 := (hb0.cell (p := ⟨Bm, 3, none⟩) (by show Bm < _; omega)).trans m3
            clear hb0 m0 m1 m2 m3 ci cy
            gi_wp2_with fail
            refine ⟨trivial, (fun _ => by omega), ?_⟩
            gi_at_call 92
            refine ((callsIn_wide.2 (HIN.out v0 B0.out)).inRound l2).mono ?_
            rintro e v1 ⟨rfl, hb1⟩
            have hB1 := B0.out.trans (hb1.mono B0.out.size)
            have B1 := Lib.hid hB1
            have hs1 := hB1.size
            have ci := one_cell ((hB1.block V.heap.size (by omega)).trans HIX.out)
            have cy := one_cell ((hB1.block W.heap.size (by omega)).trans HYX.out)
            obtain ⟨fn, tmps, assign, body, hy, hRd⟩ := yield_round (l' := l2) (m' := n - 1 - 1 - 1) (HY.out (prN R C Z lv k ++ prL Z lv i pre) (i, x) v1 (own_below HJ.out HJX.out hB1) HLEN.out)
            simp only [pEnc] at hy
            rw [HI.out, HYE.out] at hy
            clear hb1 hB1 n0 n1 n2 n3
            gi_wp2
            refine ⟨(fun _ => by omega), ?_⟩
            refine hRd.mono ?_
            rintro e U ⟨rfl, hJ', hq⟩
            have HJ2 := Lib.hid hJ'
            have HQ2 := Lib.hid hq
            have hsU := hq.size
            clear hJ' hq hy hRd ci cy
            gi_wp2
            refine ⟨⟨by omega, fun q o hB ho _ => ?_⟩, ⟨by omega, ?_⟩, ⟨?_, (HKX.out.trans (KqS.of_below B1.out)).trans HQ2.out⟩, HCX.out.keep fun q o hN hB ho _ => ?_⟩
            · have hlq := (Array.getElem?_eq_some_iff.1 ho).1
              exact (HQ2.out.same q (by omega) (by omega)).trans ((B1.out.block q hlq).trans ho)
            · exact (HQ2.out.same _ (by omega) (by omega)).trans (B1.out.block _ (by omega))
            · rw [HS2.out, ← List.append_assoc]; exact HJ2.out
            · have hlq := (Array.getElem?_eq_some_iff.1 ho).1
              exact (HQ2.out.same q (by omega) (by omega)).trans ((B1.out.block q hlq).trans ho)
    case done =>
      rintro D ys X hD rfl ⟨⟨hJx, hkx⟩, hco⟩ hKD
      have hDlt := (Array.getElem?_eq_some_iff.1 hKD).1
      have G1 := Lib.hid (show J (prN R C Z lv (k + 1)) X by rw [HPR.out]; exact hJx)
      have G2 := Lib.hid ((HKQ.out.trans (KqS.of_below NB.out)).trans hkx)
      have G3 := Lib.hid ((hco.cons (by omega) (by omega) hKD).mono (N' := X.heap.size) (by omega))
      clear hJx hkx hco hKD
      gi_wp2
      refine HK.out _ _ ⟨k + 1, _, _, _, _, _, _, _, _, _, rfl, by omega, G1.out, G2.out, G3.out⟩ ?_
      simp [intOf]; omega
    case stop =>
      rintro D c pre X _ _ h _
      exact h.elim
  · have ek : k = cnt := by omega
    have hge : ¬ (k : Int) < cnt := by omega
    have HJE := Lib.hid (show J (prN R C Z lv (R * C)) V by rw [← HCN.out, ← ek]; exact hJk)
    clear hK hJk hkq hcoll ek
    gi_wp2
    exact HCO.out.leaves_own (J (prN R C Z lv (R * C))) (fun A D hD hA hJA => HJ.out.putObj _ hJA hD hA rfl) (fun W => results_none rfl _ _ _) HJE.out (fun W' hT => by first | exact ⟨⟨_, rfl⟩, _, rfl, hT⟩ | exact ⟨⟨_, rfl⟩, hT⟩ | exact hT)

end Go.Proofs.Ytplfphpnpjjinab
