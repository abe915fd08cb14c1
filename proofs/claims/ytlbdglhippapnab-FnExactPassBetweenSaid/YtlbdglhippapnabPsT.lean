/- The pass from a cell to those of a kind, in the program. -/
import Derived.Test.YtlbdglhippapnabPsW
import Derived.Test.YtlbdglhippapnabKeyS
namespace Go.Proofs.Ytlbdglhippapnab
open Go.RowKit Go.Shelf
set_option linter.unusedVariables false
attribute [local go_sem] Oper.semAt_some

theorem Vis.found {R C : Nat} {Z : Nat → Int} {st : Ix (R * C)} {wt : Ix (R * C) → Bool} {L : List (Ix (R * C) × Int)} {x : Ix (R * C) × Int} (h : Vis R C Z st (L ++ [x])) (hx : wt x.1 = true) (hL : ∀ e ∈ L, wt e.1 = false) : PsTo R C Z st wt x.2 := by
  have hm : x ∈ L ++ [x] := by simp
  refine Or.inl ⟨x.1, hx, h.ok x hm, fun y q hy hq => ?_⟩
  by_cases e : y ∈ (L ++ [x]).map Prod.fst
  · obtain ⟨e1, he, e2⟩ := List.mem_map.1 e
    rcases List.mem_append.1 he with k | k
    · have := hL e1 k
      rw [e2, hy] at this
      cases this
    · rw [List.mem_singleton] at k
      subst k
      subst e2
      have := hq.eq (h.ok e1 hm)
      omega
  · exact h.ub y e q hq.1 x hm
theorem Vis.none {R C : Nat} {Z : Nat → Int} {st : Ix (R * C)} {wt : Ix (R * C) → Bool} {L : List (Ix (R * C) × Int)} (h : Vis R C Z st L) (ha : AllIn L) (hL : ∀ e ∈ L, wt e.1 = false) : PsTo R C Z st wt ((L.getLast?.map Prod.snd).getD 0) := by
  have hne : L ≠ [] := fun e => by
    have := ha st
    rw [e] at this
    simp at this
  obtain ⟨L', x, rfl⟩ : ∃ L' x, L = L' ++ [x] := ⟨L.dropLast, L.getLast hne, (List.dropLast_concat_getLast hne).symm⟩
  have hlow : ∀ e ∈ L' ++ [x], x.2 ≤ e.2 := fun e he => by
    rcases List.mem_append.1 he with k | k
    · have := List.pairwise_append.1 h.mono
      exact this.2.2 e k x (by simp)
    · rw [List.mem_singleton] at k
      subst k
      exact Int.le_refl _
  have hfor : ∀ y : Ix (R * C), ∃ e ∈ L' ++ [x], e.1 = y := fun y => by
    obtain ⟨e, he, e2⟩ := List.mem_map.1 (ha y)
    exact ⟨e, he, e2⟩
  refine Or.inr ⟨fun y => ?_, fun y => ?_, fun q hq => ?_⟩
  · obtain ⟨e, he, rfl⟩ := hfor y
    exact hL e he
  · obtain ⟨e, he, rfl⟩ := hfor y
    have h1 := hlow e he
    have h2 := (h.ok e he).1.lst
    simp
    omega
  · have := (h.ok x (by simp)).2 q (rch_all (fun a ha => hq ⟨a, ha⟩) st x.1)
    simpa using this

theorem passes_any (R C gg cap cnt k : Nat) (w : World) :
    Calls Try.prog 73 #[.agg #[.int .i64 R, .int .i64 C, .slice (some ⟨gg, 0, none⟩) cnt cap], .int .i64 k] w (fun e w' => e = .returned (.func (.func 80) #[] #[.pointer (some ⟨w.heap.size, 0, none⟩), .pointer (some ⟨w.heap.size + 1, 0, none⟩)]) ∧
      w' = (w.alloc (.cells #[.int .i64 R, .int .i64 C, .slice (some ⟨gg, 0, none⟩) cnt cap] 38)).alloc (.cells #[.int .i64 k] 3)) := by
  go_enter Try.func73, Try.ntmps73
  go_wp2
  go_ret
  exact ⟨rfl, rfl⟩

set_option maxRecDepth 100000 in
set_option maxHeartbeats 8000000 in
theorem passTo_any (R C gg cap cnt : Nat) (hR : R ≤ 7) (hC : C ≤ 7) (Z : Nat → Int) (hZ : ∀ x, x < R * C → 0 ≤ Z x ∧ Z x ≤ 99) (st : Ix (R * C)) (fw : Nat) (caps : Array Value) (wt : Ix (R * C) → Bool) (w : World) (h : Rv w R C cnt gg cap Z)
    (hcf : ∀ (args : Array Value) (W : World), Sem.run Try.prog (callFunc fw args) W = .ok (.enter fw args) W)
    (hf : ∀ (x : Ix (R * C)) (W : World), Below w.heap.size w W → Calls Try.prog fw (#[.agg #[.int .i64 (Z x.1), .int .i64 x.1]] ++ caps) W (BlPost (wt x) W)) :
    Calls Try.prog 69 #[.agg #[.int .i64 R, .int .i64 C, .slice (some ⟨gg, 0, none⟩) cnt cap], .int .i64 st.1, .func (.func fw) #[] caps] w (fun e w' => ∃ v, e = .returned (.int .i64 v) ∧ PsTo R C Z st wt v ∧ Below w.heap.size w w') := by
  have H := Lib.hid h
  have HZ := Lib.hid hZ
  have HF := Lib.hid hf
  have hgl : gg < w.heap.size := h.lt
  clear h hZ hf
  refine (callsIn_wide (n := 8)).1 ?_
  refine callsIn_of_wp_marks Try.func69 rfl trivial ?_ rfl
  simp only [Try.ntmps69, List.size_toArray, List.length_cons, List.length_nil, Nat.reduceAdd, Nat.reduceSub, Array.replicate_succ, Array.replicate_zero, List.push_toArray, List.append_toArray, List.nil_append, List.cons_append]
  gi_wp2_with (refine ⟨trivial, ?_⟩; gi_at_call 73; refine (callsIn_wide.2 (passes_any R C gg cap cnt st.1 _)).mono ?_; rintro e w' ⟨rfl, rfl⟩)
  obtain ⟨k1, k2, k3, k4, k5, ksz, kb⟩ := five_allocs w (.cells #[.int .i64 R, .int .i64 C, .slice (some ⟨gg, 0, none⟩) cnt cap] 38) (.cells #[(.func (.func fw) #[] caps)] 66) (.cells #[.int .i64 0] 3) (.cells #[.int .i64 R, .int .i64 C, .slice (some ⟨gg, 0, none⟩) cnt cap] 38) (.cells #[.int .i64 st.1] 3)
  generalize hW0 : ((((w.alloc (.cells #[.int .i64 R, .int .i64 C, .slice (some ⟨gg, 0, none⟩) cnt cap] 38)).alloc (.cells #[(.func (.func fw) #[] caps)] 66)).alloc (.cells #[.int .i64 0] 3)).alloc (.cells #[.int .i64 R, .int .i64 C, .slice (some ⟨gg, 0, none⟩) cnt cap] 38)).alloc (.cells #[.int .i64 st.1] 3) = W0 at k1 k2 k3 k4 k5 ksz kb ⊢
  clear hW0
  have HK2 := Lib.hid k2
  have HK3 := Lib.hid k3
  have HKB := Lib.hid kb
  refine wpIn_stop (n := 8) (gf := 80) (lb := #[.pointer (some ⟨w.heap.size + 1 + 1 + 1, 0, none⟩), .pointer (some ⟨w.heap.size + 1 + 1 + 1 + 1, 0, none⟩)])
    (passes_stop 7 (by omega) (w.heap.size + 1 + 1 + 1) (w.heap.size + 1 + 1 + 1 + 1) R C gg cap cnt hR hC Z HZ.out st W0 (by omega) (by omega) k4 (one_cell k5) (H.out.keep kb (Nat.le_refl _))) rfl (by omega) rfl trivial (enters_of Try.func80 (by kernel_rfl) rfl)
    KqP.trans (fun s W l o' hl hs => ⟨(below_put (B := 0) W l o' (Nat.zero_le _)).size, fun k hk hlt => World.putObj_heap_other (by omega)⟩) (Below.refl _ _) (fun _ => rfl)
    (fun pre X => (((∀ e ∈ pre, wt e.1 = false) ∧ X.heap[w.heap.size + 1 + 1]? = some (.cells #[.int .i64 ((pre.getLast?.map Prod.snd).getD 0)] 3 (0, 0))) ∧ X.heap[w.heap.size + 1]? = some (.cells #[(.func (.func fw) #[] caps)] 66 (0, 0))) ∧ Below w.heap.size w X)
    (fun c pre X => (c = .exit 0 ∧ ∃ pre' x, pre = pre' ++ [x] ∧ wt x.1 = true ∧ (∀ e ∈ pre', wt e.1 = false) ∧ X.heap[w.heap.size + 1 + 1]? = some (.cells #[.int .i64 x.2] 3 (0, 0))) ∧ Below w.heap.size w X)
    (fun s X Y hs hl hb => ⟨⟨⟨hs.1.1.1, (hb.block _ (by omega)).trans hs.1.1.2⟩, (hb.block _ (by omega)).trans hs.1.2⟩, hs.2.trans (hb.mono (by omega))⟩)
    (fun c s X Y hs hl hb => by
      obtain ⟨⟨h1, pre', x, h2, h3, h4, h5⟩, h6⟩ := hs
      exact ⟨⟨h1, pre', x, h2, h3, h4, (hb.block _ (by omega)).trans h5⟩, h6.trans (hb.mono (by omega))⟩)
    ⟨⟨⟨fun e h => by simp at h, k3⟩, k2⟩, kb⟩
    (fun x X => { tmps := #[.agg #[.int .i64 R, .int .i64 C, .slice (some ⟨gg, 0, none⟩) cnt cap], .int .i64 st.1, (.func (.func fw) #[] caps), .pointer (some ⟨w.heap.size, 0, none⟩), undef, .pointer (some ⟨w.heap.size + 1, 0, none⟩), .int .i64 0, .pointer (some ⟨w.heap.size + 1 + 1, 0, none⟩), .pointer (some ⟨X.heap.size, 0, none⟩), .int .i64 x.2, .agg #[.int .i64 R, .int .i64 C, .slice (some ⟨gg, 0, none⟩) cnt cap], .int .i64 st.1, (.func (.func 80) #[] #[.pointer (some ⟨w.heap.size + 1 + 1 + 1, 0, none⟩), .pointer (some ⟨w.heap.size + 1 + 1 + 1 + 1, 0, none⟩)]), .agg #[.int .i64 (Z x.1.1), .int .i64 x.1.1], .int .i64 x.2, undef, undef, undef, undef, undef], defers := [] })
    (fun x X Y => Y.heap[X.heap.size]? = some (.cells #[.int .i64 (Z x.1.1), .int .i64 x.1.1] 60 (0, 0)))
    (fun x X Y l o' h1 h2 h3 h4 => (World.putObj_heap_other (by omega)).trans h4) (fun s X Y h => KqP.of_below h) ?assign ?body ?done ?stop
  case assign =>
    intro l x X K hK
    simp only [psEnc]
    gi_wp2
    exact hK _ ((Below.refl X.heap.size X).alloc (Nat.le_refl _) _) (heap_alloc_new X _)
  case body =>
    rintro l pre x X0 X ⟨⟨⟨hp, hl⟩, hfu⟩, hb⟩ hA hs0 hsX hlen
    have cl := one_cell hl
    have fl : X.frozen? ⟨w.heap.size + 1 + 1, 0, none⟩ = false := by simp [World.frozen?, hl]
    have HP := Lib.hid hp
    have HB := Lib.hid hb
    have HL := Lib.hid (by simpa using heap_setCell_same X (w.heap.size + 1 + 1) 0 _ _ (.int .i64 x.2) hl : (X.setCell ⟨w.heap.size + 1 + 1, 0, none⟩ (.int .i64 x.2)).heap[w.heap.size + 1 + 1]? = some (.cells #[.int .i64 x.2] 3 (0, 0)))
    have hfu2 := (Below.heap_setCell X ⟨w.heap.size + 1 + 1, 0, none⟩ (.int .i64 x.2) (w.heap.size + 1) (by simp)).trans hfu
    have HFU := Lib.hid hfu2
    have cf := one_cell hfu2
    obtain ⟨s0, s1, _, _⟩ := cells2 ((Below.heap_setCell X ⟨w.heap.size + 1 + 1, 0, none⟩ (.int .i64 x.2) X0.heap.size (by simp; omega)).trans hA)
    have HB2 := Lib.hid (hb.setCell (p := ⟨w.heap.size + 1 + 1, 0, none⟩) (show w.heap.size ≤ w.heap.size + 1 + 1 by omega) (.int .i64 x.2))
    have HCALL := Lib.hid (HF.out x.1 _ HB2.out)
    clear hp hl hfu hb hA hfu2
    gi_wp2_with fail
    refine ⟨trivial, ((callsIn_wide.2 HCALL.out).inRound l).mono ?_⟩
    rintro e X2 ⟨rfl, hb2⟩
    have BX := Lib.hid hb2
    have hsz : (X.setCell ⟨w.heap.size + 1 + 1, 0, none⟩ (.int .i64 x.2)).heap.size = X.heap.size := by simp [World.setCell]
    have hz2 := hb2.size
    rw [hsz] at hz2
    have KO := Lib.hid ((KeepsOthers.setCell X ⟨w.heap.size + 1 + 1, 0, none⟩ (.int .i64 x.2)).trans (others_below hb2))
    have KL := Lib.hid ((hb2.block _ (by omega)).trans HL.out)
    have KF := Lib.hid ((hb2.block (w.heap.size + 1) (by omega)).trans HFU.out)
    have KB := Lib.hid (HB2.out.trans (hb2.mono (by have := HB2.out.size; omega)))
    have KP := Lib.hid (show KqP (w.heap.size + 1 + 1 + 1) gg (W0.heap.size + 2) X X2 from ⟨hz2, fun k hk hlt => (hb2.block k (by omega)).trans (Below.heap_setCell _ _ _ _ (by simp; omega))⟩)
    clear hb2 cl fl cf s0 s1
    obtain ⟨b, eb⟩ : ∃ b, wt x.1 = b := ⟨_, rfl⟩
    have EB := Lib.hid eb
    rw [eb]
    clear eb
    cases b
    case false =>
      gi_wp2
      refine ⟨KO.out, KP.out, ⟨⟨fun e he => ?_, ?_⟩, KF.out⟩, KB.out⟩
      · rcases List.mem_append.1 he with k | k
        · exact HP.out e k
        · rw [List.mem_singleton] at k; subst k; exact EB.out
      · simpa using KL.out
    case true =>
      gi_wp2
      exact ⟨KO.out, ⟨rfl, pre, x, rfl, EB.out, HP.out, KL.out⟩, KB.out⟩
  case done =>
    rintro D ys X hD ⟨hv, hall⟩ ⟨⟨⟨hp, hl⟩, hfu⟩, hb⟩ hKD
    have HR := Lib.hid (hv.none hall hp)
    have HCO := Lib.hid ((Coll.nil (B := w.heap.size) (N := w.heap.size) (W := X)).cons (by omega) (by omega) hKD)
    have HB := Lib.hid hb
    obtain ⟨v, ev⟩ : ∃ v, (ys.getLast?.map Prod.snd).getD 0 = v := ⟨_, rfl⟩
    rw [ev] at HR hl
    have cl := one_cell hl
    clear hv hall hp hl hfu hb hKD ev
    gi_wp2
    exact HCO.out.leaves (fun W => results_tmp rfl _ _ _) (fun W' hS => ⟨v, rfl, HR.out, HB.out.trans hS.below⟩)
  case stop =>
    rintro D c pre X hD hv ⟨⟨rfl, pre', x, rfl, hx, hp, hl⟩, hb⟩ hKD
    have HR := Lib.hid (hv.found hx hp)
    have HCO := Lib.hid ((Coll.nil (B := w.heap.size) (N := w.heap.size) (W := X)).cons (by omega) (by omega) hKD)
    have HB := Lib.hid hb
    have cl := one_cell hl
    clear hv hp hl hb hKD hx
    gi_wp2
    exact HCO.out.leaves (fun W => results_tmp rfl _ _ _) (fun W' hS => ⟨x.2, rfl, HR.out, HB.out.trans hS.below⟩)

end Go.Proofs.Ytlbdglhippapnab
