/- Marking a second grid, behind a first one. -/
import Derived.Test.YtidlloelinmnnaaM1
namespace Go.Proofs.Ytidlloelinmnnaa
open Go.RowKit
set_option linter.unusedVariables false

set_option maxHeartbeats 1000000 in
theorem markIntSS_big (v : Value) (lo hi : Nat) (g : G) (k : Int) (w : World) (hv : OwM lo hi w v g) (h0 : 0 ≤ k) (h1 : k ≤ 2199023255552) (hn : g.n ≤ 1048576) (hl : ∀ r, r < g.n → g.len r ≤ 1048576) :
    Calls Try.prog 24 #[v, .int .i64 k] w (MkPost lo hi v g k w) := by
  rcases hv with ⟨rfl, hz⟩ | ⟨b, Gb, rfl, hn', hb1, hb2, htop, hrows, hinj⟩
  · have HZ := Lib.hid hz
    go_enter Try.func24, Try.ntmps24
    go_wp2
    clear hz
    refine wp_loop_rounds 1 ?_
    rw [rounds_succ]
    go_wp2
    go_ret
    exact ⟨by rw [HZ.out]; simp [G.off], Or.inl ⟨rfl, HZ.out⟩, Chg.refl _ _ _, rfl⟩
  · have HL := Lib.hid hl
    have HB := Lib.hid (g.off_le hl)
    clear hl
    have hltb : ∀ s, s < g.n → Gb s < w.heap.size := fun s hs => (hrows s hs).2.2.2.2.1.lt
    have HLT := Lib.hid hltb
    clear hltb
    have start : MkRows w g Gb k 0 := fun s hs => (hrows s hs).2.2.2.2.1.congr (fun c _ => by simp)
    have HR := Lib.hid hrows
    have HT := Lib.hid htop
    have HJ := Lib.hid hinj
    clear hrows htop hinj
    go_enter Try.func24, Try.ntmps24
    go_wp2
    go_loopw [1, 5] (fun x i wr => ∃ r : Nat, r ≤ g.n ∧ i = .int .i64 r ∧ x = .int .i64 (k + g.off r) ∧ MkRows wr g Gb k r ∧ wr.rowIs b 26 g.n (fun r => .slice (some ⟨Gb r, 0, none⟩) (g.len r) (g.len r)) ∧ Chg lo hi w wr ∧ wr.heap.size = w.heap.size)
      (fun _ i _ => g.n - (intOf i).toNat)
    case atStart => exact ⟨0, Nat.zero_le _, rfl, by simp [G.off], start, HT.out, Chg.refl _ _ _, rfl⟩
    case round =>
      obtain ⟨r, hr, rfl, rfl, hmk, htp, hchg, hsz⟩ := hrel
      have Hs := Lib.hid hsz
      clear hsz start
      have hoff := HB.out r hr
      by_cases hlt : r < g.n
      · have c2 := htp.cell hlt
        have hrow := hmk r hlt
        have hrow' := hrow.congr (g := fun c => .int .i64 (g.z r c)) (fun c _ => by simp)
        have hlen := HL.out r hlt
        have HRr := HR.out r hlt
        have hlo : lo ≤ Gb r := HRr.1
        have hhi : Gb r < hi := HRr.2.1
        have hneb : b ≠ Gb r := fun e => HRr.2.2.1 e.symm
        have Hneb := Lib.hid hneb
        have hbb := HRr.2.2.2.2.1
        clear HRr hbb hneb hrow
        go_wp2_with fail
        refine (markIntS_any (Gb r) (g.len r) (g.z r) (k + g.off r) _ hrow' (by omega) (by omega) hlen).mono ?_
        rintro e w1 ⟨rfl, q1, q2, q3⟩
        have Q3 := Lib.hid (show w1.heap.size = w.heap.size from q3.trans Hs.out)
        have S1 := hmk.step hlt HJ.out (fun s hs => by rw [Hs.out]; exact HLT.out s hs) q1 q2
        have S2 := htp.of_block (q2.block b htp.lt (by have := Hneb.out; omega))
        have S3 := hchg.trans (q2.mono hlo (by omega))
        clear q1 q2 q3 hmk htp hchg hrow' c2
        go_wp2
        go_roundw
        case rel => exact ⟨r + 1, by omega, by go_num, by simp only [G.off]; go_num, S1, S2, S3, Q3.out⟩
        case measure => simp [intOf]; omega
      · have e : r = g.n := by omega
        subst e
        go_wp2
        go_ret
        refine ⟨rfl, Or.inr ⟨b, Gb, rfl, hn', hb1, hb2, htp, fun r hr => ?_, HJ.out⟩, hchg, Hs.out⟩
        obtain ⟨a1, a2, a3, a4, a5, a6⟩ := HR.out r hr
        have hr' : r < g.n := hr
        refine ⟨a1, a2, a3, a4, (hmk r hr).congr (fun c _ => by simp [G.mark, hr']), fun c hc => ?_⟩
        have e1 := HB.out r (by omega)
        have e2 : g.len r ≤ 1048576 := HL.out r hr
        have e3 : c < g.len r := hc
        simp only [G.mark]
        omega

theorem G.off_n (g : G) (hn : g.n ≤ 1048576) (hl : ∀ r, r < g.n → g.len r ≤ 1048576) : g.off g.n ≤ 1099511627776 := by
  have := g.off_le hl g.n (Nat.le_refl _)
  omega

end Go.Proofs.Ytidlloelinmnnaa
