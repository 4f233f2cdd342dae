/- 'SameMessages' of lists of the same bytes: true; nothing turns (orders are drawn). -/
import Derived.Test.YtmjjoiljdcjhdaaDoorSame
import Derived.Test.YtmjjoiljdcjhdaaDoorSegs
import Derived.WalkSmall
namespace Go.Proofs.YtmjjoiljdcjhdaaDoor
set_option linter.unusedVariables false
open Go.RowKit

theorem Part.In.below {p : Part} {w w' : World} (h : p.In w) (hb : Below w.heap.size w w') : p.In w' := ⟨h.len, h.seg.below hb, h.nil⟩

set_option maxHeartbeats 1000000 in
theorem samemsg_true (a b : Option Addr) (len ca cb : Nat) (ps qs : List Part) (w : World) (hl : len ≤ 4611686018427387904) (hla : len ≤ ca) (hlb : len ≤ cb) (hz : ps.length = len) (he : ps.map Part.zs = qs.map Part.zs) (ha : Segs w a ps) (hb : Segs w b qs) (hpa : ∀ p ∈ ps, p.In w) (hpb : ∀ p ∈ qs, p.In w) (hsm : ∀ p ∈ ps, p.len ≤ 4611686018427387904) :
    Calls Tryd.prog 19 #[.slice a len ca, .slice b len cb] w fun e w' => e = .returned (.bool true) ∧ ∃ n, w' = w.drewN n := by
  have g1 : ((len : Int) != (len : Int)) = false := by simp
  have hzq : qs.length = len := by rw [← hz]; simpa using (congrArg List.length he).symm
  go_enter Tryd.func19, Tryd.ntmps19
  go_wp2
  go_loopw [5] (fun i wr => ∃ k n : Nat, k ≤ len ∧ i = .int .i64 k ∧ wr = w.drewN n) (fun i _ => len - (intOf i).toNat)
  case atStart => exact ⟨0, 0, by omega, rfl, rfl⟩
  case round =>
    obtain ⟨k, n, hk, rfl, rfl⟩ := hrel
    by_cases hlt : k < len
    · rcases ha with rfl | ⟨b1, off1, rfl, hc1⟩
      · simp at hz; omega
      · rcases hb with rfl | ⟨b2, off2, rfl, hc2⟩
        · simp at hzq; omega
        · have hcx := hc1 k (by omega)
          have htx := hc2 k (by omega)
          have hix := hpa ps[k] (List.getElem_mem _)
          have hiy := hpb qs[k] (List.getElem_mem _)
          have hpl := hsm ps[k] (List.getElem_mem _)
          have hzz : ps[k].zs = qs[k].zs := by
            have := congrArg (fun l => l[k]?) he
            simpa [List.getElem?_map, List.getElem?_eq_getElem (show k < ps.length by omega), List.getElem?_eq_getElem (show k < qs.length by omega)] using this
          generalize ps[k] = p at hcx hix hpl hzz
          generalize qs[k] = q at htx hiy hzz
          obtain ⟨pa, pl, pc, pz⟩ := p
          obtain ⟨qa, ql, qc, qz⟩ := q
          obtain ⟨h1, h2, h3⟩ := hix
          obtain ⟨h4, h5, h6⟩ := hiy
          simp only at h1 h2 h3 h4 h5 h6 hzz hpl
          subst hzz
          obtain rfl : pl = ql := by omega
          simp only [Part.v] at hcx htx
          have hi : (k : Int) < (len : Int) := by omega
          clear hc1 hc2
          obtain ⟨wr, hwr⟩ : ∃ wr, w.drewN n = wr := ⟨_, rfl⟩
          have hBr : Below w.heap.size w wr := by rw [← hwr]; exact below_drewN (Below.refl _ _) n
          have hcx : wr.cell? ⟨b1, off1 + k, none⟩ = some (.slice pa pl pc) := by rw [← hwr]; exact hcx
          have htx : wr.cell? ⟨b2, off2 + k, none⟩ = some (.slice qa pl qc) := by rw [← hwr]; exact htx
          have HW : Hid (w.drewN n = wr) := hwr
          rw [hwr]
          have hm2 := h2.below hBr
          have hm5 := h5.below hBr
          clear hwr h2 h5
          go_wp2
          go_quiet (first | (go_at_call 11; refine Calls.quiet_of (same_true pa qa pl pc qc pz _ hpl h1 (hm2.below (below_drewN (Below.refl _ _) _)) (hm5.below (below_drewN (Below.refl _ _) _)))))
          go_wp2
          go_roundw
          case rel => exact ⟨k + 1, _, by omega, by go_num, by rw [← HW.out, World.drewN_drewN]⟩
          case measure => simp [intOf]; omega
    · obtain rfl : k = len := by omega
      go_wp2
      go_ret
      exact ⟨rfl, n, rfl⟩
end Go.Proofs.YtmjjoiljdcjhdaaDoor
