/-
  Proved: of the bytes of any call with another number in the place of one that is fixed, or a Flavor above 1, whatever stands behind it, calls.Get answers ErrForm. Conditions: none beyond the form's own.
  The frame of this text follows the one that the guide's own program writes; the walk is ours.
-/
import Derived.Test.YtciinabhelfnoaaRows
import Derived.Test.YtciinabhelfnoaaFixedClM
import Derived.Test.YtciinabhelfnoaaCallDown
import Derived.Test.YtciinabhelfnoaaOtherDown
import Derived.WalkKit
import Derived.ProofKit
import Derived.OpenShut
import Derived.ShutString
import Derived.SizedLaws
import Derived.ChangeOld
import Derived.Below
namespace Go.Proofs.Ytciinabhelfnoaa.callsFixed
open Go.ChangeShapes Go.WideShapes Go.ChangeAt Go.RowKit
set_option linter.unusedVariables false

theorem own : ownKnob Try.prog.godebug = none := by kernel_rfl
theorem laidOut : laidOutB Try.prog = true := by kernel_rfl

/-- What is told of a slice of bytes that came in. -/
def IsRow (w : World) (a : Option Addr) (len cap : Nat) (zs : List Int) : Prop :=
  (a = none ∧ len = 0 ∧ cap = 0 ∧ zs = []) ∨ ∃ x, a = some x ∧ len ≤ cap ∧ cap ≤ maxLen ∧ zs.length = cap ∧ (∀ i, i < zs.length → w.cell? (x.add i) = some (.int .u8 (zs.getD i 0))) ∧ ∀ n ∈ zs, (Lit.int .u8 n).wf = true

set_option maxRecDepth 100000 in
theorem lifted (os : Os) (started : os.Started) (H : Type) (enc : TypeId × Value → H) :
    ReturnsInHanded {} Try.checked os 6 .any (Rows.callsFixedSpec.pre6 enc Try.prog Try.f6 Rows.callsFixedRow.domain false) (Rows.callsFixedSpec.post enc Try.prog Try.f6 false true false false) := by
  refine returnsInHanded_of_change_sized (C := Try.checked) own started (by kernel_rfl) Try.func6
    (ChangeSpec.witness6 (enc := enc) (C := Try.checked) false ⟨#[], #[.agg #[.int .u32 0, .int .u32 0, .int .u32 0, .int .u32 0, .int .u32 0, .string ⟨#[]⟩, .int .u32 0, .int .u32 0, .int .u32 0, .slice none 0 0, .slice none 0 0], .agg #[.int .u8 0, .int .u32 0, .slice none 0 0]], []⟩ 8 (by kernel_rfl) (by kernel_rfl) (by kernel_rfl) (by kernel_rfl)) ?_
  intro W base args ds gs before hval0 hW hcnd hsz0 _
  have hsz : (DataW.weightsEach Try.prog (Try.f6.params.toList ++ Rows.callsFixedSpec.plain.varTypes Try.prog) (ds ++ gs)).all (· ≤ reachBytes) = true := hsz0
  clear hsz0
  have hval : ∀ (j : Nat) t v, Try.f6.params[j]? = some t → args[j]? = some v → Value.okWide Try.prog W .any base t v := hval0
  have hW' := hW
  obtain ⟨p, q, hA0, hV, rfl, hfz, hnd⟩ := hW
  have hA : DataW.TrodAll enc Try.prog W 0 (fun _ => true) true Try.f6.params.toList args.toList ds p := hA0
  rw [Try.params6] at hA hval hsz
  obtain ⟨v0, vs0, d0, ds0, p0, q0, hargs, rfl, rfl, h0, r0⟩ := trodAll_cons hA
  obtain ⟨v1, vs1, d1, ds1, p1, q1, rfl, rfl, rfl, h1, r1⟩ := trodAll_cons r0
  obtain ⟨rfl, rfl, rfl⟩ := trodAll_nil r1
  obtain rfl : args = #[v0, v1] := by cases args; simp_all
  obtain ⟨rfl, rfl⟩ := trodVars_none hV
  have k0 := h0
  have lt0 : ∀ x ∈ p0, x.block < W.heap.size := by obtain ⟨m, hm⟩ := k0; exact DataW.trod_lt m _ _ _ hm
  have hw0 : ∀ n ∈ d0.weights Try.prog 28, n ≤ reachBytes := fun n hn => by simpa using List.all_eq_true.1 hsz n (DataW.weights_mem_each (j := 0) (t := 28) (d := d0) rfl rfl n hn)
  obtain ⟨cx0, cp0, cv0, cc0, cf0, cm0, cs0, cu0, cg0, ga0, gl0, gc0, ba0, bl0, bc0, rfl, hx0, hp0, hv0, hc0, hf0, hm0, hs0, hu0, hg0, ⟨hgl0, hgm0, hbl0, hbm0⟩, gs0, bs0, ⟨hgz0, hgu0, hgs0, hgn0⟩, hbz0, hbb0, hbs0, hbn0⟩ := call_down (hval 0 28 v0 rfl rfl) h0 hw0
  have k1 := h1
  have lt1 : ∀ x ∈ p1, x.block < W.heap.size := by obtain ⟨m, hm⟩ := k1; exact DataW.trod_lt m _ _ _ hm
  have hw1 : ∀ n ∈ d1.weights Try.prog 45, n ≤ reachBytes := fun n hn => by simpa using List.all_eq_true.1 hsz n (DataW.weights_mem_each (j := 1) (t := 45) (d := d1) rfl rfl n hn)
  obtain ⟨ow1, on1, oa1, ol1, oc1, rfl, how1, hon1, hol1, hom1, oz1, hoz1, hob1, hos1, hoo1⟩ := other_down (hval 1 45 v1 rfl rfl) h1 hw1
  clear hA0 hval0
  have walked : Calls Try.prog 6 #[.agg #[.int .u32 cx0, .int .u32 cp0, .int .u32 cv0, .int .u32 cc0, .int .u32 cf0, .string cm0, .int .u32 cs0, .int .u32 cu0, .int .u32 cg0, .slice ga0 gl0 gc0, .slice ba0 bl0 bc0], .agg #[.int .u8 ow1, .int .u32 on1, .slice oa1 ol1 oc1]] W fun e W' => e = .returned (.bool true) ∧ Below W.heap.size W W' := by
    exact clfixed_walk cx0 cp0 cv0 cc0 cf0 cm0 cs0 cu0 cg0 ga0 gl0 gc0 ba0 bl0 bc0 gs0 bs0 W ⟨hx0, hp0, hv0, hc0, hf0, hm0, hs0, hu0, hg0, hgl0, by omega, hgz0, hgu0, hgs0, hbl0, by omega, hbz0, hbb0, hbs0, hbn0⟩ ow1 on1 oa1 ol1 oc1 oz1 how1 hon1 hol1 hom1 hoz1 hob1 hos1 hoo1
  refine walked.mono fun e W' ⟨he, bel⟩ => ?_
  subst he
  exact ⟨_, rfl, _, _, _, [], _, [], hW', trodAll_mk1 (shut_bool Try.underlying4 _), (trodAll_cons_mk (Below.trod laidOut (by kernel_rfl) (of_decide_eq_true (by kernel_rfl)) k0 bel lt0) (trodAll_cons_mk (Below.trod laidOut (by kernel_rfl) (of_decide_eq_true (by kernel_rfl)) k1 bel lt1) trodAll_mk0)), rfl, bel.frame _, fun h => by cases h⟩

theorem over : Rows.callsFixedRow.holds Try.pinned (OpenSpec.ofChange Rows.callsFixedSpec) :=
  OpenClaim.holds_of_wide 6 Try.f6 rfl rfl rfl rfl rfl rfl rfl ⟨rfl, rfl, rfl, rfl, rfl⟩ rfl rfl rfl rfl rfl (by kernel_rfl) Try.func6 (by kernel_rfl)
    (of_decide_eq_true (by kernel_rfl)) (by unfold Func.isWrapper; first | (rw [if_pos (by decide +kernel)]; kernel_rfl) | (rw [if_neg (by decide +kernel)]; exact ⟨rfl, rfl⟩))
    (fun os started H enc _ => lifted os started H enc)

/-- The statement. -/
theorem proved : Rows.CallsFixedSaid := over
end Go.Proofs.Ytciinabhelfnoaa.callsFixed
namespace Go.Proofs.Ytciinabhelfnoaa
theorem callsFixed_holds : Rows.CallsFixedSaid := callsFixed.proved
#print axioms callsFixed_holds
end Go.Proofs.Ytciinabhelfnoaa
