/-
  Proved: calls.Put refuses any call of a Flavor above 1, and of the Flavor 0 any that tells anything of who calls, with ErrArg; one of the Flavor 0 that tells nobody is put if its Body has at most 65496 bytes. Conditions: none beyond the form's own.
  The frame of this text follows the one that the guide's own program writes; the walk is ours.
-/
import Derived.Test.YtciinabhelfnoabRows
import Derived.Test.YtciinabhelfnoabNobodyClM
import Derived.Test.YtciinabhelfnoabCallDown
import Derived.WalkKit
import Derived.ProofKit
import Derived.OpenShut
import Derived.ShutString
import Derived.SizedLaws
import Derived.ChangeOld
import Derived.Below
namespace Go.Proofs.Ytciinabhelfnoab.callsNobody
open Go.ChangeShapes Go.WideShapes Go.ChangeAt Go.RowKit
set_option linter.unusedVariables false

theorem own : ownKnob Try.prog.godebug = none := by kernel_rfl
theorem laidOut : laidOutB Try.prog = true := by kernel_rfl

/-- What is told of a slice of bytes that came in. -/
def IsRow (w : World) (a : Option Addr) (len cap : Nat) (zs : List Int) : Prop :=
  (a = none ∧ len = 0 ∧ cap = 0 ∧ zs = []) ∨ ∃ x, a = some x ∧ len ≤ cap ∧ cap ≤ maxLen ∧ zs.length = cap ∧ (∀ i, i < zs.length → w.cell? (x.add i) = some (.int .u8 (zs.getD i 0))) ∧ ∀ n ∈ zs, (Lit.int .u8 n).wf = true

set_option maxRecDepth 100000 in
theorem lifted (os : Os) (started : os.Started) (H : Type) (enc : TypeId × Value → H) :
    ReturnsInHanded {} Try.checked os 3 .any (Rows.callsNobodySpec.pre6 enc Try.prog Try.f3 Rows.callsNobodyRow.domain false) (Rows.callsNobodySpec.post enc Try.prog Try.f3 false true false false) := by
  refine returnsInHanded_of_change_sized (C := Try.checked) own started (by kernel_rfl) Try.func3
    (ChangeSpec.witness6 (enc := enc) (C := Try.checked) false ⟨#[], #[.agg #[.int .u32 0, .int .u32 0, .int .u32 0, .int .u32 0, .int .u32 0, .string ⟨#[]⟩, .int .u32 0, .int .u32 0, .int .u32 0, .slice none 0 0, .slice none 0 0]], []⟩ 8 (by kernel_rfl) (by kernel_rfl) (by kernel_rfl) (by kernel_rfl)) ?_
  intro W base args ds gs before hval0 hW hcnd hsz0 _
  have hsz : (DataW.weightsEach Try.prog (Try.f3.params.toList ++ Rows.callsNobodySpec.plain.varTypes Try.prog) (ds ++ gs)).all (· ≤ reachBytes) = true := hsz0
  clear hsz0
  have hval : ∀ (j : Nat) t v, Try.f3.params[j]? = some t → args[j]? = some v → Value.okWide Try.prog W .any base t v := hval0
  have hW' := hW
  obtain ⟨p, q, hA0, hV, rfl, hfz, hnd⟩ := hW
  have hA : DataW.TrodAll enc Try.prog W 0 (fun _ => true) true Try.f3.params.toList args.toList ds p := hA0
  rw [Try.params3] at hA hval hsz
  obtain ⟨v0, vs0, d0, ds0, p0, q0, hargs, rfl, rfl, h0, r0⟩ := trodAll_cons hA
  obtain ⟨rfl, rfl, rfl⟩ := trodAll_nil r0
  obtain rfl : args = #[v0] := by cases args; simp_all
  obtain ⟨rfl, rfl⟩ := trodVars_none hV
  have k0 := h0
  have lt0 : ∀ x ∈ p0, x.block < W.heap.size := by obtain ⟨m, hm⟩ := k0; exact DataW.trod_lt m _ _ _ hm
  have hw0 : ∀ n ∈ d0.weights Try.prog 28, n ≤ reachBytes := fun n hn => by simpa using List.all_eq_true.1 hsz n (DataW.weights_mem_each (j := 0) (t := 28) (d := d0) rfl rfl n hn)
  obtain ⟨cx0, cp0, cv0, cc0, cf0, cm0, cs0, cu0, cg0, ga0, gl0, gc0, ba0, bl0, bc0, rfl, hx0, hp0, hv0, hc0, hf0, hm0, hs0, hu0, hg0, ⟨hgl0, hgm0, hbl0, hbm0⟩, gs0, bs0, ⟨hgz0, hgu0, hgs0, hgn0⟩, hbz0, hbb0, hbs0, hbn0⟩ := call_down (hval 0 28 v0 rfl rfl) h0 hw0
  clear hA0 hval0
  have walked : Calls Try.prog 3 #[.agg #[.int .u32 cx0, .int .u32 cp0, .int .u32 cv0, .int .u32 cc0, .int .u32 cf0, .string cm0, .int .u32 cs0, .int .u32 cu0, .int .u32 cg0, .slice ga0 gl0 gc0, .slice ba0 bl0 bc0]] W fun e W' => e = .returned (.bool true) ∧ Below W.heap.size W W' := by
    exact clnobody_walk cx0 cp0 cv0 cc0 cf0 cm0 cs0 cu0 cg0 ga0 gl0 gc0 ba0 bl0 bc0 gs0 bs0 W ⟨hx0, hp0, hv0, hc0, hf0, hm0, hs0, hu0, hg0, hgl0, by omega, hgz0, hgu0, hgs0, hbl0, by omega, hbz0, hbb0, hbs0, hbn0⟩
  refine walked.mono fun e W' ⟨he, bel⟩ => ?_
  subst he
  exact ⟨_, rfl, _, _, _, [], _, [], hW', trodAll_mk1 (shut_bool Try.underlying4 _), (trodAll_cons_mk (Below.trod laidOut (by kernel_rfl) (of_decide_eq_true (by kernel_rfl)) k0 bel lt0) trodAll_mk0), rfl, bel.frame _, fun h => by cases h⟩

theorem over : Rows.callsNobodyRow.holds Try.pinned (OpenSpec.ofChange Rows.callsNobodySpec) :=
  OpenClaim.holds_of_wide 3 Try.f3 rfl rfl rfl rfl rfl rfl rfl ⟨rfl, rfl, rfl, rfl, rfl⟩ rfl rfl rfl rfl rfl (by kernel_rfl) Try.func3 (by kernel_rfl)
    (of_decide_eq_true (by kernel_rfl)) (by unfold Func.isWrapper; first | (rw [if_pos (by decide +kernel)]; kernel_rfl) | (rw [if_neg (by decide +kernel)]; exact ⟨rfl, rfl⟩))
    (fun os started H enc _ => lifted os started H enc)

/-- The statement. -/
theorem proved : Rows.CallsNobodySaid := over
end Go.Proofs.Ytciinabhelfnoab.callsNobody
namespace Go.Proofs.Ytciinabhelfnoab
theorem callsNobody_holds : Rows.CallsNobodySaid := callsNobody.proved
#print axioms callsNobody_holds
end Go.Proofs.Ytciinabhelfnoab
