/- 'Put' of the program: its bytes, in memory of their own, or refused; nothing that was there turns. -/
import Derived.Test.YtecbhhfncklefaaDoorPNodeM
import Derived.Test.YtecbhhfncklefaaDoorPPutM
import Derived.Test.YtecbhhfncklefaaDoorAForms
import Derived.Test.YtecbhhfncklefaaDoorTimeEq
namespace Go.Proofs.YtecbhhfncklefaaDoor
set_option linter.unusedVariables false
open Go.RowKit

set_option maxRecDepth 100000 in
set_option maxHeartbeats 2000000 in
theorem aput_any : APut 6 := by
  intro x w hx
  have a0 := Ap.new w x
  have hB0 : Below w.heap.size w (w.alloc (.cells #[.int .u32 x.kind, .int .u32 x.mode, .int .u32 x.links, .int .u32 x.user, .int .u32 x.group, .int .u64 x.size, .int .u64 x.used, .int .u64 x.id, .int .u32 x.rs, .int .u32 x.rn, .int .u32 x.ws, .int .u32 x.wn, .int .u32 x.ts, .int .u32 x.tn] 28)) := (Below.refl _ _).alloc (Nat.le_refl _) _
  have hnode := fun W => node_any x hx W
  have hlen := aB_length x
  obtain ⟨c0, c1, c2, c3, c4, c5, c6, c7, c8, c9, c10, c11, c12, c13⟩ := a0.c
  generalize amay x = M at *
  generalize aB x = Z at *
  go_enter Tryd.func6, Tryd.ntmps6
  go_wp2_with fail
  generalize (w.alloc (.cells #[.int .u32 x.kind, .int .u32 x.mode, .int .u32 x.links, .int .u32 x.user, .int .u32 x.group, .int .u64 x.size, .int .u64 x.used, .int .u64 x.id, .int .u32 x.rs, .int .u32 x.rn, .int .u32 x.ws, .int .u32 x.wn, .int .u32 x.ts, .int .u32 x.tn] 28)) = W0 at *
  refine (hnode W0).mono ?_
  rintro e W1 ⟨_, rfl, ⟨f1, p1, rfl, t1⟩, b1⟩
  have u1 : Tells W1 (.func (.func f1) #[] p1) M Z := ⟨f1, p1, rfl, t1⟩
  have B1 := hB0.trans (b1.mono hB0.size)
  have hba : Below W1.heap.size W1 (W1.alloc (.cells #[.func (.func f1) #[] p1] 46)) := (Below.refl _ _).alloc (Nat.le_refl _) _
  have k1 := u1.next hba
  have hput := ptput_any [Tl.mk (.func (.func f1) #[] p1) M Z] W1.heap.size 1 1 _ rfl (by omega) (by omega) (by simp [allZ]; omega) (cells_tl W1 46 [Tl.mk (.func (.func f1) #[] p1) M Z]) (at_cons k1 (at_nil _))
  rw [show allM [Tl.mk (.func (.func f1) #[] p1) M Z] = M by simp [allM], show allZ [Tl.mk (.func (.func f1) #[] p1) M Z] = Z by simp [allZ]] at hput
  have hBa := B1.trans (hba.mono B1.size)
  clear hnode a0 c0 c1 c2 c3 c4 c5 c6 c7 c8 c9 c10 c11 c12 c13 hB0 t1 u1 b1
  go_wp2_with fail
  refine hput.mono ?_
  rintro e W2 ⟨v, rfl, ho, hb2⟩
  have hfin := hBa.trans (hb2.mono hBa.size)
  have hown := own_base ho hBa.size
  clear hput k1 hb2 ho hBa
  go_wp2
  go_ret2
  exact ⟨v, rfl, hown, hfin⟩
end Go.Proofs.YtecbhhfncklefaaDoor

/- 'Check' of the document: points of time; nothing that was there turns. -/
namespace Go.Proofs.YtecbhhfncklefaaDoor
set_option linter.unusedVariables false
open Go.RowKit

set_option maxRecDepth 100000 in
set_option maxHeartbeats 400000 in
theorem reftcheck_any (s n : Int) (w : World) : Calls Tryd.prog 26 #[.agg #[.int .u32 s, .int .u32 n]] w fun e w' => e = .returned (.bool (tok n)) ∧ Below w.heap.size w w' := by
  have hB1 : Below w.heap.size w (w.alloc (.cells #[.int .u32 s, .int .u32 n] 26)) := (Below.refl _ _).alloc (Nat.le_refl _) _
  go_enter Tryd.func26, Tryd.ntmps26
  go_wp2
  go_ret
  exact ⟨rfl, hB1⟩
end Go.Proofs.YtecbhhfncklefaaDoor
