/- 'Put' of the document: what is told of a node, as bytes of their own, or refused; nothing that was there turns. -/
import Derived.Test.YtecbhhfncklefaaDoorRefByM
namespace Go.Proofs.YtecbhhfncklefaaDoor
set_option linter.unusedVariables false
open Go.RowKit

set_option maxRecDepth 100000 in
set_option maxHeartbeats 1000000 in
theorem refaput_any (x : Atr) (w : World) (hx : x.In) : Calls Tryd.prog 7 #[.agg #[.int .u32 x.kind, .int .u32 x.mode, .int .u32 x.links, .int .u32 x.user, .int .u32 x.group, .int .u64 x.size, .int .u64 x.used, .int .u64 x.id, .int .u32 x.rs, .int .u32 x.rn, .int .u32 x.ws, .int .u32 x.wn, .int .u32 x.ts, .int .u32 x.tn]] w fun e w' => ∃ v, e = .returned (.tuple #[v, .int .i64 (paE (amay x))]) ∧
      w'.ownsRow w.heap.size 5 1 v (paZ (amay x) (aB x)).length ((paZ (amay x) (aB x)).map (Value.int .u8)) ∧ Below w.heap.size w w' := by
  have a0 := Ap.new w x
  have hB0 : Below w.heap.size w (w.alloc (.cells #[.int .u32 x.kind, .int .u32 x.mode, .int .u32 x.links, .int .u32 x.user, .int .u32 x.group, .int .u64 x.size, .int .u64 x.used, .int .u64 x.id, .int .u32 x.rs, .int .u32 x.rn, .int .u32 x.ws, .int .u32 x.wn, .int .u32 x.ts, .int .u32 x.tn] 28)) := (Below.refl _ _).alloc (Nat.le_refl _) _
  have k1 := fun W => refmay_any x W
  have k2 := fun W => refbytes_any x W hx
  obtain ⟨c0, c1, c2, c3, c4, c5, c6, c7, c8, c9, c10, c11, c12, c13⟩ := a0.c
  have hl := aB_length x
  generalize aB x = zs at *
  cases hm : amay x with
  | false =>
    rw [hm] at k1
    go_enter Tryd.func7, Tryd.ntmps7
    go_wp2_with fail
    generalize (w.alloc (.cells #[.int .u32 x.kind, .int .u32 x.mode, .int .u32 x.links, .int .u32 x.user, .int .u32 x.group, .int .u64 x.size, .int .u64 x.used, .int .u64 x.id, .int .u32 x.rs, .int .u32 x.rn, .int .u32 x.ws, .int .u32 x.wn, .int .u32 x.ts, .int .u32 x.tn] 28)) = W0 at *
    refine (k1 W0).mono ?_
    rintro e W1 ⟨rfl, hb1⟩
    have hB1 := hB0.trans (hb1.mono hB0.size)
    clear hB0 hb1 a0 k1 k2
    go_wp2
    go_ret2
    exact ⟨_, rfl, own_empty _ _ _, hB1⟩
  | true =>
    rw [hm] at k1
    go_enter Tryd.func7, Tryd.ntmps7
    go_wp2_with fail
    generalize (w.alloc (.cells #[.int .u32 x.kind, .int .u32 x.mode, .int .u32 x.links, .int .u32 x.user, .int .u32 x.group, .int .u64 x.size, .int .u64 x.used, .int .u64 x.id, .int .u32 x.rs, .int .u32 x.rn, .int .u32 x.ws, .int .u32 x.wn, .int .u32 x.ts, .int .u32 x.tn] 28)) = W0 at *
    refine (k1 W0).mono ?_
    rintro e W1 ⟨rfl, hb1⟩
    have hB1 := hB0.trans (hb1.mono hB0.size)
    have a1 := a0.next hb1
    clear hB0 hb1 a0 k1 c0 c1 c2 c3 c4 c5 c6 c7 c8 c9 c10 c11 c12 c13
    obtain ⟨c0, c1, c2, c3, c4, c5, c6, c7, c8, c9, c10, c11, c12, c13⟩ := a1.c
    go_wp2_with fail
    refine (k2 W1).mono ?_
    rintro e W2 ⟨G, c, rfl, _, _, ho, hb2⟩
    have hB2 := hB1.trans (hb2.mono hB1.size)
    have ho2 := own_base ho hB1.size
    clear hB1 hb2 ho k2 a1 c0 c1 c2 c3 c4 c5 c6 c7 c8 c9 c10 c11 c12 c13
    go_wp2
    go_ret2
    refine ⟨_, rfl, ?_, hB2⟩
    show W2.ownsRow w.heap.size 5 1 (.slice (some ⟨G, 0, none⟩) 84 c) zs.length (zs.map (Value.int .u8))
    rw [hl]
    exact ho2
end Go.Proofs.YtecbhhfncklefaaDoor
