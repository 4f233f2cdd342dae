/- The walk of 'AttrsPuts', from what the program's Put answers (a hypothesis): true for anything that is told; nothing that was there turns. -/
import Derived.Test.YtecbhhfncklefaaDoorAForms
import Derived.Test.YtecbhhfncklefaaDoorACell
import Derived.Test.YtecbhhfncklefaaDoorTwoLawM
namespace Go.Proofs.YtecbhhfncklefaaDoor
set_option linter.unusedVariables false
open Go.RowKit

set_option maxRecDepth 100000 in
set_option maxHeartbeats 2000000 in
theorem aputs_walk (hput : APut 6) (href : APut 7) (x : Atr) (w : World) (hx : x.In) :
    Calls Tryd.prog 3 #[.agg #[.int .u32 x.kind, .int .u32 x.mode, .int .u32 x.links, .int .u32 x.user, .int .u32 x.group, .int .u64 x.size, .int .u64 x.used, .int .u64 x.id, .int .u32 x.rs, .int .u32 x.rn, .int .u32 x.ws, .int .u32 x.wn, .int .u32 x.ts, .int .u32 x.tn]] w fun e w' => e = .returned (.bool true) ∧ Below w.heap.size w w' := by
  have a0 := Ap.new w x
  have hB0 : Below w.heap.size w (w.alloc (.cells #[.int .u32 x.kind, .int .u32 x.mode, .int .u32 x.links, .int .u32 x.user, .int .u32 x.group, .int .u64 x.size, .int .u64 x.used, .int .u64 x.id, .int .u32 x.rs, .int .u32 x.rn, .int .u32 x.ws, .int .u32 x.wn, .int .u32 x.ts, .int .u32 x.tn] 28)) := (Below.refl _ _).alloc (Nat.le_refl _) _
  have hp := fun W => hput x W hx
  have hr := fun W => href x W hx
  have hl : (paZ (amay x) (aB x)).length ≤ 1000 := by unfold paZ; split; · rw [aB_length]; omega
                                                      · simp
  obtain ⟨q, hq⟩ : ∃ q, (paZ (amay x) (aB x)).length = q := ⟨_, rfl⟩
  rw [hq] at hl
  simp only [hq] at hp hr
  generalize paZ (amay x) (aB x) = zs at *
  generalize paE (amay x) = E at *
  have hE : (E == E) = true := by simp
  obtain ⟨c0, c1, c2, c3, c4, c5, c6, c7, c8, c9, c10, c11, c12, c13⟩ := a0.c
  go_enter Tryd.func3, Tryd.ntmps3
  go_wp2_with fail
  generalize (w.alloc (.cells #[.int .u32 x.kind, .int .u32 x.mode, .int .u32 x.links, .int .u32 x.user, .int .u32 x.group, .int .u64 x.size, .int .u64 x.used, .int .u64 x.id, .int .u32 x.rs, .int .u32 x.rn, .int .u32 x.ws, .int .u32 x.wn, .int .u32 x.ts, .int .u32 x.tn] 28)) = w1 at *
  refine (hp w1).mono ?_
  rintro e w2 ⟨vx, rfl, ox, hb2⟩
  have hxl : ∀ k, vx.ownBlock = some k → w1.heap.size ≤ k ∧ k < w2.heap.size := fun k hk => own_lt ox hk
  have hB2 := hB0.trans (hb2.mono hB0.size)
  have a2 := a0.next hb2
  replace ox := own_base ox hB0.size
  clear hb2 hB0 a0 c0 c1 c2 c3 c4 c5 c6 c7 c8 c9 c10 c11 c12 c13
  obtain ⟨c0, c1, c2, c3, c4, c5, c6, c7, c8, c9, c10, c11, c12, c13⟩ := a2.c
  go_wp2_with fail
  refine (hp w2).mono ?_
  rintro e w3 ⟨vy, rfl, oy, hb3⟩
  have hyl : ∀ k, vy.ownBlock = some k → w2.heap.size ≤ k ∧ k < w3.heap.size := fun k hk => own_lt oy hk
  have hB3 := hB2.trans (hb3.mono hB2.size)
  have a3 := a2.next hb3
  replace oy := own_base oy hB2.size
  replace ox := own_below ox hb3
  clear hb3 hB2 a2 hp c0 c1 c2 c3 c4 c5 c6 c7 c8 c9 c10 c11 c12 c13
  obtain ⟨c0, c1, c2, c3, c4, c5, c6, c7, c8, c9, c10, c11, c12, c13⟩ := a3.c
  go_wp2_with fail
  refine (hr w3).mono ?_
  rintro e w4 ⟨vz, rfl, oz, hb4⟩
  have hB4 := hB3.trans (hb4.mono hB3.size)
  replace oz := own_base oz hB3.size
  replace ox := own_below ox hb4
  replace oy := own_below oy hb4
  obtain ⟨ax, cx, rfl, _, _⟩ := got_val ox hq
  obtain ⟨ay, cy, rfl, _, _⟩ := got_val oy hq
  obtain ⟨az, cz, rfl, _, _⟩ := got_val oz hq
  have K4 : Kp w [⟨ax, q, cx, 1, zs⟩, ⟨ay, q, cy, 2, zs⟩, ⟨az, q, cz, 3, zs⟩] w4 := ⟨hB4, lists3 ox oy oz⟩
  have hA : Apt [⟨ax, q, cx, 1, zs⟩, ⟨ay, q, cy, 2, zs⟩] := apt2 (fun k hk hk2 => by have := hxl k hk; have := hyl k hk2; omega)
  clear ox oy oz hxl hyl hB3 hB4 hb4 a3 hr c0 c1 c2 c3 c4 c5 c6 c7 c8 c9 c10 c11 c12 c13
  go_wp2_with fail
  refine (two_any w4 hq (by omega) K4 hA).mono ?_
  rintro e w5 ⟨rfl, hfin⟩
  clear K4
  go_wp2
  go_ret
  exact ⟨rfl, hfin⟩
end Go.Proofs.YtecbhhfncklefaaDoor
