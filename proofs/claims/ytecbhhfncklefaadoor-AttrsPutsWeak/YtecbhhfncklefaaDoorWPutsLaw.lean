/- The walk of 'AttrsPutsWeak', from what the program's Put answers (a hypothesis): true for what was told ahead and behind; nothing that was there turns. -/
import Derived.Test.YtecbhhfncklefaaDoorAForms
import Derived.Test.YtecbhhfncklefaaDoorWCell
import Derived.Test.YtecbhhfncklefaaDoorTwoLaw
import Derived.Laws.Rows
namespace Go.Proofs.YtecbhhfncklefaaDoor
set_option linter.unusedVariables false
open Go.RowKit

set_option maxRecDepth 100000 in
set_option maxHeartbeats 2000000 in
theorem wputs_walk (hput : WPut 11) (href : WPut 12) (x : Wk) (w : World) (hx : x.In) :
    Calls Tryd.prog 5 #[.agg #[.bool x.hb, .int .u64 x.size, .int .u32 x.ws, .int .u32 x.wn, .int .u32 x.ts, .int .u32 x.tn, .bool x.ha, .int .u32 x.af.kind, .int .u32 x.af.mode, .int .u32 x.af.links, .int .u32 x.af.user, .int .u32 x.af.group, .int .u64 x.af.size, .int .u64 x.af.used, .int .u64 x.af.id, .int .u32 x.af.rs, .int .u32 x.af.rn, .int .u32 x.af.ws, .int .u32 x.af.wn, .int .u32 x.af.ts, .int .u32 x.af.tn]] w fun e w' => e = .returned (.bool true) ∧ Below w.heap.size w w' := by
  have hp := fun W => hput x W hx
  have hr := fun W => href x W hx
  have hl : (paZ (wmay x) (wB x)).length ≤ 1000 := by unfold paZ; split; · rw [wB_length]; split <;> split <;> omega
                                                      · simp
  obtain ⟨cs, hcs⟩ : ∃ cs : Array Value, (#[.bool x.hb, .int .u64 x.size, .int .u32 x.ws, .int .u32 x.wn, .int .u32 x.ts, .int .u32 x.tn, .bool x.ha, .int .u32 x.af.kind, .int .u32 x.af.mode, .int .u32 x.af.links, .int .u32 x.af.user, .int .u32 x.af.group, .int .u64 x.af.size, .int .u64 x.af.used, .int .u64 x.af.id, .int .u32 x.af.rs, .int .u32 x.af.rn, .int .u32 x.af.ws, .int .u32 x.af.wn, .int .u32 x.af.ts, .int .u32 x.af.tn] : Array Value) = cs := ⟨_, rfl⟩
  have hsz : cs.size = 21 := by rw [← hcs]; rfl
  have hinf : (Tryd.prog.info? 41).map (·.size) = some cs.size := by rw [hsz]; exact w_info
  rw [hcs] at hp hr ⊢
  clear hcs
  obtain ⟨q, hq⟩ : ∃ q, (paZ (wmay x) (wB x)).length = q := ⟨_, rfl⟩
  rw [hq] at hl
  simp only [hq] at hp hr
  generalize paZ (wmay x) (wB x) = zs at *
  generalize paE (wmay x) = E at *
  have hE : (E == E) = true := by simp
  have a0 := World.alloc_heap_new w (.cells cs 41)
  have hB0 : Below w.heap.size w (w.alloc (.cells cs 41)) := (Below.refl _ _).alloc (Nat.le_refl _) _
  go_enter Tryd.func5, Tryd.ntmps5
  go_wp2_with (refine wpList_load_row rfl _ _ rfl w.heap.size rfl 41 _ (0, 0) _ a0 Tryd.underlying41 rfl hinf ?_)
  generalize (w.alloc (.cells cs 41)) = w1 at *
  refine (hp w1).mono ?_
  rintro e w2 ⟨vx, rfl, ox, hb2⟩
  have hxl : ∀ k, vx.ownBlock = some k → w1.heap.size ≤ k ∧ k < w2.heap.size := fun k hk => own_lt ox hk
  have hB2 := hB0.trans (hb2.mono hB0.size)
  have a2 := (hb2.block _ (Array.getElem?_eq_some_iff.1 a0).1).trans a0
  replace ox := own_base ox hB0.size
  clear hb2 hB0 a0
  go_wp2_with (refine wpList_load_row rfl _ _ rfl w.heap.size rfl 41 _ (0, 0) _ a2 Tryd.underlying41 rfl hinf ?_)
  refine (hp w2).mono ?_
  rintro e w3 ⟨vy, rfl, oy, hb3⟩
  have hyl : ∀ k, vy.ownBlock = some k → w2.heap.size ≤ k ∧ k < w3.heap.size := fun k hk => own_lt oy hk
  have hB3 := hB2.trans (hb3.mono hB2.size)
  have a3 := (hb3.block _ (Array.getElem?_eq_some_iff.1 a2).1).trans a2
  replace oy := own_base oy hB2.size
  replace ox := own_below ox hb3
  clear hb3 hB2 a2 hp
  go_wp2_with (refine wpList_load_row rfl _ _ rfl w.heap.size rfl 41 _ (0, 0) _ a3 Tryd.underlying41 rfl hinf ?_)
  refine (hr w3).mono ?_
  rintro e w4 ⟨vz, rfl, oz, hb4⟩
  have hB4 := hB3.trans (hb4.mono hB3.size)
  replace oz := own_base oz hB3.size
  replace ox := own_below ox hb4
  replace oy := own_below oy hb4
  obtain ⟨ax, cx, rfl, _, _⟩ := got_val ox hq
  obtain ⟨ay, cy, rfl, _, _⟩ := got_val oy hq
  obtain ⟨az, cz, rfl, _, _⟩ := got_val oz hq
  have K4 : Kp w [⟨ax, q, cx, 1, zs⟩, ⟨ay, q, cy, 2, zs⟩, ⟨az, q, cz, 3, zs⟩] w4 := ⟨hB4, lists3 ox oy oz⟩
  have hA : Apt [⟨ax, q, cx, 1, zs⟩, ⟨ay, q, cy, 2, zs⟩] := apt2 (fun k hk hk2 => by have := hxl k hk; have := hyl k hk2; omega)
  clear ox oy oz hxl hyl hB3 hB4 hb4 a3 hr
  go_wp2_with fail
  refine (two_any w4 hq (by omega) K4 hA).mono ?_
  rintro e w5 ⟨rfl, hfin⟩
  clear K4
  go_wp2
  go_ret
  exact ⟨rfl, hfin⟩
end Go.Proofs.YtecbhhfncklefaaDoor
