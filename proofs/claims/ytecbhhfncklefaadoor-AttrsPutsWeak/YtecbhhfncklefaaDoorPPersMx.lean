/- 'perhaps' of the program, as a part; nothing that was there turns. -/
import Derived.Test.YtecbhhfncklefaaDoorPPerMx
namespace Go.Proofs.YtecbhhfncklefaaDoor
set_option linter.unusedVariables false
open Go.RowKit

set_option maxRecDepth 100000 in
set_option maxHeartbeats 1000000 in
theorem peru_any (has : Bool) (x : Int) (F : FuncId) (m : Bool) (zs : List Int) (hzl : zs.length ≤ 100000) (hF : Maker F (.int .u32 x) m zs) (w : World) :
    Calls Tryd.prog 20 #[.bool has, .int .u32 x, .func (.func F) #[] #[]] w fun e w' => ∃ v, e = .returned v ∧ Tells w' v (if has then m else (x == 0)) (yB has ++ if has then zs else []) ∧ Below w.heap.size w w' := by
  have hmf := made
  have key := fun g0 g1 g2 W => peru1_any has x F m zs hzl hF g0 g1 g2 W
  generalize (if has then m else (x == 0)) = M at key ⊢
  generalize (yB has ++ if has then zs else []) = Z at key ⊢
  have h0 := World.alloc_heap_new w (.cells #[.bool has] 4)
  have b0 : Below w.heap.size w (w.alloc (.cells #[.bool has] 4)) := (Below.refl _ _).alloc (Nat.le_refl _) _
  have h1 := World.alloc_heap_new (w.alloc (.cells #[.bool has] 4)) (.cells #[.int .u32 x] 22)
  have b1 := b0.alloc b0.size (.cells #[.int .u32 x] 22)
  have h2 := World.alloc_heap_new ((w.alloc (.cells #[.bool has] 4)).alloc (.cells #[.int .u32 x] 22)) (.cells #[.func (.func F) #[] #[]] 62)
  have b2 := b1.alloc b1.size (.cells #[.func (.func F) #[] #[]] 62)
  rw [show ((w.alloc (.cells #[.bool has] 4)).alloc (.cells #[.int .u32 x] 22)).heap.size = w.heap.size + 2 by simp] at h2
  rw [show (w.alloc (.cells #[.bool has] 4)).heap.size = w.heap.size + 1 by simp] at h1
  go_enter Tryd.func20, Tryd.ntmps20
  go_wp2
  go_ret
  replace h1 := (Below.heap_alloc ((w.alloc (.cells #[.bool has] 4)).alloc (.cells #[.int .u32 x] 22)) (.cells #[.func (.func F) #[] #[]] 62) (w.heap.size + 1) (by simp)).trans h1
  replace h0 := (Below.heap_alloc _ (.cells #[.func (.func F) #[] #[]] 62) w.heap.size (by simp; omega)).trans ((Below.heap_alloc _ (.cells #[.int .u32 x] 22) w.heap.size (by simp)).trans h0)
  refine ⟨_, rfl, ⟨_, _, rfl, enter_peru, fun W hW => ?_⟩, b2⟩
  generalize (((w.alloc (.cells #[.bool has] 4)).alloc (.cells #[.int .u32 x] 22)).alloc (.cells #[.func (.func F) #[] #[]] 62)) = W2 at *
  refine key _ _ _ W ?_ ?_ ?_
  · simp only [World.cell?, (hW.block _ (Array.getElem?_eq_some_iff.1 h0).1).trans h0]; rfl
  · simp only [World.cell?, (hW.block _ (Array.getElem?_eq_some_iff.1 h2).1).trans h2]; rfl
  · simp only [World.cell?, (hW.block _ (Array.getElem?_eq_some_iff.1 h1).1).trans h1]; rfl

set_option maxRecDepth 100000 in
set_option maxHeartbeats 1000000 in
theorem perl_any (has : Bool) (x : Int) (F : FuncId) (m : Bool) (zs : List Int) (hzl : zs.length ≤ 100000) (hF : Maker F (.int .u64 x) m zs) (w : World) :
    Calls Tryd.prog 23 #[.bool has, .int .u64 x, .func (.func F) #[] #[]] w fun e w' => ∃ v, e = .returned v ∧ Tells w' v (if has then m else (x == 0)) (yB has ++ if has then zs else []) ∧ Below w.heap.size w w' := by
  have hmf := made
  have key := fun g0 g1 g2 W => perl1_any has x F m zs hzl hF g0 g1 g2 W
  generalize (if has then m else (x == 0)) = M at key ⊢
  generalize (yB has ++ if has then zs else []) = Z at key ⊢
  have h0 := World.alloc_heap_new w (.cells #[.bool has] 4)
  have b0 : Below w.heap.size w (w.alloc (.cells #[.bool has] 4)) := (Below.refl _ _).alloc (Nat.le_refl _) _
  have h1 := World.alloc_heap_new (w.alloc (.cells #[.bool has] 4)) (.cells #[.int .u64 x] 24)
  have b1 := b0.alloc b0.size (.cells #[.int .u64 x] 24)
  have h2 := World.alloc_heap_new ((w.alloc (.cells #[.bool has] 4)).alloc (.cells #[.int .u64 x] 24)) (.cells #[.func (.func F) #[] #[]] 64)
  have b2 := b1.alloc b1.size (.cells #[.func (.func F) #[] #[]] 64)
  rw [show ((w.alloc (.cells #[.bool has] 4)).alloc (.cells #[.int .u64 x] 24)).heap.size = w.heap.size + 2 by simp] at h2
  rw [show (w.alloc (.cells #[.bool has] 4)).heap.size = w.heap.size + 1 by simp] at h1
  go_enter Tryd.func23, Tryd.ntmps23
  go_wp2
  go_ret
  replace h1 := (Below.heap_alloc ((w.alloc (.cells #[.bool has] 4)).alloc (.cells #[.int .u64 x] 24)) (.cells #[.func (.func F) #[] #[]] 64) (w.heap.size + 1) (by simp)).trans h1
  replace h0 := (Below.heap_alloc _ (.cells #[.func (.func F) #[] #[]] 64) w.heap.size (by simp; omega)).trans ((Below.heap_alloc _ (.cells #[.int .u64 x] 24) w.heap.size (by simp)).trans h0)
  refine ⟨_, rfl, ⟨_, _, rfl, enter_perl, fun W hW => ?_⟩, b2⟩
  generalize (((w.alloc (.cells #[.bool has] 4)).alloc (.cells #[.int .u64 x] 24)).alloc (.cells #[.func (.func F) #[] #[]] 64)) = W2 at *
  refine key _ _ _ W ?_ ?_ ?_
  · simp only [World.cell?, (hW.block _ (Array.getElem?_eq_some_iff.1 h0).1).trans h0]; rfl
  · simp only [World.cell?, (hW.block _ (Array.getElem?_eq_some_iff.1 h2).1).trans h2]; rfl
  · simp only [World.cell?, (hW.block _ (Array.getElem?_eq_some_iff.1 h1).1).trans h1]; rfl

set_option maxRecDepth 100000 in
set_option maxHeartbeats 1000000 in
theorem perp_any (has : Bool) (z a b c d : Int) (F : FuncId) (m : Bool) (zs : List Int) (hzl : zs.length ≤ 100000) (hF : Maker F (.agg #[.int .u64 z, .int .u32 a, .int .u32 b, .int .u32 c, .int .u32 d]) m zs) (w : World) :
    Calls Tryd.prog 31 #[.bool has, .agg #[.int .u64 z, .int .u32 a, .int .u32 b, .int .u32 c, .int .u32 d], .func (.func F) #[] #[]] w fun e w' => ∃ v, e = .returned v ∧ Tells w' v (if has then m else (z == 0 && (a == 0 && b == 0) && (c == 0 && d == 0))) (yB has ++ if has then zs else []) ∧ Below w.heap.size w w' := by
  have hmf := made
  have key := fun g0 g1 g2 W => perp1_any has z a b c d F m zs hzl hF g0 g1 g2 W
  generalize (if has then m else (z == 0 && (a == 0 && b == 0) && (c == 0 && d == 0))) = M at key ⊢
  generalize (yB has ++ if has then zs else []) = Z at key ⊢
  have h0 := World.alloc_heap_new w (.cells #[.bool has] 4)
  have b0 : Below w.heap.size w (w.alloc (.cells #[.bool has] 4)) := (Below.refl _ _).alloc (Nat.le_refl _) _
  have h1 := World.alloc_heap_new (w.alloc (.cells #[.bool has] 4)) (.cells #[.int .u64 z, .int .u32 a, .int .u32 b, .int .u32 c, .int .u32 d] 73)
  have b1 := b0.alloc b0.size (.cells #[.int .u64 z, .int .u32 a, .int .u32 b, .int .u32 c, .int .u32 d] 73)
  have h2 := World.alloc_heap_new ((w.alloc (.cells #[.bool has] 4)).alloc (.cells #[.int .u64 z, .int .u32 a, .int .u32 b, .int .u32 c, .int .u32 d] 73)) (.cells #[.func (.func F) #[] #[]] 74)
  have b2 := b1.alloc b1.size (.cells #[.func (.func F) #[] #[]] 74)
  rw [show ((w.alloc (.cells #[.bool has] 4)).alloc (.cells #[.int .u64 z, .int .u32 a, .int .u32 b, .int .u32 c, .int .u32 d] 73)).heap.size = w.heap.size + 2 by simp] at h2
  rw [show (w.alloc (.cells #[.bool has] 4)).heap.size = w.heap.size + 1 by simp] at h1
  go_enter Tryd.func31, Tryd.ntmps31
  go_wp2
  go_ret
  replace h1 := (Below.heap_alloc ((w.alloc (.cells #[.bool has] 4)).alloc (.cells #[.int .u64 z, .int .u32 a, .int .u32 b, .int .u32 c, .int .u32 d] 73)) (.cells #[.func (.func F) #[] #[]] 74) (w.heap.size + 1) (by simp)).trans h1
  replace h0 := (Below.heap_alloc _ (.cells #[.func (.func F) #[] #[]] 74) w.heap.size (by simp; omega)).trans ((Below.heap_alloc _ (.cells #[.int .u64 z, .int .u32 a, .int .u32 b, .int .u32 c, .int .u32 d] 73) w.heap.size (by simp)).trans h0)
  refine ⟨_, rfl, ⟨_, _, rfl, enter_perp, fun W hW => ?_⟩, b2⟩
  generalize (((w.alloc (.cells #[.bool has] 4)).alloc (.cells #[.int .u64 z, .int .u32 a, .int .u32 b, .int .u32 c, .int .u32 d] 73)).alloc (.cells #[.func (.func F) #[] #[]] 74)) = W2 at *
  refine key _ _ _ W ?_ ?_ ?_
  · simp only [World.cell?, (hW.block _ (Array.getElem?_eq_some_iff.1 h0).1).trans h0]; rfl
  · simp only [World.cell?, (hW.block _ (Array.getElem?_eq_some_iff.1 h2).1).trans h2]; rfl
  · exact (hW.block _ (Array.getElem?_eq_some_iff.1 h1).1).trans h1

set_option maxRecDepth 100000 in
set_option maxHeartbeats 1000000 in
theorem pera_any (has : Bool) (x : Atr) (F : FuncId) (m : Bool) (zs : List Int) (hzl : zs.length ≤ 100000) (hF : Maker F (.agg #[.int .u32 x.kind, .int .u32 x.mode, .int .u32 x.links, .int .u32 x.user, .int .u32 x.group, .int .u64 x.size, .int .u64 x.used, .int .u64 x.id, .int .u32 x.rs, .int .u32 x.rn, .int .u32 x.ws, .int .u32 x.wn, .int .u32 x.ts, .int .u32 x.tn]) m zs) (w : World) :
    Calls Tryd.prog 33 #[.bool has, .agg #[.int .u32 x.kind, .int .u32 x.mode, .int .u32 x.links, .int .u32 x.user, .int .u32 x.group, .int .u64 x.size, .int .u64 x.used, .int .u64 x.id, .int .u32 x.rs, .int .u32 x.rn, .int .u32 x.ws, .int .u32 x.wn, .int .u32 x.ts, .int .u32 x.tn], .func (.func F) #[] #[]] w fun e w' => ∃ v, e = .returned v ∧ Tells w' v (if has then m else (az x)) (yB has ++ if has then zs else []) ∧ Below w.heap.size w w' := by
  have hmf := made
  have key := fun g0 g1 g2 W => pera1_any has x F m zs hzl hF g0 g1 g2 W
  generalize (if has then m else (az x)) = M at key ⊢
  generalize (yB has ++ if has then zs else []) = Z at key ⊢
  have h0 := World.alloc_heap_new w (.cells #[.bool has] 4)
  have b0 : Below w.heap.size w (w.alloc (.cells #[.bool has] 4)) := (Below.refl _ _).alloc (Nat.le_refl _) _
  have h1 := World.alloc_heap_new (w.alloc (.cells #[.bool has] 4)) (.cells #[.int .u32 x.kind, .int .u32 x.mode, .int .u32 x.links, .int .u32 x.user, .int .u32 x.group, .int .u64 x.size, .int .u64 x.used, .int .u64 x.id, .int .u32 x.rs, .int .u32 x.rn, .int .u32 x.ws, .int .u32 x.wn, .int .u32 x.ts, .int .u32 x.tn] 28)
  have b1 := b0.alloc b0.size (.cells #[.int .u32 x.kind, .int .u32 x.mode, .int .u32 x.links, .int .u32 x.user, .int .u32 x.group, .int .u64 x.size, .int .u64 x.used, .int .u64 x.id, .int .u32 x.rs, .int .u32 x.rn, .int .u32 x.ws, .int .u32 x.wn, .int .u32 x.ts, .int .u32 x.tn] 28)
  have h2 := World.alloc_heap_new ((w.alloc (.cells #[.bool has] 4)).alloc (.cells #[.int .u32 x.kind, .int .u32 x.mode, .int .u32 x.links, .int .u32 x.user, .int .u32 x.group, .int .u64 x.size, .int .u64 x.used, .int .u64 x.id, .int .u32 x.rs, .int .u32 x.rn, .int .u32 x.ws, .int .u32 x.wn, .int .u32 x.ts, .int .u32 x.tn] 28)) (.cells #[.func (.func F) #[] #[]] 47)
  have b2 := b1.alloc b1.size (.cells #[.func (.func F) #[] #[]] 47)
  rw [show ((w.alloc (.cells #[.bool has] 4)).alloc (.cells #[.int .u32 x.kind, .int .u32 x.mode, .int .u32 x.links, .int .u32 x.user, .int .u32 x.group, .int .u64 x.size, .int .u64 x.used, .int .u64 x.id, .int .u32 x.rs, .int .u32 x.rn, .int .u32 x.ws, .int .u32 x.wn, .int .u32 x.ts, .int .u32 x.tn] 28)).heap.size = w.heap.size + 2 by simp] at h2
  rw [show (w.alloc (.cells #[.bool has] 4)).heap.size = w.heap.size + 1 by simp] at h1
  go_enter Tryd.func33, Tryd.ntmps33
  go_wp2
  go_ret
  replace h1 := (Below.heap_alloc ((w.alloc (.cells #[.bool has] 4)).alloc (.cells #[.int .u32 x.kind, .int .u32 x.mode, .int .u32 x.links, .int .u32 x.user, .int .u32 x.group, .int .u64 x.size, .int .u64 x.used, .int .u64 x.id, .int .u32 x.rs, .int .u32 x.rn, .int .u32 x.ws, .int .u32 x.wn, .int .u32 x.ts, .int .u32 x.tn] 28)) (.cells #[.func (.func F) #[] #[]] 47) (w.heap.size + 1) (by simp)).trans h1
  replace h0 := (Below.heap_alloc _ (.cells #[.func (.func F) #[] #[]] 47) w.heap.size (by simp; omega)).trans ((Below.heap_alloc _ (.cells #[.int .u32 x.kind, .int .u32 x.mode, .int .u32 x.links, .int .u32 x.user, .int .u32 x.group, .int .u64 x.size, .int .u64 x.used, .int .u64 x.id, .int .u32 x.rs, .int .u32 x.rn, .int .u32 x.ws, .int .u32 x.wn, .int .u32 x.ts, .int .u32 x.tn] 28) w.heap.size (by simp)).trans h0)
  refine ⟨_, rfl, ⟨_, _, rfl, enter_pera, fun W hW => ?_⟩, b2⟩
  generalize (((w.alloc (.cells #[.bool has] 4)).alloc (.cells #[.int .u32 x.kind, .int .u32 x.mode, .int .u32 x.links, .int .u32 x.user, .int .u32 x.group, .int .u64 x.size, .int .u64 x.used, .int .u64 x.id, .int .u32 x.rs, .int .u32 x.rn, .int .u32 x.ws, .int .u32 x.wn, .int .u32 x.ts, .int .u32 x.tn] 28)).alloc (.cells #[.func (.func F) #[] #[]] 47)) = W2 at *
  refine key _ _ _ W ?_ ?_ ?_
  · simp only [World.cell?, (hW.block _ (Array.getElem?_eq_some_iff.1 h0).1).trans h0]; rfl
  · simp only [World.cell?, (hW.block _ (Array.getElem?_eq_some_iff.1 h2).1).trans h2]; rfl
  · exact (hW.block _ (Array.getElem?_eq_some_iff.1 h1).1).trans h1
end Go.Proofs.YtecbhhfncklefaaDoor
