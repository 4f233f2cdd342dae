/- 'perhaps' of the program, as a part; nothing that was there turns. -/
import Derived.Test.YtecbhhfncklefabPPerMx
import Derived.Test.YtecbhhfncklefabPutTimePutPMakeMx
import Derived.Test.YtecbhhfncklefabAttrMath2
namespace Go.Proofs.Ytecbhhfncklefab
set_option linter.unusedVariables false
open Go.RowKit

set_option maxRecDepth 100000 in
set_option maxHeartbeats 1000000 in
theorem peru_any (has : Bool) (x : Int) (F : FuncId) (m : Bool) (zs : List Int) (hzl : zs.length ≤ 100000) (hF : Maker F (.int .u32 x) m zs) (w : World) :
    Calls Try.prog 24 #[.bool has, .int .u32 x, .func (.func F) #[] #[]] w fun e w' => ∃ v, e = .returned v ∧ Tells w' v (if has then m else (x == 0)) (yB has ++ if has then zs else []) ∧ Below w.heap.size w w' := by
  have hmf := made
  have key := fun g0 g1 g2 W => peru1_any has x F m zs hzl hF g0 g1 g2 W
  generalize (if has then m else (x == 0)) = M at key ⊢
  generalize (yB has ++ if has then zs else []) = Z at key ⊢
  have h0 := World.alloc_heap_new w (.cells #[.bool has] 4)
  have b0 : Below w.heap.size w (w.alloc (.cells #[.bool has] 4)) := (Below.refl _ _).alloc (Nat.le_refl _) _
  have h1 := World.alloc_heap_new (w.alloc (.cells #[.bool has] 4)) (.cells #[.int .u32 x] 22)
  have b1 := b0.alloc b0.size (.cells #[.int .u32 x] 22)
  have h2 := World.alloc_heap_new ((w.alloc (.cells #[.bool has] 4)).alloc (.cells #[.int .u32 x] 22)) (.cells #[.func (.func F) #[] #[]] 66)
  have b2 := b1.alloc b1.size (.cells #[.func (.func F) #[] #[]] 66)
  rw [show ((w.alloc (.cells #[.bool has] 4)).alloc (.cells #[.int .u32 x] 22)).heap.size = w.heap.size + 2 by simp] at h2
  rw [show (w.alloc (.cells #[.bool has] 4)).heap.size = w.heap.size + 1 by simp] at h1
  go_enter Try.func24, Try.ntmps24
  go_wp2
  go_ret
  replace h1 := (Below.heap_alloc ((w.alloc (.cells #[.bool has] 4)).alloc (.cells #[.int .u32 x] 22)) (.cells #[.func (.func F) #[] #[]] 66) (w.heap.size + 1) (by simp)).trans h1
  replace h0 := (Below.heap_alloc _ (.cells #[.func (.func F) #[] #[]] 66) w.heap.size (by simp; omega)).trans ((Below.heap_alloc _ (.cells #[.int .u32 x] 22) w.heap.size (by simp)).trans h0)
  refine ⟨_, rfl, ⟨_, _, rfl, enter_peru, fun W hW => ?_⟩, b2⟩
  generalize (((w.alloc (.cells #[.bool has] 4)).alloc (.cells #[.int .u32 x] 22)).alloc (.cells #[.func (.func F) #[] #[]] 66)) = W2 at *
  refine key _ _ _ W ?_ ?_ ?_
  · simp only [World.cell?, (hW.block _ (Array.getElem?_eq_some_iff.1 h0).1).trans h0]; rfl
  · simp only [World.cell?, (hW.block _ (Array.getElem?_eq_some_iff.1 h2).1).trans h2]; rfl
  · simp only [World.cell?, (hW.block _ (Array.getElem?_eq_some_iff.1 h1).1).trans h1]; rfl

set_option maxRecDepth 100000 in
set_option maxHeartbeats 1000000 in
theorem perl_any (has : Bool) (x : Int) (F : FuncId) (m : Bool) (zs : List Int) (hzl : zs.length ≤ 100000) (hF : Maker F (.int .u64 x) m zs) (w : World) :
    Calls Try.prog 27 #[.bool has, .int .u64 x, .func (.func F) #[] #[]] w fun e w' => ∃ v, e = .returned v ∧ Tells w' v (if has then m else (x == 0)) (yB has ++ if has then zs else []) ∧ Below w.heap.size w w' := by
  have hmf := made
  have key := fun g0 g1 g2 W => perl1_any has x F m zs hzl hF g0 g1 g2 W
  generalize (if has then m else (x == 0)) = M at key ⊢
  generalize (yB has ++ if has then zs else []) = Z at key ⊢
  have h0 := World.alloc_heap_new w (.cells #[.bool has] 4)
  have b0 : Below w.heap.size w (w.alloc (.cells #[.bool has] 4)) := (Below.refl _ _).alloc (Nat.le_refl _) _
  have h1 := World.alloc_heap_new (w.alloc (.cells #[.bool has] 4)) (.cells #[.int .u64 x] 24)
  have b1 := b0.alloc b0.size (.cells #[.int .u64 x] 24)
  have h2 := World.alloc_heap_new ((w.alloc (.cells #[.bool has] 4)).alloc (.cells #[.int .u64 x] 24)) (.cells #[.func (.func F) #[] #[]] 68)
  have b2 := b1.alloc b1.size (.cells #[.func (.func F) #[] #[]] 68)
  rw [show ((w.alloc (.cells #[.bool has] 4)).alloc (.cells #[.int .u64 x] 24)).heap.size = w.heap.size + 2 by simp] at h2
  rw [show (w.alloc (.cells #[.bool has] 4)).heap.size = w.heap.size + 1 by simp] at h1
  go_enter Try.func27, Try.ntmps27
  go_wp2
  go_ret
  replace h1 := (Below.heap_alloc ((w.alloc (.cells #[.bool has] 4)).alloc (.cells #[.int .u64 x] 24)) (.cells #[.func (.func F) #[] #[]] 68) (w.heap.size + 1) (by simp)).trans h1
  replace h0 := (Below.heap_alloc _ (.cells #[.func (.func F) #[] #[]] 68) w.heap.size (by simp; omega)).trans ((Below.heap_alloc _ (.cells #[.int .u64 x] 24) w.heap.size (by simp)).trans h0)
  refine ⟨_, rfl, ⟨_, _, rfl, enter_perl, fun W hW => ?_⟩, b2⟩
  generalize (((w.alloc (.cells #[.bool has] 4)).alloc (.cells #[.int .u64 x] 24)).alloc (.cells #[.func (.func F) #[] #[]] 68)) = W2 at *
  refine key _ _ _ W ?_ ?_ ?_
  · simp only [World.cell?, (hW.block _ (Array.getElem?_eq_some_iff.1 h0).1).trans h0]; rfl
  · simp only [World.cell?, (hW.block _ (Array.getElem?_eq_some_iff.1 h2).1).trans h2]; rfl
  · simp only [World.cell?, (hW.block _ (Array.getElem?_eq_some_iff.1 h1).1).trans h1]; rfl

set_option maxRecDepth 100000 in
set_option maxHeartbeats 1000000 in
theorem perp_any (has : Bool) (z a b c d : Int) (F : FuncId) (m : Bool) (zs : List Int) (hzl : zs.length ≤ 100000) (hF : Maker F (.agg #[.int .u64 z, .int .u32 a, .int .u32 b, .int .u32 c, .int .u32 d]) m zs) (w : World) :
    Calls Try.prog 32 #[.bool has, .agg #[.int .u64 z, .int .u32 a, .int .u32 b, .int .u32 c, .int .u32 d], .func (.func F) #[] #[]] w fun e w' => ∃ v, e = .returned v ∧ Tells w' v (if has then m else (z == 0 && (a == 0 && b == 0) && (c == 0 && d == 0))) (yB has ++ if has then zs else []) ∧ Below w.heap.size w w' := by
  have hmf := made
  have key := fun g0 g1 g2 W => perp1_any has z a b c d F m zs hzl hF g0 g1 g2 W
  generalize (if has then m else (z == 0 && (a == 0 && b == 0) && (c == 0 && d == 0))) = M at key ⊢
  generalize (yB has ++ if has then zs else []) = Z at key ⊢
  have h0 := World.alloc_heap_new w (.cells #[.bool has] 4)
  have b0 : Below w.heap.size w (w.alloc (.cells #[.bool has] 4)) := (Below.refl _ _).alloc (Nat.le_refl _) _
  have h1 := World.alloc_heap_new (w.alloc (.cells #[.bool has] 4)) (.cells #[.int .u64 z, .int .u32 a, .int .u32 b, .int .u32 c, .int .u32 d] 75)
  have b1 := b0.alloc b0.size (.cells #[.int .u64 z, .int .u32 a, .int .u32 b, .int .u32 c, .int .u32 d] 75)
  have h2 := World.alloc_heap_new ((w.alloc (.cells #[.bool has] 4)).alloc (.cells #[.int .u64 z, .int .u32 a, .int .u32 b, .int .u32 c, .int .u32 d] 75)) (.cells #[.func (.func F) #[] #[]] 76)
  have b2 := b1.alloc b1.size (.cells #[.func (.func F) #[] #[]] 76)
  rw [show ((w.alloc (.cells #[.bool has] 4)).alloc (.cells #[.int .u64 z, .int .u32 a, .int .u32 b, .int .u32 c, .int .u32 d] 75)).heap.size = w.heap.size + 2 by simp] at h2
  rw [show (w.alloc (.cells #[.bool has] 4)).heap.size = w.heap.size + 1 by simp] at h1
  go_enter Try.func32, Try.ntmps32
  go_wp2
  go_ret
  replace h1 := (Below.heap_alloc ((w.alloc (.cells #[.bool has] 4)).alloc (.cells #[.int .u64 z, .int .u32 a, .int .u32 b, .int .u32 c, .int .u32 d] 75)) (.cells #[.func (.func F) #[] #[]] 76) (w.heap.size + 1) (by simp)).trans h1
  replace h0 := (Below.heap_alloc _ (.cells #[.func (.func F) #[] #[]] 76) w.heap.size (by simp; omega)).trans ((Below.heap_alloc _ (.cells #[.int .u64 z, .int .u32 a, .int .u32 b, .int .u32 c, .int .u32 d] 75) w.heap.size (by simp)).trans h0)
  refine ⟨_, rfl, ⟨_, _, rfl, enter_perp, fun W hW => ?_⟩, b2⟩
  generalize (((w.alloc (.cells #[.bool has] 4)).alloc (.cells #[.int .u64 z, .int .u32 a, .int .u32 b, .int .u32 c, .int .u32 d] 75)).alloc (.cells #[.func (.func F) #[] #[]] 76)) = W2 at *
  refine key _ _ _ W ?_ ?_ ?_
  · simp only [World.cell?, (hW.block _ (Array.getElem?_eq_some_iff.1 h0).1).trans h0]; rfl
  · simp only [World.cell?, (hW.block _ (Array.getElem?_eq_some_iff.1 h2).1).trans h2]; rfl
  · exact (hW.block _ (Array.getElem?_eq_some_iff.1 h1).1).trans h1

set_option maxRecDepth 100000 in
set_option maxHeartbeats 1000000 in
theorem pera_any (has : Bool) (x : Atr) (F : FuncId) (m : Bool) (zs : List Int) (hzl : zs.length ≤ 100000) (hF : Maker F (.agg #[.int .u32 x.kind, .int .u32 x.mode, .int .u32 x.links, .int .u32 x.user, .int .u32 x.group, .int .u64 x.size, .int .u64 x.used, .int .u64 x.id, .int .u32 x.rs, .int .u32 x.rn, .int .u32 x.ws, .int .u32 x.wn, .int .u32 x.ts, .int .u32 x.tn]) m zs) (w : World) :
    Calls Try.prog 34 #[.bool has, .agg #[.int .u32 x.kind, .int .u32 x.mode, .int .u32 x.links, .int .u32 x.user, .int .u32 x.group, .int .u64 x.size, .int .u64 x.used, .int .u64 x.id, .int .u32 x.rs, .int .u32 x.rn, .int .u32 x.ws, .int .u32 x.wn, .int .u32 x.ts, .int .u32 x.tn], .func (.func F) #[] #[]] w fun e w' => ∃ v, e = .returned v ∧ Tells w' v (if has then m else (az x)) (yB has ++ if has then zs else []) ∧ Below w.heap.size w w' := by
  have hmf := made
  have key := fun g0 g1 g2 W => pera1_any has x F m zs hzl hF g0 g1 g2 W
  generalize (if has then m else (az x)) = M at key ⊢
  generalize (yB has ++ if has then zs else []) = Z at key ⊢
  have h0 := World.alloc_heap_new w (.cells #[.bool has] 4)
  have b0 : Below w.heap.size w (w.alloc (.cells #[.bool has] 4)) := (Below.refl _ _).alloc (Nat.le_refl _) _
  have h1 := World.alloc_heap_new (w.alloc (.cells #[.bool has] 4)) (.cells #[.int .u32 x.kind, .int .u32 x.mode, .int .u32 x.links, .int .u32 x.user, .int .u32 x.group, .int .u64 x.size, .int .u64 x.used, .int .u64 x.id, .int .u32 x.rs, .int .u32 x.rn, .int .u32 x.ws, .int .u32 x.wn, .int .u32 x.ts, .int .u32 x.tn] 28)
  have b1 := b0.alloc b0.size (.cells #[.int .u32 x.kind, .int .u32 x.mode, .int .u32 x.links, .int .u32 x.user, .int .u32 x.group, .int .u64 x.size, .int .u64 x.used, .int .u64 x.id, .int .u32 x.rs, .int .u32 x.rn, .int .u32 x.ws, .int .u32 x.wn, .int .u32 x.ts, .int .u32 x.tn] 28)
  have h2 := World.alloc_heap_new ((w.alloc (.cells #[.bool has] 4)).alloc (.cells #[.int .u32 x.kind, .int .u32 x.mode, .int .u32 x.links, .int .u32 x.user, .int .u32 x.group, .int .u64 x.size, .int .u64 x.used, .int .u64 x.id, .int .u32 x.rs, .int .u32 x.rn, .int .u32 x.ws, .int .u32 x.wn, .int .u32 x.ts, .int .u32 x.tn] 28)) (.cells #[.func (.func F) #[] #[]] 61)
  have b2 := b1.alloc b1.size (.cells #[.func (.func F) #[] #[]] 61)
  rw [show ((w.alloc (.cells #[.bool has] 4)).alloc (.cells #[.int .u32 x.kind, .int .u32 x.mode, .int .u32 x.links, .int .u32 x.user, .int .u32 x.group, .int .u64 x.size, .int .u64 x.used, .int .u64 x.id, .int .u32 x.rs, .int .u32 x.rn, .int .u32 x.ws, .int .u32 x.wn, .int .u32 x.ts, .int .u32 x.tn] 28)).heap.size = w.heap.size + 2 by simp] at h2
  rw [show (w.alloc (.cells #[.bool has] 4)).heap.size = w.heap.size + 1 by simp] at h1
  go_enter Try.func34, Try.ntmps34
  go_wp2
  go_ret
  replace h1 := (Below.heap_alloc ((w.alloc (.cells #[.bool has] 4)).alloc (.cells #[.int .u32 x.kind, .int .u32 x.mode, .int .u32 x.links, .int .u32 x.user, .int .u32 x.group, .int .u64 x.size, .int .u64 x.used, .int .u64 x.id, .int .u32 x.rs, .int .u32 x.rn, .int .u32 x.ws, .int .u32 x.wn, .int .u32 x.ts, .int .u32 x.tn] 28)) (.cells #[.func (.func F) #[] #[]] 61) (w.heap.size + 1) (by simp)).trans h1
  replace h0 := (Below.heap_alloc _ (.cells #[.func (.func F) #[] #[]] 61) w.heap.size (by simp; omega)).trans ((Below.heap_alloc _ (.cells #[.int .u32 x.kind, .int .u32 x.mode, .int .u32 x.links, .int .u32 x.user, .int .u32 x.group, .int .u64 x.size, .int .u64 x.used, .int .u64 x.id, .int .u32 x.rs, .int .u32 x.rn, .int .u32 x.ws, .int .u32 x.wn, .int .u32 x.ts, .int .u32 x.tn] 28) w.heap.size (by simp)).trans h0)
  refine ⟨_, rfl, ⟨_, _, rfl, enter_pera, fun W hW => ?_⟩, b2⟩
  generalize (((w.alloc (.cells #[.bool has] 4)).alloc (.cells #[.int .u32 x.kind, .int .u32 x.mode, .int .u32 x.links, .int .u32 x.user, .int .u32 x.group, .int .u64 x.size, .int .u64 x.used, .int .u64 x.id, .int .u32 x.rs, .int .u32 x.rn, .int .u32 x.ws, .int .u32 x.wn, .int .u32 x.ts, .int .u32 x.tn] 28)).alloc (.cells #[.func (.func F) #[] #[]] 61)) = W2 at *
  refine key _ _ _ W ?_ ?_ ?_
  · simp only [World.cell?, (hW.block _ (Array.getElem?_eq_some_iff.1 h0).1).trans h0]; rfl
  · simp only [World.cell?, (hW.block _ (Array.getElem?_eq_some_iff.1 h2).1).trans h2]; rfl
  · exact (hW.block _ (Array.getElem?_eq_some_iff.1 h1).1).trans h1
end Go.Proofs.Ytecbhhfncklefab

/- 'setting' of the program: how a time is set, and to which; nothing that was there turns. -/
namespace Go.Proofs.Ytecbhhfncklefab
set_option linter.unusedVariables false
open Go.RowKit

theorem infoSg8 : (Try.prog.info? 5).map (fun i => (i.zero, i.size, i.bytes)) = some (some (.int .u8 0), 1, 1) := by kernel_rfl
/-- May it be set so? Its bytes. -/
def hwM (h s n : Int) : Bool := decide (h ≤ 2) && (if h == 2 then tok n else (s == 0 && n == 0))
def hwZ (h s n : Int) : List Int := bytesOf h 4 ++ if h == 2 then tB s n else []
theorem hwZ_le (h s n : Int) : (hwZ h s n).length ≤ 12 := by
  unfold hwZ
  split <;> simp [bytesOf_length, tB_length]

theorem enter_setting : ∀ (args : Array Value) (w : World), (callFunc 58 args).run Try.prog w = .ok (.enter 58 args) w := fun _ _ => by simp [go_sem]

set_option maxRecDepth 100000 in
set_option maxHeartbeats 2000000 in
theorem setting1_any (h s n : Int) (h0 : 0 ≤ h) (h1 : h ≤ 4294967295) (s0 : 0 ≤ s) (s1 : s ≤ 4294967295) (n0 : 0 ≤ n) (n1 : n ≤ 4294967295) (g k : Nat) (w : World) (hc : w.heap[g]? = some (.cells #[.int .u32 h] 38)) (ht : Tp w k s n) :
    Calls Try.prog 58 #[.pointer (some ⟨g, 0, none⟩), .pointer (some ⟨k, 0, none⟩)] w (Told1 (hwM h s n) (hwZ h s n) w) := by
  obtain ⟨i0, hi, hz0, hz1, hz2⟩ := info_parts infoSg8
  have c0 : w.cell? ⟨g, 0, none⟩ = some (.int .u32 h) := by simp [World.cell?, hc]
  have hlt : g < w.heap.size := (Array.getElem?_eq_some_iff.1 hc).1
  have hp := fun W => Put_any h h0 h1 W
  have hm := fun W => moment_any s n s0 s1 n0 n1 W
  have heq := fun W => time_eql s n 0 0 W
  cases hle : decide (h ≤ 2) with
  | false =>
    have hM : hwM h s n = false := by simp [hwM, hle]
    rw [hM]
    clear hM
    go_enter Try.func58, Try.ntmps58
    go_wp2_with (go_at_call 43; refine (need_no _ _).mono ?_; rintro e w2 ⟨rfl, hw2⟩; subst w2)
    exact ⟨rfl, told_no (Below.refl _ _)⟩
  | true =>
    cases h2 : (h == 2) with
    | false =>
      cases hz : ((s == 0) && (n == 0)) with
      | false =>
        have hM : hwM h s n = false := by simp only [hwM, hle, h2, hz]; rfl
        rw [hM]
        rw [hz] at heq
        clear hM hm
        go_enter Try.func58, Try.ntmps58
        go_wp2_with (first
          | (go_at_call 43; have _g := hb3; refine (need_no _ _).mono ?_; rintro e w4 ⟨rfl, hw4⟩; subst w4)
          | (go_at_call 43; refine (need_yes _ _).mono ?_; rintro e w2 ⟨rfl, hw2⟩; subst w2)
          | (go_at_call 53; refine (hp _).mono ?_; rintro e w3 ⟨rfl, ho3, hb3⟩; have t3 := ht.next hb3; have d0 := t3.c0; have d1 := t3.c1; have c3 := (hb3.cell (p := ⟨g, 0, none⟩) hlt).trans c0))
        exact ⟨rfl, told_no hb3⟩
      | true =>
        have hM : hwM h s n = true := by simp only [hwM, hle, h2, hz]; rfl
        have hZ : hwZ h s n = bytesOf h 4 := by simp [hwZ, h2]
        rw [hM, hZ]
        rw [hz] at heq
        clear hM hZ hm
        go_enter Try.func58, Try.ntmps58
        go_wp2_with (first
          | (go_at_call 43; refine (need_yes _ _).mono ?_; rintro e w2 ⟨rfl, hw2⟩; subst w2)
          | (go_at_call 53; refine (hp _).mono ?_; rintro e w3 ⟨rfl, ho3, hb3⟩; have t3 := ht.next hb3; have d0 := t3.c0; have d1 := t3.c1; have c3 := (hb3.cell (p := ⟨g, 0, none⟩) hlt).trans c0))
        go_ret
        exact told_yes hb3 (bytesOf_length h 4) ho3
    | true =>
      have hZ : hwZ h s n = bytesOf h 4 ++ tB s n := by simp [hwZ, h2]
      have hM : hwM h s n = tok n := by simp [hwM, hle, h2]
      rw [hM, hZ]
      clear hM hZ heq
      cases htk : tok n with
      | false =>
        rw [htk] at hm
        go_enter Try.func58, Try.ntmps58
        go_wp2_with (first
          | (go_at_call 43; refine (need_yes _ _).mono ?_; rintro e w2 ⟨rfl, hw2⟩; subst w2)
          | (go_at_call 41; have _g := hb3; refine (hm _).mono ?_; rintro e w5 ⟨v5, rfl, ⟨K5, caps, rfl, hen, hcl⟩, hb5⟩)
          | (go_at_call 53; refine (hp _).mono ?_; rintro e w3 ⟨rfl, ho3, hb3⟩; have t3 := ht.next hb3; have d0 := t3.c0; have d1 := t3.c1; have c3 := (hb3.cell (p := ⟨g, 0, none⟩) hlt).trans c0))
        refine (hcl w5 (Below.refl _ _)).mono ?_
        intro e w6 hT
        obtain ⟨hb6, rfl⟩ := told_false hT
        have hB5 := hb3.trans (hb5.mono hb3.size)
        exact ⟨rfl, told_no (hB5.trans (hb6.mono hB5.size))⟩
      | true =>
        rw [htk] at hm
        go_enter Try.func58, Try.ntmps58
        go_wp2_with (first
          | (go_at_call 43; refine (need_yes _ _).mono ?_; rintro e w2 ⟨rfl, hw2⟩; subst w2)
          | (go_at_call 41; have _g := hb3; refine (hm _).mono ?_; rintro e w5 ⟨v5, rfl, ⟨K5, caps, rfl, hen, hcl⟩, hb5⟩)
          | (go_at_call 53; refine (hp _).mono ?_; rintro e w3 ⟨rfl, ho3, hb3⟩; have t3 := ht.next hb3; have d0 := t3.c0; have d1 := t3.c1; have c3 := (hb3.cell (p := ⟨g, 0, none⟩) hlt).trans c0))
        refine (hcl w5 (Below.refl _ _)).mono ?_
        intro e w6 hT
        obtain ⟨hb6, v6, rfl, ho6⟩ := told_true hT
        rw [tB_length] at ho6
        obtain ⟨G, c, rfl, _, _, _⟩ := own_shape ho6 (by omega)
        have hB5 := hb3.trans (hb5.mono hb3.size)
        have hB6 := hB5.trans (hb6.mono hB5.size)
        have o6 := own_below (own_below ho3 hb5) hb6
        have s6 := seg_own ho6 (tB_length s n)
        clear hcl hm hp hb3 hb5 ho3 ho6 d0 d1 c3 t3 hc ht c0 hb6 hB5
        go_wp2_with (at_builtin; refine wpList_append_each _ rfl _ _ 29 rfl w.heap.size 5 i0 (.int .u8 0) 1 1 Try.underlying29 hi hz0 hz1 hz2 rfl (by decide) _ 4 _ rfl o6 (some ⟨G, 0, none⟩) 8 c ((tB s n).map (Value.int .u8)) rfl (by simp) (by rw [List.length_map, tB_length]) (fun b e => seg_news (by rw [← e]; exact s6)) (news_one _) (by unfold maxLen; omega) (by omega) hB6.size ?_; intro v7 W7 o7 r7)
        go_ret
        rw [← List.map_append] at o7
        exact told_yes (hB6.grown r7 hB6.size (fun k e => own_low o6 e)) (by simp [bytesOf_length, tB_length]) o7

set_option maxRecDepth 100000 in
set_option maxHeartbeats 1000000 in
theorem setting_any (h s n : Int) (h0 : 0 ≤ h) (h1 : h ≤ 4294967295) (s0 : 0 ≤ s) (s1 : s ≤ 4294967295) (n0 : 0 ≤ n) (n1 : n ≤ 4294967295) (w : World) :
    Calls Try.prog 29 #[.int .u32 h, .agg #[.int .u32 s, .int .u32 n]] w fun e w' => ∃ v, e = .returned v ∧ Tells w' v (hwM h s n) (hwZ h s n) ∧ Below w.heap.size w w' := by
  have hmf := made
  have key := fun g k W => setting1_any h s n h0 h1 s0 s1 n0 n1 g k W
  generalize hwM h s n = M at key ⊢
  generalize hwZ h s n = Z at key ⊢
  have g0 := World.alloc_heap_new w (.cells #[.int .u32 h] 38)
  have b0 : Below w.heap.size w (w.alloc (.cells #[.int .u32 h] 38)) := (Below.refl _ _).alloc (Nat.le_refl _) _
  have g1 := World.alloc_heap_new (w.alloc (.cells #[.int .u32 h] 38)) (.cells #[.int .u32 s, .int .u32 n] 26)
  have b1 := b0.alloc b0.size (.cells #[.int .u32 s, .int .u32 n] 26)
  rw [show (w.alloc (.cells #[.int .u32 h] 38)).heap.size = w.heap.size + 1 by simp] at g1
  go_enter Try.func29, Try.ntmps29
  go_wp2
  go_ret
  replace g0 := (Below.heap_alloc _ (.cells #[.int .u32 s, .int .u32 n] 26) w.heap.size (by simp)).trans g0
  refine ⟨_, rfl, ⟨_, _, rfl, enter_setting, fun W hW => ?_⟩, b1⟩
  generalize ((w.alloc (.cells #[.int .u32 h] 38)).alloc (.cells #[.int .u32 s, .int .u32 n] 26)) = W2 at *
  exact key _ _ W ((hW.block _ (Array.getElem?_eq_some_iff.1 g0).1).trans g0) ((hW.block _ (Array.getElem?_eq_some_iff.1 g1).1).trans g1)
end Go.Proofs.Ytecbhhfncklefab
