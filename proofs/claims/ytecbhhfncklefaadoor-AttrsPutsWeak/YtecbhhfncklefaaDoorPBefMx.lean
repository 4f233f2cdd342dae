/- 'before' and 'node' of the program: rows of parts; nothing that was there turns. -/
import Derived.Test.YtecbhhfncklefaaDoorPPerMx
namespace Go.Proofs.YtecbhhfncklefaaDoor
set_option linter.unusedVariables false
open Go.RowKit

theorem cells_tl (W : World) (t : TypeId) (xs : List Tl) : ∀ i, (h : i < xs.length) → (W.alloc (.cells (xs.map (·.v)).toArray t)).cell? ⟨W.heap.size, i, none⟩ = some xs[i].v := by
  intro i hi
  have h := World.alloc_heap_new W (.cells (xs.map (·.v)).toArray t)
  simp only [World.cell?, h]
  simp [hi]
theorem at_nil (W : World) : ∀ x ∈ ([] : List Tl), x.At W := fun x h => by cases h
theorem at_cons {W : World} {v : Value} {m : Bool} {zs : List Int} {xs : List Tl} (h : Tells W v m zs) (hs : ∀ x ∈ xs, x.At W) : ∀ x ∈ (Tl.mk v m zs :: xs), x.At W := by
  intro x hx
  rcases List.mem_cons.1 hx with rfl | hx
  · exact h
  · exact hs x hx

theorem nod_m {x : Atr} {v1 v2 v3 v4 v5 v6 v7 v8 v9 v10 v11 v12 v13 v14 : Value} : allM [Tl.mk v1 (kok x.kind) (bytesOf x.kind 4), Tl.mk v2 (decide (x.mode ≤ 4095)) (bytesOf x.mode 4), Tl.mk v3 (true) (bytesOf x.links 4), Tl.mk v4 (true) (bytesOf x.user 4), Tl.mk v5 (true) (bytesOf x.group 4), Tl.mk v6 (true) (bytesOf x.size 8), Tl.mk v7 (true) (bytesOf x.used 8), Tl.mk v8 (true) (bytesOf 0 4), Tl.mk v9 (true) (bytesOf 0 4), Tl.mk v10 (true) (bytesOf 1 8), Tl.mk v11 (true) (bytesOf x.id 8), Tl.mk v12 (tok x.rn) (tB x.rs x.rn), Tl.mk v13 (tok x.wn) (tB x.ws x.wn), Tl.mk v14 (tok x.tn) (tB x.ts x.tn)] = (amay x) := by simp [allM, amay, Bool.and_assoc]
theorem nod_z {x : Atr} {v1 v2 v3 v4 v5 v6 v7 v8 v9 v10 v11 v12 v13 v14 : Value} : allZ [Tl.mk v1 (kok x.kind) (bytesOf x.kind 4), Tl.mk v2 (decide (x.mode ≤ 4095)) (bytesOf x.mode 4), Tl.mk v3 (true) (bytesOf x.links 4), Tl.mk v4 (true) (bytesOf x.user 4), Tl.mk v5 (true) (bytesOf x.group 4), Tl.mk v6 (true) (bytesOf x.size 8), Tl.mk v7 (true) (bytesOf x.used 8), Tl.mk v8 (true) (bytesOf 0 4), Tl.mk v9 (true) (bytesOf 0 4), Tl.mk v10 (true) (bytesOf 1 8), Tl.mk v11 (true) (bytesOf x.id 8), Tl.mk v12 (tok x.rn) (tB x.rs x.rn), Tl.mk v13 (tok x.wn) (tB x.ws x.wn), Tl.mk v14 (tok x.tn) (tB x.ts x.tn)] = (aB x) := by simp only [allZ, List.flatMap_cons, List.flatMap_nil, List.append_nil, aB_eq, tB, List.append_assoc]; rfl

theorem bef_m {z a b c d : Int} {v1 v2 v3 : Value} : allM [Tl.mk v1 (true) (bytesOf z 8), Tl.mk v2 (tok b) (tB a b), Tl.mk v3 (tok d) (tB c d)] = (tok b && tok d) := by simp [allM]
theorem bef_z {z a b c d : Int} {v1 v2 v3 : Value} : allZ [Tl.mk v1 (true) (bytesOf z 8), Tl.mk v2 (tok b) (tB a b), Tl.mk v3 (tok d) (tB c d)] = (bytesOf z 8 ++ (tB a b ++ tB c d)) := by simp [allZ]

theorem enter_before : ∀ (args : Array Value) (w : World), (callFunc 32 args).run Tryd.prog w = .ok (.enter 32 args) w := fun _ _ => by simp [go_sem]
set_option maxRecDepth 100000 in
set_option maxHeartbeats 8000000 in
theorem before_any (z a b c d : Int) (z0 : 0 ≤ z) (z1 : z ≤ 18446744073709551615) (ha0 : 0 ≤ a) (ha1 : a ≤ 4294967295) (hb0 : 0 ≤ b) (hb1 : b ≤ 4294967295) (hc0 : 0 ≤ c) (hc1 : c ≤ 4294967295) (hd0 : 0 ≤ d) (hd1 : d ≤ 4294967295) (w : World) : Calls Tryd.prog 32 #[.agg #[.int .u64 z, .int .u32 a, .int .u32 b, .int .u32 c, .int .u32 d]] w fun e w' => ∃ v, e = .returned v ∧ Tells w' v (tok b && tok d) (bytesOf z 8 ++ (tB a b ++ tB c d)) ∧ Below w.heap.size w w' := by
  have hlen : (bytesOf z 8 ++ (tB a b ++ tB c d)).length = 24 := by simp [bytesOf_length, tB_length]
  have a0 := Pp.new w z a b c d
  have hB0 : Below w.heap.size w (w.alloc (.cells #[.int .u64 z, .int .u32 a, .int .u32 b, .int .u32 c, .int .u32 d] 73)) := (Below.refl _ _).alloc (Nat.le_refl _) _
  go_enter Tryd.func32, Tryd.ntmps32
  go_wp2_with fail
  generalize (w.alloc (.cells #[.int .u64 z, .int .u32 a, .int .u32 b, .int .u32 c, .int .u32 d] 73)) = W0 at *
  have B0 := below_draw W0
  have S0 := (a0.next B0).c
  go_region_held3 (fun w' => w'.cell? ⟨w.heap.size, 0, none⟩ = some (.int .u64 z) ∧ w'.cell? ⟨w.heap.size, 1, none⟩ = some (.int .u32 a) ∧ w'.cell? ⟨w.heap.size, 2, none⟩ = some (.int .u32 b) ∧ w'.cell? ⟨w.heap.size, 3, none⟩ = some (.int .u32 c) ∧ w'.cell? ⟨w.heap.size, 4, none⟩ = some (.int .u32 d)) (first | with_reducible exact SR | with_reducible exact SA | with_reducible exact S3 | with_reducible exact S2 | with_reducible exact S1 | with_reducible exact S0) (first
    | (go_at_call 37; have _g := B3; have hba : Below W3.heap.size W3 (W3.alloc (.cells #[.func (.func f1) #[] p1, .func (.func f2) #[] p2, .func (.func f3) #[] p3] 46)) := (Below.refl _ _).alloc (Nat.le_refl _) _; have k3 := u3.next hba; have C3 := hba; have C2 := b3.trans (C3.mono b3.size); have k2 := u2.next C2; have C1 := b2.trans (C2.mono b2.size); have k1 := u1.next C1; refine (row_any [Tl.mk (.func (.func f1) #[] p1) (true) (bytesOf z 8), Tl.mk (.func (.func f2) #[] p2) (tok b) (tB a b), Tl.mk (.func (.func f3) #[] p3) (tok d) (tB c d)] W3.heap.size 3 3 (W3.alloc (.cells #[.func (.func f1) #[] p1, .func (.func f2) #[] p2, .func (.func f3) #[] p3] 46)) rfl (by omega) (by omega) (by rw [bef_z]; omega) (cells_tl W3 _ [Tl.mk (.func (.func f1) #[] p1) (true) (bytesOf z 8), Tl.mk (.func (.func f2) #[] p2) (tok b) (tB a b), Tl.mk (.func (.func f3) #[] p3) (tok d) (tB c d)]) (at_cons k1 (at_cons k2 (at_cons k3 (at_nil _))))).mono ?_; rintro e WR ⟨vr, rfl, tr, br⟩; have BR := (B3.trans (hba.mono B3.size)).trans (br.mono (B3.trans (hba.mono B3.size)).size); have SR := (a0.next BR).c)
    | (go_at_call 39; have _g := B2; refine (moment_any c d (by omega) (by omega) (by omega) (by omega) _).mono ?_; rintro e W3 ⟨_, rfl, ⟨f3, p3, rfl, t3⟩, b3⟩; have u3 : Tells W3 (.func (.func f3) #[] p3) (tok d) (tB c d) := ⟨f3, p3, rfl, t3⟩; have B3 := B2.trans (b3.mono B2.size); have S3 := (a0.next B3).c; have hba : Below W3.heap.size W3 (W3.alloc (.cells #[.func (.func f1) #[] p1, .func (.func f2) #[] p2, .func (.func f3) #[] p3] 46)) := (Below.refl _ _).alloc (Nat.le_refl _) _; have SA := (a0.next (B3.trans (hba.mono B3.size))).c)
    | (go_at_call 39; have _g := B1; refine (moment_any a b (by omega) (by omega) (by omega) (by omega) _).mono ?_; rintro e W2 ⟨_, rfl, ⟨f2, p2, rfl, t2⟩, b2⟩; have u2 : Tells W2 (.func (.func f2) #[] p2) (tok b) (tB a b) := ⟨f2, p2, rfl, t2⟩; have B2 := B1.trans (b2.mono B1.size); have S2 := (a0.next B2).c)
    | (go_at_call 24; have _g := B0; refine (long_any z (by omega) (by omega) _).mono ?_; rintro e W1 ⟨_, rfl, ⟨f1, p1, rfl, t1⟩, b1⟩; have u1 : Tells W1 (.func (.func f1) #[] p1) (true) (bytesOf z 8) := ⟨f1, p1, rfl, t1⟩; have B1 := B0.trans (b1.mono B0.size); have S1 := (a0.next B1).c))
  have hfin := hB0.trans (BR.mono hB0.size)
  rw [bef_z, bef_m] at tr
  clear S0 B0 S1 B1 S2 B2 S3 B3 u1 t1 b1 u2 t2 b2 u3 t3 b3 SR SA
  go_wp2
  go_ret
  exact ⟨vr, rfl, tr, hfin⟩
theorem before_maker (z a b c d : Int) (z0 : 0 ≤ z) (z1 : z ≤ 18446744073709551615) (ha0 : 0 ≤ a) (ha1 : a ≤ 4294967295) (hb0 : 0 ≤ b) (hb1 : b ≤ 4294967295) (hc0 : 0 ≤ c) (hc1 : c ≤ 4294967295) (hd0 : 0 ≤ d) (hd1 : d ≤ 4294967295) : Maker 32 (.agg #[.int .u64 z, .int .u32 a, .int .u32 b, .int .u32 c, .int .u32 d]) (tok b && tok d) (bytesOf z 8 ++ (tB a b ++ tB c d)) := ⟨enter_before, fun w => before_any z a b c d z0 z1 ha0 ha1 hb0 hb1 hc0 hc1 hd0 hd1 w⟩
end Go.Proofs.YtecbhhfncklefaaDoor
