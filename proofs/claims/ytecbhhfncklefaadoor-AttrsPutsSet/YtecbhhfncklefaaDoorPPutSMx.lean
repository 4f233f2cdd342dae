/- 'PutSet' of the program: its bytes, in memory of their own, or refused; nothing that was there turns. -/
import Derived.Test.YtecbhhfncklefaaDoorPPersMx
import Derived.Test.YtecbhhfncklefaaDoorPSetgMx
import Derived.Test.YtecbhhfncklefaaDoorPBefMx
import Derived.Test.YtecbhhfncklefaaDoorGrownCellPCatchPPutMx
import Derived.Test.YtecbhhfncklefaaDoorAForms
import Derived.Test.YtecbhhfncklefaaDoorSCell
namespace Go.Proofs.YtecbhhfncklefaaDoor
set_option linter.unusedVariables false
open Go.RowKit

theorem enter_modef : ∀ (args : Array Value) (w : World), (callFunc 21 args).run Tryd.prog w = .ok (.enter 21 args) w := fun _ _ => by simp [go_sem]
theorem enter_numberf : ∀ (args : Array Value) (w : World), (callFunc 22 args).run Tryd.prog w = .ok (.enter 22 args) w := fun _ _ => by simp [go_sem]
theorem enter_longf : ∀ (args : Array Value) (w : World), (callFunc 24 args).run Tryd.prog w = .ok (.enter 24 args) w := fun _ _ => by simp [go_sem]
theorem mode_maker (n : Int) (h0 : 0 ≤ n) (h1 : n ≤ 4294967295) : Maker 21 (.int .u32 n) (decide (n ≤ 4095)) (bytesOf n 4) := ⟨enter_modef, fun w => mode_any n h0 h1 w⟩
theorem number_maker (n : Int) (h0 : 0 ≤ n) (h1 : n ≤ 4294967295) : Maker 22 (.int .u32 n) true (bytesOf n 4) := ⟨enter_numberf, fun w => number_any n h0 h1 w⟩
theorem long_maker (n : Int) (h0 : 0 ≤ n) (h1 : n ≤ 18446744073709551615) : Maker 24 (.int .u64 n) true (bytesOf n 8) := ⟨enter_longf, fun w => long_any n h0 h1 w⟩

theorem set_m {x : Stt} {v1 v2 v3 v4 v5 v6 : Value} : allM [Tl.mk v1 (if x.hm then decide (x.mode ≤ 4095) else (x.mode == 0)) (yB x.hm ++ if x.hm then bytesOf x.mode 4 else []), Tl.mk v2 (if x.hu then true else (x.user == 0)) (yB x.hu ++ if x.hu then bytesOf x.user 4 else []), Tl.mk v3 (if x.hg then true else (x.group == 0)) (yB x.hg ++ if x.hg then bytesOf x.group 4 else []), Tl.mk v4 (if x.hs then true else (x.size == 0)) (yB x.hs ++ if x.hs then bytesOf x.size 8 else []), Tl.mk v5 (hwM x.rh x.rs x.rn) (hwZ x.rh x.rs x.rn), Tl.mk v6 (hwM x.wh x.ws x.wn) (hwZ x.wh x.ws x.wn)] = (smay x) := by
  rw [Bool.eq_iff_iff]
  simp only [allM, List.all_cons, List.all_nil, Bool.and_true, smay, hwM, Bool.and_eq_true, Bool.or_eq_true, beq_iff_eq, decide_eq_true_eq]
  cases x.hm <;> cases x.hu <;> cases x.hg <;> cases x.hs <;> by_cases h1 : x.rh = 2 <;> by_cases h2 : x.wh = 2 <;> simp [h1, h2, tok] <;> omega
theorem set_z {x : Stt} {v1 v2 v3 v4 v5 v6 : Value} : allZ [Tl.mk v1 (if x.hm then decide (x.mode ≤ 4095) else (x.mode == 0)) (yB x.hm ++ if x.hm then bytesOf x.mode 4 else []), Tl.mk v2 (if x.hu then true else (x.user == 0)) (yB x.hu ++ if x.hu then bytesOf x.user 4 else []), Tl.mk v3 (if x.hg then true else (x.group == 0)) (yB x.hg ++ if x.hg then bytesOf x.group 4 else []), Tl.mk v4 (if x.hs then true else (x.size == 0)) (yB x.hs ++ if x.hs then bytesOf x.size 8 else []), Tl.mk v5 (hwM x.rh x.rs x.rn) (hwZ x.rh x.rs x.rn), Tl.mk v6 (hwM x.wh x.ws x.wn) (hwZ x.wh x.ws x.wn)] = (sB x) := by
  simp only [allZ, List.flatMap_cons, List.flatMap_nil, List.append_nil, hwZ]
  rfl

set_option maxRecDepth 100000 in
set_option maxHeartbeats 8000000 in
theorem sput_any : SPut 9 := by
  intro x w hx
  have hlen := (sB_le x).2.1
  obtain ⟨x1, x2, x3, x4, x5, x6, x7, x8, x9, x10⟩ := hx
  have a0 := Sp.new w x
  have hB0 : Below w.heap.size w (w.alloc (.cells #[.bool x.hm, .int .u32 x.mode, .bool x.hu, .int .u32 x.user, .bool x.hg, .int .u32 x.group, .bool x.hs, .int .u64 x.size, .int .u32 x.rh, .int .u32 x.rs, .int .u32 x.rn, .int .u32 x.wh, .int .u32 x.ws, .int .u32 x.wn] 37)) := (Below.refl _ _).alloc (Nat.le_refl _) _
  go_enter Tryd.func9, Tryd.ntmps9
  go_wp2_with fail
  generalize (w.alloc (.cells #[.bool x.hm, .int .u32 x.mode, .bool x.hu, .int .u32 x.user, .bool x.hg, .int .u32 x.group, .bool x.hs, .int .u64 x.size, .int .u32 x.rh, .int .u32 x.rs, .int .u32 x.rn, .int .u32 x.wh, .int .u32 x.ws, .int .u32 x.wn] 37)) = W0 at *
  have B0 := below_draw W0
  have S0 := (a0.next B0).c
  go_region_held3 (fun w' => w'.cell? ⟨w.heap.size, 0, none⟩ = some (.bool x.hm) ∧ w'.cell? ⟨w.heap.size, 1, none⟩ = some (.int .u32 x.mode) ∧ w'.cell? ⟨w.heap.size, 2, none⟩ = some (.bool x.hu) ∧ w'.cell? ⟨w.heap.size, 3, none⟩ = some (.int .u32 x.user) ∧ w'.cell? ⟨w.heap.size, 4, none⟩ = some (.bool x.hg) ∧ w'.cell? ⟨w.heap.size, 5, none⟩ = some (.int .u32 x.group) ∧ w'.cell? ⟨w.heap.size, 6, none⟩ = some (.bool x.hs) ∧ w'.cell? ⟨w.heap.size, 7, none⟩ = some (.int .u64 x.size) ∧ w'.cell? ⟨w.heap.size, 8, none⟩ = some (.int .u32 x.rh) ∧ w'.cell? ⟨w.heap.size, 9, none⟩ = some (.int .u32 x.rs) ∧ w'.cell? ⟨w.heap.size, 10, none⟩ = some (.int .u32 x.rn) ∧ w'.cell? ⟨w.heap.size, 11, none⟩ = some (.int .u32 x.wh) ∧ w'.cell? ⟨w.heap.size, 12, none⟩ = some (.int .u32 x.ws) ∧ w'.cell? ⟨w.heap.size, 13, none⟩ = some (.int .u32 x.wn)) (first | with_reducible exact SR | with_reducible exact SA | with_reducible exact S6 | with_reducible exact S5 | with_reducible exact S4 | with_reducible exact S3 | with_reducible exact S2 | with_reducible exact S1 | with_reducible exact S0) (first
    | (go_at_call 13; have _g := B6; have hba : Below W6.heap.size W6 (W6.alloc (.cells #[.func (.func f1) #[] p1, .func (.func f2) #[] p2, .func (.func f3) #[] p3, .func (.func f4) #[] p4, .func (.func f5) #[] p5, .func (.func f6) #[] p6] 46)) := (Below.refl _ _).alloc (Nat.le_refl _) _; have k6 := u6.next hba; have C6 := hba; have C5 := b6.trans (C6.mono b6.size); have k5 := u5.next C5; have C4 := b5.trans (C5.mono b5.size); have k4 := u4.next C4; have C3 := b4.trans (C4.mono b4.size); have k3 := u3.next C3; have C2 := b3.trans (C3.mono b3.size); have k2 := u2.next C2; have C1 := b2.trans (C2.mono b2.size); have k1 := u1.next C1; refine (ptput_any [Tl.mk (.func (.func f1) #[] p1) (if x.hm then decide (x.mode ≤ 4095) else (x.mode == 0)) (yB x.hm ++ if x.hm then bytesOf x.mode 4 else []), Tl.mk (.func (.func f2) #[] p2) (if x.hu then true else (x.user == 0)) (yB x.hu ++ if x.hu then bytesOf x.user 4 else []), Tl.mk (.func (.func f3) #[] p3) (if x.hg then true else (x.group == 0)) (yB x.hg ++ if x.hg then bytesOf x.group 4 else []), Tl.mk (.func (.func f4) #[] p4) (if x.hs then true else (x.size == 0)) (yB x.hs ++ if x.hs then bytesOf x.size 8 else []), Tl.mk (.func (.func f5) #[] p5) (hwM x.rh x.rs x.rn) (hwZ x.rh x.rs x.rn), Tl.mk (.func (.func f6) #[] p6) (hwM x.wh x.ws x.wn) (hwZ x.wh x.ws x.wn)] W6.heap.size 6 6 (W6.alloc (.cells #[.func (.func f1) #[] p1, .func (.func f2) #[] p2, .func (.func f3) #[] p3, .func (.func f4) #[] p4, .func (.func f5) #[] p5, .func (.func f6) #[] p6] 46)) rfl (by omega) (by omega) (by rw [set_z]; omega) (cells_tl W6 _ [Tl.mk (.func (.func f1) #[] p1) (if x.hm then decide (x.mode ≤ 4095) else (x.mode == 0)) (yB x.hm ++ if x.hm then bytesOf x.mode 4 else []), Tl.mk (.func (.func f2) #[] p2) (if x.hu then true else (x.user == 0)) (yB x.hu ++ if x.hu then bytesOf x.user 4 else []), Tl.mk (.func (.func f3) #[] p3) (if x.hg then true else (x.group == 0)) (yB x.hg ++ if x.hg then bytesOf x.group 4 else []), Tl.mk (.func (.func f4) #[] p4) (if x.hs then true else (x.size == 0)) (yB x.hs ++ if x.hs then bytesOf x.size 8 else []), Tl.mk (.func (.func f5) #[] p5) (hwM x.rh x.rs x.rn) (hwZ x.rh x.rs x.rn), Tl.mk (.func (.func f6) #[] p6) (hwM x.wh x.ws x.wn) (hwZ x.wh x.ws x.wn)]) (at_cons k1 (at_cons k2 (at_cons k3 (at_cons k4 (at_cons k5 (at_cons k6 (at_nil _)))))))).mono ?_; rw [set_z, set_m]; rintro e WR ⟨vr, rfl, tr, br⟩; have BR := (B6.trans (hba.mono B6.size)).trans (br.mono (B6.trans (hba.mono B6.size)).size); have SR := (a0.next BR).c)
    | (go_at_call 25; have _g := B5; refine (setting_any x.wh x.ws x.wn (by omega) (by omega) (by omega) (by omega) (by omega) (by omega) _).mono ?_; rintro e W6 ⟨_, rfl, ⟨f6, p6, rfl, t6⟩, b6⟩; have u6 : Tells W6 (.func (.func f6) #[] p6) (hwM x.wh x.ws x.wn) (hwZ x.wh x.ws x.wn) := ⟨f6, p6, rfl, t6⟩; have B6 := B5.trans (b6.mono B5.size); have S6 := (a0.next B6).c; have hba : Below W6.heap.size W6 (W6.alloc (.cells #[.func (.func f1) #[] p1, .func (.func f2) #[] p2, .func (.func f3) #[] p3, .func (.func f4) #[] p4, .func (.func f5) #[] p5, .func (.func f6) #[] p6] 46)) := (Below.refl _ _).alloc (Nat.le_refl _) _; have SA := (a0.next (B6.trans (hba.mono B6.size))).c)
    | (go_at_call 25; have _g := B4; refine (setting_any x.rh x.rs x.rn (by omega) (by omega) (by omega) (by omega) (by omega) (by omega) _).mono ?_; rintro e W5 ⟨_, rfl, ⟨f5, p5, rfl, t5⟩, b5⟩; have u5 : Tells W5 (.func (.func f5) #[] p5) (hwM x.rh x.rs x.rn) (hwZ x.rh x.rs x.rn) := ⟨f5, p5, rfl, t5⟩; have B5 := B4.trans (b5.mono B4.size); have S5 := (a0.next B5).c)
    | (go_at_call 23; have _g := B3; refine (perl_any x.hs x.size _ true (bytesOf x.size 8) (by rw [bytesOf_length]; omega) (long_maker x.size (by omega) (by omega)) _).mono ?_; rintro e W4 ⟨_, rfl, ⟨f4, p4, rfl, t4⟩, b4⟩; have u4 : Tells W4 (.func (.func f4) #[] p4) (if x.hs then true else (x.size == 0)) (yB x.hs ++ if x.hs then bytesOf x.size 8 else []) := ⟨f4, p4, rfl, t4⟩; have B4 := B3.trans (b4.mono B3.size); have S4 := (a0.next B4).c)
    | (go_at_call 20; have _g := B2; refine (peru_any x.hg x.group _ true (bytesOf x.group 4) (by rw [bytesOf_length]; omega) (number_maker x.group (by omega) (by omega)) _).mono ?_; rintro e W3 ⟨_, rfl, ⟨f3, p3, rfl, t3⟩, b3⟩; have u3 : Tells W3 (.func (.func f3) #[] p3) (if x.hg then true else (x.group == 0)) (yB x.hg ++ if x.hg then bytesOf x.group 4 else []) := ⟨f3, p3, rfl, t3⟩; have B3 := B2.trans (b3.mono B2.size); have S3 := (a0.next B3).c)
    | (go_at_call 20; have _g := B1; refine (peru_any x.hu x.user _ true (bytesOf x.user 4) (by rw [bytesOf_length]; omega) (number_maker x.user (by omega) (by omega)) _).mono ?_; rintro e W2 ⟨_, rfl, ⟨f2, p2, rfl, t2⟩, b2⟩; have u2 : Tells W2 (.func (.func f2) #[] p2) (if x.hu then true else (x.user == 0)) (yB x.hu ++ if x.hu then bytesOf x.user 4 else []) := ⟨f2, p2, rfl, t2⟩; have B2 := B1.trans (b2.mono B1.size); have S2 := (a0.next B2).c)
    | (go_at_call 20; have _g := B0; refine (peru_any x.hm x.mode _ (decide (x.mode ≤ 4095)) (bytesOf x.mode 4) (by rw [bytesOf_length]; omega) (mode_maker x.mode (by omega) (by omega)) _).mono ?_; rintro e W1 ⟨_, rfl, ⟨f1, p1, rfl, t1⟩, b1⟩; have u1 : Tells W1 (.func (.func f1) #[] p1) (if x.hm then decide (x.mode ≤ 4095) else (x.mode == 0)) (yB x.hm ++ if x.hm then bytesOf x.mode 4 else []) := ⟨f1, p1, rfl, t1⟩; have B1 := B0.trans (b1.mono B0.size); have S1 := (a0.next B1).c))
  have hBa := (hB0.trans (B6.mono hB0.size)).trans (hba.mono (hB0.trans (B6.mono hB0.size)).size)
  have hfin := hBa.trans (br.mono hBa.size)
  have hown := own_base tr hBa.size
  clear S0 B0 S1 B1 S2 B2 S3 B3 S4 B4 S5 B5 S6 B6 u1 t1 b1 u2 t2 b2 u3 t3 b3 u4 t4 b4 u5 t5 b5 u6 t6 b6 SR SA tr br
  go_wp2
  go_ret2
  exact ⟨vr, rfl, hown, hfin⟩
end Go.Proofs.YtecbhhfncklefaaDoor
