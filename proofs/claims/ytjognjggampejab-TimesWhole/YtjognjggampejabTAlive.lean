/- 'alive' of the law: the document's fixed answers hold; true; nothing that was there turns. -/
import Derived.Test.YtjognjggampejabTimeAt
import Derived.Test.YtjognjggampejabTimeAdd
import Derived.Test.YtjognjggampejabTimePut
import Derived.Test.YtjognjggampejabTimeGet
import Derived.Test.YtjognjggampejabTimeLess
namespace Go.Proofs.Ytjognjggampejab
set_option linter.unusedVariables false
open Go.RowKit

/-- What the last row of 'alive' reads stays while new memory is laid. -/
theorem alive_kept {W W' : World} {h1 h3 h9 : Nat} (t1 : Tp W h1 2 0) (t3 : Tp W h3 3 500000000) (t9 : Tp W h9 1 2) : W.cell? ⟨h1, 0, none⟩ = some (.int .u32 2) ∧ W.cell? ⟨h1, 1, none⟩ = some (.int .u32 0) ∧ W.cell? ⟨h3, 0, none⟩ = some (.int .u32 3) ∧ W.cell? ⟨h3, 1, none⟩ = some (.int .u32 500000000) ∧ W.cell? ⟨h9, 0, none⟩ = some (.int .u32 1) ∧ W.cell? ⟨h9, 1, none⟩ = some (.int .u32 2) :=
  ⟨t1.c0, t1.c1, t3.c0, t3.c1, t9.c0, t9.c1⟩

set_option maxRecDepth 100000 in
set_option maxHeartbeats 2000000 in
theorem alive_any (w : World) : Calls Try.prog 9 #[] w fun e w' => e = .returned (.bool true) ∧ Below w.heap.size w w' := by
  have ad0 := fun w => tadd_any 1 999999999 1 w (by omega) (by omega) (by omega) (by omega) (by omega) (by omega)
  rw [show tE 1 999999999 1 = 0 from by decide, show tS 1 999999999 1 = 2 from by decide, show tN 1 999999999 1 = 0 from by decide] at ad0
  have ad1 := fun w => tadd_any 0 0 3500000000 w (by omega) (by omega) (by omega) (by omega) (by omega) (by omega)
  rw [show tE 0 0 3500000000 = 0 from by decide, show tS 0 0 3500000000 = 3 from by decide, show tN 0 0 3500000000 = 500000000 from by decide] at ad1
  have ad2 := fun w => tadd_any 4294967295 999999999 1 w (by omega) (by omega) (by omega) (by omega) (by omega) (by omega)
  rw [show tE 4294967295 999999999 1 = 3 from by decide, show tS 4294967295 999999999 1 = 0 from by decide, show tN 4294967295 999999999 1 = 0 from by decide] at ad2
  have ad3 := fun w => tadd_any 0 1000000000 0 w (by omega) (by omega) (by omega) (by omega) (by omega) (by omega)
  rw [show tE 0 1000000000 0 = 1 from by decide, show tS 0 1000000000 0 = 0 from by decide, show tN 0 1000000000 0 = 0 from by decide] at ad3
  have tg := fun G c w hc hm hs => tget_any (some ⟨G, 0, none⟩) 8 c (tB 1 2) w hc hm (tB_length 1 2) (byt_tB 1 2) hs
  rw [show gtE (tB 1 2) = 0 from by decide, show gtS (tB 1 2) = 1 from by decide, show gtN (tB 1 2) = 2 from by decide] at tg
  have ck1 := fun w => tcheck_any 5 999999999 w
  rw [show tok 999999999 = true from by decide] at ck1
  have ck2 := fun w => tcheck_any 5 1000000000 w
  rw [show tok 1000000000 = false from by decide] at ck2
  have ls1 := fun w => tless_any 1 9 2 0 w
  rw [show tls 1 9 2 0 = true from by decide] at ls1
  have ls2 := fun w => tless_any 1 1 1 1 w
  rw [show tls 1 1 1 1 = false from by decide] at ls2
  have q1 : ∀ w, (binOp .eql 24 (.agg #[.int .u32 2, .int .u32 0]) (.agg #[.int .u32 2, .int .u32 0])).run Try.prog w = .ok (.bool true) w := fun w => by rw [time_eql]; rfl
  have q2 : ∀ w, (binOp .eql 24 (.agg #[.int .u32 3, .int .u32 500000000]) (.agg #[.int .u32 3, .int .u32 500000000])).run Try.prog w = .ok (.bool true) w := fun w => by rw [time_eql]; rfl
  have q3 : ∀ w, (binOp .eql 24 (.agg #[.int .u32 1, .int .u32 2]) (.agg #[.int .u32 1, .int .u32 2])).run Try.prog w = .ok (.bool true) w := fun w => by rw [time_eql]; rfl
  have hB0 := Below.refl w.heap.size w
  go_enter Try.func9, Try.ntmps9
  go_wp2_with fail
  refine (at_any 1 999999999 _).mono ?_
  rintro e W1 ⟨rfl, hb1⟩
  have hB1 := hB0.trans (hb1.mono hB0.size)
  clear hB0 hb1
  go_wp2_with fail
  refine (ad0 _).mono ?_
  rintro e W2 ⟨rfl, hb2⟩
  have hB2 := hB1.trans (hb2.mono hB1.size)
  clear hB1 hb2
  clear ad0
  have hB3 := hB2.alloc hB2.size (.cells #[.int .u32 2, .int .u32 0] 24)
  have t1 := Tp.new W2 2 0
  go_wp2_with fail
  generalize W2.alloc (.cells #[.int .u32 2, .int .u32 0] 24) = W3 at *
  generalize W2.heap.size = h1 at *
  clear hB2
  refine (at_any 0 0 _).mono ?_
  rintro e W4 ⟨rfl, hb4⟩
  have hB4 := hB3.trans (hb4.mono hB3.size)
  replace t1 := t1.next hb4
  clear hB3 hb4
  go_wp2_with fail
  refine (ad1 _).mono ?_
  rintro e W5 ⟨rfl, hb5⟩
  have hB5 := hB4.trans (hb5.mono hB4.size)
  replace t1 := t1.next hb5
  clear hB4 hb5
  clear ad1
  have hB6 := hB5.alloc hB5.size (.cells #[.int .u32 3, .int .u32 500000000] 24)
  replace t1 := t1.alloc (.cells #[.int .u32 3, .int .u32 500000000] 24)
  have t3 := Tp.new W5 3 500000000
  go_wp2_with fail
  generalize W5.alloc (.cells #[.int .u32 3, .int .u32 500000000] 24) = W6 at *
  generalize W5.heap.size = h3 at *
  clear hB5
  refine (at_any 4294967295 999999999 _).mono ?_
  rintro e W7 ⟨rfl, hb7⟩
  have hB7 := hB6.trans (hb7.mono hB6.size)
  replace t1 := t1.next hb7
  replace t3 := t3.next hb7
  clear hB6 hb7
  go_wp2_with fail
  refine (ad2 _).mono ?_
  rintro e W8 ⟨rfl, hb8⟩
  have hB8 := hB7.trans (hb8.mono hB7.size)
  replace t1 := t1.next hb8
  replace t3 := t3.next hb8
  clear hB7 hb8
  clear ad2
  have hB9 := hB8.alloc hB8.size (.cells #[.int .u32 0, .int .u32 0] 24)
  replace t1 := t1.alloc (.cells #[.int .u32 0, .int .u32 0] 24)
  replace t3 := t3.alloc (.cells #[.int .u32 0, .int .u32 0] 24)
  go_wp2_with fail
  generalize W8.alloc (.cells #[.int .u32 0, .int .u32 0] 24) = W9 at *
  clear hB8
  refine (at_any 0 1000000000 _).mono ?_
  rintro e W10 ⟨rfl, hb10⟩
  have hB10 := hB9.trans (hb10.mono hB9.size)
  replace t1 := t1.next hb10
  replace t3 := t3.next hb10
  clear hB9 hb10
  go_wp2_with fail
  refine (ad3 _).mono ?_
  rintro e W11 ⟨rfl, hb11⟩
  have hB11 := hB10.trans (hb11.mono hB10.size)
  replace t1 := t1.next hb11
  replace t3 := t3.next hb11
  clear hB10 hb11
  clear ad3
  have hB12 := hB11.alloc hB11.size (.cells #[.int .u32 0, .int .u32 0] 24)
  replace t1 := t1.alloc (.cells #[.int .u32 0, .int .u32 0] 24)
  replace t3 := t3.alloc (.cells #[.int .u32 0, .int .u32 0] 24)
  go_wp2_with fail
  generalize W11.alloc (.cells #[.int .u32 0, .int .u32 0] 24) = W12 at *
  clear hB11
  refine (at_any 1 2 _).mono ?_
  rintro e W13 ⟨rfl, hb13⟩
  have hB13 := hB12.trans (hb13.mono hB12.size)
  replace t1 := t1.next hb13
  replace t3 := t3.next hb13
  clear hB12 hb13
  go_wp2_with fail
  refine (tput_any 1 2 _ (by omega) (by omega) (by omega) (by omega)).mono ?_
  rintro e W14 ⟨G, c, rfl, hc1, hc2, hown, hb14⟩
  have hB14 := hB13.trans (hb14.mono hB13.size)
  replace t1 := t1.next hb14
  replace t3 := t3.next hb14
  clear hB13 hb14
  go_wp2_with fail
  refine (tg G c _ hc1 hc2 (seg_own hown (tB_length 1 2))).mono ?_
  rintro e W15 ⟨rfl, hb15⟩
  have hB15 := hB14.trans (hb15.mono hB14.size)
  replace t1 := t1.next hb15
  replace t3 := t3.next hb15
  clear hB14 hb15
  clear tg hown hc1 hc2
  have hB16 := hB15.alloc hB15.size (.cells #[.int .u32 1, .int .u32 2] 24)
  replace t1 := t1.alloc (.cells #[.int .u32 1, .int .u32 2] 24)
  replace t3 := t3.alloc (.cells #[.int .u32 1, .int .u32 2] 24)
  have t9 := Tp.new W15 1 2
  go_wp2_with fail
  generalize W15.alloc (.cells #[.int .u32 1, .int .u32 2] 24) = V at *
  generalize W15.heap.size = h9 at *
  clear hB15
  have hB := hB16.trans ((below_draw V).mono hB16.size)
  clear hB16
  have law : ∀ (f : FuncId) (args : Array Value) (v : Value), (∀ W, Calls Try.prog f args W fun e W' => e = .returned v ∧ Below W.heap.size W W') → ∀ W, (Tp W h1 2 0 ∧ Tp W h3 3 500000000 ∧ Tp W h9 1 2) ∧ Below w.heap.size w W → Calls Try.prog f args W fun e W' => e = .returned v ∧ ((Tp W' h1 2 0 ∧ Tp W' h3 3 500000000 ∧ Tp W' h9 1 2) ∧ Below w.heap.size w W') ∧ (W'.cell? ⟨h1, 0, none⟩ = some (.int .u32 2) ∧ W'.cell? ⟨h1, 1, none⟩ = some (.int .u32 0) ∧ W'.cell? ⟨h3, 0, none⟩ = some (.int .u32 3) ∧ W'.cell? ⟨h3, 1, none⟩ = some (.int .u32 500000000) ∧ W'.cell? ⟨h9, 0, none⟩ = some (.int .u32 1) ∧ W'.cell? ⟨h9, 1, none⟩ = some (.int .u32 2)) := fun f args v hf W hW => (hf W).mono fun e W' h => ⟨h.1, ⟨⟨hW.1.1.next h.2, hW.1.2.1.next h.2, hW.1.2.2.next h.2⟩, hW.2.trans (h.2.mono hW.2.size)⟩, alive_kept (W' := W') (hW.1.1.next h.2) (hW.1.2.1.next h.2) (hW.1.2.2.next h.2)⟩
  have F0 : (Tp V.drew h1 2 0 ∧ Tp V.drew h3 3 500000000 ∧ Tp V.drew h9 1 2) ∧ Below w.heap.size w V.drew := ⟨⟨t1.next (below_draw V), t3.next (below_draw V), t9.next (below_draw V)⟩, hB⟩
  have S0 := alive_kept (W' := V) F0.1.1 F0.1.2.1 F0.1.2.2
  clear t1 t3 t9 hB
  go_region_held3 (fun w' => w'.cell? ⟨h1, 0, none⟩ = some (.int .u32 2) ∧ w'.cell? ⟨h1, 1, none⟩ = some (.int .u32 0) ∧ w'.cell? ⟨h3, 0, none⟩ = some (.int .u32 3) ∧ w'.cell? ⟨h3, 1, none⟩ = some (.int .u32 500000000) ∧ w'.cell? ⟨h9, 0, none⟩ = some (.int .u32 1) ∧ w'.cell? ⟨h9, 1, none⟩ = some (.int .u32 2)) (first | with_reducible exact S13 | with_reducible exact S12 | with_reducible exact S11 | with_reducible exact S10 | with_reducible exact S9 | with_reducible exact S8 | with_reducible exact S7 | with_reducible exact S6 | with_reducible exact S5 | with_reducible exact S4 | with_reducible exact S3 | with_reducible exact S2 | with_reducible exact S1 | with_reducible exact S0) (first
    | (go_at_call 7; refine (law _ _ _ (ls2) _ F12).mono ?_; rintro e V13 ⟨rfl, F13, S13⟩)
    | (go_at_call 16; refine (law _ _ _ (at_any 1 1) _ F11).mono ?_; rintro e V12 ⟨rfl, F12, S12⟩)
    | (go_at_call 16; refine (law _ _ _ (at_any 1 1) _ F10).mono ?_; rintro e V11 ⟨rfl, F11, S11⟩)
    | (go_at_call 7; refine (law _ _ _ (ls1) _ F9).mono ?_; rintro e V10 ⟨rfl, F10, S10⟩)
    | (go_at_call 16; refine (law _ _ _ (at_any 2 0) _ F8).mono ?_; rintro e V9 ⟨rfl, F9, S9⟩)
    | (go_at_call 16; refine (law _ _ _ (at_any 1 9) _ F7).mono ?_; rintro e V8 ⟨rfl, F8, S8⟩)
    | (go_at_call 8; refine (law _ _ _ (ck2) _ F6).mono ?_; rintro e V7 ⟨rfl, F7, S7⟩)
    | (go_at_call 16; refine (law _ _ _ (at_any 5 1000000000) _ F5).mono ?_; rintro e V6 ⟨rfl, F6, S6⟩)
    | (go_at_call 8; refine (law _ _ _ (ck1) _ F4).mono ?_; rintro e V5 ⟨rfl, F5, S5⟩)
    | (go_at_call 16; refine (law _ _ _ (at_any 5 999999999) _ F3).mono ?_; rintro e V4 ⟨rfl, F4, S4⟩)
    | (go_at_call 16; refine (law _ _ _ (at_any 1 2) _ F2).mono ?_; rintro e V3 ⟨rfl, F3, S3⟩)
    | (go_at_call 16; refine (law _ _ _ (at_any 3 500000000) _ F1).mono ?_; rintro e V2 ⟨rfl, F2, S2⟩)
    | (go_at_call 16; refine (law _ _ _ (at_any 2 0) _ F0).mono ?_; rintro e V1 ⟨rfl, F1, S1⟩))
  all_goals
    go_wp2
    go_ret
    exact ⟨rfl, F13.2⟩
end Go.Proofs.Ytjognjggampejab
