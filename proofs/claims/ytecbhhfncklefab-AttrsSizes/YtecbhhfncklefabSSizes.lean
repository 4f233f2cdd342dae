/- The walk of 'AttrsSizes', from what the program's PutSet answers (a hypothesis): true for anything that is to be set; nothing that was there turns. -/
import Derived.Test.YtecbhhfncklefabAForms
import Derived.Test.YtecbhhfncklefabSCell
import Derived.Test.YtecbhhfncklefabPieces
namespace Go.Proofs.Ytecbhhfncklefab
set_option linter.unusedVariables false
open Go.RowKit

set_option maxRecDepth 100000 in
set_option maxHeartbeats 8000000 in
theorem ssizes_walk (hal : ∀ W, Calls Try.prog 9 #[] W fun e W' => e = .returned (.bool true) ∧ Below W.heap.size W W') (hput : SPut 13)
    (x : Stt) (w : World) (hx : x.In) :
    Calls Try.prog 8 #[.agg #[.bool x.hm, .int .u32 x.mode, .bool x.hu, .int .u32 x.user, .bool x.hg, .int .u32 x.group, .bool x.hs, .int .u64 x.size, .int .u32 x.rh, .int .u32 x.rs, .int .u32 x.rn, .int .u32 x.wh, .int .u32 x.ws, .int .u32 x.wn]] w fun e w' => e = .returned (.bool true) ∧ Below w.heap.size w w' := by
  have a1 := Sp.new w x
  have hB1 : Below w.heap.size w (w.alloc (.cells #[.bool x.hm, .int .u32 x.mode, .bool x.hu, .int .u32 x.user, .bool x.hg, .int .u32 x.group, .bool x.hs, .int .u64 x.size, .int .u32 x.rh, .int .u32 x.rs, .int .u32 x.rn, .int .u32 x.wh, .int .u32 x.ws, .int .u32 x.wn] 40)) := (Below.refl _ _).alloc (Nat.le_refl _) _
  have hp := fun W => hput x W hx
  obtain ⟨c0, c1, c2, c3, c4, c5, c6, c7, c8, c9, c10, c11, c12, c13⟩ := a1.c
  cases hmay : smay x with
  | false =>
    rw [hmay] at hp
    go_enter Try.func8, Try.ntmps8
    go_wp2_with fail
    generalize (w.alloc (.cells #[.bool x.hm, .int .u32 x.mode, .bool x.hu, .int .u32 x.user, .bool x.hg, .int .u32 x.group, .bool x.hs, .int .u64 x.size, .int .u32 x.rh, .int .u32 x.rs, .int .u32 x.rn, .int .u32 x.wh, .int .u32 x.ws, .int .u32 x.wn] 40)) = W1 at *
    refine (hp W1).mono ?_
    rintro e W2 ⟨v, rfl, -, hb2⟩
    have hB2 := hB1.trans (hb2.mono hB1.size)
    clear hB1 hb2 a1 hp c0 c1 c2 c3 c4 c5 c6 c7 c8 c9 c10 c11 c12 c13
    go_wp2_with fail
    refine (hal W2).mono ?_
    rintro e W3 ⟨rfl, hb3⟩
    have hB3 := hB2.trans (hb3.mono hB2.size)
    clear hB2 hb3
    go_wp2
    go_ret
    exact ⟨rfl, hB3⟩
  | true =>
    rw [hmay] at hp
    have hlen := sB_length x
    have hzl : paZ true (sB x) = sB x := rfl
    rw [hzl] at hp
    generalize sB x = zs at *
    go_enter Try.func8, Try.ntmps8
    go_wp2_with fail
    generalize (w.alloc (.cells #[.bool x.hm, .int .u32 x.mode, .bool x.hu, .int .u32 x.user, .bool x.hg, .int .u32 x.group, .bool x.hs, .int .u64 x.size, .int .u32 x.rh, .int .u32 x.rs, .int .u32 x.rn, .int .u32 x.wh, .int .u32 x.ws, .int .u32 x.wn] 40)) = W1 at *
    refine (hp W1).mono ?_
    rintro e W2 ⟨v, rfl, ho, hb2⟩
    have hB2 := hB1.trans (hb2.mono hB1.size)
    have a2 := a1.next hb2
    obtain ⟨av, cv, rfl, _, _, _, _⟩ := own_val ho rfl
    clear hB1 hb2 a1 hp ho c0 c1 c2 c3 c4 c5 c6 c7 c8 c9 c10 c11 c12 c13
    obtain ⟨c0, c1, c2, c3, c4, c5, c6, c7, c8, c9, c10, c11, c12, c13⟩ := a2.c
    clear a2
    obtain ⟨q, hq⟩ : ∃ q, zs.length = q := ⟨_, rfl⟩
    rw [hq] at hlen ⊢
    clear hq
    generalize x.hm = bm at *
    generalize x.hu = bu at *
    generalize x.hg = bg at *
    generalize x.hs = bs at *
    generalize hbr : (x.rh == 2) = br at *
    generalize hbw : (x.wh == 2) = bw at *
    cases bm <;> cases bu <;> cases bg <;> cases bs <;> cases br <;> cases bw
    all_goals
      simp only [if_true, if_false, Bool.false_eq_true, Nat.add_zero, Nat.reduceAdd] at hlen
      subst hlen
      go_wp2_with fail
      refine (hal W2).mono ?_
      rintro e W3 ⟨rfl, hb3⟩
      have hB3 := hB2.trans (hb3.mono hB2.size)
      clear hB2 hb3 c0 c1 c2 c3 c4 c5 c6 c7 c8 c9 c10 c11 c12 c13
      go_wp2
      go_ret
      exact ⟨rfl, hB3⟩
end Go.Proofs.Ytecbhhfncklefab
