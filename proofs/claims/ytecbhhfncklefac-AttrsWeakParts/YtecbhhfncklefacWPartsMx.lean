/- The walk of 'AttrsWeakParts', from what the program's Put and PutWeak answer (hypotheses): true for anything that is told, any size and points of time ahead of it; nothing that was there turns. -/
import Derived.Test.YtecbhhfncklefacAForms
import Derived.Test.YtecbhhfncklefacACell
import Derived.Test.YtecbhhfncklefacWCell
import Derived.Test.YtecbhhfncklefacLoadWanted
import Derived.Test.YtecbhhfncklefacPieces
import Derived.Test.YtecbhhfncklefacSame
import Derived.Test.YtecbhhfncklefacTimePut
import Derived.Test.YtecbhhfncklefacStorePartRegRowPBoxMx
import Derived.Test.YtecbhhfncklefacCuts
namespace Go.Proofs.Ytecbhhfncklefac
set_option linter.unusedVariables false
open Go.RowKit

/-- Two points of time in an array lie in a block. -/
def Tq (W : World) (h : Nat) (s0 n0 s1 n1 : Int) : Prop := W.heap[h]? = some (.cells #[.int .u32 s0, .int .u32 n0, .int .u32 s1, .int .u32 n1] 29)
theorem Tq.lt {W : World} {h : Nat} {s0 n0 s1 n1 : Int} (t : Tq W h s0 n0 s1 n1) : h < W.heap.size := (Array.getElem?_eq_some_iff.1 t).1
theorem Tq.next {W W' : World} {h : Nat} {s0 n0 s1 n1 : Int} (t : Tq W h s0 n0 s1 n1) (hb : Below W.heap.size W W') : Tq W' h s0 n0 s1 n1 := (hb.block _ t.lt).trans t
theorem Tq.c {W : World} {h : Nat} {s0 n0 s1 n1 : Int} (t : Tq W h s0 n0 s1 n1) : W.cell? ⟨h, 0, none⟩ = some (.int .u32 s0) ∧ W.cell? ⟨h, 1, none⟩ = some (.int .u32 n0) ∧ W.cell? ⟨h, 2, none⟩ = some (.int .u32 s1) ∧ W.cell? ⟨h, 3, none⟩ = some (.int .u32 n1) := by
  have t' : W.heap[h]? = _ := t
  refine ⟨?_, ?_, ?_, ?_⟩ <;> (simp only [World.cell?, t']; rfl)

theorem own_slc {W : World} {base n : Nat} {v : Value} {zs : List Int} (h : W.ownsRow base 5 1 v n (zs.map (Value.int .u8))) (hz : zs.length = n) (hn : 0 < n) : ∃ g c, v = .slice (some ⟨g, 0, none⟩) n c ∧ n ≤ c ∧ c ≤ 9223372036854775807 ∧ Seg W (some ⟨g, 0, none⟩) zs := by
  obtain ⟨g, c, rfl, h1, h2, _⟩ := own_shape h hn
  exact ⟨g, c, rfl, h1, h2, seg_own h hz⟩
theorem below_drewN3 (w : World) (n : Nat) : Below w.heap.size w (w.drewN n) := ⟨rfl, rfl, rfl, Nat.le_refl _, fun _ _ => rfl⟩
/-- What the last row reads. -/
structure WpS (w0 : World) (h : Nat) (s0 n0 s1 n1 : Int) (g1 g3 gx : Nat) (zb zc za zt : List Int) (W : World) : Prop where
  b : Below w0.heap.size w0 W
  t : Tq W h s0 n0 s1 n1
  sb : Seg W (some ⟨g1, 0, none⟩) zb
  s32 : Seg W (some ⟨g1, 32, none⟩) za
  s12 : Seg W (some ⟨g1, 12, none⟩) zt
  sc : Seg W (some ⟨g3, 0, none⟩) zc
  sx : Seg W (some ⟨gx, 0, none⟩) za
theorem WpS.next {w0 : World} {h : Nat} {s0 n0 s1 n1 : Int} {g1 g3 gx : Nat} {zb zc za zt : List Int} {W W' : World} (S : WpS w0 h s0 n0 s1 n1 g1 g3 gx zb zc za zt W) (hb : Below W.heap.size W W') : WpS w0 h s0 n0 s1 n1 g1 g3 gx zb zc za zt W' :=
  ⟨S.b.trans (hb.mono S.b.size), S.t.next hb, S.sb.below hb, S.s32.below hb, S.s12.below hb, S.sc.below hb, S.sx.below hb⟩
theorem cut28 (g n c : Nat) (w : World) (h : 28 ≤ c) : (Instr.slice 30 (.slice (some ⟨g, 0, none⟩) n c) none (some (.int .i64 28)) none).run Try.prog w = .ok (.slice (some ⟨g, 0, none⟩) 28 c) w := by
  have h1 : ((28 : Int) ≤ (c : Int)) := by omega
  go_simp
theorem cut32 (g c : Nat) (w : World) (h : 116 ≤ c) : (Instr.slice 30 (.slice (some ⟨g, 0, none⟩) 116 c) (some (.int .i64 32)) none none).run Try.prog w = .ok (.slice (some ⟨g, 32, none⟩) 84 (c - 32)) w := by
  have h1 : ¬ c = 32 := by omega
  have h2 : ((116 : Int) ≤ (c : Int)) := by omega
  go_simp
theorem cut12 (g c : Nat) (w : World) (h : 116 ≤ c) : (Instr.slice 30 (.slice (some ⟨g, 0, none⟩) 116 c) (some (.int .i64 12)) (some (.int .i64 20)) none).run Try.prog w = .ok (.slice (some ⟨g, 12, none⟩) 8 (c - 12)) w := by
  have h1 : ¬ c = 12 := by omega
  have h2 : ((20 : Int) ≤ (c : Int)) := by omega
  go_simp

theorem wparts_may (x : Atr) (size s0 n0 s1 n1 : Int) : wmay ⟨true, size, s0, n0, s1, n1, true, x⟩ = (amay x && tok n0 && tok n1) ∧ wmay ⟨true, size, s0, n0, s1, n1, false, zeroA⟩ = (tok n0 && tok n1) := by
  constructor
  · simp [wmay]
  · show ((true || _) && (if false then amay zeroA else az zeroA) && tok n0 && tok n1) = _
    rw [show az zeroA = true from rfl]; simp

theorem wparts_bytes (x : Atr) (size s0 n0 s1 n1 : Int) : (wB ⟨true, size, s0, n0, s1, n1, false, zeroA⟩).take 28 = (wB ⟨true, size, s0, n0, s1, n1, true, x⟩).take 28 ∧ (wB ⟨true, size, s0, n0, s1, n1, true, x⟩).drop 32 = aB x ∧ ((wB ⟨true, size, s0, n0, s1, n1, true, x⟩).drop 12).take 8 = tB s0 n0 := by
  have h8 := bytesOf_length size 8
  have hy : (yB true).length = 4 := yB_length true
  have ht : (tB s0 n0).length = 8 := tB_length s0 n0
  have ht1 : (tB s1 n1).length = 8 := tB_length s1 n1
  have e1 : wB ⟨true, size, s0, n0, s1, n1, true, x⟩ = (yB true ++ bytesOf size 8) ++ (tB s0 n0 ++ (tB s1 n1 ++ (yB true ++ aB x))) := by rw [wB_eq]; simp
  have e2 : wB ⟨true, size, s0, n0, s1, n1, true, x⟩ = (yB true ++ bytesOf size 8 ++ tB s0 n0 ++ tB s1 n1) ++ (yB true ++ aB x) := by rw [wB_eq]; simp
  have e3 : wB ⟨true, size, s0, n0, s1, n1, true, x⟩ = (yB true ++ bytesOf size 8 ++ tB s0 n0 ++ tB s1 n1 ++ yB true) ++ aB x := by rw [wB_eq]; simp
  have e4 : wB ⟨true, size, s0, n0, s1, n1, false, zeroA⟩ = (yB true ++ bytesOf size 8 ++ tB s0 n0 ++ tB s1 n1) ++ yB false := by rw [wB_eq]; simp
  have l1 : (yB true ++ bytesOf size 8).length = 12 := by simp [hy, h8]
  have l2 : (yB true ++ bytesOf size 8 ++ tB s0 n0 ++ tB s1 n1).length = 28 := by simp [hy, h8, ht, ht1]
  have l3 : (yB true ++ bytesOf size 8 ++ tB s0 n0 ++ tB s1 n1 ++ yB true).length = 32 := by simp [hy, h8, ht, ht1]
  refine ⟨?_, ?_, ?_⟩
  · rw [e4, e2, List.take_left' l2, List.take_left' l2]
  · rw [e3, List.drop_left' l3]
  · rw [e1, List.drop_left' l1, List.take_left' ht]

set_option maxRecDepth 100000 in
set_option maxHeartbeats 4000000 in
theorem wparts_walk (hal : ∀ W, Calls Try.prog 7 #[] W fun e W' => e = .returned (.bool true) ∧ Below W.heap.size W W') (hput : APut 4) (hweak : WPut 5)
    (x : Atr) (size s0 n0 s1 n1 : Int) (w : World) (hx : x.In) (hsz : 0 ≤ size ∧ size ≤ 18446744073709551615) (b0 : 0 ≤ s0 ∧ s0 ≤ 4294967295) (b1 : 0 ≤ n0 ∧ n0 ≤ 4294967295) (b2 : 0 ≤ s1 ∧ s1 ≤ 4294967295) (b3 : 0 ≤ n1 ∧ n1 ≤ 4294967295) :
    Calls Try.prog 3 #[.agg #[.int .u32 x.kind, .int .u32 x.mode, .int .u32 x.links, .int .u32 x.user, .int .u32 x.group, .int .u64 x.size, .int .u64 x.used, .int .u64 x.id, .int .u32 x.rs, .int .u32 x.rn, .int .u32 x.ws, .int .u32 x.wn, .int .u32 x.ts, .int .u32 x.tn], .int .u64 size, .agg #[.int .u32 s0, .int .u32 n0, .int .u32 s1, .int .u32 n1]] w fun e w' => e = .returned (.bool true) ∧ Below w.heap.size w w' := by
  have hp := fun W => hput x W hx
  have hi1 : (⟨true, size, s0, n0, s1, n1, true, x⟩ : Wk).In := ⟨hsz, b0, b1, b2, b3, hx⟩
  have hi3 : (⟨true, size, s0, n0, s1, n1, false, zeroA⟩ : Wk).In := ⟨hsz, b0, b1, b2, b3, zeroA_in⟩
  obtain ⟨m1, m3⟩ := wparts_may x size s0 n0 s1 n1
  have hw1 : ∀ W, Calls Try.prog 5 #[.agg #[.bool true, .int .u64 size, .int .u32 s0, .int .u32 n0, .int .u32 s1, .int .u32 n1, .bool true, .int .u32 x.kind, .int .u32 x.mode, .int .u32 x.links, .int .u32 x.user, .int .u32 x.group, .int .u64 x.size, .int .u64 x.used, .int .u64 x.id, .int .u32 x.rs, .int .u32 x.rn, .int .u32 x.ws, .int .u32 x.wn, .int .u32 x.ts, .int .u32 x.tn]] W fun e w' => ∃ v, e = .returned (.tuple #[v, .int .i64 (paE (wmay ⟨true, size, s0, n0, s1, n1, true, x⟩))]) ∧ w'.ownsRow W.heap.size 5 1 v (paZ (wmay ⟨true, size, s0, n0, s1, n1, true, x⟩) (wB ⟨true, size, s0, n0, s1, n1, true, x⟩)).length ((paZ (wmay ⟨true, size, s0, n0, s1, n1, true, x⟩) (wB ⟨true, size, s0, n0, s1, n1, true, x⟩)).map (Value.int .u8)) ∧ Below W.heap.size W w' := fun W => hweak ⟨true, size, s0, n0, s1, n1, true, x⟩ W hi1
  have hw3 : ∀ W, Calls Try.prog 5 #[.agg #[.bool true, .int .u64 size, .int .u32 s0, .int .u32 n0, .int .u32 s1, .int .u32 n1, .bool false, .int .u32 0, .int .u32 0, .int .u32 0, .int .u32 0, .int .u32 0, .int .u64 0, .int .u64 0, .int .u64 0, .int .u32 0, .int .u32 0, .int .u32 0, .int .u32 0, .int .u32 0, .int .u32 0]] W fun e w' => ∃ v, e = .returned (.tuple #[v, .int .i64 (paE (wmay ⟨true, size, s0, n0, s1, n1, false, zeroA⟩))]) ∧ w'.ownsRow W.heap.size 5 1 v (paZ (wmay ⟨true, size, s0, n0, s1, n1, false, zeroA⟩) (wB ⟨true, size, s0, n0, s1, n1, false, zeroA⟩)).length ((paZ (wmay ⟨true, size, s0, n0, s1, n1, false, zeroA⟩) (wB ⟨true, size, s0, n0, s1, n1, false, zeroA⟩)).map (Value.int .u8)) ∧ Below W.heap.size W w' := fun W => hweak ⟨true, size, s0, n0, s1, n1, false, zeroA⟩ W hi3
  rw [m1] at hw1
  rw [m3] at hw3
  clear hput hweak hi1 hi3 m1 m3
  have a1 := Ap.new w x
  have hB1 : Below w.heap.size w (w.alloc (.cells #[.int .u32 x.kind, .int .u32 x.mode, .int .u32 x.links, .int .u32 x.user, .int .u32 x.group, .int .u64 x.size, .int .u64 x.used, .int .u64 x.id, .int .u32 x.rs, .int .u32 x.rn, .int .u32 x.ws, .int .u32 x.wn, .int .u32 x.ts, .int .u32 x.tn] 28)) := (Below.refl _ _).alloc (Nat.le_refl _) _
  have hB2 := hB1.alloc hB1.size (.cells #[.int .u32 s0, .int .u32 n0, .int .u32 s1, .int .u32 n1] 29)
  have a2 := a1.alloc (.cells #[.int .u32 s0, .int .u32 n0, .int .u32 s1, .int .u32 n1] 29)
  have t2 : Tq ((w.alloc (.cells #[.int .u32 x.kind, .int .u32 x.mode, .int .u32 x.links, .int .u32 x.user, .int .u32 x.group, .int .u64 x.size, .int .u64 x.used, .int .u64 x.id, .int .u32 x.rs, .int .u32 x.rn, .int .u32 x.ws, .int .u32 x.wn, .int .u32 x.ts, .int .u32 x.tn] 28)).alloc (.cells #[.int .u32 s0, .int .u32 n0, .int .u32 s1, .int .u32 n1] 29)) (w.alloc (.cells #[.int .u32 x.kind, .int .u32 x.mode, .int .u32 x.links, .int .u32 x.user, .int .u32 x.group, .int .u64 x.size, .int .u64 x.used, .int .u64 x.id, .int .u32 x.rs, .int .u32 x.rn, .int .u32 x.ws, .int .u32 x.wn, .int .u32 x.ts, .int .u32 x.tn] 28)).heap.size s0 n0 s1 n1 := World.alloc_heap_new _ _
  rw [show (w.alloc (.cells #[.int .u32 x.kind, .int .u32 x.mode, .int .u32 x.links, .int .u32 x.user, .int .u32 x.group, .int .u64 x.size, .int .u64 x.used, .int .u64 x.id, .int .u32 x.rs, .int .u32 x.rn, .int .u32 x.ws, .int .u32 x.wn, .int .u32 x.ts, .int .u32 x.tn] 28)).heap.size = w.heap.size + 1 by simp] at t2
  clear a1 hB1
  obtain ⟨tk0, ht0⟩ : ∃ b, tok n0 = b := ⟨_, rfl⟩
  obtain ⟨tk1, ht1⟩ : ∃ b, tok n1 = b := ⟨_, rfl⟩
  have hc0 := fun W => tcheck_any s0 n0 W
  have hc1 := fun W => tcheck_any s1 n1 W
  rw [ht0] at hc0
  rw [ht1] at hc1
  rw [ht0, ht1] at hw1 hw3
  cases hm : amay x with
  | false =>
    rw [hm] at hp hw1
    have hp' : ∀ W, Calls Try.prog 4 #[.agg #[.int .u32 x.kind, .int .u32 x.mode, .int .u32 x.links, .int .u32 x.user, .int .u32 x.group, .int .u64 x.size, .int .u64 x.used, .int .u64 x.id, .int .u32 x.rs, .int .u32 x.rn, .int .u32 x.ws, .int .u32 x.wn, .int .u32 x.ts, .int .u32 x.tn]] W fun e w' => ∃ v, e = .returned (.tuple #[v, .int .i64 1]) ∧ w'.ownsRow W.heap.size 5 1 v 0 (([] : List Int).map (Value.int .u8)) ∧ Below W.heap.size W w' := hp
    have hw1' : ∀ W, Calls Try.prog 5 #[.agg #[.bool true, .int .u64 size, .int .u32 s0, .int .u32 n0, .int .u32 s1, .int .u32 n1, .bool true, .int .u32 x.kind, .int .u32 x.mode, .int .u32 x.links, .int .u32 x.user, .int .u32 x.group, .int .u64 x.size, .int .u64 x.used, .int .u64 x.id, .int .u32 x.rs, .int .u32 x.rn, .int .u32 x.ws, .int .u32 x.wn, .int .u32 x.ts, .int .u32 x.tn]] W fun e w' => ∃ v, e = .returned (.tuple #[v, .int .i64 1]) ∧ w'.ownsRow W.heap.size 5 1 v 0 (([] : List Int).map (Value.int .u8)) ∧ Below W.heap.size W w' := hw1
    clear hp hw1 hw3 hc0 hc1
    have hp := hp'
    have hw1 := hw1'
    clear hp' hw1'
    go_enter Try.func3, Try.ntmps3
    go_wp2_with (refine wpList_load_row rfl _ _ rfl w.heap.size rfl 28 _ (0, 0) _ a2 Try.underlying28 rfl a_info ?_)
    generalize ((w.alloc (.cells #[.int .u32 x.kind, .int .u32 x.mode, .int .u32 x.links, .int .u32 x.user, .int .u32 x.group, .int .u64 x.size, .int .u64 x.used, .int .u64 x.id, .int .u32 x.rs, .int .u32 x.rn, .int .u32 x.ws, .int .u32 x.wn, .int .u32 x.ts, .int .u32 x.tn] 28)).alloc (.cells #[.int .u32 s0, .int .u32 n0, .int .u32 s1, .int .u32 n1] 29)) = W2 at *
    refine (hp W2).mono ?_
    rintro e W3 ⟨vx, rfl, ox, hb3⟩
    obtain ⟨ax, cx, rfl, sx, kx, mx, nx⟩ := own_val ox rfl
    have lt3 : w.heap.size + 1 < W3.heap.size := (t2.next hb3).lt
    have hB3 := hB2.trans (hb3.mono hB2.size)
    have a3 := a2.next hb3
    have t3 := t2.next hb3
    obtain ⟨c0, c1, c2, c3⟩ := t3.c
    have z3 := World.alloc_heap_new W3 (.cells #[.bool false, .int .u64 0, .int .u32 0, .int .u32 0, .int .u32 0, .int .u32 0, .bool false, .int .u32 0, .int .u32 0, .int .u32 0, .int .u32 0, .int .u32 0, .int .u64 0, .int .u64 0, .int .u64 0, .int .u32 0, .int .u32 0, .int .u32 0, .int .u32 0, .int .u32 0, .int .u32 0] 35)
    have hbz : Below W3.heap.size W3 (W3.alloc (.cells #[.bool false, .int .u64 0, .int .u32 0, .int .u32 0, .int .u32 0, .int .u32 0, .bool false, .int .u32 0, .int .u32 0, .int .u32 0, .int .u32 0, .int .u32 0, .int .u64 0, .int .u64 0, .int .u64 0, .int .u32 0, .int .u32 0, .int .u32 0, .int .u32 0, .int .u32 0, .int .u32 0] 35)) := (Below.refl _ _).alloc (Nat.le_refl _) _
    clear hB2 a2 t2 hb3 ox hp
    go_wp2_with (first
      | (refine wpList_store_whole rfl _ _ _ rfl W3.heap.size #[.bool true, .int .u64 size, .int .u32 s0, .int .u32 n0, .int .u32 s1, .int .u32 n1, .bool true, .int .u32 x.kind, .int .u32 x.mode, .int .u32 x.links, .int .u32 x.user, .int .u32 x.group, .int .u64 x.size, .int .u64 x.used, .int .u64 x.id, .int .u32 x.rs, .int .u32 x.rn, .int .u32 x.ws, .int .u32 x.wn, .int .u32 x.ts, .int .u32 x.tn] rfl rfl 35 #[.bool false, .int .u64 0, .int .u32 0, .int .u32 0, .int .u32 0, .int .u32 0, .bool false, .int .u32 0, .int .u32 0, .int .u32 0, .int .u32 0, .int .u32 0, .int .u64 0, .int .u64 0, .int .u64 0, .int .u32 0, .int .u32 0, .int .u32 0, .int .u32 0, .int .u32 0, .int .u32 0] z3 w_info rfl (by simp [Value.oneCell']) ?_; intro W4 r4 hg4 hs4)
      | (refine wpList_load_row rfl _ _ rfl W3.heap.size rfl 35 _ (0, 0) _ r4 Try.underlying35 rfl w_info ?_)
      | (refine wpList_load_row rfl _ _ rfl w.heap.size rfl 28 _ (0, 0) _ a3 Try.underlying28 rfl a_info ?_))
    have hb4 : Below W3.heap.size W3 W4 := hbz.grown hg4 (by simp) (fun k e => by cases e; exact Nat.le_refl _)
    have hB4 := hB3.trans (hb4.mono hB3.size)
    have t4 := t3.next hb4
    have sx4 := sx.below hb4
    clear hB3 a3 t3 z3 hbz hg4 hs4 hb4 sx c0 c1 c2 c3
    refine (hw1 W4).mono ?_
    rintro e W5 ⟨vb, rfl, ob, hb5⟩
    obtain ⟨ab, cb, rfl, sb, kb, mb, nb⟩ := own_val ob rfl
    have hB5 := hB4.trans (hb5.mono hB4.size)
    have t5 := t4.next hb5
    have sx5 := sx4.below hb5
    have r5 := (hb5.block _ (Array.getElem?_eq_some_iff.1 r4).1).trans r4
    obtain ⟨c0, c1, c2, c3⟩ := t5.c
    clear hB4 t4 sx4 r4 hb5 ob hw1
    go_wp2_with fail
    refine (hal W5).mono ?_
    rintro e W9 ⟨rfl, hb9⟩
    have hB9 := hB5.trans (hb9.mono hB5.size)
    clear hB5 hb9 t5 sx5 r5 c0 c1 c2 c3
    go_wp2
    go_ret
    exact ⟨rfl, hB9⟩
  | true =>
    rw [hm] at hp hw1
    have hp' : ∀ W, Calls Try.prog 4 #[.agg #[.int .u32 x.kind, .int .u32 x.mode, .int .u32 x.links, .int .u32 x.user, .int .u32 x.group, .int .u64 x.size, .int .u64 x.used, .int .u64 x.id, .int .u32 x.rs, .int .u32 x.rn, .int .u32 x.ws, .int .u32 x.wn, .int .u32 x.ts, .int .u32 x.tn]] W fun e w' => ∃ v, e = .returned (.tuple #[v, .int .i64 0]) ∧ w'.ownsRow W.heap.size 5 1 v (aB x).length ((aB x).map (Value.int .u8)) ∧ Below W.heap.size W w' := hp
    have lx := aB_length x
    rw [lx] at hp'
    clear hp
    have hp := hp'
    clear hp'
    cases tk0 with
    | false =>
      have hw1' : ∀ W, Calls Try.prog 5 #[.agg #[.bool true, .int .u64 size, .int .u32 s0, .int .u32 n0, .int .u32 s1, .int .u32 n1, .bool true, .int .u32 x.kind, .int .u32 x.mode, .int .u32 x.links, .int .u32 x.user, .int .u32 x.group, .int .u64 x.size, .int .u64 x.used, .int .u64 x.id, .int .u32 x.rs, .int .u32 x.rn, .int .u32 x.ws, .int .u32 x.wn, .int .u32 x.ts, .int .u32 x.tn]] W fun e w' => ∃ v, e = .returned (.tuple #[v, .int .i64 1]) ∧ w'.ownsRow W.heap.size 5 1 v 0 (([] : List Int).map (Value.int .u8)) ∧ Below W.heap.size W w' := hw1
      clear hw1 hw3
      have hw1 := hw1'
      clear hw1'
      go_enter Try.func3, Try.ntmps3
      go_wp2_with (refine wpList_load_row rfl _ _ rfl w.heap.size rfl 28 _ (0, 0) _ a2 Try.underlying28 rfl a_info ?_)
      generalize ((w.alloc (.cells #[.int .u32 x.kind, .int .u32 x.mode, .int .u32 x.links, .int .u32 x.user, .int .u32 x.group, .int .u64 x.size, .int .u64 x.used, .int .u64 x.id, .int .u32 x.rs, .int .u32 x.rn, .int .u32 x.ws, .int .u32 x.wn, .int .u32 x.ts, .int .u32 x.tn] 28)).alloc (.cells #[.int .u32 s0, .int .u32 n0, .int .u32 s1, .int .u32 n1] 29)) = W2 at *
      refine (hp W2).mono ?_
      rintro e W3 ⟨vx, rfl, ox, hb3⟩
      obtain ⟨gx, cx, rfl, kx, mx, sx⟩ := own_slc ox lx (by decide)
      have lt3 : w.heap.size + 1 < W3.heap.size := (t2.next hb3).lt
      have hB3 := hB2.trans (hb3.mono hB2.size)
      have a3 := a2.next hb3
      have t3 := t2.next hb3
      obtain ⟨c0, c1, c2, c3⟩ := t3.c
      have z3 := World.alloc_heap_new W3 (.cells #[.bool false, .int .u64 0, .int .u32 0, .int .u32 0, .int .u32 0, .int .u32 0, .bool false, .int .u32 0, .int .u32 0, .int .u32 0, .int .u32 0, .int .u32 0, .int .u64 0, .int .u64 0, .int .u64 0, .int .u32 0, .int .u32 0, .int .u32 0, .int .u32 0, .int .u32 0, .int .u32 0] 35)
      have hbz : Below W3.heap.size W3 (W3.alloc (.cells #[.bool false, .int .u64 0, .int .u32 0, .int .u32 0, .int .u32 0, .int .u32 0, .bool false, .int .u32 0, .int .u32 0, .int .u32 0, .int .u32 0, .int .u32 0, .int .u64 0, .int .u64 0, .int .u64 0, .int .u32 0, .int .u32 0, .int .u32 0, .int .u32 0, .int .u32 0, .int .u32 0] 35)) := (Below.refl _ _).alloc (Nat.le_refl _) _
      clear hB2 a2 t2 hb3 ox hp
      go_wp2_with (first
        | (refine wpList_store_whole rfl _ _ _ rfl W3.heap.size #[.bool true, .int .u64 size, .int .u32 s0, .int .u32 n0, .int .u32 s1, .int .u32 n1, .bool true, .int .u32 x.kind, .int .u32 x.mode, .int .u32 x.links, .int .u32 x.user, .int .u32 x.group, .int .u64 x.size, .int .u64 x.used, .int .u64 x.id, .int .u32 x.rs, .int .u32 x.rn, .int .u32 x.ws, .int .u32 x.wn, .int .u32 x.ts, .int .u32 x.tn] rfl rfl 35 #[.bool false, .int .u64 0, .int .u32 0, .int .u32 0, .int .u32 0, .int .u32 0, .bool false, .int .u32 0, .int .u32 0, .int .u32 0, .int .u32 0, .int .u32 0, .int .u64 0, .int .u64 0, .int .u64 0, .int .u32 0, .int .u32 0, .int .u32 0, .int .u32 0, .int .u32 0, .int .u32 0] z3 w_info rfl (by simp [Value.oneCell']) ?_; intro W4 r4 hg4 hs4)
        | (refine wpList_load_row rfl _ _ rfl W3.heap.size rfl 35 _ (0, 0) _ r4 Try.underlying35 rfl w_info ?_)
        | (refine wpList_load_row rfl _ _ rfl w.heap.size rfl 28 _ (0, 0) _ a3 Try.underlying28 rfl a_info ?_))
      have hb4 : Below W3.heap.size W3 W4 := hbz.grown hg4 (by simp) (fun k e => by cases e; exact Nat.le_refl _)
      have hB4 := hB3.trans (hb4.mono hB3.size)
      have t4 := t3.next hb4
      have sx4 := sx.below hb4
      clear hB3 a3 t3 z3 hbz hg4 hs4 hb4 sx c0 c1 c2 c3
      refine (hw1 W4).mono ?_
      rintro e W5 ⟨vb, rfl, ob, hb5⟩
      obtain ⟨ab, cb, rfl, sb, kb, mb, nb⟩ := own_val ob rfl
      have hB5 := hB4.trans (hb5.mono hB4.size)
      have t5 := t4.next hb5
      have sx5 := sx4.below hb5
      have r5 := (hb5.block _ (Array.getElem?_eq_some_iff.1 r4).1).trans r4
      obtain ⟨c0, c1, c2, c3⟩ := t5.c
      clear hB4 t4 sx4 r4 hb5 ob hw1
      go_wp2_with fail
      refine (hc0 W5).mono ?_
      rintro e W6 ⟨rfl, hb6⟩
      have hB6 := hB5.trans (hb6.mono hB5.size)
      replace t5 := t5.next hb6
      replace sx5 := sx5.below hb6
      replace sb := sb.below hb6
      replace r5 := (hb6.block _ (Array.getElem?_eq_some_iff.1 r5).1).trans r5
      clear c0 c1 c2 c3
      obtain ⟨c0, c1, c2, c3⟩ := t5.c
      clear hb6 hB5
      go_wp2_with fail
      refine (hal W6).mono ?_
      rintro e W9 ⟨rfl, hb9⟩
      have hB9 := hB6.trans (hb9.mono hB6.size)
      clear hB6 hb9 t5 sx5 r5 c0 c1 c2 c3
      go_wp2
      go_ret
      exact ⟨rfl, hB9⟩
    | true =>
      cases tk1 with
      | false =>
        have hw1' : ∀ W, Calls Try.prog 5 #[.agg #[.bool true, .int .u64 size, .int .u32 s0, .int .u32 n0, .int .u32 s1, .int .u32 n1, .bool true, .int .u32 x.kind, .int .u32 x.mode, .int .u32 x.links, .int .u32 x.user, .int .u32 x.group, .int .u64 x.size, .int .u64 x.used, .int .u64 x.id, .int .u32 x.rs, .int .u32 x.rn, .int .u32 x.ws, .int .u32 x.wn, .int .u32 x.ts, .int .u32 x.tn]] W fun e w' => ∃ v, e = .returned (.tuple #[v, .int .i64 1]) ∧ w'.ownsRow W.heap.size 5 1 v 0 (([] : List Int).map (Value.int .u8)) ∧ Below W.heap.size W w' := hw1
        clear hw1 hw3
        have hw1 := hw1'
        clear hw1'
        go_enter Try.func3, Try.ntmps3
        go_wp2_with (refine wpList_load_row rfl _ _ rfl w.heap.size rfl 28 _ (0, 0) _ a2 Try.underlying28 rfl a_info ?_)
        generalize ((w.alloc (.cells #[.int .u32 x.kind, .int .u32 x.mode, .int .u32 x.links, .int .u32 x.user, .int .u32 x.group, .int .u64 x.size, .int .u64 x.used, .int .u64 x.id, .int .u32 x.rs, .int .u32 x.rn, .int .u32 x.ws, .int .u32 x.wn, .int .u32 x.ts, .int .u32 x.tn] 28)).alloc (.cells #[.int .u32 s0, .int .u32 n0, .int .u32 s1, .int .u32 n1] 29)) = W2 at *
        refine (hp W2).mono ?_
        rintro e W3 ⟨vx, rfl, ox, hb3⟩
        obtain ⟨gx, cx, rfl, kx, mx, sx⟩ := own_slc ox lx (by decide)
        have lt3 : w.heap.size + 1 < W3.heap.size := (t2.next hb3).lt
        have hB3 := hB2.trans (hb3.mono hB2.size)
        have a3 := a2.next hb3
        have t3 := t2.next hb3
        obtain ⟨c0, c1, c2, c3⟩ := t3.c
        have z3 := World.alloc_heap_new W3 (.cells #[.bool false, .int .u64 0, .int .u32 0, .int .u32 0, .int .u32 0, .int .u32 0, .bool false, .int .u32 0, .int .u32 0, .int .u32 0, .int .u32 0, .int .u32 0, .int .u64 0, .int .u64 0, .int .u64 0, .int .u32 0, .int .u32 0, .int .u32 0, .int .u32 0, .int .u32 0, .int .u32 0] 35)
        have hbz : Below W3.heap.size W3 (W3.alloc (.cells #[.bool false, .int .u64 0, .int .u32 0, .int .u32 0, .int .u32 0, .int .u32 0, .bool false, .int .u32 0, .int .u32 0, .int .u32 0, .int .u32 0, .int .u32 0, .int .u64 0, .int .u64 0, .int .u64 0, .int .u32 0, .int .u32 0, .int .u32 0, .int .u32 0, .int .u32 0, .int .u32 0] 35)) := (Below.refl _ _).alloc (Nat.le_refl _) _
        clear hB2 a2 t2 hb3 ox hp
        go_wp2_with (first
          | (refine wpList_store_whole rfl _ _ _ rfl W3.heap.size #[.bool true, .int .u64 size, .int .u32 s0, .int .u32 n0, .int .u32 s1, .int .u32 n1, .bool true, .int .u32 x.kind, .int .u32 x.mode, .int .u32 x.links, .int .u32 x.user, .int .u32 x.group, .int .u64 x.size, .int .u64 x.used, .int .u64 x.id, .int .u32 x.rs, .int .u32 x.rn, .int .u32 x.ws, .int .u32 x.wn, .int .u32 x.ts, .int .u32 x.tn] rfl rfl 35 #[.bool false, .int .u64 0, .int .u32 0, .int .u32 0, .int .u32 0, .int .u32 0, .bool false, .int .u32 0, .int .u32 0, .int .u32 0, .int .u32 0, .int .u32 0, .int .u64 0, .int .u64 0, .int .u64 0, .int .u32 0, .int .u32 0, .int .u32 0, .int .u32 0, .int .u32 0, .int .u32 0] z3 w_info rfl (by simp [Value.oneCell']) ?_; intro W4 r4 hg4 hs4)
          | (refine wpList_load_row rfl _ _ rfl W3.heap.size rfl 35 _ (0, 0) _ r4 Try.underlying35 rfl w_info ?_)
          | (refine wpList_load_row rfl _ _ rfl w.heap.size rfl 28 _ (0, 0) _ a3 Try.underlying28 rfl a_info ?_))
        have hb4 : Below W3.heap.size W3 W4 := hbz.grown hg4 (by simp) (fun k e => by cases e; exact Nat.le_refl _)
        have hB4 := hB3.trans (hb4.mono hB3.size)
        have t4 := t3.next hb4
        have sx4 := sx.below hb4
        clear hB3 a3 t3 z3 hbz hg4 hs4 hb4 sx c0 c1 c2 c3
        refine (hw1 W4).mono ?_
        rintro e W5 ⟨vb, rfl, ob, hb5⟩
        obtain ⟨ab, cb, rfl, sb, kb, mb, nb⟩ := own_val ob rfl
        have hB5 := hB4.trans (hb5.mono hB4.size)
        have t5 := t4.next hb5
        have sx5 := sx4.below hb5
        have r5 := (hb5.block _ (Array.getElem?_eq_some_iff.1 r4).1).trans r4
        obtain ⟨c0, c1, c2, c3⟩ := t5.c
        clear hB4 t4 sx4 r4 hb5 ob hw1
        go_wp2_with fail
        refine (hc0 W5).mono ?_
        rintro e W6 ⟨rfl, hb6⟩
        have hB6 := hB5.trans (hb6.mono hB5.size)
        replace t5 := t5.next hb6
        replace sx5 := sx5.below hb6
        replace sb := sb.below hb6
        replace r5 := (hb6.block _ (Array.getElem?_eq_some_iff.1 r5).1).trans r5
        clear c0 c1 c2 c3
        obtain ⟨c0, c1, c2, c3⟩ := t5.c
        clear hb6 hB5
        go_wp2_with fail
        refine (hc1 W6).mono ?_
        rintro e W7 ⟨rfl, hb7⟩
        have hB7 := hB6.trans (hb7.mono hB6.size)
        replace t5 := t5.next hb7
        replace sx5 := sx5.below hb7
        replace sb := sb.below hb7
        replace r5 := (hb7.block _ (Array.getElem?_eq_some_iff.1 r5).1).trans r5
        clear c0 c1 c2 c3
        obtain ⟨c0, c1, c2, c3⟩ := t5.c
        clear hb7 hB6
        go_wp2_with fail
        refine (hal W7).mono ?_
        rintro e W9 ⟨rfl, hb9⟩
        have hB9 := hB7.trans (hb9.mono hB7.size)
        clear hB7 hb9 t5 sx5 r5 c0 c1 c2 c3
        go_wp2
        go_ret
        exact ⟨rfl, hB9⟩
      | true =>
        have hw1' : ∀ W, Calls Try.prog 5 #[.agg #[.bool true, .int .u64 size, .int .u32 s0, .int .u32 n0, .int .u32 s1, .int .u32 n1, .bool true, .int .u32 x.kind, .int .u32 x.mode, .int .u32 x.links, .int .u32 x.user, .int .u32 x.group, .int .u64 x.size, .int .u64 x.used, .int .u64 x.id, .int .u32 x.rs, .int .u32 x.rn, .int .u32 x.ws, .int .u32 x.wn, .int .u32 x.ts, .int .u32 x.tn]] W fun e w' => ∃ v, e = .returned (.tuple #[v, .int .i64 0]) ∧ w'.ownsRow W.heap.size 5 1 v (wB ⟨true, size, s0, n0, s1, n1, true, x⟩).length ((wB ⟨true, size, s0, n0, s1, n1, true, x⟩).map (Value.int .u8)) ∧ Below W.heap.size W w' := hw1
        have hw3' : ∀ W, Calls Try.prog 5 #[.agg #[.bool true, .int .u64 size, .int .u32 s0, .int .u32 n0, .int .u32 s1, .int .u32 n1, .bool false, .int .u32 0, .int .u32 0, .int .u32 0, .int .u32 0, .int .u32 0, .int .u64 0, .int .u64 0, .int .u64 0, .int .u32 0, .int .u32 0, .int .u32 0, .int .u32 0, .int .u32 0, .int .u32 0]] W fun e w' => ∃ v, e = .returned (.tuple #[v, .int .i64 0]) ∧ w'.ownsRow W.heap.size 5 1 v (wB ⟨true, size, s0, n0, s1, n1, false, zeroA⟩).length ((wB ⟨true, size, s0, n0, s1, n1, false, zeroA⟩).map (Value.int .u8)) ∧ Below W.heap.size W w' := hw3
        have lb : (wB ⟨true, size, s0, n0, s1, n1, true, x⟩).length = 116 := by rw [wB_length]; rfl
        have lc : (wB ⟨true, size, s0, n0, s1, n1, false, zeroA⟩).length = 32 := by rw [wB_length]; rfl
        obtain ⟨q1, q2, q3⟩ := wparts_bytes x size s0 n0 s1 n1
        rw [lb] at hw1'
        rw [lc] at hw3'
        clear hw1 hw3 hm
        have hw1 := hw1'
        have hw3 := hw3'
        clear hw1' hw3'
        generalize wB ⟨true, size, s0, n0, s1, n1, true, x⟩ = zb at *
        generalize wB ⟨true, size, s0, n0, s1, n1, false, zeroA⟩ = zc at *
        generalize aB x = za at *
        go_enter Try.func3, Try.ntmps3
        go_wp2_with (refine wpList_load_row rfl _ _ rfl w.heap.size rfl 28 _ (0, 0) _ a2 Try.underlying28 rfl a_info ?_)
        generalize ((w.alloc (.cells #[.int .u32 x.kind, .int .u32 x.mode, .int .u32 x.links, .int .u32 x.user, .int .u32 x.group, .int .u64 x.size, .int .u64 x.used, .int .u64 x.id, .int .u32 x.rs, .int .u32 x.rn, .int .u32 x.ws, .int .u32 x.wn, .int .u32 x.ts, .int .u32 x.tn] 28)).alloc (.cells #[.int .u32 s0, .int .u32 n0, .int .u32 s1, .int .u32 n1] 29)) = W2 at *
        refine (hp W2).mono ?_
        rintro e W3 ⟨vx, rfl, ox, hb3⟩
        obtain ⟨gx, cx, rfl, kx, mx, sx⟩ := own_slc ox lx (by decide)
        have lt3 : w.heap.size + 1 < W3.heap.size := (t2.next hb3).lt
        have hB3 := hB2.trans (hb3.mono hB2.size)
        have a3 := a2.next hb3
        have t3 := t2.next hb3
        obtain ⟨c0, c1, c2, c3⟩ := t3.c
        have z3 := World.alloc_heap_new W3 (.cells #[.bool false, .int .u64 0, .int .u32 0, .int .u32 0, .int .u32 0, .int .u32 0, .bool false, .int .u32 0, .int .u32 0, .int .u32 0, .int .u32 0, .int .u32 0, .int .u64 0, .int .u64 0, .int .u64 0, .int .u32 0, .int .u32 0, .int .u32 0, .int .u32 0, .int .u32 0, .int .u32 0] 35)
        have hbz : Below W3.heap.size W3 (W3.alloc (.cells #[.bool false, .int .u64 0, .int .u32 0, .int .u32 0, .int .u32 0, .int .u32 0, .bool false, .int .u32 0, .int .u32 0, .int .u32 0, .int .u32 0, .int .u32 0, .int .u64 0, .int .u64 0, .int .u64 0, .int .u32 0, .int .u32 0, .int .u32 0, .int .u32 0, .int .u32 0, .int .u32 0] 35)) := (Below.refl _ _).alloc (Nat.le_refl _) _
        clear hB2 a2 t2 hb3 ox hp
        go_wp2_with (first
          | (refine wpList_store_whole rfl _ _ _ rfl W3.heap.size #[.bool true, .int .u64 size, .int .u32 s0, .int .u32 n0, .int .u32 s1, .int .u32 n1, .bool true, .int .u32 x.kind, .int .u32 x.mode, .int .u32 x.links, .int .u32 x.user, .int .u32 x.group, .int .u64 x.size, .int .u64 x.used, .int .u64 x.id, .int .u32 x.rs, .int .u32 x.rn, .int .u32 x.ws, .int .u32 x.wn, .int .u32 x.ts, .int .u32 x.tn] rfl rfl 35 #[.bool false, .int .u64 0, .int .u32 0, .int .u32 0, .int .u32 0, .int .u32 0, .bool false, .int .u32 0, .int .u32 0, .int .u32 0, .int .u32 0, .int .u32 0, .int .u64 0, .int .u64 0, .int .u64 0, .int .u32 0, .int .u32 0, .int .u32 0, .int .u32 0, .int .u32 0, .int .u32 0] z3 w_info rfl (by simp [Value.oneCell']) ?_; intro W4 r4 hg4 hs4)
          | (refine wpList_load_row rfl _ _ rfl W3.heap.size rfl 35 _ (0, 0) _ r4 Try.underlying35 rfl w_info ?_)
          | (refine wpList_load_row rfl _ _ rfl w.heap.size rfl 28 _ (0, 0) _ a3 Try.underlying28 rfl a_info ?_))
        have hb4 : Below W3.heap.size W3 W4 := hbz.grown hg4 (by simp) (fun k e => by cases e; exact Nat.le_refl _)
        have hB4 := hB3.trans (hb4.mono hB3.size)
        have t4 := t3.next hb4
        have sx4 := sx.below hb4
        clear hB3 a3 t3 z3 hbz hg4 hs4 hb4 sx c0 c1 c2 c3
        refine (hw1 W4).mono ?_
        rintro e W5 ⟨vb, rfl, ob, hb5⟩
        obtain ⟨gb, cb, rfl, kb, mb, sb⟩ := own_slc ob lb (by decide)
        have hB5 := hB4.trans (hb5.mono hB4.size)
        have t5 := t4.next hb5
        have sx5 := sx4.below hb5
        have r5 := (hb5.block _ (Array.getElem?_eq_some_iff.1 r4).1).trans r4
        obtain ⟨c0, c1, c2, c3⟩ := t5.c
        clear hB4 t4 sx4 r4 hb5 ob hw1
        go_wp2_with fail
        refine (hc0 W5).mono ?_
        rintro e W6 ⟨rfl, hb6⟩
        have hB6 := hB5.trans (hb6.mono hB5.size)
        replace t5 := t5.next hb6
        replace sx5 := sx5.below hb6
        replace sb := sb.below hb6
        replace r5 := (hb6.block _ (Array.getElem?_eq_some_iff.1 r5).1).trans r5
        clear c0 c1 c2 c3
        obtain ⟨c0, c1, c2, c3⟩ := t5.c
        clear hb6 hB5
        go_wp2_with fail
        refine (hc1 W6).mono ?_
        rintro e W7 ⟨rfl, hb7⟩
        have hB7 := hB6.trans (hb7.mono hB6.size)
        replace t5 := t5.next hb7
        replace sx5 := sx5.below hb7
        replace sb := sb.below hb7
        replace r5 := (hb7.block _ (Array.getElem?_eq_some_iff.1 r5).1).trans r5
        clear c0 c1 c2 c3
        obtain ⟨c0, c1, c2, c3⟩ := t5.c
        clear hb7 hB6
        clear c0 c1 c2 c3 hc0 hc1
        go_wp2_with (first
          | (refine wpList_store_part rfl 28 _ _ rfl W3.heap.size 7 [.int .u32 0, .int .u32 0, .int .u32 0, .int .u32 0, .int .u32 0, .int .u64 0, .int .u64 0, .int .u64 0, .int .u32 0, .int .u32 0, .int .u32 0, .int .u32 0, .int .u32 0, .int .u32 0] rfl rfl 35 #[.bool true, .int .u64 size, .int .u32 s0, .int .u32 n0, .int .u32 s1, .int .u32 n1, .bool false, .int .u32 x.kind, .int .u32 x.mode, .int .u32 x.links, .int .u32 x.user, .int .u32 x.group, .int .u64 x.size, .int .u64 x.used, .int .u64 x.id, .int .u32 x.rs, .int .u32 x.rn, .int .u32 x.ws, .int .u32 x.wn, .int .u32 x.ts, .int .u32 x.tn] r8 a_info (by simp) (by simp [Value.oneCell']) #[.bool true, .int .u64 size, .int .u32 s0, .int .u32 n0, .int .u32 s1, .int .u32 n1, .bool false, .int .u32 0, .int .u32 0, .int .u32 0, .int .u32 0, .int .u32 0, .int .u64 0, .int .u64 0, .int .u64 0, .int .u32 0, .int .u32 0, .int .u32 0, .int .u32 0, .int .u32 0, .int .u32 0] (by rfl) ?_; intro W9 r9 hg9 hs9)
          | (refine wpList_store_field rfl 4 _ _ rfl W3.heap.size 6 (.bool false) rfl rfl 35 #[.bool true, .int .u64 size, .int .u32 s0, .int .u32 n0, .int .u32 s1, .int .u32 n1, .bool true, .int .u32 x.kind, .int .u32 x.mode, .int .u32 x.links, .int .u32 x.user, .int .u32 x.group, .int .u64 x.size, .int .u64 x.used, .int .u64 x.id, .int .u32 x.rs, .int .u32 x.rn, .int .u32 x.ws, .int .u32 x.wn, .int .u32 x.ts, .int .u32 x.tn] r5 (by kernel_rfl) (by simp) (by simp [Value.oneCell']) #[.bool true, .int .u64 size, .int .u32 s0, .int .u32 n0, .int .u32 s1, .int .u32 n1, .bool false, .int .u32 x.kind, .int .u32 x.mode, .int .u32 x.links, .int .u32 x.user, .int .u32 x.group, .int .u64 x.size, .int .u64 x.used, .int .u64 x.id, .int .u32 x.rs, .int .u32 x.rn, .int .u32 x.ws, .int .u32 x.wn, .int .u32 x.ts, .int .u32 x.tn] (by rfl) ?_; intro W8 r8 hg8 hs8)
          | (refine wpList_load_row rfl _ _ rfl W3.heap.size rfl 35 _ (0, 0) _ r9 Try.underlying35 rfl w_info ?_))
        have g8 := hg8.size
        have t9 : Tq W9 (w.heap.size + 1) s0 n0 s1 n1 := (hg9.block _ (by have := t5.lt; omega) (fun e => by have := Option.some.inj e; omega)).trans ((hg8.block _ t5.lt (fun e => by have := Option.some.inj e; omega)).trans t5)
        have hB9 : Below w.heap.size w W9 := (hB7.grown hg8 hB7.size (fun k e => by have := Option.some.inj e; omega)).grown hg9 (by have := hB7.size; omega) (fun k e => by have := Option.some.inj e; omega)
        have sb8 := seg_past sb r5 (no_u8 (by simp [noU8])) hg8
        have sb9 := seg_past sb8 r8 (no_u8 (by simp [noU8])) hg9
        have sx8 := seg_past sx5 r5 (no_u8 (by simp [noU8])) hg8
        have sx9 := seg_past sx8 r8 (no_u8 (by simp [noU8])) hg9
        clear t5 hB7 sb sx5 sb8 sx8 r5 r8 r9 hg8 hg9 hs8 hs9 g8
        refine (hw3 W9).mono ?_
        rintro e W10 ⟨vc, rfl, oc, hb10⟩
        obtain ⟨gc, cc, rfl, kc, mc, sc⟩ := own_slc oc lc (by decide)
        have s32 := (sb9.below hb10).drop 32
        have s12 := ((sb9.below hb10).drop 12).take 8
        rw [q2] at s32
        rw [q3] at s12
        have h0 : WpS w (w.heap.size + 1) s0 n0 s1 n1 gb gc gx zb zc za (tB s0 n0) W10 := ⟨hB9.trans (hb10.mono hB9.size), t9.next hb10, sb9.below hb10, s32, s12, sc, sx9.below hb10⟩
        clear hB9 hb10 t9 sb9 sx9 s32 s12 sc oc hw3
        have mk : ∀ W, WpS w (w.heap.size + 1) s0 n0 s1 n1 gb gc gx zb zc za (tB s0 n0) W → (W.cell? ⟨w.heap.size + 1, 0, none⟩ = some (.int .u32 s0) ∧ W.cell? ⟨w.heap.size + 1, 1, none⟩ = some (.int .u32 n0)) ∧ WpS w (w.heap.size + 1) s0 n0 s1 n1 gb gc gx zb zc za (tB s0 n0) W := fun W h => ⟨⟨h.t.c.1, h.t.c.2.1⟩, h⟩
        have hd := h0.next (W' := W10.drew) ⟨rfl, rfl, rfl, Nat.le_refl _, fun _ _ => rfl⟩
        have Sd := mk _ hd
        have k1 := fun W => cut28 gb 116 cb W (by omega)
        have k2 := fun W => cut28 gc 32 cc W (by omega)
        have k3 := fun W => cut32 gb cb W kb
        have k4 := fun W => cut12 gb cb W kb
        have tl : (tB s0 n0).length = 8 := tB_length s0 n0
        have sm1 : ∀ W, WpS w (w.heap.size + 1) s0 n0 s1 n1 gb gc gx zb zc za (tB s0 n0) W → Calls Try.prog 8 #[.slice (some ⟨gb, 0, none⟩) 28 cb, .slice (some ⟨gc, 0, none⟩) 28 cc] W fun e w' => e = .returned (.bool true) ∧ WpS w (w.heap.size + 1) s0 n0 s1 n1 gb gc gx zb zc za (tB s0 n0) w' := fun W h => (same_true (some ⟨gb, 0, none⟩) (some ⟨gc, 0, none⟩) 28 cb cc (zb.take 28) W (by omega) (by rw [List.length_take]; omega) (h.sb.take 28) (by rw [← q1]; exact h.sc.take 28)).mono fun e w' ⟨he, n, hn⟩ => ⟨he, by subst hn; exact h.next (below_drewN3 _ _)⟩
        have sm2 : ∀ W, WpS w (w.heap.size + 1) s0 n0 s1 n1 gb gc gx zb zc za (tB s0 n0) W → Calls Try.prog 8 #[.slice (some ⟨gb, 32, none⟩) 84 (cb - 32), .slice (some ⟨gx, 0, none⟩) 84 cx] W fun e w' => e = .returned (.bool true) ∧ WpS w (w.heap.size + 1) s0 n0 s1 n1 gb gc gx zb zc za (tB s0 n0) w' := fun W h => (same_true (some ⟨gb, 32, none⟩) (some ⟨gx, 0, none⟩) 84 (cb - 32) cx za W (by omega) lx h.s32 h.sx).mono fun e w' ⟨he, n, hn⟩ => ⟨he, by subst hn; exact h.next (below_drewN3 _ _)⟩
        have sm3 : ∀ W gt ct, WpS w (w.heap.size + 1) s0 n0 s1 n1 gb gc gx zb zc za (tB s0 n0) W → Seg W (some ⟨gt, 0, none⟩) (tB s0 n0) → Calls Try.prog 8 #[.slice (some ⟨gb, 12, none⟩) 8 (cb - 12), .slice (some ⟨gt, 0, none⟩) 8 ct] W fun e w' => e = .returned (.bool true) ∧ WpS w (w.heap.size + 1) s0 n0 s1 n1 gb gc gx zb zc za (tB s0 n0) w' := fun W gt ct h hs => (same_true (some ⟨gb, 12, none⟩) (some ⟨gt, 0, none⟩) 8 (cb - 12) ct (tB s0 n0) W (by omega) tl h.s12 hs).mono fun e w' ⟨he, n, hn⟩ => ⟨he, by subst hn; exact h.next (below_drewN3 _ _)⟩
        clear h0
        go_wp2_with fail
        go_region_held3 (fun w' => (w'.cell? ⟨w.heap.size + 1, 0, none⟩ = some (.int .u32 s0) ∧ w'.cell? ⟨w.heap.size + 1, 1, none⟩ = some (.int .u32 n0)) ∧ WpS w (w.heap.size + 1) s0 n0 s1 n1 gb gc gx zb zc za (tB s0 n0) w') (with_reducible assumption) (first
          | (have _g := S4; go_at_call 8; refine (sm3 _ _ _ h4 sd).mono ?_; rintro e We ⟨rfl, h5⟩; have S5 := mk _ h5)
          | (have _g := S3; go_at_call 9; refine (tput_any s0 n0 _ b0.1 b0.2 b1.1 b1.2).mono ?_; rintro e Wd ⟨gt, ct, rfl, kt, mt, od, hbd⟩; have h4 := h3.next hbd; have sd := seg_own od tl; have S4 := mk _ h4)
          | (have _g := S2; go_at_call 8; refine (sm2 _ h2).mono ?_; rintro e Wc ⟨rfl, h3⟩; have S3 := mk _ h3)
          | (have _g := S1; go_at_call 8; refine (sm1 _ h1).mono ?_; rintro e Wb ⟨rfl, h2⟩; have S2 := mk _ h2)
          | (go_at_call 7; refine (hal _).mono ?_; rintro e Wa ⟨rfl, hba⟩; have h1 := hd.next hba; have S1 := mk _ h1))
        have hfin := h5.b
        go_wp2
        go_ret
        exact ⟨rfl, hfin⟩
end Go.Proofs.Ytecbhhfncklefac
