/- The walk of 'AttrsWeakBack', from what the program's Put and Get answer (hypotheses): true for anything that was told, any bytes behind, any cut; nothing that was there turns. -/
import Derived.Test.YtecbhhfncklefabAForms
import Derived.Test.YtecbhhfncklefabWCell
import Derived.Test.YtecbhhfncklefabLoadWanted
import Derived.Test.YtecbhhfncklefabPieces
import Derived.Test.YtecbhhfncklefabBeyond
import Derived.Test.YtecbhhfncklefabAppendEach
import Derived.WalkSmall
namespace Go.Proofs.Ytecbhhfncklefab
set_option linter.unusedVariables false
open Go.RowKit

theorem infoW8 : (Try.prog.info? 5).map (fun i => (i.zero, i.size, i.bytes)) = some (some (.int .u8 0), 1, 1) := by kernel_rfl
/-- Cells of a Weak lie in a block. -/
def Wc (W : World) (h : Nat) (cs : Array Value) : Prop := W.heap[h]? = some (.cells cs 46)
theorem Wc.lt {W : World} {h : Nat} {x : Array Value} (t : Wc W h x) : h < W.heap.size := (Array.getElem?_eq_some_iff.1 t).1
theorem Wc.next {W W' : World} {h : Nat} {x : Array Value} (t : Wc W h x) (hb : Below W.heap.size W W') : Wc W' h x := (hb.block _ t.lt).trans t
theorem Wc.alloc {W : World} {h : Nat} {x : Array Value} (t : Wc W h x) (o : Obj) : Wc (W.alloc o) h x := t.next ((Below.refl _ _).alloc (Nat.le_refl _) o)

set_option maxRecDepth 100000 in
set_option maxHeartbeats 4000000 in
theorem wback_walk (hal : ∀ W, Calls Try.prog 9 #[] W fun e W' => e = .returned (.bool true) ∧ Below W.heap.size W W') (hput : WPut 15) (hget : WGet 16)
    (x : Wk) (a : Option Addr) (len cap : Nat) (zs : List Int) (cut : Int) (w : World) (hx : x.In) (hc0 : 0 ≤ cut) (hc1 : cut ≤ 255)
    (hlc : len ≤ cap) (hm : cap ≤ 9223372036854775807) (hz : zs.length = len) (hb : Byt zs) (hs : Seg w a zs) (hnil : a = none → len = 0 ∧ cap = 0) :
    Calls Try.prog 5 #[.agg #[.bool x.hb, .int .u64 x.size, .int .u32 x.ws, .int .u32 x.wn, .int .u32 x.ts, .int .u32 x.tn, .bool x.ha, .int .u32 x.af.kind, .int .u32 x.af.mode, .int .u32 x.af.links, .int .u32 x.af.user, .int .u32 x.af.group, .int .u64 x.af.size, .int .u64 x.af.used, .int .u64 x.af.id, .int .u32 x.af.rs, .int .u32 x.af.rn, .int .u32 x.af.ws, .int .u32 x.af.wn, .int .u32 x.af.ts, .int .u32 x.af.tn], .slice a len cap, .int .u8 cut] w fun e w' => e = .returned (.bool true) ∧ Below w.heap.size w w' := by
  obtain ⟨i0, hi, hz0, hz1, hz2⟩ := info_parts infoW8
  have hp := fun W => hput x W hx
  have heq := fun W => w_self x W
  obtain ⟨cs, hcs⟩ : ∃ cs : Array Value, (#[.bool x.hb, .int .u64 x.size, .int .u32 x.ws, .int .u32 x.wn, .int .u32 x.ts, .int .u32 x.tn, .bool x.ha, .int .u32 x.af.kind, .int .u32 x.af.mode, .int .u32 x.af.links, .int .u32 x.af.user, .int .u32 x.af.group, .int .u64 x.af.size, .int .u64 x.af.used, .int .u64 x.af.id, .int .u32 x.af.rs, .int .u32 x.af.rn, .int .u32 x.af.ws, .int .u32 x.af.wn, .int .u32 x.af.ts, .int .u32 x.af.tn] : Array Value) = cs := ⟨_, rfl⟩
  have hsz : cs.size = 21 := by rw [← hcs]; rfl
  have hone : cs.all (·.oneCell') = true := by rw [← hcs]; simp [Value.oneCell']
  have hinf : (Try.prog.info? 46).map (·.size) = some cs.size := by rw [hsz]; exact w_info
  rw [hcs] at heq hp ⊢
  have hB1 : Below w.heap.size w (w.alloc (.cells cs 46)) := (Below.refl _ _).alloc (Nat.le_refl _) _
  have z1 := World.alloc_heap_new w (.cells cs 46)
  by_cases hl : 1048576 < len
  · go_enter Try.func5, Try.ntmps5
    go_wp2_with fail
    generalize (w.alloc (.cells cs 46)) = W1 at *
    refine (hal W1).mono ?_
    rintro e W2 ⟨rfl, hb2⟩
    have hB2 := hB1.trans (hb2.mono hB1.size)
    have a2 : Wc W2 w.heap.size cs := Wc.next z1 hb2
    clear z1 hB1 hb2
    go_wp2_with (go_at_call 10; refine (beyond_yes (len : Int) _ _ (by omega) (by omega) (by simp)).mono ?_; rintro e w' ⟨rfl, hw'⟩; subst hw')
    have hB3 := hB2.alloc hB2.size (.cells #[.int .i64 (len : Int)] 3)
    generalize (W2.alloc (.cells #[.int .i64 (len : Int)] 3)) = W3 at *
    refine (hal W3).mono ?_
    rintro e W4 ⟨rfl, hb4⟩
    have hB4 := hB3.trans (hb4.mono hB3.size)
    clear hB2 hB3 hb4
    go_wp2
    go_ret
    exact ⟨rfl, hB4⟩
  · cases hmay : wmay x with
    | false =>
      rw [hmay] at hp
      go_enter Try.func5, Try.ntmps5
      go_wp2_with fail
      generalize (w.alloc (.cells cs 46)) = W1 at *
      refine (hal W1).mono ?_
      rintro e W2 ⟨rfl, hb2⟩
      have hB2 := hB1.trans (hb2.mono hB1.size)
      have a2 : Wc W2 w.heap.size cs := Wc.next z1 hb2
      clear z1 hB1 hb2
      go_wp2_with (first
        | (go_at_call 10; refine (beyond_no (len : Int) _ _ (by omega) (by omega) (by simp)).mono ?_; rintro e w' ⟨rfl, hw'⟩; subst hw'; have a3 := a2.alloc (.cells #[.int .i64 (len : Int)] 3))
        | (refine wpList_load_row rfl _ _ rfl w.heap.size rfl 46 _ (0, 0) _ a3 Try.underlying46 rfl hinf ?_))
      have hB3 := hB2.alloc hB2.size (.cells #[.int .i64 (len : Int)] 3)
      generalize (W2.alloc (.cells #[.int .i64 (len : Int)] 3)) = W3 at *
      refine (hp W3).mono ?_
      rintro e W4 ⟨v, rfl, ho, hb4⟩
      have hB4 := hB3.trans (hb4.mono hB3.size)
      obtain ⟨av, cv, rfl, _, _, _, _⟩ := own_val ho rfl
      clear hp a2 a3 hB2 hB3 hb4 ho
      go_wp2
      go_ret
      exact ⟨rfl, hB4⟩
    | true =>
      rw [hmay] at hp
      have hok := weak_ok hx hmay
      obtain ⟨q, hl84⟩ : ∃ q, (wB x).length = q := ⟨_, rfl⟩
      have hqb : 8 ≤ q ∧ q ≤ 116 ∧ q % 4 = 0 := by rw [← hl84]; exact wB_bnd x
      have hp' : ∀ W, Calls Try.prog 15 #[.agg cs] W fun e w' => ∃ G c, e = .returned (.tuple #[.slice (some ⟨G, 0, none⟩) q c, .int .i64 0]) ∧ q ≤ c ∧ c ≤ 9223372036854775807 ∧ W.heap.size ≤ G ∧ w'.ownsRow W.heap.size 5 1 (.slice (some ⟨G, 0, none⟩) q c) q ((wB x).map (Value.int .u8)) ∧ Below W.heap.size W w' := fun W => (hp W).mono fun e w' ⟨v, he, ho, hb⟩ => by
        have ho' : w'.ownsRow W.heap.size 5 1 v (wB x).length ((wB x).map (Value.int .u8)) := ho
        rw [hl84] at ho'
        obtain ⟨G, c, rfl, h1, h2, h3⟩ := own_shape ho' (by omega)
        exact ⟨G, c, he, h1, h2, h3, ho', hb⟩
      clear hp
      obtain ⟨cn, rfl⟩ : ∃ cn : Nat, cut = (cn : Int) := ⟨cut.toNat, by omega⟩
      obtain ⟨k, hk, hk84⟩ : ∃ k : Nat, cn % q = k ∧ k < q := ⟨_, rfl, Nat.mod_lt _ (by omega)⟩
      have hkl : ((wB x).take k).length = k := by rw [List.length_take, hl84]; omega
      have hfew := weakC.fewer hok (k := k) (by show k < (wB x).length; omega)
      have gk := fun G c W h1 h2 hS => hget (some ⟨G, 0, none⟩) k c ((wB x).take k) W h1 h2 hkl ((byt_wB x).take k) hS
      rw [show weakC.gE ((wB x).take k) = 4 from hfew] at gk
      obtain ⟨b1, b2, b3⟩ : weakC.gE (wB x ++ zs) = 0 ∧ weakC.gV (wB x ++ zs) = x ∧ weakC.gN (wB x ++ zs) = (wB x).length := weakC.back hok zs
      have hll : (wB x ++ zs).length = q + len := by rw [List.length_append, hl84, hz]
      have gl : ∀ a c W, q + len ≤ c → c ≤ 9223372036854775807 → Seg W a (wB x ++ zs) → Calls Try.prog 16 #[.slice a (q + len) c] W fun e w' => e = .returned (.tuple #[.agg cs, .int .i64 (q : Int), .int .i64 0]) ∧ Below W.heap.size W w' := fun a c W h1 h2 hS => (hget a (q + len) c (wB x ++ zs) W h1 h2 hll ((byt_wB x).append hb) hS).mono fun e w' ⟨v, hv, he, hb'⟩ => by
        rw [b1, b3, hl84] at he
        rw [b2] at hv
        subst hv
        rw [hcs] at he
        exact ⟨he, hb'⟩
      generalize weakC.gV ((wB x).take k) = V at *
      generalize weakC.gN ((wB x).take k) = N at *
      have hmod : ((q : Int) % 4 != 0) = false := by rw [show (q : Int) % 4 = 0 by omega]; rfl
      have htm : Int.tmod (cn : Int) (q : Int) = (k : Int) := by rw [Int.tmod_eq_emod_of_nonneg (by omega), ← hk]; rfl
      have hqi : (q : Int) ≠ 0 := by omega
      clear b1 b2 b3 hfew hok
      generalize wB x = xs at *
      clear hcs hx hmay hput hget
      go_enter Try.func5, Try.ntmps5
      go_wp2_with fail
      generalize (w.alloc (.cells cs 46)) = W1 at *
      refine (hal W1).mono ?_
      rintro e W2 ⟨rfl, hb2⟩
      have hB2 := hB1.trans (hb2.mono hB1.size)
      have a2 : Wc W2 w.heap.size cs := Wc.next z1 hb2
      clear z1 hB1 hb2
      go_wp2_with (first
        | (go_at_call 10; refine (beyond_no (len : Int) _ _ (by omega) (by omega) (by simp)).mono ?_; rintro e w' ⟨rfl, hw'⟩; subst hw'; have a3 := a2.alloc (.cells #[.int .i64 (len : Int)] 3))
        | (refine wpList_load_row rfl _ _ rfl w.heap.size rfl 46 _ (0, 0) _ a3 Try.underlying46 rfl hinf ?_))
      have hB3 := hB2.alloc hB2.size (.cells #[.int .i64 (len : Int)] 3)
      generalize (W2.alloc (.cells #[.int .i64 (len : Int)] 3)) = W3 at *
      refine (hp' W3).mono ?_
      rintro e W4 ⟨G, c, rfl, hcl, hcm, hG, hown, hb4⟩
      have hB4 := hB3.trans (hb4.mono hB3.size)
      have a4 := a3.next hb4
      have ha3 := a3.lt
      have hGw : G ≠ w.heap.size := by omega
      have hown4 := own_base hown hB3.size
      have hs4 := hs.below hB4
      have hsk := (seg_own hown hl84).take k
      clear a2 hB2 hs hp'
      go_wp2_with fail
      refine (gk G c W4 (by omega) hcm hsk).mono ?_
      rintro e W5 ⟨v', -, rfl, hb5⟩
      have hB5 := hB4.trans (hb5.mono hB4.size)
      have hb5s := hb5.size
      obtain ⟨ds, hds⟩ : ∃ ds : Array Value, (#[.bool v'.hb, .int .u64 v'.size, .int .u32 v'.ws, .int .u32 v'.wn, .int .u32 v'.ts, .int .u32 v'.tn, .bool v'.ha, .int .u32 v'.af.kind, .int .u32 v'.af.mode, .int .u32 v'.af.links, .int .u32 v'.af.user, .int .u32 v'.af.group, .int .u64 v'.af.size, .int .u64 v'.af.used, .int .u64 v'.af.id, .int .u32 v'.af.rs, .int .u32 v'.af.rn, .int .u32 v'.af.ws, .int .u32 v'.af.wn, .int .u32 v'.af.ts, .int .u32 v'.af.tn] : Array Value) = ds := ⟨_, rfl⟩
      have hsd : ds.size = 21 := by rw [← hds]; rfl
      have hond : ds.all (·.oneCell') = true := by rw [← hds]; simp [Value.oneCell']
      have hind : (Try.prog.info? 46).map (·.size) = some ds.size := by rw [hsd]; exact w_info
      rw [hds]
      clear hds
      have zA := World.alloc_heap_new W5 (.cells #[.bool false, .int .u64 0, .int .u32 0, .int .u32 0, .int .u32 0, .int .u32 0, .bool false, .int .u32 0, .int .u32 0, .int .u32 0, .int .u32 0, .int .u32 0, .int .u64 0, .int .u64 0, .int .u64 0, .int .u32 0, .int .u32 0, .int .u32 0, .int .u32 0, .int .u32 0, .int .u32 0] 46)
      have hbA : Below W4.heap.size W4 (W5.alloc (.cells #[.bool false, .int .u64 0, .int .u32 0, .int .u32 0, .int .u32 0, .int .u32 0, .bool false, .int .u32 0, .int .u32 0, .int .u32 0, .int .u32 0, .int .u32 0, .int .u64 0, .int .u64 0, .int .u64 0, .int .u32 0, .int .u32 0, .int .u32 0, .int .u32 0, .int .u32 0, .int .u32 0] 46)) := hb5.alloc hb5.size _
      have aA := (a4.next hb5).alloc (.cells #[.bool false, .int .u64 0, .int .u32 0, .int .u32 0, .int .u32 0, .int .u32 0, .bool false, .int .u32 0, .int .u32 0, .int .u32 0, .int .u32 0, .int .u32 0, .int .u64 0, .int .u64 0, .int .u64 0, .int .u32 0, .int .u32 0, .int .u32 0, .int .u32 0, .int .u32 0, .int .u32 0] 46)
      have haw : w.heap.size < W4.heap.size := a4.lt
      clear gk hb5 hB5 hB3 a3 a4 hb4
      go_wp2_with (first
        | (refine wpList_store_whole rfl _ _ _ rfl W5.heap.size ds rfl rfl 46 _ zA hind (by rw [hsd]; rfl) hond ?_; intro W6 r6 hg6 hs6; have hb6 : Below W4.heap.size W4 W6 := hbA.grown hg6 hbA.size (fun k e => by cases e; exact hb5s); have hown6 := own_below hown4 hb6; have hs6' := hs4.below hb6; have hB6 := hB4.trans (hb6.mono hB4.size))
        | (at_builtin; refine wpList_append_each _ rfl _ _ 29 rfl w.heap.size 5 i0 (.int .u8 0) 1 1 Try.underlying29 hi hz0 hz1 hz2 rfl (by decide) (.slice (some ⟨G, 0, none⟩) q c) q _ rfl hown6 a len cap (zs.map (Value.int .u8)) rfl hnil (by simp [hz]) (fun b e => seg_news (by rw [← e]; exact hs6')) (news_one zs) (by unfold maxLen; omega) (by omega) hB6.size ?_; intro v7 W7 hown7 hgrow7))
      have hB7 : Below w.heap.size w W7 := hB6.grown hgrow7 hB6.size (fun k e => by cases e; show _ ≤ G; omega)
      have a7 : Wc W7 w.heap.size cs := (hgrow7.block w.heap.size (Nat.lt_of_lt_of_le haw hb6.size) (fun e => hGw (Option.some.inj e).symm)).trans ((hg6.block w.heap.size aA.lt (fun e => by have := Option.some.inj e; omega)).trans aA)
      rw [← List.map_append] at hown7
      obtain ⟨g7, c7, rfl, hcap7, hmx7, hg7⟩ := own_shape hown7 (by omega)
      have hs7 := seg_own hown7 hll
      clear hown6 hs6' hB6 hgrow7 hown7 r6 hg6 hs6 hb6 aA zA hbA hown hown4 hs4 hsk
      refine (gl _ c7 W7 hcap7 hmx7 hs7).mono ?_
      rintro e W8 ⟨rfl, hb8⟩
      have hB8 := hB7.trans (hb8.mono hB7.size)
      have zB := World.alloc_heap_new W8 (.cells #[.bool false, .int .u64 0, .int .u32 0, .int .u32 0, .int .u32 0, .int .u32 0, .bool false, .int .u32 0, .int .u32 0, .int .u32 0, .int .u32 0, .int .u32 0, .int .u64 0, .int .u64 0, .int .u64 0, .int .u32 0, .int .u32 0, .int .u32 0, .int .u32 0, .int .u32 0, .int .u32 0] 46)
      have aB := (a7.next hb8).alloc (.cells #[.bool false, .int .u64 0, .int .u32 0, .int .u32 0, .int .u32 0, .int .u32 0, .bool false, .int .u32 0, .int .u32 0, .int .u32 0, .int .u32 0, .int .u32 0, .int .u64 0, .int .u64 0, .int .u64 0, .int .u32 0, .int .u32 0, .int .u32 0, .int .u32 0, .int .u32 0, .int .u32 0] 46)
      have hBB := hB8.alloc hB8.size (.cells #[.bool false, .int .u64 0, .int .u32 0, .int .u32 0, .int .u32 0, .int .u32 0, .bool false, .int .u32 0, .int .u32 0, .int .u32 0, .int .u32 0, .int .u32 0, .int .u64 0, .int .u64 0, .int .u64 0, .int .u32 0, .int .u32 0, .int .u32 0, .int .u32 0, .int .u32 0, .int .u32 0] 46)
      have hw8 : w.heap.size < W8.heap.size := (a7.next hb8).lt
      clear gl hs7 hb8 hB7 a7
      go_wp2_with (first
        | (refine wpList_store_whole rfl _ _ _ rfl W8.heap.size cs rfl rfl 46 _ zB hinf (by rw [hsz]; rfl) hone ?_; intro W9 r9 hg9 hs9; have a9 : Wc W9 w.heap.size cs := (hg9.block w.heap.size aB.lt (fun e => by have := Option.some.inj e; omega)).trans aB)
        | (refine wpList_load_wanted (by rfl) _ _ rfl W8.heap.size rfl 46 _ (0, 0) _ r9 Try.underlying46 rfl hinf ?_)
        | (refine wpList_load_wanted (by rfl) _ _ rfl w.heap.size rfl 46 _ (0, 0) _ a9 Try.underlying46 rfl hinf ?_))
      have hB9 : Below w.heap.size w W9 := hBB.grown hg9 hBB.size (fun k e => by cases e; exact hB8.size)
      go_ret
      first | exact ⟨rfl, hB9⟩ | exact ⟨rfl, hB9.drew⟩ | exact ⟨rfl, below_drewN hB9 _⟩
end Go.Proofs.Ytecbhhfncklefab
