/- The reader of the program: its box, and what of the bytes is left; nothing is claimed of the program here. -/
import Derived.Test.YtecbhhfncklefacAft
import Derived.Test.YtecbhhfncklefacCuts
import Derived.Test.YtecbhhfncklefacKokMathPNeedGrownCellRead4Mx
import Derived.Test.YtecbhhfncklefacReadTimeGetMx
import Derived.Deep.RegionLaw
import Derived.Deep.RegionHeld3
namespace Go.Proofs.Ytecbhhfncklefac
set_option linter.unusedVariables false
open Go.RowKit

/-- The reader in a block, and the bytes that it goes through. -/
structure Rb (W : World) (h : Nat) (a : Option Addr) (len cap : Nat) (zs : List Int) (s : Rd) : Prop where
  box : W.heap[h]? = some (.cells #[.slice a len cap, .int .i64 (s.n : Int)] 82)
  on : s.On zs
  lc : len ≤ cap
  max : cap ≤ 9223372036854775807
  len : zs.length = len
  byt : Byt zs
  seg : Seg W a zs

theorem Rb.lt {W : World} {h : Nat} {a : Option Addr} {len cap : Nat} {zs : List Int} {s : Rd} (t : Rb W h a len cap zs s) : h < W.heap.size := (Array.getElem?_eq_some_iff.1 t.box).1
theorem Rb.next {W W' : World} {h : Nat} {a : Option Addr} {len cap : Nat} {zs : List Int} {s : Rd} (t : Rb W h a len cap zs s) (hb : Below W.heap.size W W') : Rb W' h a len cap zs s :=
  ⟨(hb.block _ t.lt).trans t.box, t.on, t.lc, t.max, t.len, t.byt, t.seg.below hb⟩
theorem Rb.c {W : World} {h : Nat} {a : Option Addr} {len cap : Nat} {zs : List Int} {s : Rd} (t : Rb W h a len cap zs s) : W.cell? ⟨h, 0, none⟩ = some (.slice a len cap) ∧ W.cell? ⟨h, 1, none⟩ = some (.int .i64 (s.n : Int)) := by
  have t' := t.box
  refine ⟨?_, ?_⟩ <;> simp [World.cell?, t']
theorem Rb.f {W : World} {h : Nat} {a : Option Addr} {len cap : Nat} {zs : List Int} {s : Rd} (t : Rb W h a len cap zs s) : W.frozen? ⟨h, 1, none⟩ = false := by
  have t' := t.box
  simp [World.frozen?, t']
/-- The bytes lie in another block than the reader. -/
theorem seg_far {W W' : World} {h : Nat} {a : Option Addr} {zs : List Int} {x y : Value} {t : TypeId} (hs : Seg W a zs) (hb : W.heap[h]? = some (.cells #[x, y] t)) (hx : ∀ n, x ≠ .int .u8 n) (hy : ∀ n, y ≠ .int .u8 n) (hg : W.grownBy W' (some h)) : Seg W' a zs := by
  rcases hs with hs | ⟨b, off, e, hc⟩
  · exact .inl hs
  · refine .inr ⟨b, off, e, fun i hi => ?_⟩
    have h1 := hc i hi
    have hne : b ≠ h := by
      rintro rfl
      simp only [World.cell?, hb] at h1
      rcases Nat.lt_or_ge (off + i) 2 with h2 | h2
      · rcases (show off + i = 0 ∨ off + i = 1 by omega) with h3 | h3
        · rw [h3] at h1; exact hx _ (by simpa using h1)
        · rw [h3] at h1; exact hy _ (by simpa using h1)
      · rw [Array.getElem?_eq_none (by simpa using h2)] at h1
        simp at h1
    have hl := World.block_lt_of_cell? _ _ h1
    have hk := hg.block b hl (fun e => hne (Option.some.inj e))
    simp only [World.cell?] at h1 ⊢
    rw [hk]
    exact h1
theorem Rb.seg_kept {W W' : World} {h : Nat} {a : Option Addr} {len cap : Nat} {zs : List Int} {s : Rd} (t : Rb W h a len cap zs s) (hg : W.grownBy W' (some h)) : Seg W' a zs :=
  seg_far t.seg t.box (fun n e => by cases e) (fun n e => by cases e) hg
/-- Another block turns. -/
theorem Rb.other {W W' : World} {h g : Nat} {a : Option Addr} {len cap : Nat} {zs : List Int} {s : Rd} (t : Rb W h a len cap zs s) (hg : W.grownBy W' (some g)) (hne : g ≠ h) (hs : Seg W' a zs) : Rb W' h a len cap zs s :=
  ⟨(hg.block h t.lt (fun e => hne (Option.some.inj e).symm)).trans t.box, t.on, t.lc, t.max, t.len, t.byt, hs⟩
/-- It goes on. -/
theorem Rb.step {W : World} {h : Nat} {a : Option Addr} {len cap : Nat} {zs : List Int} {s : Rd} (t : Rb W h a len cap zs s) (s' : Rd) (ho : s'.On zs) : Rb (W.setCell ⟨h, 1, none⟩ (.int .i64 (s'.n : Int))) h a len cap zs s' :=
  ⟨setCell_same (k := 1) t.box _, ho, t.lc, t.max, t.len, t.byt, t.seg_kept (grown_cell _ _ _ _)⟩

/-- What a reading function answers: a value, and the reader has gone on; or it leaves off. -/
def Got {α : Type} (c : Codec α) (val : α → Value) (W : World) (h : Nat) (a : Option Addr) (len cap : Nat) (zs : List Int) (s : Rd) (e : Ending) (W' : World) : Prop :=
  W.grownBy W' (some h) ∧ ∃ v s', Aft c s v s' ∧ ((s'.e = 0 ∧ e = .returned (val v) ∧ Rb W' h a len cap zs s') ∨ (s'.e ≠ 0 ∧ e = .panicked (bad s'.e)))
def Reads {α : Type} (F : FuncId) (c : Codec α) (val : α → Value) : Prop :=
  ∀ (W : World) (h : Nat) (a : Option Addr) (len cap : Nat) (zs : List Int) (s : Rd), Rb W h a len cap zs s → s.e = 0 → Calls Try.prog F #[.pointer (some ⟨h, 0, none⟩)] W (Got c val W h a len cap zs s)
end Go.Proofs.Ytecbhhfncklefac

/- 'next' of the program, of a number, a long one, yes or no; nothing but the reader turns. -/
namespace Go.Proofs.Ytecbhhfncklefac
set_option linter.unusedVariables false
open Go.RowKit

set_option maxRecDepth 100000 in
set_option maxHeartbeats 1000000 in
theorem nextu_any (W : World) (h : Nat) (a : Option Addr) (len cap : Nat) (zs : List Int) (s : Rd) (R : Rb W h a len cap zs s) (he : s.e = 0) :
    Calls Try.prog 56 #[.pointer (some ⟨h, 0, none⟩), .int .i64 4, .func (.func 57) #[] #[]] W (Got (numC 4) (fun v => .int .u32 v) W h a len cap zs s) := by
  have hn := R.on.n
  have hzl := R.len
  have hlc := R.lc
  have hmx := R.max
  obtain ⟨a', hcut, hsf⟩ := cut_from R.seg R.len R.lc s.n (by omega)
  have hd := below_draw W
  have hget := get_any a' (len - s.n) (cap - s.n) (zs.drop s.n) W.drew (by omega) (by omega) (by rw [List.length_drop, hzl]) (byt_tail R.byt s.n) (hsf.below hd)
  have R1 := R.next hd
  have hrl : s.r.length = len - s.n := by rw [R.on.r, List.length_drop, hzl]
  rw [← R.on.r] at hget
  obtain ⟨haft, hk⟩ := aft_num4 he
  have hon := on_nxt R.on hk
  obtain ⟨d0, d1⟩ := R1.c
  have f1 := R1.f
  have S0 := And.intro d0 d1
  have g0 := grown_drew W (some h)
  clear hd hsf he
  generalize getN s.r = V at *
  generalize hE' : getE s.r = E at *
  by_cases hE : E = 0
  · have hk' := hk hE
    subst hE
    have hnx : s.nxt 0 4 = ⟨s.r.drop 4, s.n + 4, 0⟩ := rfl
    rw [hnx] at haft hon
    clear hE' hk hnx
    go_enter Try.func56, Try.ntmps56
    go_wp2_with fail
    go_region_held3 (fun w' => w'.cell? ⟨h, 0, none⟩ = some (.slice a len cap) ∧ w'.cell? ⟨h, 1, none⟩ = some (.int .i64 (s.n : Int))) (with_reducible exact S0) (first | (go_at_call 57; refine hget.mono ?_; rintro e w' ⟨rfl, hw'⟩; subst hw'))
    go_wp2_with (go_at_call 30; refine (need_yes _ _).mono ?_; rintro e w1 ⟨rfl, hw1⟩; subst w1)
    go_ret
    exact ⟨g0.trans (grown_cell _ _ _ _), V, _, haft, .inl ⟨rfl, rfl, R1.step _ hon⟩⟩
  · have hEb : (E == 0) = false := by simpa using hE
    have hnx : s.nxt E 4 = ⟨s.r, s.n, E⟩ := by unfold Rd.nxt; rw [if_neg hE]
    rw [hnx] at haft hon
    clear hE' hk hnx
    go_enter Try.func56, Try.ntmps56
    go_wp2_with fail
    go_region_held3 (fun w' => w'.cell? ⟨h, 0, none⟩ = some (.slice a len cap) ∧ w'.cell? ⟨h, 1, none⟩ = some (.int .i64 (s.n : Int))) (with_reducible exact S0) (first | (go_at_call 57; refine hget.mono ?_; rintro e w' ⟨rfl, hw'⟩; subst hw'))
    go_wp2_with (go_at_call 30; refine (need_no _ _).mono ?_; rintro e w1 ⟨rfl, hw1⟩; subst w1)
    exact ⟨rfl, g0, V, _, haft, .inr ⟨hE, rfl⟩⟩

set_option maxRecDepth 100000 in
set_option maxHeartbeats 400000 in
theorem rdnumber_any : Reads 48 (numC 4) (fun v => .int .u32 v) := by
  intro W h a len cap zs s R he
  have hn := nextu_any W h a len cap zs s R he
  go_enter Try.func48, Try.ntmps48
  go_wp2_with fail
  refine hn.mono ?_
  rintro e W' ⟨hg, v, s', haft, ⟨h0, rfl, hR⟩ | ⟨h0, rfl⟩⟩
  · clear hn
    go_wp2
    go_ret
    exact ⟨hg, v, s', haft, .inl ⟨h0, rfl, hR⟩⟩
  · clear hn
    go_wp2
    exact ⟨rfl, hg, v, s', haft, .inr ⟨h0, rfl⟩⟩

set_option maxRecDepth 100000 in
set_option maxHeartbeats 1000000 in
theorem nextl_any (W : World) (h : Nat) (a : Option Addr) (len cap : Nat) (zs : List Int) (s : Rd) (R : Rb W h a len cap zs s) (he : s.e = 0) :
    Calls Try.prog 58 #[.pointer (some ⟨h, 0, none⟩), .int .i64 8, .func (.func 59) #[] #[]] W (Got (numC 8) (fun v => .int .u64 v) W h a len cap zs s) := by
  have hn := R.on.n
  have hzl := R.len
  have hlc := R.lc
  have hmx := R.max
  obtain ⟨a', hcut, hsf⟩ := cut_from R.seg R.len R.lc s.n (by omega)
  have hd := below_draw W
  have hget := getlong_any a' (len - s.n) (cap - s.n) (zs.drop s.n) W.drew (by omega) (by omega) (by rw [List.length_drop, hzl]) (byt_tail R.byt s.n) (hsf.below hd)
  have R1 := R.next hd
  have hrl : s.r.length = len - s.n := by rw [R.on.r, List.length_drop, hzl]
  rw [← R.on.r] at hget
  obtain ⟨haft, hk⟩ := aft_num8 he
  have hon := on_nxt R.on hk
  obtain ⟨d0, d1⟩ := R1.c
  have f1 := R1.f
  have S0 := And.intro d0 d1
  have g0 := grown_drew W (some h)
  clear hd hsf he
  generalize getM s.r = V at *
  generalize hE' : getF s.r = E at *
  by_cases hE : E = 0
  · have hk' := hk hE
    subst hE
    have hnx : s.nxt 0 8 = ⟨s.r.drop 8, s.n + 8, 0⟩ := rfl
    rw [hnx] at haft hon
    clear hE' hk hnx
    go_enter Try.func58, Try.ntmps58
    go_wp2_with fail
    go_region_held3 (fun w' => w'.cell? ⟨h, 0, none⟩ = some (.slice a len cap) ∧ w'.cell? ⟨h, 1, none⟩ = some (.int .i64 (s.n : Int))) (with_reducible exact S0) (first | (go_at_call 59; refine hget.mono ?_; rintro e w' ⟨rfl, hw'⟩; subst hw'))
    go_wp2_with (go_at_call 30; refine (need_yes _ _).mono ?_; rintro e w1 ⟨rfl, hw1⟩; subst w1)
    go_ret
    exact ⟨g0.trans (grown_cell _ _ _ _), V, _, haft, .inl ⟨rfl, rfl, R1.step _ hon⟩⟩
  · have hEb : (E == 0) = false := by simpa using hE
    have hnx : s.nxt E 8 = ⟨s.r, s.n, E⟩ := by unfold Rd.nxt; rw [if_neg hE]
    rw [hnx] at haft hon
    clear hE' hk hnx
    go_enter Try.func58, Try.ntmps58
    go_wp2_with fail
    go_region_held3 (fun w' => w'.cell? ⟨h, 0, none⟩ = some (.slice a len cap) ∧ w'.cell? ⟨h, 1, none⟩ = some (.int .i64 (s.n : Int))) (with_reducible exact S0) (first | (go_at_call 59; refine hget.mono ?_; rintro e w' ⟨rfl, hw'⟩; subst hw'))
    go_wp2_with (go_at_call 30; refine (need_no _ _).mono ?_; rintro e w1 ⟨rfl, hw1⟩; subst w1)
    exact ⟨rfl, g0, V, _, haft, .inr ⟨hE, rfl⟩⟩

set_option maxRecDepth 100000 in
set_option maxHeartbeats 400000 in
theorem rdlong_any : Reads 50 (numC 8) (fun v => .int .u64 v) := by
  intro W h a len cap zs s R he
  have hn := nextl_any W h a len cap zs s R he
  go_enter Try.func50, Try.ntmps50
  go_wp2_with fail
  refine hn.mono ?_
  rintro e W' ⟨hg, v, s', haft, ⟨h0, rfl, hR⟩ | ⟨h0, rfl⟩⟩
  · clear hn
    go_wp2
    go_ret
    exact ⟨hg, v, s', haft, .inl ⟨h0, rfl, hR⟩⟩
  · clear hn
    go_wp2
    exact ⟨rfl, hg, v, s', haft, .inr ⟨h0, rfl⟩⟩

end Go.Proofs.Ytecbhhfncklefac
