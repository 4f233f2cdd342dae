/- The document's reader: the next number, long number, yes or no; nothing but the reader turns. -/
import Derived.Test.YtecbhhfncklefaaGrownCell
import Derived.Test.YtecbhhfncklefaaAft
import Derived.Test.YtecbhhfncklefaaBookBase
import Derived.Test.YtecbhhfncklefaaCuts
import Derived.Test.YtecbhhfncklefaaRef4RefRefYesMx
import Derived.Deep.RegionLaw
import Derived.Deep.RegionHeld3
import Derived.RangeFuncRecord
namespace Go.Proofs.Ytecbhhfncklefaa
set_option linter.unusedVariables false
open Go.RowKit

/-- The reader in a block. -/
def Rr (W : World) (h : Nat) (a : Option Addr) (len cap : Nat) (s : Rd) : Prop := W.heap[h]? = some (.cells #[.slice a len cap, .int .i64 (s.n : Int), .int .i64 s.e] 60)
theorem Rr.lt {W : World} {h : Nat} {a : Option Addr} {len cap : Nat} {s : Rd} (t : Rr W h a len cap s) : h < W.heap.size := (Array.getElem?_eq_some_iff.1 t).1
theorem Rr.next {W W' : World} {h : Nat} {a : Option Addr} {len cap : Nat} {s : Rd} (t : Rr W h a len cap s) (hb : Below W.heap.size W W') : Rr W' h a len cap s := (hb.block _ t.lt).trans t
theorem Rr.c {W : World} {h : Nat} {a : Option Addr} {len cap : Nat} {s : Rd} (t : Rr W h a len cap s) : W.cell? ⟨h, 0, none⟩ = some (.slice a len cap) ∧ W.cell? ⟨h, 1, none⟩ = some (.int .i64 (s.n : Int)) ∧ W.cell? ⟨h, 2, none⟩ = some (.int .i64 s.e) ∧ W.frozen? ⟨h, 1, none⟩ = false ∧ W.frozen? ⟨h, 2, none⟩ = false := by
  have t' : W.heap[h]? = _ := t
  refine ⟨?_, ?_, ?_, ?_, ?_⟩ <;> simp [World.cell?, World.frozen?, t']

theorem rr_set {W : World} {h : Nat} {x y z : Value} {t : TypeId} (hh : W.heap[h]? = some (.cells #[x, y, z] t)) (u : Value) : (W.setCell ⟨h, 2, none⟩ u).heap[h]? = some (.cells #[x, y, u] t) := setCell_same (k := 2) hh u
theorem rr_set2 {W : World} {h : Nat} {x y z : Value} {t : TypeId} (hh : W.heap[h]? = some (.cells #[x, y, z] t)) (u v : Value) : ((W.setCell ⟨h, 2, none⟩ u).setCell ⟨h, 1, none⟩ v).heap[h]? = some (.cells #[x, v, u] t) := setCell_same (k := 1) (rr_set hh u) v

set_option maxRecDepth 100000 in
set_option maxHeartbeats 1000000 in
theorem rd_number (h : Nat) (a : Option Addr) (len cap : Nat) (zs : List Int) (s : Rd) (W : World) (hr : Rr W h a len cap s) (ho : s.On zs) (hlc : len ≤ cap) (hm : cap ≤ 9223372036854775807) (hz : zs.length = len) (hb : Byt zs) (hs : Seg W a zs) :
    Calls Try.prog 46 #[.pointer (some ⟨h, 0, none⟩)] W fun e W' => ∃ v s', e = .returned (.int .u32 v) ∧ Rr W' h a len cap s' ∧ s'.On zs ∧ Aft (numC 4) s v s' ∧ W.grownBy W' (some h) := by
  obtain ⟨c0, c1, c2, f1, f2⟩ := hr.c
  by_cases he : s.e ≠ 0
  · have hne : (s.e != 0) = true := by simpa using he
    have ha := aft_stick (c := (numC 4)) he (0 : Int)
    go_enter Try.func46, Try.ntmps46
    go_wp2
    go_ret
    exact ⟨_, s, rfl, hr, ho, ha, grown_same _ _⟩
  · have he0 : s.e = 0 := by simpa using he
    have hne : (s.e != 0) = false := by simp [he0]
    obtain ⟨a', hcut, hsf⟩ := cut_from hs hz hlc s.n (by have := ho.n; omega)
    have hd : Below W.heap.size W W.drew := ⟨rfl, rfl, rfl, Nat.le_refl _, fun _ _ => rfl⟩
    have hget := refget_any a' (len - s.n) (cap - s.n) (zs.drop s.n) W.drew (by omega) (by omega) (by rw [List.length_drop, hz]) (byt_tail hb s.n) (hsf.below hd)
    have hr' : Rr W.drew h a len cap s := hr
    obtain ⟨d0, d1, d2, g1, g2⟩ := hr'.c
    have S0 := And.intro d0 (And.intro d1 d2)
    rw [← ho.r] at hget
    obtain ⟨haft, hk⟩ := aft_num4 he0
    have hon := on_nxt ho hk
    have hn := ho.n
    have hrl : s.r.length = len - s.n := by rw [ho.r, List.length_drop, hz]
    clear he hsf hs hd
    generalize getN s.r = V at *
    generalize hE' : getE s.r = E at *
    by_cases hE : E = 0
    · have hk' := hk hE
      subst hE
      have hnx : s.nxt 0 4 = ⟨s.r.drop 4, s.n + 4, 0⟩ := rfl
      rw [hnx] at haft hon
      clear hE' hk hnx
      go_enter Try.func46, Try.ntmps46
      go_wp2_with fail
      go_region_held3 (fun w' => w'.cell? ⟨h, 0, none⟩ = some (.slice a len cap) ∧ w'.cell? ⟨h, 1, none⟩ = some (.int .i64 (s.n : Int)) ∧ w'.cell? ⟨h, 2, none⟩ = some (.int .i64 s.e)) (with_reducible exact S0) (first | (go_at_call 35; refine hget.mono ?_; rintro e w' ⟨rfl, hw'⟩; subst hw'))
      go_wp2
      go_ret
      exact ⟨V, ⟨s.r.drop 4, s.n + 4, 0⟩, rfl, rr_set2 hr _ _, hon, haft, ((grown_cell _ _ _ _).trans (grown_cell _ _ _ _)).trans (grown_drew _ _)⟩
    · have hEb : (E == 0) = false := by simpa using hE
      have hnx : s.nxt E 4 = ⟨s.r, s.n, E⟩ := by unfold Rd.nxt; rw [if_neg hE]
      rw [hnx] at haft hon
      clear hE' hk hnx hE
      go_enter Try.func46, Try.ntmps46
      go_wp2_with fail
      go_region_held3 (fun w' => w'.cell? ⟨h, 0, none⟩ = some (.slice a len cap) ∧ w'.cell? ⟨h, 1, none⟩ = some (.int .i64 (s.n : Int)) ∧ w'.cell? ⟨h, 2, none⟩ = some (.int .i64 s.e)) (with_reducible exact S0) (first | (go_at_call 35; refine hget.mono ?_; rintro e w' ⟨rfl, hw'⟩; subst hw'))
      go_wp2
      go_ret
      exact ⟨V, ⟨s.r, s.n, E⟩, rfl, rr_set hr _, hon, haft, (grown_cell _ _ _ _).trans (grown_drew _ _)⟩

set_option maxRecDepth 100000 in
set_option maxHeartbeats 1000000 in
theorem rd_long (h : Nat) (a : Option Addr) (len cap : Nat) (zs : List Int) (s : Rd) (W : World) (hr : Rr W h a len cap s) (ho : s.On zs) (hlc : len ≤ cap) (hm : cap ≤ 9223372036854775807) (hz : zs.length = len) (hb : Byt zs) (hs : Seg W a zs) :
    Calls Try.prog 48 #[.pointer (some ⟨h, 0, none⟩)] W fun e W' => ∃ v s', e = .returned (.int .u64 v) ∧ Rr W' h a len cap s' ∧ s'.On zs ∧ Aft (numC 8) s v s' ∧ W.grownBy W' (some h) := by
  obtain ⟨c0, c1, c2, f1, f2⟩ := hr.c
  by_cases he : s.e ≠ 0
  · have hne : (s.e != 0) = true := by simpa using he
    have ha := aft_stick (c := (numC 8)) he (0 : Int)
    go_enter Try.func48, Try.ntmps48
    go_wp2
    go_ret
    exact ⟨_, s, rfl, hr, ho, ha, grown_same _ _⟩
  · have he0 : s.e = 0 := by simpa using he
    have hne : (s.e != 0) = false := by simp [he0]
    obtain ⟨a', hcut, hsf⟩ := cut_from hs hz hlc s.n (by have := ho.n; omega)
    have hd : Below W.heap.size W W.drew := ⟨rfl, rfl, rfl, Nat.le_refl _, fun _ _ => rfl⟩
    have hget := refgetlong_any a' (len - s.n) (cap - s.n) (zs.drop s.n) W.drew (by omega) (by omega) (by rw [List.length_drop, hz]) (byt_tail hb s.n) (hsf.below hd)
    have hr' : Rr W.drew h a len cap s := hr
    obtain ⟨d0, d1, d2, g1, g2⟩ := hr'.c
    have S0 := And.intro d0 (And.intro d1 d2)
    rw [← ho.r] at hget
    obtain ⟨haft, hk⟩ := aft_num8 he0
    have hon := on_nxt ho hk
    have hn := ho.n
    have hrl : s.r.length = len - s.n := by rw [ho.r, List.length_drop, hz]
    clear he hsf hs hd
    generalize getM s.r = V at *
    generalize hE' : getF s.r = E at *
    by_cases hE : E = 0
    · have hk' := hk hE
      subst hE
      have hnx : s.nxt 0 8 = ⟨s.r.drop 8, s.n + 8, 0⟩ := rfl
      rw [hnx] at haft hon
      clear hE' hk hnx
      go_enter Try.func48, Try.ntmps48
      go_wp2_with fail
      go_region_held3 (fun w' => w'.cell? ⟨h, 0, none⟩ = some (.slice a len cap) ∧ w'.cell? ⟨h, 1, none⟩ = some (.int .i64 (s.n : Int)) ∧ w'.cell? ⟨h, 2, none⟩ = some (.int .i64 s.e)) (with_reducible exact S0) (first | (go_at_call 36; refine hget.mono ?_; rintro e w' ⟨rfl, hw'⟩; subst hw'))
      go_wp2
      go_ret
      exact ⟨V, ⟨s.r.drop 8, s.n + 8, 0⟩, rfl, rr_set2 hr _ _, hon, haft, ((grown_cell _ _ _ _).trans (grown_cell _ _ _ _)).trans (grown_drew _ _)⟩
    · have hEb : (E == 0) = false := by simpa using hE
      have hnx : s.nxt E 8 = ⟨s.r, s.n, E⟩ := by unfold Rd.nxt; rw [if_neg hE]
      rw [hnx] at haft hon
      clear hE' hk hnx hE
      go_enter Try.func48, Try.ntmps48
      go_wp2_with fail
      go_region_held3 (fun w' => w'.cell? ⟨h, 0, none⟩ = some (.slice a len cap) ∧ w'.cell? ⟨h, 1, none⟩ = some (.int .i64 (s.n : Int)) ∧ w'.cell? ⟨h, 2, none⟩ = some (.int .i64 s.e)) (with_reducible exact S0) (first | (go_at_call 36; refine hget.mono ?_; rintro e w' ⟨rfl, hw'⟩; subst hw'))
      go_wp2
      go_ret
      exact ⟨V, ⟨s.r, s.n, E⟩, rfl, rr_set hr _, hon, haft, (grown_cell _ _ _ _).trans (grown_drew _ _)⟩

set_option maxRecDepth 100000 in
set_option maxHeartbeats 1000000 in
theorem rd_yes (h : Nat) (a : Option Addr) (len cap : Nat) (zs : List Int) (s : Rd) (W : World) (hr : Rr W h a len cap s) (ho : s.On zs) (hlc : len ≤ cap) (hm : cap ≤ 9223372036854775807) (hz : zs.length = len) (hb : Byt zs) (hs : Seg W a zs) :
    Calls Try.prog 45 #[.pointer (some ⟨h, 0, none⟩)] W fun e W' => ∃ v s', e = .returned (.bool v) ∧ Rr W' h a len cap s' ∧ s'.On zs ∧ Aft yesC s v s' ∧ W.grownBy W' (some h) := by
  obtain ⟨c0, c1, c2, f1, f2⟩ := hr.c
  by_cases he : s.e ≠ 0
  · have hne : (s.e != 0) = true := by simpa using he
    have ha := aft_stick (c := yesC) he false
    go_enter Try.func45, Try.ntmps45
    go_wp2
    go_ret
    exact ⟨_, s, rfl, hr, ho, ha, grown_same _ _⟩
  · have he0 : s.e = 0 := by simpa using he
    have hne : (s.e != 0) = false := by simp [he0]
    obtain ⟨a', hcut, hsf⟩ := cut_from hs hz hlc s.n (by have := ho.n; omega)
    have hd : Below W.heap.size W W.drew := ⟨rfl, rfl, rfl, Nat.le_refl _, fun _ _ => rfl⟩
    have hget := refgetyes_any a' (len - s.n) (cap - s.n) (zs.drop s.n) W.drew (by omega) (by omega) (by rw [List.length_drop, hz]) (byt_tail hb s.n) (hsf.below hd)
    have hr' : Rr W.drew h a len cap s := hr
    obtain ⟨d0, d1, d2, g1, g2⟩ := hr'.c
    have S0 := And.intro d0 (And.intro d1 d2)
    rw [← ho.r] at hget
    obtain ⟨haft, hk⟩ := aft_yes he0
    have hon := on_nxt ho hk
    have hn := ho.n
    have hrl : s.r.length = len - s.n := by rw [ho.r, List.length_drop, hz]
    clear he hsf hs hd
    generalize getY s.r = V at *
    generalize hE' : getG s.r = E at *
    by_cases hE : E = 0
    · have hk' := hk hE
      subst hE
      have hnx : s.nxt 0 4 = ⟨s.r.drop 4, s.n + 4, 0⟩ := rfl
      rw [hnx] at haft hon
      clear hE' hk hnx
      go_enter Try.func45, Try.ntmps45
      go_wp2_with fail
      go_region_held3 (fun w' => w'.cell? ⟨h, 0, none⟩ = some (.slice a len cap) ∧ w'.cell? ⟨h, 1, none⟩ = some (.int .i64 (s.n : Int)) ∧ w'.cell? ⟨h, 2, none⟩ = some (.int .i64 s.e)) (with_reducible exact S0) (first | (go_at_call 62; refine hget.mono ?_; rintro e w' ⟨rfl, hw'⟩; subst hw'))
      go_wp2
      go_ret
      exact ⟨V, ⟨s.r.drop 4, s.n + 4, 0⟩, rfl, rr_set2 hr _ _, hon, haft, ((grown_cell _ _ _ _).trans (grown_cell _ _ _ _)).trans (grown_drew _ _)⟩
    · have hEb : (E == 0) = false := by simpa using hE
      have hnx : s.nxt E 4 = ⟨s.r, s.n, E⟩ := by unfold Rd.nxt; rw [if_neg hE]
      rw [hnx] at haft hon
      clear hE' hk hnx hE
      go_enter Try.func45, Try.ntmps45
      go_wp2_with fail
      go_region_held3 (fun w' => w'.cell? ⟨h, 0, none⟩ = some (.slice a len cap) ∧ w'.cell? ⟨h, 1, none⟩ = some (.int .i64 (s.n : Int)) ∧ w'.cell? ⟨h, 2, none⟩ = some (.int .i64 s.e)) (with_reducible exact S0) (first | (go_at_call 62; refine hget.mono ?_; rintro e w' ⟨rfl, hw'⟩; subst hw'))
      go_wp2
      go_ret
      exact ⟨V, ⟨s.r, s.n, E⟩, rfl, rr_set hr _, hon, haft, (grown_cell _ _ _ _).trans (grown_drew _ _)⟩

set_option maxRecDepth 100000 in
set_option maxHeartbeats 400000 in
theorem rd_must (h : Nat) (a : Option Addr) (len cap : Nat) (s : Rd) (b : Bool) (W : World) (hr : Rr W h a len cap s) :
    Calls Try.prog 47 #[.pointer (some ⟨h, 0, none⟩), .bool b] W fun e W' => e = .returned (.tuple #[]) ∧ Rr W' h a len cap (must b s) ∧ W.grownBy W' (some h) := by
  obtain ⟨c0, c1, c2, f1, f2⟩ := hr.c
  by_cases he : s.e = 0
  · have hne : (s.e == 0) = true := by simpa using he
    cases b with
    | true =>
      have hms : must true s = s := by simp [must]
      rw [hms]
      clear hms
      go_enter Try.func47, Try.ntmps47
      go_wp2
      go_end0
      exact ⟨rfl, hr, grown_same _ _⟩
    | false =>
      have hms : must false s = ⟨s.r, s.n, 5⟩ := by simp [must, he]
      rw [hms]
      clear hms
      go_enter Try.func47, Try.ntmps47
      go_wp2
      go_end0
      exact ⟨rfl, rr_set hr _, grown_cell _ _ _ _⟩
  · have hne : (s.e == 0) = false := by simpa using he
    have hms : must b s = s := by simp [must, he]
    rw [hms]
    clear hms
    go_enter Try.func47, Try.ntmps47
    go_wp2
    go_end0
    exact ⟨rfl, hr, grown_same _ _⟩
end Go.Proofs.Ytecbhhfncklefaa
