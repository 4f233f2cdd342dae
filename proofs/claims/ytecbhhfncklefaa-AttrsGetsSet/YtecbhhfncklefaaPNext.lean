/- 'next' of the program, of a number, a long one, yes or no; nothing but the reader turns. -/
import Derived.Test.YtecbhhfncklefaaPRd
namespace Go.Proofs.Ytecbhhfncklefaa
set_option linter.unusedVariables false
open Go.RowKit

set_option maxRecDepth 100000 in
set_option maxHeartbeats 1000000 in
theorem nextu_any (W : World) (h : Nat) (a : Option Addr) (len cap : Nat) (zs : List Int) (s : Rd) (R : Rb W h a len cap zs s) (he : s.e = 0) :
    Calls Try.prog 55 #[.pointer (some ⟨h, 0, none⟩), .int .i64 4, .func (.func 56) #[] #[]] W (Got (numC 4) (fun v => .int .u32 v) W h a len cap zs s) := by
  have hn := R.on.n
  have hzl := R.len
  have hlc := R.lc
  have hmx := R.max
  obtain ⟨a', hcut, hsf⟩ := cut_from R.seg R.len R.lc s.n (by omega)
  have hd := below_draw W
  have hget := get_any a' (len - s.n) (cap - s.n) (zs.drop s.n) W.drew (by omega) (by omega) (by rw [List.length_drop, hzl]) (byt_tail R.byt s.n) (hsf.below hd)
  have R1 := R.next hd
  have hrl : s.r.length = len - s.n := by rw [R.on.r, List.length_drop, hzl]
  rw [← R.on.r] at hget
  obtain ⟨haft, hk⟩ := aft_num4 he
  have hon := on_nxt R.on hk
  obtain ⟨d0, d1⟩ := R1.c
  have f1 := R1.f
  have S0 := And.intro d0 d1
  have g0 := grown_drew W (some h)
  clear hd hsf he
  generalize getN s.r = V at *
  generalize hE' : getE s.r = E at *
  by_cases hE : E = 0
  · have hk' := hk hE
    subst hE
    have hnx : s.nxt 0 4 = ⟨s.r.drop 4, s.n + 4, 0⟩ := rfl
    rw [hnx] at haft hon
    clear hE' hk hnx
    go_enter Try.func55, Try.ntmps55
    go_wp2_with fail
    go_region_held3 (fun w' => w'.cell? ⟨h, 0, none⟩ = some (.slice a len cap) ∧ w'.cell? ⟨h, 1, none⟩ = some (.int .i64 (s.n : Int))) (with_reducible exact S0) (first | (go_at_call 56; refine hget.mono ?_; rintro e w' ⟨rfl, hw'⟩; subst hw'))
    go_wp2_with (go_at_call 29; refine (need_yes _ _).mono ?_; rintro e w1 ⟨rfl, hw1⟩; subst w1)
    go_ret
    exact ⟨g0.trans (grown_cell _ _ _ _), V, _, haft, .inl ⟨rfl, rfl, R1.step _ hon⟩⟩
  · have hEb : (E == 0) = false := by simpa using hE
    have hnx : s.nxt E 4 = ⟨s.r, s.n, E⟩ := by unfold Rd.nxt; rw [if_neg hE]
    rw [hnx] at haft hon
    clear hE' hk hnx
    go_enter Try.func55, Try.ntmps55
    go_wp2_with fail
    go_region_held3 (fun w' => w'.cell? ⟨h, 0, none⟩ = some (.slice a len cap) ∧ w'.cell? ⟨h, 1, none⟩ = some (.int .i64 (s.n : Int))) (with_reducible exact S0) (first | (go_at_call 56; refine hget.mono ?_; rintro e w' ⟨rfl, hw'⟩; subst hw'))
    go_wp2_with (go_at_call 29; refine (need_no _ _).mono ?_; rintro e w1 ⟨rfl, hw1⟩; subst w1)
    exact ⟨rfl, g0, V, _, haft, .inr ⟨hE, rfl⟩⟩

set_option maxRecDepth 100000 in
set_option maxHeartbeats 400000 in
theorem rdnumber_any : Reads 30 (numC 4) (fun v => .int .u32 v) := by
  intro W h a len cap zs s R he
  have hn := nextu_any W h a len cap zs s R he
  go_enter Try.func30, Try.ntmps30
  go_wp2_with fail
  refine hn.mono ?_
  rintro e W' ⟨hg, v, s', haft, ⟨h0, rfl, hR⟩ | ⟨h0, rfl⟩⟩
  · clear hn
    go_wp2
    go_ret
    exact ⟨hg, v, s', haft, .inl ⟨h0, rfl, hR⟩⟩
  · clear hn
    go_wp2
    exact ⟨rfl, hg, v, s', haft, .inr ⟨h0, rfl⟩⟩

set_option maxRecDepth 100000 in
set_option maxHeartbeats 1000000 in
theorem nextl_any (W : World) (h : Nat) (a : Option Addr) (len cap : Nat) (zs : List Int) (s : Rd) (R : Rb W h a len cap zs s) (he : s.e = 0) :
    Calls Try.prog 57 #[.pointer (some ⟨h, 0, none⟩), .int .i64 8, .func (.func 58) #[] #[]] W (Got (numC 8) (fun v => .int .u64 v) W h a len cap zs s) := by
  have hn := R.on.n
  have hzl := R.len
  have hlc := R.lc
  have hmx := R.max
  obtain ⟨a', hcut, hsf⟩ := cut_from R.seg R.len R.lc s.n (by omega)
  have hd := below_draw W
  have hget := getlong_any a' (len - s.n) (cap - s.n) (zs.drop s.n) W.drew (by omega) (by omega) (by rw [List.length_drop, hzl]) (byt_tail R.byt s.n) (hsf.below hd)
  have R1 := R.next hd
  have hrl : s.r.length = len - s.n := by rw [R.on.r, List.length_drop, hzl]
  rw [← R.on.r] at hget
  obtain ⟨haft, hk⟩ := aft_num8 he
  have hon := on_nxt R.on hk
  obtain ⟨d0, d1⟩ := R1.c
  have f1 := R1.f
  have S0 := And.intro d0 d1
  have g0 := grown_drew W (some h)
  clear hd hsf he
  generalize getM s.r = V at *
  generalize hE' : getF s.r = E at *
  by_cases hE : E = 0
  · have hk' := hk hE
    subst hE
    have hnx : s.nxt 0 8 = ⟨s.r.drop 8, s.n + 8, 0⟩ := rfl
    rw [hnx] at haft hon
    clear hE' hk hnx
    go_enter Try.func57, Try.ntmps57
    go_wp2_with fail
    go_region_held3 (fun w' => w'.cell? ⟨h, 0, none⟩ = some (.slice a len cap) ∧ w'.cell? ⟨h, 1, none⟩ = some (.int .i64 (s.n : Int))) (with_reducible exact S0) (first | (go_at_call 58; refine hget.mono ?_; rintro e w' ⟨rfl, hw'⟩; subst hw'))
    go_wp2_with (go_at_call 29; refine (need_yes _ _).mono ?_; rintro e w1 ⟨rfl, hw1⟩; subst w1)
    go_ret
    exact ⟨g0.trans (grown_cell _ _ _ _), V, _, haft, .inl ⟨rfl, rfl, R1.step _ hon⟩⟩
  · have hEb : (E == 0) = false := by simpa using hE
    have hnx : s.nxt E 8 = ⟨s.r, s.n, E⟩ := by unfold Rd.nxt; rw [if_neg hE]
    rw [hnx] at haft hon
    clear hE' hk hnx
    go_enter Try.func57, Try.ntmps57
    go_wp2_with fail
    go_region_held3 (fun w' => w'.cell? ⟨h, 0, none⟩ = some (.slice a len cap) ∧ w'.cell? ⟨h, 1, none⟩ = some (.int .i64 (s.n : Int))) (with_reducible exact S0) (first | (go_at_call 58; refine hget.mono ?_; rintro e w' ⟨rfl, hw'⟩; subst hw'))
    go_wp2_with (go_at_call 29; refine (need_no _ _).mono ?_; rintro e w1 ⟨rfl, hw1⟩; subst w1)
    exact ⟨rfl, g0, V, _, haft, .inr ⟨hE, rfl⟩⟩

set_option maxRecDepth 100000 in
set_option maxHeartbeats 400000 in
theorem rdlong_any : Reads 33 (numC 8) (fun v => .int .u64 v) := by
  intro W h a len cap zs s R he
  have hn := nextl_any W h a len cap zs s R he
  go_enter Try.func33, Try.ntmps33
  go_wp2_with fail
  refine hn.mono ?_
  rintro e W' ⟨hg, v, s', haft, ⟨h0, rfl, hR⟩ | ⟨h0, rfl⟩⟩
  · clear hn
    go_wp2
    go_ret
    exact ⟨hg, v, s', haft, .inl ⟨h0, rfl, hR⟩⟩
  · clear hn
    go_wp2
    exact ⟨rfl, hg, v, s', haft, .inr ⟨h0, rfl⟩⟩

set_option maxRecDepth 100000 in
set_option maxHeartbeats 1000000 in
theorem nexty_any (W : World) (h : Nat) (a : Option Addr) (len cap : Nat) (zs : List Int) (s : Rd) (R : Rb W h a len cap zs s) (he : s.e = 0) :
    Calls Try.prog 67 #[.pointer (some ⟨h, 0, none⟩), .int .i64 4, .func (.func 68) #[] #[]] W (Got yesC (fun v => .bool v) W h a len cap zs s) := by
  have hn := R.on.n
  have hzl := R.len
  have hlc := R.lc
  have hmx := R.max
  obtain ⟨a', hcut, hsf⟩ := cut_from R.seg R.len R.lc s.n (by omega)
  have hd := below_draw W
  have hget := getyes_any a' (len - s.n) (cap - s.n) (zs.drop s.n) W.drew (by omega) (by omega) (by rw [List.length_drop, hzl]) (byt_tail R.byt s.n) (hsf.below hd)
  have R1 := R.next hd
  have hrl : s.r.length = len - s.n := by rw [R.on.r, List.length_drop, hzl]
  rw [← R.on.r] at hget
  obtain ⟨haft, hk⟩ := aft_yes he
  have hon := on_nxt R.on hk
  obtain ⟨d0, d1⟩ := R1.c
  have f1 := R1.f
  have S0 := And.intro d0 d1
  have g0 := grown_drew W (some h)
  clear hd hsf he
  generalize getY s.r = V at *
  generalize hE' : getG s.r = E at *
  by_cases hE : E = 0
  · have hk' := hk hE
    subst hE
    have hnx : s.nxt 0 4 = ⟨s.r.drop 4, s.n + 4, 0⟩ := rfl
    rw [hnx] at haft hon
    clear hE' hk hnx
    go_enter Try.func67, Try.ntmps67
    go_wp2_with fail
    go_region_held3 (fun w' => w'.cell? ⟨h, 0, none⟩ = some (.slice a len cap) ∧ w'.cell? ⟨h, 1, none⟩ = some (.int .i64 (s.n : Int))) (with_reducible exact S0) (first | (go_at_call 68; refine hget.mono ?_; rintro e w' ⟨rfl, hw'⟩; subst hw'))
    go_wp2_with (go_at_call 29; refine (need_yes _ _).mono ?_; rintro e w1 ⟨rfl, hw1⟩; subst w1)
    go_ret
    exact ⟨g0.trans (grown_cell _ _ _ _), V, _, haft, .inl ⟨rfl, rfl, R1.step _ hon⟩⟩
  · have hEb : (E == 0) = false := by simpa using hE
    have hnx : s.nxt E 4 = ⟨s.r, s.n, E⟩ := by unfold Rd.nxt; rw [if_neg hE]
    rw [hnx] at haft hon
    clear hE' hk hnx
    go_enter Try.func67, Try.ntmps67
    go_wp2_with fail
    go_region_held3 (fun w' => w'.cell? ⟨h, 0, none⟩ = some (.slice a len cap) ∧ w'.cell? ⟨h, 1, none⟩ = some (.int .i64 (s.n : Int))) (with_reducible exact S0) (first | (go_at_call 68; refine hget.mono ?_; rintro e w' ⟨rfl, hw'⟩; subst hw'))
    go_wp2_with (go_at_call 29; refine (need_no _ _).mono ?_; rintro e w1 ⟨rfl, hw1⟩; subst w1)
    exact ⟨rfl, g0, V, _, haft, .inr ⟨hE, rfl⟩⟩

set_option maxRecDepth 100000 in
set_option maxHeartbeats 400000 in
theorem rdyes_any : Reads 61 yesC (fun v => .bool v) := by
  intro W h a len cap zs s R he
  have hn := nexty_any W h a len cap zs s R he
  go_enter Try.func61, Try.ntmps61
  go_wp2_with fail
  refine hn.mono ?_
  rintro e W' ⟨hg, v, s', haft, ⟨h0, rfl, hR⟩ | ⟨h0, rfl⟩⟩
  · clear hn
    go_wp2
    go_ret
    exact ⟨hg, v, s', haft, .inl ⟨h0, rfl, hR⟩⟩
  · clear hn
    go_wp2
    exact ⟨rfl, hg, v, s', haft, .inr ⟨h0, rfl⟩⟩
end Go.Proofs.Ytecbhhfncklefaa
