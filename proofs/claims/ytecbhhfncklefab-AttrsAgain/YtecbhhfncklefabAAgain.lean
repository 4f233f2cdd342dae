/- The walk of 'AttrsAgain', from what the program's Get and Put of the three kinds answer (hypotheses): true for any bytes; nothing that was there turns. -/
import Derived.Test.YtecbhhfncklefabAForms
import Derived.Test.YtecbhhfncklefabACell
import Derived.Test.YtecbhhfncklefabSCell
import Derived.Test.YtecbhhfncklefabWCell
import Derived.Test.YtecbhhfncklefabAgParts
import Derived.Test.YtecbhhfncklefabPieces
import Derived.Test.YtecbhhfncklefabBeyond
import Derived.Test.YtecbhhfncklefabSame
import Derived.Deep.Cut
namespace Go.Proofs.Ytecbhhfncklefab
set_option linter.unusedVariables false
open Go.RowKit

theorem below_drewN' (w : World) (n : Nat) : Below w.heap.size w (w.drewN n) := ⟨rfl, rfl, rfl, Nat.le_refl _, fun _ _ => rfl⟩
theorem set_in {x : Stt} (h : setC.ok x) : x.In := (set_facts h).1
theorem set_may {x : Stt} (h : setC.ok x) : smay x = true := (set_facts h).2
theorem weak_in {x : Wk} (h : weakC.ok x) : x.In := (weak_facts h).1
theorem weak_may {x : Wk} (h : weakC.ok x) : wmay x = true := (weak_facts h).2
theorem zeroS_in : zeroS.In := by constructor <;> decide
theorem zeroW_in : zeroW.In := ⟨by decide, by decide, by decide, by decide, by decide, zeroA_in⟩
theorem cut_to (a : Option Addr) (len cap N : Nat) (h : N ≤ len) (hl : len ≤ cap) (w : World) : (Instr.sliceAt 29 (.slice a len cap) none (some (.int .i64 (N : Int))) none).run Try.prog w = .ok (.slice a N cap) w := by
  have h1 : ((N : Int) ≤ (cap : Int)) := by omega
  cases a <;> go_simp

structure ATold (a : Option Addr) (len cap : Nat) (zs : List Int) (E H : Int) (N : Nat) (cs : Array Value) : Prop where
  get : ∀ W, Seg W a zs → Calls Try.prog 12 #[.slice a len cap] W fun e w' => e = .returned (.tuple #[.agg cs, .int .i64 (N : Int), .int .i64 E]) ∧ Below W.heap.size W w'
  put : ∀ W, Calls Try.prog 11 #[.agg cs] W fun e w' => ∃ ax q cx, e = .returned (.tuple #[.slice ax q cx, .int .i64 H]) ∧ (E = 0 → q = N ∧ Seg w' ax (zs.take N)) ∧ Below W.heap.size W w'
  size : cs.size = 14
  one : cs.all (·.oneCell') = true
  le : N ≤ len
  none : E ≠ 0 → N = 0 ∧ cs = #[.int .u32 0, .int .u32 0, .int .u32 0, .int .u32 0, .int .u32 0, .int .u64 0, .int .u64 0, .int .u64 0, .int .u32 0, .int .u32 0, .int .u32 0, .int .u32 0, .int .u32 0, .int .u32 0]
  yes : E = 0 → H = 0
theorem Atold (hput : APut 11) (hget : AGet 12) (a : Option Addr) (len cap : Nat) (zs : List Int) (hlc : len ≤ cap) (hm : cap ≤ 9223372036854775807) (hz : zs.length = len) (hb : Byt zs) : ∃ E H N cs, ATold a len cap zs E H N cs := by
  have hin : (attrC.gV zs).In ∧ (attrC.gE zs = 0 → amay (attrC.gV zs) = true ∧ aB (attrC.gV zs) = zs.take (attrC.gN zs)) ∧ attrC.gN zs ≤ zs.length ∧ (attrC.gE zs ≠ 0 → attrC.gV zs = zeroA ∧ attrC.gN zs = 0) := by
    by_cases h0 : attrC.gE zs = 0
    · obtain ⟨k1, k2, k3, k4⟩ := attrC.good hb h0
      exact ⟨attr_in k1, fun _ => ⟨attr_may k1, k2⟩, k3, fun h => absurd h0 h⟩
    · obtain ⟨k1, k2⟩ := attrC.bad h0
      exact ⟨by rw [k1]; exact zeroA_in, fun h => absurd h h0, by omega, fun _ => ⟨k1, k2⟩⟩
  obtain ⟨h1, h2, h3, h4⟩ := hin
  obtain ⟨V, hV⟩ : ∃ V, attrC.gV zs = V := ⟨_, rfl⟩
  rw [hV] at h1 h2 h4
  refine ⟨attrC.gE zs, paE (amay V), attrC.gN zs, #[.int .u32 V.kind, .int .u32 V.mode, .int .u32 V.links, .int .u32 V.user, .int .u32 V.group, .int .u64 V.size, .int .u64 V.used, .int .u64 V.id, .int .u32 V.rs, .int .u32 V.rn, .int .u32 V.ws, .int .u32 V.wn, .int .u32 V.ts, .int .u32 V.tn], ?_, ?_, rfl, by simp [Value.oneCell'], by omega, ?_, ?_⟩
  · intro W hS
    refine (hget a len cap zs W hlc hm hz hb hS).mono ?_
    rintro e w' ⟨v, hv, he, hb'⟩
    rw [hV] at hv
    subst hv
    exact ⟨he, hb'⟩
  · intro W
    refine (hput V W h1).mono ?_
    rintro e w' ⟨v, rfl, ho, hb'⟩
    by_cases h0 : attrC.gE zs = 0
    · obtain ⟨k1, k2⟩ := h2 h0
      have hz' : paZ (amay V) (aB V) = zs.take (attrC.gN zs) := by rw [k1, k2]; rfl
      rw [hz'] at ho
      obtain ⟨q, hq⟩ : ∃ q, (zs.take (attrC.gN zs)).length = q := ⟨_, rfl⟩
      rw [hq] at ho
      obtain ⟨ax, cx, rfl, hs, _, _, _⟩ := own_val ho hq
      have hqn : q = attrC.gN zs := by rw [← hq, List.length_take]; omega
      exact ⟨ax, q, cx, rfl, fun _ => ⟨hqn, hs⟩, hb'⟩
    · obtain ⟨ax, cx, rfl, hs, _, _, _⟩ := own_val ho rfl
      exact ⟨ax, _, cx, rfl, fun h => absurd h h0, hb'⟩
  · intro h
    obtain ⟨k1, k2⟩ := h4 h
    exact ⟨k2, by rw [k1]; rfl⟩
  · intro h
    rw [(h2 h).1]; rfl

structure STold (a : Option Addr) (len cap : Nat) (zs : List Int) (E H : Int) (N : Nat) (cs : Array Value) : Prop where
  get : ∀ W, Seg W a zs → Calls Try.prog 14 #[.slice a len cap] W fun e w' => e = .returned (.tuple #[.agg cs, .int .i64 (N : Int), .int .i64 E]) ∧ Below W.heap.size W w'
  put : ∀ W, Calls Try.prog 13 #[.agg cs] W fun e w' => ∃ ax q cx, e = .returned (.tuple #[.slice ax q cx, .int .i64 H]) ∧ (E = 0 → q = N ∧ Seg w' ax (zs.take N)) ∧ Below W.heap.size W w'
  size : cs.size = 14
  one : cs.all (·.oneCell') = true
  le : N ≤ len
  none : E ≠ 0 → N = 0 ∧ cs = #[.bool false, .int .u32 0, .bool false, .int .u32 0, .bool false, .int .u32 0, .bool false, .int .u64 0, .int .u32 0, .int .u32 0, .int .u32 0, .int .u32 0, .int .u32 0, .int .u32 0]
  yes : E = 0 → H = 0
theorem Stold (hput : SPut 13) (hget : SGet 14) (a : Option Addr) (len cap : Nat) (zs : List Int) (hlc : len ≤ cap) (hm : cap ≤ 9223372036854775807) (hz : zs.length = len) (hb : Byt zs) : ∃ E H N cs, STold a len cap zs E H N cs := by
  have hin : (setC.gV zs).In ∧ (setC.gE zs = 0 → smay (setC.gV zs) = true ∧ sB (setC.gV zs) = zs.take (setC.gN zs)) ∧ setC.gN zs ≤ zs.length ∧ (setC.gE zs ≠ 0 → setC.gV zs = zeroS ∧ setC.gN zs = 0) := by
    by_cases h0 : setC.gE zs = 0
    · obtain ⟨k1, k2, k3, k4⟩ := setC.good hb h0
      exact ⟨set_in k1, fun _ => ⟨set_may k1, k2⟩, k3, fun h => absurd h0 h⟩
    · obtain ⟨k1, k2⟩ := setC.bad h0
      exact ⟨by rw [k1]; exact zeroS_in, fun h => absurd h h0, by omega, fun _ => ⟨k1, k2⟩⟩
  obtain ⟨h1, h2, h3, h4⟩ := hin
  obtain ⟨V, hV⟩ : ∃ V, setC.gV zs = V := ⟨_, rfl⟩
  rw [hV] at h1 h2 h4
  refine ⟨setC.gE zs, paE (smay V), setC.gN zs, #[.bool V.hm, .int .u32 V.mode, .bool V.hu, .int .u32 V.user, .bool V.hg, .int .u32 V.group, .bool V.hs, .int .u64 V.size, .int .u32 V.rh, .int .u32 V.rs, .int .u32 V.rn, .int .u32 V.wh, .int .u32 V.ws, .int .u32 V.wn], ?_, ?_, rfl, by simp [Value.oneCell'], by omega, ?_, ?_⟩
  · intro W hS
    refine (hget a len cap zs W hlc hm hz hb hS).mono ?_
    rintro e w' ⟨v, hv, he, hb'⟩
    rw [hV] at hv
    subst hv
    exact ⟨he, hb'⟩
  · intro W
    refine (hput V W h1).mono ?_
    rintro e w' ⟨v, rfl, ho, hb'⟩
    by_cases h0 : setC.gE zs = 0
    · obtain ⟨k1, k2⟩ := h2 h0
      have hz' : paZ (smay V) (sB V) = zs.take (setC.gN zs) := by rw [k1, k2]; rfl
      rw [hz'] at ho
      obtain ⟨q, hq⟩ : ∃ q, (zs.take (setC.gN zs)).length = q := ⟨_, rfl⟩
      rw [hq] at ho
      obtain ⟨ax, cx, rfl, hs, _, _, _⟩ := own_val ho hq
      have hqn : q = setC.gN zs := by rw [← hq, List.length_take]; omega
      exact ⟨ax, q, cx, rfl, fun _ => ⟨hqn, hs⟩, hb'⟩
    · obtain ⟨ax, cx, rfl, hs, _, _, _⟩ := own_val ho rfl
      exact ⟨ax, _, cx, rfl, fun h => absurd h h0, hb'⟩
  · intro h
    obtain ⟨k1, k2⟩ := h4 h
    exact ⟨k2, by rw [k1]; rfl⟩
  · intro h
    rw [(h2 h).1]; rfl

structure WTold (a : Option Addr) (len cap : Nat) (zs : List Int) (E H : Int) (N : Nat) (cs : Array Value) : Prop where
  get : ∀ W, Seg W a zs → Calls Try.prog 16 #[.slice a len cap] W fun e w' => e = .returned (.tuple #[.agg cs, .int .i64 (N : Int), .int .i64 E]) ∧ Below W.heap.size W w'
  put : ∀ W, Calls Try.prog 15 #[.agg cs] W fun e w' => ∃ ax q cx, e = .returned (.tuple #[.slice ax q cx, .int .i64 H]) ∧ (E = 0 → q = N ∧ Seg w' ax (zs.take N)) ∧ Below W.heap.size W w'
  size : cs.size = 21
  one : cs.all (·.oneCell') = true
  le : N ≤ len
  none : E ≠ 0 → N = 0 ∧ cs = #[.bool false, .int .u64 0, .int .u32 0, .int .u32 0, .int .u32 0, .int .u32 0, .bool false, .int .u32 0, .int .u32 0, .int .u32 0, .int .u32 0, .int .u32 0, .int .u64 0, .int .u64 0, .int .u64 0, .int .u32 0, .int .u32 0, .int .u32 0, .int .u32 0, .int .u32 0, .int .u32 0]
  yes : E = 0 → H = 0
theorem Wtold (hput : WPut 15) (hget : WGet 16) (a : Option Addr) (len cap : Nat) (zs : List Int) (hlc : len ≤ cap) (hm : cap ≤ 9223372036854775807) (hz : zs.length = len) (hb : Byt zs) : ∃ E H N cs, WTold a len cap zs E H N cs := by
  have hin : (weakC.gV zs).In ∧ (weakC.gE zs = 0 → wmay (weakC.gV zs) = true ∧ wB (weakC.gV zs) = zs.take (weakC.gN zs)) ∧ weakC.gN zs ≤ zs.length ∧ (weakC.gE zs ≠ 0 → weakC.gV zs = zeroW ∧ weakC.gN zs = 0) := by
    by_cases h0 : weakC.gE zs = 0
    · obtain ⟨k1, k2, k3, k4⟩ := weakC.good hb h0
      exact ⟨weak_in k1, fun _ => ⟨weak_may k1, k2⟩, k3, fun h => absurd h0 h⟩
    · obtain ⟨k1, k2⟩ := weakC.bad h0
      exact ⟨by rw [k1]; exact zeroW_in, fun h => absurd h h0, by omega, fun _ => ⟨k1, k2⟩⟩
  obtain ⟨h1, h2, h3, h4⟩ := hin
  obtain ⟨V, hV⟩ : ∃ V, weakC.gV zs = V := ⟨_, rfl⟩
  rw [hV] at h1 h2 h4
  refine ⟨weakC.gE zs, paE (wmay V), weakC.gN zs, #[.bool V.hb, .int .u64 V.size, .int .u32 V.ws, .int .u32 V.wn, .int .u32 V.ts, .int .u32 V.tn, .bool V.ha, .int .u32 V.af.kind, .int .u32 V.af.mode, .int .u32 V.af.links, .int .u32 V.af.user, .int .u32 V.af.group, .int .u64 V.af.size, .int .u64 V.af.used, .int .u64 V.af.id, .int .u32 V.af.rs, .int .u32 V.af.rn, .int .u32 V.af.ws, .int .u32 V.af.wn, .int .u32 V.af.ts, .int .u32 V.af.tn], ?_, ?_, rfl, by simp [Value.oneCell'], by omega, ?_, ?_⟩
  · intro W hS
    refine (hget a len cap zs W hlc hm hz hb hS).mono ?_
    rintro e w' ⟨v, hv, he, hb'⟩
    rw [hV] at hv
    subst hv
    exact ⟨he, hb'⟩
  · intro W
    refine (hput V W h1).mono ?_
    rintro e w' ⟨v, rfl, ho, hb'⟩
    by_cases h0 : weakC.gE zs = 0
    · obtain ⟨k1, k2⟩ := h2 h0
      have hz' : paZ (wmay V) (wB V) = zs.take (weakC.gN zs) := by rw [k1, k2]; rfl
      rw [hz'] at ho
      obtain ⟨q, hq⟩ : ∃ q, (zs.take (weakC.gN zs)).length = q := ⟨_, rfl⟩
      rw [hq] at ho
      obtain ⟨ax, cx, rfl, hs, _, _, _⟩ := own_val ho hq
      have hqn : q = weakC.gN zs := by rw [← hq, List.length_take]; omega
      exact ⟨ax, q, cx, rfl, fun _ => ⟨hqn, hs⟩, hb'⟩
    · obtain ⟨ax, cx, rfl, hs, _, _, _⟩ := own_val ho rfl
      exact ⟨ax, _, cx, rfl, fun h => absurd h h0, hb'⟩
  · intro h
    obtain ⟨k1, k2⟩ := h4 h
    exact ⟨k2, by rw [k1]; rfl⟩
  · intro h
    rw [(h2 h).1]; rfl

/-- What the last row reads. -/
structure AgS (w0 : World) (a : Option Addr) (zs : List Int) (p1 p2 p3 : Nat) (cs1 cs2 cs3 : Array Value) (E1 E2 E3 : Int) (N1 N2 N3 : Nat) (x1 x2 x3 : Option Addr) (w : World) : Prop where
  b : Below w0.heap.size w0 w
  s : Seg w a zs
  r1 : w.heap[p1]? = some (.cells cs1 28)
  r2 : w.heap[p2]? = some (.cells cs2 40)
  r3 : w.heap[p3]? = some (.cells cs3 46)
  s1 : E1 = 0 → Seg w x1 (zs.take N1)
  s2 : E2 = 0 → Seg w x2 (zs.take N2)
  s3 : E3 = 0 → Seg w x3 (zs.take N3)
theorem AgS.next {w0 : World} {a : Option Addr} {zs : List Int} {p1 p2 p3 : Nat} {cs1 cs2 cs3 : Array Value} {E1 E2 E3 : Int} {N1 N2 N3 : Nat} {x1 x2 x3 : Option Addr} {w w' : World} (h : AgS w0 a zs p1 p2 p3 cs1 cs2 cs3 E1 E2 E3 N1 N2 N3 x1 x2 x3 w) (hb : Below w.heap.size w w') : AgS w0 a zs p1 p2 p3 cs1 cs2 cs3 E1 E2 E3 N1 N2 N3 x1 x2 x3 w' :=
  ⟨h.b.trans (hb.mono h.b.size), h.s.below hb, (hb.block _ (Array.getElem?_eq_some_iff.1 h.r1).1).trans h.r1, (hb.block _ (Array.getElem?_eq_some_iff.1 h.r2).1).trans h.r2, (hb.block _ (Array.getElem?_eq_some_iff.1 h.r3).1).trans h.r3, fun e => (h.s1 e).below hb, fun e => (h.s2 e).below hb, fun e => (h.s3 e).below hb⟩

set_option maxRecDepth 100000 in
set_option maxHeartbeats 4000000 in
theorem aagain_walk (hal : ∀ W, Calls Try.prog 9 #[] W fun e W' => e = .returned (.bool true) ∧ Below W.heap.size W W')
    (hA : APut 11) (gA : AGet 12) (hS : SPut 13) (gS : SGet 14) (hW : WPut 15) (gW : WGet 16)
    (a : Option Addr) (len cap : Nat) (zs : List Int) (w : World) (hlc : len ≤ cap) (hm : cap ≤ 9223372036854775807) (hz : zs.length = len) (hb : Byt zs) (hs : Seg w a zs) :
    Calls Try.prog 6 #[.slice a len cap] w fun e w' => e = .returned (.bool true) ∧ Below w.heap.size w w' := by
  by_cases hl : 1048576 < len
  · go_enter Try.func6, Try.ntmps6
    go_wp2_with fail
    refine (hal w).mono ?_
    rintro e W2 ⟨rfl, hB2⟩
    go_wp2_with (go_at_call 10; refine (beyond_yes (len : Int) _ _ (by omega) (by omega) (by simp)).mono ?_; rintro e w' ⟨rfl, hw'⟩; subst hw')
    have hB3 := hB2.alloc hB2.size (.cells #[.int .i64 (len : Int)] 3)
    generalize (W2.alloc (.cells #[.int .i64 (len : Int)] 3)) = W3 at *
    refine (hal W3).mono ?_
    rintro e W4 ⟨rfl, hb4⟩
    have hB4 := hB3.trans (hb4.mono hB3.size)
    clear hB2 hB3 hb4
    go_wp2
    go_ret
    exact ⟨rfl, hB4⟩
  obtain ⟨E1, H1, N1, cs1, T1⟩ := Atold hA gA a len cap zs hlc hm hz hb
  obtain ⟨E2, H2, N2, cs2, T2⟩ := Stold hS gS a len cap zs hlc hm hz hb
  obtain ⟨E3, H3, N3, cs3, T3⟩ := Wtold hW gW a len cap zs hlc hm hz hb
  have g1 := T1.get
  have p1 := T1.put
  have one1 := T1.one
  have sz1 := T1.size
  have inf1 : (Try.prog.info? 28).map (·.size) = some cs1.size := by rw [sz1]; exact a_info
  have le1 := T1.le
  have no1 := T1.none
  have ye1 := T1.yes
  have eq1 := fun W => a_self zeroA W
  clear T1
  have g2 := T2.get
  have p2 := T2.put
  have one2 := T2.one
  have sz2 := T2.size
  have inf2 : (Try.prog.info? 40).map (·.size) = some cs2.size := by rw [sz2]; exact s_info
  have le2 := T2.le
  have no2 := T2.none
  have ye2 := T2.yes
  have eq2 := fun W => s_self zeroS W
  clear T2
  have g3 := T3.get
  have p3 := T3.put
  have one3 := T3.one
  have sz3 := T3.size
  have inf3 : (Try.prog.info? 46).map (·.size) = some cs3.size := by rw [sz3]; exact w_info
  have le3 := T3.le
  have no3 := T3.none
  have ye3 := T3.yes
  have eq3 := fun W => w_self zeroW W
  clear T3
  clear hA gA hS gS hW gW
  have ct1 := cut_to a len cap N1 le1 hlc
  have ct2 := cut_to a len cap N2 le2 hlc
  have ct3 := cut_to a len cap N3 le3 hlc
  have d1 : decide ((N1 : Int) < 0) = false := by simp
  have d2 : decide ((N2 : Int) < 0) = false := by simp
  have d3 : decide ((N3 : Int) < 0) = false := by simp
  have d4 : decide ((len : Int) < (N1 : Int)) = false := by simp; omega
  have d5 : decide ((len : Int) < (N2 : Int)) = false := by simp; omega
  have d6 : decide ((len : Int) < (N3 : Int)) = false := by simp; omega
  go_enter Try.func6, Try.ntmps6
  go_wp2_with fail
  refine (hal w).mono ?_
  rintro e W2 ⟨rfl, hB2⟩
  go_wp2_with (go_at_call 10; refine (beyond_no (len : Int) _ _ (by omega) (by omega) (by simp)).mono ?_; rintro e w' ⟨rfl, hw'⟩; subst hw')
  have hB3 := hB2.alloc hB2.size (.cells #[.int .i64 (len : Int)] 3)
  generalize (W2.alloc (.cells #[.int .i64 (len : Int)] 3)) = W3 at *
  have s3 := hs.below hB3
  clear hB2 hs hal
  refine (g1 W3 s3).mono ?_
  rintro e W4 ⟨rfl, hb4⟩
  have z4 := World.alloc_heap_new W4 (.cells #[.int .u32 0, .int .u32 0, .int .u32 0, .int .u32 0, .int .u32 0, .int .u64 0, .int .u64 0, .int .u64 0, .int .u32 0, .int .u32 0, .int .u32 0, .int .u32 0, .int .u32 0, .int .u32 0] 28)
  go_wp2_with (refine wpList_store_whole rfl _ _ _ rfl W4.heap.size cs1 rfl rfl 28 _ z4 inf1 (by rw [sz1]; rfl) one1 ?_; intro W5 r1 hg5 hs5; have hb5 : Below W3.heap.size W3 W5 := (hb4.alloc hb4.size _).grown hg5 (by have := hb4.size; simp; omega) (fun k e => by cases e; exact hb4.size))
  have hB5 := hB3.trans (hb5.mono hB3.size)
  have s5 := s3.below hb5
  clear hB3 s3 hb4 z4 hg5 hs5 hb5 g1
  refine (g2 W5 s5).mono ?_
  rintro e W6 ⟨rfl, hb6⟩
  have z6 := World.alloc_heap_new W6 (.cells #[.bool false, .int .u32 0, .bool false, .int .u32 0, .bool false, .int .u32 0, .bool false, .int .u64 0, .int .u32 0, .int .u32 0, .int .u32 0, .int .u32 0, .int .u32 0, .int .u32 0] 40)
  go_wp2_with (refine wpList_store_whole rfl _ _ _ rfl W6.heap.size cs2 rfl rfl 40 _ z6 inf2 (by rw [sz2]; rfl) one2 ?_; intro W7 r2 hg7 hs7; have hb7 : Below W5.heap.size W5 W7 := (hb6.alloc hb6.size _).grown hg7 (by have := hb6.size; simp; omega) (fun k e => by cases e; exact hb6.size); replace r1 := (hb7.block _ (Array.getElem?_eq_some_iff.1 r1).1).trans r1)
  have hB7 := hB5.trans (hb7.mono hB5.size)
  have s7 := s5.below hb7
  clear hB5 s5 hb6 z6 hg7 hs7 hb7 g2
  refine (g3 W7 s7).mono ?_
  rintro e W8 ⟨rfl, hb8⟩
  have z8 := World.alloc_heap_new W8 (.cells #[.bool false, .int .u64 0, .int .u32 0, .int .u32 0, .int .u32 0, .int .u32 0, .bool false, .int .u32 0, .int .u32 0, .int .u32 0, .int .u32 0, .int .u32 0, .int .u64 0, .int .u64 0, .int .u64 0, .int .u32 0, .int .u32 0, .int .u32 0, .int .u32 0, .int .u32 0, .int .u32 0] 46)
  go_wp2_with (first | (refine wpList_store_whole rfl _ _ _ rfl W8.heap.size cs3 rfl rfl 46 _ z8 inf3 (by rw [sz3]; rfl) one3 ?_; intro W9 r3 hg9 hs9; have hb9 : Below W7.heap.size W7 W9 := (hb8.alloc hb8.size _).grown hg9 (by have := hb8.size; simp; omega) (fun k e => by cases e; exact hb8.size); replace r1 := (hb9.block _ (Array.getElem?_eq_some_iff.1 r1).1).trans r1; replace r2 := (hb9.block _ (Array.getElem?_eq_some_iff.1 r2).1).trans r2) | (refine wpList_load_row rfl _ _ rfl W4.heap.size rfl 28 _ (0, 0) _ r1 Try.underlying28 rfl inf1 ?_))
  have hB9 := hB7.trans (hb9.mono hB7.size)
  have s9 := s7.below hb9
  clear hB7 s7 hb8 z8 hg9 hs9 hb9 g3
  refine (p1 W9).mono ?_
  rintro e W10 ⟨x1, q1, c1, rfl, hx1, hb10⟩
  have hB10 := hB9.trans (hb10.mono hB9.size)
  have s10 := s9.below hb10
  replace r1 := (hb10.block _ (Array.getElem?_eq_some_iff.1 r1).1).trans r1
  replace r2 := (hb10.block _ (Array.getElem?_eq_some_iff.1 r2).1).trans r2
  replace r3 := (hb10.block _ (Array.getElem?_eq_some_iff.1 r3).1).trans r3
  have y110 := fun e => (hx1 e).2
  clear hB9 s9 hb10 p1
  go_wp2_with (refine wpList_load_row rfl _ _ rfl W6.heap.size rfl 40 _ (0, 0) _ r2 Try.underlying40 rfl inf2 ?_)
  refine (p2 W10).mono ?_
  rintro e W11 ⟨x2, q2, c2, rfl, hx2, hb11⟩
  have hB11 := hB10.trans (hb11.mono hB10.size)
  have s11 := s10.below hb11
  replace r1 := (hb11.block _ (Array.getElem?_eq_some_iff.1 r1).1).trans r1
  replace r2 := (hb11.block _ (Array.getElem?_eq_some_iff.1 r2).1).trans r2
  replace r3 := (hb11.block _ (Array.getElem?_eq_some_iff.1 r3).1).trans r3
  have y111 := fun e => (y110 e).below hb11
  have y211 := fun e => (hx2 e).2
  clear hB10 s10 hb11 p2 y110
  go_wp2_with (refine wpList_load_row rfl _ _ rfl W8.heap.size rfl 46 _ (0, 0) _ r3 Try.underlying46 rfl inf3 ?_)
  refine (p3 W11).mono ?_
  rintro e W12 ⟨x3, q3, c3, rfl, hx3, hb12⟩
  have hB12 := hB11.trans (hb12.mono hB11.size)
  have s12 := s11.below hb12
  replace r1 := (hb12.block _ (Array.getElem?_eq_some_iff.1 r1).1).trans r1
  replace r2 := (hb12.block _ (Array.getElem?_eq_some_iff.1 r2).1).trans r2
  replace r3 := (hb12.block _ (Array.getElem?_eq_some_iff.1 r3).1).trans r3
  have y112 := fun e => (y111 e).below hb12
  have y212 := fun e => (y211 e).below hb12
  have y312 := fun e => (hx3 e).2
  clear hB11 s11 hb12 p3 y111 y211
  have S0 : AgS w a zs W4.heap.size W6.heap.size W8.heap.size cs1 cs2 cs3 E1 E2 E3 N1 N2 N3 x1 x2 x3 W12 := ⟨hB12, s12, r1, r2, r3, y112, y212, y312⟩
  generalize W4.heap.size = b1 at *
  generalize W6.heap.size = b2 at *
  generalize W8.heap.size = b3 at *
  clear hB12 s12 r1 r2 r3 y112 y212 y312
  have hc1 : (E1 = 0 ∧ H1 = 0 ∧ (∀ w, (Instr.sliceAt 29 (.slice a len cap) none (some (.int .i64 (N1 : Int))) none).run Try.prog w = .ok (.slice a N1 cap) w) ∧ (∀ w', AgS w a zs b1 b2 b3 cs1 cs2 cs3 E1 E2 E3 N1 N2 N3 x1 x2 x3 w' → Calls Try.prog 17 #[.slice x1 q1 c1, .slice a N1 cap] w' fun e w'' => e = .returned (.bool true) ∧ AgS w a zs b1 b2 b3 cs1 cs2 cs3 E1 E2 E3 N1 N2 N3 x1 x2 x3 w'')) ∨ (E1 ≠ 0 ∧ (N1 : Int) = 0 ∧ cs1 = #[.int .u32 0, .int .u32 0, .int .u32 0, .int .u32 0, .int .u32 0, .int .u64 0, .int .u64 0, .int .u64 0, .int .u32 0, .int .u32 0, .int .u32 0, .int .u32 0, .int .u32 0, .int .u32 0]) := by
    by_cases h : E1 = 0
    · left
      refine ⟨h, ye1 h, ct1, fun w' hw => ?_⟩
      rw [(hx1 h).1]
      refine (same_true x1 a N1 c1 cap (zs.take N1) w' (by omega) (by rw [List.length_take, hz]; omega) (hw.s1 h) (hw.s.take N1)).mono ?_
      rintro e w'' ⟨he, n, rfl⟩
      exact ⟨he, hw.next (below_drewN' _ n)⟩
    · right
      obtain ⟨h1, h2⟩ := no1 h
      exact ⟨h, by rw [h1]; rfl, h2⟩
  have hc2 : (E2 = 0 ∧ H2 = 0 ∧ (∀ w, (Instr.sliceAt 29 (.slice a len cap) none (some (.int .i64 (N2 : Int))) none).run Try.prog w = .ok (.slice a N2 cap) w) ∧ (∀ w', AgS w a zs b1 b2 b3 cs1 cs2 cs3 E1 E2 E3 N1 N2 N3 x1 x2 x3 w' → Calls Try.prog 17 #[.slice x2 q2 c2, .slice a N2 cap] w' fun e w'' => e = .returned (.bool true) ∧ AgS w a zs b1 b2 b3 cs1 cs2 cs3 E1 E2 E3 N1 N2 N3 x1 x2 x3 w'')) ∨ (E2 ≠ 0 ∧ (N2 : Int) = 0 ∧ cs2 = #[.bool false, .int .u32 0, .bool false, .int .u32 0, .bool false, .int .u32 0, .bool false, .int .u64 0, .int .u32 0, .int .u32 0, .int .u32 0, .int .u32 0, .int .u32 0, .int .u32 0]) := by
    by_cases h : E2 = 0
    · left
      refine ⟨h, ye2 h, ct2, fun w' hw => ?_⟩
      rw [(hx2 h).1]
      refine (same_true x2 a N2 c2 cap (zs.take N2) w' (by omega) (by rw [List.length_take, hz]; omega) (hw.s2 h) (hw.s.take N2)).mono ?_
      rintro e w'' ⟨he, n, rfl⟩
      exact ⟨he, hw.next (below_drewN' _ n)⟩
    · right
      obtain ⟨h1, h2⟩ := no2 h
      exact ⟨h, by rw [h1]; rfl, h2⟩
  have hc3 : (E3 = 0 ∧ H3 = 0 ∧ (∀ w, (Instr.sliceAt 29 (.slice a len cap) none (some (.int .i64 (N3 : Int))) none).run Try.prog w = .ok (.slice a N3 cap) w) ∧ (∀ w', AgS w a zs b1 b2 b3 cs1 cs2 cs3 E1 E2 E3 N1 N2 N3 x1 x2 x3 w' → Calls Try.prog 17 #[.slice x3 q3 c3, .slice a N3 cap] w' fun e w'' => e = .returned (.bool true) ∧ AgS w a zs b1 b2 b3 cs1 cs2 cs3 E1 E2 E3 N1 N2 N3 x1 x2 x3 w'')) ∨ (E3 ≠ 0 ∧ (N3 : Int) = 0 ∧ cs3 = #[.bool false, .int .u64 0, .int .u32 0, .int .u32 0, .int .u32 0, .int .u32 0, .bool false, .int .u32 0, .int .u32 0, .int .u32 0, .int .u32 0, .int .u32 0, .int .u64 0, .int .u64 0, .int .u64 0, .int .u32 0, .int .u32 0, .int .u32 0, .int .u32 0, .int .u32 0, .int .u32 0]) := by
    by_cases h : E3 = 0
    · left
      refine ⟨h, ye3 h, ct3, fun w' hw => ?_⟩
      rw [(hx3 h).1]
      refine (same_true x3 a N3 c3 cap (zs.take N3) w' (by omega) (by rw [List.length_take, hz]; omega) (hw.s3 h) (hw.s.take N3)).mono ?_
      rintro e w'' ⟨he, n, rfl⟩
      exact ⟨he, hw.next (below_drewN' _ n)⟩
    · right
      obtain ⟨h1, h2⟩ := no3 h
      exact ⟨h, by rw [h1]; rfl, h2⟩
  clear hx1 ct1 no1 ye1 hx2 ct2 no2 ye2 hx3 ct3 no3 ye3
  go_upto_region 11 with fail
  change (Code.region _ agOps false).wp _ _ _ _
  refine seq_start ?_
  refine agp1 _ _ _ _ _ _ _ _ _ _ _ _ _ _ _ _ _ _ _ _ _ _ _ _ _ _ _ _ _ _ _ _ _ _ _ _ _ _ _ _ _ _ _ _ _ _ _ _ _ _ _ _ _ _ _ _ _ _ _ _ _ _ _ _ _ _ _ _ _ _ _ _ _ _ _ _ _ _ _ _ _ _ E1 N1 H1 b1 cs1 a len cap (.slice x1 q1 c1) (.slice a N1 cap) _ S0 (fun w' hw => hw.r1) inf1 hc1 eq1 ?_
  intro _ _ _ _ _ _ _ _ _ _ _ _ _ _ _ _ _ _ _ _ _ _ _ _ _ V1 SV1
  refine agp2 _ _ _ _ _ _ _ _ _ _ _ _ _ _ _ _ _ _ _ _ _ _ _ _ _ _ _ _ _ _ _ _ _ _ _ _ _ _ _ _ _ _ _ _ _ _ _ _ _ _ _ _ _ _ _ _ _ _ _ _ _ _ _ _ _ _ _ _ _ _ _ _ _ _ _ _ _ _ _ _ _ _ _ _ _ _ _ _ _ _ _ _ _ _ _ _ _ _ _ _ _ _ _ _ _ _ _ E2 N2 H2 b2 cs2 a len cap (.slice x2 q2 c2) (.slice a N2 cap) _ SV1 (fun w' hw => hw.r2) inf2 hc2 eq2 ?_
  intro _ _ _ _ _ _ _ _ _ _ _ _ _ _ _ _ _ _ _ _ _ _ _ _ _ _ _ V2 SV2
  refine agp3 _ _ _ _ _ _ _ _ _ _ _ _ _ _ _ _ _ _ _ _ _ _ _ _ _ _ _ _ _ _ _ _ _ _ _ _ _ _ _ _ _ _ _ _ _ _ _ _ _ _ _ _ _ _ _ _ _ _ _ _ _ _ _ _ _ _ _ _ _ _ _ _ _ _ _ _ _ _ _ _ _ _ _ _ _ _ _ _ _ _ _ _ _ _ _ _ _ _ _ _ _ _ _ _ _ _ _ _ _ _ _ _ _ _ _ _ _ _ _ _ _ _ _ _ _ _ _ _ _ _ _ _ _ _ _ E3 N3 H3 b3 cs3 a len cap (.slice x3 q3 c3) (.slice a N3 cap) _ SV2 (fun w' hw => hw.r3) inf3 hc3 eq3 ?_
  intro _ _ _ _ _ _ _ _ _ _ _ _ _ _ _ _ _ _ _ _ _ _ _ _ _ _ _ V3 SV3
  refine seq_take (k := 82) (o := agOp 82) (v := .bool true) ag_hi82 (want_none ag_g82) (run_assign ag_op82 rfl) ?_
  simp only [Act.put, ag_dst82, List.setIfInBounds_toArray, List.set_cons_zero, List.set_cons_succ]
  refine seq_done (k := 83) (by rw [ag_size]; decide) ?_
  have hfin := SV3.b
  go_wp2
  go_ret
  exact ⟨rfl, hfin⟩
end Go.Proofs.Ytecbhhfncklefab
