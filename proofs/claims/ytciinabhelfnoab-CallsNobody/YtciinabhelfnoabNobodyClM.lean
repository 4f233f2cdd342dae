/- The law CallsNobody: the walk. -/
import Derived.Test.YtciinabhelfnoabAliveClM
import Derived.Test.YtciinabhelfnoabCallCxM
namespace Go.Proofs.Ytciinabhelfnoab
set_option linter.unusedVariables false
open Go.RowKit

/-- 'Put', by its error alone. -/
def PutPost (w : World) (er : Int) (e : Ending) (w' : World) : Prop := ∃ a n k, e = .returned (.tuple #[.slice a n k, .int .i64 er]) ∧ Below w.heap.size w w'
theorem put_no (x p v c f : Int) (m : ByteArray) (s u g : Int) (ga : Option Addr) (gl gc : Nat) (ba : Option Addr) (bl bc : Nat) (gs bs : List Int) (w : World) (h : CallOk x p v c f m s u g ga gl gc ba bl bc gs bs w) (hm : ¬ MayWho f m s u g gl) : Calls Try.prog 6 #[.agg #[.int .u32 x, .int .u32 p, .int .u32 v, .int .u32 c, .int .u32 f, .string m, .int .u32 s, .int .u32 u, .int .u32 g, .slice ga gl gc, .slice ba bl bc]] w (PutPost w 1) := by
  refine (clput_any x p v c f m s u g ga gl gc ba bl bc gs bs w h).mono ?_
  rintro e w' ⟨hB, ⟨_, rfl⟩ | ⟨hm', _⟩ | ⟨hm', _⟩⟩
  · exact ⟨_, _, _, rfl, hB⟩
  · exact absurd hm' hm
  · exact absurd hm' hm
theorem put_big (x p v c f : Int) (m : ByteArray) (s u g : Int) (ga : Option Addr) (gl gc : Nat) (ba : Option Addr) (bl bc : Nat) (gs bs : List Int) (w : World) (h : CallOk x p v c f m s u g ga gl gc ba bl bc gs bs w) (hm : MayWho f m s u g gl) (hl : 65536 < (callZ x p v c f s m u g gs bs).length) : Calls Try.prog 6 #[.agg #[.int .u32 x, .int .u32 p, .int .u32 v, .int .u32 c, .int .u32 f, .string m, .int .u32 s, .int .u32 u, .int .u32 g, .slice ga gl gc, .slice ba bl bc]] w (PutPost w 3) := by
  refine (clput_any x p v c f m s u g ga gl gc ba bl bc gs bs w h).mono ?_
  rintro e w' ⟨hB, ⟨hm', _⟩ | ⟨_, _, rfl⟩ | ⟨_, hs, _⟩⟩
  · exact absurd hm hm'
  · exact ⟨_, _, _, rfl, hB⟩
  · omega
theorem put_ok (x p v c f : Int) (m : ByteArray) (s u g : Int) (ga : Option Addr) (gl gc : Nat) (ba : Option Addr) (bl bc : Nat) (gs bs : List Int) (w : World) (h : CallOk x p v c f m s u g ga gl gc ba bl bc gs bs w) (hm : MayWho f m s u g gl) (hl : (callZ x p v c f s m u g gs bs).length ≤ 65536) : Calls Try.prog 6 #[.agg #[.int .u32 x, .int .u32 p, .int .u32 v, .int .u32 c, .int .u32 f, .string m, .int .u32 s, .int .u32 u, .int .u32 g, .slice ga gl gc, .slice ba bl bc]] w (PutPost w 0) := by
  refine (clput_any x p v c f m s u g ga gl gc ba bl bc gs bs w h).mono ?_
  rintro e w' ⟨hB, ⟨hm', _⟩ | ⟨_, hs, _⟩ | ⟨_, _, vb, rfl, ob⟩⟩
  · exact absurd hm hm'
  · omega
  · obtain ⟨a, k, rfl, _⟩ := own_val ob rfl
    exact ⟨_, _, _, rfl, hB⟩
theorem put_some (x p v c f : Int) (m : ByteArray) (s u g : Int) (ga : Option Addr) (gl gc : Nat) (ba : Option Addr) (bl bc : Nat) (gs bs : List Int) (w : World) (h : CallOk x p v c f m s u g ga gl gc ba bl bc gs bs w) : Calls Try.prog 6 #[.agg #[.int .u32 x, .int .u32 p, .int .u32 v, .int .u32 c, .int .u32 f, .string m, .int .u32 s, .int .u32 u, .int .u32 g, .slice ga gl gc, .slice ba bl bc]] w fun e w' => ∃ er, (¬ MayWho f m s u g gl → er = 1) ∧ PutPost w er e w' := by
  refine (clput_any x p v c f m s u g ga gl gc ba bl bc gs bs w h).mono ?_
  rintro e w' ⟨hB, ⟨_, rfl⟩ | ⟨hm, _, rfl⟩ | ⟨hm, _, vb, rfl, ob⟩⟩
  · exact ⟨1, fun _ => rfl, _, _, _, rfl, hB⟩
  · exact ⟨3, fun k => absurd hm k, _, _, _, rfl, hB⟩
  · obtain ⟨a, k, rfl, _⟩ := own_val ob rfl
    exact ⟨0, fun k => absurd hm k, _, _, _, rfl, hB⟩
theorem len_nobody (x p v c s : Int) (m : ByteArray) (u g : Int) (gs bs : List Int) : (callZ x p v c 0 s m u g gs bs).length = 40 + bs.length := by
  rw [callZ, callB_length, whoB, if_pos rfl]
  show 28 + (4 + (0 + padN 0)) + 8 + bs.length = _
  rw [show padN 0 = 0 from rfl]

/-- What the error of a call of nobody is. -/
def bareE (bl : Nat) : Int := if bl ≤ 65496 then 0 else 3
theorem put_nobody (x p v c f : Int) (m : ByteArray) (s u g : Int) (ga : Option Addr) (gl gc : Nat) (ba : Option Addr) (bl bc : Nat) (gs bs : List Int) (w : World) (h : CallOk x p v c f m s u g ga gl gc ba bl bc gs bs w) (hf : f = 0) (hn : Nob m s u g gl) : Calls Try.prog 6 #[.agg #[.int .u32 x, .int .u32 p, .int .u32 v, .int .u32 c, .int .u32 f, .string m, .int .u32 s, .int .u32 u, .int .u32 g, .slice ga gl gc, .slice ba bl bc]] w (PutPost w (bareE bl)) := by
  subst hf
  have hl := len_nobody x p v c s m u g gs bs
  have hz := h.bz
  by_cases hb : bl ≤ 65496
  · rw [bareE, if_pos hb]
    exact put_ok x p v c 0 m s u g ga gl gc ba bl bc gs bs w h (.inl ⟨rfl, hn⟩) (by omega)
  · rw [bareE, if_neg hb]
    exact put_big x p v c 0 m s u g ga gl gc ba bl bc gs bs w h (.inl ⟨rfl, hn⟩) (by omega)

set_option maxRecDepth 100000 in
set_option maxHeartbeats 4000000 in
theorem clnobody_walk (x p v c f : Int) (m : ByteArray) (s u g : Int) (ga : Option Addr) (gl gc : Nat) (ba : Option Addr) (bl bc : Nat) (gs bs : List Int) (w : World) (h : CallOk x p v c f m s u g ga gl gc ba bl bc gs bs w) :
    Calls Try.prog 3 #[.agg #[.int .u32 x, .int .u32 p, .int .u32 v, .int .u32 c, .int .u32 f, .string m, .int .u32 s, .int .u32 u, .int .u32 g, .slice ga gl gc, .slice ba bl bc]] w fun e w' => e = .returned (.bool true) ∧ Below w.heap.size w w' := by
  have X0 := Cx.start w x p v c f m s u g ga gl gc ba bl bc
  by_cases hgr : isGreat m gl bl
  · go_enter Try.func3, Try.ntmps3
    go_wp2_with fail
    generalize w.alloc (.cells #[.int .u32 x, .int .u32 p, .int .u32 v, .int .u32 c, .int .u32 f, .string m, .int .u32 s, .int .u32 u, .int .u32 g, .slice ga gl gc, .slice ba bl bc] 28) = w0 at *
    refine (alive_any w0).mono ?_
    rintro e w1 ⟨rfl, hb1⟩
    have X1 := X0.next hb1
    clear X0 hb1
    obtain ⟨c0, c1, c2, c3, c4, c5, c6, c7, c8, c9, c10⟩ := call_at X1.call
    go_wp2_with fail
    refine (great_yes x p v c f m s u g ga gl gc ba bl bc w1 h.hm h.gcm h.bcm hgr).mono ?_
    rintro e w2 ⟨rfl, hb2⟩
    have X2 := X1.next hb2
    clear X1 hb2 c0 c1 c2 c3 c4 c5 c6 c7 c8 c9 c10
    go_wp2_with fail
    refine (alive_any _).mono ?_
    rintro e w3 ⟨rfl, hb3⟩
    have X3 := X2.next hb3
    go_wp2
    go_ret
    exact ⟨rfl, X3.below⟩
  · have hm5 : m.size ≤ 5000 := Nat.le_of_not_lt fun k => hgr (.inl k)
    have hg5 : gl ≤ 1000 := Nat.le_of_not_lt fun k => hgr (.inr (.inl k))
    have hb5 : bl ≤ 200000 := Nat.le_of_not_lt fun k => hgr (.inr (.inr k))
    go_enter Try.func3, Try.ntmps3
    go_wp2_with fail
    generalize w.alloc (.cells #[.int .u32 x, .int .u32 p, .int .u32 v, .int .u32 c, .int .u32 f, .string m, .int .u32 s, .int .u32 u, .int .u32 g, .slice ga gl gc, .slice ba bl bc] 28) = w0 at *
    refine (alive_any w0).mono ?_
    rintro e w1 ⟨rfl, hb1⟩
    have X1 := X0.next hb1
    clear X0 hb1
    obtain ⟨c0, c1, c2, c3, c4, c5, c6, c7, c8, c9, c10⟩ := call_at X1.call
    go_wp2_with fail
    refine (great_no x p v c f m s u g ga gl gc ba bl bc w1 hgr).mono ?_
    rintro e w2 ⟨rfl, hb2⟩
    have X2 := X1.next hb2
    clear X1 hb2 c0 c1 c2 c3 c4 c5 c6 c7 c8 c9 c10 hgr
    obtain ⟨c0, c1, c2, c3, c4, c5, c6, c7, c8, c9, c10⟩ := call_at X2.call
    go_wp2_with fail
    refine (put_some x p v c f m s u g ga gl gc ba bl bc gs bs w2 (h.below X2.below)).mono ?_
    rintro e w3 ⟨er, her, _, _, _, rfl, hb3⟩
    have X3 := X2.next hb3
    clear X2 hb3 c0 c1 c2 c3 c4 c5 c6 c7 c8 c9 c10
    obtain ⟨c0, c1, c2, c3, c4, c5, c6, c7, c8, c9, c10⟩ := call_at X3.call
    by_cases hf1 : 1 < f
    · obtain rfl := her (by rintro (⟨k, _⟩ | ⟨k, _⟩) <;> omega)
      clear her
      go_wp2
      go_ret
      exact ⟨rfl, X3.below⟩
    clear her
    have X4 := X3.alloc (.cells #[.int .u32 x, .int .u32 p, .int .u32 v, .int .u32 c, .int .u32 0, .string ⟨#[]⟩, .int .u32 0, .int .u32 0, .int .u32 0, .slice none 0 0, .slice ba bl bc] 28)
    obtain ⟨e0, e1, e2, e3, e4, e5, e6, e7, e8, e9, e10⟩ := call_at X4.call
    go_wp2_with fail
    have X5 := X4.alloc (.cells #[.int .u32 x, .int .u32 p, .int .u32 v, .int .u32 c, .int .u32 0, .string m, .int .u32 s, .int .u32 u, .int .u32 g, .slice ga gl gc, .slice ba bl bc] 28)
    have kd : ((w3.alloc (.cells #[.int .u32 x, .int .u32 p, .int .u32 v, .int .u32 c, .int .u32 0, .string ⟨#[]⟩, .int .u32 0, .int .u32 0, .int .u32 0, .slice none 0 0, .slice ba bl bc] 28)).alloc (.cells #[.int .u32 x, .int .u32 p, .int .u32 v, .int .u32 c, .int .u32 0, .string m, .int .u32 s, .int .u32 u, .int .u32 g, .slice ga gl gc, .slice ba bl bc] 28)).heap[w3.heap.size + 1]? = some (.cells #[.int .u32 x, .int .u32 p, .int .u32 v, .int .u32 c, .int .u32 0, .string m, .int .u32 s, .int .u32 u, .int .u32 g, .slice ga gl gc, .slice ba bl bc] 28) := by
      have := heap_alloc_new (w3.alloc (.cells #[.int .u32 x, .int .u32 p, .int .u32 v, .int .u32 c, .int .u32 0, .string ⟨#[]⟩, .int .u32 0, .int .u32 0, .int .u32 0, .slice none 0 0, .slice ba bl bc] 28)) (.cells #[.int .u32 x, .int .u32 p, .int .u32 v, .int .u32 c, .int .u32 0, .string m, .int .u32 s, .int .u32 u, .int .u32 g, .slice ga gl gc, .slice ba bl bc] 28)
      simpa using this
    generalize ((w3.alloc (.cells #[.int .u32 x, .int .u32 p, .int .u32 v, .int .u32 c, .int .u32 0, .string ⟨#[]⟩, .int .u32 0, .int .u32 0, .int .u32 0, .slice none 0 0, .slice ba bl bc] 28)).alloc (.cells #[.int .u32 x, .int .u32 p, .int .u32 v, .int .u32 c, .int .u32 0, .string m, .int .u32 s, .int .u32 u, .int .u32 g, .slice ga gl gc, .slice ba bl bc] 28)) = w5 at *
    generalize w3.heap.size + 1 = Hd at *
    clear X3 X4 c0 c1 c2 c3 c4 c5 c6 c7 c8 c9 c10 e0 e1 e2 e3 e4 e5 e6 e7 e8 e9 e10
    have h5 := h.below X5.below
    refine (put_nobody x p v c 0 ⟨#[]⟩ 0 0 0 none 0 0 ba bl bc [] bs w5 ⟨h5.hx, h5.hp, h5.hv, h5.hc, by omega, by decide, by omega, by omega, by omega, by omega, by omega, rfl, fun i => by simp, .inl rfl, h5.blc, h5.bcm, h5.bz, h5.bb, h5.bseg, h5.bnil⟩ rfl ⟨rfl, rfl, rfl, rfl, rfl⟩).mono ?_
    rintro e w6 ⟨_, _, _, rfl, hb6⟩
    have X6 := X5.next hb6
    replace kd := (hb6.block _ (Array.getElem?_eq_some_iff.1 kd).1).trans kd
    clear X5 hb6 h5
    have h6 := h.below X6.below
    have hd6 : CallOk x p v c 0 m s u g ga gl gc ba bl bc gs bs w6 := ⟨h6.hx, h6.hp, h6.hv, h6.hc, by omega, h6.hm, h6.hs, h6.hu, h6.hg, h6.glc, h6.gcm, h6.gz, h6.gu, h6.gseg, h6.blc, h6.bcm, h6.bz, h6.bb, h6.bseg, h6.bnil⟩
    obtain ⟨d0, d1, d2, d3, d4, d5, d6, d7, d8, d9, d10⟩ := call_at kd
    go_wp2_with fail
    clear d0 d1 d2 d3 d4 d5 d6 d7 d8 d9 d10
    have hbe : (bl ≤ 65496 ∧ bareE bl = 0) ∨ (65496 < bl ∧ bareE bl = 3) := by
      by_cases hb : bl ≤ 65496
      · exact .inl ⟨hb, by rw [bareE, if_pos hb]⟩
      · exact .inr ⟨by omega, by rw [bareE, if_neg hb]⟩
    have hme := isEmpty_size' m
    by_cases hN : Nob m s u g gl
    · have hput := put_nobody x p v c 0 m s u g ga gl gc ba bl bc gs bs w6 hd6 rfl hN
      obtain ⟨n1, n2, n3, n4, n5⟩ := hN
      have n1' : decide (m.size = 0) = true := by simp [n1]
      rw [n1'] at hme
      subst n2 n3 n4 n5
      clear n1 n1' h6 hd6 kd
      rcases hbe with ⟨hb, hE⟩ | ⟨hb, hE⟩
      · have hb' : (bl : Int) ≤ 65496 := by omega
        have hbd : decide ((bl : Int) ≤ 65496) = true := by simpa using hb'
        rw [hE] at hput ⊢
        clear hE
        refine hput.mono ?_
        rintro e w7 ⟨_, _, _, rfl, hb7⟩
        have X7 := X6.next hb7
        obtain ⟨c0, c1, c2, c3, c4, c5, c6, c7, c8, c9, c10⟩ := call_at X7.call
        go_wp2
        go_ret
        exact ⟨rfl, X7.below⟩
      · have hb' : ¬ (bl : Int) ≤ 65496 := by omega
        have hbd : decide ((bl : Int) ≤ 65496) = false := by simpa using hb'
        rw [hE] at hput ⊢
        clear hE
        refine hput.mono ?_
        rintro e w7 ⟨_, _, _, rfl, hb7⟩
        have X7 := X6.next hb7
        obtain ⟨c0, c1, c2, c3, c4, c5, c6, c7, c8, c9, c10⟩ := call_at X7.call
        go_wp2
        go_ret
        exact ⟨rfl, X7.below⟩
    · have hput := put_no x p v c 0 m s u g ga gl gc ba bl bc gs bs w6 hd6 (by rintro (⟨_, k⟩ | ⟨k, _⟩); exact hN k; omega)
      clear hd6 kd
      by_cases n1 : m.size = 0
      case neg =>
        have n1' : decide (m.size = 0) = false := by simp [n1]
        rw [n1'] at hme
        clear n1 n1' h6 hN
        rcases hbe with ⟨hb, hE⟩ | ⟨hb, hE⟩
        · have hb' : (bl : Int) ≤ 65496 := by omega
          have hbd : decide ((bl : Int) ≤ 65496) = true := by simpa using hb'
          rw [hE]
          clear hE
          refine hput.mono ?_
          rintro e w7 ⟨_, _, _, rfl, hb7⟩
          have X7 := X6.next hb7
          obtain ⟨c0, c1, c2, c3, c4, c5, c6, c7, c8, c9, c10⟩ := call_at X7.call
          go_wp2
          go_ret
          exact ⟨rfl, X7.below⟩
        · have hb' : ¬ (bl : Int) ≤ 65496 := by omega
          have hbd : decide ((bl : Int) ≤ 65496) = false := by simpa using hb'
          rw [hE]
          clear hE
          refine hput.mono ?_
          rintro e w7 ⟨_, _, _, rfl, hb7⟩
          have X7 := X6.next hb7
          obtain ⟨c0, c1, c2, c3, c4, c5, c6, c7, c8, c9, c10⟩ := call_at X7.call
          go_wp2
          go_ret
          exact ⟨rfl, X7.below⟩
      have n1' : decide (m.size = 0) = true := by simp [n1]
      rw [n1'] at hme
      clear n1'
      by_cases n2 : s = 0
      case neg =>
        have n2' : (s != 0) = true := by simp [n2]
        clear n1 n2 h6 hN
        rcases hbe with ⟨hb, hE⟩ | ⟨hb, hE⟩
        · have hb' : (bl : Int) ≤ 65496 := by omega
          have hbd : decide ((bl : Int) ≤ 65496) = true := by simpa using hb'
          rw [hE]
          clear hE
          refine hput.mono ?_
          rintro e w7 ⟨_, _, _, rfl, hb7⟩
          have X7 := X6.next hb7
          obtain ⟨c0, c1, c2, c3, c4, c5, c6, c7, c8, c9, c10⟩ := call_at X7.call
          go_wp2
          go_ret
          exact ⟨rfl, X7.below⟩
        · have hb' : ¬ (bl : Int) ≤ 65496 := by omega
          have hbd : decide ((bl : Int) ≤ 65496) = false := by simpa using hb'
          rw [hE]
          clear hE
          refine hput.mono ?_
          rintro e w7 ⟨_, _, _, rfl, hb7⟩
          have X7 := X6.next hb7
          obtain ⟨c0, c1, c2, c3, c4, c5, c6, c7, c8, c9, c10⟩ := call_at X7.call
          go_wp2
          go_ret
          exact ⟨rfl, X7.below⟩
      subst n2
      by_cases n3 : u = 0
      case neg =>
        have n3' : (u != 0) = true := by simp [n3]
        clear n1 n3 h6 hN
        rcases hbe with ⟨hb, hE⟩ | ⟨hb, hE⟩
        · have hb' : (bl : Int) ≤ 65496 := by omega
          have hbd : decide ((bl : Int) ≤ 65496) = true := by simpa using hb'
          rw [hE]
          clear hE
          refine hput.mono ?_
          rintro e w7 ⟨_, _, _, rfl, hb7⟩
          have X7 := X6.next hb7
          obtain ⟨c0, c1, c2, c3, c4, c5, c6, c7, c8, c9, c10⟩ := call_at X7.call
          go_wp2
          go_ret
          exact ⟨rfl, X7.below⟩
        · have hb' : ¬ (bl : Int) ≤ 65496 := by omega
          have hbd : decide ((bl : Int) ≤ 65496) = false := by simpa using hb'
          rw [hE]
          clear hE
          refine hput.mono ?_
          rintro e w7 ⟨_, _, _, rfl, hb7⟩
          have X7 := X6.next hb7
          obtain ⟨c0, c1, c2, c3, c4, c5, c6, c7, c8, c9, c10⟩ := call_at X7.call
          go_wp2
          go_ret
          exact ⟨rfl, X7.below⟩
      subst n3
      by_cases n4 : g = 0
      case neg =>
        have n4' : (g != 0) = true := by simp [n4]
        clear n1 n4 h6 hN
        rcases hbe with ⟨hb, hE⟩ | ⟨hb, hE⟩
        · have hb' : (bl : Int) ≤ 65496 := by omega
          have hbd : decide ((bl : Int) ≤ 65496) = true := by simpa using hb'
          rw [hE]
          clear hE
          refine hput.mono ?_
          rintro e w7 ⟨_, _, _, rfl, hb7⟩
          have X7 := X6.next hb7
          obtain ⟨c0, c1, c2, c3, c4, c5, c6, c7, c8, c9, c10⟩ := call_at X7.call
          go_wp2
          go_ret
          exact ⟨rfl, X7.below⟩
        · have hb' : ¬ (bl : Int) ≤ 65496 := by omega
          have hbd : decide ((bl : Int) ≤ 65496) = false := by simpa using hb'
          rw [hE]
          clear hE
          refine hput.mono ?_
          rintro e w7 ⟨_, _, _, rfl, hb7⟩
          have X7 := X6.next hb7
          obtain ⟨c0, c1, c2, c3, c4, c5, c6, c7, c8, c9, c10⟩ := call_at X7.call
          go_wp2
          go_ret
          exact ⟨rfl, X7.below⟩
      subst n4
      have n5 : gl ≠ 0 := fun k => hN ⟨n1, rfl, rfl, rfl, k⟩
      have n5' : (0 : Int) < gl := by omega
      clear n1 h6 hN
      rcases hbe with ⟨hb, hE⟩ | ⟨hb, hE⟩
      · have hb' : (bl : Int) ≤ 65496 := by omega
        have hbd : decide ((bl : Int) ≤ 65496) = true := by simpa using hb'
        rw [hE]
        clear hE
        refine hput.mono ?_
        rintro e w7 ⟨_, _, _, rfl, hb7⟩
        have X7 := X6.next hb7
        obtain ⟨c0, c1, c2, c3, c4, c5, c6, c7, c8, c9, c10⟩ := call_at X7.call
        go_wp2
        go_ret
        exact ⟨rfl, X7.below⟩
      · have hb' : ¬ (bl : Int) ≤ 65496 := by omega
        have hbd : decide ((bl : Int) ≤ 65496) = false := by simpa using hb'
        rw [hE]
        clear hE
        refine hput.mono ?_
        rintro e w7 ⟨_, _, _, rfl, hb7⟩
        have X7 := X6.next hb7
        obtain ⟨c0, c1, c2, c3, c4, c5, c6, c7, c8, c9, c10⟩ := call_at X7.call
        go_wp2
        go_ret
        exact ⟨rfl, X7.below⟩
end Go.Proofs.Ytciinabhelfnoab
