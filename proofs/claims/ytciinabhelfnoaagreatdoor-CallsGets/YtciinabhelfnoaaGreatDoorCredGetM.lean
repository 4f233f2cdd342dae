/- 'Get' of one who calls: what the program answers to any bytes; nothing that was there turns. -/
import Derived.Test.YtciinabhelfnoaaGreatDoorCredWayM
import Derived.Outline
namespace Go.Proofs.YtciinabhelfnoaaGreatDoor
set_option linter.unusedVariables false
open Go.RowKit

set_option maxHeartbeats 400000 in
theorem inturn_any (a : Option Addr) (len cap : Nat) (W : World) : Calls Tryz.prog 78 #[.slice a len cap] W fun e W' => e = .returned (.func (.func 89) #[] #[.pointer (some ⟨W.heap.size + 1, 0, none⟩), .pointer (some ⟨W.heap.size, 0, none⟩)]) ∧
    W' = (W.alloc (.cells #[.slice a len cap] 22)).alloc (.cells #[.int .i64 0] 30) := by
  go_enter Tryz.func78, Tryz.ntmps78
  go_wp2
  go_ret
  exact ⟨rfl, rfl⟩

/-- Nothing is read yet. -/
def gs0 (a : Option Addr) (len cap : Nat) (zs : List Int) : GS := ⟨0, ⟨#[]⟩, 0, 0, 0, none, 0, 0, [], a, len, cap, zs, 0⟩

theorem Gt.start (a : Option Addr) (len cap : Nat) (zs : List Int) (w : World) (hlc : len ≤ cap) (hm : cap ≤ 9223372036854775807) (hz : zs.length = len) (hb : Byt zs) (hs : Seg w a zs) :
    Gt w (gs0 a len cap zs) ((((((w.alloc (.cells #[.int .u32 0] 24)).alloc (.cells #[.string ⟨#[]⟩] 9)).alloc (.cells #[.int .u32 0, .int .u32 0, .slice none 0 0] 27)).alloc (.cells #[.int .u32 0] 24)).alloc (.cells #[.slice a len cap] 22)).alloc (.cells #[.int .i64 0] 30)) := by
  have hp : ∀ (V : World) (o : Obj) (k : Nat), k < V.heap.size → (V.alloc o).heap[k]? = V.heap[k]? := fun V o k h => Below.heap_alloc _ _ _ h
  have hn : ∀ (V : World) (o : Obj) (k : Nat), k = V.heap.size → (V.alloc o).heap[k]? = some o := fun V o k h => by rw [h]; exact heap_alloc_new V o
  refine ⟨?_, ?_, ?_, ?_, ?_, ?_, ?_, World.ownsRow_nil _ _ _ _, hs, hz, hlc, hm, hb⟩
  · exact ((((((Below.refl _ _).alloc (Nat.le_refl _) _).alloc (by simp) _).alloc (by simp <;> omega) _).alloc (by simp <;> omega) _).alloc (by simp <;> omega) _).alloc (by simp <;> omega) _
  · unfold Boxed
    rw [hp _ _ _ (by simp <;> omega), hp _ _ _ (by simp <;> omega), hp _ _ _ (by simp <;> omega), hp _ _ _ (by simp <;> omega), hp _ _ _ (by simp), hn _ _ _ rfl]
    rfl
  · unfold Boxed
    rw [hp _ _ _ (by simp <;> omega), hp _ _ _ (by simp <;> omega), hp _ _ _ (by simp <;> omega), hp _ _ _ (by simp), hn _ _ _ (by simp)]
    rfl
  · rw [hp _ _ _ (by simp <;> omega), hp _ _ _ (by simp <;> omega), hp _ _ _ (by simp), hn _ _ _ (by simp)]
    rfl
  · unfold Boxed
    rw [hp _ _ _ (by simp <;> omega), hp _ _ _ (by simp), hn _ _ _ (by simp)]
    rfl
  · unfold Boxed
    rw [hp _ _ _ (by simp), hn _ _ _ (by simp)]
    rfl
  · unfold Boxed
    rw [hn _ _ _ (by simp)]
    rfl

/-- What 'Get' answers. -/
def cgPost (w : World) (zs : List Int) (e : Ending) (W' : World) : Prop :=
  ∃ v, e = .returned (.tuple #[.int .u32 (cgS zs), .string (strOfNums (cgM zs)), .agg #[.int .u32 (cgU zs), .int .u32 (cgG zs), v], .int .i64 (crE zs)]) ∧
    W'.ownsRow w.heap.size 24 1 v (cgL zs).length ((cgL zs).map (Value.int .u32)) ∧ Below w.heap.size w W'

theorem at1_a {zs : List Int} {y : GS} (h : At1 zs y) (h0 : y.e = 0) : Some' y := by
  rcases h with ⟨⟨hn, he⟩, _⟩ | ⟨hw, _⟩
  · omega
  · exact hw.a
theorem at5_a {zs : List Int} {y : GS} (h : At5 zs y) (h0 : y.e = 0) : Some' y := by
  rcases h with ⟨⟨hn, he⟩, _⟩ | ⟨hw, _⟩
  · omega
  · exact hw.a
theorem at7_a {zs : List Int} {y : GS} {k : Nat} (h : At7 zs k y) (h0 : y.e = 0) : Some' y := by
  rcases h with ⟨hn, he⟩ | ⟨hw, _⟩
  · omega
  · exact hw.a

theorem own_at {w : World} {base e : Nat} {a : Option Addr} {n c : Nat} {xs : List Value} (h : w.ownsRow base e 1 (.slice a n c) n xs) (hn : 0 < n) : ∃ g, a = some ⟨g, 0, none⟩ := by
  rcases h.2 with ⟨_, h0⟩ | ⟨g, cap, _, hv, _⟩
  · omega
  · simp at hv
    exact ⟨g, hv.1⟩
theorem own_cell {w : World} {base e : Nat} {a : Option Addr} {n c g k : Nat} {xs : List Int} (h : w.ownsRow base e 1 (.slice a n c) n (xs.map (Value.int .u32))) (ha : a = some ⟨g, 0, none⟩) (hk : k < n) : ∃ old, w.cell? ⟨g, k, none⟩ = some old ∧ w.frozen? ⟨g, k, none⟩ = false := by
  subst ha
  have hl : xs.length = n := by simpa using h.1
  exact ⟨_, (h.cellAt k (by omega)).trans (List.getElem?_eq_getElem (by simpa [hl] using hk)), h.frozenAt k⟩
theorem num_v {up : Int → GS} {x y : GS} (st : NumStep up x y) (h : ∀ v, (up v).va = x.va ∧ (up v).vn = x.vn ∧ (up v).vc = x.vc) : y.va = x.va ∧ y.vn = x.vn ∧ y.vc = x.vc := by
  rcases st with ⟨_, rfl⟩ | ⟨_, _, rfl⟩ | ⟨_, _, b, o, rfl⟩
  · exact ⟨rfl, rfl, rfl⟩
  · exact h _
  · exact h _
theorem at7_all {zs : List Int} {k : Nat} {x : GS} (h : At7 zs k x) (hk : x.vn = k) : At7 zs (crK zs) x := by
  rcases h with h | ⟨hw, r⟩
  · exact .inl h
  · have : k = crK zs := by rw [← hk]; exact hw.vn
    subst this
    exact .inr ⟨hw, r⟩

set_option maxRecDepth 100000 in
set_option maxHeartbeats 4000000 in
theorem cget_any (a : Option Addr) (len cap : Nat) (zs : List Int) (w : World) (hlc : len ≤ cap) (hm : cap ≤ 9223372036854775807) (hz : zs.length = len) (hb : Byt zs) (hs : Seg w a zs) :
    Calls Tryz.prog 55 #[.slice a len cap] w (cgPost w zs) := by
  have G0 := Gt.start a len cap zs w hlc hm hz hb hs
  have A0 : At0 zs (gs0 a len cap zs) := ⟨rfl, rfl, rfl⟩
  go_enter Tryz.func55, Tryz.ntmps55
  go_wp2_with fail
  refine (inturn_any a len cap _).mono ?_
  rintro e W' ⟨rfl, rfl⟩
  generalize hx0 : gs0 a len cap zs = y0 at G0 A0
  clear hx0
  generalize ((((((w.alloc (.cells #[.int .u32 0] 24)).alloc (.cells #[.string ⟨#[]⟩] 9)).alloc (.cells #[.int .u32 0, .int .u32 0, .slice none 0 0] 27)).alloc (.cells #[.int .u32 0] 24)).alloc (.cells #[.slice a len cap] 22)).alloc (.cells #[.int .i64 0] 30)) = U0 at *
  simp only [World.size_alloc]
  go_wp2_with fail
  refine (number_any _ U0).mono ?_
  rintro e W' ⟨rfl, rfl⟩
  have P := Boxed.new U0 63 (.pointer (some ⟨w.heap.size, 0, none⟩))
  have G := G0.next ((Below.refl _ _).alloc (Nat.le_refl _) (.cells #[.pointer (some ⟨w.heap.size, 0, none⟩)] 63))
  clear G0
  generalize U0.alloc (.cells #[.pointer (some ⟨w.heap.size, 0, none⟩)] 63) = V1 at *
  go_wp2_with fail
  refine (step_num G _ _ _ _ (fun v => { y0 with s := v }) P G.b0.cell G.b0.frozen (fun v => G.setS v) (fun v => ⟨rfl, rfl, rfl, rfl, rfl⟩)).mono ?_
  rintro e U1 ⟨y1, rfl, G1, st⟩
  have A1 := at1 G.len A0 st
  clear G P st A0
  go_wp2_with fail
  refine (machine_any _ U1).mono ?_
  rintro e W' ⟨rfl, rfl⟩
  have P := Boxed.new U1 125 (.pointer (some ⟨w.heap.size + 1, 0, none⟩))
  have G := G1.next ((Below.refl _ _).alloc (Nat.le_refl _) (.cells #[.pointer (some ⟨w.heap.size + 1, 0, none⟩)] 125))
  clear G1
  generalize U1.alloc (.cells #[.pointer (some ⟨w.heap.size + 1, 0, none⟩)] 125) = V2 at *
  go_wp2_with fail
  refine (step_machine G _ P (at1_a A1)).mono ?_
  rintro e U2 ⟨y2, rfl, G2, st⟩
  have A2 := at2 A1 st
  clear G P st A1
  go_wp2_with fail
  refine (number_any _ U2).mono ?_
  rintro e W' ⟨rfl, rfl⟩
  have P := Boxed.new U2 63 (.pointer (some ⟨w.heap.size + 1 + 1, 0, none⟩))
  have G := G2.next ((Below.refl _ _).alloc (Nat.le_refl _) (.cells #[.pointer (some ⟨w.heap.size + 1 + 1, 0, none⟩)] 63))
  clear G2
  generalize U2.alloc (.cells #[.pointer (some ⟨w.heap.size + 1 + 1, 0, none⟩)] 63) = V3 at *
  go_wp2_with fail
  refine (step_num G _ _ _ _ (fun v => { y2 with u := v }) P (cred_at G.b2).1 (cred_at G.b2).2.2.2.1 (fun v => G.setU v) (fun v => ⟨rfl, rfl, rfl, rfl, rfl⟩)).mono ?_
  rintro e U3 ⟨y3, rfl, G3, st⟩
  have A3 := at3 G.len A2 st
  clear G P st A2
  go_wp2_with fail
  refine (number_any _ U3).mono ?_
  rintro e W' ⟨rfl, rfl⟩
  have P := Boxed.new U3 63 (.pointer (some ⟨w.heap.size + 1 + 1, 1, none⟩))
  have G := G3.next ((Below.refl _ _).alloc (Nat.le_refl _) (.cells #[.pointer (some ⟨w.heap.size + 1 + 1, 1, none⟩)] 63))
  clear G3
  generalize U3.alloc (.cells #[.pointer (some ⟨w.heap.size + 1 + 1, 1, none⟩)] 63) = V4 at *
  go_wp2_with fail
  refine (step_num G _ _ _ _ (fun v => { y3 with g := v }) P (cred_at G.b2).2.1 (cred_at G.b2).2.2.2.2.1 (fun v => G.setG v) (fun v => ⟨rfl, rfl, rfl, rfl, rfl⟩)).mono ?_
  rintro e U4 ⟨y4, rfl, G4, st⟩
  have A4 := at4 G.len A3 st
  clear G P st A3
  go_wp2_with fail
  refine (number_any _ U4).mono ?_
  rintro e W' ⟨rfl, rfl⟩
  have P := Boxed.new U4 63 (.pointer (some ⟨w.heap.size + 1 + 1 + 1, 0, none⟩))
  have G := G4.next ((Below.refl _ _).alloc (Nat.le_refl _) (.cells #[.pointer (some ⟨w.heap.size + 1 + 1 + 1, 0, none⟩)] 63))
  clear G4
  generalize U4.alloc (.cells #[.pointer (some ⟨w.heap.size + 1 + 1 + 1, 0, none⟩)] 63) = V5 at *
  go_wp2_with fail
  refine (step_num G _ _ _ _ (fun v => { y4 with n := v }) P G.b3.cell G.b3.frozen (fun v => G.setN v) (fun v => ⟨rfl, rfl, rfl, rfl, rfl⟩)).mono ?_
  rintro e U5 ⟨y5, rfl, G5, st⟩
  have A5 := at5 G.len A4 st
  clear G P st A4
  go_wp2_with fail
  refine (room_any _ _ U5).mono ?_
  rintro e W' ⟨rfl, rfl⟩
  have P := (Boxed.new U5 63 (.pointer (some ⟨w.heap.size + 1 + 1 + 1, 0, none⟩))).alloc (.cells #[.pointer (some ⟨w.heap.size + 1 + 1, 2, none⟩)] 127)
  have Q := Boxed.new (U5.alloc (.cells #[.pointer (some ⟨w.heap.size + 1 + 1 + 1, 0, none⟩)] 63)) 127 (.pointer (some ⟨w.heap.size + 1 + 1, 2, none⟩))
  simp only [World.size_alloc] at Q
  have G := (G5.next ((Below.refl _ _).alloc (Nat.le_refl _) (.cells #[.pointer (some ⟨w.heap.size + 1 + 1 + 1, 0, none⟩)] 63))).next ((Below.refl _ _).alloc (Nat.le_refl _) (.cells #[.pointer (some ⟨w.heap.size + 1 + 1, 2, none⟩)] 127))
  clear G5
  generalize (U5.alloc (.cells #[.pointer (some ⟨w.heap.size + 1 + 1 + 1, 0, none⟩)] 63)).alloc (.cells #[.pointer (some ⟨w.heap.size + 1 + 1, 2, none⟩)] 127) = V6 at *
  go_wp2_with fail
  refine (step_room G _ _ P Q (at5_a A5) (at5_n hb A5)).mono ?_
  rintro e U6 ⟨y6, rfl, G6, st⟩
  have A6 := at6 A5 st
  clear G P Q st A5
  obtain ⟨_, _, c2, _, _, _⟩ := cred_at G6.b2
  have A7 : At7 zs 0 y6 := by
    rcases A6 with h | h
    · exact .inl h.1
    · exact h.1
  have hvn : y6.vn = crK zs ∨ (y6.vn = 0 ∧ Bad zs y6) := by
    rcases A6 with h | h
    · exact .inr ⟨h.2, h.1⟩
    · exact .inl h.2.vn
  have hvl : y6.vn ≤ 9223372036854775807 := by
    rcases A6 with h | h
    · have := h.2; omega
    · have h1 := h.2.vn
      have h2 := h.2.h4
      unfold crK at h1
      omega
  clear A6
  go_wp2_with fail
  clear c2
  go_loopw [35] (fun i wr => ∃ (k : Nat) (x : GS), k ≤ y6.vn ∧ i = .int .i64 k ∧ Gt w x wr ∧ x.va = y6.va ∧ x.vn = y6.vn ∧ x.vc = y6.vc ∧ At7 zs k x) (fun i _ => y6.vn - (intOf i).toNat)
  case atStart => exact ⟨0, y6, by omega, rfl, G6, rfl, rfl, rfl, A7⟩
  case round =>
    obtain ⟨k, x, hk, rfl, G, hva, hvn', hvc, A⟩ := hrel
    by_cases hlt : k < y6.vn
    · obtain ⟨gb, hgb⟩ : ∃ gb, x.va = some ⟨gb, 0, none⟩ := own_at G.own (by omega)
      have hkk : k < crK zs := by omega
      obtain ⟨_, _, c2, _, _, _⟩ := cred_at G.b2
      rw [hva, hvn', hvc] at c2
      have hgb' : y6.va = some ⟨gb, 0, none⟩ := hva.symm.trans hgb
      rw [hgb'] at c2
      have HV : Hid (x.va = y6.va ∧ x.vn = y6.vn ∧ x.vc = y6.vc) := ⟨hva, hvn', hvc⟩
      have HG : Hid (x.va = some ⟨gb, 0, none⟩) := hgb
      clear hva hvn' hvc hgb hgb'
      have hki : (k : Int) < (y6.vn : Int) := by omega
      go_wp2_with fail
      refine (number_any _ wr).mono ?_
      rintro e W' ⟨rfl, rfl⟩
      have P := Boxed.new wr 63 (.pointer (some ⟨gb, k, none⟩))
      have G' := G.next ((Below.refl _ _).alloc (Nat.le_refl _) (.cells #[.pointer (some ⟨gb, k, none⟩)] 63))
      clear G c2
      generalize wr.alloc (.cells #[.pointer (some ⟨gb, k, none⟩)] 63) = V7 at *
      obtain ⟨old, hco, hfo⟩ := own_cell G'.own HG.out (k := k) (by have := HV.out.2.1; omega)
      go_wp2_with fail
      refine (step_num G' _ _ _ _ (fun v => { x with gs := x.gs.set k v }) P hco hfo (fun v => G'.setI gb k HG.out v) (fun v => ⟨rfl, rfl, rfl, rfl, rfl⟩)).mono ?_
      rintro e U7 ⟨y7, rfl, G7, st⟩
      have A7' := at7 G'.len hkk A st
      have hv7 : y7.va = x.va ∧ y7.vn = x.vn ∧ y7.vc = x.vc := num_v st (fun v => ⟨rfl, rfl, rfl⟩)
      have HV7 : Hid (y7.va = y6.va ∧ y7.vn = y6.vn ∧ y7.vc = y6.vc) := ⟨hv7.1.trans HV.out.1, hv7.2.1.trans HV.out.2.1, hv7.2.2.trans HV.out.2.2⟩
      clear G' P st A hco hfo HV HG hv7
      go_wp2
      go_roundw
      case rel => exact ⟨k + 1, y7, by omega, by go_num, G7, HV7.out.1, HV7.out.2.1, HV7.out.2.2, A7'⟩
      case measure => simp [intOf]; omega
    · obtain rfl : k = y6.vn := by omega
      have A' := at7_all A hvn'
      clear A A7 G6 hva hvc hvn'
      go_wp2_with fail
      refine (step_end G (at7_a A')).mono ?_
      rintro e U8 ⟨y8, rfl, G8, st⟩
      have A8 := at8 G.len (.inl A') st
      clear G st A'
      have c0 := G8.b0.cell
      have f0 := G8.b0.frozen
      have c1 := G8.b1.cell
      have f1 := G8.b1.frozen
      obtain ⟨d0, d1, d2, g0, g1, g2⟩ := cred_at G8.b2
      rcases A8 with ⟨hne, he⟩ | ⟨hcr, he, hs', hm', hu', hg', hl', hv'⟩
      · have GF := ((((G8.setS 0).setM ⟨#[]⟩).setU 0).setG 0).setV none 0 0 [] (World.ownsRow_nil _ _ _ _)
        have hx : (y8.e != 0) = true := by rw [he]; simpa using hne
        have HE : Hid (y8.e = crE zs) := he
        clear he
        go_wp2_with fail
        generalize (((((U8.setCell ⟨w.heap.size, 0, none⟩ (.int .u32 0)).setCell ⟨w.heap.size + 1, 0, none⟩ (.string ⟨#[]⟩)).setCell ⟨w.heap.size + 1 + 1, 0, none⟩ (.int .u32 0)).setCell ⟨w.heap.size + 1 + 1, 1, none⟩ (.int .u32 0)).setCell ⟨w.heap.size + 1 + 1, 2, none⟩ (.slice none 0 0)) = UF at *
        obtain ⟨e0, e1, e2, _, _, _⟩ := cred_at GF.b2
        have k0 := GF.b0.cell
        have k1 := GF.b1.cell
        simp only at e0 e1 e2 k0 k1
        go_wp2
        refine bodyPost_ret (v := .tuple #[.int .u32 0, .string ⟨#[]⟩, .agg #[.int .u32 0, .int .u32 0, .slice none 0 0], .int .i64 y8.e]) (by simp [results, Tryz.results55, go_sem, e0, e1, e2, k0, k1]) rfl ?_
        have hno : ¬ crE zs = 0 := hne
        refine ⟨.slice none 0 0, ?_, ?_, GF.below⟩
        · rw [HE.out]
          simp only [cgS, cgM, cgU, cgG, if_neg hno]
          rfl
        · simp only [cgL, if_neg hno]
          exact World.ownsRow_nil _ _ _ _
      · have GE := (((G8.setS y8.s).setM y8.m).setU y8.u).setG y8.g
        have GF := GE.setV y8.va y8.vn y8.vc y8.gs GE.own
        clear GE
        have hx : (y8.e != 0) = false := by rw [he]; rfl
        have HE : Hid (y8.e = 0 ∧ y8.s = crS zs ∧ y8.m = strOfNums (crM zs) ∧ y8.u = crU zs ∧ y8.g = crG zs ∧ y8.gs = crL zs ∧ y8.vn = crK zs) := ⟨he, hs', hm', hu', hg', hl', hv'⟩
        clear he hs' hm' hu' hg' hl' hv'
        go_wp2_with fail
        generalize (((((U8.setCell ⟨w.heap.size, 0, none⟩ (.int .u32 y8.s)).setCell ⟨w.heap.size + 1, 0, none⟩ (.string y8.m)).setCell ⟨w.heap.size + 1 + 1, 0, none⟩ (.int .u32 y8.u)).setCell ⟨w.heap.size + 1 + 1, 1, none⟩ (.int .u32 y8.g)).setCell ⟨w.heap.size + 1 + 1, 2, none⟩ (.slice y8.va y8.vn y8.vc)) = UF at *
        obtain ⟨e0, e1, e2, _, _, _⟩ := cred_at GF.b2
        have k0 := GF.b0.cell
        have k1 := GF.b1.cell
        simp only at e0 e1 e2 k0 k1
        go_wp2
        refine bodyPost_ret (v := .tuple #[.int .u32 y8.s, .string y8.m, .agg #[.int .u32 y8.u, .int .u32 y8.g, .slice y8.va y8.vn y8.vc], .int .i64 0]) (by simp [results, Tryz.results55, go_sem, e0, e1, e2, k0, k1]) rfl ?_
        obtain ⟨h1, h2, h3, h4, h5, h6, h7⟩ := HE.out
        refine ⟨.slice y8.va y8.vn y8.vc, ?_, ?_, GF.below⟩
        · simp only [cgS, cgM, cgU, cgG, if_pos hcr]
          rw [h2, h3, h4, h5, hcr]
        · simp only [cgL, if_pos hcr]
          have ho := own_base GF.own (base' := w.heap.size) (by omega)
          simp only [h6] at ho
          rw [show (crL zs).length = y8.vn from by rw [crL, numsZ_len, h7]]
          exact ho
end Go.Proofs.YtciinabhelfnoaaGreatDoor
