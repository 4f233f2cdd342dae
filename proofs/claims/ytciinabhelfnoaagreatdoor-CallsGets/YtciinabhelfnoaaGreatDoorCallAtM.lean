/- 'Get' of a call: what its reader holds behind each of its steps; plain mathematics on what it has read. -/
import Derived.Test.YtciinabhelfnoaaGreatDoorCallMathM
import Derived.Test.YtciinabhelfnoaaGreatDoorBase
import Derived.Test.YtciinabhelfnoaaGreatDoorTextsPiecesM
namespace Go.Proofs.YtciinabhelfnoaaGreatDoor
set_option linter.unusedVariables false

/-- What the reader holds: what is left of the bytes, and what was read. -/
structure RS where
  a : Option Addr
  len : Nat
  cap : Nat
  zs : List Int
  x : Int
  p : Int
  v : Int
  c : Int
  f : Int
  m : ByteArray
  s : Int
  u : Int
  g : Int
  ga : Option Addr
  gl : Nat
  gc : Nat
  gs : List Int
  ba : Option Addr
  bl : Nat
  bc : Nat
  bs : List Int

/-- What is left of the bytes behind so many steps. -/
def restAt (zs : List Int) (k : Nat) : List Int := if k ≤ 7 then zs.drop (4 * k) else if k = 8 then clR zs else if k = 9 then clN zs else clB zs

structure At (zs : List Int) (k : Nat) (y : RS) : Prop where
  z : y.zs = restAt zs k
  e : firstE (clEs zs) = firstE ((clEs zs).drop k)
  x : 1 ≤ k → y.x = clX zs
  p : 4 ≤ k → y.p = clP zs
  v : 5 ≤ k → y.v = clV zs
  c : 6 ≤ k → y.c = clC zs
  f : 7 ≤ k → y.f = clF zs
  w : 8 ≤ k → y.s = clS zs ∧ y.m = strOfNums (clM zs) ∧ y.u = clU zs ∧ y.g = clG zs ∧ y.gs = clL zs
  w0 : k < 8 → y.s = 0 ∧ y.m = ⟨#[]⟩ ∧ y.u = 0 ∧ y.g = 0 ∧ y.gs = []
  b : 11 ≤ k → y.bs = clB zs

theorem At.stop {zs : List Int} {k : Nat} {y : RS} (A : At zs k y) {er : Int} {es : List Int} (hd : (clEs zs).drop k = er :: es) (h : er ≠ 0) : er = firstE (clEs zs) := by
  rw [A.e, hd, firstE_stop h]


theorem cat0 {zs : List Int} {y : RS} (A : At zs 0 y) (h : getE y.zs = 0) (a' : Option Addr) (l c : Nat) : At zs 1 { y with x := be (y.zs.take 4), a := a', len := l, cap := c, zs := y.zs.drop 4 } := by
  have he : getE zs = 0 := by
    rw [A.z] at h
    exact h
  have hz : y.zs.drop 4 = restAt zs 1 := by
    rw [A.z]
    show (zs.drop (4 * 0)).drop 4 = zs.drop (4 * 1)
    rw [List.drop_drop]
  exact ⟨hz, A.e.trans (firstE_go he), fun _ => by show be (y.zs.take 4) = _; rw [A.z]; rfl, fun h => absurd h (by omega), fun h => absurd h (by omega), fun h => absurd h (by omega), fun h => absurd h (by omega), fun h => absurd h (by omega), fun _ => A.w0 (by omega), fun h => absurd h (by omega)⟩

theorem cat1 {zs : List Int} {y : RS} (A : At zs 1 y) (h : fxnE y.zs 0 = 0) (a' : Option Addr) (l c : Nat) : At zs 2 { y with a := a', len := l, cap := c, zs := y.zs.drop 4 } := by
  have he : fxnE (zs.drop 4) 0 = 0 := by
    rw [A.z] at h
    exact h
  have hz : y.zs.drop 4 = restAt zs 2 := by
    rw [A.z]
    show (zs.drop (4 * 1)).drop 4 = zs.drop (4 * 2)
    rw [List.drop_drop]
  exact ⟨hz, A.e.trans (firstE_go he), fun _ => A.x (by omega), fun h => absurd h (by omega), fun h => absurd h (by omega), fun h => absurd h (by omega), fun h => absurd h (by omega), fun h => absurd h (by omega), fun _ => A.w0 (by omega), fun h => absurd h (by omega)⟩

theorem cat2 {zs : List Int} {y : RS} (A : At zs 2 y) (h : fxnE y.zs 2 = 0) (a' : Option Addr) (l c : Nat) : At zs 3 { y with a := a', len := l, cap := c, zs := y.zs.drop 4 } := by
  have he : fxnE (zs.drop 8) 2 = 0 := by
    rw [A.z] at h
    exact h
  have hz : y.zs.drop 4 = restAt zs 3 := by
    rw [A.z]
    show (zs.drop (4 * 2)).drop 4 = zs.drop (4 * 3)
    rw [List.drop_drop]
  exact ⟨hz, A.e.trans (firstE_go he), fun _ => A.x (by omega), fun h => absurd h (by omega), fun h => absurd h (by omega), fun h => absurd h (by omega), fun h => absurd h (by omega), fun h => absurd h (by omega), fun _ => A.w0 (by omega), fun h => absurd h (by omega)⟩

theorem cat3 {zs : List Int} {y : RS} (A : At zs 3 y) (h : getE y.zs = 0) (a' : Option Addr) (l c : Nat) : At zs 4 { y with p := be (y.zs.take 4), a := a', len := l, cap := c, zs := y.zs.drop 4 } := by
  have he : getE (zs.drop 12) = 0 := by
    rw [A.z] at h
    exact h
  have hz : y.zs.drop 4 = restAt zs 4 := by
    rw [A.z]
    show (zs.drop (4 * 3)).drop 4 = zs.drop (4 * 4)
    rw [List.drop_drop]
  exact ⟨hz, A.e.trans (firstE_go he), fun _ => A.x (by omega), fun _ => by show be (y.zs.take 4) = _; rw [A.z]; rfl, fun h => absurd h (by omega), fun h => absurd h (by omega), fun h => absurd h (by omega), fun h => absurd h (by omega), fun _ => A.w0 (by omega), fun h => absurd h (by omega)⟩

theorem cat4 {zs : List Int} {y : RS} (A : At zs 4 y) (h : getE y.zs = 0) (a' : Option Addr) (l c : Nat) : At zs 5 { y with v := be (y.zs.take 4), a := a', len := l, cap := c, zs := y.zs.drop 4 } := by
  have he : getE (zs.drop 16) = 0 := by
    rw [A.z] at h
    exact h
  have hz : y.zs.drop 4 = restAt zs 5 := by
    rw [A.z]
    show (zs.drop (4 * 4)).drop 4 = zs.drop (4 * 5)
    rw [List.drop_drop]
  exact ⟨hz, A.e.trans (firstE_go he), fun _ => A.x (by omega), fun _ => A.p (by omega), fun _ => by show be (y.zs.take 4) = _; rw [A.z]; rfl, fun h => absurd h (by omega), fun h => absurd h (by omega), fun h => absurd h (by omega), fun _ => A.w0 (by omega), fun h => absurd h (by omega)⟩

theorem cat5 {zs : List Int} {y : RS} (A : At zs 5 y) (h : getE y.zs = 0) (a' : Option Addr) (l c : Nat) : At zs 6 { y with c := be (y.zs.take 4), a := a', len := l, cap := c, zs := y.zs.drop 4 } := by
  have he : getE (zs.drop 20) = 0 := by
    rw [A.z] at h
    exact h
  have hz : y.zs.drop 4 = restAt zs 6 := by
    rw [A.z]
    show (zs.drop (4 * 5)).drop 4 = zs.drop (4 * 6)
    rw [List.drop_drop]
  exact ⟨hz, A.e.trans (firstE_go he), fun _ => A.x (by omega), fun _ => A.p (by omega), fun _ => A.v (by omega), fun _ => by show be (y.zs.take 4) = _; rw [A.z]; rfl, fun h => absurd h (by omega), fun h => absurd h (by omega), fun _ => A.w0 (by omega), fun h => absurd h (by omega)⟩

theorem cat6 {zs : List Int} {y : RS} (A : At zs 6 y) (h : flvE y.zs = 0) (a' : Option Addr) (l c : Nat) : At zs 7 { y with f := be (y.zs.take 4), a := a', len := l, cap := c, zs := y.zs.drop 4 } := by
  have he : flvE (zs.drop 24) = 0 := by
    rw [A.z] at h
    exact h
  have hz : y.zs.drop 4 = restAt zs 7 := by
    rw [A.z]
    show (zs.drop (4 * 6)).drop 4 = zs.drop (4 * 7)
    rw [List.drop_drop]
  exact ⟨hz, A.e.trans (firstE_go he), fun _ => A.x (by omega), fun _ => A.p (by omega), fun _ => A.v (by omega), fun _ => A.c (by omega), fun _ => by show be (y.zs.take 4) = _; rw [A.z]; rfl, fun h => absurd h (by omega), fun _ => A.w0 (by omega), fun h => absurd h (by omega)⟩

theorem whoE_z {zs : List Int} {y : RS} (A : At zs 7 y) : whoE y.zs y.f = whoE (clH zs) (clF zs) := by rw [A.z, A.f (by omega)]; rfl
theorem cat7n {zs : List Int} {y : RS} (A : At zs 7 y) (hf : y.f = 0) (h : notE y.zs = 0) (a' : Option Addr) (l c : Nat) : At zs 8 { y with a := a', len := l, cap := c, zs := y.zs.drop (opL y.zs 400) } := by
  have hF : clF zs = 0 := by rw [← A.f (by omega)]; exact hf
  have he : whoE (clH zs) (clF zs) = 0 := by
    rw [← whoE_z A, whoE, if_pos hf]
    exact h
  obtain ⟨q1, q2, q3, q4, q5⟩ := A.w0 (by omega)
  refine ⟨by show y.zs.drop (opL y.zs 400) = _; rw [A.z]; rfl, A.e.trans (firstE_go he), fun _ => A.x (by omega), fun _ => A.p (by omega), fun _ => A.v (by omega), fun _ => A.c (by omega), fun _ => A.f (by omega), fun _ => ?_, fun h => absurd h (by omega), fun h => absurd h (by omega)⟩
  simp only [clS, clM, clU, clG, clL, if_pos hF]
  exact ⟨q1, by rw [q2]; rfl, q3, q4, q5⟩
theorem cat7w {zs : List Int} {y : RS} (A : At zs 7 y) (hf : y.f ≠ 0) (h : opE y.zs 400 = 0) (hc : crE (opZ y.zs 400) = 0) (a' : Option Addr) (l c : Nat) (ga : Option Addr) (gl gc : Nat) :
    At zs 8 { y with s := crS (opZ y.zs 400), m := strOfNums (crM (opZ y.zs 400)), u := crU (opZ y.zs 400), g := crG (opZ y.zs 400), ga := ga, gl := gl, gc := gc, gs := crL (opZ y.zs 400), a := a', len := l, cap := c, zs := y.zs.drop (opL y.zs 400) } := by
  have hF : clF zs ≠ 0 := by rw [← A.f (by omega)]; exact hf
  have he : whoE (clH zs) (clF zs) = 0 := by
    rw [← whoE_z A, whoE, if_neg hf, if_pos h]
    exact hc
  have hz : y.zs = clH zs := A.z
  refine ⟨by show y.zs.drop (opL y.zs 400) = _; rw [A.z]; rfl, A.e.trans (firstE_go he), fun _ => A.x (by omega), fun _ => A.p (by omega), fun _ => A.v (by omega), fun _ => A.c (by omega), fun _ => A.f (by omega), fun _ => ?_, fun h => absurd h (by omega), fun h => absurd h (by omega)⟩
  simp only [clS, clM, clU, clG, clL, clW, if_neg hF, hz, and_self]
theorem cat8 {zs : List Int} {y : RS} (A : At zs 8 y) (h : fxnE y.zs 0 = 0) (a' : Option Addr) (l c : Nat) : At zs 9 { y with a := a', len := l, cap := c, zs := y.zs.drop 4 } := by
  have he : fxnE (clR zs) 0 = 0 := by
    rw [A.z] at h
    exact h
  exact ⟨by show y.zs.drop 4 = _; rw [A.z]; rfl, A.e.trans (firstE_go he), fun _ => A.x (by omega), fun _ => A.p (by omega), fun _ => A.v (by omega), fun _ => A.c (by omega), fun _ => A.f (by omega), fun _ => A.w (by omega), fun h => absurd h (by omega), fun h => absurd h (by omega)⟩
theorem cat9 {zs : List Int} {y : RS} (A : At zs 9 y) (h : notE y.zs = 0) (a' : Option Addr) (l c : Nat) : At zs 10 { y with a := a', len := l, cap := c, zs := y.zs.drop (opL y.zs 400) } := by
  have he : notE (clN zs) = 0 := by
    rw [A.z] at h
    exact h
  exact ⟨by show y.zs.drop (opL y.zs 400) = _; rw [A.z]; rfl, A.e.trans (firstE_go he), fun _ => A.x (by omega), fun _ => A.p (by omega), fun _ => A.v (by omega), fun _ => A.c (by omega), fun _ => A.f (by omega), fun _ => A.w (by omega), fun h => absurd h (by omega), fun h => absurd h (by omega)⟩
theorem cat10 {zs : List Int} {y : RS} (A : At zs 10 y) (ba : Option Addr) (bl bc : Nat) : At zs 11 { y with ba := ba, bl := bl, bc := bc, bs := y.zs } :=
  ⟨A.z, A.e, fun _ => A.x (by omega), fun _ => A.p (by omega), fun _ => A.v (by omega), fun _ => A.c (by omega), fun _ => A.f (by omega), fun _ => A.w (by omega), fun h => absurd h (by omega), fun _ => A.z⟩
end Go.Proofs.YtciinabhelfnoaaGreatDoor
