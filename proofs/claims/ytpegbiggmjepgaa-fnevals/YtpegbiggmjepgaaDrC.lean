/- What the specification draws of expressions: l3Draw, l3Bent, DrawExprText. -/
import Derived.Test.YtpegbiggmjepgaaDrB
namespace Go.Proofs.Ytpegbiggmjepgaa
open Go.RowKit
set_option linter.unusedVariables false
namespace DrE
open Ex
open Nd (NodeD)
theorem three {w : World} : ∀ (i : Nat) (z : Int), ([1, 1, 2] : List Int)[i]? = some z → (w.alloc (.cells #[.int .i64 1, .int .i64 1, .int .i64 2] 2)).cell? ⟨w.heap.size, i, none⟩ = some (.int .i64 z)
  | 0, z, h => by cases h; go_simp
  | 1, z, h => by cases h; go_simp
  | 2, z, h => by cases h; go_simp
  | i + 3, z, h => by simp at h
theorem mk_more {B S len cap : Nat} {a : Option Addr} {t d : Int} {sz sz' K K' : Nat} (h : MK B S len cap a t d sz K) (hs : sz ≤ sz') (hk : K ≤ K') : MK B S len cap a t d sz' K' := by
  intro ns v pos w h1 h2 h3 h4 h5
  refine (h ns v pos w h1 h2 h3 (by omega) (by omega)).mono ?_
  rintro e w1 ⟨tm, u, p, g1, g2, g3, g4, g5, g6, g7⟩
  exact ⟨tm, u, p, g1, by omega, g3, g4, g5, by omega, g7⟩
theorem mk_all (B S len cap : Nat) (a : Option Addr) (hBS : B ≤ S) (hln : len ≤ 2000000) (t d : Int) (ht : t = 1 ∨ t = 2) (hd : d = 1 ∨ d = 2) : MK B S len cap a t d 7 100 := by
  have m0 := make0 B S len cap a hBS hln
  have i1 : MK B S len cap a 1 1 3 18 := makeInt B S len cap a hBS hln 1 1 4 (by omega) (by omega) (by omega) m0
  have b1 : MK B S len cap a 2 1 3 18 := makeBool B S len cap a hBS hln 1 1 4 (by omega) (by omega) (by omega) m0 (fun h => absurd h (by omega))
  have i2 : MK B S len cap a 1 2 7 46 := makeInt B S len cap a hBS hln 2 3 18 (by omega) (by omega) (by omega) i1
  have b2 : MK B S len cap a 2 2 7 46 := makeBool B S len cap a hBS hln 2 3 18 (by omega) (by omega) (by omega) i1 (fun _ => b1)
  rcases ht with rfl | rfl <;> rcases hd with rfl | rfl
  · exact mk_more i1 (by omega) (by omega)
  · exact mk_more i2 (by omega) (by omega)
  · exact mk_more b1 (by omega) (by omega)
  · exact mk_more b2 (by omega) (by omega)
set_option maxRecDepth 100000 in
set_option maxHeartbeats 4000000 in
theorem draw (B S len cap pos : Nat) (a : Option Addr) (t : Int) (w : World) (hBS : B ≤ S) (hln : len ≤ 2000000) (ht : t = 1 ∨ t = 2) (hs : Drw.Src w S a len cap pos) (hc : Drw.CodeAt B w a len) (hp : pos ≤ 1000) :
    Calls Try.prog 25 #[.pointer (some ⟨S, 0, none⟩), .int .i64 t] w fun e w' => ∃ (tm : Tm) (u : Value) (pos' : Nat), tm.ok ∧ tm.size ≤ 7 ∧ e = .returned u ∧ w'.ownsRow (S + 1) 54 4 u tm.size (nvals (tm.nodes 0)) ∧ Drw.Src w' S a len cap pos' ∧ pos' ≤ pos + 101 ∧ Below S w w' := by
  have HM := hid (fun d (hd : d = 1 ∨ d = 2) => mk_all B S len cap a hBS hln t d ht hd)
  have HS := hid hs
  have HC := hid hc
  have hl := hs.lt
  have HSa := hid (src_alloc hs (.cells #[.int .i64 1, .int .i64 1, .int .i64 2] 2))
  have HBa : Hid (Below S w (w.alloc (.cells #[.int .i64 1, .int .i64 1, .int .i64 2] 2))) := hid ((Below.refl S w).alloc (Nat.le_of_lt hl) _)
  have HCa := hid (code_below hc HBa.out hBS)
  clear hs hc ht
  go_enter Try.func25, Try.ntmps25
  go_wp2_with fail
  refine (Drw.pick B S len cap pos w.heap.size 3 [1, 1, 2] a _ HSa.out HCa.out hBS hln (by omega) rfl (by omega) (by omega) (by omega) (by simp) three).mono ?_
  rintro e w1 ⟨d, hd, rfl, hs1, hg1⟩
  have hd2 : d = 1 ∨ d = 2 := by simp at hd; omega
  have HB1 := hid (HBa.out.trans (below_src hg1 HSa.out.lt))
  have HC1 := hid (code_below HCa.out (below_src hg1 HSa.out.lt) hBS)
  have HS1 := hid hs1
  have HM1 := hid (HM.out d hd2)
  clear hs1 hg1 hd HSa HBa HCa hd2 HM
  go_wp2_with fail
  refine (HM1.out [] _ (pos + 1) _ HS1.out HC1.out (World.ownsRow_nil _ _ _ 4) (by simp) (by omega)).mono ?_
  rintro e w2 ⟨tm, u, pos', hok, hsz, rfl, ho, hs2, hp2, hb2⟩
  simp only [List.length_nil, Nat.zero_add, List.nil_append] at ho
  obtain ⟨au, cu, rfl⟩ := own4_slice ho
  have HOK := hid hok
  have HO := hid ho
  have HS2 := hid hs2
  have HB2 := hid (HB1.out.trans hb2)
  have q : ¬ (16 : Int) < (tm.size : Int) := by omega
  clear hok ho hs2 hb2 HS1 HC1 HB1 HM1 HS HC
  go_wp2
  go_loopw [5] (fun x wr => x = .slice au tm.size cu ∧ wr = w2) (fun _ _ => 0)
  case atStart => exact ⟨rfl, rfl⟩
  case round =>
    obtain ⟨rfl, rfl⟩ := hrel
    go_wp2
    go_ret
    exact ⟨tm, _, pos', HOK.out, hsz, rfl, HO.out, HS2.out, by omega, HB2.out⟩
end DrE
end Go.Proofs.Ytpegbiggmjepgaa
