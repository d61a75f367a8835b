/- What the specification draws of variables: l3Vars. -/
import Derived.Test.YtpegbiggmjepgaaDrB
import Derived.Test.YtpegbiggmjepgaaIntsX
import Derived.OwnWalk
import Derived.RangeFuncBox
namespace Go.Proofs.Ytpegbiggmjepgaa
open Go.RowKit
set_option linter.unusedVariables false
namespace DrE
open Ex
theorem infoI64v : (Try.prog.info? 2).map (fun i => (i.zero, i.size, i.bytes)) = some (some (.int .i64 0), 1, 8) := by kernel_rfl
theorem fiveV {w : World} (r : Int) : ∀ (i : Nat) (z : Int), ([0, 1, 2, r, 999999] : List Int)[i]? = some z → (w.alloc (.cells #[.int .i64 0, .int .i64 1, .int .i64 2, .int .i64 r, .int .i64 999999] 2)).cell? ⟨w.heap.size, i, none⟩ = some (.int .i64 z)
  | 0, z, h => by cases h; go_simp
  | 1, z, h => by cases h; go_simp
  | 2, z, h => by cases h; go_simp
  | 3, z, h => by cases h; go_simp
  | 4, z, h => by cases h; go_simp
  | i + 5, z, h => by simp at h
theorem one_new {w : World} (b : Nat) (hb : b = w.heap.size) (x : Value) (t : TypeId) : ∀ j u, [x][j]? = some u → (w.alloc (.cells #[x] t)).cell? ((⟨b, 0, none⟩ : Addr).add j) = some u := by
  subst hb
  intro j u hj
  rw [Go.WideShapes.add_plain]
  simp only [Nat.zero_add, World.cell?_alloc_new]
  simpa using hj
def ivals (xs : List Int) : List Value := xs.map (.int .i64)
theorem own_lt' {w : World} {B n b sz : Nat} {e : TypeId} {v : Value} {xs : List Value} (h : w.ownsRow B e sz v n xs) (hb : v.ownBlock = some b) : B ≤ b := by
  rcases h.2 with ⟨rfl, _⟩ | ⟨g, cap, cur, rfl, hbg, hg, _⟩
  · simp [Value.ownBlock] at hb
  · simp [Value.ownBlock] at hb; omega
set_option maxRecDepth 100000 in
set_option maxHeartbeats 8000000 in
theorem vars (B S len cap pos : Nat) (a : Option Addr) (w : World) (hBS : B ≤ S) (hln : len ≤ 2000000) (hs : Drw.Src w S a len cap pos) (hc : Drw.CodeAt B w a len) (hp : pos ≤ 1000) :
    Calls Try.prog 28 #[.pointer (some ⟨S, 0, none⟩)] w fun e w' => ∃ (xs : List Int) (u : Value), xs.length = 4 ∧ (∀ x ∈ xs, -5 ≤ x ∧ x ≤ 999999) ∧ e = .returned u ∧ w'.ownsRow (S + 1) 2 1 u 4 (ivals xs) ∧ Drw.Src w' S a len cap (pos + 8) ∧ Below S w w' := by
  obtain ⟨j0, hj, hy0, hy1, hy2⟩ := info_parts infoI64v
  have hl := hs.lt
  have HS0 := hid (src_alloc hs (.cells #[] 2))
  have HB0 : Hid (Below S w (w.alloc (.cells #[] 2))) := hid ((Below.refl S w).alloc (Nat.le_of_lt hl) _)
  have HC0 := hid (code_below hc HB0.out hBS)
  have HO0 : Hid ((w.alloc (.cells #[] 2)).ownsRow (S + 1) 2 1 (.slice (some ⟨w.heap.size, 0, none⟩) 0 0) 0 []) := hid (World.ownsRow_made w #[] 0 (by omega) (by decide) (by simp))
  clear hs hc
  go_enter Try.func28, Try.ntmps28
  go_wp2
  go_loopw [3, 4] (fun o x wr => ∃ (i : Nat) (xs : List Int), x = .int .i64 i ∧ i ≤ 4 ∧ Hid (xs.length = i ∧ ∀ x ∈ xs, -5 ≤ x ∧ x ≤ 999999) ∧ (∃ a5 c5, o = .slice a5 i c5) ∧ Hid (wr.ownsRow (S + 1) 2 1 o i (ivals xs)) ∧ Hid (Drw.Src wr S a len cap (pos + 2 * i)) ∧ Hid (Drw.CodeAt B wr a len) ∧ Hid (Below S w wr)) (fun _ x _ => 4 - (intOf x).toNat)
  case atStart => exact ⟨0, [], rfl, by decide, hid ⟨rfl, by simp⟩, ⟨_, _, rfl⟩, HO0, HS0, HC0, HB0⟩
  case round =>
    obtain ⟨i, xs, rfl, hi, HX, ⟨a5, c5, rfl⟩, HO, HS, HC, HB⟩ := hrel
    by_cases hlt : i < 4
    · have q1 : (i : Int) < 4 := by omega
      go_wp2_with fail
      refine (Drw.next B S len cap (pos + 2 * i) 20 a _ HS.out HC.out hBS hln (by omega) (by omega) (by omega)).mono ?_
      rintro e w1 ⟨r, hr, rfl, hs1, hg1⟩
      have hlS := HS.out.lt
      have HB1 := hid (HB.out.trans (below_src hg1 hlS))
      have HC1 := hid (code_below HC.out (below_src hg1 hlS) hBS)
      have HO1 := hid (own_src HO.out hg1)
      have hl1 := hs1.lt
      have HSa := hid (src_alloc hs1 (.cells #[.int .i64 0, .int .i64 1, .int .i64 2, .int .i64 ((r : Int) - 5), .int .i64 999999] 2))
      have HBa : Hid (Below S w1 (w1.alloc (.cells #[.int .i64 0, .int .i64 1, .int .i64 2, .int .i64 ((r : Int) - 5), .int .i64 999999] 2))) := hid ((Below.refl S w1).alloc (Nat.le_of_lt hl1) _)
      have HCa := hid (code_below HC1.out HBa.out hBS)
      have HOa := hid (HO1.out.alloc (.cells #[.int .i64 0, .int .i64 1, .int .i64 2, .int .i64 ((r : Int) - 5), .int .i64 999999] 2))
      clear HS HC HO HB hs1 hg1
      go_wp2_with fail
      refine (Drw.pick B S len cap (pos + 2 * i + 1) w1.heap.size 5 [0, 1, 2, (r : Int) - 5, 999999] a _ HSa.out HCa.out hBS hln (by omega) rfl (by omega) (by omega) (by omega) (by simp) (fiveV _)).mono ?_
      rintro e w2 ⟨z, hz, rfl, hs2, hg2⟩
      have hl2 := hs2.lt
      have hla := HSa.out.lt
      have HB2 := hid ((HB1.out.trans HBa.out).trans (below_src hg2 hla))
      have HC2 := hid (code_below HCa.out (below_src hg2 hla) hBS)
      have hown2 := own_src HOa.out hg2
      have HS2 := hid hs2
      have hzb : -5 ≤ z ∧ z ≤ 999999 := by simp at hz; omega
      have HZ := hid hzb
      clear HSa HBa HCa HOa HO1 HC1 HB1 hs2 hg2 hz hzb
      go_wp2_with (at_builtin; go_must (refine wpList_append_own _ rfl _ _ 25 rfl (S + 1) 2 j0 (.int .i64 0) 1 8 Try.underlying25 hj hy0 hy1 hy2 rfl (by decide) _ _ _ rfl (hown2.alloc _) ⟨w2.heap.size, 0, none⟩ 1 1 [.int .i64 z] rfl rfl (one_new _ rfl _ _) (by simp [Value.oneCell']) (by unfold maxLen; omega) (by omega) (by simp; omega) ?_); intro v3 w3 hown3 hg3 _; obtain ⟨g3, c3, rfl⟩ := ownsRow_succ hown3)
      have hne : (Value.slice a5 i c5).ownBlock ≠ some S := fun e => by have := own_lt' hown2 e; omega
      have HA2 : Below S w2 (w2.alloc (.cells #[.int .i64 z] 2)) := (Below.refl S w2).alloc (Nat.le_of_lt hl2) _
      have HG : Below S w2 w3 := HA2.grown hg3 (by simp; omega) (fun b e => by have := own_lt' hown2 e; omega)
      refine ⟨⟨i + 1, xs ++ [z], by simp, by omega, hid ⟨by simp [HX.out.1], ?_⟩, ⟨_, _, rfl⟩, hid (by simpa [ivals] using hown3), hid ?_, hid (code_below HC2.out HG hBS), hid (HB2.out.trans HG)⟩, by simp [intOf]; omega⟩
      · intro x hx
        rcases List.mem_append.1 hx with h | h
        · exact HX.out.2 x h
        · simp at h; subst h; exact HZ.out
      · have h := src_grown (src_alloc HS2.out (.cells #[.int .i64 z] 2)) hg3 hne
        rw [show pos + 2 * (i + 1) = pos + 2 * i + 1 + 1 by omega]
        exact h
    · have hi4 : i = 4 := by omega
      subst hi4
      go_wp2
      go_ret
      exact ⟨xs, _, HX.out.1, HX.out.2, rfl, HO.out, HS.out, HB.out⟩
end DrE
end Go.Proofs.Ytpegbiggmjepgaa
