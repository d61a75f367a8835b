/- What the specification draws of processes: l4Right and l4Bent: whatever is drawn, it is a short list of steps of small parts. -/
import Derived.Test.YtnbmpofmieagfaaGreatDoorJFnProcs44
import Derived.Test.YtnbmpofmieagfaaGreatDoorJFnProcs45
namespace Go.Proofs.YtnbmpofmieagfaaGreatDoor
open Go.RowKit
set_option linter.unusedVariables false
namespace Dp
open Ex (hid nvals)
open Nd (NodeD)
open St (StepD)
open Nst (own)
open So (SOwn SAt SJ SJ_eq scell)
open DqE (Bx code_src code_bx code_alloc src_alloc src_below src_grown)
theorem mp_more {B S len cap : Nat} {a : Option Addr} {d : Int} {sz sz' K K' : Nat} (h : MP B S len cap a d sz K) (hs : sz ≤ sz') (hk : K ≤ K') : MP B S len cap a d sz' K' := by
  intro ss v pos par w h1 h2 h3 h4 h5 h6
  refine (h ss v pos par w h1 h2 h3 h4 (by omega) (by omega)).mono ?_
  rintro e w1 ⟨st, u, p, g1, g2, g3, g4, g5, g6, g7, g8⟩
  exact ⟨st, u, p, g1, by omega, g3, g4, g5, g6, by omega, g8⟩
theorem mp_all (B S len cap : Nat) (a : Option Addr) (hBS : B ≤ S) (hln : len ≤ 2000000) (r : Nat) (hr : r < 2) : MP B S len cap a (2 + (r : Int)) 40 28000 := by
  have m0 : MP B S len cap a 0 1 700 := make B S len cap a hBS hln 0 0 0 (by omega) (by omega) (fun h => absurd h (by omega))
  have m1 : MP B S len cap a 1 4 2800 := make B S len cap a hBS hln 1 1 700 (by omega) (by omega) (fun _ => m0)
  have m2 : MP B S len cap a 2 13 9100 := make B S len cap a hBS hln 2 4 2800 (by omega) (by omega) (fun _ => m1)
  have m3 : MP B S len cap a 3 40 28000 := make B S len cap a hBS hln 3 13 9100 (by omega) (by omega) (fun _ => m2)
  obtain rfl | rfl : r = 0 ∨ r = 1 := by omega
  · exact mp_more m2 (by omega) (by omega)
  · exact m3
theorem one_own (w : World) (B : Nat) (hB : B ≤ w.heap.size) (s : StepD) (hc : s.cond = []) (he : s.expr = []) : SOwn (w.alloc (.cells #[.int .i64 s.kind, .int .i64 s.parent, .string s.name, .int .i64 s.arg, .slice none 0 0, .slice none 0 0] 53)) B (.slice (some ⟨w.heap.size, 0, none⟩) 1 1) [s] := by
  have hrow : (w.alloc (.cells #[.int .i64 s.kind, .int .i64 s.parent, .string s.name, .int .i64 s.arg, .slice none 0 0, .slice none 0 0] 53)).ownsRow B 53 6 (.slice (some ⟨w.heap.size, 0, none⟩) 1 1) 1 (Nst.flat (fun j => scell (SJ [s] j) (.slice none 0 0) (.slice none 0 0)) 1) :=
    ⟨rfl, .inr ⟨w.heap.size, 1, #[.int .i64 s.kind, .int .i64 s.parent, .string s.name, .int .i64 s.arg, .slice none 0 0, .slice none 0 0], rfl, hB, World.alloc_heap_new w _, Nat.le_refl _, by unfold maxLen; omega, rfl, rfl⟩⟩
  refine ⟨fun _ => .slice none 0 0, fun _ => .slice none 0 0, ⟨hrow, fun i hi => ?_, fun i j _ _ _ b h => ?_, fun i _ b h => ?_⟩⟩
  · have hs : ∀ k, k < 1 → SJ [s] k = s
      | 0, _ => rfl
      | k + 1, h => absurd h (by omega)
    have hi2 : i / 2 < 1 := by
      have : i < 2 * 1 := hi
      omega
    unfold So.subs
    split
    · rw [hs _ hi2, hc]; exact World.ownsRow_nil _ _ _ 4
    · rw [hs _ hi2, he]; exact World.ownsRow_nil _ _ _ 4
  · unfold So.subs at h
    split at h <;> simp [So.nsub, own, Value.ownBlock] at h
  · unfold So.subs at h
    split at h <;> simp [So.nsub, own, Value.ownBlock] at h
/-- What l4Right answers: a short list of small steps, in memory of its own. -/
def RP (S len cap : Nat) (a : Option Addr) (w : World) (e : Ending) (w' : World) : Prop := ∃ (ss : List StepD) (u : Value) (pos' : Nat), 1 ≤ ss.length ∧ ss.length ≤ 24 ∧ small ss ∧ e = .returned u ∧ SOwn w' (S + 1) u ss ∧ Drw.Src w' S a len cap pos' ∧ pos' ≤ 600000 ∧ Below S w w'
set_option maxRecDepth 100000 in
set_option maxHeartbeats 8000000 in
theorem right (B S len cap pos : Nat) (a : Option Addr) (w : World) (hBS : B ≤ S) (hln : len ≤ 2000000) (hs : Drw.Src w S a len cap pos) (hc : Drw.CodeAt B w a len) (hp : pos ≤ 1000) :
    Calls Tryz.prog 39 #[.pointer (some ⟨S, 0, none⟩)] w (RP S len cap a w) := by
  have HMP := hid (mp_all B S len cap a hBS hln)
  have HS := hid hs
  have HC := hid hc
  clear hs hc
  go_enter Tryz.func39, Tryz.ntmps39
  go_wp2_with fail
  go_loopw [3, 4] (fun k s4 wr => ∃ (j p : Nat), k = .int .i64 j ∧ (∃ x, s4 = x) ∧ j ≤ 20 ∧ p ≤ pos + 28001 * j ∧ Hid (Drw.Src wr S a len cap p) ∧ Hid (Drw.CodeAt B wr a len) ∧ Hid (Below S w wr)) (fun k _ _ => 20 - (intOf k).toNat)
  case atStart => exact ⟨0, pos, rfl, ⟨_, rfl⟩, by omega, by omega, HS, HC, hid (Below.refl _ _)⟩
  case round =>
    obtain ⟨j, p, rfl, ⟨x, rfl⟩, hj, hpj, HSr, HCr, HBr⟩ := hrel
    have hlr := HSr.out.lt
    by_cases hlt : j < 20
    · have q1 : (j : Int) < 20 := by omega
      go_wp2_with fail
      refine (Drw.next B S len cap p 2 a _ HSr.out HCr.out hBS hln (by omega) (by omega) (by omega)).mono ?_
      rintro e w1 ⟨r, hr, rfl, hs1, hg1⟩
      have HC1 := hid (code_src HCr.out hg1 hBS)
      have HB1 := hid (below_src HBr.out hg1 hlr)
      have HM1 := hid (HMP.out r hr [] _ (p + 1) (-1) w1 hs1 HC1.out (SOwn.nil _ _) (fun s hs => by simp at hs) (by simp) (by omega))
      clear hs1 hg1
      go_wp2_with fail
      refine HM1.out.mono ?_
      rintro e w2 ⟨st, u, p2, h1, h2, hsm, rfl, ho, hs2, hp2, hb2⟩
      obtain ⟨au, cu, rfl⟩ := ho.slice
      have HO := hid ho
      have HSM := hid hsm
      have HS2 := hid hs2
      have HB2 := hid (HB1.out.trans hb2)
      have HC2 := hid (code_low HC1.out hb2 hBS)
      clear ho hsm hs2 hb2 HM1
      by_cases h24 : st.length ≤ 24
      · have q2 : (st.length : Int) ≤ 24 := by omega
        have HF : Hid (1 ≤ st.length ∧ st.length ≤ 24 ∧ p2 ≤ 600000) := hid ⟨by simp at h1; omega, h24, by omega⟩
        go_wp2
        go_ret
        exact ⟨st, _, p2, HF.out.1, HF.out.2.1, HSM.out, rfl, HO.out, HS2.out, HF.out.2.2, HB2.out⟩
      · have q2 : decide ((st.length : Int) ≤ 24) = false := decide_eq_false (by omega)
        clear h24
        go_wp2
        exact ⟨⟨j + 1, p2, by simp, ⟨_, rfl⟩, by omega, by omega, HS2, HC2, HB2⟩, by simp [intOf]; omega⟩
    · have q1 : decide ((j : Int) < 20) = false := decide_eq_false (by omega)
      have HO := hid (one_own wr (S + 1) hlr ⟨2, -1, ⟨#[97]⟩, 0, [], []⟩ rfl rfl)
      have HS2 := hid (src_alloc HSr.out (.cells #[.int .i64 2, .int .i64 (-1), .string ⟨#[97]⟩, .int .i64 0, .slice none 0 0, .slice none 0 0] 53))
      have HB2 := hid (HBr.out.alloc (Nat.le_of_lt hlr) (.cells #[.int .i64 2, .int .i64 (-1), .string ⟨#[97]⟩, .int .i64 0, .slice none 0 0, .slice none 0 0] 53))
      clear hlt
      go_wp2
      go_ret
      exact ⟨_, _, p, by simp, by simp, fun s hs => (by rw [List.mem_singleton.1 hs]; exact ⟨by decide, by simp, by simp⟩), rfl, HO.out, HS2.out, by omega, HB2.out⟩
end Dp
end Go.Proofs.YtnbmpofmieagfaaGreatDoor
