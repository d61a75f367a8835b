/- What the specification draws of processes: l4Bent and DrawStepsUnder: whatever is drawn, it is a short list of steps of small parts. -/
import Derived.Test.YtnbmpofmieagfaaGreatDoorJFnProcs46
namespace Go.Proofs.YtnbmpofmieagfaaGreatDoor
open Go.RowKit
set_option linter.unusedVariables false
namespace Dp
open Ex (hid nvals)
open Nd (NodeD)
open St (StepD)
open Nst (own)
open So (SOwn SAt SJ SJ_eq scell nodes_own)
open DqE (Bx code_src code_bx code_alloc src_alloc src_below src_grown)
/-- One cell of a step is set: a list of steps again, if the cell fits. -/
theorem at_set {w0 w : World} {B g cap j k : Nat} {u vc ve : Value} {ss : List StepD} {s' : StepD} {C E : Nat → Value} (h : SAt w0 B (.slice (some ⟨g, 0, none⟩) ss.length cap) ss C E) (hj : j < ss.length) (hb : ∀ b, B ≤ b → b < w0.heap.size → w.heap[b]? = w0.heap[b]?) (hk : k < 6)
    (hcell : (scell (SJ ss j) (C j) (E j)).set k u = scell s' vc ve) (hvc : (vc = C j ∧ s'.cond = (SJ ss j).cond) ∨ Nd.At (w.setCell ⟨g, j * 6 + k, none⟩ u) B vc s'.cond) (hve : (ve = E j ∧ s'.expr = (SJ ss j).expr) ∨ Nd.At (w.setCell ⟨g, j * 6 + k, none⟩ u) B ve s'.expr) :
    St.At (w.setCell ⟨g, j * 6 + k, none⟩ u) B (.slice (some ⟨g, 0, none⟩) ss.length cap) (ss.set j s') := by
  have h1 := h.keep hb
  have h2 := h1.setRow (fun j _ => So.scell_len _ _ _) hj hk u
  obtain ⟨g', cap', hsl, hgB, hgl, hgc, hgm⟩ := Nst.own_some h2.row (by omega)
  cases hsl
  have hlen : ∀ x, x < ss.length → ((fun i => if i = j then (scell (SJ ss j) (C j) (E j)).set k u else scell (SJ ss i) (C i) (E i)) x).length = 6 := fun x hx => by
    by_cases e : x = j
    · simp only [e, if_true]; simp [scell]
    · simp only [e, if_false]; rfl
  have hc : ∀ i, i < ss.length → Nd.At (w.setCell ⟨g, j * 6 + k, none⟩ u) B (C i) (SJ ss i).cond := fun i hi => by
    have := h2.sub (2 * i) (by omega)
    rw [So.sub_even] at this
    exact nodes_own this
  have he : ∀ i, i < ss.length → Nd.At (w.setCell ⟨g, j * 6 + k, none⟩ u) B (E i) (SJ ss i).expr := fun i hi => by
    have := h2.sub (2 * i + 1) (by omega)
    rw [So.sub_odd] at this
    exact nodes_own this
  refine ⟨_, cap, by rw [List.length_set], by rw [List.length_set]; exact hgc, hgm, .inr ⟨g, 0, rfl, hgB, hgl, fun i hi => ?_⟩⟩
  rw [List.length_set] at hi
  rw [Nat.zero_add]
  have cl : ∀ q, q < 6 → (w.setCell ⟨g, j * 6 + k, none⟩ u).cell? ⟨g, i * 6 + q, none⟩ = ((fun i => if i = j then (scell (SJ ss j) (C j) (E j)).set k u else scell (SJ ss i) (C i) (E i)) i)[q]? := fun q hq => h2.cell hlen hi hq
  by_cases e : i = j
  · subst e
    simp only [if_true, hcell] at cl
    rw [List.getElem_set_self]
    refine ⟨cl 0 (by omega), cl 1 (by omega), cl 2 (by omega), cl 3 (by omega), vc, ve, cl 4 (by omega), cl 5 (by omega), ?_, ?_⟩
    · rcases hvc with ⟨rfl, h3⟩ | h3
      · rw [h3]; exact hc _ hj
      · exact h3
    · rcases hve with ⟨rfl, h3⟩ | h3
      · rw [h3]; exact he _ hj
      · exact h3
  · simp only [e, if_false] at cl
    rw [List.getElem_set_ne (fun e2 => e e2.symm), ← SJ_eq hi]
    exact ⟨cl 0 (by omega), cl 1 (by omega), cl 2 (by omega), cl 3 (by omega), C i, E i, cl 4 (by omega), cl 5 (by omega), hc i hi, he i hi⟩
theorem small_set {ss : List StepD} {j : Nat} {s' : StepD} (h : small ss) (hs : St.Small1 40 s') : small (ss.set j s') := fun x hx => by
  rcases List.mem_or_eq_of_mem_set hx with h1 | h1
  · exact h x h1
  · rw [h1]; exact hs
theorem at_take {w : World} {B n cap i : Nat} {a : Option Addr} {ss : List StepD} (h : St.At w B (.slice a n cap) ss) (hi : i ≤ ss.length) : St.At w B (.slice a i cap) (ss.take i) := by
  obtain ⟨a', cap', e, hle, hmx, h⟩ := h
  cases e
  have hl : (ss.take i).length = i := by simp; omega
  refine ⟨a, cap, by rw [hl], by rw [hl]; omega, hmx, ?_⟩
  rcases h with rfl | ⟨g, o, rfl, hB, hg, hc⟩
  · left; simp
  · refine .inr ⟨g, o, rfl, hB, hg, fun q hq => ?_⟩
    rw [hl] at hq
    rw [List.getElem_take]
    exact hc q (by omega)
abbrev Z6 : Array Value := #[.int .i64 0, .int .i64 0, .string { data := #[] }, .int .i64 0, .slice none 0 0, .slice none 0 0]
theorem made_cell (w : World) (t : TypeId) (i q : Nat) (hi : i < 25) (hq : q < 6) : (w.alloc (.cells (madeCells Z6 150) t)).cell? ⟨w.heap.size, i * 6 + q, none⟩ = Z6[q]? := by
  rw [World.cell?_alloc_new]
  have hl : i * 6 + q < 150 := by omega
  have hm : (i * 6 + q) % 6 = q := by omega
  have : (madeCells Z6 150)[i * 6 + q]? = some (Z6[(i * 6 + q) % 6]!) := by
    unfold madeCells
    simp [hl]
  rw [this, hm]
  obtain rfl | rfl | rfl | rfl | rfl | rfl : q = 0 ∨ q = 1 ∨ q = 2 ∨ q = 3 ∨ q = 4 ∨ q = 5 := by omega
  all_goals rfl
theorem made_at (w : World) (B : Nat) (hB : B ≤ w.heap.size) : St.At (w.alloc (.cells (madeCells Z6 150) 53)) B (.slice (some ⟨w.heap.size, 0, none⟩) 25 25) (List.replicate 25 ⟨0, 0, ⟨#[]⟩, 0, [], []⟩) := by
  refine ⟨_, 25, by rw [List.length_replicate], by rw [List.length_replicate]; omega, by unfold maxLen; omega, .inr ⟨w.heap.size, 0, rfl, hB, by simp, fun i hi => ?_⟩⟩
  rw [List.length_replicate] at hi
  rw [Nat.zero_add, List.getElem_replicate]
  have hc := fun q hq => made_cell w 53 i q hi hq
  exact ⟨hc 0 (by omega), hc 1 (by omega), hc 2 (by omega), hc 3 (by omega), .slice none 0 0, .slice none 0 0, hc 4 (by omega), hc 5 (by omega), ⟨_, _, rfl, Nat.le_refl _, Nat.zero_le _, .inl rfl⟩, ⟨_, _, rfl, Nat.le_refl _, Nat.zero_le _, .inl rfl⟩⟩
theorem k5 {w : World} {z0 z1 z2 z3 z4 : Int} : ∀ (i : Nat) (z : Int), ([z0, z1, z2, z3, z4] : List Int)[i]? = some z → (w.alloc (.cells #[.int .i64 z0, .int .i64 z1, .int .i64 z2, .int .i64 z3, .int .i64 z4] 2)).cell? ⟨w.heap.size, i, none⟩ = some (.int .i64 z)
  | 0, z, h => by cases h; go_simp
  | 1, z, h => by cases h; go_simp
  | 2, z, h => by cases h; go_simp
  | 3, z, h => by cases h; go_simp
  | 4, z, h => by cases h; go_simp
  | i + 5, z, h => by simp at h
theorem name_at {w : World} {r : Nat} (h : r < 3) : ∃ s : ByteArray, s.size ≤ 8 ∧ (w.alloc (.cells #[.string ⟨#[]⟩, .string ⟨#[65]⟩, .string ⟨#[98]⟩] 9)).cell? ⟨w.heap.size, r, none⟩ = some (.string s) := by
  obtain rfl | rfl | rfl : r = 0 ∨ r = 1 ∨ r = 2 := by omega
  · exact ⟨⟨#[]⟩, by decide, by rw [World.cell?_alloc_new]; rfl⟩
  · exact ⟨⟨#[65]⟩, by decide, by rw [World.cell?_alloc_new]; rfl⟩
  · exact ⟨⟨#[98]⟩, by decide, by rw [World.cell?_alloc_new]; rfl⟩
/-- What l4Bent answers: a short list of small steps. -/
def BP (S len cap : Nat) (a : Option Addr) (w : World) (e : Ending) (w' : World) : Prop := ∃ (ss : List StepD) (u : Value) (pos' : Nat), ss.length ≤ 25 ∧ small ss ∧ e = .returned u ∧ St.At w' (S + 1) u ss ∧ Drw.Src w' S a len cap pos' ∧ pos' ≤ 700000 ∧ Below S w w'
set_option maxRecDepth 100000 in
set_option maxHeartbeats 16000000 in
theorem bentP (B S len cap pos : Nat) (a : Option Addr) (w : World) (hBS : B ≤ S) (hln : len ≤ 2000000) (hs : Drw.Src w S a len cap pos) (hc : Drw.CodeAt B w a len) (hp : pos ≤ 1000) :
    Calls Tryz.prog 17 #[.pointer (some ⟨S, 0, none⟩)] w (BP S len cap a w) := by
  have HR := hid (right B S len cap pos a w hBS hln hs hc hp)
  have HC0 := hid hc
  clear hs hc
  go_enter Tryz.func17, Tryz.ntmps17
  go_wp2_with fail
  refine HR.out.mono ?_
  rintro e w1 ⟨ss, u, p1, h1, h24, hsm, rfl, ho, hs1, hp1, hb1⟩
  obtain ⟨C, E, hF0⟩ := ho
  obtain ⟨g, cg, rfl, hgB, hgl0, hgc, hgm⟩ := Nst.own_some hF0.row (by omega)
  have HF0 := hid hF0
  have HSM := hid hsm
  have HS1 := hid hs1
  have HC1 := hid (code_low HC0.out hb1 hBS)
  have HB1 := hid hb1
  clear hF0 hsm hs1 hb1 HC0 HR
  go_wp2_with fail
  refine (Drw.next B S len cap p1 ss.length a _ HS1.out HC1.out hBS hln (by omega) (by omega) (by omega)).mono ?_
  rintro e w2 ⟨i, hi, rfl, hs2, hg2⟩
  have HF2 := hid (HF0.out.keep (fun b hb hl => hg2.block b hl (fun e => by cases e; omega)))
  have HB2 := hid (below_src HB1.out hg2 HS1.out.lt)
  have HC2 := hid (code_src HC1.out hg2 hBS)
  have HS2 := hid hs2
  clear hs2 hg2 HF0 HB1 HC1 HS1
  go_wp2_with fail
  refine (Drw.next B S len cap (p1 + 1) 16 a _ HS2.out HC2.out hBS hln (by omega) (by omega) (by omega)).mono ?_
  rintro e w3 ⟨r, hr, rfl, hs3, hg3⟩
  have HF := hid (HF2.out.keep (fun b hb hl => hg3.block b hl (fun e => by cases e; omega)))
  have HB := hid (below_src HB2.out hg3 HS2.out.lt)
  have HC := hid (code_src HC2.out hg3 hBS)
  have HS := hid hs3
  have hl3 := hs3.lt
  have hgl := (Nst.own_lt HF.out.row (b := g) rfl).2
  clear hs3 hg3 HF2 HB2 HC2 HS2 hgl0
  have q1 : (i : Int) < (ss.length : Int) := by omega
  have HSI := hid (HSM.out _ (List.getElem_mem hi))
  have HSJ := hid (SJ_eq hi)
  have HCN := hid (fun (w' : World) (h : Below w3.heap.size w3 w') => HF.out.below h)
  by_cases r0 : r = 0
  · subst r0
    have HSa := hid (src_alloc HS.out (.cells #[.int .i64 0, .int .i64 9, .int .i64 1, .int .i64 2, .int .i64 3] 2))
    have HCa := hid (code_alloc HC.out (.cells #[.int .i64 0, .int .i64 9, .int .i64 1, .int .i64 2, .int .i64 3] 2))
    have HBa : Hid (Below S w (w3.alloc (.cells #[.int .i64 0, .int .i64 9, .int .i64 1, .int .i64 2, .int .i64 3] 2))) := hid (HB.out.alloc (Nat.le_of_lt hl3) _)
    have HFa := hid (HF.out.below ((Below.refl _ w3).alloc (Nat.le_refl _) (.cells #[.int .i64 0, .int .i64 9, .int .i64 1, .int .i64 2, .int .i64 3] 2)))
    go_wp2_with fail
    refine (Drw.pick B S len cap (p1 + 1 + 1) w3.heap.size 5 [0, 9, 1, 2, 3] a _ HSa.out HCa.out hBS hln (by omega) rfl (by omega) (by omega) (by omega) (by simp) k5).mono ?_
    rintro e w5 ⟨z, hz, rfl, hs5, hg5⟩
    have hF5 := HFa.out.keep (w' := w5) (fun b hb hl => hg5.block b hl (fun e => by cases e; omega))
    have c0 : w5.cell? ⟨g, i * 6, none⟩ = some (.int .i64 (SJ ss i).kind) := hF5.cell (fun j _ => So.scell_len _ _ _) hi (i := 0) (by omega)
    have f0 := hF5.free (i * 6)
    have HB5 := hid (below_src HBa.out hg5 HSa.out.lt)
    have HAT : Hid (St.At (w5.setCell ⟨g, i * 6, none⟩ (.int .i64 z)) (S + 1) (.slice (some ⟨g, 0, none⟩) ss.length cg) (ss.set i { SJ ss i with kind := z })) := hid (at_set (k := 0) hF5 hi (fun _ _ _ => rfl) (by omega) rfl (.inl ⟨rfl, rfl⟩) (.inl ⟨rfl, rfl⟩))
    have HS5 := hid hs5
    have HSM5 := hid (small_set (j := i) (s' := { SJ ss i with kind := z }) HSM.out (by rw [HSJ.out]; exact HSI.out))
    clear hz hs5 hg5 hF5 HSa HCa HBa HFa
    go_wp2
    go_ret
    exact ⟨_, _, _, by rw [List.length_set]; omega, HSM5.out, rfl, HAT.out, src_other HS5.out (by omega), by omega, HB5.out.setCell (p := ⟨g, i * 6, none⟩) (show S ≤ g by omega) _⟩
  have s0 : ((r : Int) == 0) = false := by simp; omega
  by_cases r1 : r = 1
  · subst r1
    have HSa := hid (src_alloc HS.out (.cells #[.int .i64 (-1), .int .i64 0, .int .i64 1, .int .i64 24] 2))
    have HCa := hid (code_alloc HC.out (.cells #[.int .i64 (-1), .int .i64 0, .int .i64 1, .int .i64 24] 2))
    have HBa : Hid (Below S w (w3.alloc (.cells #[.int .i64 (-1), .int .i64 0, .int .i64 1, .int .i64 24] 2))) := hid (HB.out.alloc (Nat.le_of_lt hl3) _)
    have HFa := hid (HF.out.below ((Below.refl _ w3).alloc (Nat.le_refl _) (.cells #[.int .i64 (-1), .int .i64 0, .int .i64 1, .int .i64 24] 2)))
    go_wp2_with fail
    refine (Drw.pick B S len cap (p1 + 1 + 1) w3.heap.size 4 [-1, 0, 1, 24] a _ HSa.out HCa.out hBS hln (by omega) rfl (by omega) (by omega) (by omega) (by simp) k4).mono ?_
    rintro e w5 ⟨z, hz, rfl, hs5, hg5⟩
    have hF5 := HFa.out.keep (w' := w5) (fun b hb hl => hg5.block b hl (fun e => by cases e; omega))
    have c0 : w5.cell? ⟨g, i * 6 + 1, none⟩ = some (.int .i64 (SJ ss i).parent) := hF5.cell (fun j _ => So.scell_len _ _ _) hi (i := 1) (by omega)
    have f0 := hF5.free (i * 6 + 1)
    have HB5 := hid (below_src HBa.out hg5 HSa.out.lt)
    have HAT : Hid (St.At (w5.setCell ⟨g, i * 6 + 1, none⟩ (.int .i64 z)) (S + 1) (.slice (some ⟨g, 0, none⟩) ss.length cg) (ss.set i { SJ ss i with parent := z })) := hid (at_set (k := 1) hF5 hi (fun _ _ _ => rfl) (by omega) rfl (.inl ⟨rfl, rfl⟩) (.inl ⟨rfl, rfl⟩))
    have HS5 := hid hs5
    have HSM5 := hid (small_set (j := i) (s' := { SJ ss i with parent := z }) HSM.out (by rw [HSJ.out]; exact HSI.out))
    clear hz hs5 hg5 hF5 HSa HCa HBa HFa
    go_wp2
    go_ret
    exact ⟨_, _, _, by rw [List.length_set]; omega, HSM5.out, rfl, HAT.out, src_other HS5.out (by omega), by omega, HB5.out.setCell (p := ⟨g, i * 6 + 1, none⟩) (show S ≤ g by omega) _⟩
  have s1 : ((r : Int) == 1) = false := by simp; omega
  by_cases r2 : r = 2
  · subst r2
    have HSa := hid (src_alloc HS.out (.cells #[.int .i64 (-1), .int .i64 0, .int .i64 100, .int .i64 5] 2))
    have HCa := hid (code_alloc HC.out (.cells #[.int .i64 (-1), .int .i64 0, .int .i64 100, .int .i64 5] 2))
    have HBa : Hid (Below S w (w3.alloc (.cells #[.int .i64 (-1), .int .i64 0, .int .i64 100, .int .i64 5] 2))) := hid (HB.out.alloc (Nat.le_of_lt hl3) _)
    have HFa := hid (HF.out.below ((Below.refl _ w3).alloc (Nat.le_refl _) (.cells #[.int .i64 (-1), .int .i64 0, .int .i64 100, .int .i64 5] 2)))
    go_wp2_with fail
    refine (Drw.pick B S len cap (p1 + 1 + 1) w3.heap.size 4 [-1, 0, 100, 5] a _ HSa.out HCa.out hBS hln (by omega) rfl (by omega) (by omega) (by omega) (by simp) k4).mono ?_
    rintro e w5 ⟨z, hz, rfl, hs5, hg5⟩
    have hF5 := HFa.out.keep (w' := w5) (fun b hb hl => hg5.block b hl (fun e => by cases e; omega))
    have c0 : w5.cell? ⟨g, i * 6 + 3, none⟩ = some (.int .i64 (SJ ss i).arg) := hF5.cell (fun j _ => So.scell_len _ _ _) hi (i := 3) (by omega)
    have f0 := hF5.free (i * 6 + 3)
    have HB5 := hid (below_src HBa.out hg5 HSa.out.lt)
    have HAT : Hid (St.At (w5.setCell ⟨g, i * 6 + 3, none⟩ (.int .i64 z)) (S + 1) (.slice (some ⟨g, 0, none⟩) ss.length cg) (ss.set i { SJ ss i with arg := z })) := hid (at_set (k := 3) hF5 hi (fun _ _ _ => rfl) (by omega) rfl (.inl ⟨rfl, rfl⟩) (.inl ⟨rfl, rfl⟩))
    have HS5 := hid hs5
    have HSM5 := hid (small_set (j := i) (s' := { SJ ss i with arg := z }) HSM.out (by rw [HSJ.out]; exact HSI.out))
    clear hz hs5 hg5 hF5 HSa HCa HBa HFa
    go_wp2
    go_ret
    exact ⟨_, _, _, by rw [List.length_set]; omega, HSM5.out, rfl, HAT.out, src_other HS5.out (by omega), by omega, HB5.out.setCell (p := ⟨g, i * 6 + 3, none⟩) (show S ≤ g by omega) _⟩
  have s2 : ((r : Int) == 2) = false := by simp; omega
  by_cases r3 : r = 3
  · subst r3
    have HBN := hid (DqE.bent B S w3.heap.size len cap (p1 + 1 + 1) a w3 hBS hl3 (Nat.le_refl _) hln HS.out HC.out (by omega))
    go_wp2_with fail
    refine HBN.out.mono ?_
    rintro e w5 ⟨ns, u, hn, rfl, hat, hbx, p5, hs5, hp5⟩
    obtain ⟨au, cu, rfl⟩ := hat.slice
    have hF5 := HF.out.keep (w' := w5) (fun b hb hl => hbx.block b hl (by omega))
    have hgl5 := (Nst.own_lt hF5.row (b := g) rfl).2
    obtain ⟨ac, cc, hcs⟩ : ∃ ac cc, C i = .slice ac (SJ ss i).cond.length cc := by
      have h9 := So.SAt.cond HF.out hi
      rw [← HSJ.out] at h9
      exact Nst.own_slice h9
    have c0 : w5.cell? ⟨g, i * 6 + 4, none⟩ = some (C i) := hF5.cell (fun j _ => So.scell_len _ _ _) hi (i := 4) (by omega)
    rw [hcs] at c0
    have f0 := hF5.free (i * 6 + 4)
    have hat2 : Nd.At (w5.setCell ⟨g, i * 6 + 4, none⟩ (.slice au ns.length cu)) (S + 1) (.slice au ns.length cu) ns := (hat.kept (by simp [World.setCell]) (fun b hb hl => Below.heap_setCell _ _ _ _ (by dsimp only; omega))).mono (by omega)
    have HAT : Hid (St.At (w5.setCell ⟨g, i * 6 + 4, none⟩ (.slice au ns.length cu)) (S + 1) (.slice (some ⟨g, 0, none⟩) ss.length cg) (ss.set i { SJ ss i with cond := ns })) := hid (at_set (k := 4) hF5 hi (fun _ _ _ => rfl) (by omega) rfl (.inr hat2) (.inl ⟨rfl, rfl⟩))
    have HB5 := hid (HB.out.trans (hbx.lower (by omega)))
    have HS5 := hid hs5
    have HSM5 := hid (small_set (j := i) (s' := { SJ ss i with cond := ns }) HSM.out (by rw [HSJ.out]; exact ⟨HSI.out.1, by show (ns.length : Int) ≤ 40; omega, HSI.out.2.2⟩))
    clear hs5 hbx hat hat2 hF5 hcs HBN
    go_wp2
    go_ret
    exact ⟨_, _, _, by rw [List.length_set]; omega, HSM5.out, rfl, HAT.out, src_other HS5.out (by omega), by omega, HB5.out.setCell (p := ⟨g, i * 6 + 4, none⟩) (show S ≤ g by omega) _⟩
  have s3 : ((r : Int) == 3) = false := by simp; omega
  by_cases r4 : r = 4
  · subst r4
    have HBN := hid (DqE.bent B S w3.heap.size len cap (p1 + 1 + 1) a w3 hBS hl3 (Nat.le_refl _) hln HS.out HC.out (by omega))
    go_wp2_with fail
    refine HBN.out.mono ?_
    rintro e w5 ⟨ns, u, hn, rfl, hat, hbx, p5, hs5, hp5⟩
    obtain ⟨au, cu, rfl⟩ := hat.slice
    have hF5 := HF.out.keep (w' := w5) (fun b hb hl => hbx.block b hl (by omega))
    have hgl5 := (Nst.own_lt hF5.row (b := g) rfl).2
    obtain ⟨ac, cc, hcs⟩ : ∃ ac cc, E i = .slice ac (SJ ss i).expr.length cc := by
      have h9 := So.SAt.expr HF.out hi
      rw [← HSJ.out] at h9
      exact Nst.own_slice h9
    have c0 : w5.cell? ⟨g, i * 6 + 5, none⟩ = some (E i) := hF5.cell (fun j _ => So.scell_len _ _ _) hi (i := 5) (by omega)
    rw [hcs] at c0
    have f0 := hF5.free (i * 6 + 5)
    have hat2 : Nd.At (w5.setCell ⟨g, i * 6 + 5, none⟩ (.slice au ns.length cu)) (S + 1) (.slice au ns.length cu) ns := (hat.kept (by simp [World.setCell]) (fun b hb hl => Below.heap_setCell _ _ _ _ (by dsimp only; omega))).mono (by omega)
    have HAT : Hid (St.At (w5.setCell ⟨g, i * 6 + 5, none⟩ (.slice au ns.length cu)) (S + 1) (.slice (some ⟨g, 0, none⟩) ss.length cg) (ss.set i { SJ ss i with expr := ns })) := hid (at_set (k := 5) hF5 hi (fun _ _ _ => rfl) (by omega) rfl (.inl ⟨rfl, rfl⟩) (.inr hat2))
    have HB5 := hid (HB.out.trans (hbx.lower (by omega)))
    have HS5 := hid hs5
    have HSM5 := hid (small_set (j := i) (s' := { SJ ss i with expr := ns }) HSM.out (by rw [HSJ.out]; exact ⟨HSI.out.1, HSI.out.2.1, by show (ns.length : Int) ≤ 40; omega⟩))
    clear hs5 hbx hat hat2 hF5 hcs HBN
    go_wp2
    go_ret
    exact ⟨_, _, _, by rw [List.length_set]; omega, HSM5.out, rfl, HAT.out, src_other HS5.out (by omega), by omega, HB5.out.setCell (p := ⟨g, i * 6 + 5, none⟩) (show S ≤ g by omega) _⟩
  have s4 : ((r : Int) == 4) = false := by simp; omega
  by_cases r5 : r = 5
  · subst r5
    have HSa := hid (src_alloc HS.out (.cells #[.string ⟨#[]⟩, .string ⟨#[65]⟩, .string ⟨#[98]⟩] 9))
    have HCa := hid (code_alloc HC.out (.cells #[.string ⟨#[]⟩, .string ⟨#[65]⟩, .string ⟨#[98]⟩] 9))
    have HBa : Hid (Below S w (w3.alloc (.cells #[.string ⟨#[]⟩, .string ⟨#[65]⟩, .string ⟨#[98]⟩] 9))) := hid (HB.out.alloc (Nat.le_of_lt hl3) _)
    have HFa := hid (HF.out.below ((Below.refl _ w3).alloc (Nat.le_refl _) (.cells #[.string ⟨#[]⟩, .string ⟨#[65]⟩, .string ⟨#[98]⟩] 9)))
    have HNA := hid (fun r (h : r < 3) => name_at (w := w3) h)
    have hzl : w3.heap.size < (w3.alloc (.cells #[.string ⟨#[]⟩, .string ⟨#[65]⟩, .string ⟨#[98]⟩] 9)).heap.size := by simp
    go_wp2_with fail
    refine (Drw.next B S len cap (p1 + 1 + 1) 3 a _ HSa.out HCa.out hBS hln (by omega) (by omega) (by omega)).mono ?_
    rintro e w5 ⟨r, hr3, rfl, hs5, hg5⟩
    obtain ⟨nm, hnm, hcs⟩ := HNA.out r hr3
    have cN : w5.cell? ⟨w3.heap.size, r, none⟩ = some (.string nm) := (World.cell?_of_block (a := ⟨w3.heap.size, r, none⟩) (hg5.block w3.heap.size hzl (fun e => by cases e; omega))).trans hcs
    have q2 : (r : Int) < 3 := by omega
    have hF5 := HFa.out.keep (w' := w5) (fun b hb hl => hg5.block b hl (fun e => by cases e; omega))
    have c0 : w5.cell? ⟨g, i * 6 + 2, none⟩ = some (.string (SJ ss i).name) := hF5.cell (fun j _ => So.scell_len _ _ _) hi (i := 2) (by omega)
    have f0 := hF5.free (i * 6 + 2)
    have HB5 := hid (below_src HBa.out hg5 HSa.out.lt)
    have HAT : Hid (St.At (w5.setCell ⟨g, i * 6 + 2, none⟩ (.string nm)) (S + 1) (.slice (some ⟨g, 0, none⟩) ss.length cg) (ss.set i { SJ ss i with name := nm })) := hid (at_set (k := 2) hF5 hi (fun _ _ _ => rfl) (by omega) rfl (.inl ⟨rfl, rfl⟩) (.inl ⟨rfl, rfl⟩))
    have HS5 := hid hs5
    have HSM5 := hid (small_set (j := i) (s' := { SJ ss i with name := nm }) HSM.out (by rw [HSJ.out]; exact ⟨by show (nm.size : Int) ≤ 40; omega, HSI.out.2.1, HSI.out.2.2⟩))
    clear hs5 hg5 hF5 hcs hzl HSa HCa HBa HFa HNA
    go_wp2
    go_ret
    exact ⟨_, _, _, by rw [List.length_set]; omega, HSM5.out, rfl, HAT.out, src_other HS5.out (by omega), by omega, HB5.out.setCell (p := ⟨g, i * 6 + 2, none⟩) (show S ≤ g by omega) _⟩
  have s5 : ((r : Int) == 5) = false := by simp; omega
  by_cases r6 : r = 6
  · subst r6
    have hmk : ∀ w : World, (Instr.makeSlice 24 (.int .i64 25) (.int .i64 25)).run Tryz.prog w = .ok (.slice (some ⟨w.heap.size, 0, none⟩) 25 25) (w.alloc (.cells (madeCells Z6 150) 53)) := fun w => Nd.make_row (P := Tryz.prog) Tryz.underlying24 So.infoStep 25 (by omega) (by omega) w
    have HAT := hid (made_at w3 (S + 1) hl3)
    have HS5 := hid (src_alloc HS.out (.cells (madeCells Z6 150) 53))
    have HB5 := hid (HB.out.alloc (Nat.le_of_lt hl3) (.cells (madeCells Z6 150) 53))
    go_wp2
    go_ret
    exact ⟨_, _, _, by simp, fun s hs => (by rw [List.eq_of_mem_replicate hs]; exact ⟨by decide, by simp, by simp⟩), rfl, HAT.out, HS5.out, by omega, HB5.out⟩
  have s6 : ((r : Int) == 6) = false := by simp; omega
  by_cases r7 : r = 7
  · subst r7
    have HAT := hid (at_take (i := i) (SOwn.steps ⟨C, E, HF.out⟩) (by omega))
    have q2 : (i : Int) ≤ (cg : Int) := by omega
    go_wp2
    go_ret
    exact ⟨_, _, _, by simp; omega, fun s hs => HSM.out s (List.mem_of_mem_take hs), rfl, HAT.out, HS.out, by omega, HB.out⟩
  have s7 : ((r : Int) == 7) = false := by simp; omega
  have HAT := hid (SOwn.steps ⟨C, E, HF.out⟩)
  go_wp2
  go_ret
  exact ⟨_, _, _, by omega, HSM.out, rfl, HAT.out, HS.out, by omega, HB.out⟩
/-- What DrawStepsUnder answers. -/
def DP (w : World) (e : Ending) (w' : World) : Prop := ∃ (ss : List StepD) (u : Value) (z : Int), ss.length ≤ 25 ∧ small ss ∧ (-1 ≤ z ∧ z ≤ 26) ∧ e = .returned (.tuple #[u, .int .i64 z]) ∧ St.At w' w.heap.size u ss ∧ Below w.heap.size w w'
set_option maxRecDepth 100000 in
set_option maxHeartbeats 4000000 in
theorem drawUnder (len cap : Nat) (a : Option Addr) (w : World) (hln : len ≤ 2000000) (hc : Drw.CodeAt w.heap.size w a len) :
    Calls Tryz.prog 5 #[.slice a len cap] w (DP w) := by
  have hb0 : Below w.heap.size w (w.alloc (.cells #[.slice a len cap, .int .i64 0] 80)) := (Below.refl _ w).alloc (Nat.le_refl _) _
  have HCa := hid (code_alloc hc (.cells #[.slice a len cap, .int .i64 0] 80))
  have HT := hid (bentP w.heap.size w.heap.size len cap 0 a _ (Nat.le_refl _) hln (World.alloc_heap_new w (.cells #[.slice a len cap, .int .i64 0] 80)) HCa.out (by omega))
  have HB := hid hb0
  clear hc hb0
  go_enter Tryz.func5, Tryz.ntmps5
  go_wp2_with fail
  refine (Drw.source a len cap w).mono ?_
  rintro e w1 ⟨rfl, hw1⟩
  subst hw1
  generalize w.alloc (.cells #[.slice a len cap, .int .i64 0] 80) = w2 at *
  go_wp2_with fail
  refine HT.out.mono ?_
  rintro e w3 ⟨ss, u, p3, h25, hsm, rfl, hat, hs3, hp3, hb3⟩
  obtain ⟨au, cu, rfl⟩ := hat.slice
  have HAT := hid hat
  have HSM := hid hsm
  have HB3 := hid (HB.out.trans hb3)
  have HC3 := hid (code_low HCa.out hb3 (Nat.le_refl _))
  have HS3 := hid hs3
  clear hat hsm hs3 hb3 HT HB HCa
  have HN := hid (Drw.next w.heap.size w.heap.size len cap p3 (ss.length + 2) a w3 HS3.out HC3.out (Nat.le_refl _) hln (by omega) (by omega) (by omega))
  rw [show ((ss.length + 2 : Nat) : Int) = (ss.length : Int) + 2 by omega] at HN
  go_wp2_with fail
  refine HN.out.mono ?_
  rintro e w4 ⟨r, hr, rfl, hs4, hg4⟩
  have HA4 := hid ((HAT.out.kept hg4.size (fun b hb hl => hg4.block b hl (fun e => by cases e; omega))).mono (Nat.le_succ _))
  have HB4 := hid (below_src HB3.out hg4 HS3.out.lt)
  have HZ : Hid ((-1 : Int) ≤ (r : Int) - 1 ∧ (r : Int) - 1 ≤ 26) := hid (by omega)
  clear hs4 hg4 HAT HB3 HN
  go_wp2
  go_ret2
  exact ⟨ss, _, _, h25, HSM.out, HZ.out, rfl, HA4.out, HB4.out⟩
end Dp
end Go.Proofs.YtnbmpofmieagfaaGreatDoor
