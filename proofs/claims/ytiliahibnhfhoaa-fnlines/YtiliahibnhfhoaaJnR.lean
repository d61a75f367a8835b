/- What the laws do with rows of texts and with copies of bytes. No condition. -/
import Derived.Test.YtiliahibnhfhoaaJnG
import Derived.Test.YtiliahibnhfhoaaJnN
import Derived.Test.YtiliahibnhfhoaaMkT
import Derived.Deep.RegionHeld3
namespace Go.Proofs.Ytiliahibnhfhoaa
open Go.RowKit
set_option linter.unusedVariables false
namespace Jn
open Go.Lib (decDigits)
open Mk (mt)
theorem make_row {P : Program} {t e : TypeId} {z : Value} {sz bytes : Nat} (ht : P.underlying t = some (.slice e)) (hinfo : (P.info? e).map (fun i => (i.zero, i.size, i.bytes)) = some (some z, sz, bytes))
    (n : Nat) (hb : bytes * n ≤ 281474976710656) (hn : n ≤ 9223372036854775807) (w : World) :
    (Instr.makeSlice t (.int .i64 (n : Int)) (.int .i64 (n : Int))).run P w = .ok (.slice (some ⟨w.heap.size, 0, none⟩) n n) (w.alloc (.cells (madeCells z.cells (n * sz)) e)) := by
  cases hi : P.info? e with
  | none => rw [hi] at hinfo; cases hinfo
  | some i =>
    rw [hi] at hinfo
    simp only [Option.map_some, Option.some.injEq, Prod.mk.injEq] at hinfo
    obtain ⟨h1, h2, h3⟩ := hinfo
    have hb' : (i.bytes : Int) * (n : Int) ≤ 281474976710656 := by
      have h : ((i.bytes * n : Nat) : Int) ≤ 281474976710656 := by rw [h3]; omega
      rwa [Int.natCast_mul] at h
    have h := run_make (P := P) w t e i z ht hi h1 .i64 .i64 n n (by omega) (Int.le_refl _) hb' (by omega)
    rw [h2] at h
    simpa using h
def halfV (d : List UInt8) (zs : List Value) (k : Nat) : List Value := vbs (d.take k) ++ zs.drop k
theorem halfV_set {d : List UInt8} {zs : List Value} {k : Nat} (h : k < d.length) (hz : zs.length = d.length) : (halfV d zs k).set k (vb d[k]) = halfV d zs (k + 1) := by
  unfold halfV
  have hk : (vbs (d.take k)).length = k := by rw [vbs_len, List.length_take]; omega
  rw [List.drop_eq_getElem_cons (by omega : k < zs.length), List.set_append_right _ _ (by omega), hk, Nat.sub_self, List.set_cons_zero, List.take_succ_eq_append_getElem h, vbs_app, List.append_assoc]
  rfl
set_option maxRecDepth 100000 in
set_option maxHeartbeats 2000000 in
theorem toS (B : Nat) (d : List UInt8) (v : Value) (w : World) (hl : d.length ≤ 1048576) (hB : B ≤ w.heap.size) (ha : At w B v d) :
    Calls Try.prog 21 #[v] w fun e w' => ∃ a c, e = .returned (.slice a d.length c) ∧ Ob w' w.heap.size (.slice a d.length c) d ∧ Below w.heap.size w w' := by
  obtain ⟨a, cap, rfl, hcap⟩ := ha.slice
  have HA := hid ha
  clear ha
  have hmk := make_row (P := Try.prog) Try.underlying24 info8 d.length (by omega) (by omega)
  obtain ⟨zs, hzs, hz1⟩ : ∃ zs : List Value, madeCells (Value.int .u8 0).cells (d.length * 1) = zs.toArray ∧ zs.length = d.length := ⟨(madeCells (Value.int .u8 0).cells (d.length * 1)).toList, by simp, by simp [size_madeCells]⟩
  have HO0 : Hid ((w.alloc (.cells zs.toArray 5)).ownsRow w.heap.size 5 1 (.slice (some ⟨w.heap.size, 0, none⟩) d.length d.length) d.length (halfV d zs 0)) := hid
    ⟨by simp [halfV, vbs, hz1], .inr ⟨w.heap.size, d.length, zs.toArray, rfl, Nat.le_refl _, heap_alloc_new w _, Nat.le_refl _, by unfold maxLen; omega, by simp [hz1], by simp [halfV, vbs]; exact List.take_of_length_le (by omega)⟩⟩
  have HZ := hid hz1
  rw [hzs] at hmk
  clear hzs hz1
  go_enter Try.func21, Try.ntmps21
  go_wp2
  go_loopw [4] (fun i wr => ∃ k : Nat, i = .int .i64 k ∧ k ≤ d.length ∧ Hid (wr.ownsRow w.heap.size 5 1 (.slice (some ⟨w.heap.size, 0, none⟩) d.length d.length) d.length (halfV d zs k)) ∧ Below w.heap.size w wr) (fun i _ => d.length - (intOf i).toNat)
  case atStart => exact ⟨0, rfl, Nat.zero_le _, HO0, (Below.refl _ _).alloc (Nat.le_refl _) _⟩
  case round =>
    obtain ⟨k, rfl, hkl, HR, hbel⟩ := hrel
    by_cases hlt : k < d.length
    · obtain ⟨g, o, rfl, hg, c0⟩ := (HA.out.below hbel hB).at hlt
      have q1 : (k : Int) < (d.length : Int) := by omega
      obtain ⟨⟨u, hcu⟩, hfu, hbg, hgl⟩ := owns_cell HR.out hlt
      have HS : Hid ((wr.setCell ⟨w.heap.size, k, none⟩ (vb d[k])).ownsRow w.heap.size 5 1 (.slice (some ⟨w.heap.size, 0, none⟩) d.length d.length) d.length (halfV d zs (k + 1))) := hid (by
        have h := (HR.out.stored k (vb d[k])).1
        rw [halfV_set hlt HZ.out] at h
        exact h)
      have hb2 : Below w.heap.size w (wr.setCell ⟨w.heap.size, k, none⟩ (vb d[k])) := hbel.setCell (by simp) _
      unfold vb at HS hb2 c0
      generalize (d[k].toNat : Int) = x at *
      go_wp2
      exact ⟨⟨k + 1, by simp, by omega, HS, hb2⟩, by simp [intOf]; omega⟩
    · obtain rfl : k = d.length := by omega
      have HX : Hid (Ob wr w.heap.size (.slice (some ⟨w.heap.size, 0, none⟩) d.length d.length) d) := hid (by
        have := HR.out
        unfold halfV at this
        rw [List.take_length, List.drop_eq_nil_of_le (Nat.le_of_eq HZ.out), List.append_nil] at this
        exact this)
      go_wp2
      go_ret
      exact ⟨_, _, rfl, HX.out, hbel⟩
theorem Os.cell {w : World} {B : Nat} {a : Option Addr} {n c : Nat} {ls : List (List UInt8)} (h : Os w B (.slice a n c) ls) {i : Nat} (hi : i < ls.length) : ∃ g, a = some ⟨g, 0, none⟩ ∧ g < w.heap.size ∧ w.cell? ⟨g, i, none⟩ = some (.string (str ls[i])) := by
  have hlt := h.lt
  have hcs := fun (g : Nat) (hg : (Value.slice a n c).ownBlock = some g) => World.ownsRow.cells h hg
  obtain ⟨h1, h2⟩ := h
  rcases h2 with ⟨_, hn⟩ | ⟨g, cap, cur, e, hB, hg, hc, _⟩
  · omega
  · cases e
    have := hcs g rfl i (.string (str ls[i])) (by simp [strs, hi])
    rw [addn, Nat.zero_add] at this
    exact ⟨g, rfl, (hlt g rfl).2, this⟩
set_option maxRecDepth 100000 in
set_option maxHeartbeats 2000000 in
theorem eqT (B1 B2 : Nat) (v1 v2 : Value) (xs : List (List UInt8)) (w : World) (hn : xs.length ≤ 1048576) (h1 : Os w B1 v1 xs) (h2 : Os w B2 v2 xs) :
    Calls Try.prog 59 #[v1, v2] w fun e w' => e = .returned (.bool true) ∧ Below w.heap.size w w' := by
  obtain ⟨a1, c1, rfl⟩ := h1.slice
  obtain ⟨a2, c2, rfl⟩ := h2.slice
  have H1 := hid h1
  have H2 := hid h2
  clear h1 h2
  have hb : ((xs.length : Int) != (xs.length : Int)) = false := by simp
  go_enter Try.func59, Try.ntmps59
  go_wp2
  go_loopw [5] (fun i wr => ∃ k : Nat, i = .int .i64 k ∧ k ≤ xs.length ∧ Below w.heap.size w wr) (fun i _ => xs.length - (intOf i).toNat)
  case atStart => exact ⟨0, rfl, Nat.zero_le _, Below.refl _ _⟩
  case round =>
    obtain ⟨k, rfl, hk, hbel⟩ := hrel
    by_cases hlt : k < xs.length
    · obtain ⟨g1, rfl, hg1, hc1⟩ := (H1.out.below hbel (Nat.le_refl _)).cell hlt
      obtain ⟨g2, rfl, hg2, hc2⟩ := (H2.out.below hbel (Nat.le_refl _)).cell hlt
      generalize str xs[k] = x at *
      have hne : (x.toList == x.toList) = true := by simp
      have q1 : (k : Int) < (xs.length : Int) := by omega
      go_wp2
      go_quiet (fail)
      go_wp2
      exact ⟨⟨k + 1, by simp, by omega, below_drewN hbel nq⟩, by simp [intOf]; omega⟩
    · go_wp2
      go_ret
      exact ⟨rfl, hbel⟩
def marksT (k n : Nat) : List (List UInt8) := (List.range n).map fun i => 109 :: decDigits (k + i)
theorem marksT_len (k n : Nat) : (marksT k n).length = n := by simp [marksT]
theorem marksT_succ (k n : Nat) : marksT k (n + 1) = marksT k n ++ [109 :: decDigits (k + n)] := by simp [marksT, List.range_succ]
theorem marksT_get {k n i : Nat} (h : i < n) : (marksT k n)[i]'(by rw [marksT_len]; exact h) = 109 :: decDigits (k + i) := by simp [marksT]
theorem mt_str (k : Nat) : mt k = str (109 :: decDigits k) := rfl
def halfT (k : Nat) (xs : List (List UInt8)) (i : Nat) : List (List UInt8) := marksT k i ++ xs.drop i
theorem halfT_set {k : Nat} {xs : List (List UInt8)} {i : Nat} (h : i < xs.length) : (halfT k xs i).set i (109 :: decDigits (k + i)) = halfT k xs (i + 1) := by
  unfold halfT
  rw [marksT_succ, List.drop_eq_getElem_cons h, List.set_append_right _ _ (Nat.le_of_eq (marksT_len k i)), marksT_len, Nat.sub_self, List.set_cons_zero, List.append_assoc]
  rfl
set_option maxRecDepth 100000 in
set_option maxHeartbeats 2000000 in
theorem markT (B : Nat) (v : Value) (xs : List (List UInt8)) (k0 : Nat) (w : World) (hn : xs.length ≤ 1048576) (h0 : 0 < k0) (hk0 : k0 ≤ 17592186044416) (h : Os w B v xs) :
    Calls Try.prog 60 #[v, .int .i64 (k0 : Int)] w fun e w' => e = .returned (.int .i64 ((k0 : Int) + (xs.length : Int))) ∧ Os w' B v (marksT k0 xs.length) ∧ w.grownBy w' v.ownBlock := by
  obtain ⟨a, cap, rfl⟩ := h.slice
  have HO := hid h
  clear h
  go_enter Try.func60, Try.ntmps60
  go_wp2
  go_loopw [1, 5] (fun q i wr => ∃ k : Nat, i = .int .i64 k ∧ q = .int .i64 ((k0 : Int) + (k : Int)) ∧ k ≤ xs.length ∧ Hid (wr.ownsRow B 9 1 (.slice a xs.length cap) xs.length (strs (halfT k0 xs k))) ∧ w.grownBy wr (Value.slice a xs.length cap).ownBlock) (fun _ i _ => xs.length - (intOf i).toNat)
  case atStart => exact ⟨0, rfl, by simp, Nat.zero_le _, hid (by have := HO.out; unfold Os at this; simpa [halfT, marksT] using this), grown_refl _ _⟩
  case round =>
    obtain ⟨k, rfl, rfl, hk, HR, hbel⟩ := hrel
    by_cases hlt : k < xs.length
    · obtain ⟨g, c2, e2⟩ := owns_some HR.out (by omega)
      cases e2
      have q1 : (k : Int) < (xs.length : Int) := by omega
      have HMT := hid (Mk.markText (k0 + k) wr (by omega) (by omega))
      rw [Int.natCast_add, mt_str] at HMT
      go_wp2_with fail
      refine HMT.out.mono ?_
      rintro e w1 ⟨rfl, hb1⟩
      have hR1 : w1.ownsRow B 9 1 (.slice (some ⟨g, 0, none⟩) xs.length cap) xs.length (strs (halfT k0 xs k)) := HR.out.kept (row := none) ⟨hb1.os, hb1.tape, hb1.output, hb1.size, fun k hk _ => hb1.block k hk⟩ (by simp [Value.ownBlock])
      obtain ⟨⟨u, hcu⟩, hfu, hbg, hgl⟩ := owns_cell hR1 hlt
      have hg1 : w.grownBy w1 (some g) := grown_after hbel ⟨hb1.os, hb1.tape, hb1.output, hb1.size, fun k hk _ => hb1.block k hk⟩
      have HS : Hid ((w1.setCell ⟨g, k, none⟩ (.string (str (109 :: decDigits (k0 + k))))).ownsRow B 9 1 (.slice (some ⟨g, 0, none⟩) xs.length cap) xs.length (strs (halfT k0 xs (k + 1)))) := hid (by
        have h := (hR1.stored k (.string (str (109 :: decDigits (k0 + k))))).1
        have e : (strs (halfT k0 xs k)).set k (.string (str (109 :: decDigits (k0 + k)))) = strs (halfT k0 xs (k + 1)) := by
          unfold strs
          rw [← halfT_set hlt]
          simp
        rw [e] at h
        exact h)
      have hb2 : w.grownBy (w1.setCell ⟨g, k, none⟩ (.string (str (109 :: decDigits (k0 + k))))) (some g) := grown_set hg1 k _
      generalize str (109 :: decDigits (k0 + k)) = sx at *
      clear hb1 hR1 hg1
      go_wp2
      exact ⟨⟨k + 1, by simp, by simp; omega, by omega, HS, hb2⟩, by simp [intOf]; omega⟩
    · obtain rfl : k = xs.length := by omega
      have HS : Hid (Os wr B (.slice a xs.length cap) (marksT k0 xs.length)) := hid (by unfold Os; rw [marksT_len]; simpa [halfT] using HR.out)
      go_wp2
      go_ret
      exact ⟨rfl, HS.out, hbel⟩
set_option maxRecDepth 100000 in
set_option maxHeartbeats 2000000 in
theorem heldT (B : Nat) (v : Value) (n : Nat) (k0 : Nat) (w : World) (hn : n ≤ 1048576) (h0 : 0 < k0) (hk0 : k0 ≤ 17592186044416) (h : Os w B v (marksT k0 n)) :
    Calls Try.prog 61 #[v, .int .i64 (k0 : Int)] w fun e w' => e = .returned (.int .i64 ((k0 : Int) + (n : Int))) ∧ Below w.heap.size w w' := by
  obtain ⟨a, cap, rfl⟩ := h.slice
  have H1 := hid h
  clear h
  rw [marksT_len] at H1 ⊢
  go_enter Try.func61, Try.ntmps61
  go_wp2
  go_loopw [1, 5] (fun q i wr => ∃ k : Nat, i = .int .i64 k ∧ q = .int .i64 ((k0 : Int) + (k : Int)) ∧ k ≤ n ∧ Below w.heap.size w wr) (fun _ i _ => n - (intOf i).toNat)
  case atStart => exact ⟨0, rfl, by simp, Nat.zero_le _, Below.refl _ _⟩
  case round =>
    obtain ⟨k, rfl, rfl, hk, hbel⟩ := hrel
    by_cases hlt : k < n
    · have HMT := hid (fun w' => Mk.markText (k0 + k) w' (by omega) (by omega))
      simp only [Int.natCast_add, mt_str] at HMT
      obtain ⟨g, rfl, hg, hc⟩ := (H1.out.below hbel (Nat.le_refl _)).cell (i := k) (by rw [marksT_len]; exact hlt)
      rw [marksT_get hlt] at hc
      generalize str (109 :: decDigits (k0 + k)) = sx at *
      have hne : (sx.toList == sx.toList) = true := by simp
      have q1 : (k : Int) < (n : Int) := by omega
      have hbd : Below wr.heap.size wr wr.drew := (Below.refl _ wr).drew
      go_wp2_with fail
      refine wp_region_held_drew (S := fun wx => Below wr.heap.size wr wx) (by kernel_rfl) hbd (fun hHeld => ?_)
      refine wpAnyH_take (i := 0) (oi := { dst := some 12, op := Go.Op.move (Go.Operand.tmp 0), type := 30, pos := "exact.go:185", after := #[], guard := none }) (v := .slice (some ⟨g, 0, none⟩) n cap) rfl (by kernel_rfl) (by kernel_rfl) (by kernel_rfl) (fun _ _ _ h => h) (Or.inl ⟨by rfl, by intro w hSw; (try dsimp only at hSw); go_simp⟩) (by assumption) ?_
      simp only [Act.put, List.setIfInBounds_toArray, List.set_cons_zero, List.set_cons_succ]
      refine wpAnyH_take (i := 1) (oi := { dst := some 13, op := Go.Op.move (Go.Operand.tmp 5), type := 3, pos := "exact.go:185", after := #[], guard := none }) (v := .int .i64 (k : Int)) rfl (by kernel_rfl) (by kernel_rfl) (by kernel_rfl) (fun _ _ _ h => h) (Or.inl ⟨by rfl, by intro w hSw; (try dsimp only at hSw); go_simp⟩) (by assumption) ?_
      simp only [Act.put, List.setIfInBounds_toArray, List.set_cons_zero, List.set_cons_succ]
      refine wpAnyH_take (i := 2) (oi := { dst := some 14, op := Go.Op.indexAddr 30 (Go.Operand.tmp 12) (Go.Operand.tmp 13), type := 0, pos := "exact.go:185", after := #[{ on := 0, ground := Go.Ground.data }, { on := 1, ground := Go.Ground.data }], guard := none }) (v := .pointer (some ⟨g, k, none⟩)) rfl (by kernel_rfl) (by kernel_rfl) (by kernel_rfl) (fun _ _ _ h => h) (Or.inl ⟨by rfl, by intro w hSw; (try dsimp only at hSw); go_simp⟩) (by assumption) ?_
      simp only [Act.put, List.setIfInBounds_toArray, List.set_cons_zero, List.set_cons_succ]
      refine wpAnyH_take (i := 3) (oi := { dst := some 15, op := Go.Op.load 9 (Go.Operand.tmp 14), type := 9, pos := "exact.go:185", after := #[{ on := 2, ground := Go.Ground.data }], guard := none }) (v := .string sx) rfl (by kernel_rfl) (by kernel_rfl) (by kernel_rfl) (fun _ _ _ h => h) (Or.inl ⟨by rfl, by intro w hSw; (try dsimp only at hSw); have hcw := kept_cell hSw hg hc; go_simp⟩) (by assumption) ?_
      simp only [Act.put, List.setIfInBounds_toArray, List.set_cons_zero, List.set_cons_succ]
      refine wpAnyH_take (i := 4) (oi := { dst := some 16, op := Go.Op.move (Go.Operand.tmp 1), type := 3, pos := "exact.go:185", after := #[], guard := none }) (v := .int .i64 ((k0 : Int) + (k : Int))) rfl (by kernel_rfl) (by kernel_rfl) (by kernel_rfl) (fun _ _ _ h => h) (Or.inl ⟨by rfl, by intro w hSw; (try dsimp only at hSw); go_simp⟩) (by assumption) ?_
      simp only [Act.put, List.setIfInBounds_toArray, List.set_cons_zero, List.set_cons_succ]
      refine wpAnyH_ready (rs := [5]) (by kernel_rfl) (by simp) ?_
      refine AllReadyH.cons (o := { dst := some 17, op := Go.Op.call { callee := Go.Callee.value (Go.Operand.func 82), args := #[Go.Operand.tmp 16], argTypes := #[3] }, type := 9, pos := "exact.go:185", after := #[{ on := 4, ground := Go.Ground.data }], guard := none }) rfl (fun K hK => ?_) AllReadyH.nil
      go_simp
      go_at_call 82
      refine (HMT.out _).mono ?_
      rintro z w3 ⟨rfl, hb3⟩
      have hbb : Below wr.heap.size wr w3 := hbd.trans (hb3.mono hbd.size)
      clear hb3
      go_wp2_with fail
      refine hK.out _ _ hbb (fun hHeld => ?_)
      clear hK K
      try simp only [Act.put, List.setIfInBounds_toArray, List.set_cons_zero, List.set_cons_succ]
      refine wpAnyH_take (i := 6) (oi := { dst := some 18, op := Go.Op.binOp Go.BinOp.neq 9 (Go.Operand.tmp 15) (Go.Operand.tmp 17) 9, type := 4, pos := "exact.go:185", after := #[{ on := 3, ground := Go.Ground.data }, { on := 5, ground := Go.Ground.data }], guard := none }) (v := .bool false) rfl (by kernel_rfl) (by kernel_rfl) (by kernel_rfl) (fun _ _ _ h => h) (Or.inl ⟨by rfl, by intro w hSw; (try dsimp only at hSw); go_simp⟩) (by assumption) ?_
      simp only [Act.put, List.setIfInBounds_toArray, List.set_cons_zero, List.set_cons_succ]
      refine wpAnyH_done (by kernel_rfl) ?_ _
      have hbX := hbel.trans (hbb.mono hbel.size)
      go_wp2
      exact ⟨⟨k + 1, by simp, by simp; omega, by omega, hbX⟩, by simp [intOf]; omega⟩
    · obtain rfl : k = n := by omega
      go_wp2
      go_ret
      exact ⟨rfl, hbel⟩
end Jn
end Go.Proofs.Ytiliahibnhfhoaa
