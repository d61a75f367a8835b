/- Numbers written, by the program and by the specification; the text of a graph, plainly. -/
import Derived.Test.YtepfkfhbkbkepaaDoorGsC
import Derived.Test.YtepfkfhbkbkepaaDoorShelf
import Derived.Lib.AppendIntMem
import Derived.Lib.SlBytesConst
import Derived.Deep.RegionWith
import Derived.Deep.RegionHeld3
namespace Go.Proofs.YtepfkfhbkbkepaaDoor
open Go.RowKit
set_option linter.unusedVariables false
namespace Gt
open Ex (hid inR)
open Nd (NodeD)
open Gn (GNodeD)
open Fl (FlowD)
open Gr
open Go.Lib (decDigits decDigits_one)
def Tab (w : World) : Prop := Lib.TabIs Tryd.prog w "internal/strconv.uint64pow10" .u64 Lib.pow10Tab
theorem Tab.below {w w' : World} (h : Tab w) (hb : Below w.heap.size w w') : Tab w' := Lib.tabBelow_of_tabIs h w' hb
theorem itoa_dec {n : Int} (h : 0 ≤ n) : Lib.itoa n = decDigits n.toNat := by unfold Lib.itoa; rw [if_neg (by omega)]
def str (l : List UInt8) : ByteArray := ⟨l.toArray⟩
theorem str_app (a b : List UInt8) : str a ++ str b = str (a ++ b) := by
  unfold str
  apply ByteArray.ext
  simp
theorem str_size (l : List UInt8) : (str l).size = l.length := by simp [str, ByteArray.size]
theorem str_data (l : List UInt8) : (str l).data.toList = l := by simp [str]
theorem kept_cell {B : Nat} {W w : World} (h : Below B W w) {b o : Nat} (hb : b < B) {v : Value} (hc : W.cell? ⟨b, o, none⟩ = some v) : w.cell? ⟨b, o, none⟩ = some v := (h.cell (p := ⟨b, o, none⟩) hb).trans hc
theorem add_str (a b : ByteArray) (h : a.size + b.size ≤ 1000000) (w : World) : Sem.run Tryd.prog (Op.stringOp .add a b) w = .ok (.string (a ++ b)) w := run_string_add_sum w a b (by omega)
theorem dec_big {n : Nat} (h : ¬ n < 10) : decDigits n = decDigits (n / 10) ++ [UInt8.ofNat (48 + n % 10)] := by rw [decDigits, dif_neg h]
theorem dig_toNat {n : Nat} (h : n < 10) : (UInt8.ofNat (48 + n)).toNat = 48 + n := by
  rw [UInt8.toNat_ofNat']
  omega
theorem dec_len : ∀ (m n : Nat), n < 10 ^ (m + 1) → (decDigits n).length ≤ m + 1
  | 0, n, h => by rw [decDigits_one (by simpa using h)]; simp
  | m + 1, n, h => by
    by_cases h1 : n < 10
    · rw [decDigits_one h1]; simp
    · rw [dec_big h1, List.length_append, List.length_singleton]
      have := dec_len m (n / 10) (by rw [Nat.pow_succ] at h; omega)
      omega
theorem implInt (n : Int) (w : World) (h0 : 0 ≤ n) (h1 : n ≤ 9999) (ht : Tab w) :
    Calls Tryd.prog 37 #[.int .i64 n, .int .i64 10] w fun e w' => e = .returned (.string (str (decDigits n.toNat))) ∧ Below w.heap.size w w' :=
  (Tryd.strconv_FormatInt_10 n (by omega) (by omega) w ht).mono (fun e w' ⟨h1, k, os, h2⟩ => ⟨by rw [h1, itoa_dec h0]; rfl, by rw [h2]; exact Lib.below_grow _ _ (Nat.le_refl _) _ _⟩)
theorem dgNat {m : Nat} (h : m < 10) : ((UInt8.ofNat (48 + m)).toNat : Int) = 48 + (m : Int) := by rw [dig_toNat h]; omega
theorem conv1 (g m : Nat) (hm : m < 10) (w : World) (hc : w.cell? ⟨g, 0, none⟩ = some (.int .u8 (48 + (m : Int)))) : Sem.run Tryd.prog (convert 55 9 (.slice (some ⟨g, 0, none⟩) 1 1)) w = .ok (.string (str [UInt8.ofNat (48 + m)])) w := by
  refine run_convert_bytes_back (P := Tryd.prog) _ 55 9 5 ⟨g, 0, none⟩ 1 [UInt8.ofNat (48 + m)] Tryd.underlying55 Tryd.underlying5 Tryd.underlying9 ?_
  intro i hi
  obtain rfl : i = 0 := by simpa using hi
  simp only [Addr.add, Nat.add_zero, List.getElem_cons_zero]
  rw [dgNat hm]
  exact hc
set_option maxRecDepth 100000 in
set_option maxHeartbeats 4000000 in
theorem specDigits : ∀ (f n : Nat) (w : World), n < f → n ≤ 9999 → Calls Tryd.prog 13 #[.int .i64 (n : Int)] w fun e w' => e = .returned (.string (str (decDigits n))) ∧ Below w.heap.size w w'
  | 0, n, w, h, _ => by omega
  | f + 1, n, w, h, h9 => by
    by_cases h10 : n < 10
    · have HV : Hid (str (decDigits n) = str [UInt8.ofNat (48 + n)]) := hid (by rw [decDigits_one h10])
      have q1 : (n : Int) < 10 := by omega
      have HC := hid (conv1 w.heap.size n h10 (w.alloc (.cells #[.int .u8 (48 + (n : Int))] 5)) (by go_simp))
      have HB : Hid (Below w.heap.size w (w.alloc (.cells #[.int .u8 (48 + (n : Int))] 5))) := hid ((Below.refl _ w).alloc (Nat.le_refl _) _)
      clear h10
      generalize str [UInt8.ofNat (48 + n)] = ds at *
      go_enter Tryd.func13, Tryd.ntmps13
      go_wp2
      rw [HC.out]
      simp only [Result.andThen]
      rw [Oper.upon_value]
      go_wp2
      go_ret
      exact ⟨by rw [HV.out]; rfl, HB.out⟩
    · have IH : Hid (∀ (x : Int) (w : World), x = ((n / 10 : Nat) : Int) → Calls Tryd.prog 13 #[.int .i64 x] w fun e w' => e = .returned (.string (str (decDigits (n / 10)))) ∧ Below w.heap.size w w') := hid (fun x w hx => by rw [hx]; exact specDigits f (n / 10) w (by omega) (by omega))
      have HV : Hid (str (decDigits n) = str (decDigits (n / 10)) ++ str [UInt8.ofNat (48 + n % 10)]) := hid (by rw [str_app, ← dec_big h10])
      have q1 : ¬ (n : Int) < 10 := by omega
      have zl : (str (decDigits (n / 10))).size ≤ 4 := by rw [str_size]; exact dec_len 3 (n / 10) (by omega)
      have z1 : (str [UInt8.ofNat (48 + n % 10)]).size = 1 := rfl
      have ad1 := add_str (str (decDigits (n / 10))) (str [UInt8.ofNat (48 + n % 10)]) (by omega)
      have hbv : (IntKind.u8.wrap (IntKind.i64.wrap (48 + (n : Int).tmod 10))) = 48 + ((n % 10 : Nat) : Int) := by
        rw [IntKind.wrap_u8, IntWalk.i64_in _ (by rw [Int.tmod_eq_emod_of_nonneg (by omega)]; omega), Int.tmod_eq_emod_of_nonneg (by omega)]
        omega
      have HC : Hid (∀ (g : Nat) (w : World), w.cell? ⟨g, 0, none⟩ = some (.int .u8 (IntKind.u8.wrap (IntKind.i64.wrap (48 + (n : Int).tmod 10)))) → Sem.run Tryd.prog (convert 55 9 (.slice (some ⟨g, 0, none⟩) 1 1)) w = .ok (.string (str [UInt8.ofNat (48 + n % 10)])) w) := hid (fun g w h => conv1 g (n % 10) (by omega) w (by rw [h, hbv]))
      clear h10 zl z1 hbv
      generalize str [UInt8.ofNat (48 + n % 10)] = ds at *
      generalize str (decDigits (n / 10)) = dh at *
      have cvA : ∀ X : World, Sem.run Tryd.prog (convert 55 9 (.slice (some ⟨X.heap.size, 0, none⟩) 1 1)) (X.alloc (.cells #[.int .u8 (IntKind.u8.wrap (IntKind.i64.wrap (48 + (n : Int).tmod 10)))] 5)) = .ok (.string ds) (X.alloc (.cells #[.int .u8 (IntKind.u8.wrap (IntKind.i64.wrap (48 + (n : Int).tmod 10)))] 5)) := fun X => HC.out X.heap.size _ (by go_simp)
      have cvB : ∀ X : World, Sem.run Tryd.prog (convert 55 9 (.slice (some ⟨X.heap.size, 0, none⟩) 1 1)) (X.alloc (.cells #[.int .u8 (IntKind.u8.wrap (IntKind.i64.wrap (48 + (n : Int).tmod 10)))] 5)).drew = .ok (.string ds) (X.alloc (.cells #[.int .u8 (IntKind.u8.wrap (IntKind.i64.wrap (48 + (n : Int).tmod 10)))] 5)).drew := fun X => HC.out X.heap.size _ (by go_simp)
      have hd0 : Below w.heap.size w w.drew := (Below.refl _ w).drew
      have hd1 : Below w.heap.size w (w.alloc (.cells #[.int .u8 (IntKind.u8.wrap (IntKind.i64.wrap (48 + (n : Int).tmod 10)))] 5)).drew := ((Below.refl _ w).alloc (Nat.le_refl _) _).drew
      have hz1 : w.heap.size < (w.alloc (.cells #[.int .u8 (IntKind.u8.wrap (IntKind.i64.wrap (48 + (n : Int).tmod 10)))] 5)).drew.heap.size := by simp
      have hz2 : w.heap.size ≤ (w.alloc (.cells #[.int .u8 (IntKind.u8.wrap (IntKind.i64.wrap (48 + (n : Int).tmod 10)))] 5)).drew.heap.size := by simp
      have hcd : (w.alloc (.cells #[.int .u8 (IntKind.u8.wrap (IntKind.i64.wrap (48 + (n : Int).tmod 10)))] 5)).drew.cell? ⟨w.heap.size, 0, none⟩ = some (.int .u8 (IntKind.u8.wrap (IntKind.i64.wrap (48 + (n : Int).tmod 10)))) := by go_simp
      have b1 : (0 : Int) ≤ (n : Int) / 10 := by omega
      have b2 : (n : Int) / 10 ≤ 9999 := by omega
      have b3 : (0 : Int) ≤ (n : Int) % 10 := by omega
      have b4 : (n : Int) % 10 ≤ 9 := by omega
      go_enter Tryd.func13, Tryd.ntmps13
      go_wp2
      go_region_with (first
        | (go_at_call 13; refine (IH.out _ _ ?_).mono ?_; (first | rfl | (simp; done) | omega | (rw [IntWalk.i64_in _ (by omega)]; omega)); rintro e w2 ⟨rfl, hb2⟩; (first
             | (have hbw : Below w.heap.size w w2 := hd1.trans (hb2.mono hz2); have hcv := HC.out w.heap.size w2 (kept_cell hb2 hz1 hcd))
             | (have hbw : Below w.heap.size w w2 := hd0.trans (hb2.mono (Nat.le_refl _)))); clear hb2))
      all_goals (go_wp2; go_ret; exact ⟨by rw [HV.out]; rfl, by first | exact hbw | exact hbw.alloc hbw.size _⟩)
def wordG (k : Int) : List UInt8 := if k = 1 then [115, 116, 97, 114, 116] else if k = 2 then [101, 110, 100] else if k = 3 then [116, 97, 115, 107] else if k = 4 then [119, 97, 105, 116] else if k = 5 then [116, 105, 109, 101, 114] else if k = 6 then [115, 101, 116] else if k = 7 then [115, 112, 108, 105, 116] else if k = 8 then [106, 111, 105, 110] else if k = 9 then [102, 111, 114, 107] else if k = 10 then [109, 101, 101, 116] else if k = 11 then [111, 112, 101, 110] else if k = 12 then [99, 108, 111, 115, 101] else if k = 13 then [109, 101, 114, 103, 101] else []
def outsN (fl : List FlowD) (node : Int) (n : Nat) : List Nat := (((List.range n).filter fun i => (FJ fl i).src == node)).map fun i => (FJ fl i).dst.toNat
def numsL (ds : List Nat) : List UInt8 := ds.flatMap fun d => 32 :: decDigits d
theorem nums_snoc (ds : List Nat) (d : Nat) : numsL (ds ++ [d]) = numsL ds ++ 32 :: decDigits d := by simp [numsL]
theorem outs_succ (fl : List FlowD) (node : Int) (n : Nat) : outsN fl node (n + 1) = outsN fl node n ++ (if (FJ fl n).src = node then [(FJ fl n).dst.toNat] else []) := by
  unfold outsN
  rw [List.range_succ, List.filter_append, List.map_append]
  congr 1
  by_cases h : (FJ fl n).src = node
  · simp [h]
  · simp [h]
theorem outs_le (fl : List FlowD) (node : Int) (n : Nat) : (outsN fl node n).length ≤ n := by
  unfold outsN
  have := List.length_filter_le (fun i => (FJ fl i).src == node) (List.range n)
  simpa using this
def headG (g : GraphD) (i : Nat) : List UInt8 := decDigits i ++ [58, 32] ++ wordG (NJ g.nodes i).kind
def lineG (g : GraphD) (i : Nat) : List UInt8 := headG g i ++ numsL (outsN g.flows (i : Int) g.flows.length)
def textL (g : GraphD) : Nat → List UInt8
  | 0 => []
  | i + 1 => textL g i ++ lineG g i ++ [10]
def textG (g : GraphD) : ByteArray := if gFault g = 0 then str (textL g g.nodes.length) else str []
theorem text_ok {g : GraphD} (h : gFault g = 0) : textG g = str (textL g g.nodes.length) := by unfold textG; rw [if_pos h]
theorem text_bad {g : GraphD} (h : gFault g ≠ 0) : textG g = str [] := by unfold textG; rw [if_neg h]
/-- What a graph's text wants of it. -/
structure Fine (g : GraphD) : Prop where
  nlen : g.nodes.length ≤ 60
  flen : g.flows.length ≤ 80
  kind : ∀ i, i < g.nodes.length → inR (NJ g.nodes i).kind 1 13 = true
  dst : ∀ i, i < g.flows.length → 0 ≤ (FJ g.flows i).dst ∧ (FJ g.flows i).dst ≤ 59
theorem first_all {f : Nat → Int} : ∀ {n : Nat}, firstC f n = 0 → ∀ i, i < n → f i = 0
  | 0, _, i, h => by omega
  | n + 1, h, i, hi => by
    rw [firstC] at h
    by_cases e : firstC f n = 0
    · rw [if_neg (by simp [e])] at h
      by_cases e2 : i = n
      · subst e2; exact h
      · exact first_all e i (by omega)
    · rw [if_pos e] at h; exact absurd h e
theorem fine {g : GraphD} (h : gFault g = 0) : Fine g := by
  have hm := g_fine h
  have hn : g.nodes.length ≤ 60 := by omega
  unfold gFault at h
  rw [if_neg hm] at h
  by_cases e : firstC (fun i => nodeC (NJ g.nodes i)) g.nodes.length = 0
  · rw [if_neg (by simp [e])] at h
    refine ⟨hn, by omega, fun i hi => ?_, fun i hi => ?_⟩
    · have h1 : nodeC (NJ g.nodes i) = 0 := first_all e i hi
      cases hk : inR (NJ g.nodes i).kind 1 13
      · rw [n_form (.inl hk)] at h1; cases h1
      · rfl
    · have h2 := first_all h i hi
      cases hk : inR (FJ g.flows i).dst 0 ((g.nodes.length : Int) - 1)
      · rw [f_range (.inr hk)] at h2; cases h2
      · have := Ex.inR_iff.1 hk; omega
  · rw [if_pos e] at h; exact absurd h e
theorem word_len (k : Int) : (wordG k).length ≤ 5 := by
  unfold wordG
  by_cases h1 : k = 1
  · rw [if_pos h1]; decide
  rw [if_neg h1]
  by_cases h2 : k = 2
  · rw [if_pos h2]; decide
  rw [if_neg h2]
  by_cases h3 : k = 3
  · rw [if_pos h3]; decide
  rw [if_neg h3]
  by_cases h4 : k = 4
  · rw [if_pos h4]; decide
  rw [if_neg h4]
  by_cases h5 : k = 5
  · rw [if_pos h5]; decide
  rw [if_neg h5]
  by_cases h6 : k = 6
  · rw [if_pos h6]; decide
  rw [if_neg h6]
  by_cases h7 : k = 7
  · rw [if_pos h7]; decide
  rw [if_neg h7]
  by_cases h8 : k = 8
  · rw [if_pos h8]; decide
  rw [if_neg h8]
  by_cases h9 : k = 9
  · rw [if_pos h9]; decide
  rw [if_neg h9]
  by_cases h10 : k = 10
  · rw [if_pos h10]; decide
  rw [if_neg h10]
  by_cases h11 : k = 11
  · rw [if_pos h11]; decide
  rw [if_neg h11]
  by_cases h12 : k = 12
  · rw [if_pos h12]; decide
  rw [if_neg h12]
  by_cases h13 : k = 13
  · rw [if_pos h13]; decide
  rw [if_neg h13]
  decide
theorem dig2 {n : Nat} (h : n ≤ 99) : (decDigits n).length ≤ 2 := dec_len 1 n (by omega)
theorem outs_mem {g : GraphD} (hf : Fine g) {node : Int} {n : Nat} (hn : n ≤ g.flows.length) : ∀ d ∈ outsN g.flows node n, d ≤ 59 := fun d hd => by
  unfold outsN at hd
  obtain ⟨i, hi, rfl⟩ := List.mem_map.1 hd
  have h1 := List.mem_range.1 (List.mem_filter.1 hi).1
  have := hf.dst i (by omega)
  omega
theorem nums_len : ∀ {ds : List Nat}, (∀ d ∈ ds, d ≤ 59) → (numsL ds).length ≤ 3 * ds.length
  | [], _ => by simp [numsL]
  | d :: ds, h => by
    have h1 := nums_len (ds := ds) (fun x hx => h x (List.mem_cons_of_mem _ hx))
    have h2 := dig2 (n := d) (by have := h d (List.mem_cons_self ..); omega)
    have : numsL (d :: ds) = (32 :: decDigits d) ++ numsL ds := by simp [numsL]
    rw [this, List.length_append, List.length_cons, List.length_cons]
    omega
theorem head_len {g : GraphD} (hf : Fine g) {i : Nat} (hi : i < g.nodes.length) : (headG g i).length ≤ 9 := by
  have h1 := dig2 (n := i) (by have := hf.nlen; omega)
  have h2 := word_len (NJ g.nodes i).kind
  unfold headG
  simp; omega
theorem line_len {g : GraphD} (hf : Fine g) {i : Nat} (hi : i < g.nodes.length) : (lineG g i).length ≤ 250 := by
  have h1 := head_len hf hi
  have h2 := nums_len (outs_mem hf (node := (i : Int)) (Nat.le_refl _))
  have h3 := outs_le g.flows (i : Int) g.flows.length
  have h4 := hf.flen
  unfold lineG
  rw [List.length_append]
  omega
theorem text_len {g : GraphD} (hf : Fine g) : ∀ i, i ≤ g.nodes.length → (textL g i).length ≤ 251 * i
  | 0, _ => by simp [textL]
  | i + 1, hi => by
    have h0 := text_len hf i (by omega)
    have h1 := line_len hf (i := i) (by omega)
    rw [textL, List.length_append, List.length_append]
    simp; omega
/-- The places of flows from a node, and what these lead to. -/
theorem outs_from (fl : List FlowD) (node : Int) (n : Nat) : outsN fl node n = (fromN fl node n).map fun x => (FJ fl x.toNat).dst.toNat := by
  unfold outsN fromN
  rw [List.map_map]
  rfl
theorem from_mem {fl : List FlowD} {node : Int} {n : Nat} {x : Int} (h : x ∈ fromN fl node n) : 0 ≤ x ∧ x.toNat < n ∧ ((x.toNat : Nat) : Int) = x := by
  unfold fromN at h
  obtain ⟨i, hi, rfl⟩ := List.mem_map.1 h
  have h1 := List.mem_range.1 (List.mem_filter.1 hi).1
  exact ⟨by omega, by simpa using h1, by simp⟩
theorem join_words (a b : List UInt8) (ds : List Nat) : Lib.join (a :: b :: ds.map fun d => decDigits d) [32] = a ++ [32] ++ b ++ numsL ds := by
  rw [Lib.join_cons, Lib.joinTail]
  have : ∀ ds : List Nat, (((ds.map fun d => decDigits d).map fun x => [32] ++ x)).flatten = numsL ds := fun ds => by
    unfold numsL
    induction ds with
    | nil => rfl
    | cons d ds ih => simp [List.flatMap_cons] at ih ⊢; exact ih
  rw [List.map_cons, List.flatten_cons, this]
  simp
theorem line_words (g : GraphD) (i : Nat) (ds : List Nat) : Lib.join ((decDigits i ++ [58]) :: wordG (NJ g.nodes i).kind :: ds.map fun d => decDigits d) [32] = headG g i ++ numsL ds := by
  rw [join_words]
  unfold headG
  simp
end Gt
end Go.Proofs.YtepfkfhbkbkepaaDoor
