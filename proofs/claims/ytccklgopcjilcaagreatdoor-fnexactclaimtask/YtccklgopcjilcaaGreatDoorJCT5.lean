/- Laid together: NmA, ImA, ExF, ExG, ExH. -/
import Derived.Test.YtccklgopcjilcaaGreatDoorJCT2
import Derived.Test.YtccklgopcjilcaaGreatDoorProg
import Derived.Below
import Derived.WalkSpells
import Derived.WalkLawsBesides
import Derived.Test.YtccklgopcjilcaaGreatDoorJCT4
/- What is wrong with a name, as the specification and as the program tell it. -/
namespace Go.Proofs.YtccklgopcjilcaaGreatDoor
open Go.RowKit
set_option linter.unusedVariables false
namespace Tr
theorem take_snoc (s:ByteArray) (k:Nat) (h:k<s.size):s.data.toList.take (k+1)=s.data.toList.take k++[s[k]]:=by
 rw [List.take_succ_eq_append_getElem (by simpa using h)];rfl
theorem az_no (s:ByteArray) (k:Nat) (h:k<s.size) (hn:azByte s[k]=false):azAll s.data.toList=false:=by
 unfold azAll
 rw [List.all_eq_false]
 refine ⟨s[k],?_,by simp [hn]⟩
 exact List.getElem_mem (l:=s.data.toList) (by simpa using h)
theorem az_snoc (s:ByteArray) (k:Nat) (h:k<s.size) (ha:azAll (s.data.toList.take k)=true) (hy:azByte s[k]=true):azAll (s.data.toList.take (k+1))=true:=by
 rw [take_snoc s k h];unfold azAll at *;rw [List.all_append,ha];simp [hy]
theorem az_end (s:ByteArray) (k:Nat) (h:¬k<s.size) (ha:azAll (s.data.toList.take k)=true):azAll s.data.toList=true:=by
 rw [List.take_of_length_le (by simp;omega)] at ha;exact ha
theorem len_size (s:ByteArray):s.data.toList.length=s.size:=by simp
theorem nf_no {s:ByteArray} (h:azAll s.data.toList=false):nf s.data.toList=5:=by unfold nf;simp [h]
theorem nf_nil {s:ByteArray} (h:s.size=0):nf s.data.toList=5:=by unfold nf;rw [len_size];simp [h]
theorem nf_many {s:ByteArray} (h:azAll s.data.toList=true) (h0:s.size≠0) (h8:8<s.size):nf s.data.toList=2:=by unfold nf;rw [len_size];rw [if_neg (by simp [h]),if_neg h0,if_pos h8]
theorem nf_ok {s:ByteArray} (h:azAll s.data.toList=true) (h0:s.size≠0) (h8:¬8<s.size):nf s.data.toList=0:=by unfold nf;rw [len_size,if_neg (by simp [h]),if_neg h0,if_neg h8]
theorem ne_nil {s:ByteArray} (h:s.size≠0):s.toList.isEmpty=false:=by
 rw [ByteArray.toList_eq,List.isEmpty_eq_false_iff];intro e;apply h;rw [←len_size,e];rfl
theorem is_nil {s:ByteArray} (h:s.size=0):s={ data:=#[] }:=by
 cases s with | mk d=>congr;exact Array.eq_empty_of_size_eq_zero h
set_option maxRecDepth 100000 in
set_option maxHeartbeats 400000 in
theorem spec_nf1 (s:ByteArray) (w:World) (hs:s.size≤maxLen):
    Calls Tryz.prog 218 #[.string s] w fun e w'=>e=.returned (.int .i64 (nf s.data.toList))∧w'=w:=by
 unfold maxLen at hs
 go_enter Tryz.func218,Tryz.ntmps218
 go_wp2
 go_loop [3] (fun i=>∃k:Nat,k≤s.size∧i=.int .i64 k∧azAll (s.data.toList.take k)=true) (fun i=>s.size - (intOf i).toNat)
 case atStart=>exact ⟨0,Nat.zero_le _,rfl,rfl⟩
 case round=>
  obtain ⟨k,hk,rfl,ha⟩:=hrel
  have HA:Hid (azAll (s.data.toList.take k)=true):=ha
  clear ha
  by_cases hlt:k<s.size
  ·by_cases h97:(s[k].toNat:Int)<97
   ·have HS:Hid (nf s.data.toList=5):=nf_no (az_no s k hlt (by simp [azByte];omega))
    go_wp2
    go_ret
    exact ⟨by rw [HS.out];rfl,rfl⟩
   ·by_cases h122:(s[k].toNat:Int) > 122
    ·have HS:Hid (nf s.data.toList=5):=nf_no (az_no s k hlt (by simp [azByte];omega))
     go_wp2
     go_ret
     exact ⟨by rw [HS.out];rfl,rfl⟩
    ·have HS:Hid (azAll (s.data.toList.take (k+1))=true):=az_snoc s k hlt HA.out (by simp [azByte];omega)
     go_wp2
     exact ⟨⟨k+1,by omega,by go_num,HS.out⟩,by simp [intOf];omega⟩
  ·have hall:=az_end s k hlt HA.out
   by_cases h0:s.size=0
   ·have HS:Hid (nf s.data.toList=5):=nf_nil h0
    have hb:s.toList.isEmpty=true:=by rw [is_nil h0,ByteArray.toList_eq];rfl
    clear hall
    go_wp2
    go_ret
    exact ⟨by rw [HS.out];rfl,rfl⟩
   ·have hb:=ne_nil h0
    by_cases h8:8<s.size
    ·have HS:Hid (nf s.data.toList=2):=nf_many hall h0 h8
     clear hall
     go_wp2
     go_ret
     exact ⟨by rw [HS.out];rfl,rfl⟩
    ·have HS:Hid (nf s.data.toList=0):=nf_ok hall h0 h8
     clear hall
     go_wp2
     go_ret
     exact ⟨by rw [HS.out];rfl,rfl⟩
set_option maxRecDepth 100000 in
set_option maxHeartbeats 400000 in
theorem impl_nf (s:ByteArray) (w:World) (hs:s.size≤maxLen):
    Calls Tryz.prog 233 #[.string s] w fun e w'=>e=.returned (.int .i64 (nf s.data.toList))∧w'=w:=by
 unfold maxLen at hs
 by_cases h0:s.size=0
 ·have HS:Hid (nf s.data.toList=5):=nf_nil h0
  have hb:s.toList.isEmpty=true:=by rw [is_nil h0,ByteArray.toList_eq];rfl
  go_enter Tryz.func233,Tryz.ntmps233
  go_wp2
  go_ret
  exact ⟨by rw [HS.out];rfl,rfl⟩
 have hb:=ne_nil h0
 go_enter Tryz.func233,Tryz.ntmps233
 go_wp2
 go_loop [8] (fun i=>∃k:Nat,k≤s.size∧i=.int .i64 k∧azAll (s.data.toList.take k)=true) (fun i=>s.size - (intOf i).toNat)
 case atStart=>exact ⟨0,Nat.zero_le _,rfl,rfl⟩
 case round=>
  obtain ⟨k,hk,rfl,ha⟩:=hrel
  have HA:Hid (azAll (s.data.toList.take k)=true):=ha
  clear ha
  by_cases hlt:k<s.size
  ·by_cases h97:(s[k].toNat:Int)<97
   ·have HS:Hid (nf s.data.toList=5):=nf_no (az_no s k hlt (by simp [azByte];omega))
    go_wp2
    go_ret
    exact ⟨by rw [HS.out];rfl,rfl⟩
   ·by_cases h122:(s[k].toNat:Int) > 122
    ·have HS:Hid (nf s.data.toList=5):=nf_no (az_no s k hlt (by simp [azByte];omega))
     go_wp2
     go_ret
     exact ⟨by rw [HS.out];rfl,rfl⟩
    ·have HS:Hid (azAll (s.data.toList.take (k+1))=true):=az_snoc s k hlt HA.out (by simp [azByte];omega)
     go_wp2
     exact ⟨⟨k+1,by omega,by go_num,HS.out⟩,by simp [intOf];omega⟩
  ·have hall:=az_end s k hlt HA.out
   by_cases h8:8<s.size
   ·have HS:Hid (nf s.data.toList=2):=nf_many hall h0 h8
    clear hall
    go_wp2
    go_ret
    exact ⟨by rw [HS.out];rfl,rfl⟩
   ·have HS:Hid (nf s.data.toList=0):=nf_ok hall h0 h8
    clear hall
    go_wp2
    go_ret
    exact ⟨by rw [HS.out];rfl,rfl⟩
end Tr
end Go.Proofs.YtccklgopcjilcaaGreatDoor
/- The program's look at one node: hasFormOfKind, isWithinBounds. -/
namespace Go.Proofs.YtccklgopcjilcaaGreatDoor
open Go.RowKit
set_option linter.unusedVariables false
namespace Ex
open Nd (NodeD)
def NodeD.val (n:NodeD):Value:=.agg #[.int .i64 n.kind,.int .i64 n.value,.int .i64 n.left,.int .i64 n.right]
def form (n:NodeD):Bool:=inR n.kind 1 10&&!has n
def inside (n:NodeD) (i:Int):Bool:=!wide n&&!far n i
theorem n_code_eq (n:NodeD) (i:Int):nCode n i=if form n=false then 1 else if inside n i=false then 3 else 0:=by
 unfold form inside
 cases h1:inR n.kind 1 10
 ·rw [n_kind h1];rfl
 ·cases h2:has n
  ·cases h3:wide n
   ·cases h4:far n i
    ·rw [n_ok h1 h2 h3 h4];rfl
    ·rw [n_far h1 h2 h3 h4];rfl
   ·rw [n_wide h1 h2 h3];rfl
  ·rw [n_has h1 h2];rfl
set_option maxRecDepth 100000 in
set_option maxHeartbeats 4000000 in
theorem implForm (n:NodeD) (w:World):
    Calls Tryz.prog 254 #[.agg #[.int .i64 n.kind,.int .i64 n.value,.int .i64 n.left,.int .i64 n.right]] w fun e w'=>e=.returned (.bool (form n))∧Below w.heap.size w w':=by
 obtain ⟨k,v,l,r⟩:=n
 have HB:Hid (Below w.heap.size w (w.alloc (.cells #[.int .i64 k,.int .i64 v,.int .i64 l,.int .i64 r] 210))):=hid ((Below.refl _ w).alloc (Nat.le_refl _) _)
 by_cases hk:inR k 1 10=true
 ·have hk2:=inR_iff.1 hk
  have hkk:k=1∨k=2∨k=3∨k=4∨k=5∨k=6∨k=7∨k=8∨k=9∨k=10:=by omega
  clear hk hk2
  rcases hkk with rfl | rfl | rfl | rfl | rfl | rfl | rfl | rfl | rfl | rfl
  ·cases b1:(l==0)
   ·have HV:Hid (form ⟨1,v,l,r⟩=false):=hid (by have:=beq_eq_false_iff_ne.1 b1;simp [form,has,inR,this])
    go_enter Tryz.func254,Tryz.ntmps254
    go_wp2
    go_ret
    exact ⟨by rw [HV.out];rfl,HB.out⟩
   ·cases b2:(r==0)
    ·have HV:Hid (form ⟨1,v,l,r⟩=false):=hid (by have:=beq_eq_false_iff_ne.1 b2;simp [form,has,inR,this])
     go_enter Tryz.func254,Tryz.ntmps254
     go_wp2
     go_ret
     exact ⟨by rw [HV.out];rfl,HB.out⟩
    ·have HV:Hid (form ⟨1,v,l,r⟩=true):=hid (by have h1:=beq_iff_eq.1 b1;have h2:=beq_iff_eq.1 b2;subst h1 h2;rfl)
     go_enter Tryz.func254,Tryz.ntmps254
     go_wp2
     go_ret
     exact ⟨by rw [HV.out];rfl,HB.out⟩
  ·cases b1:(l==0)
   ·have HV:Hid (form ⟨2,v,l,r⟩=false):=hid (by have:=beq_eq_false_iff_ne.1 b1;simp [form,has,inR,this])
    go_enter Tryz.func254,Tryz.ntmps254
    go_wp2
    go_ret
    exact ⟨by rw [HV.out];rfl,HB.out⟩
   ·cases b2:(r==0)
    ·have HV:Hid (form ⟨2,v,l,r⟩=false):=hid (by have:=beq_eq_false_iff_ne.1 b2;simp [form,has,inR,this])
     go_enter Tryz.func254,Tryz.ntmps254
     go_wp2
     go_ret
     exact ⟨by rw [HV.out];rfl,HB.out⟩
    ·have HV:Hid (form ⟨2,v,l,r⟩=true):=hid (by have h1:=beq_iff_eq.1 b1;have h2:=beq_iff_eq.1 b2;subst h1 h2;rfl)
     go_enter Tryz.func254,Tryz.ntmps254
     go_wp2
     go_ret
     exact ⟨by rw [HV.out];rfl,HB.out⟩
  ·cases b1:(v==0)
   ·have HV:Hid (form ⟨3,v,l,r⟩=false):=hid (by have:=beq_eq_false_iff_ne.1 b1;simp [form,has,inR,this])
    go_enter Tryz.func254,Tryz.ntmps254
    go_wp2
    go_ret
    exact ⟨by rw [HV.out];rfl,HB.out⟩
   ·have HV:Hid (form ⟨3,v,l,r⟩=true):=hid (by have h1:=beq_iff_eq.1 b1;subst h1;rfl)
    go_enter Tryz.func254,Tryz.ntmps254
    go_wp2
    go_ret
    exact ⟨by rw [HV.out];rfl,HB.out⟩
  ·cases b1:(v==0)
   ·have HV:Hid (form ⟨4,v,l,r⟩=false):=hid (by have:=beq_eq_false_iff_ne.1 b1;simp [form,has,inR,this])
    go_enter Tryz.func254,Tryz.ntmps254
    go_wp2
    go_ret
    exact ⟨by rw [HV.out];rfl,HB.out⟩
   ·have HV:Hid (form ⟨4,v,l,r⟩=true):=hid (by have h1:=beq_iff_eq.1 b1;subst h1;rfl)
    go_enter Tryz.func254,Tryz.ntmps254
    go_wp2
    go_ret
    exact ⟨by rw [HV.out];rfl,HB.out⟩
  ·cases b1:(v==0)
   ·have HV:Hid (form ⟨5,v,l,r⟩=false):=hid (by have:=beq_eq_false_iff_ne.1 b1;simp [form,has,inR,this])
    go_enter Tryz.func254,Tryz.ntmps254
    go_wp2
    go_ret
    exact ⟨by rw [HV.out];rfl,HB.out⟩
   ·have HV:Hid (form ⟨5,v,l,r⟩=true):=hid (by have h1:=beq_iff_eq.1 b1;subst h1;rfl)
    go_enter Tryz.func254,Tryz.ntmps254
    go_wp2
    go_ret
    exact ⟨by rw [HV.out];rfl,HB.out⟩
  ·cases b1:(v==0)
   ·have HV:Hid (form ⟨6,v,l,r⟩=false):=hid (by have:=beq_eq_false_iff_ne.1 b1;simp [form,has,inR,this])
    go_enter Tryz.func254,Tryz.ntmps254
    go_wp2
    go_ret
    exact ⟨by rw [HV.out];rfl,HB.out⟩
   ·have HV:Hid (form ⟨6,v,l,r⟩=true):=hid (by have h1:=beq_iff_eq.1 b1;subst h1;rfl)
    go_enter Tryz.func254,Tryz.ntmps254
    go_wp2
    go_ret
    exact ⟨by rw [HV.out];rfl,HB.out⟩
  ·cases b1:(v==0)
   ·have HV:Hid (form ⟨7,v,l,r⟩=false):=hid (by have:=beq_eq_false_iff_ne.1 b1;simp [form,has,inR,this])
    go_enter Tryz.func254,Tryz.ntmps254
    go_wp2
    go_ret
    exact ⟨by rw [HV.out];rfl,HB.out⟩
   ·have HV:Hid (form ⟨7,v,l,r⟩=true):=hid (by have h1:=beq_iff_eq.1 b1;subst h1;rfl)
    go_enter Tryz.func254,Tryz.ntmps254
    go_wp2
    go_ret
    exact ⟨by rw [HV.out];rfl,HB.out⟩
  ·cases b1:(v==0)
   ·have HV:Hid (form ⟨8,v,l,r⟩=false):=hid (by have:=beq_eq_false_iff_ne.1 b1;simp [form,has,inR,this])
    go_enter Tryz.func254,Tryz.ntmps254
    go_wp2
    go_ret
    exact ⟨by rw [HV.out];rfl,HB.out⟩
   ·have HV:Hid (form ⟨8,v,l,r⟩=true):=hid (by have h1:=beq_iff_eq.1 b1;subst h1;rfl)
    go_enter Tryz.func254,Tryz.ntmps254
    go_wp2
    go_ret
    exact ⟨by rw [HV.out];rfl,HB.out⟩
  ·cases b1:(v==0)
   ·have HV:Hid (form ⟨9,v,l,r⟩=false):=hid (by have:=beq_eq_false_iff_ne.1 b1;simp [form,has,inR,this])
    go_enter Tryz.func254,Tryz.ntmps254
    go_wp2
    go_ret
    exact ⟨by rw [HV.out];rfl,HB.out⟩
   ·have HV:Hid (form ⟨9,v,l,r⟩=true):=hid (by have h1:=beq_iff_eq.1 b1;subst h1;rfl)
    go_enter Tryz.func254,Tryz.ntmps254
    go_wp2
    go_ret
    exact ⟨by rw [HV.out];rfl,HB.out⟩
  ·cases b2:(r != 0)
   ·cases b1:(v==0)
    ·have HV:Hid (form ⟨10,v,l,r⟩=false):=hid (by have:=beq_eq_false_iff_ne.1 b1;simp [form,has,inR,this])
     go_enter Tryz.func254,Tryz.ntmps254
     go_wp2
     go_ret
     exact ⟨by rw [HV.out];rfl,HB.out⟩
    ·have HV:Hid (form ⟨10,v,l,r⟩=true):=hid (by have h1:=beq_iff_eq.1 b1;have h2:=bne_eq_false_iff_eq.1 b2;subst h1 h2;rfl)
     go_enter Tryz.func254,Tryz.ntmps254
     go_wp2
     go_ret
     exact ⟨by rw [HV.out];rfl,HB.out⟩
   ·have HV:Hid (form ⟨10,v,l,r⟩=false):=hid (by have:=bne_iff_ne.1 b2;simp [form,has,inR,this])
    go_enter Tryz.func254,Tryz.ntmps254
    go_wp2
    go_ret
    exact ⟨by rw [HV.out];rfl,HB.out⟩
 ·have HV:Hid (form ⟨k,v,l,r⟩=false):=hid (by unfold form;simp only [Bool.not_eq_true] at hk;rw [hk];rfl)
  rw [inR_iff] at hk
  have b1:(k==1)=false:=beq_eq_false_iff_ne.2 (by omega)
  have b2:(k==2)=false:=beq_eq_false_iff_ne.2 (by omega)
  have b3:(k==3)=false:=beq_eq_false_iff_ne.2 (by omega)
  have b4:(k==4)=false:=beq_eq_false_iff_ne.2 (by omega)
  have b5:(k==5)=false:=beq_eq_false_iff_ne.2 (by omega)
  have b6:(k==6)=false:=beq_eq_false_iff_ne.2 (by omega)
  have b7:(k==7)=false:=beq_eq_false_iff_ne.2 (by omega)
  have b8:(k==8)=false:=beq_eq_false_iff_ne.2 (by omega)
  have b9:(k==9)=false:=beq_eq_false_iff_ne.2 (by omega)
  have b10:(k==10)=false:=beq_eq_false_iff_ne.2 (by omega)
  clear hk
  go_enter Tryz.func254,Tryz.ntmps254
  go_wp2
  go_ret
  exact ⟨by rw [HV.out];rfl,HB.out⟩
set_option maxRecDepth 100000 in
set_option maxHeartbeats 4000000 in
theorem implInside (n:NodeD) (i:Int) (w:World) (hf:form n=true):
    Calls Tryz.prog 255 #[.agg #[.int .i64 n.kind,.int .i64 n.value,.int .i64 n.left,.int .i64 n.right],.int .i64 i] w fun e w'=>e=.returned (.bool (inside n i))∧Below w.heap.size w w':=by
 obtain ⟨k,v,l,r⟩:=n
 have HB:Hid (Below w.heap.size w (w.alloc (.cells #[.int .i64 k,.int .i64 v,.int .i64 l,.int .i64 r] 210))):=hid ((Below.refl _ w).alloc (Nat.le_refl _) _)
 have hk2:1≤k∧k≤10:=by
  unfold form at hf
  simp only [Bool.and_eq_true] at hf
  exact inR_iff.1 hf.1
 have hkk:k=1∨k=2∨k=3∨k=4∨k=5∨k=6∨k=7∨k=8∨k=9∨k=10:=by omega
 clear hf hk2
 rcases hkk with rfl | rfl | rfl | rfl | rfl | rfl | rfl | rfl | rfl | rfl
 ·by_cases q1:0≤v
  ·by_cases q2:v≤9999
   ·have HV:Hid (inside ⟨1,v,l,r⟩ i=true):=hid (by simp [inside,wide,far,two,inR];omega)
    go_enter Tryz.func255,Tryz.ntmps255
    go_wp2
    go_ret
    exact ⟨by rw [HV.out];rfl,HB.out⟩
   ·have HV:Hid (inside ⟨1,v,l,r⟩ i=false):=hid (by simp [inside,wide,far,two,inR];omega)
    go_enter Tryz.func255,Tryz.ntmps255
    go_wp2
    go_ret
    exact ⟨by rw [HV.out];rfl,HB.out⟩
  ·have HV:Hid (inside ⟨1,v,l,r⟩ i=false):=hid (by simp [inside,wide,far,two,inR];omega)
   go_enter Tryz.func255,Tryz.ntmps255
   go_wp2
   go_ret
   exact ⟨by rw [HV.out];rfl,HB.out⟩
 ·by_cases q1:0≤v
  ·by_cases q2:v<4
   ·have HV:Hid (inside ⟨2,v,l,r⟩ i=true):=hid (by simp [inside,wide,far,two,inR];omega)
    go_enter Tryz.func255,Tryz.ntmps255
    go_wp2
    go_ret
    exact ⟨by rw [HV.out];rfl,HB.out⟩
   ·have HV:Hid (inside ⟨2,v,l,r⟩ i=false):=hid (by simp [inside,wide,far,two,inR];omega)
    go_enter Tryz.func255,Tryz.ntmps255
    go_wp2
    go_ret
    exact ⟨by rw [HV.out];rfl,HB.out⟩
  ·have HV:Hid (inside ⟨2,v,l,r⟩ i=false):=hid (by simp [inside,wide,far,two,inR];omega)
   go_enter Tryz.func255,Tryz.ntmps255
   go_wp2
   go_ret
   exact ⟨by rw [HV.out];rfl,HB.out⟩
 ·by_cases p1:r<0
  ·have HV:Hid (inside ⟨3,v,l,r⟩ i=false):=hid (by simp [inside,wide,far,two,inR];omega)
   go_enter Tryz.func255,Tryz.ntmps255
   go_wp2
   go_ret
   exact ⟨by rw [HV.out];rfl,HB.out⟩
  by_cases p2:i≤r
  ·have HV:Hid (inside ⟨3,v,l,r⟩ i=false):=hid (by simp [inside,wide,far,two,inR];omega)
   go_enter Tryz.func255,Tryz.ntmps255
   go_wp2
   go_ret
   exact ⟨by rw [HV.out];rfl,HB.out⟩
  ·by_cases q1:0≤l
   ·by_cases q2:l<i
    ·have HV:Hid (inside ⟨3,v,l,r⟩ i=true):=hid (by simp [inside,wide,far,two,inR];omega)
     go_enter Tryz.func255,Tryz.ntmps255
     go_wp2
     go_ret
     exact ⟨by rw [HV.out];rfl,HB.out⟩
    ·have HV:Hid (inside ⟨3,v,l,r⟩ i=false):=hid (by simp [inside,wide,far,two,inR];omega)
     go_enter Tryz.func255,Tryz.ntmps255
     go_wp2
     go_ret
     exact ⟨by rw [HV.out];rfl,HB.out⟩
   ·have HV:Hid (inside ⟨3,v,l,r⟩ i=false):=hid (by simp [inside,wide,far,two,inR];omega)
    go_enter Tryz.func255,Tryz.ntmps255
    go_wp2
    go_ret
    exact ⟨by rw [HV.out];rfl,HB.out⟩
 ·by_cases p1:r<0
  ·have HV:Hid (inside ⟨4,v,l,r⟩ i=false):=hid (by simp [inside,wide,far,two,inR];omega)
   go_enter Tryz.func255,Tryz.ntmps255
   go_wp2
   go_ret
   exact ⟨by rw [HV.out];rfl,HB.out⟩
  by_cases p2:i≤r
  ·have HV:Hid (inside ⟨4,v,l,r⟩ i=false):=hid (by simp [inside,wide,far,two,inR];omega)
   go_enter Tryz.func255,Tryz.ntmps255
   go_wp2
   go_ret
   exact ⟨by rw [HV.out];rfl,HB.out⟩
  ·by_cases q1:0≤l
   ·by_cases q2:l<i
    ·have HV:Hid (inside ⟨4,v,l,r⟩ i=true):=hid (by simp [inside,wide,far,two,inR];omega)
     go_enter Tryz.func255,Tryz.ntmps255
     go_wp2
     go_ret
     exact ⟨by rw [HV.out];rfl,HB.out⟩
    ·have HV:Hid (inside ⟨4,v,l,r⟩ i=false):=hid (by simp [inside,wide,far,two,inR];omega)
     go_enter Tryz.func255,Tryz.ntmps255
     go_wp2
     go_ret
     exact ⟨by rw [HV.out];rfl,HB.out⟩
   ·have HV:Hid (inside ⟨4,v,l,r⟩ i=false):=hid (by simp [inside,wide,far,two,inR];omega)
    go_enter Tryz.func255,Tryz.ntmps255
    go_wp2
    go_ret
    exact ⟨by rw [HV.out];rfl,HB.out⟩
 ·by_cases p1:r<0
  ·have HV:Hid (inside ⟨5,v,l,r⟩ i=false):=hid (by simp [inside,wide,far,two,inR];omega)
   go_enter Tryz.func255,Tryz.ntmps255
   go_wp2
   go_ret
   exact ⟨by rw [HV.out];rfl,HB.out⟩
  by_cases p2:i≤r
  ·have HV:Hid (inside ⟨5,v,l,r⟩ i=false):=hid (by simp [inside,wide,far,two,inR];omega)
   go_enter Tryz.func255,Tryz.ntmps255
   go_wp2
   go_ret
   exact ⟨by rw [HV.out];rfl,HB.out⟩
  ·by_cases q1:0≤l
   ·by_cases q2:l<i
    ·have HV:Hid (inside ⟨5,v,l,r⟩ i=true):=hid (by simp [inside,wide,far,two,inR];omega)
     go_enter Tryz.func255,Tryz.ntmps255
     go_wp2
     go_ret
     exact ⟨by rw [HV.out];rfl,HB.out⟩
    ·have HV:Hid (inside ⟨5,v,l,r⟩ i=false):=hid (by simp [inside,wide,far,two,inR];omega)
     go_enter Tryz.func255,Tryz.ntmps255
     go_wp2
     go_ret
     exact ⟨by rw [HV.out];rfl,HB.out⟩
   ·have HV:Hid (inside ⟨5,v,l,r⟩ i=false):=hid (by simp [inside,wide,far,two,inR];omega)
    go_enter Tryz.func255,Tryz.ntmps255
    go_wp2
    go_ret
    exact ⟨by rw [HV.out];rfl,HB.out⟩
 ·by_cases p1:r<0
  ·have HV:Hid (inside ⟨6,v,l,r⟩ i=false):=hid (by simp [inside,wide,far,two,inR];omega)
   go_enter Tryz.func255,Tryz.ntmps255
   go_wp2
   go_ret
   exact ⟨by rw [HV.out];rfl,HB.out⟩
  by_cases p2:i≤r
  ·have HV:Hid (inside ⟨6,v,l,r⟩ i=false):=hid (by simp [inside,wide,far,two,inR];omega)
   go_enter Tryz.func255,Tryz.ntmps255
   go_wp2
   go_ret
   exact ⟨by rw [HV.out];rfl,HB.out⟩
  ·by_cases q1:0≤l
   ·by_cases q2:l<i
    ·have HV:Hid (inside ⟨6,v,l,r⟩ i=true):=hid (by simp [inside,wide,far,two,inR];omega)
     go_enter Tryz.func255,Tryz.ntmps255
     go_wp2
     go_ret
     exact ⟨by rw [HV.out];rfl,HB.out⟩
    ·have HV:Hid (inside ⟨6,v,l,r⟩ i=false):=hid (by simp [inside,wide,far,two,inR];omega)
     go_enter Tryz.func255,Tryz.ntmps255
     go_wp2
     go_ret
     exact ⟨by rw [HV.out];rfl,HB.out⟩
   ·have HV:Hid (inside ⟨6,v,l,r⟩ i=false):=hid (by simp [inside,wide,far,two,inR];omega)
    go_enter Tryz.func255,Tryz.ntmps255
    go_wp2
    go_ret
    exact ⟨by rw [HV.out];rfl,HB.out⟩
 ·by_cases p1:r<0
  ·have HV:Hid (inside ⟨7,v,l,r⟩ i=false):=hid (by simp [inside,wide,far,two,inR];omega)
   go_enter Tryz.func255,Tryz.ntmps255
   go_wp2
   go_ret
   exact ⟨by rw [HV.out];rfl,HB.out⟩
  by_cases p2:i≤r
  ·have HV:Hid (inside ⟨7,v,l,r⟩ i=false):=hid (by simp [inside,wide,far,two,inR];omega)
   go_enter Tryz.func255,Tryz.ntmps255
   go_wp2
   go_ret
   exact ⟨by rw [HV.out];rfl,HB.out⟩
  ·by_cases q1:0≤l
   ·by_cases q2:l<i
    ·have HV:Hid (inside ⟨7,v,l,r⟩ i=true):=hid (by simp [inside,wide,far,two,inR];omega)
     go_enter Tryz.func255,Tryz.ntmps255
     go_wp2
     go_ret
     exact ⟨by rw [HV.out];rfl,HB.out⟩
    ·have HV:Hid (inside ⟨7,v,l,r⟩ i=false):=hid (by simp [inside,wide,far,two,inR];omega)
     go_enter Tryz.func255,Tryz.ntmps255
     go_wp2
     go_ret
     exact ⟨by rw [HV.out];rfl,HB.out⟩
   ·have HV:Hid (inside ⟨7,v,l,r⟩ i=false):=hid (by simp [inside,wide,far,two,inR];omega)
    go_enter Tryz.func255,Tryz.ntmps255
    go_wp2
    go_ret
    exact ⟨by rw [HV.out];rfl,HB.out⟩
 ·by_cases p1:r<0
  ·have HV:Hid (inside ⟨8,v,l,r⟩ i=false):=hid (by simp [inside,wide,far,two,inR];omega)
   go_enter Tryz.func255,Tryz.ntmps255
   go_wp2
   go_ret
   exact ⟨by rw [HV.out];rfl,HB.out⟩
  by_cases p2:i≤r
  ·have HV:Hid (inside ⟨8,v,l,r⟩ i=false):=hid (by simp [inside,wide,far,two,inR];omega)
   go_enter Tryz.func255,Tryz.ntmps255
   go_wp2
   go_ret
   exact ⟨by rw [HV.out];rfl,HB.out⟩
  ·by_cases q1:0≤l
   ·by_cases q2:l<i
    ·have HV:Hid (inside ⟨8,v,l,r⟩ i=true):=hid (by simp [inside,wide,far,two,inR];omega)
     go_enter Tryz.func255,Tryz.ntmps255
     go_wp2
     go_ret
     exact ⟨by rw [HV.out];rfl,HB.out⟩
    ·have HV:Hid (inside ⟨8,v,l,r⟩ i=false):=hid (by simp [inside,wide,far,two,inR];omega)
     go_enter Tryz.func255,Tryz.ntmps255
     go_wp2
     go_ret
     exact ⟨by rw [HV.out];rfl,HB.out⟩
   ·have HV:Hid (inside ⟨8,v,l,r⟩ i=false):=hid (by simp [inside,wide,far,two,inR];omega)
    go_enter Tryz.func255,Tryz.ntmps255
    go_wp2
    go_ret
    exact ⟨by rw [HV.out];rfl,HB.out⟩
 ·by_cases p1:r<0
  ·have HV:Hid (inside ⟨9,v,l,r⟩ i=false):=hid (by simp [inside,wide,far,two,inR];omega)
   go_enter Tryz.func255,Tryz.ntmps255
   go_wp2
   go_ret
   exact ⟨by rw [HV.out];rfl,HB.out⟩
  by_cases p2:i≤r
  ·have HV:Hid (inside ⟨9,v,l,r⟩ i=false):=hid (by simp [inside,wide,far,two,inR];omega)
   go_enter Tryz.func255,Tryz.ntmps255
   go_wp2
   go_ret
   exact ⟨by rw [HV.out];rfl,HB.out⟩
  ·by_cases q1:0≤l
   ·by_cases q2:l<i
    ·have HV:Hid (inside ⟨9,v,l,r⟩ i=true):=hid (by simp [inside,wide,far,two,inR];omega)
     go_enter Tryz.func255,Tryz.ntmps255
     go_wp2
     go_ret
     exact ⟨by rw [HV.out];rfl,HB.out⟩
    ·have HV:Hid (inside ⟨9,v,l,r⟩ i=false):=hid (by simp [inside,wide,far,two,inR];omega)
     go_enter Tryz.func255,Tryz.ntmps255
     go_wp2
     go_ret
     exact ⟨by rw [HV.out];rfl,HB.out⟩
   ·have HV:Hid (inside ⟨9,v,l,r⟩ i=false):=hid (by simp [inside,wide,far,two,inR];omega)
    go_enter Tryz.func255,Tryz.ntmps255
    go_wp2
    go_ret
    exact ⟨by rw [HV.out];rfl,HB.out⟩
 ·by_cases q1:0≤l
  ·by_cases q2:l<i
   ·have HV:Hid (inside ⟨10,v,l,r⟩ i=true):=hid (by simp [inside,wide,far,two,inR];omega)
    go_enter Tryz.func255,Tryz.ntmps255
    go_wp2
    go_ret
    exact ⟨by rw [HV.out];rfl,HB.out⟩
   ·have HV:Hid (inside ⟨10,v,l,r⟩ i=false):=hid (by simp [inside,wide,far,two,inR];omega)
    go_enter Tryz.func255,Tryz.ntmps255
    go_wp2
    go_ret
    exact ⟨by rw [HV.out];rfl,HB.out⟩
  ·have HV:Hid (inside ⟨10,v,l,r⟩ i=false):=hid (by simp [inside,wide,far,two,inR];omega)
   go_enter Tryz.func255,Tryz.ntmps255
   go_wp2
   go_ret
   exact ⟨by rw [HV.out];rfl,HB.out⟩
end Ex
end Go.Proofs.YtccklgopcjilcaaGreatDoor
/- The specification's TypeOf. -/
namespace Go.Proofs.YtccklgopcjilcaaGreatDoor
open Go.RowKit
set_option linter.unusedVariables false
namespace Ex
open Nd (NodeD)
theorem kept_cell {B:Nat} {W w:World} (h:Below B W w) {b o:Nat} (hb:b<B) {v:Value} (hc:W.cell? ⟨b,o,none⟩=some v):w.cell? ⟨b,o,none⟩=some v:=(h.cell (p:=⟨b,o,none⟩) hb).trans hc
theorem kept_free {B:Nat} {W w:World} (h:Below B W w) {b o:Nat} (hb:b<B) (hc:W.frozen? ⟨b,o,none⟩=false):w.frozen? ⟨b,o,none⟩=false:=(h.frozen (p:=⟨b,o,none⟩) hb).trans hc
theorem setB {B:Nat} {W w:World} (h:Below B W w) {b o:Nat} (hb:B≤b) (x:Value):Below B W (w.setCell ⟨b,o,none⟩ x):=h.setCell hb x
theorem ret_two {c d x y:Int} (h:c=d) (h2:x=y):Ending.returned (.agg #[.int .i64 c,.int .i64 x])=.returned (.agg #[.int .i64 d,.int .i64 y]):=by rw [h,h2]
set_option maxRecDepth 100000 in
set_option maxHeartbeats 2000000 in
theorem specType (B:Nat) (ns:List NodeD) (v:Value) (w:World) (hl:ns.length≤1048576) (ha:Nd.At w B v ns):
    Calls Tryz.prog 224 #[v] w fun e w'=>e=.returned (.tuple #[.int .i64 (typeVal ns),.int .i64 (typeCode ns)])∧Below w.heap.size w w':=by
 have HF:=hid (specFault1 B ns v w hl ha)
 obtain ⟨a,cap,rfl⟩:=ha.slice
 have HA:=hid ha
 clear ha
 go_enter Tryz.func224,Tryz.ntmps224
 go_wp2_with fail
 refine HF.out.mono ?_
 rintro e w1 ⟨rfl,hb1⟩
 by_cases hf:eFault ns=0
 ·have b1:(eFault ns != 0)=false:=by simp [hf]
  obtain ⟨h0,h16,hok⟩:=of_e hf
  have HFZ:=hid hf
  have HT:=hid (specTypes B ns _ w1 h16 hok (HA.out.below hb1))
  clear hf hok
  go_wp2_with fail
  refine HT.out.mono ?_
  rintro e w2 ⟨⟨u,rfl,ho⟩,hb2⟩
  have B2:=hb1.trans (hb2.mono hb1.size)
  cases hto:tOk ns
  ·have HV:=hid (ty_bad HFZ.out hto)
   clear hto ho
   go_wp2
   go_ret2
   exact ⟨by rw [HV.out.1,HV.out.2];rfl,B2⟩
  ·have HV:=hid (ty_ok HFZ.out hto)
   have ho2:=ho hto
   clear hto ho
   obtain ⟨a1,d1,rfl⟩:=owns_slice ho2
   obtain ⟨g5,rfl,hg5⟩:=owns_some ho2 h0
   have m0:=ty_cell ho2 (j:=ns.length - 1) (by omega)
   have hcast:(ns.length:Int) - 1=((ns.length - 1:Nat):Int):=by omega
   have q1:((ns.length - 1:Nat):Int)<(ns.length:Int):=by omega
   clear ho2
   go_wp2
   go_ret2
   exact ⟨by rw [HV.out.1,HV.out.2];rfl,B2⟩
 ·have HV:=hid (ty_fault hf)
  have b1:(eFault ns != 0)=true:=by simpa using hf
  clear hf
  go_wp2
  go_ret2
  exact ⟨by rw [HV.out.1,HV.out.2];rfl,hb1⟩
end Ex
end Go.Proofs.YtccklgopcjilcaaGreatDoor
/- The specification's EvalExpr: one node of two numbers. -/
namespace Go.Proofs.YtccklgopcjilcaaGreatDoor
open Go.RowKit
set_option linter.unusedVariables false
namespace Ex
open Nd (NodeD)
def bit (b:Bool):Int:=if b then 1 else 0
def oneVal (k a b:Int):Int:=
 if k=3 then a+b else if k=4 then a - b else if k=5 then a*b else if k=6 then (if b=0 then 0 else a.tdiv b) else if k=7 then bit (decide (a<b)) else if k=8 then bit (a==b) else if k=9 then a*b else 1 - a
def oneOk (k a b:Int):Bool:=!((k==6)&&(b==0))&&inR (oneVal k a b) (-1000000) 1000000
end Ex
end Go.Proofs.YtccklgopcjilcaaGreatDoor
/- What an expression comes to, as a plain function, and facts about it. -/
namespace Go.Proofs.YtccklgopcjilcaaGreatDoor
open Go.RowKit
set_option linter.unusedVariables false
namespace Ex
open Nd (NodeD)
def valAt (ns:List NodeD) (vars vs:List Int) (i:Nat):Int:=if (NJ ns i).kind=2 then vars.getD (NJ ns i).value.toNat 0 else if 2<(NJ ns i).kind then oneVal (NJ ns i).kind (vs.getD (NJ ns i).left.toNat 0) (vs.getD (NJ ns i).right.toNat 0) else (NJ ns i).value
def evs (ns:List NodeD) (vars:List Int):Nat→List Int
 | 0=>[]
 | i+1=>evs ns vars i++[valAt ns vars (evs ns vars i) i]
def evBad (ns:List NodeD) (vars:List Int) (i:Nat):Bool:=decide (2<(NJ ns i).kind)&&!oneOk (NJ ns i).kind ((evs ns vars i).getD (NJ ns i).left.toNat 0) ((evs ns vars i).getD (NJ ns i).right.toNat 0)
def evOk (ns:List NodeD) (vars:List Int):Bool:=(List.range ns.length).all (fun j=>!evBad ns vars j)
def evalCode (ns:List NodeD) (vars:List Int):Int:=if typeCode ns≠0 then typeCode ns else if vFault vars≠0 then vFault vars else if evOk ns vars=true then 0 else 8
def evalVal (ns:List NodeD) (vars:List Int):Int:=if evalCode ns vars=0 then (evs ns vars ns.length).getD (ns.length - 1) 0 else 0
theorem of_v {xs:List Int} (h:vFault xs=0):xs.length=4∧∀i (hi:i<xs.length),inR xs[i] (-1000000) 1000000=true:=by
 unfold vFault at h
 by_cases h1:xs.length≠4
 ·rw [if_pos h1] at h;omega
 ·rw [if_neg h1] at h
  by_cases h2:xs.all (fun x=>inR x (-1000000) 1000000)=true
  ·exact ⟨by omega,fun i hi=>List.all_eq_true.1 h2 _ (List.getElem_mem hi)⟩
  ·rw [if_neg h2] at h;omega
theorem v_const {n:NodeD} {i:Int} (h:nCode n i=0) (hk:n.kind=1):0≤n.value∧n.value≤9999:=by
 have h3:=(of_n h).2.2.1
 unfold wide at h3
 simp only [hk,Bool.or_eq_false_iff,Bool.and_eq_false_iff,Bool.not_eq_false'] at h3
 rcases h3.1 with h4 | h4
 ·simp at h4
 ·exact inR_iff.1 h4
theorem v_var {n:NodeD} {i:Int} (h:nCode n i=0) (hk:n.kind=2):0≤n.value∧n.value≤3:=by
 have h3:=(of_n h).2.2.1
 unfold wide at h3
 simp only [hk,Bool.or_eq_false_iff,Bool.and_eq_false_iff,Bool.not_eq_false'] at h3
 rcases h3.2 with h4 | h4
 ·simp at h4
 ·exact inR_iff.1 h4
theorem v_not {n:NodeD} {i:Int} (h:nCode n i=0) (hk:n.kind=10):n.right=0:=by
 have h3:=(of_n h).2.1
 unfold has at h3
 simp only [hk,Bool.or_eq_false_iff,Bool.and_eq_false_iff] at h3
 rcases h3.2 with h4 | h4
 ·simp at h4
 ·simpa using h4
end Ex
end Go.Proofs.YtccklgopcjilcaaGreatDoor
