/- Laid together: TmA, TmB, TmC. -/
import Derived.Test.YtccklgopcjilcaaGreatDoorJCT5
import Derived.Lib.ItoaNum
/- Expressions as terms: plain facts, of no program. -/
namespace Go.Proofs.YtccklgopcjilcaaGreatDoor
open Go.RowKit
set_option linter.unusedVariables false
namespace Ex
open Nd (NodeD)
structure Tm where
 sub:List Tm
 v:Bool
 n:Int
abbrev Tm.const (n:Int):Tm:=⟨[],false,n⟩
abbrev Tm.var (n:Int):Tm:=⟨[],true,n⟩
abbrev Tm.not (t:Tm):Tm:=⟨[t],false,0⟩
abbrev Tm.pair (k:Int) (l r:Tm):Tm:=⟨[l,r],false,k⟩
def termF (ns:List NodeD):Nat→Nat→Option (Tm × Nat)
 | 0,_=>none
 | f+1,k=>
  if (NJ ns k).kind=1 then some (.const (NJ ns k).value,k)
  else if (NJ ns k).kind=2 then some (.var (NJ ns k).value,k)
  else if (NJ ns k).kind=10 then (if (NJ ns k).left=(k:Int) - 1 then (termF ns f (k - 1)).map (fun p=>(.not p.1,p.2)) else none)
  else if (NJ ns k).right=(k:Int) - 1 then
   (termF ns f (k - 1)).bind fun p=>if (NJ ns k).left=(p.2:Int) - 1 then (termF ns f (p.2 - 1)).map (fun q=>(.pair (NJ ns k).kind q.1 p.1,q.2)) else none
  else none
theorem kinds {n:NodeD} {i:Int} (h:nCode n i=0):n.kind=1∨n.kind=2∨n.kind=10∨(two n.kind=true∧3≤n.kind∧n.kind≤9):=by
 have h1:=inR_iff.1 (of_n h).1
 by_cases e:3≤n.kind∧n.kind≤9
 ·exact .inr (.inr (.inr ⟨inR_iff.2 e,e.1,e.2⟩))
 ·omega
theorem t_const {ns:List NodeD} {f k:Nat} (h:(NJ ns k).kind=1):termF ns (f+1) k=some (.const (NJ ns k).value,k):=by rw [termF,if_pos h]
theorem t_var {ns:List NodeD} {f k:Nat} (h:(NJ ns k).kind=2):termF ns (f+1) k=some (.var (NJ ns k).value,k):=by rw [termF,if_neg (by omega),if_pos h]
theorem t_not {ns:List NodeD} {f k:Nat} (h:(NJ ns k).kind=10) (hl:(NJ ns k).left=(k:Int) - 1):termF ns (f+1) k=(termF ns f (k - 1)).map (fun p=>(.not p.1,p.2)):=by rw [termF,if_neg (by omega),if_neg (by omega),if_pos h,if_pos hl]
theorem t_not_none {ns:List NodeD} {f k:Nat} (h:(NJ ns k).kind=10) (hl:¬(NJ ns k).left=(k:Int) - 1):termF ns (f+1) k=none:=by rw [termF,if_neg (by omega),if_neg (by omega),if_pos h,if_neg hl]
theorem t_pair {ns:List NodeD} {f k:Nat} (h:3≤(NJ ns k).kind∧(NJ ns k).kind≤9) (hr:(NJ ns k).right=(k:Int) - 1):termF ns (f+1) k=(termF ns f (k - 1)).bind fun p=>if (NJ ns k).left=(p.2:Int) - 1 then (termF ns f (p.2 - 1)).map (fun q=>(.pair (NJ ns k).kind q.1 p.1,q.2)) else none:=by rw [termF,if_neg (by omega),if_neg (by omega),if_neg (by omega),if_pos hr]
theorem t_pair_none {ns:List NodeD} {f k:Nat} (h:3≤(NJ ns k).kind∧(NJ ns k).kind≤9) (hr:¬(NJ ns k).right=(k:Int) - 1):termF ns (f+1) k=none:=by rw [termF,if_neg (by omega),if_neg (by omega),if_neg (by omega),if_neg hr]
theorem term_ind {ns:List NodeD} (hok:∀k,k<ns.length→nCode (NJ ns k) k=0) {P:Nat→Nat→Tm→Nat→Prop}
    (hc:∀f k,k<ns.length→(NJ ns k).kind=1→P (f+1) k (.const (NJ ns k).value) k)
    (hv:∀f k,k<ns.length→(NJ ns k).kind=2→P (f+1) k (.var (NJ ns k).value) k)
    (hn:∀f k t a,k+1<ns.length→k<f→a≤k→(NJ ns (k+1)).kind=10→(NJ ns (k+1)).left=(k:Int)→termF ns f k=some (t,a)→P f k t a→P (f+1) (k+1) (.not t) a)
    (hp:∀f k j l r a,k+1<ns.length→k<f→j<k→a≤j→3≤(NJ ns (k+1)).kind→(NJ ns (k+1)).kind≤9→two (NJ ns (k+1)).kind=true→(NJ ns (k+1)).right=(k:Int)→(NJ ns (k+1)).left=(j:Int)→termF ns f k=some (r,j+1)→termF ns f j=some (l,a)→P f k r (j+1)→P f j l a→P (f+1) (k+1) (.pair (NJ ns (k+1)).kind l r) a):
    ∀(f k:Nat) (t:Tm) (a:Nat),k<ns.length→k<f→termF ns f k=some (t,a)→a≤k∧P f k t a
 | 0,k,t,a,hk,hf,h=>by omega
 | f+1,k,t,a,hk,hf,h=>by
  have IH:=term_ind hok hc hv hn hp f
  have hnk:=hok k hk
  rcases kinds hnk with e | e | e | ⟨e1,e2,e3⟩
  ·rw [t_const e] at h
   cases h
   exact ⟨Nat.le_refl _,hc f k hk e⟩
  ·rw [t_var e] at h
   cases h
   exact ⟨Nat.le_refl _,hv f k hk e⟩
  ·have hl:=n_left hnk (by omega)
   by_cases e2:(NJ ns k).left=(k:Int) - 1
   ·rw [t_not e e2] at h
    obtain ⟨k',rfl⟩:∃k',k=k'+1:=⟨k - 1,by omega⟩
    rw [Nat.add_sub_cancel] at h
    cases h1:termF ns f k' with
    | none=>rw [h1] at h;cases h
    | some p=>
     obtain ⟨t1,a1⟩:=p
     rw [h1] at h
     simp only [Option.map_some,Option.some.injEq,Prod.mk.injEq] at h
     obtain ⟨rfl,rfl⟩:=h
     obtain ⟨g1,g2⟩:=IH k' t1 a1 (by omega) (by omega) h1
     exact ⟨by omega,hn f k' t1 a1 hk (by omega) g1 e (by omega) h1 g2⟩
   ·rw [t_not_none e e2] at h;cases h
  ·have hl:=n_left hnk (by omega)
   have hr:=n_right hnk e1
   by_cases e4:(NJ ns k).right=(k:Int) - 1
   ·rw [t_pair ⟨e2,e3⟩ e4] at h
    obtain ⟨k',rfl⟩:∃k',k=k'+1:=⟨k - 1,by omega⟩
    rw [Nat.add_sub_cancel] at h
    cases h1:termF ns f k' with
    | none=>rw [h1] at h;cases h
    | some p=>
     obtain ⟨r,b⟩:=p
     rw [h1] at h
     simp only [Option.bind_some] at h
     by_cases e5:(NJ ns (k'+1)).left=(b:Int) - 1
     ·rw [if_pos e5] at h
      obtain ⟨j,rfl⟩:∃j,b=j+1:=⟨b - 1,by omega⟩
      rw [Nat.add_sub_cancel] at h
      obtain ⟨g1,g2⟩:=IH k' r (j+1) (by omega) (by omega) h1
      cases h2:termF ns f j with
      | none=>rw [h2] at h;cases h
      | some q=>
       obtain ⟨l,a1⟩:=q
       rw [h2] at h
       simp only [Option.map_some,Option.some.injEq,Prod.mk.injEq] at h
       obtain ⟨rfl,rfl⟩:=h
       obtain ⟨g3,g4⟩:=IH j l a1 (by omega) (by omega) h2
       exact ⟨by omega,hp f k' j l r a1 hk (by omega) (by omega) g3 e2 e3 e1 (by omega) (by omega) h1 h2 g2 g4⟩
     ·rw [if_neg e5] at h;cases h
   ·rw [t_pair_none ⟨e2,e3⟩ e4] at h;cases h
theorem not_two10 {k:Int} (h:k=10):two k=false:=inR_not.2 (by omega)
theorem leaf_two {k:Int} (h:k=1∨k=2):two k=false:=inR_not.2 (by omega)
theorem term_walk {ns:List NodeD} (hok:∀k,k<ns.length→nCode (NJ ns k) k=0) (f k:Nat) (t:Tm) (a:Nat) (hk:k<ns.length) (hf:k<f) (h:termF ns f k=some (t,a)):
    a≤k∧∀out:List Nat,out.length+(k - a)≤16→walkF ns f k out=out++List.range' a (k+1 - a):=by
 refine term_ind hok (P:=fun f k t a=>∀out:List Nat,out.length+(k - a)≤16→walkF ns f k out=out++List.range' a (k+1 - a)) ?_ ?_ ?_ ?_ f k t a hk hf h
 ·intro f k hk e out ho
  rw [walk_leaf (by omega) (by omega) (leaf_two (.inl e)),show k+1 - k=1 by omega]
  rfl
 ·intro f k hk e out ho
  rw [walk_leaf (by omega) (by omega) (leaf_two (.inr e)),show k+1 - k=1 by omega]
  rfl
 ·intro f k t a hk hf ha e el _ ih out ho
  rw [walk_one (by omega) (by omega) (not_two10 e) el,ih out (by omega),List.append_assoc,show k+1+1 - a=(k+1 - a)+1 by omega,List.range'_concat]
  rw [Nat.one_mul,show a+(k+1 - a)=k+1 by omega]
 ·intro f k j l r a hk hf hj ha e1 e2 e3 er el _ _ ih1 ih2 out ho
  rw [walk_two (by omega) (by omega) e3 el er,ih2 out (by omega),ih1 _ (by simp;omega),List.append_assoc,List.append_assoc,←List.append_assoc (List.range' a _),
   show List.range' a (j+1 - a)++List.range' (j+1) (k+1 - (j+1))=List.range' a (k+1 - a) by
    have:=List.range'_append (s:=a) (m:=j+1 - a) (n:=k+1 - (j+1)) (step:=1)
    rw [Nat.one_mul,show a+(j+1 - a)=j+1 by omega,show (j+1 - a)+(k+1 - (j+1))=k+1 - a by omega] at this
    exact this,
   show k+1+1 - a=(k+1 - a)+1 by omega,List.range'_concat]
  rw [Nat.one_mul,show a+(k+1 - a)=k+1 by omega]
theorem walk_pre (ns:List NodeD):∀(f k:Nat) (out:List Nat),∃s,walkF ns f k out=out++s
 | 0,k,out=>⟨[],by rw [walkF];simp⟩
 | f+1,k,out=>by
  rw [walkF]
  split
  ·exact ⟨[],by simp⟩
  ·have e1:∃s,(if 2<(NJ ns k).kind then walkF ns f (NJ ns k).left.toNat out else out)=out++s:=by
    split
    ·exact walk_pre ns f _ _
    ·exact ⟨[],by simp⟩
   obtain ⟨s1,h1⟩:=e1
   rw [h1]
   split
   ·obtain ⟨s2,h2⟩:=walk_pre ns f (NJ ns k).right.toNat (out++s1)
    rw [h2]
    exact ⟨s1++s2++[k],by simp⟩
   ·exact ⟨s1++[k],by simp⟩
theorem range_snoc {o:List Nat} {k m:Nat} (h:o++[k]=List.range m):m=k+1∧o=List.range k:=by
 have hl:=congrArg List.length h
 simp at hl
 subst hl
 rw [List.range_succ] at h
 have:=List.append_inj h (by simp)
 have h2:k=o.length:=by simpa using this.2
 exact ⟨by omega,by rw [h2];exact this.1⟩
theorem range_pre {o s:List Nat} {m:Nat} (h:o++s=List.range m):o=List.range o.length:=by
 have hl:=congrArg List.length h
 simp at hl
 have h2:=congrArg (List.take o.length) h
 rw [List.take_left,List.take_range,Nat.min_eq_left (by omega)] at h2
 exact h2
theorem walk_term {ns:List NodeD} (hok:∀k,k<ns.length→nCode (NJ ns k) k=0) (hns:ns.length≤16):∀(f k:Nat) (out:List Nat) (m:Nat),k<ns.length→k<f→out.length≤16→walkF ns f k out=List.range m→m=k+1∧∃t,termF ns f k=some (t,out.length)
 | 0,k,out,m,hk,hf,ho,h=>by omega
 | f+1,k,out,m,hk,hf,ho,h=>by
  have IH:=walk_term hok hns f
  have hnk:=hok k hk
  rcases kinds hnk with e | e | e | ⟨e1,e2,e3⟩
  ·rw [walk_leaf (by omega) (by omega) (leaf_two (.inl e))] at h
   obtain ⟨h1,h2⟩:=range_snoc h
   refine ⟨h1,.const (NJ ns k).value,?_⟩
   rw [t_const e,h2,List.length_range]
  ·rw [walk_leaf (by omega) (by omega) (leaf_two (.inr e))] at h
   obtain ⟨h1,h2⟩:=range_snoc h
   refine ⟨h1,.var (NJ ns k).value,?_⟩
   rw [t_var e,h2,List.length_range]
  ·have hl:=n_left hnk (by omega)
   obtain ⟨l,el⟩:∃l:Nat,(NJ ns k).left=(l:Int):=⟨(NJ ns k).left.toNat,by omega⟩
   rw [walk_one (by omega) (by omega) (not_two10 e) el] at h
   obtain ⟨h1,h2⟩:=range_snoc h
   obtain ⟨h3,t,h4⟩:=IH l out k (by omega) (by omega) ho h2
   refine ⟨h1,.not t,?_⟩
   rw [t_not e (by omega),show k - 1=l by omega,h4]
   rfl
  ·have hl:=n_left hnk (by omega)
   have hr:=n_right hnk e1
   obtain ⟨l,el⟩:∃l:Nat,(NJ ns k).left=(l:Int):=⟨(NJ ns k).left.toNat,by omega⟩
   obtain ⟨r,er⟩:∃l:Nat,(NJ ns k).right=(l:Int):=⟨(NJ ns k).right.toNat,by omega⟩
   rw [walk_two (by omega) (by omega) e1 el er] at h
   obtain ⟨h1,h2⟩:=range_snoc h
   obtain ⟨s,hs⟩:=walk_pre ns f r (walkF ns f l out)
   have h3:=range_pre (hs.symm.trans h2)
   have h16:(walkF ns f l out).length≤16:=by
    have:=congrArg List.length (hs.symm.trans h2)
    simp at this
    omega
   obtain ⟨g1,t1,g2⟩:=IH r _ k (by omega) (by omega) h16 h2
   obtain ⟨g3,t2,g4⟩:=IH l out _ (by omega) (by omega) ho h3
   refine ⟨h1,.pair (NJ ns k).kind t2 t1,?_⟩
   rw [t_pair ⟨e2,e3⟩ (by omega),show k - 1=r by omega,g2]
   simp only [Option.bind_some]
   rw [if_pos (by omega),show (walkF ns f l out).length - 1=l by omega,g4]
   rfl
def topF (ns:List NodeD):Option (Tm × Nat):=termF ns ns.length (ns.length - 1)
theorem top_of {ns:List NodeD} (hok:∀k,k<ns.length→nCode (NJ ns k) k=0) (h0:0<ns.length) (hns:ns.length≤16) (h:order ns=List.range ns.length):∃t,topF ns=some (t,0):=
 (walk_term hok hns ns.length (ns.length - 1) [] ns.length (by omega) (by omega) (by simp) h).2
theorem of_top {ns:List NodeD} (hok:∀k,k<ns.length→nCode (NJ ns k) k=0) (h0:0<ns.length) (hns:ns.length≤16) {t:Tm} (h:topF ns=some (t,0)):order ns=List.range ns.length:=by
 have h2:=(term_walk hok ns.length (ns.length - 1) t 0 (by omega) (by omega) h).2 [] (by simp only [List.length_nil];omega)
 unfold order
 rw [h2,List.nil_append,List.range_eq_range',show ns.length - 1+1 - 0=ns.length by omega]
theorem e_of_top {ns:List NodeD} (h:¬(ns.length<1∨16<ns.length)) (h2:eCodeTo ns ns.length=0) {t:Tm} (h3:topF ns=some (t,0)):eFault ns=0:=
 e_ok h h2 (of_top (code_all h2) (by omega) (by omega) h3)
theorem e_no_top {ns:List NodeD} (h:¬(ns.length<1∨16<ns.length)) (h2:eCodeTo ns ns.length=0) (h3:∀t,topF ns≠some (t,0)):eFault ns=1:=
 e_form h h2 (fun e=>by obtain ⟨t,ht⟩:=top_of (code_all h2) (by omega) (by omega) e;exact h3 t ht)
end Ex
end Go.Proofs.YtccklgopcjilcaaGreatDoor
/- Types and values of terms: plain facts, of no program. -/
namespace Go.Proofs.YtccklgopcjilcaaGreatDoor
open Go.RowKit
set_option linter.unusedVariables false
namespace Ex
open Nd (NodeD)
def pairAsk (k:Int):Int:=if inR k 3 8=true then 1 else 2
def pairOwn (k:Int):Int:=if inR k 3 6=true then 1 else 2
def Tm.ty:Tm→Int
 | ⟨[],false,_⟩=>1
 | ⟨[],true,_⟩=>1
 | ⟨[_],_,_⟩=>2
 | ⟨_ :: _ :: _,_,k⟩=>pairOwn k
def Tm.fit:Tm→Bool
 | ⟨[],false,_⟩=>true
 | ⟨[],true,_⟩=>true
 | ⟨[t],_,_⟩=>t.fit&&(t.ty==2)
 | ⟨l :: r :: _,_,k⟩=>(l.fit&&(l.ty==pairAsk k))&&(r.fit&&(r.ty==pairAsk k))
theorem fit_iff {ns:List NodeD} (hok:∀k,k<ns.length→nCode (NJ ns k) k=0) (f k:Nat) (t:Tm) (a:Nat) (hk:k<ns.length) (hf:k<f) (h:termF ns f k=some (t,a)):
    a≤k∧(t.ty=ty ns k∧(t.fit=true↔∀j,a≤j→j≤k→badAt ns j=false)):=by
 refine term_ind hok (P:=fun f k t a=>t.ty=ty ns k∧(t.fit=true↔∀j,a≤j→j≤k→badAt ns j=false)) ?_ ?_ ?_ ?_ f k t a hk hf h
 ·intro f k hk e
  refine ⟨by simp [Tm.ty,ty,tyOf,e],?_⟩
  simp only [Tm.fit,true_iff]
  intro j h1 h2
  obtain rfl:j=k:=by omega
  simp [badAt,e,leaf_two]
 ·intro f k hk e
  refine ⟨by simp [Tm.ty,ty,tyOf,e],?_⟩
  simp only [Tm.fit,true_iff]
  intro j h1 h2
  obtain rfl:j=k:=by omega
  simp [badAt,e,leaf_two]
 ·intro f k t a hk hf ha e el _ ⟨ih1,ih2⟩
  refine ⟨by simp [Tm.ty,ty,tyOf,e],?_⟩
  have hb:badAt ns (k+1)=(ty ns k != 2):=by
   unfold badAt
   rw [e,el,Int.toNat_natCast,not_two10 rfl]
   simp [wantOf]
  simp only [Tm.fit,Bool.and_eq_true,beq_iff_eq]
  rw [ih2,ih1]
  constructor
  ·rintro ⟨h1,h2⟩ j hj1 hj2
   by_cases ej:j=k+1
   ·subst ej;rw [hb,h2];rfl
   ·exact h1 j hj1 (by omega)
  ·intro h1
   refine ⟨fun j hj1 hj2=>h1 j hj1 (by omega),?_⟩
   have:=h1 (k+1) (by omega) (by omega)
   rw [hb] at this
   simpa using this
 ·intro f k j l r a hk hf hj ha e1 e2 e3 er el _ _ ⟨r1,r2⟩ ⟨l1,l2⟩
  generalize hkd:(NJ ns (k+1)).kind=kd at *
  have hw:wantOf kd=pairAsk kd:=by
   unfold wantOf pairAsk
   by_cases c:kd=9
   ·rw [if_pos (.inl c),if_neg (by rw [inR_iff];omega)]
   ·rw [if_neg (by omega),if_pos (inR_iff.2 (by omega))]
  refine ⟨?_,?_⟩
  ·simp only [Tm.ty]
   unfold pairOwn ty tyOf
   rw [hkd]
   by_cases c:7≤kd
   ·rw [if_pos c,if_neg (by rw [inR_iff];omega)]
   ·rw [if_neg c,if_pos (inR_iff.2 (by omega))]
  have hb:badAt ns (k+1)=((ty ns j != pairAsk kd) || (ty ns k != pairAsk kd)):=by
   unfold badAt
   rw [hkd,el,er,Int.toNat_natCast,Int.toNat_natCast,e3,hw]
   simp [show 2<kd by omega]
  simp only [Tm.fit,Bool.and_eq_true,beq_iff_eq]
  rw [l2,r2,l1,r1]
  constructor
  ·rintro ⟨⟨h1,h2⟩,h3,h4⟩ i hi1 hi2
   by_cases ej:i=k+1
   ·subst ej;rw [hb,h2,h4];simp
   ·by_cases ej:i≤j
    ·exact h1 i hi1 ej
    ·exact h3 i (by omega) (by omega)
  ·intro h1
   have:=h1 (k+1) (by omega) (by omega)
   rw [hb,Bool.or_eq_false_iff] at this
   exact ⟨⟨fun i hi1 hi2=>h1 i hi1 (by omega),by simpa using this.1⟩,fun i hi1 hi2=>h1 i (by omega) (by omega),by simpa using this.2⟩
theorem top_fit {ns:List NodeD} {t:Tm} (he:eFault ns=0) (h:topF ns=some (t,0)):t.fit=tOk ns∧t.ty=ty ns (ns.length - 1):=by
 obtain ⟨h0,h16,hok⟩:=of_e he
 obtain ⟨_,h1,h2⟩:=fit_iff hok _ _ t 0 (by omega) (by omega) h
 refine ⟨?_,h1⟩
 rw [Bool.eq_iff_iff,h2]
 constructor
 ·intro h3
  exact tOk_all (fun j hj=>h3 j (Nat.zero_le _) (by omega))
 ·intro h3 j _ hj
  cases e:badAt ns j
  ·rfl
  ·rw [tOk_bad (by omega) e] at h3;cases h3
def Tm.ev (vars:List Int):Tm→Int
 | ⟨[],false,n⟩=>n
 | ⟨[],true,n⟩=>vars.getD n.toNat 0
 | ⟨[t],_,_⟩=>1 - t.ev vars
 | ⟨l :: r :: _,_,k⟩=>oneVal k (l.ev vars) (r.ev vars)
def Tm.good (vars:List Int):Tm→Bool
 | ⟨[],false,_⟩=>true
 | ⟨[],true,_⟩=>true
 | ⟨[t],_,_⟩=>t.good vars
 | ⟨l :: r :: _,_,k⟩=>(l.good vars&&r.good vars)&&oneOk k (l.ev vars) (r.ev vars)
def Tm.ok:Tm→Prop
 | ⟨[],false,n⟩=>0≤n∧n≤9999
 | ⟨[],true,n⟩=>0≤n∧n≤3
 | ⟨[t],v,n⟩=>t.ok∧v=false∧n=0
 | ⟨l :: r :: s,v,k⟩=>(3≤k∧k≤9∧l.ok∧r.ok)∧v=false∧s=[]
def Tm.size:Tm→Nat
 | ⟨[],false,_⟩=>1
 | ⟨[],true,_⟩=>1
 | ⟨[t],_,_⟩=>t.size+1
 | ⟨l :: r :: _,_,_⟩=>l.size+r.size+1
def Tm.nodes:Tm→Nat→List NodeD
 | ⟨[],false,n⟩,_=>[⟨1,n,0,0⟩]
 | ⟨[],true,n⟩,_=>[⟨2,n,0,0⟩]
 | ⟨[t],_,_⟩,b=>t.nodes b++[⟨10,0,((b+t.size - 1:Nat):Int),0⟩]
 | ⟨l :: r :: _,_,k⟩,b=>l.nodes b++r.nodes (b+l.size)++[⟨k,0,((b+l.size - 1:Nat):Int),((b+l.size+r.size - 1:Nat):Int)⟩]
theorem nodes_len:∀(t:Tm) (b:Nat),(t.nodes b).length=t.size
 | ⟨[],false,n⟩,b=>rfl
 | ⟨[],true,n⟩,b=>rfl
 | ⟨[t],_,_⟩,b=>by simp [Tm.nodes,Tm.size,nodes_len t b]
 | ⟨l :: r :: _,_,k⟩,b=>by simp [Tm.nodes,Tm.size,nodes_len l b,nodes_len r (b+l.size)];omega
theorem term_ok {ns:List NodeD} (hok:∀k,k<ns.length→nCode (NJ ns k) k=0) (f k:Nat) (t:Tm) (a:Nat) (hk:k<ns.length) (hf:k<f) (h:termF ns f k=some (t,a)):a≤k∧(t.ok∧t.size=k+1 - a):=by
 refine term_ind hok (P:=fun f k t a=>t.ok∧t.size=k+1 - a) ?_ ?_ ?_ ?_ f k t a hk hf h
 ·intro f k hk e;exact ⟨v_const (hok k hk) e,by simp [Tm.size]⟩
 ·intro f k hk e;exact ⟨v_var (hok k hk) e,by simp [Tm.size]⟩
 ·intro f k t a hk hf ha e el _ ih;exact ⟨⟨ih.1,rfl,rfl⟩,by simp only [Tm.size];omega⟩
 ·intro f k j l r a hk hf hj ha e1 e2 e3 er el _ _ ih1 ih2;exact ⟨⟨⟨e1,e2,ih2.1,ih1.1⟩,rfl,rfl⟩,by simp only [Tm.size];omega⟩
theorem n_leaf {n:NodeD} {i:Int} (h:nCode n i=0) (hk:n.kind≤2):n.left=0∧n.right=0:=by
 have h3:=(of_n h).2.1
 unfold has at h3
 simp only [hk,decide_true,Bool.true_and,Bool.or_eq_false_iff] at h3
 simpa using h3.1.1
theorem n_value {n:NodeD} {i:Int} (h:nCode n i=0) (hk:2<n.kind):n.value=0:=by
 have h3:=(of_n h).2.1
 unfold has at h3
 have:¬n.kind≤2:=by omega
 simp only [this,decide_false,Bool.not_false,Bool.true_and,Bool.or_eq_false_iff] at h3
 simpa using h3.1.2
theorem term_nodes {ns:List NodeD} (hok:∀k,k<ns.length→nCode (NJ ns k) k=0) (f k:Nat) (t:Tm) (a:Nat) (hk:k<ns.length) (hf:k<f) (h:termF ns f k=some (t,a)):a≤k∧(t.size=k+1 - a∧∀i,i<t.size→(t.nodes a)[i]?=some (NJ ns (a+i))):=by
 refine term_ind hok (P:=fun f k t a=>t.size=k+1 - a∧∀i,i<t.size→(t.nodes a)[i]?=some (NJ ns (a+i))) ?_ ?_ ?_ ?_ f k t a hk hf h
 ·intro f k hk e
  refine ⟨by simp [Tm.size],fun i hi=>?_⟩
  obtain rfl:i=0:=by simp [Tm.size] at hi;omega
  have:=n_leaf (hok k hk) (by omega)
  generalize NJ ns k=n at *
  obtain ⟨x,y,z,u⟩:=n
  simp only [Tm.nodes] at *
  simp_all
 ·intro f k hk e
  refine ⟨by simp [Tm.size],fun i hi=>?_⟩
  obtain rfl:i=0:=by simp [Tm.size] at hi;omega
  have:=n_leaf (hok k hk) (by omega)
  generalize NJ ns k=n at *
  obtain ⟨x,y,z,u⟩:=n
  simp only [Tm.nodes] at *
  simp_all
 ·intro f k t a hk hf ha e el _ ⟨ih1,ih2⟩
  refine ⟨by simp only [Tm.size];omega,fun i hi=>?_⟩
  simp only [Tm.size] at hi
  simp only [Tm.nodes]
  by_cases c:i<t.size
  ·rw [List.getElem?_append_left (by rw [nodes_len];exact c)];exact ih2 i c
  ·obtain rfl:i=t.size:=by omega
   rw [List.getElem?_append_right (by rw [nodes_len];exact Nat.le_refl _),nodes_len,Nat.sub_self,show a+t.size=k+1 by omega,show k+1 - 1=k by omega]
   have h1:=n_value (hok _ hk) (by omega)
   have h2:=v_not (hok _ hk) e
   generalize NJ ns (k+1)=n at *
   obtain ⟨x,y,z,u⟩:=n
   simp_all
 ·intro f k j l r a hk hf hj ha e1 e2 e3 er el _ _ ⟨r1,r2⟩ ⟨l1,l2⟩
  refine ⟨by simp only [Tm.size];omega,fun i hi=>?_⟩
  simp only [Tm.size] at hi
  simp only [Tm.nodes]
  have e5:a+l.size=j+1:=by omega
  rw [e5]
  by_cases c:i<l.size
  ·rw [List.append_assoc,List.getElem?_append_left (by rw [nodes_len];exact c)];exact l2 i c
  ·by_cases c2:i<l.size+r.size
   ·rw [List.getElem?_append_left (by rw [List.length_append,nodes_len,nodes_len];exact c2),List.getElem?_append_right (by rw [nodes_len];omega),nodes_len,r2 (i - l.size) (by omega)]
    congr 2
    omega
   ·obtain rfl:i=l.size+r.size:=by omega
    rw [List.getElem?_append_right (by rw [List.length_append,nodes_len,nodes_len];exact Nat.le_refl _),List.length_append,nodes_len,nodes_len,Nat.sub_self,show a+(l.size+r.size)=k+1 by omega,show j+1 - 1=j by omega,show j+1+r.size - 1=k by omega]
    have h1:=n_value (hok _ hk) (by omega)
    generalize NJ ns (k+1)=n at *
    obtain ⟨x,y,z,u⟩:=n
    simp_all
theorem top_nodes {ns:List NodeD} {t:Tm} (he:eFault ns=0) (h:topF ns=some (t,0)):ns=t.nodes 0∧t.ok∧t.size=ns.length:=by
 obtain ⟨h0,h16,hok⟩:=of_e he
 obtain ⟨_,h1,h2⟩:=term_nodes hok _ _ t 0 (by omega) (by omega) h
 refine ⟨?_,(term_ok hok _ _ t 0 (by omega) (by omega) h).2.1,by omega⟩
 apply List.ext_getElem?
 intro i
 by_cases c:i<t.size
 ·rw [h2 i c,Nat.zero_add,NJ_eq (by omega),List.getElem?_eq_getElem (by omega)]
 ·rw [List.getElem?_eq_none (by omega),List.getElem?_eq_none (by rw [nodes_len];omega)]
end Ex
end Go.Proofs.YtccklgopcjilcaaGreatDoor
/- Texts of terms, and how they are read: plain facts, of no program. -/
namespace Go.Proofs.YtccklgopcjilcaaGreatDoor
open Go.RowKit
set_option linter.unusedVariables false
namespace Ex
open Nd (NodeD)
open Go.Lib (decDigits decDigits_one)
def signOf (k:Int):UInt8:=if k=3 then 43 else if k=4 then 45 else if k=5 then 42 else if k=6 then 47 else if k=7 then 60 else if k=8 then 61 else 38
def kindOf (b:UInt8):Option Int:=if b=43 then some 3 else if b=45 then some 4 else if b=42 then some 5 else if b=47 then some 6 else if b=60 then some 7 else if b=61 then some 8 else if b=38 then some 9 else none
def isD (b:UInt8):Bool:=decide (48≤b.toNat)&&decide (b.toNat≤57)
def valD (d:List UInt8):Nat:=d.foldl (fun a b=>a*10+(b.toNat - 48)) 0
def numBad (most:Nat) (d:List UInt8):Bool:=decide (d.length=0) || decide (most<d.length) || (decide (d.head?=some 48)&&decide (1<d.length))
def num (most:Nat) (l:List UInt8):Option (Nat × List UInt8):=if numBad most (l.takeWhile isD)=true then none else some (valD (l.takeWhile isD),l.dropWhile isD)
def gp:Nat→List UInt8→Option (Tm × List UInt8)
 | 0,_=>none
 | f+1,[]=>none
 | f+1,b :: r=>
  if b=40 then (gp f r).bind fun p=>match p.2 with
      | []=>none
      | s :: r2=>(kindOf s).bind fun k=>(gp f r2).bind fun q=>match q.2 with
          | []=>none
          | c :: r4=>if c=41 then some (.pair k p.1 q.1,r4) else none
  else if b=33 then (gp f r).map fun p=>(.not p.1,p.2)
  else if b=118 then (num 1 r).map fun p=>(.var p.1,p.2)
  else (num 4 (b :: r)).map fun p=>(.const p.1,p.2)
theorem dec_big {n:Nat} (h:¬n<10):decDigits n=decDigits (n / 10)++[UInt8.ofNat (48+n % 10)]:=by rw [decDigits,dif_neg h]
def stops (r:List UInt8):Prop:=∀b s,r=b :: s→isD b=false
theorem kind_in {b:UInt8} {k:Int} (h:kindOf b=some k):3≤k∧k≤9∧signOf k=b:=by
 unfold kindOf at h
 repeat' split at h
 all_goals first | (cases h;rename_i e;subst e;decide) | cases h
end Ex
end Go.Proofs.YtccklgopcjilcaaGreatDoor
