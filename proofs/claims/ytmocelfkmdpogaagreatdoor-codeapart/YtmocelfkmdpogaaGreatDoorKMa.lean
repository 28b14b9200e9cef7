import Derived.Test.YtmocelfkmdpogaaGreatDoorKPc
import Derived.Test.YtmocelfkmdpogaaGreatDoorKJa
import Derived.Test.YtmocelfkmdpogaaGreatDoorKWa
import Derived.Test.YtmocelfkmdpogaaGreatDoorKWb
import Derived.Maps.OwnSet
import Derived.Maps.OwnOps
import Derived.StringKeys
import Derived.Lib.Hide
set_option maxRecDepth 100000
set_option maxHeartbeats 4000000
namespace Tp
open Ob (In)
def idx (l:List Bs) (n:Bs):Int:=match l.findIdx? (· == n) with
 | some i=>(i:Int)
 | none=>-1
structure Cn where
 own:List Bs
 uses:List (Bs× List Bs)
 vars:List Bs
 procs:List Bs
def marks5:List Bs:=[mPlus,mMinus,mStar,wDiv,wMod,mEq,mNe,mLt,mLe,mGt,mGe]
def reachI (c:Cn) (op:Int) (md nm:Bs):In:=match c.uses.findIdx? (fun u=>u.1 == md) with
 | some i=>⟨op,idx ((c.uses[i]?.map (·.2)).getD []) nm,(i:Int)⟩
 | none=>if op=14 then ⟨op,idx c.procs nm,-1⟩ else ⟨op,idx c.vars nm,-1⟩
def valueI (c:Cn) (md nm:Bs):In:=if 0<=idx c.own nm/\md=[] then ⟨3,idx c.own nm,0⟩ else reachI c 5 md nm
def setI (c:Cn) (nm:Bs) (at':Bool):In:=if 0<=idx c.own nm then ⟨4,idx c.own nm,0⟩ else ⟨if at' then 8 else 6,idx c.vars nm,0⟩
def andI (k:Nat) (l r:List In):List In:=l++⟨13,((k+l.length+r.length+4:Nat):Int),0⟩ :: r++[⟨11,0,0⟩,⟨11,0,0⟩,⟨12,((k+l.length+r.length+5:Nat):Int),0⟩,⟨1,0,0⟩]
def orI (k:Nat) (l r:List In):List In:=l++⟨13,((k+l.length+3:Nat):Int),0⟩ :: ⟨1,1,0⟩ :: ⟨12,((k+l.length+r.length+5:Nat):Int),0⟩ :: r++[⟨11,0,0⟩,⟨11,0,0⟩]
def cX (c:Cn):Nat->List X->List In
 | _,[]=>[]
 | k,⟨code,_,n,md,nm,op,le,ri,ar⟩ :: xs =>
  let l:=cX c k le
  let one:List In :=
   if code=1 then [⟨1,(n:Int),0⟩]
   else if code=2 then [valueI c md nm]
   else if code=3 then l++[reachI c 7 md nm]
   else if code=4 then l++[if op=wNot then ⟨11,0,0⟩ else ⟨10,0,0⟩]
   else if code=5 then
    if op=wAnd then andI k l (cX c (k+l.length+1) ri)
    else if op=wOr then orI k l (cX c (k+l.length+3) ri)
    else l++cX c (k+l.length) ri++[⟨9,idx marks5 op,0⟩]
   else if code=6 then cX c k ar++[reachI c 14 md nm]
   else []
  one++cX c (k+one.length) xs
def ifI (k:Nat) (v t e:List In) (no:Bool):List In :=
 if no then v++⟨13,((k+v.length+t.length+1:Nat):Int),0⟩ :: t
 else v++⟨13,((k+v.length+t.length+2:Nat):Int),0⟩ :: t++⟨12,((k+v.length+t.length+e.length+2:Nat):Int),0⟩ :: e
def whileI (k:Nat) (v t:List In):List In:=v++⟨13,((k+v.length+t.length+2:Nat):Int),0⟩ :: t++[⟨12,(k:Int),0⟩]
def cS (c:Cn):Nat->List S->List In
 | _,[]=>[]
 | k,⟨code,_,nm,ix,vl,th,el⟩ :: ss =>
  let v:=cX c k vl
  let t:=cS c (k+v.length+1) th
  let one:List In :=
   if code=1 then (cX c k ix++cX c (k+(cX c k ix).length) vl)++[setI c nm (!ix.isEmpty)]
   else if code=2 then ifI k v t (cS c (k+v.length+t.length+2) el) el.isEmpty
   else if code=3 then whileI k v t
   else if code=4 then v++[⟨15,0,0⟩]
   else if code=5 then v++[⟨16,0,0⟩]
   else if code=6 then v++[⟨2,0,0⟩]
   else []
  one++cS c (k+one.length) ss
def Jp (hi:Nat) (x:In):Prop:=x.op=12\/x.op=13->x.b=0/\0<=x.a/\x.a<=(hi:Int)
theorem xX (c:Cn) (op:Int) (md nm:Bs):(reachI c op md nm).op=op:=by
 unfold reachI
 split
 ·rfl
 ·split <;> rfl
def oneX (c:Cn) (k:Nat) (code n:Nat) (md nm op:Bs) (le ri ar:List X):List In :=
 if code=1 then [⟨1,(n:Int),0⟩]
 else if code=2 then [valueI c md nm]
 else if code=3 then cX c k le++[reachI c 7 md nm]
 else if code=4 then cX c k le++[if op=wNot then ⟨11,0,0⟩ else ⟨10,0,0⟩]
 else if code=5 then
  if op=wAnd then andI k (cX c k le) (cX c (k+(cX c k le).length+1) ri)
  else if op=wOr then orI k (cX c k le) (cX c (k+(cX c k le).length+3) ri)
  else cX c k le++cX c (k+(cX c k le).length) ri++[⟨9,idx marks5 op,0⟩]
 else if code=6 then cX c k ar++[reachI c 14 md nm]
 else []
theorem cX_nil (c:Cn) (k:Nat):cX c k []=[]:=by rw[cX]
theorem cX_cons (c:Cn) (k code pos n:Nat) (md nm op:Bs) (le ri ar xs:List X) :
  cX c k (⟨code,pos,n,md,nm,op,le,ri,ar⟩ :: xs)=oneX c k code n md nm op le ri ar++cX c (k+(oneX c k code n md nm op le ri ar).length) xs:=by
 rw[cX]
 rfl
theorem cX_len (c:Cn):∀(N k:Nat) (l:List X),SizeOf.sizeOf l<=N->WX l->(cX c k l).length+3 * l.length<=4 * NX l:=by
 intro N
 induction N with
 | zero =>
  intro k l h
  match l with
  | []=>intro _;rw[cX_nil,NX];simp
  | a :: t=>simp at h
 | succ N ih =>
  intro k l h hw
  match l with
  | []=>rw[cX_nil,NX];simp
  | ⟨code,pos,n,md,nm,op,le,ri,ar⟩ :: xs =>
   simp only [List.cons.sizeOf_spec,X.mk.sizeOf_spec]at h
   rw[WX]at hw
   obtain⟨h1,h2⟩:=hw
   have T:=fun j=>ih j xs (by omega) h2
   have T':=T (k+(oneX c k code n md nm op le ri ar).length)
   rw[cX_cons,NX,List.length_append,List.length_cons]
   have hr:1<=rN md:=by unfold rN;split <;> omega
   rcases h1 with⟨rfl,_⟩|⟨rfl,_⟩|⟨rfl,_,_,_,hl,hl1,_⟩|⟨rfl,_,_,_,_,hl,hl1,_⟩|⟨rfl,_,_,_,_,hl,hl1,hi,hi1,_⟩|⟨rfl,_,_,_,_,_,ha⟩
   ·simp[oneX]at T' ⊢
    omega
   ·simp[oneX]at T' ⊢
    omega
   ·have:=ih k le (by omega) hl
    simp[oneX]at T' ⊢
    omega
   ·have:=ih k le (by omega) hl
    simp[oneX]at T' ⊢
    omega
   ·have a1:=ih k le (by omega) hl
    have a2:=ih (k+(cX c k le).length+1) ri (by omega) hi
    have a3:=ih (k+(cX c k le).length+3) ri (by omega) hi
    have a4:=ih (k+(cX c k le).length) ri (by omega) hi
    have e:(oneX c k 5 n md nm op le ri ar).length<=4 * NX le - 3+(4 * NX ri - 3)+5:=by
     simp only [oneX]
     repeat' split
     all_goals first|contradiction|(simp[andI,orI];omega)
    simp only [if_neg (show ¬(5:Nat)=3 by decide),if_neg (show ¬(5:Nat)=4 by decide),if_true]
    omega
   ·have:=ih k ar (by omega) ha
    simp[oneX]at T' ⊢
    omega
def oneS (c:Cn) (k:Nat) (code:Nat) (nm:Bs) (ix vl:List X) (th el:List S):List In :=
 if code=1 then (cX c k ix++cX c (k+(cX c k ix).length) vl)++[setI c nm (!ix.isEmpty)]
 else if code=2 then ifI k (cX c k vl) (cS c (k+(cX c k vl).length+1) th) (cS c (k+(cX c k vl).length+(cS c (k+(cX c k vl).length+1) th).length+2) el) el.isEmpty
 else if code=3 then whileI k (cX c k vl) (cS c (k+(cX c k vl).length+1) th)
 else if code=4 then cX c k vl++[⟨15,0,0⟩]
 else if code=5 then cX c k vl++[⟨16,0,0⟩]
 else if code=6 then cX c k vl++[⟨2,0,0⟩]
 else []
theorem cS_nil (c:Cn) (k:Nat):cS c k []=[]:=by rw[cS]
theorem cS_cons (c:Cn) (k code pos:Nat) (nm:Bs) (ix vl:List X) (th el ss:List S) :
  cS c k (⟨code,pos,nm,ix,vl,th,el⟩ :: ss)=oneS c k code nm ix vl th el++cS c (k+(oneS c k code nm ix vl th el).length) ss:=by
 rw[cS]
 rfl
theorem cS_len (c:Cn):∀(N k:Nat) (l:List S),SizeOf.sizeOf l<=N->WS l->(cS c k l).length<=4 * NS l:=by
 intro N
 induction N with
 | zero =>
  intro k l h
  match l with
  | []=>intro _;rw[cS_nil,NS];simp
  | a :: t=>simp at h
 | succ N ih =>
  intro k l h hw
  match l with
  | []=>rw[cS_nil,NS];simp
  | ⟨code,pos,nm,ix,vl,th,el⟩ :: ss =>
   simp only [List.cons.sizeOf_spec,S.mk.sizeOf_spec]at h
   rw[WS]at hw
   obtain⟨h1,h2⟩:=hw
   have T':=ih (k+(oneS c k code nm ix vl th el).length) ss (by omega) h2
   rw[cS_cons,NS,List.length_append]
   have V:=fun (h:ev vl) j=>cX_len c _ j vl (Nat.le_refl _) h.1
   rcases h1 with⟨rfl,_,hi,hv,_⟩|⟨rfl,_,_,hv,ht,he⟩|⟨rfl,_,_,hv,ht,_⟩|⟨hc,_,_,hv,_⟩|⟨rfl,_,_,hv,_⟩
   ·have a1:=V hv (k+(cX c k ix).length)
    have e:(oneS c k 1 nm ix vl th el).length=(cX c k ix).length+(cX c (k+(cX c k ix).length) vl).length+1:=by simp[oneS];omega
    rw[if_pos rfl]
    rcases hi with rfl|⟨hi,hi1,_⟩
    ·rw[cX_nil]at e
     simp only [List.length_nil,List.isEmpty_nil,if_true]at e ⊢
     rw[cX_nil]at a1
     simp only [List.length_nil]at a1
     omega
    ·have a2:=cX_len c _ k ix (Nat.le_refl _) hi
     obtain⟨x,rfl⟩:=len1 hi1
     rw[if_neg (by simp)]
     omega
   ·have a1:=V hv k
    have a2:=ih (k+(cX c k vl).length+1) th (by omega) ht
    have a3:=ih (k+(cX c k vl).length+(cS c (k+(cX c k vl).length+1) th).length+2) el (by omega) he
    have e:(oneS c k 2 nm ix vl th el).length<=4 * NX vl+4 * NS th+(if el.isEmpty then 0 else 4 * NS el)+2:=by
     rw[oneS,if_neg (by decide),if_pos rfl]
     unfold ifI
     split
     ·simp;omega
     ·simp;omega
    rw[if_neg (by decide),if_pos rfl]
    split at e
    ·rename_i hn;rw[if_pos hn];omega
    ·rename_i hn;rw[if_neg hn];omega
   ·have a1:=V hv k
    have a2:=ih (k+(cX c k vl).length+1) th (by omega) ht
    have e:(oneS c k 3 nm ix vl th el).length<=4 * NX vl+4 * NS th+2:=by
     rw[oneS,if_neg (by decide),if_neg (by decide),if_pos rfl]
     unfold whileI
     simp;omega
    rw[if_neg (by decide),if_neg (by decide),if_pos rfl]
    omega
   ·have a1:=V hv k
    have e:(oneS c k code nm ix vl th el).length<=4 * NX vl+1:=by
     rcases hc with rfl|rfl <;> simp[oneS] <;> omega
    rcases hc with rfl|rfl
    ·simp only [if_neg (show ¬(4:Nat)=1 by decide),if_neg (show ¬(4:Nat)=2 by decide),if_neg (show ¬(4:Nat)=3 by decide),if_neg (show ¬(4:Nat)=6 by decide)]
     omega
    ·simp only [if_neg (show ¬(5:Nat)=1 by decide),if_neg (show ¬(5:Nat)=2 by decide),if_neg (show ¬(5:Nat)=3 by decide),if_neg (show ¬(5:Nat)=6 by decide)]
     omega
   ·have a1:=V hv k
    have e:(oneS c k 6 nm ix vl th el).length<=4 * NX vl+1:=by simp[oneS];omega
    simp only [if_neg (show ¬(6:Nat)=1 by decide),if_neg (show ¬(6:Nat)=2 by decide),if_neg (show ¬(6:Nat)=3 by decide),if_true]
    omega
end Tp
namespace Tp
open Ob (In O instB reachB countsB choices)
theorem kv {l:List Bs}{n:Bs}(h:n∈l):0<=idx l n/\idx l n<(l.length:Int):=by
 unfold idx
 split
 ·rename_i i e
  rw[List.findIdx?_eq_some_iff_getElem]at e
  obtain⟨hi,_⟩:=e
  omega
 ·rename_i e
  rw[List.findIdx?_eq_none_iff]at e
  have:=e n h
  simp at this
theorem idx_pos {l:List Bs}{n:Bs}(h:0<=idx l n):n∈l:=by
 unfold idx at h
 split at h
 ·rename_i i e
  rw[List.findIdx?_eq_some_iff_getElem]at e
  obtain⟨hi,e,_⟩:=e
  have:l[i]=n:=by simpa using e
  exact this ▸ List.getElem_mem hi
 ·omega
structure Fits (c:Cn) (o:O) (hi:Nat):Prop where
 uses:o.uses.map (fun u=>(u.name,u.names))=c.uses
 vars:o.vars.length=c.vars.length
 procs:o.procs.length=c.procs.length
 own:c.own.length<=10
 code:hi<o.code.length
def Rf (c:Cn) (r:R):Prop :=
 if r.mod=[] then (∀ u∈c.uses,u.1≠[])/\(if r.code=6 then r.name∈c.procs else (r.code=2/\r.name∈c.own)\/r.name∈c.vars)
 else (∃ u∈c.uses,u.1=r.mod)/\∀ u∈c.uses,u.1=r.mod->r.name∈u.2
theorem yx {n:Int}{m:Nat}(h:0<=n) (h':n<(m:Int)):countsB n m=true:=by simp[countsB,h,h']
theorem vY {c:Cn}{op:Int}{nm:Bs}(h:∀ u∈c.uses,u.1≠[]):reachI c op [] nm=if op=14 then ⟨op,idx c.procs nm,-1⟩ else ⟨op,idx c.vars nm,-1⟩:=by
 unfold reachI
 have:c.uses.findIdx? (fun u=>u.1 == [])=none:=by
  rw[List.findIdx?_eq_none_iff]
  intro u hu
  simpa using h u hu
 rw[this]
theorem jO {c:Cn}{o:O}{hi:Nat}(hf:Fits c o hi) {op:Int}{md nm:Bs}(own:Nat) (he:∃ u∈c.uses,u.1=md) (ha:∀ u∈c.uses,u.1=md->nm∈u.2):reachB o (reachI c op md nm) own=true:=by
 unfold reachI
 split
 ·rename_i i e
  rw[List.findIdx?_eq_some_iff_getElem]at e
  obtain⟨hi',e,_⟩:=e
  have hm:c.uses[i].1=md:=by simpa using e
  have hn:=ha _ (List.getElem_mem hi') hm
  have hx:=kv hn
  have hl:o.uses.length=c.uses.length:=by rw[<-hf.uses,List.length_map]
  have hg:c.uses[i]?=some c.uses[i]:=List.getElem?_eq_getElem hi'
  have ho:o.uses[i]?.map (fun u=>u.names)=some c.uses[i].2:=by
   have:=congrArg (fun l=>(l[i]?).map (·.2)) hf.uses
   simp only [List.getElem?_map,Option.map_map,hg,Option.map_some]at this
   exact this
  rw[hg]
  simp only [Option.map_some,Option.getD_some]
  unfold reachB
  rw[if_neg (by simp only;omega)]
  simp only [Int.toNat_natCast]
  rw[Bool.and_eq_true]
  refine⟨yx (by omega) (by omega),yx hx.1 ?_⟩
  have:(o.uses[i]?.map fun u=>u.names.length)=some c.uses[i].2.length:=by
   have:=congrArg (fun z=>z.map List.length) ho
   simpa[Option.map_map,Function.comp_def] using this
  rw[this]
  exact hx.2
 ·rename_i e
  rw[List.findIdx?_eq_none_iff]at e
  obtain⟨u,hu,hm⟩:=he
  have:=e u hu
  simp[hm]at this
theorem vZ {c:Cn}{o:O}{hi:Nat}(hf:Fits c o hi) {op:Int}(hop:op=5\/op=7) {r:R}(h:Rf c r) (hv:r.mod=[]->r.code≠6/\(r.name∈c.own->r.code=2->r.name∈c.vars)):instB o (reachI c op r.mod r.name)=true:=by
 have h1:op≠14:=by omega
 unfold instB
 rw[if_pos (by rw[xX];exact hop)]
 unfold Rf at h
 split at h
 ·rename_i hm
  rw[hm,vY h.1,if_neg h1]
  have hn:r.name∈c.vars:=by
   have:=h.2
   rw[if_neg (hv hm).1]at this
   rcases this with⟨a,b⟩|b
   ·exact(hv hm).2 b a
   ·exact b
  have hx:=kv hn
  unfold reachB
  rw[if_pos rfl]
  exact yx hx.1 (by rw[hf.vars];exact hx.2)
 ·exact jO hf _ h.1 h.2
theorem reach_call {c:Cn}{o:O}{hi:Nat}(hf:Fits c o hi) {r:R}(h:Rf c r) (hv:r.code=6):instB o (reachI c 14 r.mod r.name)=true:=by
 unfold instB
 rw[if_neg (by rw[xX];decide),if_pos (xX _ _ _ _)]
 unfold Rf at h
 split at h
 ·rename_i hm
  rw[hm,vY h.1,if_pos rfl]
  have hn:r.name∈c.procs:=by simpa[hv] using h.2
  have hx:=kv hn
  unfold reachB
  rw[if_pos rfl]
  exact yx hx.1 (by rw[hf.procs];exact hx.2)
 ·exact jO hf _ h.1 h.2
theorem yY {o:O}{x:In}(h:x.op=2\/x.op=10\/x.op=11\/x.op=15\/x.op=16\/x.op=17) (ha:x.a=0) (hb:x.b=0):instB o x=true:=by
 unfold instB
 rw[if_neg (by omega),if_neg (by omega),if_neg (by omega),Bool.and_eq_true]
 refine⟨by simp[hb],?_⟩
 unfold choices
 rw[if_neg (by omega),if_neg (by omega),if_neg (by omega),if_neg (by omega),if_pos h,ha]
 rfl
theorem xY {o:O}(n:Int):instB o ⟨1,n,0⟩=true:=by
 unfold instB
 rw[if_neg (by simp),if_neg (by simp),if_pos rfl]
 rfl
theorem yZ {c:Cn}{o:O}{hi:Nat}(hf:Fits c o hi) {x:In}(h:x.op=12\/x.op=13) (hj:Jp hi x):instB o x=true:=by
 have:=hf.code
 obtain⟨hb,h1,h2⟩:=hj h
 unfold instB
 rw[if_neg (by omega),if_neg (by omega),if_neg (by omega),Bool.and_eq_true]
 refine⟨by simp[hb],?_⟩
 unfold choices
 rw[if_neg (by omega),if_neg (by omega),if_neg (by omega),if_pos h]
 exact yx h1 (by omega)
theorem local_in {c:Cn}{o:O}{hi:Nat}(hf:Fits c o hi) {op:Int}(h:op=3\/op=4) {nm:Bs}(hn:0<=idx c.own nm):instB o ⟨op,idx c.own nm,0⟩=true:=by
 have:=hf.own
 have hx:=kv (idx_pos hn)
 unfold instB
 simp only
 rw[if_neg (by omega),if_neg (by omega),if_neg (by omega),Bool.and_eq_true]
 refine⟨by simp,?_⟩
 unfold choices
 rw[if_pos h]
 exact yx hx.1 (by omega)
theorem put_in {c:Cn}{o:O}{hi:Nat}(hf:Fits c o hi) {op:Int}(h:op=6\/op=8) {nm:Bs}(hn:nm∈c.vars):instB o ⟨op,idx c.vars nm,0⟩=true:=by
 have hx:=kv hn
 unfold instB
 simp only
 rw[if_neg (by omega),if_neg (by omega),if_neg (by omega),Bool.and_eq_true]
 refine⟨by simp,?_⟩
 unfold choices
 rw[if_neg (by omega),if_pos h]
 exact yx hx.1 (by rw[hf.vars];exact hx.2)
theorem lvl_mem {op:Bs}(h:lvl op<5) (h1:op≠wAnd) (h2:op≠wOr):op∈marks5:=by
 by_cases hm:op∈marks5
 ·exact hm
 ·exfalso
  simp only [marks5,List.mem_cons,List.not_mem_nil,or_false,not_or]at hm
  unfold lvl at h
  simp[h1,h2,hm]at h
theorem do_in {o:O}{op:Bs}(h:op∈marks5):instB o ⟨9,idx marks5 op,0⟩=true:=by
 have hx:=kv h
 have e:(marks5.length:Int)=11:=rfl
 unfold instB
 simp only
 rw[if_neg (by omega),if_neg (by omega),if_neg (by omega),Bool.and_eq_true]
 refine⟨by simp,?_⟩
 unfold choices
 rw[if_neg (by omega),if_neg (by omega),if_pos rfl]
 exact yx hx.1 (by omega)
end Tp
namespace Tp
open Ob (In O instB)
theorem yX {o:O}{l:List In}{y:In}(hl:∀ x∈l,instB o x=true) (hy:instB o y=true):∀ x∈l++[y],instB o x=true:=by
 intro x hx
 rcases List.mem_append.1 hx with hx|hx
 ·exact hl x hx
 ·rw[List.mem_singleton]at hx;subst hx;exact hy
theorem yC {o:O}{l r:List In}(hl:∀ x∈l,instB o x=true) (hr:∀ x∈r,instB o x=true):∀ x∈l++r,instB o x=true:=by
 intro x hx
 rcases List.mem_append.1 hx with hx|hx
 ·exact hl x hx
 ·exact hr x hx
theorem kq {o:O}:∀ x∈([]:List In),instB o x=true:=fun _ h=>by cases h
theorem yf {o:O}{y:In}{l:List In}(hy:instB o y=true) (hl:∀ x∈l,instB o x=true):∀ x∈y :: l,instB o x=true:=by
 intro x hx
 rcases List.mem_cons.1 hx with hx|hx
 ·subst hx;exact hy
 ·exact hl x hx
theorem uj {o:O}:instB o ⟨11,0,0⟩=true:=yY (Or.inr (Or.inr (Or.inl rfl))) rfl rfl
theorem and_in {c:Cn}{o:O}{hi k:Nat}(hf:Fits c o hi) {l r:List In}(hk:k+(andI k l r).length<=hi) (hl:∀ x∈l,instB o x=true) (hr:∀ x∈r,instB o x=true):∀ x∈andI k l r,instB o x=true:=by
 have e:(andI k l r).length=l.length+r.length+5:=by unfold andI;simp;omega
 unfold andI
 exact yC (yC hl (yf (yZ hf (Or.inr rfl) fun _=>⟨rfl,by simp only;omega,by simp only;omega⟩) hr)) (yf uj (yf uj (yf (yZ hf (Or.inl rfl) fun _=>⟨rfl,by simp only;omega,by simp only;omega⟩) (yf (xY 0) kq))))
theorem or_in {c:Cn}{o:O}{hi k:Nat}(hf:Fits c o hi) {l r:List In}(hk:k+(orI k l r).length<=hi) (hl:∀ x∈l,instB o x=true) (hr:∀ x∈r,instB o x=true):∀ x∈orI k l r,instB o x=true:=by
 have e:(orI k l r).length=l.length+r.length+5:=by unfold orI;simp;omega
 unfold orI
 exact yC (yC hl (yf (yZ hf (Or.inr rfl) fun _=>⟨rfl,by simp only;omega,by simp only;omega⟩) (yf (xY 1) (yf (yZ hf (Or.inl rfl) fun _=>⟨rfl,by simp only;omega,by simp only;omega⟩) hr)))) (yf uj (yf uj kq))
theorem value_in {c:Cn}{o:O}{hi:Nat}(hf:Fits c o hi) {pos:Nat}{md nm:Bs}{a:Nat}(h:Rf c ⟨2,pos,md,nm,a⟩):instB o (valueI c md nm)=true:=by
 unfold valueI
 split
 ·rename_i hx;exact local_in hf (Or.inl rfl) hx.1
 ·rename_i hx
  refine vZ hf (Or.inl rfl) (r:=⟨2,pos,md,nm,a⟩) h (fun hm=>⟨by simp,fun ho _=>?_⟩)
  exact absurd ⟨(kv ho).1,hm⟩ hx
theorem item_in {c:Cn}{o:O}{hi:Nat}(hf:Fits c o hi) {pos:Nat}{md nm:Bs}{a:Nat}(h:Rf c ⟨3,pos,md,nm,a⟩):instB o (reachI c 7 md nm)=true :=
 vZ hf (Or.inr rfl) (r:=⟨3,pos,md,nm,a⟩) h (fun _=>⟨by simp,fun _ e=>by simp at e⟩)
theorem cX_in {c:Cn}{o:O}{hi:Nat}(hf:Fits c o hi):∀(N k:Nat) (l:List X),SizeOf.sizeOf l<=N->WX l->(∀ r∈rx l,Rf c r)->k+(cX c k l).length<=hi->∀ x∈cX c k l,instB o x=true:=by
 intro N
 induction N with
 | zero =>
  intro k l h
  match l with
  | []=>intro _ _ _;rw[cX_nil];exact kq
  | a :: t=>simp at h
 | succ N ih =>
  intro k l h hw hr hk
  match l with
  | []=>rw[cX_nil];exact kq
  | ⟨code,pos,n,md,nm,op,le,ri,ar⟩ :: xs =>
   simp only [List.cons.sizeOf_spec,X.mk.sizeOf_spec]at h
   rw[WX]at hw
   obtain⟨h1,h2⟩:=hw
   rw[rx]at hr
   simp only [List.mem_append]at hr
   have hrl:∀ r∈rx le,Rf c r:=fun r q=>hr r (Or.inl (Or.inl (Or.inl (Or.inr q))))
   have hri:∀ r∈rx ri,Rf c r:=fun r q=>hr r (Or.inl (Or.inl (Or.inr q)))
   have hra:∀ r∈rx ar,Rf c r:=fun r q=>hr r (Or.inl (Or.inr q))
   have hrx:∀ r∈rx xs,Rf c r:=fun r q=>hr r (Or.inr q)
   have hr0:code=2\/code=3\/code=6->Rf c ⟨code,pos,md,nm,ar.length⟩:=fun q=>hr _ (Or.inl (Or.inl (Or.inl (Or.inl (by rw[if_pos q];simp)))))
   rw[cX_cons]at hk ⊢
   rw[List.length_append]at hk
   refine yC ?_ (ih _ xs (by omega) h2 hrx (by omega))
   have hk1:k+(oneX c k code n md nm op le ri ar).length<=hi:=by omega
   clear hk
   rcases h1 with⟨rfl,_⟩|⟨rfl,_⟩|⟨rfl,_,_,_,hl,hl1,_⟩|⟨rfl,_,_,_,_,hl,hl1,_⟩|⟨rfl,_,_,_,hlv,hl,hl1,hw',hi1,_⟩|⟨rfl,_,_,_,_,_,ha⟩
   ·exact yf (xY _) kq
   ·exact yf (value_in hf (hr0 (by simp))) kq
   ·have e:oneX c k 3 n md nm op le ri ar=cX c k le++[reachI c 7 md nm]:=by simp[oneX]
    rw[e]at hk1 ⊢
    rw[List.length_append]at hk1
    exact yX (ih k le (by omega) hl hrl (by omega)) (item_in hf (hr0 (by simp)))
   ·have e:oneX c k 4 n md nm op le ri ar=cX c k le++[if op=wNot then ⟨11,0,0⟩ else ⟨10,0,0⟩]:=by simp[oneX]
    rw[e]at hk1 ⊢
    rw[List.length_append]at hk1
    refine yX (ih k le (by omega) hl hrl (by omega)) ?_
    split
    ·exact uj
    ·exact yY (Or.inr (Or.inl rfl)) rfl rfl
   ·by_cases e1:op=wAnd
    ·have e:oneX c k 5 n md nm op le ri ar=andI k (cX c k le) (cX c (k+(cX c k le).length+1) ri):=by simp[oneX,e1]
     rw[e]at hk1 ⊢
     have e':(andI k (cX c k le) (cX c (k+(cX c k le).length+1) ri)).length=(cX c k le).length+(cX c (k+(cX c k le).length+1) ri).length+5:=by unfold andI;simp;omega
     exact and_in hf hk1 (ih k le (by omega) hl hrl (by omega)) (ih _ ri (by omega) hw' hri (by omega))
    ·by_cases e2:op=wOr
     ·have e:oneX c k 5 n md nm op le ri ar=orI k (cX c k le) (cX c (k+(cX c k le).length+3) ri):=by simp[oneX,e2,show wOr≠wAnd by decide]
      rw[e]at hk1 ⊢
      have e':(orI k (cX c k le) (cX c (k+(cX c k le).length+3) ri)).length=(cX c k le).length+(cX c (k+(cX c k le).length+3) ri).length+5:=by unfold orI;simp;omega
      exact or_in hf hk1 (ih k le (by omega) hl hrl (by omega)) (ih _ ri (by omega) hw' hri (by omega))
     ·have e:oneX c k 5 n md nm op le ri ar=cX c k le++cX c (k+(cX c k le).length) ri++[⟨9,idx marks5 op,0⟩]:=by simp[oneX,e1,e2]
      rw[e]at hk1 ⊢
      rw[List.length_append,List.length_append]at hk1
      exact yX (yC (ih k le (by omega) hl hrl (by omega)) (ih _ ri (by omega) hw' hri (by omega))) (do_in (lvl_mem hlv e1 e2))
   ·have e:oneX c k 6 n md nm op le ri ar=cX c k ar++[reachI c 14 md nm]:=by simp[oneX]
    rw[e]at hk1 ⊢
    rw[List.length_append]at hk1
    exact yX (ih k ar (by omega) ha hra (by omega)) (reach_call hf (r:=⟨6,pos,md,nm,ar.length⟩) (hr0 (by simp)) rfl)
theorem set_in {c:Cn}{o:O}{hi:Nat}(hf:Fits c o hi) {code pos:Nat}{nm:Bs}{a:Nat}{b:Bool}(hc:code≠6) (h:Rf c ⟨code,pos,[],nm,a⟩):instB o (setI c nm b)=true:=by
 unfold setI
 split
 ·rename_i hx;exact local_in hf (Or.inr rfl) hx
 ·rename_i hx
  unfold Rf at h
  rw[if_pos rfl]at h
  have h2:=h.2
  rw[if_neg hc]at h2
  have hn:nm∈c.vars:=by
   rcases h2 with⟨_,q⟩|q
   ·exact absurd (kv q).1 hx
   ·exact q
  exact put_in hf (by cases b <;> simp) hn
theorem cS_in {c:Cn}{o:O}{hi:Nat}(hf:Fits c o hi):∀(N k:Nat) (l:List S),SizeOf.sizeOf l<=N->WS l->(∀ r∈rs l,Rf c r)->k+(cS c k l).length<=hi->∀ x∈cS c k l,instB o x=true:=by
 intro N
 induction N with
 | zero =>
  intro k l h
  match l with
  | []=>intro _ _ _;rw[cS_nil];exact kq
  | a :: t=>simp at h
 | succ N ih =>
  intro k l h hw hr hk
  match l with
  | []=>rw[cS_nil];exact kq
  | ⟨code,pos,nm,ix,vl,th,el⟩ :: ss =>
   simp only [List.cons.sizeOf_spec,S.mk.sizeOf_spec]at h
   rw[WS]at hw
   obtain⟨h1,h2⟩:=hw
   rw[rs]at hr
   simp only [List.mem_append]at hr
   have hrx:∀ r∈rx ix,Rf c r:=fun r q=>hr r (Or.inl (Or.inl (Or.inl (Or.inl (Or.inr q)))))
   have hrv:∀ r∈rx vl,Rf c r:=fun r q=>hr r (Or.inl (Or.inl (Or.inl (Or.inr q))))
   have hrt:∀ r∈rs th,Rf c r:=fun r q=>hr r (Or.inl (Or.inl (Or.inr q)))
   have hre:∀ r∈rs el,Rf c r:=fun r q=>hr r (Or.inl (Or.inr q))
   have hrs:∀ r∈rs ss,Rf c r:=fun r q=>hr r (Or.inr q)
   have hr0:code=1->Rf c ⟨if ix.isEmpty then 2 else 3,pos,[],nm,0⟩:=fun q=>hr _ (Or.inl (Or.inl (Or.inl (Or.inl (Or.inl (by rw[if_pos q];simp))))))
   rw[cS_cons]at hk ⊢
   rw[List.length_append]at hk
   refine yC ?_ (ih _ ss (by omega) h2 hrs (by omega))
   have hk1:k+(oneS c k code nm ix vl th el).length<=hi:=by omega
   clear hk
   have V:=fun (q:ev vl) j=>cX_in hf _ j vl (Nat.le_refl _) q.1 hrv
   rcases h1 with⟨rfl,_,hi',hv,_⟩|⟨rfl,_,_,hv,ht,he⟩|⟨rfl,_,_,hv,ht,_⟩|⟨hc,_,_,hv,_⟩|⟨rfl,_,_,hv,_⟩
   ·have e:oneS c k 1 nm ix vl th el=(cX c k ix++cX c (k+(cX c k ix).length) vl)++[setI c nm (!ix.isEmpty)]:=by simp[oneS]
    rw[e]at hk1 ⊢
    rw[List.length_append,List.length_append]at hk1
    refine yX (yC ?_ (V hv _ (by omega))) (set_in hf (by split <;> decide) (hr0 rfl))
    rcases hi' with rfl|⟨hi',_⟩
    ·rw[cX_nil];exact kq
    ·exact cX_in hf _ k ix (Nat.le_refl _) hi' hrx (by omega)
   ·have e:oneS c k 2 nm ix vl th el=ifI k (cX c k vl) (cS c (k+(cX c k vl).length+1) th) (cS c (k+(cX c k vl).length+(cS c (k+(cX c k vl).length+1) th).length+2) el) el.isEmpty:=by simp[oneS]
    rw[e]at hk1 ⊢
    unfold ifI at hk1 ⊢
    split
    ·rename_i hn
     rw[if_pos hn]at hk1
     simp only [List.length_append,List.length_cons]at hk1
     exact yC (V hv _ (by omega)) (yf (yZ hf (Or.inr rfl) fun _=>⟨rfl,by simp only;omega,by simp only;omega⟩) (ih _ th (by omega) ht hrt (by omega)))
    ·rename_i hn
     rw[if_neg hn]at hk1
     simp only [List.length_append,List.length_cons]at hk1
     exact yC (yC (V hv _ (by omega)) (yf (yZ hf (Or.inr rfl) fun _=>⟨rfl,by simp only;omega,by simp only;omega⟩) (ih _ th (by omega) ht hrt (by omega)))) (yf (yZ hf (Or.inl rfl) fun _=>⟨rfl,by simp only;omega,by simp only;omega⟩) (ih _ el (by omega) he hre (by omega)))
   ·have e:oneS c k 3 nm ix vl th el=whileI k (cX c k vl) (cS c (k+(cX c k vl).length+1) th):=by simp[oneS]
    rw[e]at hk1 ⊢
    unfold whileI at hk1 ⊢
    simp only [List.length_append,List.length_cons,List.length_nil]at hk1
    exact yC (yC (V hv _ (by omega)) (yf (yZ hf (Or.inr rfl) fun _=>⟨rfl,by simp only;omega,by simp only;omega⟩) (ih _ th (by omega) ht hrt (by omega)))) (yf (yZ hf (Or.inl rfl) fun _=>⟨rfl,by simp only;omega,by simp only;omega⟩) kq)
   ·rcases hc with rfl|rfl
    ·have e:oneS c k 4 nm ix vl th el=cX c k vl++[⟨15,0,0⟩]:=by simp[oneS]
     rw[e]at hk1 ⊢
     rw[List.length_append]at hk1
     exact yX (V hv _ (by omega)) (yY (by simp) rfl rfl)
    ·have e:oneS c k 5 nm ix vl th el=cX c k vl++[⟨16,0,0⟩]:=by simp[oneS]
     rw[e]at hk1 ⊢
     rw[List.length_append]at hk1
     exact yX (V hv _ (by omega)) (yY (by simp) rfl rfl)
   ·have e:oneS c k 6 nm ix vl th el=cX c k vl++[⟨2,0,0⟩]:=by simp[oneS]
    rw[e]at hk1 ⊢
    rw[List.length_append]at hk1
    exact yX (V hv _ (by omega)) (yY (by simp) rfl rfl)
end Tp
namespace Tp
open Ob (In En O instB codeB lastB allB)
def cnOf (m:M) (uF:Bs->List Bs) (own:List Bs):Cn:=⟨own,m.imports.map fun n=>(n,uF n),m.vars.map (·.name),m.procs.map (·.name)⟩
theorem judge_rf {m:M}{seen:Seen}{own:List Bs}{uF:Bs->List Bs}{r:R}(hne:∀ n∈m.imports,n≠[]) (hu:r.mod≠[]->r.name∈uF r.mod) (h:judge m own seen r=none):Rf (cnOf m uF own) r:=by
 unfold judge at h
 split at h
 ·cases h
 ·rename_i s hs
  split at h
  ·cases h
  ·rename_i hk
   have hk:kindOf s=r.code:=Decidable.of_not_not hk
   unfold stand at hs
   unfold Rf
   by_cases hm:r.mod=[]
   ·rw[if_neg (by simp[hm])]at hs
    rw[if_pos hm]
    refine⟨?_,?_⟩
    ·intro u hu'
     obtain⟨n,hn,rfl⟩:=List.mem_map.1 hu'
     exact hne n hn
    ·split at hs
     ·rename_i ho
      cases hs
      have:r.code=2:=by rw[<-hk];rfl
      rw[if_neg (by omega)]
      exact Or.inl ⟨this,ho⟩
     ·split at hs
      ·rename_i g hg
       cases hs
       have h1:=List.find?_some hg
       have h2:=List.mem_of_find?_eq_some hg
       have hc:r.code≠6:=by
        rw[<-hk]
        unfold kindOf
        rw[if_neg (show ¬(0:Int)<=-1 by decide)]
        split <;> decide
       rw[if_neg hc]
       exact Or.inr (List.mem_map.2 ⟨g,h2,by simpa using h1⟩)
      ·split at hs
       ·rename_i p hp
        cases hs
        have h1:=List.find?_some hp
        have h2:=List.mem_of_find?_eq_some hp
        have hc:r.code=6:=by
         rw[<-hk]
         unfold kindOf
         rw[if_pos (by simp only;omega)]
        rw[if_pos hc]
        exact List.mem_map.2 ⟨p,h2,by simpa using h1⟩
       ·cases hs
   ·rw[if_pos hm]at hs
    rw[if_neg hm]
    split at hs
    ·rename_i hi
     refine⟨⟨(r.mod,uF r.mod),List.mem_map.2 ⟨r.mod,hi,rfl⟩,rfl⟩,?_⟩
     intro u hu' e
     obtain⟨n,hn,rfl⟩:=List.mem_map.1 hu'
     simp only at e
     subst e
     exact hu hm
    ·cases hs
def bodyP (m:M) (uF:Bs->List Bs) (k:Nat) (p:Pr):List In:=cS (cnOf m uF (ownOf p)) k p.body++[⟨1,0,0⟩,⟨15,0,0⟩]
def cP (m:M) (uF:Bs->List Bs):Nat->List Pr->List In
 | _,[]=>[]
 | k,p :: ps=>bodyP m uF k p++cP m uF (k+(bodyP m uF k p).length) ps
def entP (m:M) (uF:Bs->List Bs):Nat->List Pr->List En
 | _,[]=>[]
 | k,p :: ps=>⟨(k:Int),(p.params.length:Int),((ownOf p).length:Int)⟩ :: entP m uF (k+(bodyP m uF k p).length) ps
def headC (m:M) (uF:Bs->List Bs):List In:=cS (cnOf m uF []) 0 m.body++[⟨17,0,0⟩]
def codeC (m:M) (uF:Bs->List Bs):List In:=headC m uF++cP m uF (headC m uF).length m.procs
theorem cP_len (m:M) (uF:Bs->List Bs):∀(ps:List Pr) (k:Nat),(∀ p∈ps,WP p)->(cP m uF k ps).length<=4 * (ps.map nP).sum:=by
 intro ps
 induction ps with
 | nil=>intro k _;simp[cP]
 | cons p ps ih =>
  intro k h
  have h1:=ih (k+(bodyP m uF k p).length) (fun q hq=>h q (List.mem_cons_of_mem _ hq))
  have h2:=cS_len (cnOf m uF (ownOf p)) _ k p.body (Nat.le_refl _) (h p (by simp)).b
  have h3:(bodyP m uF k p).length=(cS (cnOf m uF (ownOf p)) k p.body).length+2:=by simp[bodyP]
  rw[cP,List.length_append,List.map_cons,List.sum_cons]
  have h4:2+NS p.body<=nP p:=by unfold nP;omega
  omega
theorem codeC_len {m:M}(hm:WM m) (uF:Bs->List Bs):(codeC m uF).length<=4 * nM m:=by
 have h1:=cP_len m uF m.procs (headC m uF).length hm.p
 have h2:=cS_len (cnOf m uF []) _ 0 m.body (Nat.le_refl _) hm.b
 have h3:(headC m uF).length=(cS (cnOf m uF []) 0 m.body).length+1:=by simp[headC]
 have h4:(m.procs.map nP).sum+NS m.body+6<=nM m:=by unfold nM;omega
 unfold codeC
 rw[List.length_append]
 omega
theorem entP_len (m:M) (uF:Bs->List Bs):∀(ps:List Pr) (k:Nat),(entP m uF k ps).length=ps.length:=by
 intro ps
 induction ps with
 | nil=>intro k;rfl
 | cons p ps ih=>intro k;rw[entP,List.length_cons,List.length_cons,ih]
theorem cP_in {m:M}{uF:Bs->List Bs}{o:O}(hu:o.uses.map (fun u=>(u.name,u.names))=m.imports.map fun n=>(n,uF n)) (hv:o.vars.length=m.vars.length) (hp:o.procs.length=m.procs.length)
  (hr:∀ p∈m.procs,∀ r∈rs p.body,Rf (cnOf m uF (ownOf p)) r) (hw:∀ p∈m.procs,WP p):∀(ps:List Pr) (k:Nat),(∀ p∈ps,p∈m.procs)->k+(cP m uF k ps).length<=o.code.length->∀ x∈cP m uF k ps,instB o x=true:=by
 intro ps
 induction ps with
 | nil=>intro k _ _ x hx;cases hx
 | cons p ps ih =>
  intro k hs hk
  rw[cP]at hk ⊢
  rw[List.length_append]at hk
  have hp':=hs p (by simp)
  have h3:(bodyP m uF k p).length=(cS (cnOf m uF (ownOf p)) k p.body).length+2:=by simp[bodyP]
  refine yC ?_ (ih _ (fun q hq=>hs q (List.mem_cons_of_mem _ hq)) (by omega))
  have hf:Fits (cnOf m uF (ownOf p)) o (k+(cS (cnOf m uF (ownOf p)) k p.body).length):=⟨hu,by simp[cnOf,hv],by simp[cnOf,hp],by have:=(hw p hp').c;simp[cnOf,ownOf];omega,by omega⟩
  exact yC (cS_in hf _ k p.body (Nat.le_refl _) (hw p hp').b (hr p hp') (Nat.le_refl _)) (yf (xY 0) (yf (yY (by simp) rfl rfl) kq))
theorem cP_last (m:M) (uF:Bs->List Bs):∀(ps:List Pr) (k:Nat) (x:In),(cP m uF k ps).getLast?=some x->x.op=15:=by
 intro ps
 induction ps with
 | nil=>intro k x h;simp[cP]at h
 | cons p ps ih =>
  intro k x h
  rw[cP,List.getLast?_append]at h
  rcases hl:(cP m uF (k+(bodyP m uF k p).length) ps).getLast? with _|y
  ·rw[hl]at h
   simp[bodyP]at h
   rw[<-h]
  ·rw[hl]at h
   cases h
   exact ih _ _ hl
theorem qQ {m:M}{seen:Seen}{uF:Bs->List Bs}{o:O}(hm:WM m) (hc:check m seen=none) (hne:∀ n∈m.imports,n≠[]) (hF:∀ r∈allR m,r.mod≠[]->r.name∈uF r.mod) (hn:nM m<=1000)
  (hu:o.uses.map (fun u=>(u.name,u.names))=m.imports.map fun n=>(n,uF n)) (hv:o.vars.length=m.vars.length) (hp:o.procs.length=m.procs.length) (hcd:o.code=codeC m uF):codeB o=true:=by
 have F:=kO.1 hc
 have hlen:o.code.length<=4000:=by have:=codeC_len hm uF;rw[hcd];omega
 have e1:(codeC m uF).length=(headC m uF).length+(cP m uF (headC m uF).length m.procs).length:=by unfold codeC;rw[List.length_append]
 have e2:(headC m uF).length=(cS (cnOf m uF []) 0 m.body).length+1:=by simp[headC]
 have hin:∀ x∈o.code,instB o x=true:=by
  have hk:o.code.length=(headC m uF).length+(cP m uF (headC m uF).length m.procs).length:=by rw[hcd,e1]
  rw[hcd]
  unfold codeC
  refine yC ?_ (cP_in hu hv hp (fun p hp' r hr=>judge_rf hne (fun q=>hF r ?_ q) ((F.2.2.1 p hp').2 r hr)) hm.p m.procs _ (fun _ h=>h) (by omega))
  ·have hf:Fits (cnOf m uF []) o (0+(cS (cnOf m uF []) 0 m.body).length):=⟨hu,by simp[cnOf,hv],by simp[cnOf,hp],by simp[cnOf],by omega⟩
   exact yX (cS_in hf _ 0 m.body (Nat.le_refl _) hm.b (fun r hr=>judge_rf hne (fun q=>hF r (List.mem_append.2 (Or.inr hr)) q) (F.2.2.2 r hr)) (Nat.le_refl _)) (yY (by simp) rfl rfl)
  ·exact List.mem_append.2 (Or.inl (List.mem_flatten.2 ⟨rs p.body,List.mem_map.2 ⟨p,hp',rfl⟩,hr⟩))
 unfold codeB
 rw[Bool.and_eq_true]
 refine⟨?_,?_⟩
 ·unfold allB
  rw[Bool.and_eq_true]
  refine⟨decide_eq_true hlen,?_⟩
  rw[Bool.not_eq_true',List.any_eq_false]
  intro x hx
  simp[hin x hx]
 ·unfold lastB
  rw[hcd]
  unfold codeC
  rw[List.getLast?_append]
  rcases hl:(cP m uF (headC m uF).length m.procs).getLast? with _|y
  ·simp[headC]
  ·have:=cP_last m uF _ _ _ hl
   simp[this]
end Tp
namespace Go.Proofs.YtmocelfkmdpogaaGreatDoor
open Go.RowKit Go.Maps
open Tp (Bs)
def heldV (v:Value):Option (DataW Value× List MemPlace):=some (.held v,[])
theorem skey:Keyed Tryz.prog 9:=string_keyed Tryz.underlying9
structure MapV (w:World) (b n:Nat) (f:Bs->Option Value):Prop where
 own:∃ D,w.ownsMap Tryz.prog 9 heldV b n D/\∀ s,Maps.has D (.string s)=(f s).isSome/\∀ v,f s=some v->∀ z,D.atKey (.string s) z=.held v
theorem MapV.made (w:World):MapV (w.alloc (.map #[] 0)) w.heap.size 0 (fun _=>none) :=
 ⟨⟨.map [],World.ownsMap_made _ _ _ _,fun s=>⟨rfl,fun v h=>by cases h⟩⟩⟩
theorem MapV.on {w w':World}{b n:Nat}{f:Bs->Option Value}(h:MapV w b n f) (k:w'.heap[b]?=w.heap[b]?):MapV w' b n f:=by
 obtain⟨D,⟨es,clock,h1,h2⟩,h3⟩:=h.own
 exact⟨⟨D,⟨es,clock,k.trans h1,h2⟩,h3⟩⟩
theorem MapV.lt {w:World}{b n:Nat}{f:Bs->Option Value}(h:MapV w b n f):b<w.heap.size:=by
 obtain⟨D,h1,_⟩:=h.own
 exact h1.lt
theorem xV (l:Bs) (hl:l.length<=1000000):keyOf Tryz.prog 9 (.string (bs l))=some (.string l):=by
 have:=Go.WideMaps.keyOf_string_mk (P:=Tryz.prog) (k:=9) Tryz.underlying9 (s:=bs l) (by simp[bs,ByteArray.size,maxLen];omega)
 simpa[bs] using this
theorem MapV.look {w:World}{b n:Nat}{f:Bs->Option Value}(h:MapV w b n f) {t e:TypeId}(ht:Tryz.prog.underlying t=some (.map 9 e)) {z:Value}(hz:(zeroValue e).run Tryz.prog w=.ok z w) (l:Bs) (hl:l.length<=1000000) (c:Bool) :
  (Instr.lookup t (.map (some b)) (.string (bs l)) c).run Tryz.prog w=.ok (if c then .tuple #[(f l).getD z,.bool (f l).isSome] else (f l).getD z) w:=by
 obtain⟨D,h1,h2⟩:=h.own
 obtain⟨e1,e2⟩:=h2 l
 have key:∀ v,heldV v=some (D.atKey (.string l) (.held z),([]:List MemPlace))->v=(f l).getD z:=by
  intro v hv
  unfold heldV at hv
  simp only [Option.some.injEq,Prod.mk.injEq,and_true]at hv
  cases hf:f l with
  | none =>
   rw[hf]at e1
   rw[atKey_of_not_has e1]at hv
   injection hv
  | some u =>
   rw[e2 u hf]at hv
   injection hv
 have key':∀ v ps,heldV v=some (D.atKey (.string l) (.held z),ps)->v=(f l).getD z:=by
  intro v ps hv
  refine key v ?_
  unfold heldV at hv ⊢
  simp only [Option.some.injEq,Prod.mk.injEq]at hv ⊢
  exact⟨hv.1,trivial⟩
 cases c with
 | true =>
  obtain⟨v,ps,r1,r2⟩:=h1.look_ok skey ht hz (zd:=.held z) (zp:=[]) rfl (xV l hl)
  rw[r1,key' v ps r2,e1]
  rfl
 | false =>
  obtain⟨v,ps,r1,r2⟩:=h1.lookup skey ht hz (zd:=.held z) (zp:=[]) rfl (xV l hl)
  rw[r1,key' v ps r2]
  rfl
theorem jP (w:World) {t e:TypeId}(ht:Tryz.prog.underlying t=some (.map 9 e)) {z:Value}(hz:(zeroValue e).run Tryz.prog w=.ok z w) (l:Bs) (hl:l.length<=1000000) (c:Bool) :
  (Instr.lookup t (.map none) (.string (bs l)) c).run Tryz.prog w=.ok (if c then .tuple #[z,.bool false] else z) w:=Maps.look_nil c skey ht hz (xV l hl)
def updV (f:Bs->Option Value) (k:Bs) (v:Value):Bs->Option Value:=fun s=>if s=k then some v else f s
theorem MapV.store {w:World}{b n:Nat}{f:Bs->Option Value}(h:MapV w b n f) {t e:TypeId}(ht:Tryz.prog.underlying t=some (.map 9 e)) (hn:n<1000000) (l:Bs) (hl:l.length<=1000000) (v:Value) :
  ∃ w',(Instr.mapUpdate t (.map (some b)) (.string (bs l)) v).run Tryz.prog w=.ok () w'/\MapV w' b (n+1) (updV f l v)/\Ext b w w'/\w'.heap.size=w.heap.size:=by
 obtain⟨D,h1,h2⟩:=h.own
 obtain⟨w',r1,r2,r3⟩:=h1.store skey ht (by unfold maxLen;omega) (xV l hl) (d:=.held v) (ps:=[]) rfl
 have hm:=h1.isMap
 refine⟨w',r1,⟨⟨_,r2,fun s=>?_⟩⟩,?_,?_⟩
 ·by_cases hs:s=l
  ·subst hs
   have hk:WideAt.IsKeyLit (.string s):=by simp[WideAt.IsKeyLit]
   refine⟨by rw[has_put_same hm hk];simp[updV],fun u hu z=>?_⟩
   rw[atKey_put_same hm hk]
   simp[updV]at hu
   rw[hu]
  ·have hne:(Lit.string s)≠.string l:=fun e=>hs (by injection e)
   refine⟨by rw[has_put_other hne,(h2 s).1];simp[updV,hs],fun u hu z=>?_⟩
   rw[atKey_put_other hne]
   simp[updV,hs]at hu
   exact(h2 s).2 u hu z
 ·have g:=r3.grown
  exact⟨g.os,g.tape,g.output,g.size,fun k hk hb=>g.block k hk (fun e=>hb (by injection e))⟩
 ·obtain⟨es,clock,es',clock',_,rfl⟩:=r3
  simp[ChangeMaps.setBlock]
end Go.Proofs.YtmocelfkmdpogaaGreatDoor
namespace Go.Proofs.YtmocelfkmdpogaaGreatDoor
open Go.RowKit Go.Maps
open Tp (Bs Th)
@[go_sem] theorem zeroTh (w:World):(zeroValue 137).run Tryz.prog w=.ok (.agg #[.int .i64 0,.int .i64 0]) w:=by kernel_rfl
@[go_sem] theorem zeroSyms (w:World):(zeroValue 41).run Tryz.prog w=.ok (.slice none 0 0) w:=by kernel_rfl
def thV (x:Nat× Int):Value:=.agg #[.int .i64 (x.1:Int),.int .i64 x.2]
theorem kN (en pl:Nat) (w:World) :
  Calls Tryz.prog 104 #[.int .i64 (en:Int),.int .i64 (pl:Int)] w fun e w'=>Thrown w.heap.size (en,pl) e w'/\Below w.heap.size w w':=by
 go_enter Tryz.func104,Tryz.ntmps104
 go_wp2
 exact⟨rfl,⟨⟨w.heap.size,Nat.le_refl _,rfl,by simp[go_sem],by simp[go_sem]⟩⟩,zb _ _⟩
theorem yD (w:World) :
  Calls Tryz.prog 76 #[] w fun e w'=>e=.returned (.agg #[.int .i64 0,.int .i64 (-1)])/\Below w.heap.size w w':=by
 go_enter Tryz.func76,Tryz.ntmps76
 go_wp2
 exact bodyPost_ret (v:=.agg #[.int .i64 0,.int .i64 (-1)]) (by simp[results,Tryz.results76,go_sem]) rfl ⟨rfl,zb _ _⟩
theorem kind_any (a:Nat) (b:Int) (w:World) :
  Calls Tryz.prog 160 #[.agg #[.int .i64 (a:Int),.int .i64 b]] w fun e w'=>e=.returned (.int .i64 (Tp.kindOf (a,b):Int))/\Below w.heap.size w w':=by
 have hbe:∀ ob,Below w.heap.size w (w.alloc ob):=fun ob=>zb _ _
 have HB:=zh hbe
 clear hbe
 unfold Tp.kindOf
 by_cases h1:0<=b
 ·have h1':b ≥ 0:=h1
  rw[if_pos h1]
  go_enter Tryz.func160,Tryz.ntmps160
  go_wp2
  go_ret
  exact⟨rfl,HB.out _⟩
 ·have h1':¬b ≥ 0:=h1
  rw[if_neg h1]
  by_cases h2:0<a
  ·have h2':(a:Int) > 0:=by omega
   rw[if_pos h2]
   go_enter Tryz.func160,Tryz.ntmps160
   go_wp2
   go_ret
   exact⟨rfl,HB.out _⟩
  ·have h2':¬(a:Int) > 0:=by omega
   rw[if_neg h2]
   go_enter Tryz.func160,Tryz.ntmps160
   go_wp2
   go_ret
   exact⟨rfl,HB.out _⟩
theorem yH (w:World) {ops:Array Oper}{rest:List Oper}{o:Oper}{a:Act}{Q:Exit->Act->World->Prop}
  (hg:o.guard=none) (m x v:Operand) (t:TypeId) (hop:o.op=Op.mapUpdate t m x v) (e:TypeId) (ht:Tryz.prog.underlying t=some (.map 9 e))
  (b n:Nat) (f:Bs->Option Value) (hown:MapV w b n f) (hn:n<1000000) (l:Bs) (hl:l.length<=1000000) (val:Value) (hm:a.eval m=.map (some b)) (hx:a.eval x=.string (bs l)) (hv:a.eval v=val)
  (hK:∀ w',MapV w' b (n+1) (updV f l val)->Ext b w w'->w'.heap.size=w.heap.size->wpList Tryz.prog ops Q rest (a.put o.dst undef) w') :
  wpList Tryz.prog ops Q (o :: rest) a w:=by
 refine wpList_plain hg fun K' hK'=>?_
 obtain⟨w',hrun,r1,r2,r3⟩:=hown.store ht hn l hl val
 unfold Oper.wp
 simp[execOp,hop,hm,hx,hv,hrun,Result.andThen]
 exact hK' _ _ (hK w' r1 r2 r3)
theorem add_no {w:World}{lb n:Nat}{f:Bs->Option Value}(h:MapV w lb n f) (nm:Bs) (hl:nm.length<=1000000) (x:Nat) (y:Int) (pl:Nat) {u:Value}(hu:f nm=some u) (h2:∃ c d,u=.agg #[.int .i64 c,.int .i64 d]) :
  Calls Tryz.prog 71 #[.map (some lb),.string (bs nm),.agg #[.int .i64 (x:Int),.int .i64 y],.int .i64 (pl:Int)] w fun e w'=>Thrown w.heap.size (9,pl) e w'/\Below w.heap.size w w':=by
 obtain⟨c,d,rfl⟩:=h2
 have hlook:∀ ob,(Instr.lookup 76 (.map (some lb)) (.string (bs nm)) true).run Tryz.prog (w.alloc ob)=.ok (.tuple #[.agg #[.int .i64 c,.int .i64 d],.bool true]) (w.alloc ob):=by
  intro ob
  have:=(h.on (w':=w.alloc ob) (Below.heap_alloc _ _ _ h.lt)).look (t:=76) Tryz.underlying76 (zeroTh _) nm hl true
  rw[hu]at this
  exact this
 have HB:Hid (∀ o1 o2,Below w.heap.size w ((w.alloc o1).alloc o2)):=fun o1 o2=>(zb _ _).alloc (by simp) _
 clear h hu
 go_enter Tryz.func71,Tryz.ntmps71
 go_wp2_with fail
 refine(kN 9 pl _).mono ?_
 rintro e w2 ⟨ht,hb2⟩
 obtain⟨ab,h1,rfl,h2,h3⟩:=ht.out
 have hsz:w.heap.size<=ab:=by simp at h1;omega
 have HT:=zh h2
 have HT2:=zh h3
 have HB2:=zh ((HB.out _ _).trans (hb2.mono (by simp;omega)))
 clear h1 h2 h3 hb2 ht
 go_wp2_with fail
 exact⟨rfl,⟨⟨ab,hsz,rfl,HT.out,HT2.out⟩⟩,HB2.out⟩
theorem add_ok {w:World}{lb n:Nat}{f:Bs->Option Value}(h:MapV w lb n f) (hn:n<1000000) (nm:Bs) (hl:nm.length<=1000000) (x:Nat) (y:Int) (pl:Nat) (hu:f nm=none) :
  Calls Tryz.prog 71 #[.map (some lb),.string (bs nm),.agg #[.int .i64 (x:Int),.int .i64 y],.int .i64 (pl:Int)] w fun e w'=>e=.returned (.tuple #[])/\MapV w' lb (n+1) (updV f nm (thV (x,y)))/\Ext lb w w':=by
 have hlook:∀ ob,(Instr.lookup 76 (.map (some lb)) (.string (bs nm)) true).run Tryz.prog (w.alloc ob)=.ok (.tuple #[.agg #[.int .i64 0,.int .i64 0],.bool false]) (w.alloc ob):=by
  intro ob
  have:=(h.on (w':=w.alloc ob) (Below.heap_alloc _ _ _ h.lt)).look (t:=76) Tryz.underlying76 (zeroTh _) nm hl true
  rw[hu]at this
  exact this
 have HB:Hid (∀ o1 o2,Below w.heap.size w ((w.alloc o1).alloc o2)):=fun o1 o2=>(zb _ _).alloc (by simp) _
 have HM:=zh h
 have hlt:=h.lt
 clear h hu
 go_enter Tryz.func71,Tryz.ntmps71
 go_wp2_with (at_mapUpdate;refine yH _ rfl _ _ _ 76 rfl _ Tryz.underlying76 lb n f (HM.out.on ((HB.out _ _).block lb hlt)) hn nm hl (thV (x,y)) rfl rfl rfl ?_;intro w1 q1 q2 q3)
 exact bodyPost_end (results_none rfl _ _ _) rfl ⟨rfl,q1,(Ext.below (HB.out _ _)).trans q2⟩
end Go.Proofs.YtmocelfkmdpogaaGreatDoor
