import Derived.Test.YtbkndnmglhghlaaGreatDoorKJa
import Derived.Test.YtbkndnmglhghlaaGreatDoorKAa
import Derived.Test.YtbkndnmglhghlaaGreatDoorKWg
import Derived.Test.YtbkndnmglhghlaaGreatDoorKSha
set_option maxRecDepth 100000
set_option maxHeartbeats 4000000

namespace Tp
open Ob (In)
def idx (l:List Bs) (n:Bs):Int:=match l.findIdx? (·==n) with
 |some i=>(i:Int)
 |none=>-1
structure Cn where
 own:List Bs
 uses:List (Bs×List Bs)
 vars:List Bs
 procs:List Bs
def marks5:List Bs:=[mPlus,mMinus,mStar,wDiv,wMod,mEq,mNe,mLt,mLe,mGt,mGe]
def reachI (c:Cn) (op:Int) (md nm:Bs):In:=match c.uses.findIdx? (fun u=>u.1==md) with
 |some i=>⟨op,idx ((c.uses[i]?.map (·.2)).getD []) nm,(i:Int)⟩
 |none=>if op=14 then ⟨op,idx c.procs nm,-1⟩ else ⟨op,idx c.vars nm,-1⟩
def valueI (c:Cn) (md nm:Bs):In:=if 0<=idx c.own nm/\md=[] then ⟨3,idx c.own nm,0⟩ else reachI c 5 md nm
def setI (c:Cn) (nm:Bs) (at':Bool):In:=if 0<=idx c.own nm then ⟨4,idx c.own nm,0⟩ else ⟨if at' then 8 else 6,idx c.vars nm,0⟩
def andI (k:Nat) (l r:List In):List In:=l++⟨13,((k+l.length+r.length+4:Nat):Int),0⟩ :: r++[⟨11,0,0⟩,⟨11,0,0⟩,⟨12,((k+l.length+r.length+5:Nat):Int),0⟩,⟨1,0,0⟩]
def orI (k:Nat) (l r:List In):List In:=l++⟨13,((k+l.length+3:Nat):Int),0⟩ :: ⟨1,1,0⟩ :: ⟨12,((k+l.length+r.length+5:Nat):Int),0⟩ :: r++[⟨11,0,0⟩,⟨11,0,0⟩]
def cX (c:Cn):Nat->List X->List In
 | _,[]=>[]
 |k,⟨code,_,n,md,nm,op,le,ri,ar⟩ :: xs =>
  let l:=cX c k le
  let one:List In :=
   if code=1 then [⟨1,(n:Int),0⟩]
   else if code=2 then [valueI c md nm]
   else if code=3 then l++[reachI c 7 md nm]
   else if code=4 then l++[if op=wNot then ⟨11,0,0⟩ else ⟨10,0,0⟩]
   else if code=5 then
    if op=wAnd then andI k l (cX c (k+l.length+1) ri)
    else if op=wOr then orI k l (cX c (k+l.length+3) ri)
    else l++cX c (k+l.length) ri++[⟨9,idx marks5 op,0⟩]
   else if code=6 then cX c k ar++[reachI c 14 md nm]
   else []
  one++cX c (k+one.length) xs
def ifI (k:Nat) (v t e:List In) (no:Bool):List In :=
 if no then v++⟨13,((k+v.length+t.length+1:Nat):Int),0⟩ :: t
 else v++⟨13,((k+v.length+t.length+2:Nat):Int),0⟩ :: t++⟨12,((k+v.length+t.length+e.length+2:Nat):Int),0⟩ :: e
def whileI (k:Nat) (v t:List In):List In:=v++⟨13,((k+v.length+t.length+2:Nat):Int),0⟩ :: t++[⟨12,(k:Int),0⟩]
def cS (c:Cn):Nat->List S->List In
 | _,[]=>[]
 |k,⟨code,_,nm,ix,vl,th,el⟩ :: ss =>
  let v:=cX c k vl
  let t:=cS c (k+v.length+1) th
  let one:List In :=
   if code=1 then (cX c k ix++cX c (k+(cX c k ix).length) vl)++[setI c nm (!ix.isEmpty)]
   else if code=2 then ifI k v t (cS c (k+v.length+t.length+2) el) el.isEmpty
   else if code=3 then whileI k v t
   else if code=4 then v++[⟨15,0,0⟩]
   else if code=5 then v++[⟨16,0,0⟩]
   else if code=6 then v++[⟨2,0,0⟩]
   else []
  one++cS c (k+one.length) ss
def oneX (c:Cn) (k:Nat) (code n:Nat) (md nm op:Bs) (le ri ar:List X):List In :=
 if code=1 then [⟨1,(n:Int),0⟩]
 else if code=2 then [valueI c md nm]
 else if code=3 then cX c k le++[reachI c 7 md nm]
 else if code=4 then cX c k le++[if op=wNot then ⟨11,0,0⟩ else ⟨10,0,0⟩]
 else if code=5 then
  if op=wAnd then andI k (cX c k le) (cX c (k+(cX c k le).length+1) ri)
  else if op=wOr then orI k (cX c k le) (cX c (k+(cX c k le).length+3) ri)
  else cX c k le++cX c (k+(cX c k le).length) ri++[⟨9,idx marks5 op,0⟩]
 else if code=6 then cX c k ar++[reachI c 14 md nm]
 else []
theorem cX_nil (c:Cn)(k:Nat):cX c k []=[]:=by rw[cX]
theorem cX_cons (c:Cn)(k code pos n:Nat)(d nm op:Bs)(b e a xs:List X) :
  cX c k (⟨code,pos,n,d,nm,op,b,e,a⟩ :: xs)=oneX c k code n d nm op b e a++cX c (k+(oneX c k code n d nm op b e a).length) xs:=by
 rw[cX]
 rfl
theorem cX_len (c:Cn):∀(N k:Nat) (l:List X),SizeOf.sizeOf l<=N->WX l->(cX c k l).length+3*l.length<=4*NX l:=by
 intro N
 induction N with
 |zero =>
  intro k l h
  match l with
  |[]=>intro _;rw[cX_nil,NX];simp
  |a :: t=>simp at h
 |succ N ih =>
  intro k l h d
  match l with
  |[]=>rw[cX_nil,NX];simp
  | ⟨code,pos,n,md,nm,op,le,ri,ar⟩ :: xs =>
   simp only[List.cons.sizeOf_spec,X.mk.sizeOf_spec]at h
   rw[WX]at d
   obtain⟨f,g⟩:=d
   have T:=fun j=>ih j xs (by omega) g
   have b:=T (k+(oneX c k code n md nm op le ri ar).length)
   rw[cX_cons,NX,List.length_append,List.length_cons]
   have q:1<=rN md:=by unfold rN;split<;>omega
   rcases f with⟨rfl,_⟩|⟨rfl,_⟩|⟨rfl,_,_,_,hl,hl1,_⟩|⟨rfl,_,_,_,_,hl,hl1,_⟩|⟨rfl,_,_,_,_,hl,hl1,hi,hi1,_⟩|⟨rfl,_,_,_,_,_,ha⟩
   ·simp[oneX]at b ⊢
    omega
   ·simp[oneX]at b ⊢
    omega
   ·have:=ih k le (by omega) hl
    simp[oneX]at b ⊢
    omega
   ·have:=ih k le (by omega) hl
    simp[oneX]at b ⊢
    omega
   ·have i:=ih k le (by omega) hl
    have m:=ih (k+(cX c k le).length+1) ri (by omega) hi
    have o:=ih (k+(cX c k le).length+3) ri (by omega) hi
    have p:=ih (k+(cX c k le).length) ri (by omega) hi
    have e:(oneX c k 5 n md nm op le ri ar).length<=4*NX le-3+(4*NX ri-3)+5:=by
     simp only[oneX]
     repeat' split
     all_goals first|contradiction|(simp[andI,orI];omega)
    simp only[if_neg (show ¬(5:Nat)=3 by decide),if_neg (show ¬(5:Nat)=4 by decide),if_true]
    omega
   ·have:=ih k ar (by omega) ha
    simp[oneX]at b ⊢
    omega
def oneS (c:Cn) (k:Nat) (code:Nat) (nm:Bs) (ix vl:List X) (th el:List S):List In :=
 if code=1 then (cX c k ix++cX c (k+(cX c k ix).length) vl)++[setI c nm (!ix.isEmpty)]
 else if code=2 then ifI k (cX c k vl) (cS c (k+(cX c k vl).length+1) th) (cS c (k+(cX c k vl).length+(cS c (k+(cX c k vl).length+1) th).length+2) el) el.isEmpty
 else if code=3 then whileI k (cX c k vl) (cS c (k+(cX c k vl).length+1) th)
 else if code=4 then cX c k vl++[⟨15,0,0⟩]
 else if code=5 then cX c k vl++[⟨16,0,0⟩]
 else if code=6 then cX c k vl++[⟨2,0,0⟩]
 else []
theorem cS_nil (c:Cn)(k:Nat):cS c k []=[]:=by rw[cS]
theorem cS_cons (c:Cn)(k code pos:Nat)(nm:Bs)(b e:List X)(d a f:List S) :
  cS c k (⟨code,pos,nm,b,e,d,a⟩ :: f)=oneS c k code nm b e d a++cS c (k+(oneS c k code nm b e d a).length) f:=by
 rw[cS]
 rfl
theorem cS_len (c:Cn):∀(N k:Nat) (l:List S),SizeOf.sizeOf l<=N->WS l->(cS c k l).length<=4*NS l:=by
 intro N
 induction N with
 |zero =>
  intro k l h
  match l with
  |[]=>intro _;rw[cS_nil,NS];simp
  |a :: t=>simp at h
 |succ N ih =>
  intro k l h n
  match l with
  |[]=>rw[cS_nil,NS];simp
  | ⟨code,pos,nm,ix,b,th,el⟩ :: ss =>
   simp only[List.cons.sizeOf_spec,S.mk.sizeOf_spec]at h
   rw[WS]at n
   obtain⟨p,q⟩:=n
   have r:=ih (k+(oneS c k code nm ix b th el).length) ss (by omega) q
   rw[cS_cons,NS,List.length_append]
   have V:=fun (h:ev b) j=>cX_len c _ j b (Nat.le_refl _) h.1
   rcases p with⟨rfl,_,g,d,_⟩|⟨rfl,_,_,d,ht,he⟩|⟨rfl,_,_,d,ht,_⟩|⟨hc,_,_,d,_⟩|⟨rfl,_,_,d,_⟩
   ·have f:=V d (k+(cX c k ix).length)
    have e:(oneS c k 1 nm ix b th el).length=(cX c k ix).length+(cX c (k+(cX c k ix).length) b).length+1:=by simp[oneS];omega
    rw[if_pos rfl]
    rcases g with rfl|⟨g,o,_⟩
    ·rw[cX_nil]at e
     simp only[List.length_nil,List.isEmpty_nil,if_true]at e ⊢
     rw[cX_nil]at f
     simp only[List.length_nil]at f
     omega
    ·have m:=cX_len c _ k ix (Nat.le_refl _) g
     obtain⟨x,rfl⟩:=len1 o
     rw[if_neg (by simp)]
     omega
   ·have f:=V d k
    have m:=ih (k+(cX c k b).length+1) th (by omega) ht
    have s:=ih (k+(cX c k b).length+(cS c (k+(cX c k b).length+1) th).length+2) el (by omega) he
    have e:(oneS c k 2 nm ix b th el).length<=4*NX b+4*NS th+(if el.isEmpty then 0 else 4*NS el)+2:=by
     rw[oneS,if_neg (by decide),if_pos rfl]
     unfold ifI
     split
     ·simp;omega
     ·simp;omega
    rw[if_neg (by decide),if_pos rfl]
    split at e
    ·rename_i i;rw[if_pos i];omega
    ·rename_i i;rw[if_neg i];omega
   ·have f:=V d k
    have m:=ih (k+(cX c k b).length+1) th (by omega) ht
    have e:(oneS c k 3 nm ix b th el).length<=4*NX b+4*NS th+2:=by
     rw[oneS,if_neg (by decide),if_neg (by decide),if_pos rfl]
     unfold whileI
     simp;omega
    rw[if_neg (by decide),if_neg (by decide),if_pos rfl]
    omega
   ·have f:=V d k
    have e:(oneS c k code nm ix b th el).length<=4*NX b+1:=by
     rcases hc with rfl|rfl<;>simp[oneS]<;>omega
    rcases hc with rfl|rfl
    ·simp only[if_neg (show ¬(4:Nat)=1 by decide),if_neg (show ¬(4:Nat)=2 by decide),if_neg (show ¬(4:Nat)=3 by decide),if_neg (show ¬(4:Nat)=6 by decide)]
     omega
    ·simp only[if_neg (show ¬(5:Nat)=1 by decide),if_neg (show ¬(5:Nat)=2 by decide),if_neg (show ¬(5:Nat)=3 by decide),if_neg (show ¬(5:Nat)=6 by decide)]
     omega
   ·have f:=V d k
    have e:(oneS c k 6 nm ix b th el).length<=4*NX b+1:=by simp[oneS];omega
    simp only[if_neg (show ¬(6:Nat)=1 by decide),if_neg (show ¬(6:Nat)=2 by decide),if_neg (show ¬(6:Nat)=3 by decide),if_true]
    omega
end Tp

namespace Tp
open Ob (In En O instB codeB lastB allB)
def cnOf (m:M) (uF:Bs->List Bs) (own:List Bs):Cn:=⟨own,m.imports.map fun n=>(n,uF n),m.vars.map (·.name),m.procs.map (·.name)⟩
def bodyP (m:M) (uF:Bs->List Bs) (k:Nat) (p:Pr):List In:=cS (cnOf m uF (ownOf p)) k p.body++[⟨1,0,0⟩,⟨15,0,0⟩]
def cP (m:M) (uF:Bs->List Bs):Nat->List Pr->List In
 | _,[]=>[]
 |k,p :: ps=>bodyP m uF k p++cP m uF (k+(bodyP m uF k p).length) ps
def entP (m:M) (uF:Bs->List Bs):Nat->List Pr->List En
 | _,[]=>[]
 |k,p :: ps=>⟨(k:Int),(p.params.length:Int),((ownOf p).length:Int)⟩ :: entP m uF (k+(bodyP m uF k p).length) ps
def headC (m:M) (uF:Bs->List Bs):List In:=cS (cnOf m uF []) 0 m.body++[⟨17,0,0⟩]
def codeC (m:M) (uF:Bs->List Bs):List In:=headC m uF++cP m uF (headC m uF).length m.procs
theorem cP_len (m:M)(a:Bs->List Bs):∀(ps:List Pr) (k:Nat),(∀p∈ps,WP p)->(cP m a k ps).length<=4*(ps.map nP).sum:=by
 intro ps
 induction ps with
 |nil=>intro k _;simp[cP]
 |cons p ps ih =>
  intro k h
  have d:=ih (k+(bodyP m a k p).length) (fun q c=>h q (List.mem_cons_of_mem _ c))
  have e:=cS_len (cnOf m a (ownOf p)) _ k p.body (Nat.le_refl _) (h p (by simp)).b
  have f:(bodyP m a k p).length=(cS (cnOf m a (ownOf p)) k p.body).length+2:=by simp[bodyP]
  rw[cP,List.length_append,List.map_cons,List.sum_cons]
  have g:2+NS p.body<=nP p:=by unfold nP;omega
  omega
theorem codeC_len {m:M}(c:WM m)(a:Bs->List Bs):(codeC m a).length<=4*nM m:=by
 have d:=cP_len m a m.procs (headC m a).length c.p
 have e:=cS_len (cnOf m a []) _ 0 m.body (Nat.le_refl _) c.b
 have f:(headC m a).length=(cS (cnOf m a []) 0 m.body).length+1:=by simp[headC]
 have g:(m.procs.map nP).sum+NS m.body+6<=nM m:=by unfold nM;omega
 unfold codeC
 rw[List.length_append]
 omega
theorem entP_len (m:M)(a:Bs->List Bs):∀(ps:List Pr) (k:Nat),(entP m a k ps).length=ps.length:=by
 intro ps
 induction ps with
 |nil=>intro k;rfl
 |cons p ps ih=>intro k;rw[entP,List.length_cons,List.length_cons,ih]
end Tp

namespace Tp
open Ob (In En O Sm Us Gl nameB good allB symB useB otherB varB headB entB procsB codeB rightB countsB lenB)
def objC (m:M) (syms:List Sm) (uF:Bs->List Bs) (need:Bs->Bs):O :=
 ⟨m.name,syms,m.imports.map fun n=>⟨n,need n,uF n⟩,m.vars.map fun g=>⟨g.name,0,(g.len:Int),g.seen⟩,entP m uF (headC m uF).length m.procs,m.procs.map (·.name),codeC m uF⟩
end Tp

namespace Go.Proofs.YtbkndnmglhghlaaGreatDoor
open Go.RowKit Go.Maps
open Tp (Bs Th)
variable {nm:Bs}{f:Bs->Option Value}{x3:Int}{l:List Th}{N a b gb i n pn x2:Nat}{t:TypeId}{c d e:Value}{w:World}
@[go_sem] theorem zeroTh (w:World):(zeroValue 221).run Tryz.prog w=.ok (.agg #[.int .i64 0,.int .i64 0]) w:=by kernel_rfl
@[go_sem] theorem zeroSyms (w:World):(zeroValue 42).run Tryz.prog w=.ok (.slice none 0 0) w:=by kernel_rfl
def thV (x:Nat×Int):Value:=.agg #[.int .i64 (x.1:Int),.int .i64 x.2]
theorem kB (en a:Nat)(w:World) :
  Calls Tryz.prog 164 #[.int .i64 (en:Int),.int .i64 (a:Int)] w fun e w'=>Thrown w.heap.size (en,a) e w'/\Below w.heap.size w w':=by
 go_enter Tryz.func164,Tryz.ntmps164
 go_wp2
 exact⟨rfl,⟨⟨w.heap.size,Nat.le_refl _,rfl,by simp[go_sem],by simp[go_sem]⟩⟩,zb _ _⟩
theorem kq (w:World) :
  Calls Tryz.prog 138 #[] w fun e w'=>e=.returned (.agg #[.int .i64 0,.int .i64 (-1)])/\Below w.heap.size w w':=by
 go_enter Tryz.func138,Tryz.ntmps138
 go_wp2
 exact bodyPost_ret (v:=.agg #[.int .i64 0,.int .i64 (-1)]) (by simp[results,Tryz.results138,go_sem]) rfl ⟨rfl,zb _ _⟩
theorem kind_any (a:Nat)(b:Int)(w:World) :
  Calls Tryz.prog 182 #[.agg #[.int .i64 (a:Int),.int .i64 b]] w fun e w'=>e=.returned (.int .i64 (Tp.kindOf (a,b):Int))/\Below w.heap.size w w':=by
 have f:∀h,Below w.heap.size w (w.alloc h):=fun h=>zb _ _
 have d:=zh f
 clear f
 unfold Tp.kindOf
 by_cases c:0<=b
 ·have i:b ≥ 0:=c
  rw[if_pos c]
  go_enter Tryz.func182,Tryz.ntmps182
  go_wp2
  go_ret
  exact⟨rfl,d.out _⟩
 ·have i:¬b ≥ 0:=c
  rw[if_neg c]
  by_cases g:0<a
  ·have j:(a:Int) > 0:=by omega
   rw[if_pos g]
   go_enter Tryz.func182,Tryz.ntmps182
   go_wp2
   go_ret
   exact⟨rfl,d.out _⟩
  ·have j:¬(a:Int) > 0:=by omega
   rw[if_neg g]
   go_enter Tryz.func182,Tryz.ntmps182
   go_wp2
   go_ret
   exact⟨rfl,d.out _⟩
theorem yH (w:World){c:Array Oper}{rest:List Oper}{o:Oper}{a:Act}{Q:Exit->Act->World->Prop}
  (k:o.guard=none)(m x v:Operand)(t:TypeId)(i:o.op=Op.mapUpdate t m x v)(e:TypeId)(s:Tryz.prog.underlying t=some (.map 9 e))
  (b n:Nat)(f:Bs->Option Value)(d:MapV w b n f)(r:n<1000000)(l:Bs)(p:l.length<=1000000)(val:Value)(q:a.eval m=.map (some b))(y:a.eval x=.string (bs l))(u:a.eval v=val)
  (j:∀w',MapV w' b (n+1) (updV f l val)->Ext b w w'->w'.heap.size=w.heap.size->wpList Tryz.prog c Q rest (a.put o.dst undef) w') :
  wpList Tryz.prog c Q (o :: rest) a w:=by
 refine wpList_plain k fun C h=>?_
 obtain⟨w',g,z,A,B⟩:=d.store s r l p val
 unfold Oper.wp
 simp[execOp,i,q,y,u,g,Result.andThen]
 exact h _ _ (j w' z A B)
theorem add_no {g:Nat}(h:MapV w g n f)(nm:Bs)(C:nm.length<=1000000)(x:Nat)(y:Int)(i:Nat){u:Value}(p:f nm=some u)(a:∃c d,u=.agg #[.int .i64 c,.int .i64 d]) :
  Calls Tryz.prog 133 #[.map (some g),.string (bs nm),.agg #[.int .i64 (x:Int),.int .i64 y],.int .i64 (i:Int)] w fun e w'=>Thrown w.heap.size (9,i) e w'/\Below w.heap.size w w':=by
 obtain⟨c,d,rfl⟩:=a
 have D:∀b,(Instr.lookup 162 (.map (some g)) (.string (bs nm)) true).run Tryz.prog (w.alloc b)=.ok (.tuple #[.agg #[.int .i64 c,.int .i64 d],.bool true]) (w.alloc b):=by
  intro b
  have:=(h.on (w':=w.alloc b) (Below.heap_alloc _ _ _ h.lt)).look (t:=162) Tryz.underlying162 (zeroTh _) nm C true
  rw[p]at this
  exact this
 have A:Hid (∀q r,Below w.heap.size w ((w.alloc q).alloc r)):=fun q r=>(zb _ _).alloc (by simp) _
 clear h p
 go_enter Tryz.func133,Tryz.ntmps133
 go_wp2_with fail
 refine(kB 9 i _).mono ?_
 rintro e E⟨o,j⟩
 obtain⟨k,l,rfl,a,m⟩:=o.out
 have z:w.heap.size<=k:=by simp at l;omega
 have B:=zh a
 have v:=zh m
 have s:=zh ((A.out _ _).trans (j.mono (by simp;omega)))
 clear l a m j o
 go_wp2_with fail
 exact⟨rfl,⟨⟨k,z,rfl,B.out,v.out⟩⟩,s.out⟩
theorem add_ok (h:MapV w a n f)(m:n<1000000)(nm:Bs)(d:nm.length<=1000000)(x:Nat)(y:Int)(o:Nat)(g:f nm=none) :
  Calls Tryz.prog 133 #[.map (some a),.string (bs nm),.agg #[.int .i64 (x:Int),.int .i64 y],.int .i64 (o:Int)] w fun e w'=>e=.returned (.tuple #[])/\MapV w' a (n+1) (updV f nm (thV (x,y)))/\Ext a w w':=by
 have r:∀b,(Instr.lookup 162 (.map (some a)) (.string (bs nm)) true).run Tryz.prog (w.alloc b)=.ok (.tuple #[.agg #[.int .i64 0,.int .i64 0],.bool false]) (w.alloc b):=by
  intro b
  have:=(h.on (w':=w.alloc b) (Below.heap_alloc _ _ _ h.lt)).look (t:=162) Tryz.underlying162 (zeroTh _) nm d true
  rw[g]at this
  exact this
 have c:Hid (∀i j,Below w.heap.size w ((w.alloc i).alloc j)):=fun i j=>(zb _ _).alloc (by simp) _
 have l:=zh h
 have k:=h.lt
 clear h g
 go_enter Tryz.func133,Tryz.ntmps133
 go_wp2_with (at_mapUpdate;refine yH _ rfl _ _ _ 162 rfl _ Tryz.underlying162 a n f (l.out.on ((c.out _ _).block a k)) m nm d (thV (x,y)) rfl rfl rfl ?_;intro u p q s)
 exact ze rfl rfl ⟨rfl,p,(Ext.below (c.out _ _)).trans q⟩
structure TM (w:World) (gb:Nat) (l:List Th) (i:Nat):Prop where
 mp:MapV w gb i (fun k=>(Tp.lkT (l.take i) k).map thV)
 tw:Tp.twP l 0=Tp.twP l i
theorem TM.on {w w':World}{gb i:Nat}{l:List Th}(h:TM w gb l i)(k:w'.heap[gb]?=w.heap[gb]?):TM w' gb l i:=⟨h.mp.on k,h.tw⟩
theorem TM.zero (w:World)(l:List Th):TM (w.alloc (.map #[] 0)) w.heap.size l 0:=by
 refine⟨?_,rfl⟩
 have:=MapV.made w
 have e:(fun k=>(Tp.lkT (l.take 0) k).map thV)=fun _=>none:=by funext k;simp[Tp.lkT]
 rw[e]
 exact this
theorem TM.dup {x:Th}(h:TM w gb l i)(c:l[i]?=some x)(b:x.1∈(l.take i).map (·.1)):Tp.twP l 0=some (9,x.2.1):=by
 rw[h.tw,Tp.twP]
 obtain⟨a,e⟩:=List.getElem?_eq_some_iff.1 c
 rw[dif_pos a,e,if_pos b]
theorem TM.fin (h:TM w gb l i)(a:l.length<=i):Tp.twP l 0=none/\MapV w gb i (fun k=>(Tp.lkT l k).map thV):=by
 refine⟨by rw[h.tw,Tp.twP,dif_neg (by omega)],?_⟩
 have:=h.mp
 rw[List.take_of_length_le a]at this
 exact this
theorem xT {a:Bs}(h:TM w gb l i)(d:a∈(l.take i).map (·.1))(c:a.length<=1000000) :
  Calls Tryz.prog 133 #[.map (some gb),.string (bs a),.agg #[.int .i64 (x2:Int),.int .i64 x3],.int .i64 (b:Int)] w fun e w'=>Thrown w.heap.size (9,b) e w'/\Below w.heap.size w w':=by
 have f:=Tp.lkT_some.2 d
 obtain⟨u,g⟩:=Option.isSome_iff_exists.1 f
 exact add_no h.mp a c x2 x3 b (u:=thV u) (by simp[g]) ⟨_,_,rfl⟩
theorem xS {a:Bs}{d:Nat}(h:TM w gb l i)(t:l[i]?=some (a,d,x2,x3))(p:i<1000000)(c:¬a∈(l.take i).map (·.1))(q:a.length<=1000000) :
  Calls Tryz.prog 133 #[.map (some gb),.string (bs a),.agg #[.int .i64 (x2:Int),.int .i64 x3],.int .i64 (d:Int)] w fun e w'=>e=.returned (.tuple #[])/\TM w' gb l (i+1)/\Ext gb w w':=by
 have r:Tp.lkT (l.take i) a=none:=by
  cases s:Tp.lkT (l.take i) a with
  |none=>rfl
  |some u=>exact absurd (Tp.lkT_some.1 (by rw[s];rfl)) c
 refine(add_ok h.mp p a q x2 x3 d (by simp[r])).mono ?_
 rintro e w'⟨m,n,o⟩
 obtain⟨f,g⟩:=List.getElem?_eq_some_iff.1 t
 refine⟨m,⟨?_,?_⟩,o⟩
 ·have j:(fun k=>(Tp.lkT (l.take (i+1)) k).map thV)=updV (fun k=>(Tp.lkT (l.take i) k).map thV) a (thV (x2,x3)):=by
   funext k
   rw[List.take_succ_eq_append_getElem f,g,Tp.lkT_snoc c]
   unfold updV
   by_cases b:k=a
   ·rw[if_pos b,if_pos b];rfl
   ·rw[if_neg b,if_neg b]
  rw[j]
  exact n
 ·rw[h.tw,Tp.twP,dif_pos f,g,if_neg c]
def MapP (w:World) (l:List Th) (e:Ending) (w':World):Prop:=Below w.heap.size w w'/\match Tp.twP l 0 with
 |none=>∃gb n,e=.returned (.map (some gb))/\w.heap.size<=gb/\n<=1000000/\MapV w' gb n (fun k=>(Tp.lkT l k).map thV)
 |some er=>Thrown w.heap.size er e w'
def AskTG (w:World) (gn:Nat) (ga:Option Addr) (l:List Th):Prop :=
 ∀i,i<gn->∃(g:Nat) (x0:Bs) (x1 x2:Nat) (x3:Bool),ga=some ⟨g,0,none⟩/\g<w.heap.size/\w.cell? ⟨g,i*4,none⟩=some (.string (bs x0))/\w.cell? ⟨g,i*4+1,none⟩=some (.int .i64 (x1:Int))/\w.cell? ⟨g,i*4+2,none⟩=some (.int .i64 (x2:Int))/\w.cell? ⟨g,i*4+3,none⟩=some (.bool x3)/\x0.length<=1000000/\l[i]?=some (x0,x1,x2,-1)
def AskTP (w:World) (gn pn:Nat) (pa:Option Addr) (l:List Th):Prop :=
 ∀i,i<pn->∃(g:Nat) (x0:Bs) (x1:Nat) (x2:Bool) (y3 y4 y5:Option Addr) (n3 n4 n5 c3 c4 c5:Nat),pa=some ⟨g,0,none⟩/\g<w.heap.size/\w.cell? ⟨g,i*6,none⟩=some (.string (bs x0))/\w.cell? ⟨g,i*6+1,none⟩=some (.int .i64 (x1:Int))/\w.cell? ⟨g,i*6+2,none⟩=some (.bool x2)/\w.cell? ⟨g,i*6+3,none⟩=some (.slice y3 n3 c3)/\w.cell? ⟨g,i*6+4,none⟩=some (.slice y4 n4 c4)/\w.cell? ⟨g,i*6+5,none⟩=some (.slice y5 n5 c5)/\x0.length<=1000000/\l[gn+i]?=some (x0,x1,0,(n3:Int))
theorem zW {a f:Value}(h:w.heap[b]?=some (.cells #[a,c,d,e,f] t (0,0))):w.cell? ⟨b,0,none⟩=some a/\w.cell? ⟨b,1,none⟩=some c/\w.cell? ⟨b,2,none⟩=some d/\w.cell? ⟨b,3,none⟩=some e/\w.cell? ⟨b,4,none⟩=some f :=
 ⟨(za h).trans rfl,(za h).trans rfl,(za h).trans rfl,(za h).trans rfl,(za h).trans rfl⟩
theorem zT {B:Nat}{w':World}(h:Ext b w w')(a:B<=b)(d:B<=w.heap.size):Below B w w' :=
 ⟨h.os,h.tape,h.output,h.size,fun k c=>h.block k (by omega) (by omega)⟩
theorem yf {a:Addr}{v:Value}(h:w.cell? a=some v)(b:Obj):(w.alloc b).cell? a=some v:=by
 rw[World.cell?_alloc_lt _ _ _ (World.block_lt_of_cell? _ _ h)];exact h
theorem vC {G gn K Q x J:Nat}{P v t I:Option Addr}(hG:AskTG w gn v l)(hP:AskTP w gn pn t l)(hl:l.length=gn+pn)(d1:gn<=1000)(d8:pn<=1000) :
  Calls Tryz.prog 87 #[.agg #[.string (bs nm),.slice P G Q,.slice v gn N,.slice t pn x,.slice I K J]] w (MapP w l):=by
 obtain⟨m,E⟩:∃m,m=w.alloc (.cells #[.string (bs nm),.slice P G Q,.slice v gn N,.slice t pn x,.slice I K J] 66):=⟨_,rfl⟩
 have a0:m.heap[w.heap.size]?=some (.cells #[.string (bs nm),.slice P G Q,.slice v gn N,.slice t pn x,.slice I K J] 66 (0,0)):=by rw[E];exact zl _ _
 have S:m.heap.size=w.heap.size+1:=by rw[E];simp
 have a3:Below w.heap.size w (m.alloc (.map #[] 0)):=by rw[E];exact(zb _ _).alloc (by simp) _
 have V:=TM.zero m l
 have R:(m.alloc (.map #[] 0)).heap[w.heap.size]?=some (.cells #[.string (bs nm),.slice P G Q,.slice v gn N,.slice t pn x,.slice I K J] 66 (0,0)):=(Below.heap_alloc _ _ _ (by omega)).trans a0
 rw[S]at V
 obtain⟨k0,k1,k2,X,k4⟩:=zW R
 have b7:=@run_makeMap Tryz.prog
 have HG:=zh hG
 have HP:=zh hP
 have HL:=zh hl
 have HK:=zh R
 have HT:=zh V
 have A:=zh a3
 have b2:=zh S
 have c8:(gn:Int)<=1000:=by omega
 have c9:(pn:Int)<=1000:=by omega
 clear hG hP hl R V a3 k0 k1 X k4 a0
 go_enter Tryz.func87,Tryz.ntmps87
 go_wp2_with fail
 rw[<-E]
 have d0:w.heap.size+2<=(m.alloc (.map #[] 0)).heap.size:=by simp;omega
 have d9:(w.alloc (.cells #[.string (bs nm),.slice P G Q,.slice v gn N,.slice t pn x,.slice I K J] 66)).heap.size=w.heap.size+1:=by simp
 generalize m.alloc (.map #[] 0)=w0 at *
 clear E b2 S m b7
 go_loopg [12] gn (fun k vi wr=>∃i:Nat,i<=gn/\k=gn-i/\vi=.int .i64 (i:Int)/\Hid (TM wr (w.heap.size+1) l i)/\Hid (Ext (w.heap.size+1) w0 wr))
 case atStart=>exact⟨0,by omega,by omega,rfl,HT,Ext.refl _ _⟩
 case round =>
  obtain⟨i,d2,hk,rfl,n,c⟩:=hrel
  have a4:=c.out.size
  by_cases b6:i<gn
  ·have a7:(i:Int)<(gn:Int):=by omega
   obtain⟨g,x0,x1,x2,x3,b5,U,L,D,c2,M,F,O⟩:=HG.out i b6
   subst b5
   have a:∀(o:Nat) (u:Value),w.cell? ⟨g,o,none⟩=some u->wr.cell? ⟨g,o,none⟩=some u:=fun o u h=>c.out.cell ((A.out.cell (p:=⟨g,o,none⟩) U).trans h) (by simp;omega)
   have b9:=a _ _ L
   have c1:=a _ _ D
   have c6:=a _ _ c2
   have c7:=a _ _ M
   have a6:g<wr.heap.size:=by omega
   have H:=zh O
   have C:Hid (∀f,TM (wr.alloc f) (w.heap.size+1) l i):=fun f=>n.out.on (Below.heap_alloc _ _ _ (by omega))
   have B:Hid (∀f,Ext (w.heap.size+1) w0 (wr.alloc f)):=fun f=>c.out.trans (Ext.below (zb _ _))
   clear L D c2 M a O
   by_cases r:x0∈(l.take i).map (·.1)
   ·have q:=zh r
    clear r
    go_wp2_with fail
    refine(xT (C.out _) q.out F).mono ?_
    rintro e y⟨b,d⟩
    have W:=zh (n.out.dup H.out q.out)
    have z:Hid (Below w.heap.size w y):=(A.out.trans (zT (B.out _) (by omega) (by omega))).trans (d.mono (by simp;omega))
    have s:=zh (b.mono (B':=w.heap.size) (by simp;omega))
    obtain⟨ab,Y,rfl,Z,q3⟩:=b.out
    clear b d Y Z q3
    go_wp2_with fail
    refine⟨rfl,z.out,?_⟩
    rw[W.out]
    exact s.out
   ·have q:=zh r
    clear r
    go_wp2_with fail
    refine(xS (C.out _) H.out (by omega) q.out F).mono ?_
    rintro e y⟨rfl,b,d⟩
    have s:=zh b
    have T:=zh ((B.out _).trans d)
    clear b d
    go_wp2_with fail
    go_roundg (gn-(i+1))
    case measure=>omega
    case rel=>exact⟨i+1,by omega,rfl,by go_num,s,T⟩
  ·have a7:¬(i:Int)<(gn:Int):=by omega
   have b3:i=gn:=by omega
   subst b3
   have X:wr.cell? ⟨w.heap.size,3,none⟩=some (.slice t pn x):=c.out.cell (zW HK.out).2.2.2.1 (by simp)
   have a9:w.heap.size<wr.heap.size:=by omega
   have a1:Hid (TM wr (w.heap.size+1) l (i+0)):=n
   have a2:=c
   clear n c HG k2 a4 HT
   go_wp2_with fail
   go_loopg [29] pn (fun k vi wr=>∃j:Nat,j<=pn/\k=pn-j/\vi=.int .i64 (j:Int)/\Hid (TM wr (w.heap.size+1) l (i+j))/\Hid (Ext (w.heap.size+1) w0 wr))
   case atStart=>exact⟨0,by omega,by omega,rfl,a1,a2⟩
   case round =>
    obtain⟨j,d6,d7,rfl,n,c⟩:=hrel
    have a4:=c.out.size
    clear a1 a2 X a9
    by_cases a8:j<pn
    ·have a5:(j:Int)<(pn:Int):=by omega
     obtain⟨g,x0,x1,x2,y3,y4,y5,n3,n4,n5,d3,d4,d5,b8,U,L,D,c2,M,c4,c5,F,O⟩:=HP.out j a8
     subst b8
     have a:∀(o:Nat) (u:Value),w.cell? ⟨g,o,none⟩=some u->wr.cell? ⟨g,o,none⟩=some u:=fun o u h=>c.out.cell ((A.out.cell (p:=⟨g,o,none⟩) U).trans h) (by simp;omega)
     have b9:=a _ _ L
     have c1:=a _ _ D
     have c6:=a _ _ c2
     have c7:=a _ _ M
     have e0:=a _ _ c4
     have e1:=a _ _ c5
     have a6:g<wr.heap.size:=by omega
     have H:=zh O
     have C:Hid (∀f,TM (wr.alloc f) (w.heap.size+1) l (i+j)):=fun f=>n.out.on (Below.heap_alloc _ _ _ (by omega))
     have B:Hid (∀f,Ext (w.heap.size+1) w0 (wr.alloc f)):=fun f=>c.out.trans (Ext.below (zb _ _))
     clear L D c2 M c4 c5 a O
     by_cases r:x0∈(l.take (i+j)).map (·.1)
     ·have q:=zh r
      clear r
      go_wp2_with fail
      refine(xT (x2:=0) (x3:=(n3:Int)) (C.out _) q.out F).mono ?_
      rintro e y⟨b,d⟩
      have W:=zh (n.out.dup H.out q.out)
      have z:Hid (Below w.heap.size w y):=(A.out.trans (zT (B.out _) (by omega) (by omega))).trans (d.mono (by simp;omega))
      have s:=zh (b.mono (B':=w.heap.size) (by simp;omega))
      obtain⟨ab,Y,rfl,Z,q3⟩:=b.out
      clear b d Y Z q3
      go_wp2_with fail
      refine⟨rfl,z.out,?_⟩
      rw[W.out]
      exact s.out
     ·have q:=zh r
      clear r
      go_wp2_with fail
      refine(xS (x2:=0) (x3:=(n3:Int)) (C.out _) H.out (by omega) q.out F).mono ?_
      rintro e y⟨rfl,b,d⟩
      have s:Hid (TM y (w.heap.size+1) l (i+(j+1))):=b
      have T:=zh ((B.out _).trans d)
      clear b d
      go_wp2_with fail
      go_roundg (pn-(j+1))
      case measure=>omega
      case rel=>exact⟨j+1,by omega,rfl,by go_num,s,T⟩
    ·have a5:¬(j:Int)<(pn:Int):=by omega
     have b4:j=pn:=by omega
     subst b4
     obtain⟨f1,f2⟩:=n.out.fin (by have:=HL.out;omega)
     have b0:=zh f1
     have b1:=zh f2
     have z:Hid (Below w.heap.size w wr):=A.out.trans (zT c.out (by omega) (by omega))
     clear f1 f2 n c
     go_wp2_with fail
     go_ret
     refine⟨z.out,?_⟩
     rw[b0.out]
     exact⟨_,_,rfl,by omega,by omega,b1.out⟩
theorem xj {P:Program}{f:FuncId}{args:Array Value}{R T:Ending->World->Prop}(h:Calls P f args w T)(a:∀e w',T e w'->R e w')(_:Hid False->R (.returned (.tuple #[])) w):Calls P f args w R:=h.mono a
def AskTN (w:World) (o pn:Nat) (pa:Option Addr) (pl:Nat) (l:List Th):Prop :=
 ∀i,i<pn->∃(g:Nat) (x0:Bs),pa=some ⟨g,0,none⟩/\g<w.heap.size/\w.cell? ⟨g,i,none⟩=some (.string (bs x0))/\x0.length<=1000000/\l[o+i]?=some (x0,pl,0,-1)
theorem yT {a f g:Value}(h:w.heap[b]?=some (.cells #[a,c,d,e,f,g] t (0,0))):w.cell? ⟨b,0,none⟩=some a/\w.cell? ⟨b,1,none⟩=some c/\w.cell? ⟨b,2,none⟩=some d/\w.cell? ⟨b,3,none⟩=some e/\w.cell? ⟨b,4,none⟩=some f/\w.cell? ⟨b,5,none⟩=some g :=
 ⟨(za h).trans rfl,(za h).trans rfl,(za h).trans rfl,(za h).trans rfl,(za h).trans rfl,(za h).trans rfl⟩
theorem uq {sn:Bool}{M I L:Nat}{H z K:Option Addr}(hG:AskTN w 0 pn H a l)(hP:AskTN w pn b z a l)(hl:l.length=pn+b)(c1:pn<=1000)(c5:b<=1000) :
  Calls Tryz.prog 90 #[.agg #[.string (bs nm),.int .i64 (a:Int),.bool sn,.slice H pn N,.slice z b I,.slice K M L]] w (MapP w l):=by
 obtain⟨s,C⟩:∃s,s=w.alloc (.cells #[.string (bs nm),.int .i64 (a:Int),.bool sn,.slice H pn N,.slice z b I,.slice K M L] 157):=⟨_,rfl⟩
 have Z:s.heap[w.heap.size]?=some (.cells #[.string (bs nm),.int .i64 (a:Int),.bool sn,.slice H pn N,.slice z b I,.slice K M L] 157 (0,0)):=by rw[C];exact zl _ _
 have P:s.heap.size=w.heap.size+1:=by rw[C];simp
 have a2:Below w.heap.size w (s.alloc (.map #[] 0)):=by rw[C];exact(zb _ _).alloc (by simp) _
 have U:=TM.zero s l
 have O:(s.alloc (.map #[] 0)).heap[w.heap.size]?=some (.cells #[.string (bs nm),.int .i64 (a:Int),.bool sn,.slice H pn N,.slice z b I,.slice K M L] 157 (0,0)):=(Below.heap_alloc _ _ _ (by omega)).trans Z
 rw[P]at U
 obtain⟨k0,k1,k2,k3,X,k5⟩:=yT O
 have b5:=@run_makeMap Tryz.prog
 have HG:=zh hG
 have HP:=zh hP
 have HL:=zh hl
 have W:=zh O
 have HT:=zh U
 have B:=zh a2
 have b1:=zh P
 have b7:(pn:Int)<=1000:=by omega
 have b8:(b:Int)<=1000:=by omega
 clear hG hP hl O U a2 k0 k1 k2 X k5 Z
 go_enter Tryz.func90,Tryz.ntmps90
 go_wp2_with fail
 rw[<-C]
 have b9:w.heap.size+2<=(s.alloc (.map #[] 0)).heap.size:=by simp;omega
 generalize s.alloc (.map #[] 0)=w0 at *
 clear C b1 P s b5
 go_loopg [12] pn (fun k Y wr=>∃i:Nat,i<=pn/\k=pn-i/\Y=.int .i64 (i:Int)/\Hid (TM wr (w.heap.size+1) l i)/\Hid (Ext (w.heap.size+1) w0 wr))
 case atStart=>exact⟨0,by omega,by omega,rfl,HT,Ext.refl _ _⟩
 case round =>
  obtain⟨i,c2,hk,rfl,m,c⟩:=hrel
  have a3:=c.out.size
  by_cases b4:i<pn
  ·have a6:(i:Int)<(pn:Int):=by omega
   obtain⟨g,J,T,S,F,D,y⟩:=HG.out i b4
   rw[Nat.zero_add]at y
   subst T
   have b6:wr.cell? ⟨g,i,none⟩=some (.string (bs J)):=c.out.cell ((B.out.cell (p:=⟨g,i,none⟩) S).trans F) (by simp;omega)
   have a5:g<wr.heap.size:=by omega
   have E:=zh y
   have h:Hid (wr.drew.cell? ⟨w.heap.size,1,none⟩=some (.int .i64 (a:Int))):=c.out.cell (yT W.out).2.1 (by simp)
   clear F y
   by_cases v:J∈(l.take i).map (·.1)
   ·have u:=zh v
    clear v
    go_wp2_with fail
    go_region_held (fun w'=>w'.cell? ⟨w.heap.size,1,none⟩=some (.int .i64 (a:Int))) (with_reducible (first|exact G.out.elim|exact t.out|exact h.out)) (first|(go_at_call 138;refine(kq _).mono ?_;rintro e q ⟨rfl,f⟩;have d:Hid (Below wr.heap.size wr q):=((Below.refl wr.heap.size wr).drew).trans f;have t:Hid (q.cell? ⟨w.heap.size,1,none⟩=some (.int .i64 (a:Int))):=(f.cell (p:=⟨w.heap.size,1,none⟩) (zg h.out)).trans h.out;clear f)|(go_at_call 133;refine xj (xT (x2:=0) (x3:=-1) (m.out.on (d.out.block _ (by omega))) u.out D) ?hT ?_;(case hT=>(rintro e r ⟨o,n⟩;have V:=zh (m.out.dup E.out u.out);have A:Hid (Below w.heap.size w r):=((B.out.trans (zT c.out (by omega) (by omega))).trans (d.out.mono (by omega))).trans (n.mono (by have:=d.out.size;omega));have x:=zh (o.mono (B':=w.heap.size) (by have:=d.out.size;omega));obtain⟨ab,q1,rfl,q2,q3⟩:=o.out;refine⟨rfl,A.out,?_⟩;rw[V.out];exact x.out));intro G))
    exact G.out.elim
   ·have u:=zh v
    clear v
    go_wp2_with fail
    go_region_held3 (fun w'=>w'.cell? ⟨w.heap.size,1,none⟩=some (.int .i64 (a:Int))) (with_reducible (first|exact Q.out|exact t.out|exact h.out)) (first|(go_at_call 138;refine(kq _).mono ?_;rintro e q ⟨rfl,f⟩;have d:Hid (Below wr.heap.size wr q):=((Below.refl wr.heap.size wr).drew).trans f;have t:Hid (q.cell? ⟨w.heap.size,1,none⟩=some (.int .i64 (a:Int))):=(f.cell (p:=⟨w.heap.size,1,none⟩) (zg h.out)).trans h.out;clear f)|(go_at_call 133;refine(xS (x2:=0) (x3:=-1) (m.out.on (d.out.block _ (by omega))) E.out (by omega) u.out D).mono ?_;rintro e r ⟨rfl,o,n⟩;have x:=zh o;have R:Hid (Ext (w.heap.size+1) w0 r):=(c.out.trans (Ext.below d.out)).trans n;have Q:Hid (r.cell? ⟨w.heap.size,1,none⟩=some (.int .i64 (a:Int))):=n.cell t.out (by simp);clear o n))
    go_wp2_with fail
    go_roundg (pn-(i+1))
    case measure=>omega
    case rel=>exact⟨i+1,by omega,rfl,by go_num,x,R⟩
  ·have a6:¬(i:Int)<(pn:Int):=by omega
   have b2:i=pn:=by omega
   subst b2
   have X:wr.cell? ⟨w.heap.size,4,none⟩=some (.slice z b I):=c.out.cell (yT W.out).2.2.2.2.1 (by simp)
   have a8:w.heap.size<wr.heap.size:=by omega
   have a0:Hid (TM wr (w.heap.size+1) l (i+0)):=m
   have a1:=c
   clear m c HG k3 a3 HT
   go_wp2_with fail
   go_loopg [26] b (fun k Y wr=>∃j:Nat,j<=b/\k=b-j/\Y=.int .i64 (j:Int)/\Hid (TM wr (w.heap.size+1) l (i+j))/\Hid (Ext (w.heap.size+1) w0 wr))
   case atStart=>exact⟨0,by omega,by omega,rfl,a0,a1⟩
   case round =>
    obtain⟨j,c3,c4,rfl,m,c⟩:=hrel
    have a3:=c.out.size
    clear a0 a1 X a8
    by_cases a7:j<b
    ·have a4:(j:Int)<(b:Int):=by omega
     obtain⟨g,J,T,S,F,D,y⟩:=HP.out j a7
     subst T
     have b6:wr.cell? ⟨g,j,none⟩=some (.string (bs J)):=c.out.cell ((B.out.cell (p:=⟨g,j,none⟩) S).trans F) (by simp;omega)
     have a5:g<wr.heap.size:=by omega
     have E:=zh y
     have h:Hid (wr.drew.cell? ⟨w.heap.size,1,none⟩=some (.int .i64 (a:Int))):=c.out.cell (yT W.out).2.1 (by simp)
     clear F y
     by_cases v:J∈(l.take (i+j)).map (·.1)
     ·have u:=zh v
      clear v
      go_wp2_with fail
      go_region_held (fun w'=>w'.cell? ⟨w.heap.size,1,none⟩=some (.int .i64 (a:Int))) (with_reducible (first|exact G.out.elim|exact t.out|exact h.out)) (first|(go_at_call 138;refine(kq _).mono ?_;rintro e q ⟨rfl,f⟩;have d:Hid (Below wr.heap.size wr q):=((Below.refl wr.heap.size wr).drew).trans f;have t:Hid (q.cell? ⟨w.heap.size,1,none⟩=some (.int .i64 (a:Int))):=(f.cell (p:=⟨w.heap.size,1,none⟩) (zg h.out)).trans h.out;clear f)|(go_at_call 133;refine xj (xT (x2:=0) (x3:=-1) (m.out.on (d.out.block _ (by omega))) u.out D) ?hT ?_;(case hT=>(rintro e r ⟨o,n⟩;have V:=zh (m.out.dup E.out u.out);have A:Hid (Below w.heap.size w r):=((B.out.trans (zT c.out (by omega) (by omega))).trans (d.out.mono (by omega))).trans (n.mono (by have:=d.out.size;omega));have x:=zh (o.mono (B':=w.heap.size) (by have:=d.out.size;omega));obtain⟨ab,q1,rfl,q2,q3⟩:=o.out;refine⟨rfl,A.out,?_⟩;rw[V.out];exact x.out));intro G))
      exact G.out.elim
     ·have u:=zh v
      clear v
      go_wp2_with fail
      go_region_held3 (fun w'=>w'.cell? ⟨w.heap.size,1,none⟩=some (.int .i64 (a:Int))) (with_reducible (first|exact Q.out|exact t.out|exact h.out)) (first|(go_at_call 138;refine(kq _).mono ?_;rintro e q ⟨rfl,f⟩;have d:Hid (Below wr.heap.size wr q):=((Below.refl wr.heap.size wr).drew).trans f;have t:Hid (q.cell? ⟨w.heap.size,1,none⟩=some (.int .i64 (a:Int))):=(f.cell (p:=⟨w.heap.size,1,none⟩) (zg h.out)).trans h.out;clear f)|(go_at_call 133;refine(xS (x2:=0) (x3:=-1) (m.out.on (d.out.block _ (by omega))) E.out (by omega) u.out D).mono ?_;rintro e r ⟨rfl,o,n⟩;have x:Hid (TM r (w.heap.size+1) l (i+(j+1))):=o;have R:Hid (Ext (w.heap.size+1) w0 r):=(c.out.trans (Ext.below d.out)).trans n;have Q:Hid (r.cell? ⟨w.heap.size,1,none⟩=some (.int .i64 (a:Int))):=n.cell t.out (by simp);clear o n))
      go_wp2_with fail
      go_roundg (b-(j+1))
      case measure=>omega
      case rel=>exact⟨j+1,by omega,rfl,by go_num,x,R⟩
    ·have a4:¬(j:Int)<(b:Int):=by omega
     have b3:j=b:=by omega
     subst b3
     obtain⟨f1,f2⟩:=m.out.fin (by have:=HL.out;omega)
     have a9:=zh f1
     have b0:=zh f2
     have A:Hid (Below w.heap.size w wr):=B.out.trans (zT c.out (by omega) (by omega))
     clear f1 f2 m c
     go_wp2_with fail
     go_ret
     refine⟨A.out,?_⟩
     rw[a9.out]
     exact⟨_,_,rfl,by omega,by omega,b0.out⟩
end Go.Proofs.YtbkndnmglhghlaaGreatDoor

namespace Go.Proofs.YtbkndnmglhghlaaGreatDoor
open Go.RowKit Go.Sort
open Tp (Sy)
variable {l:List Sy}{cap g n:Nat}{w:World}
def encSy (s:Sy):List Value:=[.string (bs s.1),.int .i64 (s.2.1:Int),.int .i64 s.2.2]
def sycs (l:List Sy):List Value:=(l.map encSy).flatten
def cfS (x y:Sy):Int:=Lib.compareBytes x.1 y.1
def insS (l:List Sy) (a b:Nat):List Sy:=(Sort.insertionSort (ltOf cfS) l.toArray a b).toList
def srt (l:List Sy):List Sy:=insS l 0 l.length
theorem xX (s:Sy)(l:List Sy):sycs (s :: l)=encSy s++sycs l:=rfl
theorem sycs_app (l m:List Sy):sycs (l++m)=sycs l++sycs m:=by simp[sycs]
theorem sycs_len (l:List Sy):(sycs l).length=l.length*3:=by
 induction l with
 |nil=>rfl
 |cons s l ih=>rw[xX,List.length_append,ih];simp[encSy];omega
theorem sycs_get:∀(l:List Sy) (i:Nat) (h:i<l.length) (j:Nat),j<3->(sycs l)[i*3+j]?=(encSy l[i])[j]?:=by
 intro l
 induction l with
 |nil=>intro i h;simp at h
 |cons s l ih =>
  intro i h j a
  rw[xX]
  cases i with
  |zero=>rw[Nat.zero_mul,Nat.zero_add,List.getElem?_append_left (by simpa[encSy] using a)];rfl
  |succ i =>
   rw[List.getElem?_append_right (by simp[encSy];omega)]
   have:(i+1)*3+j-(encSy s).length=i*3+j:=by simp[encSy];omega
   rw[this,ih i (by simpa using h) j a]
   rfl
theorem vE (d:Array Sy):(flatK encSy 3 d).toList=sycs d.toList:=by
 apply List.ext_getElem?
 intro t
 by_cases f:t<d.size*3
 ·have b:t / 3<d.size:=by omega
  have c:t % 3<3:=Nat.mod_lt _ (by omega)
  have e:t=(t / 3)*3+t % 3:=by omega
  have a:=sycs_get d.toList (t / 3) (by simpa using b) (t % 3) c
  rw[<-e]at a
  rw[a,Array.getElem?_toList]
  rw[flatK]
  rw[Array.getElem?_map,Array.getElem?_range]
  simp only[f,if_true,Option.map_some]
  rw[getElem!_pos d (t / 3) b]
  rw[List.getElem?_eq_getElem (by simp[encSy];omega),getElem!_pos _ _ (by simp[encSy];omega)]
  simp
 ·rw[List.getElem?_eq_none (by simp;omega),List.getElem?_eq_none (by rw[sycs_len];simp;omega)]
structure SyRow (w:World) (g:Nat) (cap:Nat) (l:List Sy):Prop where
 b:∃cur,w.heap[g]?=some (.cells cur 53 (0,0))/\cur.size=cap*3/\cur.toList.take (l.length*3)=sycs l
 n:l.length<=cap
 m:cap<=maxLen
theorem SyRow.holds (h:SyRow w g cap l):HoldsK encSy 3 w g 0 l.toArray:=by
 obtain⟨k,c,m,i⟩:=h.b
 intro j a
 have d:j<l.length*3:=by simpa using a
 refine⟨?_,zi c⟩
 rw[za c,Nat.zero_add,<-Array.getElem?_toList,<-List.getElem?_take_of_lt d,i]
 have e:=vE l.toArray
 have f:(sycs l)[j]?=(flatK encSy 3 l.toArray).toList[j]?:=by rw[e]
 rw[f,Array.getElem?_toList,Array.getElem?_eq_getElem a,getElem!_pos (flatK encSy 3 l.toArray) j a]
 rfl
theorem SyRow.sorted {d:Array Sy}{os:Array Obj}(h:SyRow w g cap l)(u:d.size=l.length):SyRow (sortWorldK encSy 3 w g 0 n d os) g cap d.toList/\w.grownBy (sortWorldK encSy 3 w g 0 n d os) (some g):=by
 obtain⟨f,i,o,v⟩:=h.b
 have s:=zc i
 have x:=h.n
 have r:(flatK encSy 3 d).size=d.size*3:=size_flatK _ _ _
 refine⟨⟨⟨putCells id 0 (flatK encSy 3 d) f,?_,by simp[putCells,o],?_⟩,by simpa[u] using h.n,h.m⟩,⟨rfl,rfl,rfl,by simp[sortWorldK,putRowK],fun k t q=>?_⟩⟩
 ·unfold sortWorldK putRowK
  rw[heap_grow_old _ _ (by simpa using s)]
  simp[putRow,mapBlock,Sort.ahead,Array.getElem?_modify,i,onCells]
 ·rw[<-vE]
  apply List.ext_getElem?
  intro j
  by_cases a:j<d.toList.length*3
  ·have c:j<(flatK encSy 3 d).size:=by rw[r];simpa using a
   have p:j<f.size:=by rw[o];simp at a;omega
   rw[List.getElem?_take_of_lt a,Array.getElem?_toList,Array.getElem?_toList,Array.getElem?_eq_getElem c]
   simp only[putCells,Array.getElem?_mapIdx,Array.getElem?_eq_getElem p,Option.map_some,Nat.zero_le,true_and,Nat.zero_add,if_pos c,Nat.sub_zero,id]
   rw[getElem!_pos (flatK encSy 3 d) j c]
  ·rw[List.getElem?_take_eq_none (by omega),List.getElem?_eq_none (by simp at a ⊢;omega)]
 ·unfold sortWorldK putRowK
  rw[heap_grow_old _ _ (by simpa using t)]
  have:g≠k:=fun e=>q (by rw[e])
  simp[putRow,mapBlock,Sort.ahead,Array.getElem?_modify,this]
theorem ofCmp_post (x y:Sy)(W:World):Calls Tryz.prog 140 #[.agg (encSy x).toArray,.agg (encSy y).toArray] W fun e w'=>e=.returned (.int .i64 (cfS x y))/\∃q os',w'=grow (W.drewN q) os':=by
 have a:∀W,Calls Tryz.prog 141 #[.string (bs x.1),.string (bs y.1)] W fun e w'=>e=.returned (.int .i64 (cfS x y))/\w'=W:=by
  intro W
  have:=Any.strings_Compare Tryz.laysCmp (bs x.1) (bs y.1) W
  rw[bs_back,bs_back]at this
  exact this
 generalize cfS x y=r at a ⊢
 have b:=zh a
 clear a
 unfold encSy
 go_enter Tryz.func140,Tryz.ntmps140
 go_wp2_with (go_at_call 141;refine(b.out _).mono ?_;rintro e w' ⟨rfl,rfl⟩)
 go_ret
 exact⟨rfl,0,_,by rw[alloc_eq_grow,alloc_eq_grow,grow_grow];rfl⟩
theorem xE {b:Sy->Sy->Bool}(a:Nat):∀(j:Nat) (d:Array Sy),(Sort.insInner b a j d).size=d.size:=by
 intro j
 induction j with
 |zero=>intro d;rfl
 |succ j ih =>
  intro d
  rw[Sort.insInner]
  split
  ·rw[ih];simp[swp]
  ·rfl
theorem xD {c:Sy->Sy->Bool}(a b:Nat):∀(k i:Nat) (d:Array Sy),b-i=k->(Sort.insOuter c a b i d).size=d.size:=by
 intro k
 induction k with
 |zero=>intro i d h;rw[Sort.insOuter,if_neg (by omega)]
 |succ k ih =>
  intro i d h
  rw[Sort.insOuter]
  split
  ·rw[ih (i+1) _ (by omega),xE]
  ·rfl
theorem insS_len (l:List Sy)(a b:Nat):(insS l a b).length=l.length:=by
 unfold insS Sort.insertionSort
 rw[Array.length_toList,xD a b _ _ _ rfl]
 simp
theorem insS_none (l:List Sy)(a:Nat):insS l a a=l:=by
 unfold insS Sort.insertionSort
 rw[Sort.insOuter,if_neg (by omega)]
theorem j6 (l:List Sy):(srt l).length=l.length:=insS_len _ _ _
theorem cmpLays (a b size:Nat)(w:World):CmpLays Tryz.prog 140 #[] encSy 3 cfS a b size w:=fun _ _ _ _ x y=>ofCmp_post x y _
def fnCmp:Value:=.func (.func 140) #[] #[]
theorem xC (h:SyRow w g cap l)(a b:Nat)(j:a<=b)(o:b<=l.length)(r:l.length<=1000) :
  Calls Tryz.prog 183 #[.slice (some ⟨g,0,none⟩) l.length cap,.int .i64 (a:Int),.int .i64 (b:Int),fnCmp] w fun e w'=>e=.returned (.tuple #[])/\SyRow w' g cap (insS l a b)/\w.grownBy w' (some g):=by
 have k:∀args w,(callFunc 140 args).run Tryz.prog w=.ok (.enter 140 args) w:=enters_of Tryz.func140 (by kernel_rfl) rfl
 have p:g<w.heap.size:=by obtain⟨q,m,_⟩:=h.b;exact zc m
 have c:=AnyQ.insertionSortCmpFunc Tryz.laysIns 3 Tryz.isAgg53 Tryz.sizeOf53 encSy (fun _=>rfl) (fun x v i=>by simp[encSy]at i;rcases i with rfl|rfl|rfl<;>rfl) cfS 140 #[] g 0 cap a b l.toArray w k (cmpLays _ _ _ _) h.holds p j (by simpa using o) (by simp;omega)
 have e:(l.toArray).size=l.length:=by simp
 rw[e]at c
 refine c.mono ?_
 rintro e w'⟨rfl,n,os,rfl⟩
 have f:=h.sorted (d:=Sort.insertionSort (ltOf cfS) l.toArray a b) (n:=n) (os:=os) (by rw[<-Array.length_toList];exact insS_len l a b)
 exact⟨rfl,f.1,f.2⟩
theorem ve (h:SyRow w g cap l)(i:l.length<20) :
  Calls Tryz.prog 166 #[.slice (some ⟨g,0,none⟩) l.length cap,.int .i64 (l.length:Int),fnCmp] w fun e w'=>e=.returned (.tuple #[])/\SyRow w' g cap (srt l)/\w.grownBy w' (some g):=by
 have c:=xC h 0 l.length (by omega) zn (by omega)
 have a:Hid (Calls Tryz.prog 183 #[.slice (some ⟨g,0,none⟩) l.length cap,.int .i64 0,.int .i64 (l.length:Int),fnCmp] w fun e w'=>e=.returned (.tuple #[])/\SyRow w' g cap (srt l)/\w.grownBy w' (some g)):=c
 have f:(l.length:Int)<20:=by omega
 clear c h
 generalize l.length=n at *
 unfold fnCmp at a ⊢
 go_enter Tryz.func166,Tryz.ntmps166
 go_wp2_with fail
 refine wp_loop_rounds 1 ?_
 rw[rounds_succ]
 go_wp2_with fail
 refine a.out.mono ?_
 rintro e j⟨rfl,b⟩
 have d:=zh b
 clear b
 go_wp2_with fail
 refine wp_loop_rounds 1 ?_
 rw[rounds_succ]
 go_wp2_with fail
 go_end0
 exact⟨rfl,d.out⟩
theorem stable_20 (h:SyRow w g cap l)(b:l.length=20) :
  Calls Tryz.prog 166 #[.slice (some ⟨g,0,none⟩) 20 cap,.int .i64 20,fnCmp] w fun e w'=>e=.returned (.tuple #[])/\SyRow w' g cap (srt l)/\w.grownBy w' (some g):=by
 have a:=xC h 0 20 (by omega) (by omega) (by omega)
 have r:insS l 0 20=srt l:=by unfold srt;rw[b]
 rw[b,r]at a
 have j:Hid (Calls Tryz.prog 183 #[.slice (some ⟨g,0,none⟩) 20 cap,.int .i64 0,.int .i64 20,fnCmp] w fun e w'=>e=.returned (.tuple #[])/\SyRow w' g cap (srt l)/\w.grownBy w' (some g)):=a
 have i:∀W,SyRow W g cap (srt l)->Calls Tryz.prog 183 #[.slice (some ⟨g,0,none⟩) 20 cap,.int .i64 20,.int .i64 20,fnCmp] W fun e w'=>e=.returned (.tuple #[])/\SyRow w' g cap (srt l)/\W.grownBy w' (some g):=by
  intro W s
  have:=xC s 20 20 (by omega) (by rw[j6];omega) (by rw[j6];omega)
  rw[insS_none,j6,b]at this
  exact this
 have c:=zh i
 clear a i h
 unfold fnCmp at j c ⊢
 go_enter Tryz.func166,Tryz.ntmps166
 go_wp2_with fail
 refine wp_loop_rounds 2 ?_
 rw[rounds_succ]
 go_wp2_with fail
 refine j.out.mono ?_
 rintro e t⟨rfl,k,d⟩
 have p:=zh k
 have n:=zh d
 clear k d
 go_wp2_with fail
 rw[rounds_succ]
 go_wp2_with fail
 refine(c.out t p.out).mono ?_
 rintro e u⟨rfl,m,f⟩
 have q:=zh m
 have o:=zh (n.out.trans f)
 clear m f
 go_wp2_with fail
 refine wp_loop_rounds 1 ?_
 rw[rounds_succ]
 go_wp2_with fail
 go_end0
 exact⟨rfl,q.out,o.out⟩
theorem ins_nil (w:World):Calls Tryz.prog 183 #[.slice none 0 0,.int .i64 0,.int .i64 0,fnCmp] w fun e w'=>e=.returned (.tuple #[])/\w'=w:=by
 unfold fnCmp
 go_enter Tryz.func183,Tryz.ntmps183
 go_wp2_with fail
 refine wp_loop_rounds 1 ?_
 rw[rounds_succ]
 go_wp2_with fail
 go_end0
 exact⟨rfl,rfl⟩
theorem stable_nil (w:World):Calls Tryz.prog 166 #[.slice none 0 0,.int .i64 0,fnCmp] w fun e w'=>e=.returned (.tuple #[])/\w'=w:=by
 have a:=zh (ins_nil w)
 unfold fnCmp at a ⊢
 go_enter Tryz.func166,Tryz.ntmps166
 go_wp2_with fail
 refine wp_loop_rounds 1 ?_
 rw[rounds_succ]
 go_wp2_with fail
 refine a.out.mono ?_
 rintro e b⟨rfl,rfl⟩
 go_wp2_with fail
 refine wp_loop_rounds 1 ?_
 rw[rounds_succ]
 go_wp2_with fail
 go_end0
 exact⟨rfl,rfl⟩
theorem sort_post (h:SyRow w g cap l)(i:l.length<=20) :
  Calls Tryz.prog 139 #[.slice (some ⟨g,0,none⟩) l.length cap,fnCmp] w fun e w'=>e=.returned (.tuple #[])/\SyRow w' g cap (srt l)/\w.grownBy w' (some g):=by
 have c:Calls Tryz.prog 166 #[.slice (some ⟨g,0,none⟩) l.length cap,.int .i64 (l.length:Int),fnCmp] w fun e w'=>e=.returned (.tuple #[])/\SyRow w' g cap (srt l)/\w.grownBy w' (some g):=by
  by_cases d:l.length<20
  ·exact ve h d
  ·have e:l.length=20:=by omega
   have:=stable_20 h e
   rw[e]
   exact this
 have a:=zh c
 clear c h
 generalize l.length=n at *
 unfold fnCmp at a ⊢
 go_enter Tryz.func139,Tryz.ntmps139
 go_wp2_with fail
 refine a.out.mono ?_
 rintro e j⟨rfl,b⟩
 have f:=zh b
 clear b
 go_wp2_with fail
 go_end0
 exact⟨rfl,f.out⟩
theorem sort_nil (w:World):Calls Tryz.prog 139 #[.slice none 0 0,fnCmp] w fun e w'=>e=.returned (.tuple #[])/\w'=w:=by
 have a:=zh (stable_nil w)
 unfold fnCmp at a ⊢
 go_enter Tryz.func139,Tryz.ntmps139
 go_wp2_with fail
 refine a.out.mono ?_
 rintro e b⟨rfl,rfl⟩
 go_wp2_with fail
 go_end0
 exact⟨rfl,rfl⟩
theorem Tryz.infoSym:(Tryz.prog.info? 53).map (fun i=>(i.zero,i.size,i.bytes))=some (some (.agg #[.string ⟨#[]⟩,.int .i64 0,.int .i64 0]),3,32):=by kernel_rfl
def AskOG (w:World) (gn:Nat) (ga:Option Addr) (xs:Nat->List Sy):Prop :=
 ∀i,i<gn->∃(g:Nat) (x0:List UInt8) (x1 x2:Nat) (x3:Bool),ga=some ⟨g,0,none⟩/\g<w.heap.size/\w.cell? ⟨g,i*4,none⟩=some (.string (bs x0))/\w.cell? ⟨g,i*4+1,none⟩=some (.int .i64 (x1:Int))/\w.cell? ⟨g,i*4+2,none⟩=some (.int .i64 (x2:Int))/\w.cell? ⟨g,i*4+3,none⟩=some (.bool x3) /\
  xs (i+1)=xs i++(if x3 then [(x0,x2,-1)] else [])
def AskOP (w:World) (pn:Nat) (pa:Option Addr) (xs:Nat->List Sy):Prop :=
 ∀i,i<pn->∃(g:Nat) (x0:List UInt8) (x1:Nat) (x2:Bool) (y3 y4 y5:Option Addr) (n3 n4 n5 c3 c4 c5:Nat),pa=some ⟨g,0,none⟩/\g<w.heap.size/\w.cell? ⟨g,i*6,none⟩=some (.string (bs x0))/\w.cell? ⟨g,i*6+1,none⟩=some (.int .i64 (x1:Int))/\w.cell? ⟨g,i*6+2,none⟩=some (.bool x2)/\w.cell? ⟨g,i*6+3,none⟩=some (.slice y3 n3 c3)/\w.cell? ⟨g,i*6+4,none⟩=some (.slice y4 n4 c4)/\w.cell? ⟨g,i*6+5,none⟩=some (.slice y5 n5 c5) /\
  xs (i+1)=xs i++(if x2 then [(x0,0,(n3:Int))] else [])
def SL (w:World) (B:Nat) (v:Value) (l:List Sy):Prop:=v=.slice none 0 0/\l=[]\/∃g cap,v=.slice (some ⟨g,0,none⟩) l.length cap/\B<=g/\SyRow w g cap l
theorem own_syrow {a:Nat}{v:Value}(h:w.ownsRow a 53 3 v n (sycs l)):n=l.length/\SL w a v l:=by
 have b:n=l.length:=by have:=h.1;rw[sycs_len]at this;omega
 refine⟨b,?_⟩
 rcases h.2 with⟨rfl,c⟩|⟨g,cap,cur,rfl,q1,q2,q3,q4,q5,q6⟩
 ·exact Or.inl ⟨rfl,List.eq_nil_of_length_eq_zero (by omega)⟩
 ·subst b
  exact Or.inr ⟨g,cap,rfl,q1,⟨⟨cur,q2,q5,q6⟩,q3,q4⟩⟩
theorem newsSy (w:World)(o:Obj)(a b c:Value)(t:TypeId):∀(j:Nat) (u:Value),([a,b,c]:List Value)[j]?=some u->((w.alloc o).alloc (.cells #[a,b,c] t)).cell? ((⟨w.heap.size+1,0,none⟩:Addr).add j)=some u:=by
 intro j u d
 rw[Addr.add_lit,za (new_blk1 _ _ _),Nat.zero_add]
 simpa using d
end Go.Proofs.YtbkndnmglhghlaaGreatDoor
