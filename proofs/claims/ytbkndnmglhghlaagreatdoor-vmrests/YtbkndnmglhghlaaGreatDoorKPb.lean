import Derived.Test.YtbkndnmglhghlaaGreatDoorKPa
import Derived.KernelRfl
set_option maxRecDepth 100000
set_option maxHeartbeats 4000000

namespace Tp
variable {l n:Bs}{b:Int}{a r:List Tok}{m:M}{f:Nat}{α:Type}{p:UInt8->Bool}
def ev (v:List X):Prop:=WX v/\v.length=1/\DX v<=10
def WS:List S->Prop
 |[]=>True
 | ⟨code,_,nm,ix,v,th,el⟩ :: ss =>
  (code=1/\okn nm/\(ix=[]\/WX ix/\ix.length=1/\1+DX ix<=10)/\ev v/\th=[]/\el=[] \/
  code=2/\nm=[]/\ix=[]/\ev v/\WS th/\WS el \/
  code=3/\nm=[]/\ix=[]/\ev v/\WS th/\el=[] \/
  (code=4\/code=5)/\nm=[]/\ix=[]/\ev v/\th=[]/\el=[] \/
  code=6/\nm=[]/\ix=[]/\ev v/\codeOf v=6/\th=[]/\el=[])/\WS ss
def DS:List S->Nat
 |[]=>0
 | ⟨code,_,_,_,_,th,el⟩ :: ss=>max (if code=2\/code=3 then 1+max (DS th) (DS el) else 0) (DS ss)
def NS:List S->Nat
 |[]=>0
 | ⟨code,_,_,ix,v,th,el⟩ :: ss =>
  (if code=1 then 3+(if ix.isEmpty then 0 else 2+NX ix)+NX v else if code=2 then 4+NX v+NS th+(if el.isEmpty then 0 else 1+NS el) else if code=3 then 4+NX v+NS th else if code=6 then 1+NX v else 2+NX v)+NS ss
theorem kI:WS []:=by rw[WS];trivial
theorem WS_app:∀(l m:List S),WS l->WS m->WS (l++m):=by
 intro l
 induction l with
 |nil=>intro m _ h;exact h
 |cons x xs ih=>intro m h k;obtain⟨⟩:=x;rw[List.cons_append,WS];rw[WS]at h;exact⟨h.1,ih m h.2 k⟩
theorem DS_app:∀(l m:List S),DS (l++m)=max (DS l) (DS m):=by
 intro l
 induction l with
 |nil=>intro m;simp[DS]
 |cons x xs ih=>intro m;obtain⟨⟩:=x;rw[List.cons_append,DS,DS,ih];omega
theorem NS_app:∀(l m:List S),NS (l++m)=NS l+NS m:=by
 intro l
 induction l with
 |nil=>intro m;simp[NS]
 |cons x xs ih=>intro m;obtain⟨⟩:=x;rw[List.cons_append,NS,NS,ih];omega
theorem DS1 (s:S):DS [s]=if s.code=2\/s.code=3 then 1+max (DS s.thn) (DS s.els) else 0:=by
 obtain⟨⟩:=s;rw[DS,DS];simp
theorem NS1 (s:S):NS [s]=if s.code=1 then 3+(if s.index.isEmpty then 0 else 2+NX s.index)+NX s.value else if s.code=2 then 4+NX s.value+NS s.thn+(if s.els.isEmpty then 0 else 1+NS s.els) else if s.code=3 then 4+NX s.value+NS s.thn else if s.code=6 then 1+NX s.value else 2+NX s.value:=by
 obtain⟨⟩:=s;rw[NS,NS];simp
structure Ry (k b:Nat) (l:List S) (r r':List Tok):Prop where
 ws:WS l
 one:2<=k->l.length=1
 ds:b+DS l<=10
 ns:k<=2->NS l+wt r'<=wt r
 n3:k=3->NS l+wt r'+(tx r).length<=wt r+3
theorem ex0_ev {x:List X}(b:Tks r)(h:ex f 0 0 0 [] r=.ok (x,a)):ev x/\NX x+wt a<=wt r/\a <:+ r:=by
 obtain⟨q,_⟩:=ex_rx f 0 0 0 [] r x a b (by omega) (by omega) (by omega) h
 have c:=q.dx (by omega)
 have d:=q.nx (by omega) (by omega)
 exact⟨⟨q.wx,q.one (by omega),by omega⟩,by omega,(yY f _ _ _ _ _ _ _ b.gd h).1⟩
theorem zG {s:Bs}(b:Tks r)(h:want s r=.ok a):wt a+s.length=wt r/\Tks a:=by
 obtain⟨rfl,c⟩:=xr b h
 exact⟨c,b.suf (zC r)⟩
theorem sx_ry (f:Nat):∀k b r l L,Tks r->k<=3->(k≠0->b<=10)->(k=3->tx r≠[])->sx f k b r=.ok (l,L)->Ry k b l r L:=by
 induction f with
 |zero=>intro k b r l L _ _ _ _ h;rw[sx]at h;cases h
 |succ f ih =>
  intro k b r l L i hk hb h3 h
  have J:=i.suf (zC r)
  have w0:=yn i
  rw[sx]at h
  split at h
  ·rename_i X
   split at h
   ·cases h
   ·have q:=ih 1 b r l L i (by omega) (by omega) (by omega) h
    exact⟨q.ws,fun e=>by omega,q.ds,fun _=>q.ns (by omega),fun e=>by omega⟩
  ·rename_i X
   have a2:=hb X
   split at h
   ·rename_i e1
    split at h
    ·cases h
     exact⟨kI,fun e=>by omega,by simp[DS];omega,fun _=>by simp[NS],fun e=>by omega⟩
    ·obtain⟨⟨s,C⟩,a,c⟩:=zs h
     have q:=ih 2 b r s C i (by omega) (by omega) (by omega) a
     have K:=i.suf (xt f _ _ _ _ _ i.gd a).1
     obtain⟨⟨l2,D⟩,a1,h4⟩:=zs c
     have u:=ih 1 b C l2 D K (by omega) (by omega) (by omega) a1
     have E:=q.ns (by omega)
     have u1:=u.ns (by omega)
     have q2:=q.ds
     have u2:=u.ds
     cases h4
     exact⟨WS_app _ _ q.ws u.ws,fun e=>by omega,by simp only[DS_app];omega,fun _=>by simp only[NS_app];omega,fun e=>by omega⟩
   ·rename_i e1
    split at h
    ·rename_i Y
     subst Y
     split at h
     ·rename_i j
      have hl:1<=(tx r).length:=by rcases j with j|j<;>rw[j]<;>decide
      obtain⟨⟨x,C⟩,a,c⟩:=zs h
      obtain⟨I,x2,x3⟩:=ex0_ev J a
      obtain⟨D,p,t⟩:=zs c
      obtain⟨w,_⟩:=zG (J.suf x3) p
      simp[mSemi]at w
      cases t
      have v:(if tx r=wReturn then 4 else 5)=4\/(if tx r=wReturn then 4 else 5)=5:=by split<;>simp
      refine⟨?_,fun _=>rfl,?_,fun _=>?_,fun e=>by omega⟩
      ·rw[WS];exact⟨Or.inr (Or.inr (Or.inr (Or.inl ⟨v,rfl,rfl,I,rfl,rfl⟩))),kI⟩
      ·rw[DS1];simp only;rw[if_neg (by rcases v with e|e<;>rw[e]<;>decide)];omega
      ·rw[NS1];simp only;rw[if_neg (by rcases v with e|e<;>rw[e]<;>decide),if_neg (by rcases v with e|e<;>rw[e]<;>decide),if_neg (by rcases v with e|e<;>rw[e]<;>decide),if_neg (by rcases v with e|e<;>rw[e]<;>decide)];omega
     ·split at h
      ·rename_i j
       rw[j]at w0
       simp[wWhile]at w0
       obtain⟨⟨x,C⟩,a,c⟩:=zs h
       obtain⟨I,x2,x3⟩:=ex0_ev J a
       obtain⟨D,p,t⟩:=zs c
       obtain⟨w,d⟩:=zG (J.suf x3) p
       simp[wDo]at w
       obtain⟨⟨T,F⟩,B,g⟩:=zs t
       have q:=ih 0 (b+1) D T F d (by omega) (by omega) (by omega) B
       have E:=q.ns (by omega)
       have q2:=q.ds
       obtain⟨M,H,G⟩:=zs g
       obtain⟨V,T4⟩:=zG (d.suf (xt f _ _ _ _ _ d.gd B).1) H
       simp[wEnd]at V
       obtain⟨r5,a0,A⟩:=zs G
       obtain⟨w5,_⟩:=zG T4 a0
       simp[mSemi]at w5
       cases A
       refine⟨?_,fun _=>rfl,?_,fun _=>?_,fun e=>by omega⟩
       ·rw[WS];exact⟨Or.inr (Or.inr (Or.inl ⟨rfl,rfl,rfl,I,q.ws,rfl⟩)),kI⟩
       ·rw[DS1];simp[DS];omega
       ·rw[NS1];simp;omega
      ·split at h
       ·rename_i j
        obtain⟨⟨s,C⟩,a,c⟩:=zs h
        have q:=ih 3 b r s C i (by omega) (by omega) (by intro _;rw[j];decide) a
        have E:=q.n3 rfl
        rw[j]at E
        simp[wIf]at E
        have K:=i.suf (xt f _ _ _ _ _ i.gd a).1
        obtain⟨D,p,t⟩:=zs c
        obtain⟨w,d⟩:=zG K p
        simp[wEnd]at w
        obtain⟨F,B,g⟩:=zs t
        obtain⟨O,_⟩:=zG d B
        simp[mSemi]at O
        cases g
        exact⟨q.ws,fun _=>q.one (by omega),q.ds,fun _=>by omega,fun e=>by omega⟩
       ·obtain⟨⟨x,C⟩,a,c⟩:=zs h
        obtain⟨q,_⟩:=ex_rx f 6 0 0 [] r x C i (by omega) (by omega) (by omega) a
        have K:=i.suf (yY f _ _ _ _ _ _ _ i.gd a).1
        have E:=q.one (by omega)
        have q4:=q.dx (by omega)
        have U:=q.nx (by omega) (by omega)
        simp only at c
        split at c
        ·rename_i v
         obtain⟨D,p,t⟩:=zs c
         obtain⟨w,_⟩:=zG K p
         simp[mSemi]at w
         cases t
         refine⟨?_,fun _=>rfl,?_,fun _=>?_,fun e=>by omega⟩
         ·rw[WS];exact⟨Or.inr (Or.inr (Or.inr (Or.inr ⟨rfl,rfl,rfl,⟨q.wx,E,by omega⟩,v,rfl,rfl⟩))),kI⟩
         ·rw[DS1];simp;omega
         ·rw[NS1];simp;omega
        ·rename_i v
         split at c
         ·rename_i j
          obtain⟨D,p,t⟩:=zs c
          obtain⟨w,d⟩:=zG K p
          simp[mSet]at w
          obtain⟨⟨y,F⟩,B,g⟩:=zs t
          obtain⟨y1,y2,y3⟩:=ex0_ev d B
          obtain⟨M,H,G⟩:=zs g
          obtain⟨V,_⟩:=zG (d.suf y3) H
          simp[mSemi]at V
          cases G
          obtain⟨z,rfl⟩:=len1 E
          have W:=q.wx
          obtain⟨code,pos,n,m,nm,op,le,ri,ar⟩:=z
          rw[DX1]at q4
          rw[NX1]at U
          rw[WX]at W
          simp only[codeOf,modOf]at v j
          subst j
          have Q:code≠1/\code≠4/\code≠5:=by
           cases f with
           |zero=>rw[ex]at a;cases a
           |succ f =>
            rw[ex6]at a
            obtain⟨⟨⟨m',n'⟩,r5⟩,_,A⟩:=zs a
            simp only[behind]at A
            split at A
            ·obtain⟨_,_,o⟩:=zs A
             obtain⟨_,_,P⟩:=zs o
             cases P;simp
            ·split at A
             ·split at A
              ·cases A;simp
              ·obtain⟨_,_,o⟩:=zs A
               obtain⟨_,_,P⟩:=zs o
               cases P;simp
             ·cases A;simp
          rcases W.1 with⟨rfl,o⟩|⟨rfl,o⟩|⟨rfl,o⟩|⟨rfl,o⟩|⟨rfl,o⟩|⟨rfl,o⟩
          ·exact absurd rfl Q.1
          ·obtain⟨_,S,_,rfl,_⟩:=o
           simp[rN]at U
           refine⟨?_,fun _=>rfl,?_,fun _=>?_,fun e=>by omega⟩
           ·rw[WS];exact⟨Or.inl ⟨rfl,S.2,Or.inl rfl,y1,rfl,rfl⟩,kI⟩
           ·rw[DS1];simp;omega
           ·rw[NS1];simp[leftOf];omega
          ·obtain⟨_,S,_,g2,Z,_⟩:=o
           simp[rN]at q4 U
           refine⟨?_,fun _=>rfl,?_,fun _=>?_,fun e=>by omega⟩
           ·rw[WS];exact⟨Or.inl ⟨rfl,S.2,Or.inr ⟨g2,Z,by simp only[leftOf];omega⟩,y1,rfl,rfl⟩,kI⟩
           ·rw[DS1];simp;omega
           ·have:le.isEmpty=false:=by obtain⟨z,rfl⟩:=len1 Z;rfl
            rw[NS1];simp[leftOf,this];omega
          ·exact absurd rfl Q.2.1
          ·exact absurd rfl Q.2.2
          ·exact absurd rfl v
         ·cases c
    ·rename_i Y
     have e3:k=3:=by omega
     subst e3
     obtain⟨⟨x,C⟩,a,c⟩:=zs h
     obtain⟨I,x2,x3⟩:=ex0_ev J a
     obtain⟨D,p,t⟩:=zs c
     obtain⟨w,d⟩:=zG (J.suf x3) p
     simp[wThen]at w
     obtain⟨⟨T,F⟩,B,g⟩:=zs t
     have q:=ih 0 (b+1) D T F d (by omega) (by omega) (by omega) B
     have E:=q.ns (by omega)
     have q2:=q.ds
     have R:=d.suf (xt f _ _ _ _ _ d.gd B).1
     have O:=yn R
     simp only at g
     split at g
     ·rename_i N
      obtain⟨⟨e,M⟩,H,G⟩:=zs g
      have u:=ih 3 (b+1) F e M R (by omega) (by omega) (by intro _;rw[N];decide) H
      have u1:=u.n3 rfl
      rw[N]at u1
      simp[wElsif]at u1
      have u2:=u.ds
      have u3:=u.one (by omega)
      have ue:e.isEmpty=false:=by obtain⟨z,rfl⟩:=len1 u3;rfl
      cases G
      refine⟨?_,fun _=>rfl,?_,fun e=>by omega,fun _=>?_⟩
      ·rw[WS];exact⟨Or.inr (Or.inl ⟨rfl,rfl,rfl,I,q.ws,u.ws⟩),kI⟩
      ·rw[DS1];simp;omega
      ·rw[NS1];simp[ue];omega
     ·split at g
      ·rename_i N
       rw[N]at O
       simp[wElse]at O
       obtain⟨⟨e,M⟩,H,G⟩:=zs g
       have u:=ih 0 (b+1) (stp F) e M (R.suf (zC F)) (by omega) (by omega) (by omega) H
       have u1:=u.ns (by omega)
       have u2:=u.ds
       cases G
       refine⟨?_,fun _=>rfl,?_,fun e=>by omega,fun _=>?_⟩
       ·rw[WS];exact⟨Or.inr (Or.inl ⟨rfl,rfl,rfl,I,q.ws,u.ws⟩),kI⟩
       ·rw[DS1];simp;omega
       ·rw[NS1];simp;split<;>omega
      ·cases g
       refine⟨?_,fun _=>rfl,?_,fun e=>by omega,fun _=>?_⟩
       ·rw[WS];exact⟨Or.inr (Or.inl ⟨rfl,rfl,rfl,I,q.ws,kI⟩),kI⟩
       ·rw[DS1];simp[DS];omega
       ·rw[NS1];simp;omega
def okns (l:List Bs):Prop:=∀n,n∈l->okn n
structure WG (g:G):Prop where
 n:okn g.name
 l:g.len<=30
structure WP (p:Pr):Prop where
 n:okn p.name
 ps:okns p.params
 vs:okns p.vars
 c:p.params.length+p.vars.length<=10
 b:WS p.body
 d:DS p.body<=10
structure WM (m:M):Prop where
 n:okn m.name
 i:okns m.imports
 ic:m.imports.length<=6
 g:∀g,g∈m.vars->WG g
 gc:m.vars.length<=10
 p:∀p,p∈m.procs->WP p
 pc:m.procs.length<=10
 b:WS m.body
 d:DS m.body<=10
def nN (l:List Bs):Nat:=2*l.length-1
def b2 (b:Bool):Nat:=if b then 1 else 0
def nG (g:G):Nat:=4+b2 g.seen+(if g.len=0 then 1 else 2)
def nP (p:Pr):Nat:=2+b2 p.seen+3+nN p.params+(if p.vars=[] then 0 else 2+nN p.vars)+1+NS p.body+2
def nM (m:M):Nat:=3+(if m.imports=[] then 0 else 2+nN m.imports)+(m.vars.map nG).sum+(m.procs.map nP).sum+1+NS m.body+2
theorem j8 (f:Nat):∀c most r l b,Tks r->names f c most r=.ok (l,b)->okns l/\1<=l.length/\c+l.length<=most/\nN l+wt b<=wt r/\Tks b:=by
 induction f with
 |zero=>intro c most r l b _ h;cases h
 |succ f ih =>
  intro c most r l b i h
  rw[names]at h
  split at h
  ·cases h
  ·obtain⟨⟨n,y⟩,q,d⟩:=zs h
   obtain⟨g,rfl,v⟩:=ku i q
   have e:=i.suf (zC r)
   have j:=yn e
   simp only at d
   split at d
   ·rename_i u
    rw[u]at j
    simp[mComma]at j
    obtain⟨⟨x,z⟩,s,t⟩:=zs d
    obtain⟨k,b2,w,o,p⟩:=ih _ _ _ _ _ (e.suf (zC _)) s
    cases t
    refine⟨?_,by simp,by simp;omega,?_,p⟩
    ·intro m a
     rcases List.mem_cons.mp a with rfl|a
     ·exact g
     ·exact k m a
    ·unfold nN at o ⊢;simp;omega
   ·cases d
    exact⟨by intro m a;rw[List.mem_singleton]at a;subst a;exact g,by simp,by simp;omega,by unfold nN;simp;omega,e⟩
theorem star_wt (a:Tks r):wt (if tx r=mStar then stp r else r)+b2 (tx r==mStar)=wt r/\Tks (if tx r=mStar then stp r else r):=by
 have b:=yn a
 by_cases h:tx r=mStar
 ·rw[if_pos h]
  rw[h]at b
  simp[mStar]at b
  exact⟨by rw[h];simp[b2];omega,a.suf (zC r)⟩
 ·rw[if_neg h]
  have:(tx r==mStar)=false:=by simpa using h
  exact⟨by rw[this];simp[b2],a⟩
theorem global_wg {i:List Tok}{g:G}(p:Tks r)(h:global r=.ok (g,i)):WG g/\nG g+wt i<=wt r+1/\Tks i:=by
 unfold global at h
 obtain⟨⟨n,J⟩,x,y⟩:=zs h
 obtain⟨m,rfl,F⟩:=ku p x
 have u:=p.suf (zC r)
 obtain⟨s1,s2⟩:=star_wt u
 obtain⟨K,o,b⟩:=zs y
 try simp only at o
 obtain⟨D,d⟩:=zG s2 o
 simp[mColon]at D
 have l:=yn d
 simp only at b
 split at b
 ·rename_i B
  rw[B]at l
  simp[wInt]at l
  obtain⟨q,e,f⟩:=zs b
  obtain⟨j,a⟩:=zG (d.suf (zC _)) e
  simp[mSemi]at j
  cases f
  refine⟨⟨m,by simp⟩,?_,a⟩
  simp only[nG,if_true];omega
 ·obtain⟨q,e,f⟩:=zs b
  obtain⟨j,a⟩:=zG d e
  simp[wArray]at j
  obtain⟨⟨k,L⟩,z,c⟩:=zs f
  obtain⟨H,I,C,rfl⟩:=jg z
  have v:=a.suf (zC q)
  have N:=yn a
  simp only at c
  split at c
  ·cases c
  ·rename_i t
   obtain⟨M,A,s⟩:=zs c
   obtain⟨E,w⟩:=zG v A
   simp[mSemi]at E
   cases s
   refine⟨⟨m,C⟩,?_,w⟩
   simp only[nG];rw[if_neg t];omega
theorem globals_wg (f:Nat):∀a r l b,Tks r->a<=10->globals f a r=.ok (l,b)->(∀g,g∈l->WG g)/\a+l.length<=10/\(l.map nG).sum+wt b<=wt r/\Tks b:=by
 induction f with
 |zero=>intro a r l b _ _ h;cases h
 |succ f ih =>
  intro a r l b c t h
  have e:=yn c
  rw[globals]at h
  split at h
  ·rename_i u
   rw[u]at e
   simp[wVar]at e
   split at h
   ·cases h
   ·rename_i v
    obtain⟨⟨g,A⟩,n,o⟩:=zs h
    obtain⟨j,w,i⟩:=global_wg (c.suf (zC r)) n
    obtain⟨⟨z,B⟩,p,q⟩:=zs o
    obtain⟨k,b2,y,m⟩:=ih _ _ _ _ i (by omega) p
    cases q
    refine⟨?_,by simp;omega,by simp;omega,m⟩
    intro x d
    rcases List.mem_cons.mp d with rfl|d
    ·exact j
    ·exact k x d
  ·cases h
   exact⟨fun g s=>absurd s List.not_mem_nil,by simpa using t,by simp,c⟩
theorem proc_wp {o:List Tok}{p:Pr}(hT:Tks r)(h:proc f r=.ok (p,o)):WP p/\nP p+wt o<=wt r/\Tks o:=by
 unfold proc at h
 obtain⟨r1,Y,Z⟩:=zs h
 obtain⟨w1,u⟩:=zG hT Y
 simp[wProc]at w1
 obtain⟨⟨n,r2⟩,h3,h4⟩:=zs Z
 obtain⟨T,rfl,a2⟩:=ku u h3
 have P:=u.suf (zC r1)
 obtain⟨s1,s2⟩:=star_wt P
 obtain⟨r4,y,h6⟩:=zs h4
 try simp only at y
 obtain⟨w4,v⟩:=zG s2 y
 simp[mLp]at w4
 obtain⟨⟨ps,z⟩,l,h8⟩:=zs h6
 have k5:okns ps/\ps.length<=10/\nN ps+wt z<=wt r4/\Tks z:=by
  split at l
  ·cases l;exact⟨fun n m=>absurd m List.not_mem_nil,by simp,by simp[nN],v⟩
  ·obtain⟨c1,c2,U,V,W⟩:=j8 _ _ _ _ _ _ v l
   exact⟨c1,by omega,V,W⟩
 obtain⟨c1,c2,U,Q⟩:=k5
 obtain⟨r6,h9,E⟩:=zs h8
 obtain⟨w6,R⟩:=zG Q h9
 simp[mRp]at w6
 obtain⟨r7,F,G⟩:=zs E
 obtain⟨w7,j⟩:=zG R F
 simp[mSemi]at w7
 obtain⟨⟨vs,A⟩,d,H⟩:=zs G
 have k8:okns vs/\ps.length+vs.length<=10/\(if vs=[] then 0 else 2+nN vs)+wt A<=wt r7/\Tks A:=by
  split at d
  ·rename_i hv
   have t:=yn j
   rw[hv]at t
   simp[wVar]at t
   obtain⟨⟨a5,a4⟩,e,g⟩:=zs d
   obtain⟨k,w,x,d4,X⟩:=j8 _ _ _ _ _ _ (j.suf (zC _)) e
   obtain⟨B,c,i⟩:=zs g
   obtain⟨s,a⟩:=zG X c
   simp[mSemi]at s
   cases i
   refine⟨k,x,?_,a⟩
   split<;>omega
  ·cases d;exact⟨fun n m=>absurd m List.not_mem_nil,by simpa using c2,by simp,j⟩
 obtain⟨k,w,x,S⟩:=k8
 obtain⟨B,e,g⟩:=zs H
 obtain⟨s,a⟩:=zG S e
 simp[wBegin]at s
 obtain⟨⟨b,M⟩,c,i⟩:=zs g
 have q:=sx_ry f 0 0 B b M a (by omega) (by omega) (by omega) c
 have q1:=q.ns (by omega)
 have q2:=q.ds
 obtain⟨a0,I,J⟩:=zs i
 obtain⟨N,C⟩:=zG (a.suf (xt f _ _ _ _ _ a.gd c).1) I
 simp[wEnd]at N
 obtain⟨a3,K,L⟩:=zs J
 obtain⟨O,D⟩:=zG C K
 simp[mSemi]at O
 cases L
 refine⟨⟨T,c1,k,w,q.ws,show DS b<=10 by omega⟩,?_,D⟩
 simp only[nP];omega
theorem procs_wp (f:Nat):∀g a r l b,Tks r->a<=10->procs f g a r=.ok (l,b)->(∀p,p∈l->WP p)/\a+l.length<=10/\(l.map nP).sum+wt b<=wt r/\Tks b:=by
 induction f with
 |zero=>intro g a r l b _ _ h;cases h
 |succ f ih =>
  intro g a r l b d t h
  rw[procs]at h
  split at h
  ·split at h
   ·cases h
   ·rename_i u
    obtain⟨⟨p,z⟩,m,n⟩:=zs h
    obtain⟨i,v,e⟩:=proc_wp d m
    obtain⟨⟨y,A⟩,o,q⟩:=zs n
    obtain⟨j,b2,w,k⟩:=ih _ _ _ _ _ e (by omega) o
    cases q
    refine⟨?_,by simp;omega,by simp;omega,k⟩
    intro x c
    rcases List.mem_cons.mp c with rfl|c
    ·exact i
    ·exact j x c
  ·cases h
   exact⟨fun g s=>absurd s List.not_mem_nil,by simpa using t,by simp,d⟩
theorem module_wm (V:Tks r)(h:module f r=.ok m):WM m/\nM m<=wt r:=by
 unfold module at h
 obtain⟨Z,N,O⟩:=zs h
 obtain⟨w1,t⟩:=zG V N
 simp[wModule]at w1
 obtain⟨⟨n,r2⟩,P,Q⟩:=zs O
 obtain⟨G,rfl,a2⟩:=ku t P
 have C:=t.suf (zC Z)
 obtain⟨r3,R,S⟩:=zs Q
 obtain⟨w3,i⟩:=zG C R
 simp[mSemi]at w3
 obtain⟨⟨is,u⟩,o,T⟩:=zs S
 have Y:okns is/\is.length<=6/\(if is=[] then 0 else 2+nN is)+wt u<=wt r3/\Tks u:=by
  split at o
  ·rename_i X
   have s:=yn i
   rw[X]at s
   simp[wImport]at s
   obtain⟨⟨a5,a4⟩,a,c⟩:=zs o
   obtain⟨l,H,I,d4,J⟩:=j8 _ _ _ _ _ _ (i.suf (zC _)) a
   obtain⟨r9,d,e⟩:=zs c
   obtain⟨p,k⟩:=zG J d
   simp[mSemi]at p
   cases e
   refine⟨l,by omega,?_,k⟩
   split<;>omega
  ·cases o;exact⟨fun n W=>absurd W List.not_mem_nil,by simp,by simp,i⟩
 obtain⟨c1,c2,c3,D⟩:=Y
 obtain⟨⟨L,r5⟩,U,v⟩:=zs T
 obtain⟨l,H,I,E⟩:=globals_wg _ _ _ _ _ D (by omega) U
 obtain⟨⟨ps,r6⟩,w,x⟩:=zs v
 obtain⟨K,e2,e3,F⟩:=procs_wp _ _ _ _ _ _ E (by omega) w
 obtain⟨r7,y,z⟩:=zs x
 obtain⟨w7,j⟩:=zG F y
 simp[wBegin]at w7
 obtain⟨⟨b,r8⟩,a,c⟩:=zs z
 have q:=sx_ry f 0 0 r7 b r8 j (by omega) (by omega) (by omega) a
 have q1:=q.ns (by omega)
 have q2:=q.ds
 obtain⟨r9,d,e⟩:=zs c
 obtain⟨p,k⟩:=zG (j.suf (xt f _ _ _ _ _ j.gd a).1) d
 simp[wEnd]at p
 obtain⟨a3,A,g⟩:=zs e
 obtain⟨B,a0⟩:=zG k A
 simp[mDot]at B
 split at g
 ·cases g
  refine⟨⟨G,c1,c2,l,show L.length<=10 by omega,K,show ps.length<=10 by omega,q.ws,show DS b<=10 by omega⟩,?_⟩
  simp only[nM];omega
 ·cases g
theorem ld_first {c:UInt8}:(letter c=true->blank c=false/\ld c=true)/\(digit c=true->blank c=false/\letter c=false):=by
 refine⟨fun h=>⟨?_,by simp[ld,h]⟩,fun h=>⟨?_,?_⟩⟩
 ·cases a:blank c with
  |false=>rfl
  |true=>simp only[blank,Bool.or_eq_true,beq_iff_eq]at a;rcases a with rfl|rfl<;>revert h<;>decide
 ·cases a:blank c with
  |false=>rfl
  |true=>simp only[blank,Bool.or_eq_true,beq_iff_eq]at a;rcases a with rfl|rfl<;>revert h<;>decide
 ·simp only[digit,letter,decide_eq_true_eq,decide_eq_false_iff_not]at h ⊢;omega
theorem kW:∀(l:Bs) (d:UInt8),d∈l.takeWhile p->p d=true:=by
 intro l
 induction l with
 |nil=>intro d h;cases h
 |cons c l ih =>
  intro d h
  rw[List.takeWhile_cons]at h
  split at h
  ·rcases List.mem_cons.mp h with rfl|h
   ·assumption
   ·exact ih d h
  ·cases h
theorem kF:∀l:Bs,l.take (l.takeWhile p).length=l.takeWhile p:=by
 intro l
 induction l with
 |nil=>rfl
 |cons c l ih =>
  rw[List.takeWhile_cons]
  split
  ·rw[List.length_cons,List.take_succ_cons,ih]
  ·rfl
theorem cut_tk {k n pos:Nat}(h:cut l=some (k,n)):Tk ⟨k,pos,l.take n⟩/\n<=l.length/\1<=n:=by
 cases l with
 |nil=>cases h
 |cons c t =>
  rw[cut]at h
  split at h
  ·rename_i a
   cases h
   rw[kF]
   have b:ld c=true:=(ld_first.1 a).2
   have e:(c :: t).takeWhile ld=c :: t.takeWhile ld:=by rw[List.takeWhile_cons,if_pos b]
   refine⟨⟨fun e=>(by cases e),fun _=>⟨c,_,e,a,fun d hd=>kW _ d hd⟩,fun e=>(by cases e),fun e=>(by cases e),by simp⟩,(List.takeWhile_sublist _).length_le,by rw[e];simp⟩
  ·split at h
   ·rename_i a
    cases h
    rw[kF]
    have e:(c :: t).takeWhile digit=c :: t.takeWhile digit:=by rw[List.takeWhile_cons,if_pos a]
    refine⟨⟨fun e=>(by cases e),fun e=>(by cases e),fun _=>⟨?_,fun d hd=>kW _ d hd⟩,fun e=>(by cases e),by simp⟩,(List.takeWhile_sublist _).length_le,by rw[e];simp⟩
    show (c :: t).takeWhile digit≠[]
    rw[e];simp
   ·rw[Option.map_eq_some_iff]at h
    obtain⟨m,f,o⟩:=h
    cases o
    have g:=List.mem_of_find?_eq_some f
    have i:=List.find?_some f
    rw[List.isPrefixOf_iff_prefix]at i
    obtain⟨r,j⟩:=i
    have e:(c :: t).take m.length=m:=by rw[<-j,List.take_left]
    have b:=congrArg List.length j
    rw[List.length_append]at b
    have:∀m:Bs,m∈marks->1<=m.length:=by decide
    rw[e]
    exact⟨⟨fun e=>(by cases e),fun e=>(by cases e),fun e=>(by cases e),fun _=>g,by simp⟩,by omega,this m g⟩
theorem scan_tks:∀(f i pos:Nat) (l:Bs) (g:List Tok),scan f i pos l=.ok g->Tks g/\wt g<=l.length/\(i<=600->i+g.length<=601)/\(∃t z,g=t++[z]/\z.kind=0):=by
 intro f
 induction f with
 |zero=>intro i pos l g h;cases h
 |succ f ih =>
  intro i pos l g h
  rw[scan.eq_def]at h
  simp only at h
  split at h
  ·cases h
   refine⟨?_,by simp[wt],fun _=>by simp;omega,[],_,rfl,rfl⟩
   intro t k
   rw[List.mem_singleton]at k
   subst k
   exact⟨fun _=>rfl,fun e=>(by cases e),fun e=>(by cases e),fun e=>(by cases e),by simp⟩
  ·rename_i c t
   split at h
   ·obtain⟨a,b,c,d⟩:=ih _ _ _ _ h
    exact⟨a,by simp;omega,c,d⟩
   ·split at h
    ·cases h
    ·rename_i r n hcut
     obtain⟨c1,c2,v⟩:=cut_tk (pos:=pos) hcut
     split at h
     ·cases h
     ·split at h
      ·cases h
      ·rename_i o m
       cases h
       obtain⟨a,b,d,s,z,p,q⟩:=ih _ _ _ _ m
       refine⟨?_,?_,fun _=>by have:=d (by omega);simp at this ⊢;omega,⟨r,pos,(c :: t).take n⟩ :: s,z,by rw[p];rfl,q⟩
       ·intro u j
        rcases List.mem_cons.mp j with rfl|j
        ·exact c1
        ·exact a u j
       ·rw[List.length_drop]at b
        show ((c :: t).take n).length+wt o<=_
        rw[List.length_take]
        omega
theorem parse_wm (h:parse l=.ok m):WM m/\nM m<=l.length:=by
 unfold parse at h
 obtain⟨g,e,f⟩:=zs h
 obtain⟨a,b,_⟩:=scan_tks _ _ _ _ _ e
 obtain⟨c,d⟩:=module_wm a f
 exact⟨c,by omega⟩
theorem scan_tl:∀(f d pos:Nat) (l:Bs) (b:List Tok),scan f d pos l=.ok b->∀t,t∈b->t.text.length<=l.length/\t.pos<=pos+l.length:=by
 intro f
 induction f with
 |zero=>intro d pos l b h;cases h
 |succ f ih =>
  intro d pos l b h
  rw[scan.eq_def]at h
  simp only at h
  split at h
  ·cases h
   intro t e
   rw[List.mem_singleton]at e
   subst e
   simp
  ·rename_i c t
   split at h
   ·intro u a
    have:=ih _ _ _ _ h u a
    simp at this ⊢
    omega
   ·split at h
    ·cases h
    ·rename_i k n hcut
     obtain⟨c1,c2,j⟩:=cut_tk (pos:=pos) hcut
     split at h
     ·cases h
     ·split at h
      ·cases h
      ·rename_i i g
       cases h
       intro u a
       rcases List.mem_cons.mp a with rfl|a
       ·simp only[List.length_take];omega
       ·have:=ih _ _ _ _ g u a
        rw[List.length_drop]at this
        omega
abbrev Sy:=Bs×Nat×Int
def wArr:Bs:=[97,114,114,97,121]
def wordsL (first:Bs) (ss:List Bs):Bs:=first++(ss.map fun s=>(32:UInt8) :: s).flatten++[10]
def lineOf (s:Sy):Bs:=if 0<=s.2.2 then wordsL wProc [s.1,dec s.2.2.toNat] else if 0<s.2.1 then wordsL wArr [s.1,dec s.2.1] else wordsL wInt [s.1]
def syG (g:G):Sy:=(g.name,g.len,-1)
def syP (p:Pr):Sy:=(p.name,0,(p.params.length:Int))
def symsOf (m:M):List Sy:=(m.vars.filter (·.seen)).map syG++(m.procs.filter (·.seen)).map syP
def findS (l:List Sy) (n:Bs):Option Sy:=l.find? fun s=>s.1==n
def needS (l:List Sy) (n:Bs):Bs:=match findS l n with
 |some s=>lineOf s
 |none=>wordsL [110,111,110,101] [n]
def needsS (l:List Sy) (ns:List Bs):Bs:=(ns.map (needS l)).flatten
structure R where
 code:Nat
 pos:Nat
 mod:Bs
 name:Bs
 args:Nat
def rx:List X->List R
 |[]=>[]
 | ⟨code,pos,_,m,nm,_,le,ri,ar⟩ :: xs =>
  (if code=2\/code=3\/code=6 then [⟨code,pos,m,nm,ar.length⟩] else [])++rx le++rx ri++rx ar++rx xs
def rs:List S->List R
 |[]=>[]
 | ⟨code,pos,nm,ix,vl,th,el⟩ :: ss =>
  (if code=1 then [⟨if ix.isEmpty then 2 else 3,pos,[],nm,0⟩] else [])++rx ix++rx vl++rs th++rs el++rs ss
abbrev Seen:=Bs->Option (List Sy)
abbrev Ck:=Option (Nat×Option Nat)
def stand (m:M) (own:List Bs) (seen:Seen) (md nm:Bs):Except Nat (Nat×Int) :=
 if md≠[] then
  if md∈m.imports then
   match findS ((seen md).getD []) nm with
   |some s=>.ok s.2
   |none=>.error 7
  else .error 5
 else if nm∈own then .ok (0,-1)
 else match m.vars.find? fun g=>g.name==nm with
  |some g=>.ok (g.len,-1)
  |none=>match m.procs.find? fun p=>p.name==nm with
   |some p=>.ok (0,(p.params.length:Int))
   |none=>.error 7
def kindOf (s:Nat×Int):Nat:=if 0<=s.2 then 6 else if 0<s.1 then 3 else 2
def judge (m:M) (own:List Bs) (seen:Seen) (r:R):Ck :=
 match stand m own seen r.mod r.name with
 | .error e=>some (e,some r.pos)
 | .ok s=>if kindOf s≠r.code then some (1,some r.pos)
  else if r.code=6/\(r.args:Int)≠s.2 then some (2,some r.pos) else none
def imps (own:Bs) (seen:Seen):List Bs->List Bs->Ck
 | _,[]=>none
 |ah,n :: t=>if n=own\/n∈ah then some (10,none) else if seen n=none then some (8,none) else imps own seen (n :: ah) t
def tw:List Bs->List (Bs×Nat)->Ck
 | _,[]=>none
 |ah,(n,p) :: t=>if n∈ah then some (9,some p) else tw (n :: ah) t
def ownOf (p:Pr):List Bs:=p.params++p.vars
def checkP (m:M) (seen:Seen) (p:Pr):Ck :=
 (tw [] ((ownOf p).map fun n=>(n,p.pos))).or ((rs p.body).findSome? (judge m (ownOf p) seen))
def check (m:M) (seen:Seen):Ck :=
 (imps m.name seen [] m.imports).or <|
 (tw [] (m.vars.map (fun g=>(g.name,g.pos))++m.procs.map (fun p=>(p.name,p.pos)))).or <|
 (m.procs.findSome? (checkP m seen)).or ((rs m.body).findSome? (judge m [] seen))
theorem imps_none {own:Bs}{j:Seen}:∀{l d:List Bs},imps own j d l=none↔(∀n∈l,n≠own/\n ∉ d/\j n≠none)/\l.Nodup:=by
 intro l
 induction l with
 |nil=>intro d;simp[imps]
 |cons n t ih =>
  intro d
  unfold imps
  by_cases g:n=own\/n∈d
  ·rw[if_pos g]
   refine⟨fun h=>by simp at h,fun h=>?_⟩
   have:=h.1 n (by simp)
   rcases g with e|e
   ·exact absurd e this.1
   ·exact absurd e this.2.1
  ·rw[if_neg g]
   by_cases i:j n=none
   ·rw[if_pos i]
    refine⟨fun h=>by simp at h,fun h=>?_⟩
    exact absurd i (h.1 n (by simp)).2.2
   ·rw[if_neg i,ih,List.nodup_cons]
    have m:n≠own:=fun e=>g (.inl e)
    have o:n ∉ d:=fun e=>g (.inr e)
    constructor
    ·rintro⟨a,b⟩
     refine⟨?_,?_,b⟩
     ·intro k f
      rcases List.mem_cons.1 f with e|e
      ·subst e;exact⟨m,o,i⟩
      ·have:=a k e
       exact⟨this.1,fun q=>this.2.1 (List.mem_cons_of_mem _ q),this.2.2⟩
     ·intro f
      exact(a n f).2.1 (by simp)
    ·rintro⟨a,b,c⟩
     refine⟨?_,c⟩
     intro k f
     have:=a k (List.mem_cons_of_mem _ f)
     refine⟨this.1,?_,this.2.2⟩
     intro q
     rcases List.mem_cons.1 q with e|e
     ·subst e;exact b f
     ·exact this.2.1 e
abbrev Th:=Bs×Nat×Nat×Int
def thG (g:G):Th:=(g.name,g.pos,g.len,-1)
def thP (p:Pr):Th:=(p.name,p.pos,0,(p.params.length:Int))
def things (m:M):List Th:=m.vars.map thG++m.procs.map thP
def ownT (p:Pr):List Th:=(ownOf p).map fun n=>(n,p.pos,0,-1)
def lkT (l:List Th) (k:Bs):Option (Nat×Int):=(l.find? fun x=>x.1==k).map fun x=>x.2.2
theorem lkT_snoc {l:List Th}{x:Th}(h:x.1 ∉ l.map (·.1))(k:Bs):lkT (l++[x]) k=if k=x.1 then some x.2.2 else lkT l k:=by
 unfold lkT
 rw[List.find?_append]
 by_cases e:k=x.1
 ·have:l.find? (fun y=>y.1==k)=none:=by
   rw[List.find?_eq_none]
   intro y b
   have a:y.1≠k:=fun q=>h (List.mem_map.2 ⟨y,b,q.trans e⟩)
   simpa using a
  rw[this,if_pos e]
  subst e
  simp
 ·rw[if_neg e]
  have:[x].find? (fun y=>y.1==k)=none:=by
   rw[List.find?_cons]
   have:(x.1==k)=false:=by simpa using fun q=>e q.symm
   rw[this];rfl
  rw[this]
  simp
theorem lkT_some {l:List Th}{k:Bs}:(lkT l k).isSome=true↔k∈l.map (·.1):=by
 unfold lkT
 rw[Option.isSome_map,List.find?_isSome,List.mem_map]
 constructor
 ·rintro⟨x,a,e⟩
  exact⟨x,a,by simpa using e⟩
 ·rintro⟨x,a,e⟩
  exact⟨x,a,by simpa using e⟩
def keyT (x:Th):Bs×Nat:=(x.1,x.2.1)
def twr (l:List Th) (i:Nat):Ck:=tw ((l.take i).map (·.1)).reverse ((l.drop i).map keyT)
theorem twr_zero (l:List Th):twr l 0=tw [] (l.map keyT):=by simp[twr]
theorem twr_all (l:List Th)(i:Nat)(h:l.length<=i):twr l i=none:=by
 unfold twr
 rw[List.drop_eq_nil_of_le h]
 rfl
theorem twr_step (l:List Th)(i:Nat)(h:i<l.length):twr l i=if l[i].1∈(l.take i).map (·.1) then some (9,some l[i].2.1) else twr l (i+1):=by
 unfold twr
 rw[List.drop_eq_getElem_cons h,List.map_cons,List.take_succ_eq_append_getElem h,List.map_append,List.reverse_append]
 show tw _ ((l[i].1,l[i].2.1) :: _)=_
 rw[tw]
 simp
def twP (l:List Th) (i:Nat):Option (Nat×Nat):=if h:i<l.length then (if l[i].1∈(l.take i).map (·.1) then some (9,l[i].2.1) else twP l (i+1)) else none
 termination_by l.length-i
def up (o:Option (Nat×Nat)):Ck:=o.map fun x=>(x.1,some x.2)
theorem twP_eq (l:List Th):∀(n i:Nat),l.length-i<=n->twr l i=up (twP l i):=by
 intro n
 induction n with
 |zero=>intro i h;rw[twr_all l i (by omega),twP,dif_neg (by omega)];rfl
 |succ n ih =>
  intro i h
  rw[twP]
  by_cases b:i<l.length
  ·rw[dif_pos b,twr_step l i b]
   by_cases a:l[i].1∈(l.take i).map (·.1)
   ·rw[if_pos a,if_pos a];rfl
   ·rw[if_neg a,if_neg a,ih (i+1) (by omega)]
  ·rw[dif_neg b,twr_all l i (by omega)];rfl
theorem twP_zero (l:List Th):tw [] (l.map keyT)=up (twP l 0):=by rw[<-twr_zero,twP_eq l _ 0 (Nat.le_refl _)]
def standV (fo:Bs->Option (List Sy)) (near:List (Bs->Option (Nat×Int))) (md nm:Bs):Except Nat (Nat×Int) :=
 if md≠[] then
  match fo md with
  |none=>.error 5
  |some l=>match findS l nm with
   |some s=>.ok s.2
   |none=>.error 7
 else match near.findSome? (fun f=>f nm) with
  |some x=>.ok x
  |none=>.error 7
def others (m:M) (seen:Seen):Bs->Option (List Sy):=fun k=>if k∈m.imports then seen k else none
theorem lkT_own (p:Pr)(n:Bs):lkT (ownT p) n=if n∈ownOf p then some (0,-1) else none:=by
 unfold lkT ownT
 rw[List.find?_map,Option.map_map]
 by_cases h:n∈ownOf p
 ·rw[if_pos h]
  have:((ownOf p).find? ((fun x:Th=>x.1==n) ∘ fun k=>(k,p.pos,0,-1))).isSome=true:=by
   rw[List.find?_isSome]
   exact⟨n,h,by simp⟩
  obtain⟨x,a⟩:=Option.isSome_iff_exists.1 this
  rw[a];rfl
 ·rw[if_neg h]
  have:(ownOf p).find? ((fun x:Th=>x.1==n) ∘ fun k=>(k,p.pos,0,-1))=none:=by
   rw[List.find?_eq_none]
   intro x a
   have:x≠n:=fun e=>h (e ▸ a)
   simpa using this
  rw[this];rfl
theorem lkT_things (m:M)(n:Bs):lkT (things m) n=match m.vars.find? (fun g=>g.name==n) with
  |some g=>some (g.len,-1)
  |none=>match m.procs.find? (fun p=>p.name==n) with
   |some p=>some (0,(p.params.length:Int))
   |none=>none:=by
 unfold lkT things
 rw[List.find?_append,List.find?_map,List.find?_map]
 have a:((fun x:Th=>x.1==n) ∘ thG)=fun g=>g.name==n:=rfl
 have b:((fun x:Th=>x.1==n) ∘ thP)=fun g=>g.name==n:=rfl
 rw[a,b]
 cases m.vars.find? (fun g=>g.name==n) with
 |some g=>rfl
 |none=>cases m.procs.find? (fun p=>p.name==n)<;>rfl
theorem jS {d:Seen}(h:imps m.name d [] m.imports=none){own:List Bs}{e:List (Bs->Option (Nat×Int))}
  (j:∀n,e.findSome? (fun f=>f n)=if n∈own then some (0,-1) else lkT (things m) n)(b nm:Bs):stand m own d b nm=standV (others m d) e b nm:=by
 unfold stand standV others
 rw[imps_none]at h
 by_cases c:b≠[]
 ·rw[if_pos c,if_pos c]
  by_cases a:b∈m.imports
  ·rw[if_pos a,if_pos a]
   obtain⟨l,i⟩:=Option.ne_none_iff_exists'.1 (h.1 b a).2.2
   rw[i]
   rfl
  ·rw[if_neg a,if_neg a]
 ·rw[if_neg c,if_neg c,j]
  by_cases a:nm∈own
  ·rw[if_pos a,if_pos a]
  ·rw[if_neg a,if_neg a,lkT_things]
   cases m.vars.find? (fun g=>g.name==nm) with
   |some g=>rfl
   |none=>cases m.procs.find? (fun p=>p.name==nm)<;>rfl
def judgeP (st:Bs->Bs->Except Nat (Nat×Int)) (r:R):Option (Nat×Nat) :=
 match st r.mod r.name with
 | .error e=>some (e,r.pos)
 | .ok s=>if kindOf s≠r.code then some (1,r.pos) else if r.code=6/\(r.args:Int)≠s.2 then some (2,r.pos) else none
theorem judge_up (m:M)(own:List Bs)(c:Seen)(r:R):judge m own c r=up (judgeP (stand m own c) r):=by
 unfold judge judgeP
 cases stand m own c r.mod r.name with
 |error e=>rfl
 |ok s =>
  simp only
  by_cases a:kindOf s≠r.code
  ·rw[if_pos a,if_pos a];rfl
  ·rw[if_neg a,if_neg a]
   by_cases b:r.code=6/\(r.args:Int)≠s.2
   ·rw[if_pos b,if_pos b];rfl
   ·rw[if_neg b,if_neg b];rfl
theorem uE (f:α->Option (Nat×Nat))(l:List α):l.findSome? (fun x=>up (f x))=up (l.findSome? f):=by
 induction l with
 |nil=>rfl
 |cons a t ih =>
  rw[List.findSome?_cons,List.findSome?_cons]
  cases f a with
  |none=>exact ih
  |some b=>rfl
theorem up_or (a b:Option (Nat×Nat)):(up a).or (up b)=up (a.or b):=by cases a<;>rfl
def checkPP (m:M) (seen:Seen) (p:Pr):Option (Nat×Nat) :=
 (twP (ownT p) 0).or ((rs p.body).findSome? (judgeP (standV (others m seen) [lkT (ownT p),lkT (things m)])))
theorem checkP_eq {a:Seen}(h:imps m.name a [] m.imports=none)(p:Pr):checkP m a p=up (checkPP m a p):=by
 unfold checkP checkPP
 have c:(ownOf p).map (fun n=>(n,p.pos))=(ownT p).map keyT:=by simp[ownT,keyT]
 have d:(rs p.body).findSome? (judge m (ownOf p) a)=up ((rs p.body).findSome? (judgeP (standV (others m a) [lkT (ownT p),lkT (things m)]))):=by
  rw[<-uE]
  congr 1
  funext r
  rw[judge_up]
  have:stand m (ownOf p) a=standV (others m a) [lkT (ownT p),lkT (things m)]:=by
   funext md nm
   refine jS h (fun n=>?_) md nm
   rw[List.findSome?_cons,lkT_own]
   by_cases b:n∈ownOf p
   ·rw[if_pos b,if_pos b]
   ·rw[if_neg b,if_neg b,List.findSome?_cons]
    cases lkT (things m) n<;>rfl
  rw[this]
 rw[c,twP_zero,d,up_or]
def checkV (m:M) (seen:Seen):Option (Nat×Nat) :=
 (twP (things m) 0).or ((m.procs.findSome? (checkPP m seen)).or ((rs m.body).findSome? (judgeP (standV (others m seen) [lkT (things m)]))))
theorem check_eq (m:M)(a:Seen):check m a=(imps m.name a [] m.imports).or (up (checkV m a)):=by
 unfold check
 cases h:imps m.name a [] m.imports with
 |some e=>rfl
 |none =>
  show _=up (checkV m a)
  unfold checkV
  have b:m.vars.map (fun g=>(g.name,g.pos))++m.procs.map (fun p=>(p.name,p.pos))=(things m).map keyT:=by simp[things,keyT,thG,thP,Function.comp_def]
  have c:m.procs.findSome? (checkP m a)=up (m.procs.findSome? (checkPP m a)):=by
   rw[<-uE]
   congr 1
   funext p
   exact checkP_eq h p
  have d:(rs m.body).findSome? (judge m [] a)=up ((rs m.body).findSome? (judgeP (standV (others m a) [lkT (things m)]))):=by
   rw[<-uE]
   congr 1
   funext r
   rw[judge_up]
   have:stand m [] a=standV (others m a) [lkT (things m)]:=by
    funext md nm
    refine jS h (fun n=>?_) md nm
    rw[List.findSome?_cons,if_neg (by simp)]
    cases lkT (things m) n<;>rfl
   rw[this]
  rw[b,twP_zero,c,d,up_or,up_or]
  rfl
def w64 (n:Int):Int:=(n+9223372036854775808) % 18446744073709551616-9223372036854775808
abbrev I64 (n:Int):Prop:=-9223372036854775808<=n/\n<=9223372036854775807
theorem w64_in (n:Int):I64 (w64 n):=by unfold I64 w64;omega
theorem w64_id {n:Int}(h:I64 n):w64 n=n:=by unfold I64 at h;unfold w64;omega
theorem w64_congr {a:Int}(h:(a-b) % 18446744073709551616=0):w64 a=w64 b:=by unfold w64;omega
def b01 (p:Prop) [Decidable p]:Int:=if p then 1 else 0
def both (op:Bs) (a b:Int):Option Int :=
 if op=mPlus then some (w64 (a+b))
 else if op=mMinus then some (w64 (a-b))
 else if op=mStar then some (w64 (a*b))
 else if op=wDiv then (if b=0 then none else some (w64 (a.fdiv b)))
 else if op=wMod then (if b=0 then none else some (a.fmod b))
 else if op=mEq then some (b01 (a=b))
 else if op=mNe then some (b01 (a≠b))
 else if op=mLt then some (b01 (a<b))
 else if op=mLe then some (b01 (a<=b))
 else if op=mGt then some (b01 (a > b))
 else if op=mGe then some (b01 (a ≥ b))
 else some 0
theorem both_plus (a b:Int):both mPlus a b=some (w64 (a+b)):=by simp[both]
theorem both_minus (a b:Int):both mMinus a b=some (w64 (a-b)):=by simp[both,mMinus,mPlus]
theorem both_star (a b:Int):both mStar a b=some (w64 (a*b)):=by simp[both,mMinus,mPlus,mStar]
theorem both_div (a b:Int):both wDiv a b=if b=0 then none else some (w64 (a.fdiv b)):=by simp[both,mMinus,mPlus,mStar,wDiv]
theorem both_mod (a b:Int):both wMod a b=if b=0 then none else some (a.fmod b):=by simp[both,mMinus,mPlus,mStar,wDiv,wMod]
theorem both_eq (a b:Int):both mEq a b=some (b01 (a=b)):=by simp[both,mMinus,mPlus,mStar,wDiv,wMod,mEq]
theorem both_ne (a b:Int):both mNe a b=some (b01 (a≠b)):=by simp[both,mMinus,mPlus,mStar,wDiv,wMod,mEq,mNe]
theorem both_lt (a b:Int):both mLt a b=some (b01 (a<b)):=by simp[both,mMinus,mPlus,mStar,wDiv,wMod,mEq,mNe,mLt]
theorem both_le (a b:Int):both mLe a b=some (b01 (a<=b)):=by simp[both,mMinus,mPlus,mStar,wDiv,wMod,mEq,mNe,mLt,mLe]
theorem both_gt (a b:Int):both mGt a b=some (b01 (a > b)):=by simp[both,mMinus,mPlus,mStar,wDiv,wMod,mEq,mNe,mLt,mLe,mGt]
theorem both_ge (a b:Int):both mGe a b=some (b01 (a ≥ b)):=by simp[both,mMinus,mPlus,mStar,wDiv,wMod,mEq,mNe,mLt,mLe,mGt,mGe]
theorem fdiv_mend (a b:Int)(o:b≠0):a.fdiv b=a.tdiv b-(if a.tmod b≠0/\((a.tmod b<0)↔¬b<0) then 1 else 0)/\a.fmod b=a.tmod b+(if a.tmod b≠0/\((a.tmod b<0)↔¬b<0) then b else 0):=by
 have x:=Int.tmod_add_mul_tdiv a b
 have i:=Int.fmod_add_mul_fdiv a b
 have j:0<b->0<=a.fmod b/\a.fmod b<b:=fun h=>⟨Int.fmod_nonneg_of_pos a h,Int.fmod_lt_of_pos a h⟩
 have k:b<0->b<a.fmod b/\a.fmod b<=0:=by
  intro h
  have e:(-a).fmod (-b)=- a.fmod b:=by rw[Int.neg_fmod_neg]
  have l:=Int.fmod_nonneg_of_pos (-a) (b:=-b) (by omega)
  have u:=Int.fmod_lt_of_pos (-a) (b:=-b) (by omega)
  omega
 have m:0<b->-b<a.tmod b/\a.tmod b<b:=fun h=>⟨by have:=Int.lt_tmod_of_pos a h;omega,Int.tmod_lt_of_pos a h⟩
 have n:b<0->b<a.tmod b/\a.tmod b < -b:=by
  intro h
  have e:a.tmod (-b)=a.tmod b:=Int.tmod_neg a b
  have l:=Int.lt_tmod_of_pos a (b:=-b) (by omega)
  have u:=Int.tmod_lt_of_pos a (b:=-b) (by omega)
  omega
 have g:∀q r d f:Int,r+b*q=a->f+b*d=a->(0<b->0<=r/\r<b/\0<=f/\f<b)->(b<0->b<r/\r<=0/\b<f/\f<=0)->q=d/\r=f:=by
  intro q r d f t v s p
  have w:b*(q-d)=f-r:=by rw[Int.mul_sub];omega
  have:q-d=0:=by
   rcases Int.lt_or_gt_of_ne o with h|h
   ·have z:=p h
    rcases Int.lt_trichotomy (q-d) 0 with y|y|y
    ·have:b*(q-d) ≥ -b:=by
      have:=Int.mul_le_mul_of_nonneg_left (a:=q-d) (b:=-1) (c:=-b) (by omega) (by omega)
      rw[Int.neg_mul]at this
      omega
     omega
    ·exact y
    ·have:b*(q-d)<=b:=by
      have:=Int.mul_le_mul_of_nonneg_left (a:=1) (b:=q-d) (c:=-b) (by omega) (by omega)
      rw[Int.neg_mul b (q-d)]at this
      omega
     omega
   ·have z:=s h
    rcases Int.lt_trichotomy (q-d) 0 with y|y|y
    ·have:b*(q-d)<=b*(-1):=Int.mul_le_mul_of_nonneg_left (by omega) (by omega)
     omega
    ·exact y
    ·have:b*1<=b*(q-d):=Int.mul_le_mul_of_nonneg_left (by omega) (by omega)
     omega
  have q0:q=d:=by omega
  subst q0
  exact⟨rfl,by omega⟩
 split
 ·rename_i c
  refine g _ _ _ _ i ?_ ?_ ?_
  ·rw[Int.mul_sub];omega
  ·intro h
   have:=j h;have:=m h
   have:=c.2
   omega
  ·intro h
   have:=k h;have:=n h
   have:=c.2
   omega
 ·rename_i c
  rw[Int.sub_zero,Int.add_zero]
  refine g _ _ _ _ i ?_ ?_ ?_
  ·omega
  ·intro h
   have:=j h;have:=m h
   omega
  ·intro h
   have:=k h;have:=n h
   omega
theorem both_rest {a:Int}(m:I64 a)(c:b≠0):w64 (w64 (w64 (a.fdiv b)*b)+a.fmod b)=a/\(a.fmod b=0\/(a.fmod b<0↔b<0))/\((0<b/\a.fmod b<b)\/(b<0/\b<a.fmod b)\/a.fmod b=0):=by
 have o:=Int.fmod_add_mul_fdiv a b
 have d:0<b->0<=a.fmod b/\a.fmod b<b:=fun h=>⟨Int.fmod_nonneg_of_pos a h,Int.fmod_lt_of_pos a h⟩
 have f:b<0->b<a.fmod b/\a.fmod b<=0:=by
  intro h
  have e:(-a).fmod (-b)=- a.fmod b:=by rw[Int.neg_fmod_neg]
  have l:=Int.fmod_nonneg_of_pos (-a) (b:=-b) (by omega)
  have u:=Int.fmod_lt_of_pos (-a) (b:=-b) (by omega)
  omega
 refine⟨?_,?_,?_⟩
 ·have g:w64 (w64 (a.fdiv b)*b)=w64 (a.fdiv b*b):=by
   apply w64_congr
   rw[<-Int.sub_mul]
   obtain⟨k,n⟩:∃k,w64 (a.fdiv b)-a.fdiv b=18446744073709551616*k:=⟨(w64 (a.fdiv b)-a.fdiv b) / 18446744073709551616,by unfold w64;omega⟩
   rw[n,Int.mul_assoc]
   exact Int.mul_emod_right _ _
  have i:w64 (w64 (a.fdiv b*b)+a.fmod b)=w64 (a.fdiv b*b+a.fmod b):=by
   apply w64_congr
   unfold w64
   omega
  rw[g,i]
  have j:a.fdiv b*b+a.fmod b=a:=by rw[Int.mul_comm];omega
  rw[j,w64_id m]
 ·rcases Int.lt_or_gt_of_ne c with h|h
  ·have:=f h;omega
  ·have:=d h;omega
 ·rcases Int.lt_or_gt_of_ne c with h|h
  ·have:=f h;omega
  ·have:=d h;omega
def Sr (l:List R):Prop:=∀r∈l,r.mod.length<=1000000/\r.name.length<=1000000
theorem Sr.app {l m:List R}(h:Sr l)(k:Sr m):Sr (l++m):=fun r a=>by
 rcases List.mem_append.1 a with q|q
 ·exact h r q
 ·exact k r q
theorem Sr.nil:Sr []:=fun r a=>by cases a
theorem yJ (h:okn n):n.length<=1000000:=by have:=h.2.2;omega
theorem okr_len {m:Bs}(h:okr m n):m.length<=1000000/\n.length<=1000000:=by
 refine⟨?_,yJ h.2⟩
 rcases h.1 with q|q
 ·rw[q];simp
 ·exact yJ q
theorem wx_small:∀(n:Nat) (l:List X),SizeOf.sizeOf l<=n->WX l->Sr (rx l):=by
 intro n
 induction n with
 |zero=>intro l k;cases l<;>simp at k<;>omega
 |succ n ih =>
  intro l k h
  cases l with
  |nil=>rw[rx];exact Sr.nil
  |cons x xs =>
   obtain⟨code,pos,v,m,nm,op,t,u,f⟩:=x
   rw[WX]at h
   simp at k
   obtain⟨q,s⟩:=h
   have p:=ih xs (by omega) s
   have e:Sr (if code=2\/code=3\/code=6 then [⟨code,pos,m,nm,f.length⟩] else [])/\Sr (rx t)/\Sr (rx u)/\Sr (rx f):=by
    have i:okr m nm->Sr (if code=2\/code=3\/code=6 then [⟨code,pos,m,nm,f.length⟩] else []):=by
     intro j r o
     split at o
     ·rw[List.mem_singleton.1 o];exact okr_len j
     ·cases o
    have g:¬(code=2\/code=3\/code=6)->Sr (if code=2\/code=3\/code=6 then [⟨code,pos,m,nm,f.length⟩] else []):=by
     intro j
     rw[if_neg j];exact Sr.nil
    have nil:Sr (rx []):=by rw[rx];exact Sr.nil
    rcases q with⟨c,_,_,_,_,a,b,d⟩|⟨c,_,h3,_,a,b,d⟩|⟨c,_,h3,_,a,_,b,d⟩|⟨c,_,_,_,_,a,_,b,d⟩|⟨c,_,_,_,_,a,_,b,_,d⟩|⟨c,_,h3,_,a,b,d⟩
    ·exact⟨g (by omega),by rw[a];exact nil,by rw[b];exact nil,by rw[d];exact nil⟩
    ·exact⟨i h3,by rw[a];exact nil,by rw[b];exact nil,by rw[d];exact nil⟩
    ·exact⟨i h3,ih _ (by omega) a,by rw[b];exact nil,by rw[d];exact nil⟩
    ·exact⟨g (by omega),ih _ (by omega) a,by rw[b];exact nil,by rw[d];exact nil⟩
    ·exact⟨g (by omega),ih _ (by omega) a,ih _ (by omega) b,by rw[d];exact nil⟩
    ·exact⟨i h3,by rw[a];exact nil,by rw[b];exact nil,ih _ (by omega) d⟩
   rw[rx]
   exact(((e.1.app e.2.1).app e.2.2.1).app e.2.2.2).app p
theorem ws_small:∀(n:Nat) (l:List S),SizeOf.sizeOf l<=n->WS l->Sr (rs l):=by
 intro n
 induction n with
 |zero=>intro l m;cases l<;>simp at m<;>omega
 |succ n ih =>
  intro l m h
  cases l with
  |nil=>rw[rs];exact Sr.nil
  |cons x xs =>
   obtain⟨code,pos,nm,o,p,A,u⟩:=x
   rw[WS]at h
   simp at m
   obtain⟨v,w⟩:=h
   have t:=ih xs (by omega) w
   have i:Sr (rx []):=by rw[rx];exact Sr.nil
   have f:Sr (rs []):=by rw[rs];exact Sr.nil
   have j:ev p->Sr (rx p):=fun q=>wx_small _ _ (Nat.le_refl _) q.1
   have k:code≠1->Sr (if code=1 then [⟨if o.isEmpty then 2 else 3,pos,[],nm,0⟩] else []):=by
    intro z
    rw[if_neg z];exact Sr.nil
   have g:Sr (if code=1 then [⟨if o.isEmpty then 2 else 3,pos,[],nm,0⟩] else [])/\Sr (rx o)/\Sr (rx p)/\Sr (rs A)/\Sr (rs u):=by
    rcases v with⟨c,y,a,b,d,e⟩|⟨c,_,a,b,d,e⟩|⟨c,_,a,b,d,e⟩|⟨c,_,a,b,d,e⟩|⟨c,_,a,b,_,d,e⟩
    ·refine⟨?_,?_,j b,by rw[d];exact f,by rw[e];exact f⟩
     ·intro r s
      rw[if_pos c]at s
      rw[List.mem_singleton.1 s]
      exact⟨by simp,yJ y⟩
     ·rcases a with q|q
      ·rw[q];exact i
      ·exact wx_small _ _ (Nat.le_refl _) q.1
    ·exact⟨k (by omega),by rw[a];exact i,j b,ih _ (by omega) d,ih _ (by omega) e⟩
    ·exact⟨k (by omega),by rw[a];exact i,j b,ih _ (by omega) d,by rw[e];exact f⟩
    ·exact⟨k (by omega),by rw[a];exact i,j b,by rw[d];exact f,by rw[e];exact f⟩
    ·exact⟨k (by omega),by rw[a];exact i,j b,by rw[d];exact f,by rw[e];exact f⟩
   rw[rs]
   exact((((g.1.app g.2.1).app g.2.2.1).app g.2.2.2.1).app g.2.2.2.2).app t
structure Sml (m:M):Prop where
 ic:m.imports.length<=1000
 im:∀n∈m.imports,n.length<=1000000
 gc:m.vars.length<=1000
 g:∀g∈m.vars,g.name.length<=1000000
 pc:m.procs.length<=1000
 p:∀p∈m.procs,p.name.length<=1000000/\p.params.length<=1000/\p.vars.length<=1000/\(∀n∈p.params,n.length<=1000000)/\(∀n∈p.vars,n.length<=1000000)/\Sr (rs p.body)
 b:Sr (rs m.body)
theorem WM.sml (h:WM m):Sml m:=by
 refine⟨by have:=h.ic;omega,fun n a=>yJ (h.i n a),by have:=h.gc;omega,fun g d=>yJ (h.g g d).n,by have:=h.pc;omega,fun p e=>?_,ws_small _ _ (Nat.le_refl _) h.b⟩
 have q:=h.p p e
 have:=q.c
 exact⟨yJ q.n,by omega,by omega,fun n a=>yJ (q.ps n a),fun n a=>yJ (q.vs n a),ws_small _ _ (Nat.le_refl _) q.b⟩
theorem find_idx {β:Type}(f:α->Option β):∀(l:List α),l.findSome? f=(List.range l.length).findSome? fun i=>(l[i]?).bind f:=by
 intro l
 induction l with
 |nil=>rfl
 |cons x l ih =>
  rw[List.findSome?_cons,List.length_cons,List.range_succ_eq_map,List.findSome?_cons,List.findSome?_map,ih]
  have a:((fun i=>((x :: l)[i]?).bind f) ∘ Nat.succ)=fun i=>(l[i]?).bind f:=by
   funext i
   simp
  rw[a]
  simp
end Tp
