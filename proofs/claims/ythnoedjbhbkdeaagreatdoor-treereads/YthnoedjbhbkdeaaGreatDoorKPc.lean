import Derived.Test.YthnoedjbhbkdeaaGreatDoorKPb
set_option maxRecDepth 100000
set_option maxHeartbeats 4000000
namespace Tp
def fl (ps:List Bs):Nat:=ps.flatten.length
theorem yb (a b:List Bs):fl (a++b)=fl a+fl b:=by simp[fl]
theorem fl_cons (a:Bs) (b:List Bs):fl (a :: b)=a.length+fl b:=by simp[fl]
theorem dec_len:∀(k n:Nat),n<10 ^ (k+1)->(dec n).length<=k+1:=by
 intro k
 induction k with
 | zero=>intro n h;rw[dec,dif_pos (by omega)];simp
 | succ k ih =>
  intro n h
  rw[dec]
  split
  ·simp
  ·rw[List.length_append]
   have:=ih (n / 10) (by rw[Nat.pow_succ]at h;omega)
   simp;omega
theorem dec_top {n:Nat}(h:n<=top):(dec n).length<=19:=dec_len 18 n (by unfold top at h;omega)
theorem kh {n:Bs}(h:okn n):n.length<=10:=h.2.2
theorem jK {m n:Bs}(h:okr m n):fl (ref m n)<=24 * rN m:=by
 unfold ref rN
 have h2:=kh h.2
 split
 ·simp[fl];omega
 ·rename_i hm
  have h1:=kh (h.1.resolve_left hm)
  simp[fl,mDot];omega
theorem uC {k:Nat}{l:List X}{ps:List Bs}:fl (held (isLow k l) ps)<=2 * lowN k l+fl ps:=by
 unfold held lowN
 split
 ·simp[fl,mLp,mRp];omega
 ·omega
theorem op_len {op:Bs}(h:lvl op<5):op.length<=3:=by
 have hm:∀ m:Bs,m∈marks->m.length<=3:=by decide
 unfold lvl at h
 by_cases a1:op=wOr
 ·subst a1;decide
 by_cases a2:op=wAnd
 ·subst a2;decide
 rw[if_neg a1,if_neg a2]at h
 by_cases a3:op=mEq\/op=mNe\/op=mLt\/op=mLe\/op=mGt\/op=mGe
 ·rcases a3 with rfl|rfl|rfl|rfl|rfl|rfl <;> decide
 rw[if_neg a3]at h
 by_cases a4:op=mPlus\/op=mMinus
 ·rcases a4 with rfl|rfl <;> decide
 rw[if_neg a4]at h
 by_cases a5:op=mStar\/op=wDiv\/op=wMod
 ·rcases a5 with rfl|rfl|rfl <;> decide
 rw[if_neg a5]at h
 omega
theorem fl_commas:∀(l:List X) (x:X),(∀ y,y∈x :: l->fl (pxs [y])<=24 * NX [y])->fl (commas (px (x :: l)))<=24 * (l.length+NX (x :: l)):=by
 intro l
 induction l with
 | nil=>intro x h;rw[px_cons,px,commas];have:=h x (by simp);simp;exact this
 | cons y l ih =>
  intro x h
  have h1:=ih y (fun z hz=>h z (by simp at hz ⊢;right;exact hz))
  have h2:=h x (by simp)
  rw[px_cons,px_cons,commas_cons,<-px_cons,yb,yb,NX_cons]
  have h3:fl [mComma,sp]=2:=rfl
  simp at h1 ⊢
  omega
theorem wx_mem {l:List X}(h:WX l):∀ y,y∈l->WX [y]:=by
 induction l with
 | nil=>intro y hy;cases hy
 | cons x l ih =>
  intro y hy
  have h1:WX [x]/\WX l:=by obtain⟨⟩:=x;rw[WX]at h;exact⟨by rw[WX];exact⟨h.1,WX_nil⟩,h.2⟩
  rcases List.mem_cons.mp hy with rfl|hy
  ·exact h1.1
  ·exact ih h1.2 y hy
theorem fl_px:∀(N:Nat) (x:X),SizeOf.sizeOf x<=N->WX [x]->fl (pxs [x])<=24 * NX [x]:=by
 intro N
 induction N with
 | zero=>intro x h;obtain⟨⟩:=x;simp at h
 | succ N ih =>
  intro x hs hw
  have s1:=sz_left x
  have s2:=sz_right x
  have s3:=sz_args x
  rw[NX1]
  obtain⟨code,pos,n,m,nm,op,le,ri,ar⟩:=x
  rw[WX]at hw
  simp only at s1 s2 s3 ⊢
  rcases hw.1 with⟨rfl,h1⟩|⟨rfl,h1⟩|⟨rfl,h1⟩|⟨rfl,h1⟩|⟨rfl,h1⟩|⟨rfl,h1⟩
  ·rw[pxs_1]
   have:=dec_top h1.1
   simp[fl];omega
  ·rw[pxs_2]
   have:=jK h1.2.1
   simpa using this
  ·obtain⟨_,h2,_,h3,h4,_⟩:=h1
   obtain⟨y,rfl⟩:=len1 h4
   have z1:=sz1 y
   have hy:=ih y (by omega) h3
   rw[pxs_3,yb,yb,yb]
   have:=jK h2
   have e1:fl [mLb]=1:=rfl
   have e2:fl [mRb]=1:=rfl
   simp;omega
  ·obtain⟨_,_,_,h2,h3,h4,_⟩:=h1
   obtain⟨y,rfl⟩:=len1 h4
   have z1:=sz1 y
   have hy:=ih y (by omega) h3
   rw[pxs_4,yb,yb]
   have:=uC (k:=5) (l:=[y]) (ps:=pxs [y])
   have e1:fl [op]<=3:=by rcases h2 with rfl|rfl <;> decide
   have e2:fl (if op=wNot then [sp] else [])<=1:=by split <;> decide
   simp;omega
  ·obtain⟨_,_,_,h2,h3,h4,h5,h6,_⟩:=h1
   obtain⟨y,rfl⟩:=len1 h4
   obtain⟨z,rfl⟩:=len1 h6
   have z1:=sz1 y
   have z2:=sz1 z
   have hy:=ih y (by omega) h3
   have hz:=ih z (by omega) h5
   rw[pxs_5,yb,yb]
   have:=uC (k:=lvl op) (l:=[y]) (ps:=pxs [y])
   have:=uC (k:=lvl op+1) (l:=[z]) (ps:=pxs [z])
   have:=op_len h2
   have e1:fl [sp,op,sp]=2+op.length:=by simp[fl,sp];omega
   simp;omega
  ·obtain⟨_,h2,_,_,_,h3⟩:=h1
   rw[pxs_6,yb,yb,yb]
   have:=jK h2
   have e1:fl [mLp]=1:=rfl
   have e2:fl [mRp]=1:=rfl
   have:fl (commas (px ar))<=24 * ((ar.length - 1)+NX ar):=by
    cases ar with
    | nil=>simp[px,commas,fl]
    | cons y l =>
     have:=fl_commas l y (fun z hz=>ih z (by have:=List.sizeOf_lt_of_mem hz;omega) (wx_mem h3 z hz))
     simpa using this
   simp;omega
theorem fl_ev {v:List X}(h:ev v):fl (pxs v)<=24 * NX v:=by
 obtain⟨x,rfl⟩:=len1 h.2.1
 exact fl_px _ x (Nat.le_refl _) h.1
theorem fl_tab (d:Nat):fl (tab d)=2 * d:=by
 induction d with
 | zero=>rfl
 | succ d ih=>unfold tab at ih ⊢;rw[List.replicate_succ,fl_cons,ih];simp;omega
theorem fl_ps:∀(N:Nat) (l:List S) (d:Nat),SizeOf.sizeOf l<=N->WS l->d+DS l<=11->fl (psts l d)<=24 * NS l:=by
 intro N
 induction N with
 | zero=>intro l d h;cases l <;> simp at h <;> omega
 | succ N ih =>
  intro l d hs hw hd
  cases l with
  | nil=>simp[psts,pst,fl]
  | cons s l =>
   have hd12:DS (s :: l)=max (DS [s]) (DS l):=DS_app [s] l
   have hl:=ih l d (by simp at hs;omega) (by obtain⟨⟩:=s;rw[WS]at hw;exact hw.2) (by omega)
   rw[psts_cons,NS_cons,yb]
   suffices hx:fl (ps1 s d)<=24 * NS [s] by omega
   have hd1:d+DS [s]<=11:=by omega
   have hsz:SizeOf.sizeOf s.thn<SizeOf.sizeOf s/\SizeOf.sizeOf s.els<SizeOf.sizeOf s:=by obtain⟨⟩:=s;simp;omega
   have hss:SizeOf.sizeOf s<=N:=by simp at hs;omega
   rw[NS1]
   rw[DS1]at hd1
   obtain⟨code,pos,nm,ix,v,th,el⟩:=s
   rw[WS]at hw
   simp only at hsz hd1 ⊢
   have h0:=fl_tab d
   have hsm:fl [mSemi,nl]=2:=rfl
   rcases hw.1 with⟨rfl,h1⟩|⟨rfl,h1⟩|⟨rfl,h1⟩|⟨hc,h1⟩|⟨rfl,h1⟩
   ·obtain⟨a1,a2,a3,rfl,rfl⟩:=h1
    rw[ps1_1]
    simp only [yb]
    have hv:=fl_ev a3
    have e0:fl [nm]<=10:=by have:=kh a1;simp[fl];omega
    have e1:fl [sp,mSet,sp]=4:=rfl
    have e2:fl (if ix.isEmpty=true then [] else [mLb]++pxs ix++[mRb])<=24 * (if ix.isEmpty=true then 0 else 2+NX ix):=by
     rcases a2 with rfl|⟨x1,x2,_⟩
     ·simp[fl]
     ·obtain⟨x,rfl⟩:=len1 x2
      have:=fl_px _ x (Nat.le_refl _) x1
      have q1:fl [mLb]=1:=rfl
      have q2:fl [mRb]=1:=rfl
      rw[if_neg (by simp),if_neg (by simp),yb,yb];omega
    simp at hd1
    simp only [if_true]
    omega
   ·obtain⟨_,_,a3,a4,a5⟩:=h1
    simp at hd1
    rw[ps1_2]
    simp only [yb]
    have hv:=fl_ev a3
    have ht:=ih th (d+1) (by omega) a4 (by omega)
    have he:=ih el (d+1) (by omega) a5 (by omega)
    have e1:fl [wIf,sp]=3:=rfl
    have e2:fl [sp,wThen,nl]=6:=rfl
    have e3:fl [wEnd]=3:=rfl
    have e4:fl (if el.isEmpty=true then [] else tab d++[wElse,nl]++psts el (d+1))<=3+24 * (if el.isEmpty=true then 0 else 1+NS el):=by
     split
     ·simp[fl]
     ·rw[yb,yb]
      have:fl [wElse,nl]=5:=rfl
      omega
    simp only [show ¬(2=1) by omega,if_false,if_true]
    omega
   ·obtain⟨_,_,a3,a4,rfl⟩:=h1
    simp at hd1
    rw[ps1_3]
    simp only [yb]
    have hv:=fl_ev a3
    have ht:=ih th (d+1) (by omega) a4 (by omega)
    have e1:fl [wWhile,sp]=6:=rfl
    have e2:fl [sp,wDo,nl]=4:=rfl
    have e3:fl [wEnd]=3:=rfl
    simp only [show ¬(3=1) by omega,show ¬(3=2) by omega,if_false,if_true]
    omega
   ·have hv:=fl_ev h1.2.2.1
    have hd2:d<=11:=by omega
    rcases hc with rfl|rfl
    ·rw[ps1_4]
     simp only [yb]
     have e1:fl [wReturn,sp]=7:=rfl
     simp only [show ¬(4=1) by omega,show ¬(4=2) by omega,show ¬(4=3) by omega,show ¬(4=6) by omega,if_false]
     omega
    ·rw[ps1_5]
     simp only [yb]
     have e1:fl [wWrite,sp]=6:=rfl
     simp only [show ¬(5=1) by omega,show ¬(5=2) by omega,show ¬(5=3) by omega,show ¬(5=6) by omega,if_false]
     omega
   ·have hv:=fl_ev h1.2.2.1
    have hd2:d<=11:=by omega
    rw[ps1_6]
    simp only [yb]
    simp only [show ¬(6=1) by omega,show ¬(6=2) by omega,show ¬(6=3) by omega,if_false,if_true]
    omega
theorem fl_names:∀(l:List Bs) (n:Bs),okns (n :: l)->fl (pnames (n :: l))<=12 * (l.length+1):=by
 intro l
 induction l with
 | nil=>intro n h;have:=kh (h n (by simp));simp[pnames,commas,fl];omega
 | cons m l ih =>
  intro n h
  have h1:=ih m (fun x hx=>h x (by simp at hx ⊢;right;exact hx))
  have h2:=kh (h n (by simp))
  rw[uq,yb]
  have e:fl [n,mComma,sp]=n.length+2:=by simp[fl,mComma,sp]
  simp;omega
theorem fl_nN {l:List Bs}(h:okns l):fl (pnames l)<=24 * nN l:=by
 cases l with
 | nil=>simp[pnames,commas,fl]
 | cons n l=>have:=fl_names l n h;unfold nN;simp;omega
theorem fl_star (b:Bool):fl (star b)=b2 b:=by cases b <;> rfl
theorem fl_pg {g:G}(h:WG g):fl (pg g)<=24 * nG g:=by
 unfold pg nG
 simp only [yb]
 have h1:=kh h.n
 have h2:=h.l
 have e0:fl [wVar,sp,g.name]=4+g.name.length:=by simp[fl,wVar,sp];omega
 have e1:fl [mColon,sp]=2:=rfl
 have e2:fl [mSemi,nl]=2:=rfl
 have e3:fl (if g.len=0 then [wInt] else [wArray,sp,dec g.len])<=25:=by
  split
  ·decide
  ·have:=dec_top (n:=g.len) (by unfold top;omega)
   simp[fl,wArray,sp];omega
 have e4:1<=(if g.len=0 then 1 else 2):=by split <;> omega
 rw[fl_star]
 omega
theorem fl_pp {p:Pr}(h:WP p):fl (pp p)<=24 * nP p:=by
 unfold pp nP
 simp only [yb]
 have h1:=kh h.n
 have e0:fl [wProc,sp,p.name]=5+p.name.length:=by simp[fl,wProc,sp];omega
 have e1:fl [mLp]=1:=rfl
 have e2:fl [mRp,mSemi,nl]=3:=rfl
 have e3:fl [wBegin,nl]=6:=rfl
 have e4:fl [wEnd,mSemi,nl]=5:=rfl
 have e5:=fl_nN h.ps
 have e6:fl (if p.vars=[] then [] else [wVar,sp]++pnames p.vars++[mSemi,nl])<=24 * (if p.vars=[] then 0 else 2+nN p.vars):=by
  split
  ·simp[fl]
  ·rw[yb,yb]
   have a1:fl [wVar,sp]=4:=rfl
   have a2:fl [mSemi,nl]=2:=rfl
   have:=fl_nN h.vs
   omega
 have e7:=fl_ps _ p.body 1 (Nat.le_refl _) h.b (by have:=h.d;omega)
 rw[fl_star]
 omega
theorem fl_maps {α:Type}(f:α->List Bs) (g:α->Nat):∀ l:List α,(∀ a,a∈l->fl (f a)<=24 * g a)->fl (l.map f).flatten<=24 * (l.map g).sum:=by
 intro l
 induction l with
 | nil=>intro _;exact Nat.le_refl _
 | cons a l ih =>
  intro h
  have:=ih (fun x hx=>h x (by simp[hx]))
  have:=h a (by simp)
  rw[List.map_cons,List.flatten_cons,yb,List.map_cons,List.sum_cons]
  omega
theorem print_len {m:M}(h:WM m):(print m).length<=24 * nM m:=by
 show fl (pm m)<=_
 unfold pm nM
 simp only [yb]
 have h1:=kh h.n
 have e0:fl [wModule,sp,m.name,mSemi,nl]=9+m.name.length:=by simp[fl,wModule,sp,mSemi,nl];omega
 have e3:fl [wBegin,nl]=6:=rfl
 have e4:fl [wEnd,mDot,nl]=5:=rfl
 have e6:fl (if m.imports=[] then [] else [wImport,sp]++pnames m.imports++[mSemi,nl])<=24 * (if m.imports=[] then 0 else 2+nN m.imports):=by
  split
  ·simp[fl]
  ·rw[yb,yb]
   have a1:fl [wImport,sp]=7:=rfl
   have a2:fl [mSemi,nl]=2:=rfl
   have:=fl_nN h.i
   omega
 have e7:=fl_ps _ m.body 1 (Nat.le_refl _) h.b (by have:=h.d;omega)
 have e8:=fl_maps pg nG m.vars (fun g hg=>fl_pg (h.g g hg))
 have e9:=fl_maps pp nP m.procs (fun p hp=>fl_pp (h.p p hp))
 omega
end Tp
