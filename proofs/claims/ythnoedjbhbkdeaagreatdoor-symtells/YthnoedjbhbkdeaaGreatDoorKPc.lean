import Derived.Test.YthnoedjbhbkdeaaGreatDoorKPb
set_option maxRecDepth 100000
set_option maxHeartbeats 4000000
namespace Tp
def Sr (l:List R):Prop:=∀ r∈l,r.mod.length<=1000000/\r.name.length<=1000000
theorem Sr.app {l m:List R}(h:Sr l) (k:Sr m):Sr (l++m):=fun r hr=>by
 rcases List.mem_append.1 hr with q|q
 ·exact h r q
 ·exact k r q
theorem Sr.nil:Sr []:=fun r hr=>by cases hr
theorem yz {n:Bs}(h:okn n):n.length<=1000000:=by have:=h.2.2;omega
theorem okr_len {m n:Bs}(h:okr m n):m.length<=1000000/\n.length<=1000000:=by
 refine⟨?_,yz h.2⟩
 rcases h.1 with q|q
 ·rw[q];simp
 ·exact yz q
theorem wx_small:∀(n:Nat) (l:List X),SizeOf.sizeOf l<=n->WX l->Sr (rx l):=by
 intro n
 induction n with
 | zero=>intro l hl;cases l <;> simp at hl <;> omega
 | succ n ih =>
  intro l hl h
  cases l with
  | nil=>rw[rx];exact Sr.nil
  | cons x xs =>
   obtain⟨code,pos,nn,m,nm,op,le,ri,ar⟩:=x
   rw[WX]at h
   simp at hl
   obtain⟨h1,h2⟩:=h
   have hxs:=ih xs (by omega) h2
   have key:Sr (if code=2\/code=3\/code=6 then [⟨code,pos,m,nm,ar.length⟩] else [])/\Sr (rx le)/\Sr (rx ri)/\Sr (rx ar):=by
    have one:okr m nm->Sr (if code=2\/code=3\/code=6 then [⟨code,pos,m,nm,ar.length⟩] else []):=by
     intro hk r hr
     split at hr
     ·rw[List.mem_singleton.1 hr];exact okr_len hk
     ·cases hr
    have non:¬(code=2\/code=3\/code=6)->Sr (if code=2\/code=3\/code=6 then [⟨code,pos,m,nm,ar.length⟩] else []):=by
     intro hk
     rw[if_neg hk];exact Sr.nil
    have nil:Sr (rx []):=by rw[rx];exact Sr.nil
    rcases h1 with⟨c,_,_,_,_,h5,h6,h7⟩|⟨c,_,h3,_,h5,h6,h7⟩|⟨c,_,h3,_,h5,_,h6,h7⟩|⟨c,_,_,_,_,h5,_,h6,h7⟩|⟨c,_,_,_,_,h5,_,h6,_,h7⟩|⟨c,_,h3,_,h5,h6,h7⟩
    ·exact⟨non (by omega),by rw[h5];exact nil,by rw[h6];exact nil,by rw[h7];exact nil⟩
    ·exact⟨one h3,by rw[h5];exact nil,by rw[h6];exact nil,by rw[h7];exact nil⟩
    ·exact⟨one h3,ih _ (by omega) h5,by rw[h6];exact nil,by rw[h7];exact nil⟩
    ·exact⟨non (by omega),ih _ (by omega) h5,by rw[h6];exact nil,by rw[h7];exact nil⟩
    ·exact⟨non (by omega),ih _ (by omega) h5,ih _ (by omega) h6,by rw[h7];exact nil⟩
    ·exact⟨one h3,by rw[h5];exact nil,by rw[h6];exact nil,ih _ (by omega) h7⟩
   rw[rx]
   exact(((key.1.app key.2.1).app key.2.2.1).app key.2.2.2).app hxs
theorem ws_small:∀(n:Nat) (l:List S),SizeOf.sizeOf l<=n->WS l->Sr (rs l):=by
 intro n
 induction n with
 | zero=>intro l hl;cases l <;> simp at hl <;> omega
 | succ n ih =>
  intro l hl h
  cases l with
  | nil=>rw[rs];exact Sr.nil
  | cons x xs =>
   obtain⟨code,pos,nm,ix,vl,th,el⟩:=x
   rw[WS]at h
   simp at hl
   obtain⟨h1,h2⟩:=h
   have hxs:=ih xs (by omega) h2
   have nx:Sr (rx []):=by rw[rx];exact Sr.nil
   have ns:Sr (rs []):=by rw[rs];exact Sr.nil
   have wv:ev vl->Sr (rx vl):=fun q=>wx_small _ _ (Nat.le_refl _) q.1
   have non:code≠1->Sr (if code=1 then [⟨if ix.isEmpty then 2 else 3,pos,[],nm,0⟩] else []):=by
    intro hk
    rw[if_neg hk];exact Sr.nil
   have key:Sr (if code=1 then [⟨if ix.isEmpty then 2 else 3,pos,[],nm,0⟩] else [])/\Sr (rx ix)/\Sr (rx vl)/\Sr (rs th)/\Sr (rs el):=by
    rcases h1 with⟨c,h3,h4,h5,h6,h7⟩|⟨c,_,h4,h5,h6,h7⟩|⟨c,_,h4,h5,h6,h7⟩|⟨c,_,h4,h5,h6,h7⟩|⟨c,_,h4,h5,_,h6,h7⟩
    ·refine⟨?_,?_,wv h5,by rw[h6];exact ns,by rw[h7];exact ns⟩
     ·intro r hr
      rw[if_pos c]at hr
      rw[List.mem_singleton.1 hr]
      exact⟨by simp,yz h3⟩
     ·rcases h4 with q|q
      ·rw[q];exact nx
      ·exact wx_small _ _ (Nat.le_refl _) q.1
    ·exact⟨non (by omega),by rw[h4];exact nx,wv h5,ih _ (by omega) h6,ih _ (by omega) h7⟩
    ·exact⟨non (by omega),by rw[h4];exact nx,wv h5,ih _ (by omega) h6,by rw[h7];exact ns⟩
    ·exact⟨non (by omega),by rw[h4];exact nx,wv h5,by rw[h6];exact ns,by rw[h7];exact ns⟩
    ·exact⟨non (by omega),by rw[h4];exact nx,wv h5,by rw[h6];exact ns,by rw[h7];exact ns⟩
   rw[rs]
   exact((((key.1.app key.2.1).app key.2.2.1).app key.2.2.2.1).app key.2.2.2.2).app hxs
structure Sml (m:M):Prop where
 ic:m.imports.length<=1000
 im:∀ n∈m.imports,n.length<=1000000
 gc:m.vars.length<=1000
 g:∀ g∈m.vars,g.name.length<=1000000
 pc:m.procs.length<=1000
 p:∀ p∈m.procs,p.name.length<=1000000/\p.params.length<=1000/\p.vars.length<=1000/\(∀ n∈p.params,n.length<=1000000)/\(∀ n∈p.vars,n.length<=1000000)/\Sr (rs p.body)
 b:Sr (rs m.body)
theorem WM.sml {m:M}(h:WM m):Sml m:=by
 refine⟨by have:=h.ic;omega,fun n hn=>yz (h.i n hn),by have:=h.gc;omega,fun g hg=>yz (h.g g hg).n,by have:=h.pc;omega,fun p hp=>?_,ws_small _ _ (Nat.le_refl _) h.b⟩
 have q:=h.p p hp
 have:=q.c
 exact⟨yz q.n,by omega,by omega,fun n hn=>yz (q.ps n hn),fun n hn=>yz (q.vs n hn),ws_small _ _ (Nat.le_refl _) q.b⟩
end Tp
