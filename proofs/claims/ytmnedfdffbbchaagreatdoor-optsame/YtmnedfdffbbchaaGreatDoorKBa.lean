import Derived.Test.YtmnedfdffbbchaaGreatDoorKJa
import Derived.Test.YtmnedfdffbbchaaGreatDoorKPa
set_option maxRecDepth 100000
set_option maxHeartbeats 4000000

namespace Vm
open Ob (O In)
open Tp (Bs both w64 mPlus mMinus mStar wDiv wMod mEq mNe mLt mLe mGt mGe)
structure Pl where
 o:O
 vars:List (List Int)
structure Fr where
 of:Bs
 at':Nat
 base:Nat
 many:Nat
 locals:List Int
structure St where
 there:Bs->Option Pl
 frames:List Fr
 stack:List Int
 out:List Int
 way:Nat
def marks8:List Bs:=[mPlus,mMinus,mStar,wDiv,wMod,mEq,mNe,mLt,mLe,mGt,mGe]
def ended (w:Nat) (s:St):St:={ s with way:=w }
def put (n:Int) (s:St):St:=if s.stack.length=10000 then ended 7 s else { s with stack:=n :: s.stack }
def taken (base:Nat) (s:St) (k:Int->St->St):St:=match s.stack with
 | []=>ended 8 s
 | n :: r=>if r.length+1<=base then ended 8 s else k n { s with stack:=r }
def named (p:Pl) (nm:Bs):List Int:=match p.o.vars.findIdx? (fun g=>g.name == nm) with
 | some i=>p.vars.getD i []
 | none=>[]
def used (s:St) (p:Pl) (x:In):Option (Pl× Bs):=match p.o.uses[x.b.toNat]? with
 | some u=>(s.there u.name).bind fun q=>(u.names[x.a.toNat]?).map fun nm=>(q,nm)
 | none=>none
def reached (s:St) (p:Pl) (x:In):List Int :=
 if x.b<0 then p.vars.getD x.a.toNat []
 else match used s p x with
  | some (q,nm)=>named q nm
  | none=>[]
def give (l:List Int) (k:Int) (s:St):St :=
 if 0<=k/\k<(l.length:Int) then put (l.getD k.toNat 0) s else ended 3 s
def laid (p:Pl) (i:Nat) (l:List Int):Pl:={ p with vars:=p.vars.set i l }
def set (of:Bs) (p:Pl) (i:Nat) (k n:Int) (s:St):St :=
 if 0<=k/\k<((p.vars.getD i []).length:Int) then { s with there:=fun m=>if m=of then some (laid p i ((p.vars.getD i []).set k.toNat n)) else s.there m } else ended 3 s
def takes (base:Nat):Nat->List Int->St->(List Int->St->St)->St
 | 0,l,s,k=>k l s
 | n+1,l,s,k=>taken base s fun v s'=>takes base n (v :: l) s' k
def enter (of:Bs) (q:Pl) (i:Nat) (l:List Int) (s:St):St:=match q.o.procs[i]? with
 | some e=>{ s with frames:=⟨of,e.at'.toNat,s.stack.length,e.locals.toNat,l++List.replicate (10 - l.length) 0⟩ :: s.frames }
 | none=>ended 8 s
def invoke (most base:Nat) (of:Bs) (q:Pl) (i:Nat) (s:St):St :=
 if s.frames.length=most then ended 4 s
 else takes base ((q.o.procs[i]?.map (·.args.toNat)).getD 0) [] s (enter of q i)
def other (most base:Nat) (p:Pl) (x:In) (s:St):St:=match used s p x with
 | some (q,nm)=>match q.o.names.findIdx? (· == nm) with
  | some i=>invoke most base q.o.name q i s
  | none=>ended 8 s
 | none=>ended 8 s
def reckon (op:Bs) (a b:Int) (s:St):St:=match both op a b with
 | some n=>put n s
 | none=>ended 2 s
def leave (base:Nat) (s:St):St:=taken base s fun n s' =>
 match s'.frames with
 | []=>ended 8 s'
 | _ :: fs =>
  let t:={ s' with stack:=n :: s'.stack.drop (s'.stack.length - base) }
  if fs=[] then ended 1 t else { t with frames:=fs }
def say (base:Nat) (s:St):St:=taken base s fun n s'=>if s'.out.length=200 then ended 6 s' else { s' with out:=s'.out++[n] }
def going (f:Fr) (fs:List Fr) (s:St):St:={ s with frames:=f :: fs }
def exec (most:Nat) (f:Fr) (fs:List Fr) (p:Pl) (x:In) (s:St):St :=
 if x.op=1 then put x.a s
 else if x.op=2 then taken f.base s fun _ s=>s
 else if x.op=3 then (if (f.many:Int)<=x.a then ended 8 s else put (f.locals.getD x.a.toNat 0) s)
 else if x.op=4 then (if (f.many:Int)<=x.a then ended 8 s else taken f.base s fun n s=>going { f with locals:=f.locals.set x.a.toNat n } fs s)
 else if x.op=5 then give (reached s p x) 0 s
 else if x.op=6 then taken f.base s fun n s=>set f.of p x.a.toNat 0 n s
 else if x.op=7 then taken f.base s fun k s=>give (reached s p x) k s
 else if x.op=8 then taken f.base s fun n s=>taken f.base s fun k s=>set f.of p x.a.toNat k n s
 else if x.op=9 then taken f.base s fun b s=>taken f.base s fun a s=>reckon (marks8.getD x.a.toNat []) a b s
 else if x.op=10 then taken f.base s fun n s=>put (w64 (-n)) s
 else if x.op=11 then taken f.base s fun n s=>put (if n=0 then 1 else 0) s
 else if x.op=12 then going { f with at':=x.a.toNat } fs s
 else if x.op=13 then taken f.base s fun n s=>if n=0 then going { f with at':=x.a.toNat } fs s else s
 else if x.op=14 then
  if x.b<0 then invoke most f.base f.of p x.a.toNat s else other most f.base p x s
 else if x.op=15 then leave f.base s
 else if x.op=16 then say f.base s
 else ended 1 s
def step (most:Nat) (s:St):St:=match s.frames with
 | []=>ended 8 s
 | f :: fs=>match s.there f.of with
  | none=>ended 8 s
  | some p=>match p.o.code[f.at']? with
   | none=>ended 8 s
   | some x=>exec most { f with at':=f.at'+1 } fs p x (going { f with at':=f.at'+1 } fs s)
def goes (most:Nat):Nat->St->St
 | 0,s=>if s.way=0 then ended 5 s else s
 | n+1,s=>if s.way=0 then goes most n (step most s) else s
theorem kE {most n:Nat}{s:St}(h:s.way≠0):goes most n s=s:=by cases n <;> simp[goes,h]
theorem vw {most:Nat}(m:Nat):∀(n:Nat) (s:St),(goes most n s).way≠5->goes most (n+m) s=goes most n s
 | 0,s,h=>by
  have h0:s.way≠0:=fun e=>h (by simp[goes,e,ended])
  rw[kE h0,kE h0]
 | n+1,s,h=>by
  rw[show n+1+m=(n+m)+1 by omega]
  by_cases e:s.way=0
  ·simp only [goes,e,if_true]at h ⊢
   exact vw m n _ h
  ·rw[kE e,kE e]
end Vm
