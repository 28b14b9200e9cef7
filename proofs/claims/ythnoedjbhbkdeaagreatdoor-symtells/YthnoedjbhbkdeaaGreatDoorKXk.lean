import Derived.Test.YthnoedjbhbkdeaaGreatDoorKXa
import Derived.Test.YthnoedjbhbkdeaaGreatDoorKWj
import Derived.Test.YthnoedjbhbkdeaaGreatDoorKXj
set_option maxRecDepth 100000
set_option maxHeartbeats 4000000
namespace Go.Proofs.YthnoedjbhbkdeaaGreatDoor
open Go.RowKit
def modOf (l:List UInt8):Tp.M:=match Tp.parse l with
 | .ok m=>m
 | .error _=>⟨[],[],[],[],[]⟩
def numOf (l:List UInt8):Int× Int:=match Tp.parse l with
 | .ok _=>(0,-1)
 | .error er=>((er.1:Int),(er.2:Int))
theorem vm_empty (B:Nat) (w:World):VM B ⟨[],[],[],[],[]⟩ (.agg m0) w:=⟨none,none,none,none,0,0,0,0,[],[],rfl,Or.inl ⟨rfl,rfl,rfl⟩,Or.inl ⟨rfl,rfl,rfl⟩,rfl,Or.inl ⟨rfl,rfl,rfl⟩,by rw[RepS],Or.inl ⟨rfl,rfl⟩⟩
theorem VM.step {w w':World}{B:Nat}{m:Tp.M}{v:Value}(h:VM B m v w) (k:Below w.heap.size w w'):VM B m v w':=h.mono zn fun b _ hl=>k.block b hl
theorem VM.cells {w:World}{B:Nat}{m:Tp.M}{v:Value}(h:VM B m v w):∃(mn:ByteArray) (ia ga qa sa:Option Addr) (il ic gl gc ql qc sl sc:Nat),v=.agg #[.string mn,.slice ia il ic,.slice ga gl gc,.slice qa ql qc,.slice sa sl sc]:=by
 obtain⟨ia,ga,pa,ba,ic,gc,pc,bc,pcs,bcs,rfl,_⟩:=h
 exact⟨_,_,_,_,_,_,_,_,_,_,_,_,_,rfl⟩
theorem rparse_u (w:World) (l:List UInt8) (hl:l.length<=100000) (hg:Gl w):Calls Tryz.prog 6 #[.string (bs l)] w fun e w'=>∃(mn:ByteArray) (ia ga qa sa:Option Addr) (il ic gl gc ql qc sl sc:Nat),e=.returned (.tuple #[.agg #[.string mn,.slice ia il ic,.slice ga gl gc,.slice qa ql qc,.slice sa sl sc],.agg #[.int .i64 (numOf l).1,.int .i64 (numOf l).2]])/\VM w.heap.size (modOf l) (.agg #[.string mn,.slice ia il ic,.slice ga gl gc,.slice qa ql qc,.slice sa sl sc]) w'/\Below w.heap.size w w':=by
 refine(uk w l hl hg).mono ?_
 rintro e w' ⟨hb,hp⟩
 unfold RParseP at hp
 rcases hres:Tp.parse l with er|m
 rotate_left
 ·rw[hres]at hp
  rw[show modOf l=m by unfold modOf;rw[hres],show numOf l=(0,-1) by unfold numOf;rw[hres]]
  obtain⟨v,rfl,hv⟩:=hp
  obtain⟨mn,ia,ga,qa,sa,il,ic,gl,gc,ql,qc,sl,sc,rfl⟩:=hv.cells
  exact⟨mn,ia,ga,qa,sa,il,ic,gl,gc,ql,qc,sl,sc,rfl,hv,hb⟩
 ·rw[hres]at hp
  rw[show modOf l=⟨[],[],[],[],[]⟩ by unfold modOf;rw[hres],show numOf l=((er.1:Int),(er.2:Int)) by unfold numOf;rw[hres]]
  dsimp only at hp
  subst hp
  exact⟨⟨#[]⟩,none,none,none,none,0,0,0,0,0,0,0,0,rfl,vm_empty _ _,hb⟩
end Go.Proofs.YthnoedjbhbkdeaaGreatDoor
