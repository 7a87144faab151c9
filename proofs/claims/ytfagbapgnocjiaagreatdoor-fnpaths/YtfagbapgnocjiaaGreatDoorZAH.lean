import Derived.Test.YtfagbapgnocjiaaGreatDoorZAG
import Derived.Test.YtfagbapgnocjiaaGreatDoorZBD
set_option maxRecDepth 100000
set_option maxHeartbeats 4000000
namespace Go.Proofs.YtfagbapgnocjiaaGreatDoor
open Go.RowKit
def Den.cells(s:Den):List Value:=[.I s.dir,.string s.name,.I s.child]
def dens(ps:List Den):List Value:=ps.flatMap Den.cells
theorem Den.cells_len(s:Den):s.cells.length=3:=rfl
theorem ziy(ps:List Den):(dens ps).length=ps.length*3:=zoh _ 3 Den.cells_len ps
theorem yaky(ps:List Den)(k:Nat)(h:k<ps.length):(dens ps)[k*3]?=some (.I ps[k].dir):=zbe _ 3 Den.cells_len ps k 0 h (by omega)
theorem zzh(ps:List Den)(k:Nat)(h:k<ps.length):(dens ps)[k*3+1]?=some (.string ps[k].name):=zbe _ 3 Den.cells_len ps k 1 h (by omega)
theorem yamc(ps:List Den)(k:Nat)(h:k<ps.length):(dens ps)[k*3+2]?=some (.I ps[k].child):=zbe _ 3 Den.cells_len ps k 2 h (by omega)
def RdD(w:World)(v:Value)(ps:List Den):Prop:=Rd w 3 v ps.length (dens ps)
theorem RdD.shape{w:World}{v:Value}{ps:List Den}(h:RdD w v ps):∃ ao cap,v=.slice ao ps.length cap/\ps.length<=cap/\(0<ps.length->∃ b o,ao=some ⟨b,o,none⟩/\b<w.heap.size /\
  ∀ k (h:k<ps.length),w.cell? ⟨b,o+k*3,none⟩=some (.I ps[k].dir)/\w.cell? ⟨b,o+k*3+1,none⟩=some (.string ps[k].name)/\w.cell? ⟨b,o+k*3+2,none⟩=some (.I ps[k].child)):=by
 obtain⟨_,ao,cap,rfl,h2,h3⟩:=h;refine⟨ao,cap,rfl,h2.1,fun hn=>?_⟩;obtain⟨b,o,rfl,hb,hc⟩:=h3 hn;exact⟨b,o,rfl,hb,fun k hk=>⟨(hc (k*3) (by omega)).trans (yaky ps k hk),(hc (k*3+1) (by omega)).trans (zzh ps k hk),(hc (k*3+2) (by omega)).trans (yamc ps k hk)⟩⟩
theorem zrh:(Tryz.prog.info? 52).map (fun i=>(i.zero,i.size,i.bytes))=some (some (.agg #[.I 0,.string ⟨#[]⟩,.I 0]),3,32):=by kernel_rfl
theorem yabr(us:List Se)(h:us.length=0):zdh (zdq us)=[]:=by rw[zdh,zca,if_pos h]
theorem zjb(us:List Se):(zdh (zdq us)).length<=6*us.length+8:=by
 have h1:=zbp ((jrn 0 (zdq us)).map (·.at_));have h2:=zbp ((cnt (us.length:Int)).map (·.at_));have h3:=zph us;simp only[List.length_map,zca,zmw]at h1;simp only[cnt,List.length_map,List.length_cons,List.length_nil]at h2;rw[zdh]
 split
 ·simp
 ·simp only[seg,cnt,List.length_append,List.length_map,zca,zmw,List.length_cons,List.length_nil]at *;omega
theorem zmg(v:Value)(us:List Se)(w:World)(h:RdE w v us)(hn:us.length<=64)(hz0:∀ k (h:k<us.length),0<=us[k].at_/\us[k].at_<336) :
  zC 165 #[v] w fun e w'=>∃ v',e=.returned v'/\Row w' 173 3 w.heap.size w'.heap.size v' (zdh (zdq us)).length (mis (zdh (zdq us)))/\zB w w':=by
 by_cases h0:0<us.length
 ·exact zuj v us w h hn h0 hz0
 ·have RE:=zaa (And.intro (znd w 173 3) ((Below.refl w.heap.size w).alloc zL (.cells #[] 173)));obtain⟨aZ,cZ,rfl,_,hcZ⟩:=h.shape;rw[yabr us (by omega)]
  have e0:us.length=0:=by omega
  clear h hcZ hz0;rw[e0]at *;clear e0;go_enter Tryz.func165,Tryz.ntmps165;go_wp2;go_ret;exact⟨_,rfl,RE.o.1,RE.o.2⟩
end Go.Proofs.YtfagbapgnocjiaaGreatDoor
