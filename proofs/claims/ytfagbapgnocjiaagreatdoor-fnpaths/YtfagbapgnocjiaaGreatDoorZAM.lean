import Derived.Test.YtfagbapgnocjiaaGreatDoorZAF
import Derived.Test.YtfagbapgnocjiaaGreatDoorZAJ
set_option maxRecDepth 100000
set_option maxHeartbeats 4000000
namespace Go.Proofs.YtfagbapgnocjiaaGreatDoor
open Go.RowKit
structure InI(W w:World)(vL:Value)(zs:List Int):Prop where
 l:w.ownsRow W.heap.size 3 1 vL zs.length (zeh zs)
 b:zB W w
theorem InI.z{W w:World}{vL:Value}{zs:List Int}(h:InI W w vL zs):W.heap.size<=w.heap.size:=h.b.size
theorem InI.below{W w w':World}{vL:Value}{zs:List Int}(h:InI W w vL zs)(hb:zB w w'):InI W w' vL zs :=
 ⟨((zac h.l).below hb zL).1,zab h.b hb h.z⟩
theorem InI.grow{W w w':World}{vL v':Value}{zs:List Int}(h:InI W w vL zs)(x:Int)(ho:w'.ownsRow W.heap.size 3 1 v' (zs.length+1) (zeh zs++[.I x]))(hg:w.grownBy w' vL.ownBlock):InI W w' v' (zs++[x]) :=
 ⟨by rw[yafv,List.length_append];exact ho,h.b.grown hg h.z (fun q hq=>(h.l.lt q hq).1)⟩
theorem zwr(x:Int):∀ u∈[Value.I x],u.oneCell'=true:=by
 intro u hu;rw[List.mem_singleton.1 hu];rfl
def zcz(zs:List Int):List Int:=zs.filter fun z=>z != 0
def zaq(ws:List Ino):List Int:=ws.flatMap fun x=>zcz x.map
def zss(ws:List Ino)(k:Nat)(j:Nat):List Int:=zaq (ws.take k)++zcz (((ws[k]?).map Ino.map).getD [] |>.take j)
theorem zue(ws:List Ino)(k:Nat):zss ws k 0=zaq (ws.take k):=by simp[zss,zcz]
theorem zvi{ws:List Ino}{k:Nat}(hk:k<ws.length){j:Nat}(hj:j<8):zss ws k (j+1)=if ws[k].map.getD j 0=0 then zss ws k j else zss ws k j++[ws[k].map.getD j 0]:=by
 have hl:j<ws[k].map.length:=hj
 have e:ws[k].map.getD j 0=ws[k].map[j]:=by rw[List.getD_eq_getElem?_getD,List.getElem?_eq_getElem hl];rfl
 unfold zss zcz;rw[List.getElem?_eq_getElem hk];simp only[Option.map_some,Option.getD_some];rw[List.take_succ_eq_append_getElem hl,List.filter_append,e]
 by_cases h:ws[k].map[j]=0
 ·rw[if_pos h,h];simp
 ·rw[if_neg h];simp[h]
theorem zvg{ws:List Ino}{k:Nat}(hk:k<ws.length):zss ws k 8=zaq (ws.take (k+1)):=by
 unfold zss zaq;rw[List.getElem?_eq_getElem hk,List.take_succ_eq_append_getElem hk,List.flatMap_append];simp[Ino.map]
theorem ztq(zs:List Int):(zcz zs).length<=zs.length:=List.length_filter_le _ _
theorem zhi(ws:List Ino):(zaq ws).length<=8*ws.length:=by
 induction ws with
 | nil=>simp[zaq]
 | cons x ws ih =>
  have h1:=ztq x.map;have h2:x.map.length=8:=rfl;unfold zaq at *;rw[List.flatMap_cons,List.length_append,List.length_cons];omega
theorem yaat(ws:List Ino)(k j:Nat)(hk:k<ws.length)(hj:j<=8):(zss ws k j).length<=8*ws.length:=by
 have h1:=zhi (ws.take k);have h2:=ztq (((ws[k]?).map Ino.map).getD [] |>.take j)
 have h3:(((ws[k]?).map Ino.map).getD [] |>.take j).length<=j:=by rw[List.length_take];omega
 unfold zss;rw[List.length_append];rw[List.length_take]at h1;omega
theorem idx8(x:Ino)(j:Nat)(hj:j<8)(w:World):(Instr.index 39 (.agg #[.I x.m0,.I x.m1,.I x.m2,.I x.m3,.I x.m4,.I x.m5,.I x.m6,.I x.m7]) (.I (j:Int))).run Tryz.prog w=.ok (.I (x.map.getD j 0)) w:=by
 rcases(show j=0\/j=1\/j=2\/j=3\/j=4\/j=5\/j=6\/j=7 by omega)with rfl|rfl|rfl|rfl|rfl|rfl|rfl|rfl<;>simp[Instr.index,run_underlying Tryz.underlying39,asIntOf,Ino.map,go_sem]
theorem zkc(v:Value)(ws:List Ino)(w:World)(h:RdN w v ws)(hn:ws.length<=4096) :
  zC 41 #[v] w fun e w'=>∃ v',e=.returned v'/\Row w' 3 1 w.heap.size w'.heap.size v' (zaq ws).length (zeh (zaq ws))/\zB w w':=by
 obtain⟨aW,cW,rfl,_,hcW⟩:=h.shape;have HW:=zaa hcW;clear h hcW;go_enter Tryz.func41,Tryz.ntmps41;go_wp2
 go_loopw [3,5,7,10] (fun vL _ _ i wr=>∃ k:Nat,k<=ws.length/\i=.I k/\Hid (InI w wr vL (zaq (ws.take k)))/\w.heap.size<=wr.heap.size) (fun _ _ _ i _=>ws.length-(intOf i).toNat)
 case atStart=>exact⟨0,by omega,rfl,⟨World.ownsRow_nil _ _ _ _,zR⟩,Nat.le_refl _⟩
 case round =>
  obtain⟨k,hk,rfl,I,hz⟩:=hrel
  by_cases hlt:k<ws.length
  ·obtain⟨b,o,rfl,hbl,hcell⟩:=HW.o (by omega);obtain⟨a0,a1,a2,a3,a4,a5,a6,a7,a8,a9,a10⟩:=hcell k hlt;have d0:=(I.o.b.cell (p:=⟨b,o+k*11,none⟩) hbl).trans a0;have d1:=(I.o.b.cell (p:=⟨b,o+k*11+1,none⟩) hbl).trans a1;have d2:=(I.o.b.cell (p:=⟨b,o+k*11+2,none⟩) hbl).trans a2;have d3:=(I.o.b.cell (p:=⟨b,o+k*11+3,none⟩) hbl).trans a3;have d4:=(I.o.b.cell (p:=⟨b,o+k*11+4,none⟩) hbl).trans a4;have d5:=(I.o.b.cell (p:=⟨b,o+k*11+5,none⟩) hbl).trans a5;have d6:=(I.o.b.cell (p:=⟨b,o+k*11+6,none⟩) hbl).trans a6;have d7:=(I.o.b.cell (p:=⟨b,o+k*11+7,none⟩) hbl).trans a7;have d8:=(I.o.b.cell (p:=⟨b,o+k*11+8,none⟩) hbl).trans a8;have d9:=(I.o.b.cell (p:=⟨b,o+k*11+9,none⟩) hbl).trans a9;have d10:=(I.o.b.cell (p:=⟨b,o+k*11+10,none⟩) hbl).trans a10
   have k0:(0:Int)<=(k:Int):=by omega
   have k1:(k:Int)<(ws.length:Int):=by omega
   have MZ:=zaa (zue ws k);have MF:=zaa (zvg hlt);have MS:=zaa (fun j (hj:j<8)=>zvi hlt hj);have ML:=zaa (fun j (hj:j<=8)=>yaat ws k j hlt hj);have HM:=zaa (fun j (hj:j<8)=>ws[k].at j hj);clear a0 a1 a2 a3 a4 a5 a6 a7 a8 a9 a10 hcell;generalize ws[k]=x at *
   have START:Hid (InI w (wr.alloc (.cells x.cs.toArray 41)) u3 (zss ws k 0)):=by
    have:=I.o.below ((Below.refl wr.heap.size wr).alloc zL (.cells x.cs.toArray 41));unfold Hid;rw[MZ.o];exact this
   unfold Ino.cs at START;have hz0:=START.o.z;clear I;go_wp2
   go_loopw [3,7,16] (fun vL _ i wq=>∃ j:Nat,j<=8/\i=.I j/\Hid (InI w wq vL (zss ws k j))/\w.heap.size<=wq.heap.size) (fun _ _ i _=>8-(intOf i).toNat)
   case atStart=>exact⟨0,by omega,rfl,START,hz0⟩
   case round =>
    obtain⟨j,hj,rfl,J,hzj⟩:=hrel;clear START hz0 d0 d1 d2 d3 d4 d5 d6 d7 d8 d9 d10
    have j0:(0:Int)<=(j:Int):=by omega
    by_cases hlj:j<8
    ·have j1:(j:Int)<8:=by omega
     have ix:=idx8 x j hlj;have MJ:=zaa (MS.o j hlj);have hlen:=ML.o j (by omega);generalize x.map.getD j 0=z at ix MJ
     by_cases q:z=0
     ·have q':(z != 0)=false:=by rw[q];rfl
      have G:Hid (InI w wr u3 (zss ws k (j+1))):=by unfold Hid;rw[MJ.o,if_pos q];exact J.o
      clear q J MJ;go_wp2
      go_roundw
      case rel=>exact⟨j+1,by omega,by go_num,G,hzj⟩
      case measure=>simp[intOf];omega
     ·have q':(z != 0)=true:=by rw[bne_iff_ne];exact q
      have JB:Hid (InI w (wr.alloc (.cells #[.I z] 3)) u3 (zss ws k j)):=J.o.below (zR.alloc zL _);have RB:=zaa (yajj wr z);have hzb:=JB.o.z
      have MN:Hid (zss ws k (j+1)=zss ws k j++[z]):=by unfold Hid;rw[MJ.o,if_neg q]
      clear q J MJ;go_wp2_with (at_builtin;refine zaf _ rfl (.tmp 21) (.tmp 23) 70 rfl w.heap.size 3 (.I 0) 1 8 Tryz.underlying70 zmu rfl (by decide) _ _ _ rfl JB.o.l _ 1 _ rfl RB.o (zwr _) (by simp[maxLen];omega) (by omega) (by omega) ?_);intro vN wN hownN hgrN;have G:=zaa (JB.o.grow z hownN hgrN);rw[<- MN.o]at G;have hzN:=G.o.z;clear hownN hgrN JB RB;go_wp2
      go_roundw
      case rel=>exact⟨j+1,by omega,by go_num,G,hzN⟩
      case measure=>simp[intOf];omega
    ·obtain rfl:j=8:=by omega
     have G:Hid (InI w wr u3 (zaq (ws.take (k+1)))):=by unfold Hid;rw[<- MF.o];exact J.o
     clear J;go_wp2
     go_roundw
     case rel=>exact⟨k+1,by omega,by go_num,G,hzj⟩
     case measure=>simp[intOf];omega
  ·obtain rfl:k=ws.length:=by omega
   have E:=zaa (show zaq (ws.take ws.length)=zaq ws by rw[List.take_length]);rw[E.o]at I;obtain⟨-,aL,cL,hvL,-⟩:=(zac I.o.l).rd;subst hvL;go_wp2;go_ret;exact⟨_,rfl,zac I.o.l,I.o.b⟩
def zhp(x:Den):Den:=⟨x.dir,x.name,-1⟩
def zyy(ps:List Den)(x:Den):Bool:=ps.any fun y=>zky x.dir x.name x.child y.dir y.name y.child
def zmq(ps:List Den):Bool:=decide (∀ k (h:k<ps.length),zyy (ps.take k) ps[k]=false)
theorem yaog{ps:List Den}{x:Den}{k:Nat}(hk:k<ps.length)(h:zky x.dir x.name x.child ps[k].dir ps[k].name ps[k].child=true):zyy ps x=true:=by
 unfold zyy;rw[List.any_eq_true];exact⟨ps[k],List.getElem_mem _,h⟩
theorem yajt{ps:List Den}{x:Den}(h:∀ j (h:j<ps.length),zky x.dir x.name x.child ps[j].dir ps[j].name ps[j].child=false):zyy ps x=false:=by
 unfold zyy;rw[List.any_eq_false];intro y hy;obtain⟨j,hj,rfl⟩:=List.getElem_of_mem hy;rw[h j hj];decide
theorem yakj{ps:List Den}(h:∀ k (h:k<ps.length),zyy (ps.take k) ps[k]=false):zmq ps=true:=decide_eq_true h
theorem yafd{ps:List Den}{k:Nat}(hk:k<ps.length)(h:zyy (ps.take k) ps[k]=true):zmq ps=false:=decide_eq_false (fun x=>by have:=x k hk;rw[h]at this;cases this)
theorem RdD.take{w:World}{ao:Option Addr}{c:Nat}{ps:List Den}{m:Nat}(h:RdD w (.slice ao ps.length c) ps)(hm:m<=ps.length):RdD w (.slice ao m c) (ps.take m):=by
 have:=Rd.take h hm;unfold RdD
 have e:(ps.take m).length=m:=by rw[List.length_take];omega
 have e2:dens (ps.take m)=(dens ps).take (m*3):=by
  have hl:=ziy (ps.take m)
  have e3:dens ps=dens (ps.take m)++dens (ps.drop m):=by
   unfold dens;rw[<- List.flatMap_append,List.take_append_drop]
  rw[e3];exact(List.take_left' (by rw[hl,e])).symm
 rw[e,e2];exact this
theorem zgk{B:Nat}{a w:World}(h:Below B a w)(n:Nat):Below B a (w.drewN n):=by
 induction n with
 | zero=>exact h
 | succ n ih=>exact⟨ih.os,ih.tape,ih.output,ih.size,ih.block⟩
theorem zsx(v:Value)(ps:List Den)(x:Den)(w:World)(h:RdD w v ps)(hn:ps.length<=1048576) :
  zC 154 #[v,x.v] w fun e w'=>∃ r:Int,e=.returned (.I r)/\(decide (0<=r)=zyy ps x)/\zB w w':=by
 obtain⟨aZ,cZ,rfl,_,hcZ⟩:=h.shape;have HZ:=zaa hcZ;have BW:=zaa ((Below.refl w.heap.size w).alloc zL (.cells #[.I x.dir,.string x.name,.I x.child] 52))
 have CB:Hid (∀ w',Below (w.alloc (.cells #[.I x.dir,.string x.name,.I x.child] 52)).heap.size (w.alloc (.cells #[.I x.dir,.string x.name,.I x.child] 52)) w'->w'.cell? ⟨w.heap.size,0,none⟩=some (.I x.dir)/\w'.cell? ⟨w.heap.size,1,none⟩=some (.string x.name)/\w'.cell? ⟨w.heap.size,2,none⟩=some (.I x.child)):=fun w' hb=>zaz ((hb.block _ (by simp)).trans (zai rfl))
 have hz:w.heap.size<=(w.alloc (.cells #[.I x.dir,.string x.name,.I x.child] 52)).heap.size:=BW.o.size
 obtain⟨W,hW⟩:=zE (w.alloc (.cells #[.I x.dir,.string x.name,.I x.child] 52))
 rw[<- hW]at BW CB hz;rw[show x.v=.agg #[.I x.dir,.string x.name,.I x.child]from rfl];clear h hcZ;go_enter Tryz.func154,Tryz.ntmps154;go_wp2;rw[<- hW];clear hW
 go_loopw [5,8] (fun _ i wr=>∃ k:Nat,k<=ps.length/\i=.I k/\Hid (zB W wr/\∀ j (h:j<ps.length),j<k->zky x.dir x.name x.child ps[j].dir ps[j].name ps[j].child=false)) (fun _ i _=>ps.length-(intOf i).toNat)
 case atStart=>exact⟨0,by omega,rfl,zR,fun j h a=>absurd a (by omega)⟩
 case round =>
  obtain⟨k,hk,rfl,H⟩:=hrel
  by_cases hlt:k<ps.length
  ·obtain⟨b,o,rfl,hbl,hcell⟩:=HZ.o (by omega);obtain⟨x0,x1,x2⟩:=CB.o wr H.o.1;have B0:=zaa (zab BW.o H.o.1 hz);obtain⟨a0,a1,a2⟩:=hcell k hlt;have d0:=(B0.o.cell (p:=⟨b,o+k*3,none⟩) hbl).trans a0;have d1:=(B0.o.cell (p:=⟨b,o+k*3+1,none⟩) hbl).trans a1;have d2:=(B0.o.cell (p:=⟨b,o+k*3+2,none⟩) hbl).trans a2
   have k0:(0:Int)<=(k:Int):=by omega
   have k1:(k:Int)<(ps.length:Int):=by omega
   clear hcell a0 a1 a2
   cases q:zky x.dir x.name x.child ps[k].dir ps[k].name ps[k].child with
   | true =>
    have E:=zaa (yaog hlt q);clear H;generalize ps[k]=y at *;go_wp2
    go_quiet (fail)
    go_wp2;go_ret;exact⟨_,rfl,by rw[E.o];exact decide_eq_true (by omega),zgk B0.o _⟩
   | false =>
    have H':Hid (∀ j (h:j<ps.length),j<k+1->zky x.dir x.name x.child ps[j].dir ps[j].name ps[j].child=false):=fun j h a=>by
     by_cases e:j=k
     ·subst e;exact q
     ·exact H.o.2 j h (by omega)
    have H1:=zaa H.o.1;clear H;generalize ps[k]=y at d0 d1 d2 q;go_wp2
    go_quiet (fail)
    go_wp2
    go_roundw
    case rel=>exact⟨k+1,by omega,by go_num,zgk H1.o _,H'.o⟩
    case measure=>simp[intOf];omega
  ·have E:=zaa (yajt (fun j h=>H.o.2 j h (by omega)));have B0:=zaa (zab BW.o H.o.1 hz);clear H;go_wp2;go_ret;exact⟨_,rfl,by rw[E.o];rfl,B0.o⟩
theorem zhc(v:Value)(ps:List Den)(x:Den)(w:World)(h:RdD w v ps)(hn:ps.length<=1048576) :
  zC 121 #[v,x.v] w fun e w'=>e=.returned (.bool (zyy ps x))/\zB w w':=by
 have HZ:=zaa h;obtain⟨aZ,cZ,rfl,_,_⟩:=h.shape;have BW:=zaa ((Below.refl w.heap.size w).alloc zL (.cells #[.I x.dir,.string x.name,.I x.child] 52));have LI:=zaa (fun w1 h=>zsx (.slice aZ ps.length cZ) ps x w1 h hn);obtain⟨x0,x1,x2⟩:=zaz (zai (w:=w) (o:=.cells #[.I x.dir,.string x.name,.I x.child] 52) rfl);rw[show x.v=.agg #[.I x.dir,.string x.name,.I x.child]from rfl];clear h;go_enter Tryz.func121,Tryz.ntmps121;go_wp2_with fail;refine(LI.o _ (Rd.below HZ.o BW.o)).mono ?_;rintro e w1 ⟨r,rfl,hr,hb⟩;have R:=zaa hr;have B1:=zaa (zab BW.o hb BW.o.size);clear hr hb x0 x1 x2;go_wp2;go_ret;exact⟨zah R.o,B1.o⟩
theorem zlc(v:Value)(ps:List Den)(w:World)(h:RdD w v ps)(hn:ps.length<=1048576) :
  zC 73 #[v] w fun e w'=>e=.returned (.bool (zmq ps))/\zB w w':=by
 have HR:=zaa h;obtain⟨aZ,cZ,rfl,hcap,hcZ⟩:=h.shape;have HZ:=zaa hcZ;clear h hcZ;go_enter Tryz.func73,Tryz.ntmps73;go_wp2
 go_loopw [3,4,7] (fun _ _ i wr=>∃ k:Nat,k<=ps.length/\i=.I k/\Hid (zB w wr/\∀ j (h:j<ps.length),j<k->zyy (ps.take j) ps[j]=false)) (fun _ _ i _=>ps.length-(intOf i).toNat)
 case atStart=>exact⟨0,by omega,rfl,zR,fun j h a=>absurd a (by omega)⟩
 case round =>
  obtain⟨k,hk,rfl,H⟩:=hrel
  by_cases hlt:k<ps.length
  ·obtain⟨b,o,rfl,hbl,hcell⟩:=HZ.o (by omega);obtain⟨a0,a1,a2⟩:=hcell k hlt;have d0:=(H.o.1.cell (p:=⟨b,o+k*3,none⟩) hbl).trans a0;have d1:=(H.o.1.cell (p:=⟨b,o+k*3+1,none⟩) hbl).trans a1;have d2:=(H.o.1.cell (p:=⟨b,o+k*3+2,none⟩) hbl).trans a2
   have k0:(0:Int)<=(k:Int):=by omega
   have k1:(k:Int)<(ps.length:Int):=by omega
   have k2:(k:Int)<=(cZ:Int):=by omega
   have RT:=zaa (RdD.take HR.o hk);have LT:=zaa (show(ps.take k).length<=1048576 by rw[List.length_take];omega);have hz:w.heap.size<=wr.heap.size:=H.o.1.size;have H1:=zaa H.o.1;clear hcell a0 a1 a2
   obtain⟨wb,hwb⟩:∃ wb:World,wb=wr.alloc (.cells #[.I ps[k].dir,.string ps[k].name,.I ps[k].child] 52):=⟨_,rfl⟩
   have B2:Hid (zB w wb):=by rw[hwb];exact H1.o.alloc hz _
   have SK:Hid (∀ w',zB wb w'->w'.cell? ⟨wr.heap.size,0,none⟩=some (.I ps[k].dir)/\w'.cell? ⟨wr.heap.size,1,none⟩=some (.string ps[k].name)/\w'.cell? ⟨wr.heap.size,2,none⟩=some (.I ps[k].child)):=fun w' hb=>zaz ((hb.block _ (by rw[hwb];simp)).trans (by rw[hwb];exact zai rfl))
   cases q:zyy (ps.take k) ps[k] with
   | false =>
    have H':Hid (∀ j (h:j<ps.length),j<k+1->zyy (ps.take j) ps[j]=false):=fun j h a=>by
     by_cases e:j=k
     ·subst e;exact q
     ·exact H.o.2 j h (by omega)
    have Q:=zaa q;clear q H;generalize ps[k]=x at d0 d1 d2 Q hwb SK;go_wp2_with fail;rw[<- hwb];clear hwb
    go_region_held3 (fun w'=>w'.cell? ⟨wr.heap.size,0,none⟩=some (.I x.dir)/\w'.cell? ⟨wr.heap.size,1,none⟩=some (.string x.name)/\w'.cell? ⟨wr.heap.size,2,none⟩=some (.I x.child))
     (exact SK.o _ (by repeat (first | exact BF.o | exact zR | refine Below.drew ?_)))
     (first
      | (go_at_call 121;refine(zhc _ (ps.take k) x _ (Rd.below RT.o (zab B2.o (by repeat (first | exact zR | refine Below.drew ?_)) B2.o.size)) LT.o).mono ?_;rw[Q.o];rintro e w1 ⟨rfl,hb1⟩;have BF:Hid (zB wb w1):=(by first | exact hb1 | exact zab (by repeat (first | exact zR | refine Below.drew ?_)) hb1 zL)))
    all_goals
     have B3:=zaa (zab B2.o BF.o B2.o.size);clear hb1 BF SK d0 d1 d2;go_wp2
     go_roundw
     case rel=>exact⟨k+1,by omega,by go_num,(by repeat (first | exact B3.o | refine Below.drew ?_)),H'.o⟩
     case measure=>simp[intOf];omega
   | true =>
    have E:=zaa (yafd hlt q);have Q:=zaa q;clear q H;generalize ps[k]=x at d0 d1 d2 Q hwb SK;go_wp2_with fail;rw[<- hwb];clear hwb
    go_region_held3 (fun w'=>w'.cell? ⟨wr.heap.size,0,none⟩=some (.I x.dir)/\w'.cell? ⟨wr.heap.size,1,none⟩=some (.string x.name)/\w'.cell? ⟨wr.heap.size,2,none⟩=some (.I x.child))
     (exact SK.o _ (by repeat (first | exact BF.o | exact zR | refine Below.drew ?_)))
     (first
      | (go_at_call 121;refine(zhc _ (ps.take k) x _ (Rd.below RT.o (zab B2.o (by repeat (first | exact zR | refine Below.drew ?_)) B2.o.size)) LT.o).mono ?_;rw[Q.o];rintro e w1 ⟨rfl,hb1⟩;have BF:Hid (zB wb w1):=(by first | exact hb1 | exact zab (by repeat (first | exact zR | refine Below.drew ?_)) hb1 zL)))
    all_goals
     have B3:=zaa (zab B2.o BF.o B2.o.size);clear hb1 BF SK d0 d1 d2;go_wp2;go_ret;exact⟨zah E.o.symm,(by repeat (first | exact B3.o | refine Below.drew ?_))⟩
  ·have E:=zaa (yakj (fun j h=>H.o.2 j h (by omega)));have H1:=zaa H.o.1;clear H;go_wp2;go_ret;exact⟨zah E.o.symm,H1.o⟩
end Go.Proofs.YtfagbapgnocjiaaGreatDoor
