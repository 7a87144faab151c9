/- The page of a tier with the least or the most heat: by the model. -/
import Derived.Test.YtogcbbkhnpmgeaaGreatDoorZBI
set_option maxRecDepth 100000
set_option maxHeartbeats 16000000
namespace Go.Proofs.YtogcbbkhnpmgeaaGreatDoor
open Go.RowKit
theorem zfi{B:Nat}{a w:World}(h:Below B a w)(q:Nat):Below B a (w.drewN q):=⟨h.os,h.tape,h.output,h.size,h.block⟩
theorem yaue{ns:List Ino}{hs:List Int}{t:Int}{hot:Bool}{b:Int}{i:Nat}(h:pgE ns i=0\/¬ pgE ns i%4=t):pkS ns hs t hot b i=b:=by unfold pkS;rw[if_pos h]
theorem yang{ns:List Ino}{hs:List Int}{t:Int}{hot:Bool}{b:Int}{i:Nat}(h:¬ (pgE ns i=0\/¬ pgE ns i%4=t))(c:b<0\/(hot=true/\hs.getD b.toNat 0<hs.getD i 0)\/(hot=false/\hs.getD i 0<hs.getD b.toNat 0)):pkS ns hs t hot b i=(i:Int):=by unfold pkS;rw[if_neg h,if_pos c]
theorem yarb{ns:List Ino}{hs:List Int}{t:Int}{hot:Bool}{b:Int}{i:Nat}(h:¬ (pgE ns i=0\/¬ pgE ns i%4=t))(c:¬ (b<0\/(hot=true/\hs.getD b.toNat 0<hs.getD i 0)\/(hot=false/\hs.getD i 0<hs.getD b.toNat 0))):pkS ns hs t hot b i=b:=by unfold pkS;rw[if_neg h,if_neg c]
theorem zym(v vh:Value)(ns:List Ino)(ds:List Den)(hs:List Int)(t:Int)(hot:Bool)(w:World)(h:RdIm w v ns ds)(hi:zcr ns ds=true)(hh:RdI w vh hs)(hb:ziu hs=true) :
  zC 105 #[v,vh,.I t,.bool hot] w fun e w'=>e=.returned (.I (pkN ns hs t hot 128))/\zB w w':=by
 have TI:=zaa (fun k (hk:k<16) j=>yajs hi hk j);obtain⟨l16,l24,_⟩:=zaw hi;have L16:=zaa l16;have L128:=zaa (zbm hb).1;obtain⟨vW,vP,rfl,h1,h2⟩:=h;obtain⟨aW,cW,rfl,_,hcW⟩:=h1.shape;obtain⟨aP,cP,rfl,_,hcP⟩:=h2.shape;obtain⟨aH,cH,rfl,_,hcH⟩:=hh.shape;obtain⟨bW,oW,rfl,hblW,hcellW⟩:=hcW (by omega);obtain⟨bH,oH,rfl,hblH,hcellH⟩:=hcH (by have:=L128.o;omega)
 have HM:Hid (∀ k,k<16->∀ w',zB w w'->∀ j,j<8->w'.cell? ⟨bW,oW+k*11+3+j,none⟩=some (.I ((zam ns k).map.getD j 0))):=fun k hk w' hb j hj=>by
  rw[zbj (by have:=L16.o;omega:k<ns.length)];obtain⟨a0,a1,a2,a3,a4,a5,a6,a7,a8,a9,a10⟩:=hcellW k (by omega)
  rcases(show j=0\/j=1\/j=2\/j=3\/j=4\/j=5\/j=6\/j=7 by omega)with rfl|rfl|rfl|rfl|rfl|rfl|rfl|rfl
  ·exact(hb.cell (p:=⟨bW,oW+k*11+3,none⟩) hblW).trans a3
  ·exact(hb.cell (p:=⟨bW,oW+k*11+4,none⟩) hblW).trans a4
  ·exact(hb.cell (p:=⟨bW,oW+k*11+5,none⟩) hblW).trans a5
  ·exact(hb.cell (p:=⟨bW,oW+k*11+6,none⟩) hblW).trans a6
  ·exact(hb.cell (p:=⟨bW,oW+k*11+7,none⟩) hblW).trans a7
  ·exact(hb.cell (p:=⟨bW,oW+k*11+8,none⟩) hblW).trans a8
  ·exact(hb.cell (p:=⟨bW,oW+k*11+9,none⟩) hblW).trans a9
  ·exact(hb.cell (p:=⟨bW,oW+k*11+10,none⟩) hblW).trans a10
 have HH:Hid (∀ k,k<128->∀ w',zB w w'->w'.cell? ⟨bH,oH+k,none⟩=some (.I (hs.getD k 0))):=fun k hk w' hb=>by
  have q:k<hs.length:=by have:=L128.o;omega
  rw[List.getD_eq_getElem?_getD,List.getElem?_eq_getElem q];exact(hb.cell (p:=⟨bH,oH+k,none⟩) hblH).trans (hcellH k q)
 clear h1 h2 hi hcW hcP hcellW hcH hcellH l16 l24 hh hb
 obtain⟨W,hW⟩:=zE (w.alloc (.cells #[.slice (some ⟨bW,oW,none⟩) ns.length cW,.slice aP ds.length cP] 51))
 have CA:Hid (∀ w',zB W w'->w'.cell? ⟨w.heap.size,0,none⟩=some (.slice (some ⟨bW,oW,none⟩) ns.length cW)/\w'.cell? ⟨w.heap.size,1,none⟩=some (.slice aP ds.length cP)):=fun w' hb=>by
  have:w'.heap[w.heap.size]?=some (.cells #[.slice (some ⟨bW,oW,none⟩) ns.length cW,.slice aP ds.length cP] 51 (0,0)):=(hb.block _ (by rw[hW];simp)).trans (by rw[hW];exact zah rfl);exact⟨(zac this).1,(zac this).2.1⟩
 have BW:Hid (zB w W):=by rw[hW];exact zR.alloc zL _
 have PK:=zaa (fun m=>ztj ns hs t hot m);have PN:=zaa (fun m=>show pkN ns hs t hot (m+1)=pkS ns hs t hot (pkN ns hs t hot m) m from rfl);have P0:=zaa (show pkN ns hs t hot 0=-1 from rfl)
 have PG:=zaa (fun a b (_:b<8)=>show pgE ns (8*a+b)=(zam ns a).map.getD b 0 by
  unfold pgE
  rw[show(8*a+b)/8=a by omega,show(8*a+b)%8=b by omega])
 go_enter Tryz.func105,Tryz.ntmps105;go_upto_region 2 with fail;rw[<- hW];clear hW;go_wp2_with fail
 go_loopw [9,10] (fun b i wr=>∃ m:Nat,m<=128/\i=.I (m:Int)/\b=.I (pkN ns hs t hot m)/\Hid (zB W wr)) (fun _ i _=>128-(intOf i).toNat)
 case atStart=>exact⟨0,by omega,rfl,by rw[P0.o],zR⟩
 case round =>
  obtain⟨m,hm,rfl,rfl,J⟩:=hrel;obtain⟨x0,x1⟩:=CA.o _ J.o;have JW:=zaa (zab BW.o J.o BW.o.size)
  have m0:(0:Int)<=(m:Int):=by omega
  by_cases hlt:m<128
  case neg =>
   obtain rfl:m=128:=by omega
   go_wp2;go_ret;exact⟨rfl,JW.o⟩
  have m1:(m:Int)<128:=by omega
  obtain⟨a,b,ha,hb8,hab⟩:∃ a b:Nat,a<16/\b<8/\m=8*a+b:=⟨m/8,m%8,by omega,by omega,by omega⟩
  have PE:Hid (pgE ns m=(zam ns a).map.getD b 0):=by unfold Hid;rw[hab];exact PG.o a b hb8
  have e0:=HM.o a ha wr JW.o b hb8;rw[<- PE.o]at e0;have hm0:=HH.o m hlt wr JW.o;obtain⟨z0,z1⟩:=zdv (by have:=TI.o a ha b;rw[<- PE.o]at this;exact this);obtain⟨r0,r1⟩:=PK.o m
  have SN:Hid (pgE ns m=0\/¬ pgE ns m%4=t->pkN ns hs t hot (m+1)=pkN ns hs t hot m):=fun h=>(PN.o m).trans (yaue h)
  have ST:Hid (¬ (pgE ns m=0\/¬ pgE ns m%4=t)->(pkN ns hs t hot m<0\/(hot=true/\hs.getD (pkN ns hs t hot m).toNat 0<hs.getD m 0)\/(hot=false/\hs.getD m 0<hs.getD (pkN ns hs t hot m).toNat 0))->pkN ns hs t hot (m+1)=(m:Int)):=fun h c=>(PN.o m).trans (yang h c)
  have SX:Hid (¬ (pgE ns m=0\/¬ pgE ns m%4=t)->¬ (pkN ns hs t hot m<0\/(hot=true/\hs.getD (pkN ns hs t hot m).toNat 0<hs.getD m 0)\/(hot=false/\hs.getD m 0<hs.getD (pkN ns hs t hot m).toNat 0))->pkN ns hs t hot (m+1)=pkN ns hs t hot m):=fun h c=>(PN.o m).trans (yarb h c)
  have tq:Int.tdiv (m:Int) 8=(a:Int):=by rw[Int.tdiv_eq_ediv_of_nonneg (by omega)];omega
  have tr:Int.tmod (m:Int) 8=(b:Int):=by rw[Int.tmod_eq_emod_of_nonneg (by omega)];omega
  have a0:(0:Int)<=(a:Int):=by omega
  have a1:(a:Int)<(ns.length:Int):=by have:=L16.o;omega
  have b0:(0:Int)<=(b:Int):=by omega
  have b1:(b:Int)<8:=by omega
  have mh:(m:Int)<(hs.length:Int):=by have:=L128.o;omega
  have te:Int.tmod (pgE ns m) 4=pgE ns m%4:=Int.tmod_eq_emod_of_nonneg z0
  have HB:Hid (∀ q:Nat,q<128->wr.cell? ⟨bH,oH+q,none⟩=some (.I (hs.getD q 0))):=fun q hq=>HH.o q hq wr JW.o
  have hl:hs.length<=128:=by have:=L128.o;omega
  have HL:=zaa (show 128<=hs.length by have:=L128.o;omega);clear HM TI PG PN PK P0 PE HH L16 L128 hab CA BW;generalize pgE ns m=e at *;generalize pkN ns hs t hot m=pb at *
  obtain⟨nx,hnx⟩:∃ nx,pkN ns hs t hot (m+1)=nx:=⟨_,rfl⟩
  have HN:=zaa hnx;rw[hnx]at SN ST SX;clear hnx
  by_cases c1:e=0
  ·subst c1;obtain rfl:=SN.o (.inl rfl);clear SN ST SX HB hm0 JW;go_wp2
   go_roundw
   case rel=>exact⟨m+1,by omega,by go_num,by rw[HN.o],J⟩
   case measure=>simp[intOf];omega
  have q1:(e == 0)=false:=by rw[beq_eq_false_iff_ne];exact c1
  by_cases c2:e%4=t
  case neg =>
   obtain rfl:=SN.o (.inr c2)
   have q2:(e%4 != t)=true:=by rw[bne_iff_ne];exact c2
   clear SN ST SX HB hm0 JW;go_wp2
   go_roundw
   case rel=>exact⟨m+1,by omega,by go_num,by rw[HN.o],J⟩
   case measure=>simp[intOf];omega
  have q2:(e%4 != t)=false:=by rw[bne_eq_false_iff_eq];exact c2
  have cc:¬ (e=0\/¬ e%4=t):=fun h=>h.elim c1 (fun h=>h c2)
  have ST2:=zaa (ST.o cc);have SX2:=zaa (SX.o cc);clear SN ST SX cc c1 c2
  by_cases c3:pb<0
  ·obtain rfl:=ST2.o (.inl c3);have d3:decide (pb<0)=true:=decide_eq_true c3;clear ST2 SX2 HB JW;go_wp2_with fail
   go_quiet (fail)
   go_wp2
   go_roundw
   case rel=>exact⟨m+1,by omega,by go_num,by rw[HN.o],zfi J.o _⟩
   case measure=>simp[intOf];omega
  obtain⟨q,rfl⟩:∃ q:Nat,pb=(q:Int):=⟨pb.toNat,by omega⟩
  have q128:q<128:=by omega
  have hq0:=HB.o q q128;rw[Int.toNat_natCast]at ST2 SX2;have d3:decide ((q:Int)<0)=false:=decide_eq_false (by omega)
  have qh0:(0:Int)<=(q:Int):=by omega
  have qh:(q:Int)<(hs.length:Int):=by have:=HL.o;omega
  generalize hs.getD q 0=zq at *;generalize hs.getD m 0=zm at *;clear HB c3 JW
  cases hot with
  | true =>
   by_cases c4:zq<zm
   ·obtain rfl:=ST2.o (.inr (.inl ⟨rfl,c4⟩));have d4:decide (zm>zq)=true:=decide_eq_true c4;clear ST2 SX2;go_wp2_with fail
    go_quiet (fail)
    go_wp2
    go_roundw
    case rel=>exact⟨m+1,by omega,by go_num,by rw[HN.o],zfi J.o _⟩
    case measure=>simp[intOf];omega
   ·obtain rfl:=SX2.o (fun h=>by rcases h with h | h | h<;>first | omega | cases h.1);have d4:decide (zm>zq)=false:=decide_eq_false c4;clear ST2 SX2;go_wp2_with fail
    go_quiet (fail)
    go_wp2
    go_roundw
    case rel=>exact⟨m+1,by omega,by go_num,by rw[HN.o],zfi J.o _⟩
    case measure=>simp[intOf];omega
  | false =>
   by_cases c4:zm<zq
   ·obtain rfl:=ST2.o (.inr (.inr ⟨rfl,c4⟩));have d4:decide (zm<zq)=true:=decide_eq_true c4;clear ST2 SX2;go_wp2_with fail
    go_quiet (fail)
    go_wp2
    go_roundw
    case rel=>exact⟨m+1,by omega,by go_num,by rw[HN.o],zfi J.o _⟩
    case measure=>simp[intOf];omega
   ·obtain rfl:=SX2.o (fun h=>by rcases h with h | h | h<;>first | omega | cases h.1);have d4:decide (zm<zq)=false:=decide_eq_false c4;clear ST2 SX2;go_wp2_with fail
    go_quiet (fail)
    go_wp2
    go_roundw
    case rel=>exact⟨m+1,by omega,by go_num,by rw[HN.o],zfi J.o _⟩
    case measure=>simp[intOf];omega
end Go.Proofs.YtogcbbkhnpmgeaaGreatDoor
