import Derived.Test.YtogcbbkhnpmgeaaGreatDoorZAX
set_option maxRecDepth 100000
set_option maxHeartbeats 4000000
namespace Go.Proofs.YtogcbbkhnpmgeaaGreatDoor
open Go.RowKit
def wrW(ls:List Int)(ns:List Ino)(x:Int):List Int:=if 0<=fpI ns then ls.set (312+fpI ns).toNat x else ls
theorem yars(ls:List Int)(ns:List Ino)(x:Int):zna (ls,[]) (wrS ns x)=(wrW ls ns x,[]):=by
 unfold wrS wrW
 by_cases c:0<=fpI ns
 ·rw[if_pos c,if_pos c];exact ziv [up (312+fpI ns) x] ls
 ·rw[if_neg c,if_neg c];rfl
theorem yaqs(ls:List Int)(ns:List Ino)(x:Int):(wrW ls ns x).length=ls.length:=by
 unfold wrW
 split
 ·rw[List.length_set]
 ·rfl
theorem yapq{ls:List Int}{ns:List Ino}{x:Int}(hl:ls.length=336){z:Int}(hz:0<=z/\z<312):wdI (wrW ls ns x) z=wdI ls z:=by
 unfold wrW
 by_cases c:0<=fpI ns
 ·rw[if_pos c];obtain⟨k,hk,e,-⟩:=zcx c;have e':fpI ns=(k:Int):=e;rw[zdy (by omega) (by rw[e'];omega) (by omega),if_neg (by omega)]
 ·rw[if_neg c]
theorem yaon{ls:List Int}{ns:List Ino}{ds:List Den}(h:Wi ls ns ds)(c0:wdI ls 8=0){s:ByteArray}{page x:Int}{l:List Mi}(e:wrI ns ds s page x=(l,0)) :
  ∃ i p:Nat,∃ ls',i<16/\p<8/\(flI ns ds s).1=(i:Int)/\page=(p:Int)/\zna (ls,[]) l=(ls',[])/\wdI ls' 8=0/\Wi ls' (ns.set i (ztd (zam ns i).kind (if (p:Int)<(zam ns i).size then(zam ns i).size else(p:Int)+1) (zam ns i).links ((zam ns i).map.set p (wrE ns)))) ds:=by
 unfold wrI at e
 by_cases c:(flI ns ds s).2=0
 ·rw[if_pos c]at e;obtain⟨i,hi,ei,k⟩:=zfh h.img c;rw[ei]at e;unfold wrF at e
  by_cases d:(0<=page/\page<8)/\zaz x=true
  ·rw[if_pos d]at e
   by_cases f:fpI ns<0/\fsI ns<0
   ·rw[if_pos f]at e;simp at e
   ·rw[if_neg f]at e
    obtain⟨p,rfl⟩:∃ p:Nat,page=(p:Int):=⟨page.toNat,by omega⟩
    have hp:p<8:=by omega
    obtain⟨te,he,new⟩:=yadv f
    have l1:(wrW ls ns x).length=336:=by rw[yaqs];exact h.len
    have h1:Wi (wrW ls ns x) ns ds:=zqv h l1 (fun z hz=>yapq h.len (by omega));have q:=zrl h1 hi k hp te he new
    have c1:wdI (wrW ls ns x) 8=0:=by rw[yapq h.len (by omega)];exact c0
    have sz:zcz ns (i:Int)=(zam ns i).size:=by unfold zcz;rw[Int.toNat_natCast]
    rw[sz]at e;obtain⟨rfl,-⟩:=Prod.mk.inj e;refine⟨i,p,zoa (wrW ls ns x) (wrU (i:Int) (p:Int) (zam ns i).size (wrE ns)),hi,hp,ei,rfl,?_,zor l1 c1,yagn l1 ?_ q.1 q.2⟩
    ·rw[zdg,yars,zue]
    ·unfold wrU
     split<;>simp
  ·rw[if_neg d]at e;simp at e
 ·rw[if_neg c]at e;exact absurd (Prod.mk.inj e).2 c
theorem zsu{i:Nat}(hi:i<16){f:Int}(hf:0<=f/\f<11)(x:Int):UpIn [⟨48+12*(i:Int)+f,x⟩]:=fun u hu=>by
 rw[List.mem_singleton.1 hu];exact⟨by show 48<=48+12*(i:Int)+f;omega,by show 48+12*(i:Int)+f<312;omega⟩
theorem yamh{ws:List Ino}{ps:List Den}{s:ByteArray}{kind:Int}{us:List Se}(h:Img ws ps)(e:mkI ws ps s kind=(us,0)):UpIn us/\us.length<=16:=by
 unfold mkI at e
 by_cases c:(paI ws ps s).2.2=0
 ·rw[if_pos c]at e;unfold mkN at e
  split at e
  ·simp at e
  ·split at e
   ·simp at e
   ·rename_i f1
    split at e
    ·simp at e
    ·rename_i f2;obtain⟨rfl,-⟩:=Prod.mk.inj e;obtain⟨i,ei,hi,-⟩:=zxf h f1;obtain⟨k,ek,hk,-⟩:=zso h f2;rw[ei,ek];unfold mkU;refine⟨UpIn.app (fun u hu=>?_) (zol hk _),by simp[enL]⟩
     rcases List.mem_cons.1 hu with rfl | hu
     ·exact⟨by show 48<=48+12*(i:Int);omega,by show 48+12*(i:Int)<312;omega⟩
     ·exact zsu hi (by omega) 1 u hu
 ·rw[if_neg c]at e;exact absurd (Prod.mk.inj e).2 c
theorem yauz{i:Nat}(hi:i<16)(x:Ino){k:Nat}(hk:k<=8):UpIn (wrL (i:Int) x k):=by
 unfold wrL;refine UpIn.app (fun u hu=>?_) (fun u hu=>?_)
 ·simp only[List.mem_cons,List.not_mem_nil,or_false]at hu
  rcases hu with rfl|rfl|rfl
  ·exact⟨by show 48<=48+12*(i:Int);omega,by show 48+12*(i:Int)<312;omega⟩
  ·exact⟨by show 48<=48+12*(i:Int)+1;omega,by show 48+12*(i:Int)+1<312;omega⟩
  ·exact⟨by show 48<=48+12*(i:Int)+2;omega,by show 48+12*(i:Int)+2<312;omega⟩
 ·obtain⟨j,hj,rfl⟩:=List.mem_map.1 hu;have:=List.mem_range.1 hj;exact⟨by show 48<=48+12*(i:Int)+(3+(j:Int));omega,by show 48+12*(i:Int)+(3+(j:Int))<312;omega⟩
theorem yatt{ws:List Ino}{ps:List Den}{s:ByteArray}{us:List Se}(h:Img ws ps)(e:rmI ws ps s=(us,0)):UpIn us/\us.length<=16:=by
 unfold rmI at e
 by_cases c:(paI ws ps s).2.2=0
 ·rw[if_pos c]at e;unfold rmN at e
  cases q:zbs ps (paI ws ps s).1 (paI ws ps s).2.1 with
  | none=>rw[q]at e;simp at e
  | some k =>
   rw[q]at e;simp only at e;obtain⟨hk,i,ei,_,hi,-⟩:=zlb h q;unfold rmC at e
   split at e
   ·simp at e
   ·obtain⟨rfl,-⟩:=Prod.mk.inj e;rw[ei];unfold rmU
    split
    ·exact⟨UpIn.app (zol hk _) (zsu hi (by omega) _),by simp[enL]⟩
    ·exact⟨UpIn.app (zol hk _) (yauz hi _ zL),by rw[List.length_append,zwy];simp[enL]⟩
 ·rw[if_neg c]at e;exact absurd (Prod.mk.inj e).2 c
theorem yatw{ws:List Ino}{ps:List Den}{s t:ByteArray}{us:List Se}(h:Img ws ps)(e:lnI ws ps s t=(us,0)):UpIn us/\us.length<=16:=by
 unfold lnI at e
 by_cases c0:(lkI ws ps s).2=0
 ·rw[if_pos c0]at e
  split at e
  ·simp at e
  ·rename_i kk;obtain⟨i,ei,hi,_,_⟩:=zjy h c0 kk;unfold lnP at e
   by_cases c:(paI ws ps t).2.2=0
   ·rw[if_pos c]at e;unfold lnN at e
    split at e
    ·simp at e
    ·split at e
     ·simp at e
     ·rename_i f2;obtain⟨rfl,-⟩:=Prod.mk.inj e;obtain⟨k,ek,hk,-⟩:=zso h f2;rw[ei,ek];exact⟨UpIn.app (zol hk _) (zsu hi (by omega) _),by simp[enL]⟩
   ·rw[if_neg c]at e;exact absurd (Prod.mk.inj e).2 c
 ·rw[if_neg c0]at e;exact absurd (Prod.mk.inj e).2 c0
theorem yate{ws:List Ino}{ps:List Den}{s t:ByteArray}{us:List Se}(h:Img ws ps)(e:rnI ws ps s t=(us,0)):UpIn us/\us.length<=16:=by
 unfold rnI at e
 by_cases c:(paI ws ps s).2.2=0
 ·rw[if_pos c]at e;unfold rnE at e
  cases q:zbs ps (paI ws ps s).1 (paI ws ps s).2.1 with
  | none=>rw[q]at e;simp at e
  | some k =>
   rw[q]at e;simp only at e;obtain⟨hk,-⟩:=zlb h q;unfold rnP at e
   by_cases d:(paI ws ps t).2.2=0
   ·rw[if_pos d]at e;unfold rnN at e
    split at e
    ·simp at e
    ·split at e
     ·simp at e
     ·obtain⟨rfl,-⟩:=Prod.mk.inj e;exact⟨zol hk _,by simp[enL]⟩
   ·rw[if_neg d]at e;exact absurd (Prod.mk.inj e).2 d
 ·rw[if_neg c]at e;exact absurd (Prod.mk.inj e).2 c
theorem yamk{ls:List Int}{ns:List Ino}{ds:List Den}(h:Wi ls ns ds)(c0:wdI ls 8=0){us:List Se}(ui:UpIn us/\us.length<=16){ns':List Ino}{ds':List Den}(q:Wi (zbu ls us) ns' ds') :
  ∃ ls',zna (ls,[]) (zds (zdw us))=(ls',[])/\wdI ls' 8=0/\Wi ls' ns' ds' :=
 ⟨zoa ls us,zue ls us,zor h.len c0,yagn h.len ui.2 ui.1 q⟩
theorem zao{w:World}{b:Nat}{t:TypeId}{x y z u:Value}(h:w.heap[b]?=some (.cells #[x,y,z,u] t (0,0))) :
  w.cell? ⟨b,0,none⟩=some x/\w.cell? ⟨b,1,none⟩=some y/\w.cell? ⟨b,2,none⟩=some z/\w.cell? ⟨b,3,none⟩=some u/\w.frozen? ⟨b,0,none⟩=false/\w.frozen? ⟨b,1,none⟩=false/\w.frozen? ⟨b,2,none⟩=false/\w.frozen? ⟨b,3,none⟩=false:=by
 simp[World.cell?,World.frozen?,h]
def RdDev(w:World)(v:Value)(ws:List Int)(ps:List St)(es:List Int)(qs:List Se):Prop:=∃ vW vP vS vQ,v=.agg #[vW,vP,vS,vQ]/\RdPm w (.agg #[vW,vP]) ws ps/\RdBlk w (.agg #[vS,vQ]) es qs
def RowDev(w:World)(lo hi:Nat)(v:Value)(ws:List Int)(ps:List St)(es:List Int)(qs:List Se):Prop :=
 ∃ vW vP vS vQ l1 h1 l2 h2,v=.agg #[vW,vP,vS,vQ]/\RowPm w l1 h1 (.agg #[vW,vP]) ws ps/\RowBlk w l2 h2 (.agg #[vS,vQ]) es qs/\(lo<=l1/\h1<=hi/\lo<=l2/\h2<=hi/\(h1<=l2\/h2<=l1))
theorem RowDev.rd{w:World}{lo hi:Nat}{v:Value}{ws:List Int}{ps:List St}{es:List Int}{qs:List Se}(h:RowDev w lo hi v ws ps es qs):RdDev w v ws ps es qs:=by
 obtain⟨vW,vP,vS,vQ,_,_,_,_,e,h1,h2,_⟩:=h;exact⟨vW,vP,vS,vQ,e,h1.rd,h2.rd⟩
theorem RdDev.below{w w':World}{v:Value}{ws:List Int}{ps:List St}{es:List Int}{qs:List Se}(h:RdDev w v ws ps es qs)(hb:zB w w'):RdDev w' v ws ps es qs:=by
 obtain⟨vW,vP,vS,vQ,e,h1,h2⟩:=h;exact⟨vW,vP,vS,vQ,e,h1.below hb,h2.below hb⟩
theorem RdDev.form{w:World}{v:Value}{ws:List Int}{ps:List St}{es:List Int}{qs:List Se}(h:RdDev w v ws ps es qs):∃ aW cW aP cP aS cS aQ cQ,v=.agg #[.slice aW ws.length cW,.slice aP ps.length cP,.slice aS es.length cS,.slice aQ qs.length cQ]/\RdPm w (.agg #[.slice aW ws.length cW,.slice aP ps.length cP]) ws ps/\RdBlk w (.agg #[.slice aS es.length cS,.slice aQ qs.length cQ]) es qs:=by
 obtain⟨vW,vP,vS,vQ,rfl,⟨_,_,e1,h1,h2⟩,⟨_,_,e2,h3,h4⟩⟩:=h
 cases e1
 cases e2
 obtain⟨aW,cW,rfl,_⟩:=h1.shape;obtain⟨aP,cP,rfl,_⟩:=h2.shape;obtain⟨aS,cS,rfl,_⟩:=h3.shape;obtain⟨aQ,cQ,rfl,_⟩:=h4.shape;exact⟨aW,cW,aP,cP,aS,cS,aQ,cQ,rfl,⟨_,_,rfl,h1,h2⟩,⟨_,_,rfl,h3,h4⟩⟩
theorem RowPm.form{w:World}{lo hi:Nat}{v:Value}{ws:List Int}{ps:List St}(h:RowPm w lo hi v ws ps):∃ aW cW aP cP,v=.agg #[.slice aW ws.length cW,.slice aP ps.length cP]:=by
 obtain⟨vW,vP,rfl,h1,h2⟩:=h.rd;obtain⟨aW,cW,rfl,_⟩:=h1.shape;obtain⟨aP,cP,rfl,_⟩:=h2.shape;exact⟨aW,cW,aP,cP,rfl⟩
theorem RowBlk.form{w:World}{lo hi:Nat}{v:Value}{ws:List Int}{ps:List Se}(h:RowBlk w lo hi v ws ps):∃ aW cW aP cP,v=.agg #[.slice aW ws.length cW,.slice aP ps.length cP]:=by
 obtain⟨vW,vP,rfl,h1,h2⟩:=h.rd;obtain⟨aW,cW,rfl,_⟩:=h1.shape;obtain⟨aP,cP,rfl,_⟩:=h2.shape;exact⟨aW,cW,aP,cP,rfl⟩
theorem zga(v:Value)(ws:List Ino)(ps:List Den)(w:World)(h:RdIm w v ws ps)(hl:ps.length<=4096) :
  zC 201 #[v] w fun e w'=>e=.returned (.I (feI ps))/\zB w w':=by
 obtain⟨vW,vP,rfl,h1,h2⟩:=h;obtain⟨aW,cW,rfl,_,_⟩:=h1.shape;obtain⟨aP,cP,rfl,_,hcP⟩:=h2.shape;have HP:=zaa hcP;clear h1 h2 hcP
 have CA:Hid (∀ w',Below (w.alloc (.cells #[.slice aW ws.length cW,.slice aP ps.length cP] 51)).heap.size (w.alloc (.cells #[.slice aW ws.length cW,.slice aP ps.length cP] 51)) w'->w'.cell? ⟨w.heap.size,0,none⟩=some (.slice aW ws.length cW)/\w'.cell? ⟨w.heap.size,1,none⟩=some (.slice aP ps.length cP)):=fun w' hb=>by
  have:w'.heap[w.heap.size]?=some (.cells #[.slice aW ws.length cW,.slice aP ps.length cP] 51 (0,0)):=(hb.block _ (by simp)).trans (zah rfl);exact⟨(zac this).1,(zac this).2.1⟩
 have BW:Hid (zB w (w.alloc (.cells #[.slice aW ws.length cW,.slice aP ps.length cP] 51))):=zR.alloc zL _
 obtain⟨W,hW⟩:=zE (w.alloc (.cells #[.slice aW ws.length cW,.slice aP ps.length cP] 51))
 rw[<- hW]at CA BW;obtain⟨y0,y1⟩:=CA.o _ zR;have EF:=zaa (show feI ps=zby (fun i=>decide (zar ps i<0)) ps.length from rfl);go_enter Tryz.func201,Tryz.ntmps201;go_wp2;rw[<- hW];clear hW
 go_loopw [3] (fun i wr=>∃ k:Nat,k<=ps.length/\i=.I k/\wr=W/\Hid (∀ j,j<k->decide (zar ps j<0)=false)) (fun i _=>ps.length-(intOf i).toNat)
 case atStart=>exact⟨0,by omega,rfl,rfl,fun j a=>absurd a (by omega)⟩
 case round =>
  obtain⟨k,hk,rfl,rfl,H⟩:=hrel
  have k0:(0:Int)<=(k:Int):=by omega
  by_cases hlt:k<ps.length
  ·obtain⟨b,o,rfl,hbl,hcell⟩:=HP.o (by omega);have d0:=(BW.o.cell (p:=⟨b,o+k*3+2,none⟩) hbl).trans (hcell k hlt).2.2;rw[<- zdl hlt]at d0
   have k1:(k:Int)<(ps.length:Int):=by omega
   clear hcell
   by_cases q:zar ps k<0
   ·have E:=zaa (EF.o.trans (zqx (p:=fun i=>decide (zar ps i<0)) hlt H.o (decide_eq_true q)));clear H;generalize zar ps k=z at d0 q;go_wp2;go_ret;exact⟨zcq E.o.symm,BW.o⟩
   ·have H':Hid (∀ j,j<k+1->decide (zar ps j<0)=false):=fun j a=>by
     by_cases e:j=k
     ·subst e;exact decide_eq_false q
     ·exact H.o j (by omega)
    clear H;generalize zar ps k=z at d0 q;go_wp2
    go_roundw
    case rel=>exact⟨k+1,by omega,by go_num,trivial,H'⟩
    case measure=>simp[intOf];omega
  ·have E:=zaa (EF.o.trans (zkt (p:=fun i=>decide (zar ps i<0)) (n:=ps.length) (fun j hj=>H.o j (by omega))))
   have k2:¬ (k:Int)<(ps.length:Int):=by omega
   clear H;go_wp2;go_ret;exact⟨zcq E.o.symm,BW.o⟩
theorem zhh(i f x:Int)(w:World)(hi:0<=i/\i<16)(hf:0<=f/\f<11) :
  zC 153 #[.I i,.I f,.I x] w fun e w'=>e=.returned (.agg #[.I (48+12*i+f),.I x])/\zB w w':=by
 obtain⟨k1,k2⟩:=yaps hi hf;have K1:=zaa k1;have K2:=zaa k2;clear k1 k2;generalize 48+12*i+f=at_ at *;have BW:=zaa ((Below.refl w.heap.size w).alloc zL (.cells #[.I 0,.I 0] 104));go_enter Tryz.func153,Tryz.ntmps153;go_wp2_with fail;refine(zsq _ _ _).mono ?_;rw[K1.o,K2.o];rintro e w' ⟨rfl,hw'⟩;subst w';go_wp2;refine bodyPost_ret (v:=.agg #[.I at_,.I x]) (by simp[results,Tryz.results153,go_sem]) rfl ⟨rfl,?_⟩
 repeat (first | exact BW.o | exact zR | refine Below.setCell ?_ (by exact Nat.le_refl _) _ | refine Below.alloc ?_ (by simp) _)
theorem zdq(v:Value)(ws:List Ino)(ps:List Den)(s:ByteArray)(w:World)(h:RdIm w v ws ps)(hi:zcr ws ps=true)(hs:s.size<=65536) :
  zC 199 #[v,.string s] w fun e w'=>e=.returned (.tuple #[.I (paI ws ps s).1,.string (paI ws ps s).2.1,.I (paI ws ps s).2.2])/\zB w w':=by
 have HR:=zaa h;have LS:=zaa (fun w1=>zld s w1 hs);have LW:=zaa (fun vL ns w1 h hL hn=>zoe v vL ws ps ns w1 h hL hi hn);have WR:=zaa (fun ns=>zmd hi ns 0 (by omega));have SL:=zaa (@zza s);have EL:=zaa (show paI ws ps s=if spB s=true then paL ws ps (spL s) else(0,⟨#[]⟩,12)from rfl);have L16:=zaa (zaw hi).1;obtain⟨vW,vP,rfl,h1,h2⟩:=h;obtain⟨aW,cW,rfl,_,hcW⟩:=h1.shape;obtain⟨aP,cP,rfl,_,_⟩:=h2.shape;obtain⟨bW,oW,rfl,hblW,hcellW⟩:=hcW (by have:=L16.o;omega)
 have HW:Hid (∀ w',zB w w'->∀ n:Nat,n<16->w'.cell? ⟨bW,oW+n*11,none⟩=some (.I (zai ws n))):=fun w' hb n hn=>by
  have hnl:n<ws.length:=by have:=L16.o;omega
  rw[zbk hnl];exact(hb.cell (p:=⟨bW,oW+n*11,none⟩) hblW).trans (hcellW n hnl).1
 clear h1 h2 hi hcW hcellW
 have CA:Hid (∀ w',Below (w.alloc (.cells #[.slice (some ⟨bW,oW,none⟩) ws.length cW,.slice aP ps.length cP] 51)).heap.size (w.alloc (.cells #[.slice (some ⟨bW,oW,none⟩) ws.length cW,.slice aP ps.length cP] 51)) w'->w'.cell? ⟨w.heap.size,0,none⟩=some (.slice (some ⟨bW,oW,none⟩) ws.length cW)/\w'.cell? ⟨w.heap.size,1,none⟩=some (.slice aP ps.length cP)):=fun w' hb=>by
  have:w'.heap[w.heap.size]?=some (.cells #[.slice (some ⟨bW,oW,none⟩) ws.length cW,.slice aP ps.length cP] 51 (0,0)):=(hb.block _ (by simp)).trans (zah rfl);exact⟨(zac this).1,(zac this).2.1⟩
 have BW:Hid (zB w (w.alloc (.cells #[.slice (some ⟨bW,oW,none⟩) ws.length cW,.slice aP ps.length cP] 51))):=zR.alloc zL _;generalize hres:paI ws ps s=res at *;clear hres
 cases c:spB s with
 | false =>
  rw[c]at LS EL;obtain rfl:=EL.o;clear EL LW;go_enter Tryz.func199,Tryz.ntmps199;go_wp2_with fail;refine(LS.o _).mono ?_;rintro e w1 ⟨v1,rfl,hr1,hb1⟩;have B1:=zaa (zab BW.o hb1 BW.o.size);clear hr1 hb1;go_wp2;go_ret3;exact⟨rfl,B1.o⟩
 | true =>
 rw[c]at LS EL;have EL2:Hid (res=paL ws ps (spL s)):=EL;clear EL c;generalize spL s=ns at *
 by_cases c1:ns=[]
 ·subst c1;obtain rfl:=EL2.o;clear EL2 LW;go_enter Tryz.func199,Tryz.ntmps199;go_wp2_with fail;refine(LS.o _).mono ?_;rintro e w1 ⟨v1,rfl,hr1,hb1⟩;have B1:=zaa (zab BW.o hb1 BW.o.size);obtain⟨aL,cL,rfl,_,_⟩:=hr1.shape;clear hr1 hb1;simp only[List.length_nil];go_wp2;go_ret3;exact⟨rfl,B1.o⟩
 obtain⟨xs,x,rfl⟩:=yajc c1;rw[yabe]at EL2;clear c1;have EP:=zaa (show paN ws ps xs x=if (wk ws ps 0 xs).2=0 then(if zai ws (wk ws ps 0 xs).1=2 then((wk ws ps 0 xs).1,x,0) else(0,⟨#[]⟩,10)) else(0,⟨#[]⟩,(wk ws ps 0 xs).2)from rfl);rw[EP.o]at EL2;clear EP;have sl:=SL.o;rw[List.length_append,List.length_cons,List.length_nil,Nat.zero_add]at sl;have wr1:=WR.o xs;have LW2:=zaa (fun vL w1 h hL=>LW.o vL xs w1 h hL (by omega))
 obtain⟨z,hz⟩:∃ z:Nat,(wk ws ps 0 xs).1=(z:Int):=⟨((wk ws ps 0 xs).1).toNat,by omega⟩
 have z16:z<16:=by omega
 rw[hz]at EL2 LW2;clear LW WR SL wr1 hz;generalize (wk ws ps 0 xs).2=wc at *;go_enter Tryz.func199,Tryz.ntmps199;go_wp2_with fail;refine(LS.o _).mono ?_;rintro e w1 ⟨v1,rfl,hr1,hb1⟩;have B1:=zaa (zab BW.o hb1 BW.o.size);have BA:=zaa hb1;have hbn:(w.alloc (.cells #[.slice (some ⟨bW,oW,none⟩) ws.length cW,.slice aP ps.length cP] 51)).heap.size<=w1.heap.size:=hb1.size;obtain⟨x0,x1⟩:=CA.o _ hb1;have R1:=zaa hr1;obtain⟨aL,cL,rfl,hcap,hcL⟩:=hr1.shape;obtain⟨b,o,rfl,hbl,hcell⟩:=hcL (by rw[List.length_append];simp)
 have hx:w1.cell? ⟨b,o+xs.length,none⟩=some (.string x):=by
  have:=hcell xs.length (by rw[List.length_append];simp);simpa using this
 have RT:Hid (RdT w1 (.slice (some ⟨b,o,none⟩) xs.length cL) xs):=by
  have:=zrf R1.o (m:=xs.length) (by rw[List.length_append];omega);rw[List.take_left]at this;exact this
 rw[List.length_append,List.length_cons,List.length_nil,Nat.zero_add]at hcap;simp only[List.length_append,List.length_cons,List.length_nil,Nat.zero_add];clear hr1 hb1 hcL hcell R1 LS;generalize xs.length=n at *
 have n0:(((n+1:Nat):Int) == 0)=false:=by rw[beq_eq_false_iff_ne];omega
 have nw:IntKind.i64.wrap (((n+1:Nat):Int)-1)=(n:Int):=by
  rw[show(((n+1:Nat):Int)-1)=(n:Int) by omega,IntKind.wrap_i64];omega
 have ncap:(n:Int)<=(cL:Int):=by omega
 have nw2:IntKind.i64.wrap ((n:Int)+1-1)=(n:Int):=by rw[IntKind.wrap_i64];omega
 have nw3:IntKind.i64.wrap (n:Int)=(n:Int):=by rw[IntKind.wrap_i64];omega
 have nn0:(0:Int)<=(n:Int):=by omega
 have nn1:(n:Int)<((n+1:Nat):Int):=by omega
 have nn2:(n:Int)<(n:Int)+1:=by omega
 have z0:(0:Int)<=(z:Int):=by omega
 have z1:(z:Int)<(ws.length:Int):=by have:=L16.o;omega
 have SK:Hid (∀ w',zB w1 w'->w'.cell? ⟨w.heap.size,0,none⟩=some (.slice (some ⟨bW,oW,none⟩) ws.length cW)/\w'.cell? ⟨w.heap.size,1,none⟩=some (.slice aP ps.length cP)):=fun w' hb=>CA.o w' (zab BA.o hb hbn)
 have HX:Hid (∀ w',zB w1 w'->w'.cell? ⟨b,o+n,none⟩=some (.string x)):=fun w' hb=>(hb.cell (p:=⟨b,o+n,none⟩) hbl).trans hx
 have LW3:=zaa (fun w2 (hb:zB w1 w2)=>LW2.o _ w2 (HR.o.below (zab B1.o hb B1.o.size)) (Rd.below RT.o hb));clear LW2 RT hx
 by_cases q:wc=0
 case neg =>
  rw[if_neg q]at EL2;obtain rfl:=EL2.o
  have q1:(wc != 0)=true:=by rw[bne_iff_ne];exact q
  clear EL2 q;go_wp2_with fail
  go_region_held3 (fun w'=>w'.cell? ⟨w.heap.size,0,none⟩=some (.slice (some ⟨bW,oW,none⟩) ws.length cW)/\w'.cell? ⟨w.heap.size,1,none⟩=some (.slice aP ps.length cP))
   (exact SK.o _ (by repeat (first | exact BF.o | exact zR | refine Below.drew ?_)))
   (first
    | (go_at_call 147;refine(LW3.o _ (by repeat (first | exact zR | refine Below.drew ?_))).mono ?_;rintro e w2 ⟨rfl,hb2⟩;have BF:Hid (zB w1 w2):=(by first | exact hb2 | exact zab (by repeat (first | exact zR | refine Below.drew ?_)) hb2 zL);clear hb2))
  all_goals
   have B3:=zaa (zab B1.o BF.o B1.o.size);clear SK x0 x1;go_wp2;go_ret3;exact⟨rfl,(by repeat (first | exact B3.o | refine Below.drew ?_))⟩
 rw[if_pos q]at EL2;subst q;have HZ:=zaa (fun w' hb=>HW.o w' hb z z16)
 by_cases r:zai ws z=2
 case neg =>
  rw[if_neg r]at EL2;obtain rfl:=EL2.o
  have r1:(zai ws z != 2)=true:=by rw[bne_iff_ne];exact r
  clear EL2 r;generalize zai ws z=kz at *;go_wp2_with fail
  go_region_held3 (fun w'=>w'.cell? ⟨w.heap.size,0,none⟩=some (.slice (some ⟨bW,oW,none⟩) ws.length cW)/\w'.cell? ⟨w.heap.size,1,none⟩=some (.slice aP ps.length cP))
   (exact SK.o _ (by repeat (first | exact BF.o | exact zR | refine Below.drew ?_)))
   (first
    | (go_at_call 147;refine(LW3.o _ (by repeat (first | exact zR | refine Below.drew ?_))).mono ?_;rintro e w2 ⟨rfl,hb2⟩;have BF:Hid (zB w1 w2):=(by first | exact hb2 | exact zab (by repeat (first | exact zR | refine Below.drew ?_)) hb2 zL);clear hb2))
  all_goals
   have B3:=zaa (zab B1.o BF.o B1.o.size);clear x0 x1;obtain⟨x0,x1⟩:=SK.o _ BF.o;have y0:=HZ.o _ B3.o;clear SK;go_wp2;go_ret3;exact⟨rfl,(by repeat (first | exact B3.o | refine Below.drew ?_))⟩
 rw[if_pos r]at EL2;obtain rfl:=EL2.o
 have r1:(zai ws z != 2)=false:=by rw[r];rfl
 clear EL2 r;generalize zai ws z=kz at *;go_wp2_with fail
 go_region_held3 (fun w'=>w'.cell? ⟨w.heap.size,0,none⟩=some (.slice (some ⟨bW,oW,none⟩) ws.length cW)/\w'.cell? ⟨w.heap.size,1,none⟩=some (.slice aP ps.length cP))
  (exact SK.o _ (by repeat (first | exact BF.o | exact zR | refine Below.drew ?_)))
  (first
   | (go_at_call 147;refine(LW3.o _ (by repeat (first | exact zR | refine Below.drew ?_))).mono ?_;rintro e w2 ⟨rfl,hb2⟩;have BF:Hid (zB w1 w2):=(by first | exact hb2 | exact zab (by repeat (first | exact zR | refine Below.drew ?_)) hb2 zL);clear hb2))
 all_goals
  have B3:=zaa (zab B1.o BF.o B1.o.size);clear x0 x1;obtain⟨x0,x1⟩:=SK.o _ BF.o;have y0:=HZ.o _ B3.o;have hx:=HX.o _ BF.o;clear SK;go_wp2_with fail
  go_region_held3 (fun w'=>w'.cell? ⟨b,o+n,none⟩=some (.string x))
   (exact HX.o _ (by repeat (first | exact BF.o | refine Below.drew ?_)))
   (fail)
  all_goals
   go_wp2;go_ret3;exact⟨rfl,(by repeat (first | exact B3.o | refine Below.drew ?_))⟩
end Go.Proofs.YtogcbbkhnpmgeaaGreatDoor
