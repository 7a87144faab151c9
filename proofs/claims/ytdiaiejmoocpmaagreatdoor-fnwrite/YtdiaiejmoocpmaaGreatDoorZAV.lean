import Derived.Test.YtdiaiejmoocpmaaGreatDoorZAU
set_option maxRecDepth 100000
set_option maxHeartbeats 8000000
namespace Go.Proofs.YtdiaiejmoocpmaaGreatDoor
open Go.RowKit
theorem zve{i:Nat}(hi:i<16){f:Int}(hf:0<=f/\f<11)(x:Int):UpIn [⟨48+12*(i:Int)+f,x⟩]:=fun u hu=>by
 rw[List.mem_singleton.1 hu];exact⟨by show 48<=48+12*(i:Int)+f;omega,by show 48+12*(i:Int)+f<312;omega⟩
theorem yars{ws:List Ino}{ps:List Den}{s:ByteArray}{kind:Int}{us:List Se}(h:Img ws ps)(e:mkI ws ps s kind=(us,0)):UpIn us/\us.length<=16:=by
 unfold mkI at e
 by_cases c:(paI ws ps s).2.2=0
 ·rw[if_pos c]at e;unfold mkN at e
  split at e
  ·simp at e
  ·split at e
   ·simp at e
   ·rename_i f1
    split at e
    ·simp at e
    ·rename_i f2;obtain⟨rfl,-⟩:=Prod.mk.inj e;obtain⟨i,ei,hi,-⟩:=yacy h f1;obtain⟨k,ek,hk,-⟩:=zvs h f2;rw[ei,ek];unfold mkU;refine⟨UpIn.app (fun u hu=>?_) (zrq hk _),by simp[enL]⟩
     rcases List.mem_cons.1 hu with rfl | hu
     ·exact⟨by show 48<=48+12*(i:Int);omega,by show 48+12*(i:Int)<312;omega⟩
     ·exact zve hi (by omega) 1 u hu
 ·rw[if_neg c]at e;exact absurd (Prod.mk.inj e).2 c
theorem ybae{i:Nat}(hi:i<16)(x:Ino){k:Nat}(hk:k<=8):UpIn (wrL (i:Int) x k):=by
 unfold wrL;refine UpIn.app (fun u hu=>?_) (fun u hu=>?_)
 ·simp only[List.mem_cons,List.not_mem_nil,or_false]at hu
  rcases hu with rfl|rfl|rfl
  ·exact⟨by show 48<=48+12*(i:Int);omega,by show 48+12*(i:Int)<312;omega⟩
  ·exact⟨by show 48<=48+12*(i:Int)+1;omega,by show 48+12*(i:Int)+1<312;omega⟩
  ·exact⟨by show 48<=48+12*(i:Int)+2;omega,by show 48+12*(i:Int)+2<312;omega⟩
 ·obtain⟨j,hj,rfl⟩:=List.mem_map.1 hu;have:=List.mem_range.1 hj;exact⟨by show 48<=48+12*(i:Int)+(3+(j:Int));omega,by show 48+12*(i:Int)+(3+(j:Int))<312;omega⟩
theorem yazc{ws:List Ino}{ps:List Den}{s:ByteArray}{us:List Se}(h:Img ws ps)(e:rmI ws ps s=(us,0)):UpIn us/\us.length<=16:=by
 unfold rmI at e
 by_cases c:(paI ws ps s).2.2=0
 ·rw[if_pos c]at e;unfold rmN at e
  cases q:zcc ps (paI ws ps s).1 (paI ws ps s).2.1 with
  | none=>rw[q]at e;simp at e
  | some k =>
   rw[q]at e;simp only at e;obtain⟨hk,i,ei,_,hi,-⟩:=zoc h q;unfold rmC at e
   split at e
   ·simp at e
   ·obtain⟨rfl,-⟩:=Prod.mk.inj e;rw[ei];unfold rmU
    split
    ·exact⟨UpIn.app (zrq hk _) (zve hi (by omega) _),by simp[enL]⟩
    ·exact⟨UpIn.app (zrq hk _) (ybae hi _ zL),by rw[List.length_append,yace];simp[enL]⟩
 ·rw[if_neg c]at e;exact absurd (Prod.mk.inj e).2 c
theorem ybbi{ws:List Ino}{ps:List Den}{s t:ByteArray}{us:List Se}(h:Img ws ps)(e:lnI ws ps s t=(us,0)):UpIn us/\us.length<=16:=by
 unfold lnI at e
 by_cases c0:(lkI ws ps s).2=0
 ·rw[if_pos c0]at e
  split at e
  ·simp at e
  ·rename_i kk;obtain⟨i,ei,hi,_,_⟩:=zmc h c0 kk;unfold lnP at e
   by_cases c:(paI ws ps t).2.2=0
   ·rw[if_pos c]at e;unfold lnN at e
    split at e
    ·simp at e
    ·split at e
     ·simp at e
     ·rename_i f2;obtain⟨rfl,-⟩:=Prod.mk.inj e;obtain⟨k,ek,hk,-⟩:=zvs h f2;rw[ei,ek];exact⟨UpIn.app (zrq hk _) (zve hi (by omega) _),by simp[enL]⟩
   ·rw[if_neg c]at e;exact absurd (Prod.mk.inj e).2 c
 ·rw[if_neg c0]at e;exact absurd (Prod.mk.inj e).2 c0
theorem yazi{ws:List Ino}{ps:List Den}{s t:ByteArray}{us:List Se}(h:Img ws ps)(e:rnI ws ps s t=(us,0)):UpIn us/\us.length<=16:=by
 unfold rnI at e
 by_cases c:(paI ws ps s).2.2=0
 ·rw[if_pos c]at e;unfold rnE at e
  cases q:zcc ps (paI ws ps s).1 (paI ws ps s).2.1 with
  | none=>rw[q]at e;simp at e
  | some k =>
   rw[q]at e;simp only at e;obtain⟨hk,-⟩:=zoc h q;unfold rnP at e
   by_cases d:(paI ws ps t).2.2=0
   ·rw[if_pos d]at e;unfold rnN at e
    split at e
    ·simp at e
    ·split at e
     ·simp at e
     ·obtain⟨rfl,-⟩:=Prod.mk.inj e;exact⟨zrq hk _,by simp[enL]⟩
   ·rw[if_neg d]at e;exact absurd (Prod.mk.inj e).2 d
 ·rw[if_neg c]at e;exact absurd (Prod.mk.inj e).2 c
theorem yary{ls:List Int}{ns:List Ino}{ds:List Den}(h:Wi ls ns ds)(c0:wdI ls 8=0){us:List Se}(ui:UpIn us/\us.length<=16){ns':List Ino}{ds':List Den}(q:Wi (zdl ls us) ns' ds') :
  ∃ ls',zot (ls,[]) (zdc (zdt us))=(ls',[])/\wdI ls' 8=0/\Wi ls' ns' ds' :=
 ⟨zlp ls us,znc ls us,zrz h.len c0,yamf h.len ui.2 ui.1 q⟩
theorem zai{w:World}{b:Nat}{t:TypeId}{x y z u:Value}(h:w.heap[b]?=some (.cells #[x,y,z,u] t (0,0))) :
  w.cell? ⟨b,0,none⟩=some x/\w.cell? ⟨b,1,none⟩=some y/\w.cell? ⟨b,2,none⟩=some z/\w.cell? ⟨b,3,none⟩=some u/\w.frozen? ⟨b,0,none⟩=false/\w.frozen? ⟨b,1,none⟩=false/\w.frozen? ⟨b,2,none⟩=false/\w.frozen? ⟨b,3,none⟩=false:=by
 simp[World.cell?,World.frozen?,h]
def RdDev(w:World)(v:Value)(ws:List Int)(ps:List St)(es:List Int)(qs:List Se):Prop:=∃ vW vP vS vQ,v=.agg #[vW,vP,vS,vQ]/\RdPm w (.agg #[vW,vP]) ws ps/\RdBlk w (.agg #[vS,vQ]) es qs
def RowDev(w:World)(lo hi:Nat)(v:Value)(ws:List Int)(ps:List St)(es:List Int)(qs:List Se):Prop :=
 ∃ vW vP vS vQ l1 h1 l2 h2,v=.agg #[vW,vP,vS,vQ]/\RowPm w l1 h1 (.agg #[vW,vP]) ws ps/\RowBlk w l2 h2 (.agg #[vS,vQ]) es qs/\(lo<=l1/\h1<=hi/\lo<=l2/\h2<=hi/\(h1<=l2\/h2<=l1))
theorem RowDev.rd{w:World}{lo hi:Nat}{v:Value}{ws:List Int}{ps:List St}{es:List Int}{qs:List Se}(h:RowDev w lo hi v ws ps es qs):RdDev w v ws ps es qs:=by
 obtain⟨vW,vP,vS,vQ,_,_,_,_,e,h1,h2,_⟩:=h;exact⟨vW,vP,vS,vQ,e,h1.rd,h2.rd⟩
theorem RdDev.below{w w':World}{v:Value}{ws:List Int}{ps:List St}{es:List Int}{qs:List Se}(h:RdDev w v ws ps es qs)(hb:zB w w'):RdDev w' v ws ps es qs:=by
 obtain⟨vW,vP,vS,vQ,e,h1,h2⟩:=h;exact⟨vW,vP,vS,vQ,e,h1.below hb,h2.below hb⟩
theorem RowDev.below{w w':World}{lo hi:Nat}{v:Value}{ws:List Int}{ps:List St}{es:List Int}{qs:List Se}(h:RowDev w lo hi v ws ps es qs){B:Nat}(hb:Below B w w')(hB:hi<=B):RowDev w' lo hi v ws ps es qs:=by
 obtain⟨vW,vP,vS,vQ,l1,h1,l2,h2,e,r1,r2,c⟩:=h;exact⟨vW,vP,vS,vQ,l1,h1,l2,h2,e,r1.below hb (by omega),r2.below hb (by omega),c⟩
theorem RowDev.outside{w w':World}{lo hi:Nat}{v:Value}{ws:List Int}{ps:List St}{es:List Int}{qs:List Se}(h:RowDev w lo hi v ws ps es qs){lo' hi':Nat}(ho:Outside lo' hi' w w')(hd:hi<=lo'\/hi'<=lo)(hz:hi<=w.heap.size):RowDev w' lo hi v ws ps es qs:=by
 obtain⟨vW,vP,vS,vQ,l1,h1,l2,h2,e,r1,r2,c⟩:=h;exact⟨vW,vP,vS,vQ,l1,h1,l2,h2,e,r1.outside ho (by omega) (by omega),r2.outside ho (by omega) (by omega),c⟩
theorem RowDev.wide{w:World}{lo hi:Nat}{v:Value}{ws:List Int}{ps:List St}{es:List Int}{qs:List Se}(h:RowDev w lo hi v ws ps es qs){lo' hi':Nat}(a:lo'<=lo)(b:hi<=hi'):RowDev w lo' hi' v ws ps es qs:=by
 obtain⟨vW,vP,vS,vQ,l1,h1,l2,h2,e,r1,r2,c⟩:=h;exact⟨vW,vP,vS,vQ,l1,h1,l2,h2,e,r1,r2,by omega⟩
theorem RowDev.alloc{w:World}{lo hi:Nat}{v:Value}{ws:List Int}{ps:List St}{es:List Int}{qs:List Se}(h:RowDev w lo hi v ws ps es qs)(hz:hi<=w.heap.size)(o:Obj):RowDev (w.alloc o) lo hi v ws ps es qs:=h.below (zR.alloc zL o) hz
theorem RdDev.form{w:World}{v:Value}{ws:List Int}{ps:List St}{es:List Int}{qs:List Se}(h:RdDev w v ws ps es qs):∃ aW cW aP cP aS cS aQ cQ,v=.agg #[.slice aW ws.length cW,.slice aP ps.length cP,.slice aS es.length cS,.slice aQ qs.length cQ]/\RdPm w (.agg #[.slice aW ws.length cW,.slice aP ps.length cP]) ws ps/\RdBlk w (.agg #[.slice aS es.length cS,.slice aQ qs.length cQ]) es qs:=by
 obtain⟨vW,vP,vS,vQ,rfl,⟨_,_,e1,h1,h2⟩,⟨_,_,e2,h3,h4⟩⟩:=h
 cases e1
 cases e2
 obtain⟨aW,cW,rfl,_⟩:=h1.shape;obtain⟨aP,cP,rfl,_⟩:=h2.shape;obtain⟨aS,cS,rfl,_⟩:=h3.shape;obtain⟨aQ,cQ,rfl,_⟩:=h4.shape;exact⟨aW,cW,aP,cP,aS,cS,aQ,cQ,rfl,⟨_,_,rfl,h1,h2⟩,⟨_,_,rfl,h3,h4⟩⟩
theorem RowPm.form{w:World}{lo hi:Nat}{v:Value}{ws:List Int}{ps:List St}(h:RowPm w lo hi v ws ps):∃ aW cW aP cP,v=.agg #[.slice aW ws.length cW,.slice aP ps.length cP]:=by
 obtain⟨vW,vP,rfl,h1,h2⟩:=h.rd;obtain⟨aW,cW,rfl,_⟩:=h1.shape;obtain⟨aP,cP,rfl,_⟩:=h2.shape;exact⟨aW,cW,aP,cP,rfl⟩
theorem RowBlk.form{w:World}{lo hi:Nat}{v:Value}{ws:List Int}{ps:List Se}(h:RowBlk w lo hi v ws ps):∃ aW cW aP cP,v=.agg #[.slice aW ws.length cW,.slice aP ps.length cP]:=by
 obtain⟨vW,vP,rfl,h1,h2⟩:=h.rd;obtain⟨aW,cW,rfl,_⟩:=h1.shape;obtain⟨aP,cP,rfl,_⟩:=h2.shape;exact⟨aW,cW,aP,cP,rfl⟩
theorem znw(v:Value)(ws:List Int)(ps:List St)(es:List Int)(qs:List Se)(w:World)(h:RdDev w v ws ps es qs)(hw:ws.length<=1048576)(hp:ps.length<=1048576)(he:es.length<=1048576)(hq:qs.length<=1048576) :
  zC 62 #[v] w fun e w'=>e=.returned (.bool (pmB ws ps&&zdk es qs))/\zB w w':=by
 obtain⟨aW,cW,aP,cP,aS,cS,aQ,cQ,rfl,h1,h2⟩:=h.form;have H1:=zaa h1;have H2:=zaa h2;clear h h1 h2;have hb0:zB w (w.alloc (.cells #[.slice aW ws.length cW,.slice aP ps.length cP,.slice aS es.length cS,.slice aQ qs.length cQ] 31)):=zR.alloc zL _
 by_cases c:pmB ws ps=true
 ·have C:=zaa c;rw[c];clear c;go_enter Tryz.func62,Tryz.ntmps62;go_wp2_with fail;refine(zjg _ ws ps _ (H1.o.below hb0) hw hp).mono ?_;rw[C.o];rintro e w1 ⟨rfl,hb1⟩;obtain⟨x0,x1,x2,x3,-,-,-,-⟩:=zai ((hb1.block w.heap.size (by simp)).trans (zaf rfl));have B1:=zaa (zab hb0 hb1 (by simp));clear hb0 hb1;go_wp2_with fail;refine(zvf _ es qs _ (H2.o.below B1.o) he hq).mono ?_;rintro e w2 ⟨rfl,hb2⟩;have B2:=zaa (zab B1.o hb2 B1.o.size);clear hb2;go_wp2;go_ret;exact⟨rfl,B2.o⟩
 ·have c':pmB ws ps=false:=by simpa using c
  have C:=zaa c';rw[c'];clear c c';go_enter Tryz.func62,Tryz.ntmps62;go_wp2_with fail;refine(zjg _ ws ps _ (H1.o.below hb0) hw hp).mono ?_;rw[C.o];rintro e w1 ⟨rfl,hb1⟩;have B1:=zaa (zab hb0 hb1 (by simp));clear hb0 hb1;go_wp2;go_ret;exact⟨rfl,B1.o⟩
theorem zhg(v:Value)(ws:List Ino)(ps:List Den)(w:World)(h:RdIm w v ws ps)(hl:ps.length<=4096) :
  zC 197 #[v] w fun e w'=>e=.returned (.I (feI ps))/\zB w w':=by
 obtain⟨vW,vP,rfl,h1,h2⟩:=h;obtain⟨aW,cW,rfl,_,_⟩:=h1.shape;obtain⟨aP,cP,rfl,_,hcP⟩:=h2.shape;have HP:=zaa hcP;clear h1 h2 hcP
 have CA:Hid (∀ w',Below (w.alloc (.cells #[.slice aW ws.length cW,.slice aP ps.length cP] 67)).heap.size (w.alloc (.cells #[.slice aW ws.length cW,.slice aP ps.length cP] 67)) w'->w'.cell? ⟨w.heap.size,0,none⟩=some (.slice aW ws.length cW)/\w'.cell? ⟨w.heap.size,1,none⟩=some (.slice aP ps.length cP)):=fun w' hb=>by
  have:w'.heap[w.heap.size]?=some (.cells #[.slice aW ws.length cW,.slice aP ps.length cP] 67 (0,0)):=(hb.block _ (by simp)).trans (zaf rfl);exact⟨(zac this).1,(zac this).2.1⟩
 have BW:Hid (zB w (w.alloc (.cells #[.slice aW ws.length cW,.slice aP ps.length cP] 67))):=zR.alloc zL _
 obtain⟨W,hW⟩:=zE (w.alloc (.cells #[.slice aW ws.length cW,.slice aP ps.length cP] 67))
 rw[<- hW]at CA BW;obtain⟨y0,y1⟩:=CA.o _ zR;have EF:=zaa (show feI ps=zbg (fun i=>decide (zau ps i<0)) ps.length from rfl);go_enter Tryz.func197,Tryz.ntmps197;go_wp2;rw[<- hW];clear hW
 go_loopw [3] (fun i wr=>∃ k:Nat,k<=ps.length/\i=.I k/\wr=W/\Hid (∀ j,j<k->decide (zau ps j<0)=false)) (fun i _=>ps.length-(intOf i).toNat)
 case atStart=>exact⟨0,by omega,rfl,rfl,fun j a=>absurd a (by omega)⟩
 case round =>
  obtain⟨k,hk,rfl,rfl,H⟩:=hrel
  have k0:(0:Int)<=(k:Int):=by omega
  by_cases hlt:k<ps.length
  ·obtain⟨b,o,rfl,hbl,hcell⟩:=HP.o (by omega);have d0:=(BW.o.cell (p:=⟨b,o+k*3+2,none⟩) hbl).trans (hcell k hlt).2.2;rw[<- zep hlt]at d0
   have k1:(k:Int)<(ps.length:Int):=by omega
   clear hcell
   by_cases q:zau ps k<0
   ·have E:=zaa (EF.o.trans (zpy (p:=fun i=>decide (zau ps i<0)) hlt H.o (decide_eq_true q)));clear H;generalize zau ps k=z at d0 q;go_wp2;go_ret;exact⟨zdq E.o.symm,BW.o⟩
   ·have H':Hid (∀ j,j<k+1->decide (zau ps j<0)=false):=fun j a=>by
     by_cases e:j=k
     ·subst e;exact decide_eq_false q
     ·exact H.o j (by omega)
    clear H;generalize zau ps k=z at d0 q;go_wp2
    go_roundw
    case rel=>exact⟨k+1,by omega,by go_num,trivial,H'⟩
    case measure=>simp[intOf];omega
  ·have E:=zaa (EF.o.trans (zjw (p:=fun i=>decide (zau ps i<0)) (n:=ps.length) (fun j hj=>H.o j (by omega))))
   have k2:¬ (k:Int)<(ps.length:Int):=by omega
   clear H;go_wp2;go_ret;exact⟨zdq E.o.symm,BW.o⟩
theorem zje(i f x:Int)(w:World)(hi:0<=i/\i<16)(hf:0<=f/\f<11) :
  zC 111 #[.I i,.I f,.I x] w fun e w'=>e=.returned (.agg #[.I (48+12*i+f),.I x])/\zB w w':=by
 obtain⟨k1,k2⟩:=yaux hi hf;have K1:=zaa k1;have K2:=zaa k2;clear k1 k2;generalize 48+12*i+f=at_ at *;have BW:=zaa ((Below.refl w.heap.size w).alloc zL (.cells #[.I 0,.I 0] 114));go_enter Tryz.func111,Tryz.ntmps111;go_wp2_with fail;refine(zvz _ _ _).mono ?_;rw[K1.o,K2.o];rintro e w' ⟨rfl,hw'⟩;subst w';go_wp2;refine bodyPost_ret (v:=.agg #[.I at_,.I x]) (by simp[results,Tryz.results111,go_sem]) rfl ⟨rfl,?_⟩
 repeat (first | exact BW.o | exact zR | refine Below.setCell ?_ (by exact Nat.le_refl _) _ | refine Below.alloc ?_ (by simp) _)
theorem zet(v:Value)(ws:List Ino)(ps:List Den)(s:ByteArray)(w:World)(h:RdIm w v ws ps)(hi:zck ws ps=true)(hs:s.size<=65536) :
  zC 195 #[v,.string s] w fun e w'=>e=.returned (.tuple #[.I (paI ws ps s).1,.string (paI ws ps s).2.1,.I (paI ws ps s).2.2])/\zB w w':=by
 have HR:=zaa h;have LS:=zaa (fun w1=>zop s w1 hs);have LW:=zaa (fun vL ns w1 h hL hn=>zrp v vL ws ps ns w1 h hL hi hn);have WR:=zaa (fun ns=>zpn hi ns 0 (by omega));have SL:=zaa (@yact s);have EL:=zaa (show paI ws ps s=if spB s=true then paL ws ps (spL s) else(0,⟨#[]⟩,12)from rfl);have L16:=zaa (zba hi).1;obtain⟨vW,vP,rfl,h1,h2⟩:=h;obtain⟨aW,cW,rfl,_,hcW⟩:=h1.shape;obtain⟨aP,cP,rfl,_,_⟩:=h2.shape;obtain⟨bW,oW,rfl,hblW,hcellW⟩:=hcW (by have:=L16.o;omega)
 have HW:Hid (∀ w',zB w w'->∀ n:Nat,n<16->w'.cell? ⟨bW,oW+n*11,none⟩=some (.I (zal ws n))):=fun w' hb n hn=>by
  have hnl:n<ws.length:=by have:=L16.o;omega
  rw[zbv hnl];exact(hb.cell (p:=⟨bW,oW+n*11,none⟩) hblW).trans (hcellW n hnl).1
 clear h1 h2 hi hcW hcellW
 have CA:Hid (∀ w',Below (w.alloc (.cells #[.slice (some ⟨bW,oW,none⟩) ws.length cW,.slice aP ps.length cP] 67)).heap.size (w.alloc (.cells #[.slice (some ⟨bW,oW,none⟩) ws.length cW,.slice aP ps.length cP] 67)) w'->w'.cell? ⟨w.heap.size,0,none⟩=some (.slice (some ⟨bW,oW,none⟩) ws.length cW)/\w'.cell? ⟨w.heap.size,1,none⟩=some (.slice aP ps.length cP)):=fun w' hb=>by
  have:w'.heap[w.heap.size]?=some (.cells #[.slice (some ⟨bW,oW,none⟩) ws.length cW,.slice aP ps.length cP] 67 (0,0)):=(hb.block _ (by simp)).trans (zaf rfl);exact⟨(zac this).1,(zac this).2.1⟩
 have BW:Hid (zB w (w.alloc (.cells #[.slice (some ⟨bW,oW,none⟩) ws.length cW,.slice aP ps.length cP] 67))):=zR.alloc zL _;generalize hres:paI ws ps s=res at *;clear hres
 cases c:spB s with
 | false =>
  rw[c]at LS EL;obtain rfl:=EL.o;clear EL LW;go_enter Tryz.func195,Tryz.ntmps195;go_wp2_with fail;refine(LS.o _).mono ?_;rintro e w1 ⟨v1,rfl,hr1,hb1⟩;have B1:=zaa (zab BW.o hb1 BW.o.size);clear hr1 hb1;go_wp2;go_ret3;exact⟨rfl,B1.o⟩
 | true =>
 rw[c]at LS EL;have EL2:Hid (res=paL ws ps (spL s)):=EL;clear EL c;generalize spL s=ns at *
 by_cases c1:ns=[]
 ·subst c1;obtain rfl:=EL2.o;clear EL2 LW;go_enter Tryz.func195,Tryz.ntmps195;go_wp2_with fail;refine(LS.o _).mono ?_;rintro e w1 ⟨v1,rfl,hr1,hb1⟩;have B1:=zaa (zab BW.o hb1 BW.o.size);obtain⟨aL,cL,rfl,_,_⟩:=hr1.shape;clear hr1 hb1;simp only[List.length_nil];go_wp2;go_ret3;exact⟨rfl,B1.o⟩
 obtain⟨xs,x,rfl⟩:=yaow c1;rw[yagh]at EL2;clear c1;have EP:=zaa (show paN ws ps xs x=if (wk ws ps 0 xs).2=0 then(if zal ws (wk ws ps 0 xs).1=2 then((wk ws ps 0 xs).1,x,0) else(0,⟨#[]⟩,10)) else(0,⟨#[]⟩,(wk ws ps 0 xs).2)from rfl);rw[EP.o]at EL2;clear EP;have sl:=SL.o;rw[List.length_append,List.length_cons,List.length_nil,Nat.zero_add]at sl;have wr1:=WR.o xs;have LW2:=zaa (fun vL w1 h hL=>LW.o vL xs w1 h hL (by omega))
 obtain⟨z,hz⟩:∃ z:Nat,(wk ws ps 0 xs).1=(z:Int):=⟨((wk ws ps 0 xs).1).toNat,by omega⟩
 have z16:z<16:=by omega
 rw[hz]at EL2 LW2;clear LW WR SL wr1 hz;generalize (wk ws ps 0 xs).2=wc at *;go_enter Tryz.func195,Tryz.ntmps195;go_wp2_with fail;refine(LS.o _).mono ?_;rintro e w1 ⟨v1,rfl,hr1,hb1⟩;have B1:=zaa (zab BW.o hb1 BW.o.size);have BA:=zaa hb1;have hbn:(w.alloc (.cells #[.slice (some ⟨bW,oW,none⟩) ws.length cW,.slice aP ps.length cP] 67)).heap.size<=w1.heap.size:=hb1.size;obtain⟨x0,x1⟩:=CA.o _ hb1;have R1:=zaa hr1;obtain⟨aL,cL,rfl,hcap,hcL⟩:=hr1.shape;obtain⟨b,o,rfl,hbl,hcell⟩:=hcL (by rw[List.length_append];simp)
 have hx:w1.cell? ⟨b,o+xs.length,none⟩=some (.string x):=by
  have:=hcell xs.length (by rw[List.length_append];simp);simpa using this
 have RT:Hid (RdT w1 (.slice (some ⟨b,o,none⟩) xs.length cL) xs):=by
  have:=zvo R1.o (m:=xs.length) (by rw[List.length_append];omega);rw[List.take_left]at this;exact this
 rw[List.length_append,List.length_cons,List.length_nil,Nat.zero_add]at hcap;simp only[List.length_append,List.length_cons,List.length_nil,Nat.zero_add];clear hr1 hb1 hcL hcell R1 LS;generalize xs.length=n at *
 have n0:(((n+1:Nat):Int) == 0)=false:=by rw[beq_eq_false_iff_ne];omega
 have nw:IntKind.i64.wrap (((n+1:Nat):Int)-1)=(n:Int):=by
  rw[show(((n+1:Nat):Int)-1)=(n:Int) by omega,IntKind.wrap_i64];omega
 have ncap:(n:Int)<=(cL:Int):=by omega
 have nw2:IntKind.i64.wrap ((n:Int)+1-1)=(n:Int):=by rw[IntKind.wrap_i64];omega
 have nw3:IntKind.i64.wrap (n:Int)=(n:Int):=by rw[IntKind.wrap_i64];omega
 have nn0:(0:Int)<=(n:Int):=by omega
 have nn1:(n:Int)<((n+1:Nat):Int):=by omega
 have nn2:(n:Int)<(n:Int)+1:=by omega
 have z0:(0:Int)<=(z:Int):=by omega
 have z1:(z:Int)<(ws.length:Int):=by have:=L16.o;omega
 have SK:Hid (∀ w',zB w1 w'->w'.cell? ⟨w.heap.size,0,none⟩=some (.slice (some ⟨bW,oW,none⟩) ws.length cW)/\w'.cell? ⟨w.heap.size,1,none⟩=some (.slice aP ps.length cP)):=fun w' hb=>CA.o w' (zab BA.o hb hbn)
 have HX:Hid (∀ w',zB w1 w'->w'.cell? ⟨b,o+n,none⟩=some (.string x)):=fun w' hb=>(hb.cell (p:=⟨b,o+n,none⟩) hbl).trans hx
 have LW3:=zaa (fun w2 (hb:zB w1 w2)=>LW2.o _ w2 (HR.o.below (zab B1.o hb B1.o.size)) (Rd.below RT.o hb));clear LW2 RT hx
 by_cases q:wc=0
 case neg =>
  rw[if_neg q]at EL2;obtain rfl:=EL2.o
  have q1:(wc != 0)=true:=by rw[bne_iff_ne];exact q
  clear EL2 q;go_wp2_with fail
  go_region_held3 (fun w'=>w'.cell? ⟨w.heap.size,0,none⟩=some (.slice (some ⟨bW,oW,none⟩) ws.length cW)/\w'.cell? ⟨w.heap.size,1,none⟩=some (.slice aP ps.length cP))
   (exact SK.o _ (by repeat (first | exact BF.o | exact zR | refine Below.drew ?_)))
   (first
    | (go_at_call 155;refine(LW3.o _ (by repeat (first | exact zR | refine Below.drew ?_))).mono ?_;rintro e w2 ⟨rfl,hb2⟩;have BF:Hid (zB w1 w2):=(by first | exact hb2 | exact zab (by repeat (first | exact zR | refine Below.drew ?_)) hb2 zL);clear hb2))
  all_goals
   have B3:=zaa (zab B1.o BF.o B1.o.size);clear SK x0 x1;go_wp2;go_ret3;exact⟨rfl,(by repeat (first | exact B3.o | refine Below.drew ?_))⟩
 rw[if_pos q]at EL2;subst q;have HZ:=zaa (fun w' hb=>HW.o w' hb z z16)
 by_cases r:zal ws z=2
 case neg =>
  rw[if_neg r]at EL2;obtain rfl:=EL2.o
  have r1:(zal ws z != 2)=true:=by rw[bne_iff_ne];exact r
  clear EL2 r;generalize zal ws z=kz at *;go_wp2_with fail
  go_region_held3 (fun w'=>w'.cell? ⟨w.heap.size,0,none⟩=some (.slice (some ⟨bW,oW,none⟩) ws.length cW)/\w'.cell? ⟨w.heap.size,1,none⟩=some (.slice aP ps.length cP))
   (exact SK.o _ (by repeat (first | exact BF.o | exact zR | refine Below.drew ?_)))
   (first
    | (go_at_call 155;refine(LW3.o _ (by repeat (first | exact zR | refine Below.drew ?_))).mono ?_;rintro e w2 ⟨rfl,hb2⟩;have BF:Hid (zB w1 w2):=(by first | exact hb2 | exact zab (by repeat (first | exact zR | refine Below.drew ?_)) hb2 zL);clear hb2))
  all_goals
   have B3:=zaa (zab B1.o BF.o B1.o.size);clear x0 x1;obtain⟨x0,x1⟩:=SK.o _ BF.o;have y0:=HZ.o _ B3.o;clear SK;go_wp2;go_ret3;exact⟨rfl,(by repeat (first | exact B3.o | refine Below.drew ?_))⟩
 rw[if_pos r]at EL2;obtain rfl:=EL2.o
 have r1:(zal ws z != 2)=false:=by rw[r];rfl
 clear EL2 r;generalize zal ws z=kz at *;go_wp2_with fail
 go_region_held3 (fun w'=>w'.cell? ⟨w.heap.size,0,none⟩=some (.slice (some ⟨bW,oW,none⟩) ws.length cW)/\w'.cell? ⟨w.heap.size,1,none⟩=some (.slice aP ps.length cP))
  (exact SK.o _ (by repeat (first | exact BF.o | exact zR | refine Below.drew ?_)))
  (first
   | (go_at_call 155;refine(LW3.o _ (by repeat (first | exact zR | refine Below.drew ?_))).mono ?_;rintro e w2 ⟨rfl,hb2⟩;have BF:Hid (zB w1 w2):=(by first | exact hb2 | exact zab (by repeat (first | exact zR | refine Below.drew ?_)) hb2 zL);clear hb2))
 all_goals
  have B3:=zaa (zab B1.o BF.o B1.o.size);clear x0 x1;obtain⟨x0,x1⟩:=SK.o _ BF.o;have y0:=HZ.o _ B3.o;have hx:=HX.o _ BF.o;clear SK;go_wp2_with fail
  go_region_held3 (fun w'=>w'.cell? ⟨b,o+n,none⟩=some (.string x))
   (exact HX.o _ (by repeat (first | exact BF.o | refine Below.drew ?_)))
   (fail)
  all_goals
   go_wp2;go_ret3;exact⟨rfl,(by repeat (first | exact B3.o | refine Below.drew ?_))⟩
def zwt(w w':World)(e:Ending)(r:List Se×Int):Prop:=∃ v',e=.returned (.tuple #[v',.I r.2])/\Row w' 114 2 w.heap.size w'.heap.size v' r.1.length (ses r.1)/\zB w w'
theorem upn{w w1:World}(B:zB w w1):Row (w1.alloc (.cells #[] 114)) 114 2 w.heap.size (w1.alloc (.cells #[] 114)).heap.size (.slice (some ⟨w1.heap.size,0,none⟩) 0 0) 0 []/\zB w (w1.alloc (.cells #[] 114)) :=
 ⟨(zpl w1 _ _).wide B.size zL,B.alloc B.size _⟩
theorem zdh{w w1:World}{c:Int}(B:zB w w1):zwt w (w1.alloc (.cells #[] 114)) (.returned (.tuple #[.slice (some ⟨w1.heap.size,0,none⟩) 0 0,.I c])) ([],c) :=
 ⟨_,rfl,(upn B).1,(upn B).2⟩
theorem yagg{w w1:World}{v:Value}{L:List Se}(c:Int)(h:UpI w w1 v L):zwt w w1 (.returned (.tuple #[v,.I c])) (L,c) :=
 ⟨_,rfl,zad h.l,h.b⟩
theorem zsq(v:Value)(ws:List Ino)(ps:List Den)(s:ByteArray)(kind:Int)(w:World)(h:RdIm w v ws ps)(hi:zck ws ps=true)(hs:s.size<=65536) :
  zC 184 #[v,.string s,.I kind] w fun e w'=>zwt w w' e (mkI ws ps s kind):=by
 have HR:=zaa h;have LP:=zaa (fun w1 (hb:zB w w1)=>zet v ws ps s w1 (h.below hb) hi hs);have LE:=zaa (fun d nm w1 (hb:zB w w1)=>zfo v ws ps d nm w1 (h.below hb) (by have:=(zba hi).2.1;omega));have LI:=zaa (fun w1 (hb:zB w w1)=>zpj v ws ps w1 (h.below hb) (by have:=(zba hi).1;omega));have LK:=zaa (fun w1 (hb:zB w w1)=>zhg v ws ps w1 (h.below hb) (by have:=(zba hi).2.1;omega));have EL:=zaa (show mkI ws ps s kind=if (paI ws ps s).2.2=0 then mkN ws ps kind (paI ws ps s).1 (paI ws ps s).2.1 else([],(paI ws ps s).2.2)from rfl);have EN:=zaa (fun d nm=>show mkN ws ps kind d nm=if 0<=zog ps d nm then([],8)else if fiI ws<0 then([],7)else if feI ps<0 then([],7) else(mkU (fiI ws) (feI ps) kind d nm,0)from rfl);have PO:=zaa (fun c=>zmq (s:=s) hi c);have f1:=yarm hi;have f2:=yagf hi;have FP:=zaa (@yazj ws);rw[show zbg (fun i=>decide (1<=i)&&zal ws (i:Int) == 0) ws.length=fiI ws from rfl]at LI;obtain⟨vW,vP,rfl,h1,h2⟩:=h;obtain⟨aW,cW,rfl,_,_⟩:=h1.shape;obtain⟨aP,cP,rfl,_,_⟩:=h2.shape;clear h1 h2 hi hs
 have CA:Hid (∀ w',Below (w.alloc (.cells #[.slice aW ws.length cW,.slice aP ps.length cP] 67)).heap.size (w.alloc (.cells #[.slice aW ws.length cW,.slice aP ps.length cP] 67)) w'->w'.cell? ⟨w.heap.size,0,none⟩=some (.slice aW ws.length cW)/\w'.cell? ⟨w.heap.size,1,none⟩=some (.slice aP ps.length cP)):=fun w' hb=>by
  have:w'.heap[w.heap.size]?=some (.cells #[.slice aW ws.length cW,.slice aP ps.length cP] 67 (0,0)):=(hb.block _ (by simp)).trans (zaf rfl);exact⟨(zac this).1,(zac this).2.1⟩
 have BW:Hid (zB w (w.alloc (.cells #[.slice aW ws.length cW,.slice aP ps.length cP] 67))):=zR.alloc zL _
 have hz:w.heap.size<(w.alloc (.cells #[.slice aW ws.length cW,.slice aP ps.length cP] 67)).heap.size:=by simp
 obtain⟨x0,x1⟩:=CA.o _ zR;generalize mkI ws ps s kind=res at *;generalize paI ws ps s=pr at *;generalize fiI ws=fi at *;generalize feI ps=fe at *;obtain⟨pd,pn,pc⟩:=pr;simp only at EL PO LP;go_enter Tryz.func184,Tryz.ntmps184;go_wp2_with fail;refine(LP.o _ BW.o).mono ?_;rintro e w1 ⟨rfl,hb1⟩;have A1:=zaa hb1;have B1:=zaa (zab BW.o hb1 BW.o.size);have z1:(w.alloc (.cells #[.slice aW ws.length cW,.slice aP ps.length cP] 67)).heap.size<=w1.heap.size:=hb1.size;clear x0 x1;obtain⟨x0,x1⟩:=CA.o _ hb1;clear hb1 LP
 by_cases c:pc=0
 case neg =>
  rw[if_neg c]at EL;obtain rfl:=EL.o
  have q:(pc != 0)=true:=by rw[bne_iff_ne];exact c
  clear EL c x0 x1;go_wp2;go_ret2;exact zdh B1.o
 rw[if_pos c]at EL;subst c;obtain⟨p1,p2,p3⟩:=PO.o rfl;have NM:=zaa p3;rw[EN.o]at EL;clear PO p2 p3 EN;have LE2:=zaa (fun w1 hb=>LE.o pd pn w1 hb);generalize zog ps pd pn=ei at *;clear LE;go_wp2_with fail;refine(LE2.o _ B1.o).mono ?_;rintro e w2 ⟨rfl,hb2⟩;have A2:=zaa (zab A1.o hb2 z1);have B2:=zaa (zab B1.o hb2 B1.o.size);have z2:(w.alloc (.cells #[.slice aW ws.length cW,.slice aP ps.length cP] 67)).heap.size<=w2.heap.size:=A2.o.size;clear x0 x1;obtain⟨x0,x1⟩:=CA.o _ A2.o;clear hb2 LE2 A1 B1
 by_cases c:0<=ei
 ·rw[if_pos c]at EL;obtain rfl:=EL.o;have c1:ei>=0:=c;clear EL x0 x1 c;go_wp2;go_ret2;exact zdh B2.o
 rw[if_neg c]at EL;have c1:¬ ei>=0:=c;clear c;go_wp2_with fail;refine(LI.o _ B2.o).mono ?_;rintro e w3 ⟨rfl,hb3⟩;have A3:=zaa (zab A2.o hb3 z2);have B3:=zaa (zab B2.o hb3 B2.o.size);have z3:(w.alloc (.cells #[.slice aW ws.length cW,.slice aP ps.length cP] 67)).heap.size<=w3.heap.size:=A3.o.size;clear x0 x1;obtain⟨x0,x1⟩:=CA.o _ A3.o;clear hb3 LI A2 B2 c1;go_wp2_with fail;refine(LK.o _ B3.o).mono ?_;rintro e w4 ⟨rfl,hb4⟩;have B4:=zaa (zab B3.o hb4 B3.o.size);clear hb4 LK A3 B3 x0 x1 CA
 by_cases c2:fi<0
 ·rw[if_pos c2]at EL;obtain rfl:=EL.o;clear EL;go_wp2;go_ret2;exact zdh B4.o
 rw[if_neg c2]at EL
 by_cases c3:fe<0
 ·rw[if_pos c3]at EL;obtain rfl:=EL.o;clear EL;go_wp2;go_ret2;exact zdh B4.o
 rw[if_neg c3]at EL;have fp:=FP.o (by omega);have LN:=zaa (fun w1=>zgv fe ⟨pd,pn,fi⟩ w1 (by omega) (show -1<=fi/\fi<=15 by omega) (.inr NM.o));have EU:=zaa (show mkU fi fe kind pd pn=[⟨48+12*fi,kind⟩,⟨48+12*fi+2,1⟩]++enL fe ⟨pd,pn,fi⟩from rfl);have LV:=zaa (show(Den.mk pd pn fi).v=.agg #[.I pd,.string pn,.I fi]from rfl);rw[LV.o]at LN;have l3:(enL fe ⟨pd,pn,fi⟩).length<=3:=Nat.le_refl _;generalize enL fe ⟨pd,pn,fi⟩=L at *
 have fr:0<=fi/\fi<16:=by omega
 go_wp2_with (go_at_call 71;refine(zbf _ _ _ fr (by omega)).mono ?_;rintro e w' ⟨rfl,hw'⟩;subst w')
 have J5:Hid (UpI w (w4.alloc (.cells #[.I (48+12*fi),.I kind,.I (48+12*fi+2),.I 1] 114)) (.slice (some ⟨w4.heap.size,0,none⟩) 2 2) [⟨48+12*fi,kind⟩,⟨48+12*fi+2,1⟩]):=⟨World.ownsRow_lit w4 _ 2 B4.o.size (by simp[maxLen]) rfl,B4.o.alloc B4.o.size _⟩
 refine(LN.o _).mono ?_;rintro e w6 ⟨v6,rfl,hr6,hb6⟩;have J6:=zaa (J5.o.below hb6);have R6:=zaa hr6.rd;obtain⟨-,aL,cL,hvL,-⟩:=hr6.rd;subst hvL;have z6:w.heap.size<=w6.heap.size:=J6.o.z;clear hr6 hb6 J5 LN;go_wp2_with (at_builtin;refine zae _ rfl (.tmp 50) (.tmp 56) 77 rfl w.heap.size 114 (.agg #[.I 0,.I 0]) 2 16 Tryz.underlying77 zmj rfl (by decide) _ _ _ rfl J6.o.l _ _ _ rfl R6.o (zgc _) (by simp[maxLen];omega) (by simp;omega) z6 ?_);intro vN wN hownN hgrN;have G:=zaa (J6.o.grow L hownN hgrN);rw[<- EU.o]at G;obtain⟨-,aN,cN,hvN,-⟩:=(zad hownN).rd;subst hvN;obtain rfl:=EL.o;clear hownN hgrN J6 R6 EL;go_wp2;go_ret2;exact yagg 0 G.o
end Go.Proofs.YtdiaiejmoocpmaaGreatDoor
