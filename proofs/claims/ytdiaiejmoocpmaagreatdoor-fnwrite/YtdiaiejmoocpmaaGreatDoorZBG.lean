import Derived.Test.YtdiaiejmoocpmaaGreatDoorZBF
set_option maxRecDepth 100000
set_option maxHeartbeats 4000000
namespace Go.Proofs.YtdiaiejmoocpmaaGreatDoor
open Go.RowKit
theorem zoj(zs:List Int):zsp zs=allP zs:=by
 unfold zsp allP;rw[decide_eq_decide];exact⟨fun h k hk=>zgf (h k hk),fun h k hk=>decide_eq_true (h k hk)⟩
def zoq:Array Value:=(List.replicate 42 (Value.bool false)).toArray
theorem yaif(w:World):(zeroValue 195).run Tryz.prog w=.ok (.agg zoq) w:=by kernel_rfl
theorem zsd:zoq.size=42:=by unfold zoq;rw[List.size_toArray,List.length_replicate]
theorem yanl(k:Nat)(hk:k<42):zoq[k]?=some (.bool false):=by unfold zoq;rw[List.getElem?_toArray,List.getElem?_replicate,if_pos hk]
def zin(zs:List Int)(m j:Nat):Bool:=(List.range m).any (fun i=>zs[i]?.getD 0/8 == (j:Int))
theorem yahd(zs:List Int)(m j:Nat):zin zs (m+1) j=(zin zs m j||(zs[m]?.getD 0/8 == (j:Int))):=by
 unfold zin;rw[List.range_succ,List.any_append];simp
theorem yabv(zs:List Int)(m:Nat)(hm:m<zs.length)(h0:0<=zs[m]):zin zs m (zs[m]/8).toNat=zrc zs m:=by
 have e:(((zs[m]/8).toNat:Nat):Int)=zs[m]/8:=by omega
 unfold zin zrc;rw[e,List.getElem?_eq_getElem hm];rfl
theorem znk(v:Value)(zs:List Int)(w:World)(h:RdI w v zs)(hn:zs.length<=1048576) :
  zC 112 #[v] w fun e w'=>∃ v',e=.returned (.tuple #[v',.I (flC zs)])/\Row w' 84 3 w.heap.size w'.heap.size v' (fpL zs).length (mis (fpL zs))/\zB w w':=by
 have HR:=zaa h;obtain⟨aZ,cZ,rfl,_,hcZ⟩:=h.shape;have HZ:=zaa hcZ;clear h hcZ
 rcases yaee zs with ⟨c1,e1,e2⟩ | ⟨c1,c2,e1,e2⟩ | ⟨c1,c2,c3,e1,e2⟩ | ⟨c1,c2,c3,e1,e2⟩
 ·rw[e1,e2];clear e1 e2;go_enter Tryz.func112,Tryz.ntmps112;go_wp2;go_ret2;exact⟨_,rfl,Row.nil _ _ _ _ _,zR⟩
 ·rw[e1,e2];clear e1 e2;go_enter Tryz.func112,Tryz.ntmps112;go_wp2;go_ret2;exact⟨_,rfl,Row.nil _ _ _ _ _,zR⟩
 ·rw[e1,e2];have C3:=zaa ((zoj zs).trans c3);clear c3 e1 e2;go_enter Tryz.func112,Tryz.ntmps112;go_wp2_with (go_at_call 98;refine(zkh _ zs _ HR.o (by omega)).mono ?_;rw[C3.o];rintro e w' ⟨rfl,hw'⟩;subst w');go_ret2;exact⟨_,rfl,Row.nil _ _ _ _ _,zR⟩
 ·rw[e1,e2];have C3:=zaa ((zoj zs).trans c3);have Z0:=zaa (of_decide_eq_true c3:∀ k (h:k<zs.length),0<=zs[k]/\zs[k]<336);clear c3 e1 e2;have hal:=yaif
  have START:Hid ((w.alloc (.cells zoq 195)).rowIs w.heap.size 195 42 (fun k=>.bool (zin zs 0 k))):=by
   have:=World.rowIs_alloc w zoq 195 (fun k=>.bool (zin zs 0 k)) (fun k hk=>by rw[zsd]at hk;rw[yanl k hk];rfl);rw[zsd]at this;exact this
  have BS:=zaa ((Below.refl w.heap.size w).alloc zL (.cells zoq 195));go_enter Tryz.func112,Tryz.ntmps112;go_wp2_with (go_at_call 98;refine(zkh _ zs _ HR.o (by omega)).mono ?_;rw[C3.o];rintro e w' ⟨rfl,hw'⟩;subst w');clear hal
  go_loopw [5,7,8,20] (fun vL _ _ i wr=>∃ m:Nat,m<=zs.length/\i=.I m/\Hid (wr.ownsRow (w.heap.size+1) 84 3 vL (nl zs m).length (mis (nl zs m))/\zB w wr/\wr.rowIs w.heap.size 195 42 (fun k=>.bool (zin zs m k)))/\w.heap.size+1<=wr.heap.size) (fun _ _ _ i _=>zs.length-(intOf i).toNat)
  case atStart=>exact⟨0,by omega,rfl,⟨World.ownsRow_nil _ _ _ _,BS.o,START.o⟩,by simp⟩
  case round =>
   obtain⟨m,hm,rfl,I,hz⟩:=hrel
   by_cases hlt:m<zs.length
   ·obtain⟨b,o,rfl,hbl,hcell⟩:=HZ.o (by omega);have d0:=(I.o.2.1.cell (p:=⟨b,o+m,none⟩) hbl).trans (hcell m hlt);have p0:=Z0.o m hlt;have KN:=zaa (yabv zs m hlt p0.1);have SU:=zaa (fun j=>(yahd zs m j).trans (by rw[List.getElem?_eq_getElem hlt];rfl):∀ j,zin zs (m+1) j=(zin zs m j||(zs[m]/8 == (j:Int))));have NX:=zaa (show nl zs (m+1)=if zrc zs m=true then nl zs m else nl zs m++[⟨2,zs[m],0⟩] by rw[nl,List.getElem?_eq_getElem hlt];rfl);have g0:=I.o.2.2.frozen (zs[m]/8).toNat;have g1:=I.o.2.2.cell (i:=(zs[m]/8).toNat) (by omega)
    have m0:(0:Int)<=(m:Int):=by omega
    have m1:(m:Int)<(zs.length:Int):=by omega
    clear hcell;generalize zs[m]=y at *;obtain⟨y0,y1⟩:=p0
    have t0:0<=y/8:=by omega
    have t1:y/8<42:=by omega
    have yt:Hid (((y/8).toNat:Int)=y/8):=by show(((y/8).toNat:Nat):Int)=y/8;omega
    cases hk:zrc zs m
    ·rw[KN.o,hk]at g1;have E:=zaa (NX.o.trans (by rw[hk];rfl):nl zs (m+1)=nl zs m++[⟨2,y,0⟩]);have F:=zaa (I.o.2.2.set (y/8).toNat (.bool true));have B2:=zaa (I.o.2.1.setCell (p:=⟨w.heap.size,(y/8).toNat,none⟩) zL (.bool true));have O1:(wr.setCell ⟨w.heap.size,(y/8).toNat,none⟩ (.bool true)).ownsRow (w.heap.size+1) 84 3 u5 (nl zs m).length (mis (nl zs m)):=ownsRow_setCell_below I.o.1 (by simp only;omega) _;have hle:=yabr zs m
     have FR:=zaa (fun k (_:k<42)=>show(if k=(y/8).toNat then Value.bool true else Value.bool (zin zs m k))=Value.bool (zin zs (m+1) k) by
      rw[SU.o]
      by_cases e:k=(y/8).toNat
      ·rw[if_pos e,e,yt.o];simp
      ·rw[if_neg e]
       have:(y/8 == (k:Int))=false:=by rw[beq_eq_false_iff_ne];omega
       rw[this,Bool.or_false])
     obtain⟨wb,hwb⟩:∃ wb:World,wb=wr.setCell ⟨w.heap.size,(y/8).toNat,none⟩ (.bool true):=⟨_,rfl⟩
     have hzb:wb.heap.size=wr.heap.size:=by rw[hwb];simp[World.setCell]
     have O2:Hid ((wb.alloc (.cells #[.I 2,.I y,.I 0] 84)).ownsRow (w.heap.size+1) 84 3 u5 (nl zs m).length (mis (nl zs m))):=by rw[hwb];exact O1.alloc _
     have HRD:Hid (Rd (wb.alloc (.cells #[.I 2,.I y,.I 0] 84)) 3 (.slice (some ⟨wr.heap.size,0,none⟩) 1 1) 1 (Mi.cells ⟨2,y,0⟩)):=by rw[<- hzb];exact zjc wb 2 y 0
     have BB:Hid (zB w wb):=by rw[hwb];exact B2.o
     have FF:Hid (wb.rowIs w.heap.size 195 42 (fun k=>.bool (zin zs (m+1) k))):=by rw[hwb];exact F.o.congr FR.o
     clear hk O1 B2 F FR;go_wp2_with (at_builtin;rw[<- hwb];refine zae _ rfl (.tmp 32) (.tmp 35) 32 rfl (w.heap.size+1) 84 (.agg #[.I 0,.I 0,.I 0]) 3 24 Tryz.underlying32 zbj rfl (by decide) _ _ _ rfl O2.o _ 1 _ rfl HRD.o (zig _) (by simp[maxLen];omega) (by omega) (by simp;omega) ?_);intro vN wN hownN hgrN;rw[<- hwb]at hgrN
     have hl:=fun q hq=>(O2.o.lt q hq).1
     have hzN:=hgrN.size;simp only[World.size_alloc]at hzN
     have G:Hid (wN.ownsRow (w.heap.size+1) 84 3 vN (nl zs (m+1)).length (mis (nl zs (m+1)))/\zB w wN/\wN.rowIs w.heap.size 195 42 (fun k=>.bool (zin zs (m+1) k))):=by
      refine⟨?_,(BB.o.alloc (by omega) (.cells #[.I 2,.I y,.I 0] 84)).grown hgrN (by simp;omega) (fun q hq=>by have:=hl q hq;omega),?_⟩
      ·rw[E.o,zpz,List.length_append];exact hownN
      ·obtain⟨cs,hh,h1,h2⟩:=FF.o.alloc (.cells #[.I 2,.I y,.I 0] 84);exact⟨cs,(hgrN.block w.heap.size (by simp;omega) (fun e=>by have:=hl _ e.symm;omega)).trans hh,h1,h2⟩
     clear hownN hgrN hl;go_wp2
     go_roundw
     case rel=>exact⟨m+1,by omega,by go_num,G,by omega⟩
     case measure=>simp[intOf];omega
    ·rw[KN.o,hk]at g1;have E:=zaa (NX.o.trans (by rw[hk];rfl):nl zs (m+1)=nl zs m);have HK:=zaa hk;clear hk;go_wp2
     go_roundw
     case rel =>
      refine⟨m+1,by omega,by go_num,⟨by rw[E.o];exact I.o.1,I.o.2.1,I.o.2.2.congr (fun k hk=>?_)⟩,hz⟩
      show Value.bool (zin zs m k)=Value.bool (zin zs (m+1) k)
      rw[SU.o]
      by_cases e:y/8=(k:Int)
      ·have:zin zs m k=true:=by rw[show k=(y/8).toNat by omega,KN.o];exact HK.o
       rw[this];rfl
      ·rw[show(y/8 == (k:Int))=false by rw[beq_eq_false_iff_ne];exact e,Bool.or_false]
     case measure=>simp[intOf];omega
   ·obtain rfl:m=zs.length:=by omega
    have E:=zaa (show zbb zs=nl zs zs.length++[⟨3,0,0⟩]from rfl);have O2:=zaa (I.o.1.alloc (.cells #[.I 3,.I 0,.I 0] 84));have HRD:=zaa (zjc wr 3 0 0);have hle:=yabr zs zs.length;go_wp2_with (at_builtin;refine zae _ rfl (.tmp 38) (.tmp 40) 32 rfl (w.heap.size+1) 84 (.agg #[.I 0,.I 0,.I 0]) 3 24 Tryz.underlying32 zbj rfl (by decide) _ _ _ rfl O2.o _ 1 _ rfl HRD.o (zig _) (by simp[maxLen];omega) (by omega) (by simp;omega) ?_);intro vN wN hownN hgrN
    have hl:=fun q hq=>(O2.o.lt q hq).1
    have G:Hid (wN.ownsRow (w.heap.size+1) 84 3 vN (zbb zs).length (mis (zbb zs))/\zB w wN):=by
     refine⟨?_,(I.o.2.1.alloc (by omega) (.cells #[.I 3,.I 0,.I 0] 84)).grown hgrN (by simp;omega) (fun q hq=>by have:=hl q hq;omega)⟩;rw[E.o,zpz,List.length_append];exact hownN
    clear hownN hgrN hl;obtain⟨aL,cL,hvL⟩:=RdM.form (zad G.o.1).rd rfl;subst hvL;go_wp2;go_ret2;exact⟨_,rfl,(zad G.o.1).wide (by omega) zL,G.o.2⟩
def upB(s:Se):Bool:=decide ((48<=s.at_/\s.at_<336)/\0<=s.val/\s.val<1099511627776)
def yanp(ps:List Se):Bool:=decide (∀ k (h:k<ps.length),upB ps[k]=true)
theorem yaua{ps:List Se}(h:∀ k (h:k<ps.length),upB ps[k]=true):yanp ps=true:=decide_eq_true h
theorem yals{ps:List Se}{k:Nat}(hk:k<ps.length)(h:upB ps[k]=false):yanp ps=false:=decide_eq_false (fun x=>by have:=x k hk;rw[h]at this;cases this)
theorem yaeb(us:List Se):yanp us=upsB us:=by
 unfold yanp upsB;rw[decide_eq_decide];exact⟨fun h k hk=>of_decide_eq_true (h k hk),fun h k hk=>decide_eq_true (h k hk)⟩
theorem zoe(s:Se)(w:World):zC 56 #[.agg #[.I s.at_,.I s.val]] w fun e w'=>e=.returned (.bool (upB s))/\zB w w':=by
 obtain⟨a,x⟩:=s;simp only;have hb0:zB w (w.alloc (.cells #[.I a,.I x] 114)):=zR.alloc zL _
 by_cases c1:48<=a
 case neg =>
  have E:=zaa (show upB ⟨a,x⟩=false from decide_eq_false (fun h=>c1 h.1.1));go_enter Tryz.func56,Tryz.ntmps56;go_wp2;go_ret;exact⟨zag E.o.symm,hb0⟩
 by_cases c2:zbn a=true
 case neg =>
  have c2':zbn a=false:=by simpa using c2
  have E:=zaa (show upB ⟨a,x⟩=false from decide_eq_false (fun h=>c2 (decide_eq_true ⟨by omega,h.1.2⟩)));have C2:=zaa c2';clear c2 c2';go_enter Tryz.func56,Tryz.ntmps56;go_wp2_with (go_at_call 106;refine(zdj _ _).mono ?_;rw[C2.o];rintro e w' ⟨rfl,rfl⟩);go_ret;exact⟨zag E.o.symm,hb0⟩
 have E:=zaa (show upB ⟨a,x⟩=zat x by
  unfold upB zat;rw[decide_eq_decide];have:=zgf c2;simp only
  omega)
 have C2:=zaa c2;clear c2;go_enter Tryz.func56,Tryz.ntmps56;go_wp2_with (first | (go_at_call 106;refine(zdj _ _).mono ?_;rw[C2.o];rintro e w' ⟨rfl,rfl⟩) | (go_at_call 51;refine(zce _ _).mono ?_;rintro e w' ⟨rfl,rfl⟩));go_ret;exact⟨zag E.o.symm,hb0⟩
theorem zji(v:Value)(ps:List Se)(w:World)(h:RdE w v ps)(hn:ps.length<=1048576) :
  zC 55 #[v,.func (.func 56) #[] #[]] w fun e w'=>e=.returned (.bool (yanp ps))/\zB w w':=by
 obtain⟨aP,cP,rfl,_,hcP⟩:=h.shape;clear h;go_enter Tryz.func55,Tryz.ntmps55;go_wp2
 go_loopw [6,9] (fun _ i wr=>∃ k:Nat,k<=ps.length/\i=.I k/\Hid (∀ j (h:j<ps.length),j<k->upB ps[j]=true)/\zB w wr) (fun _ i _=>ps.length-(intOf i).toNat)
 case atStart=>exact⟨0,by omega,rfl,fun j h a=>absurd a (by omega),zR⟩
 case round =>
  obtain⟨m,hm,rfl,H,hbw⟩:=hrel;have hz:=hbw.size
  by_cases hlt2:m<ps.length
  ·obtain⟨b2,o2,rfl,hbl2,hcell2⟩:=hcP (by omega);obtain⟨d0,d1⟩:=hcell2 m hlt2;have e0:=(hbw.cell (p:=⟨b2,o2+m*2,none⟩) hbl2).trans d0;have e1:=(hbw.cell (p:=⟨b2,o2+m*2+1,none⟩) hbl2).trans d1;have hb1:=zaa (hbw.alloc hz (.cells #[.I ps[m].at_,.I ps[m].val] 114));clear d0 d1 hcell2 hcP
   by_cases q:upB ps[m]=true
   ·have Q:=zaa q;clear q;go_wp2_with (go_at_call 56;refine(zoe ps[m] _).mono ?_;rw[Q.o];rintro e w' ⟨rfl,hw'⟩);have hw2:=hb1.o.trans (hw'.mono (by simp;omega));clear hb1 hw'
    go_roundw
    case rel =>
     refine⟨m+1,by omega,by go_num,fun j h a=>?_,hw2⟩
     by_cases e:j=m
     ·subst e;exact Q.o
     ·exact H.o j h (by omega)
    case measure=>simp[intOf];omega
   ·have Q:=zaa (show upB ps[m]=false by simpa using q);have E:=zaa (yals hlt2 Q.o);clear q;go_wp2_with (go_at_call 56;refine(zoe ps[m] _).mono ?_;rw[Q.o];rintro e w' ⟨rfl,hw'⟩);have hw2:=hb1.o.trans (hw'.mono (by simp;omega));go_ret;exact⟨zag E.o.symm,hw2⟩
  ·have E:=zaa (yaua (fun j h=>H.o j h (by omega)));go_wp2;go_ret;exact⟨zag E.o.symm,hbw⟩
theorem zpd(i:Nat)(w:World)(hi:i<=1048576):zC 148 #[.I (i:Int)] w fun e w'=>e=.returned (.I (9+2*(i:Int)))/\w'=w:=by
 go_enter Tryz.func148,Tryz.ntmps148;go_wp2;go_ret;exact⟨rfl,rfl⟩
theorem zxc(i:Nat)(a x:Int)(w:World)(hi:i<=1048576):zC 108 #[.I (i:Int),.agg #[.I a,.I x]] w fun e w'=>∃ v',e=.returned v'/\RdM w' v' [⟨1,9+2*(i:Int),a⟩,⟨1,9+2*(i:Int)+1,x⟩]/\zB w w':=by
 have R:=zaa (yacd (w.alloc (.cells #[.I a,.I x] 114)) 1 (9+2*(i:Int)) a 1 (9+2*(i:Int)+1) x);have B:Hid (zB w ((w.alloc (.cells #[.I a,.I x] 114)).alloc (.cells #[.I 1,.I (9+2*(i:Int)),.I a,.I 1,.I (9+2*(i:Int)+1),.I x] 84))):=(zR.alloc zL _).alloc (by simp) _;go_enter Tryz.func108,Tryz.ntmps108;go_wp2_with (go_at_call 148;refine(zpd _ _ hi).mono ?_;rintro e w' ⟨rfl,rfl⟩);go_ret;exact⟨_,rfl,by unfold RdM;simpa using R.o,B.o⟩
theorem yada(i:Nat)(a x:Int)(w:World):zC 110 #[.I (i:Int),.agg #[.I a,.I x]] w fun e w'=>∃ v',e=.returned v'/\RdM w' v' [⟨1,a,x⟩]/\zB w w':=by
 have R:=zaa (zjc (w.alloc (.cells #[.I a,.I x] 114)) 1 a x);have B:Hid (zB w ((w.alloc (.cells #[.I a,.I x] 114)).alloc (.cells #[.I 1,.I a,.I x] 84))):=(zR.alloc zL _).alloc (by simp) _;go_enter Tryz.func110,Tryz.ntmps110;go_wp2;go_ret;exact⟨_,rfl,by unfold RdM;rw[zjr];simpa using R.o,B.o⟩
theorem zkf(n:Int)(w:World):zC 109 #[.I n] w fun e w'=>∃ v',e=.returned v'/\RdM w' v' [⟨1,8,n⟩]/\zB w w':=by
 have R:=zaa (zjc w 1 8 n);have B:Hid (zB w (w.alloc (.cells #[.I 1,.I 8,.I n] 84))):=zR.alloc zL _;go_enter Tryz.func109,Tryz.ntmps109;go_wp2;go_ret;exact⟨_,rfl,by unfold RdM;rw[zjr];simpa using R.o,B.o⟩
theorem World.ownsRow.below{w w':World}{base:Nat}{e:TypeId}{size:Nat}{v:Value}{n:Nat}{xs:List Value}(h:w.ownsRow base e size v n xs)(hb:zB w w'):w'.ownsRow base e size v n xs:=by
 obtain⟨hl,h⟩:=h;refine⟨hl,?_⟩
 rcases h with h | ⟨g,cap,cur,h1,h2,h3,h4⟩
 ·exact .inl h
 ·exact .inr ⟨g,cap,cur,h1,h2,(hb.block g (Array.getElem?_eq_some_iff.1 h3).1).trans h3,h4⟩
theorem yagw(v:Value)(us:List Se)(w:World)(h:RdE w v us)(hn:us.length<=64) :
  zC 107 #[v,.func (.func 108) #[] #[]] w fun e w'=>∃ v',e=.returned v'/\Row w' 84 3 w.heap.size w'.heap.size v' (jlM us us.length).length (mis (jlM us us.length))/\zB w w':=by
 obtain⟨aU,cU,rfl,_,hcU⟩:=h.shape;have HU:=zaa hcU;clear h hcU;go_enter Tryz.func107,Tryz.ntmps107;go_wp2
 go_loopw [5,6,7,10] (fun vL _ _ i wr=>∃ m:Nat,m<=us.length/\i=.I m/\Hid (wr.ownsRow w.heap.size 84 3 vL (jlM us m).length (mis (jlM us m))/\zB w wr)/\w.heap.size<=wr.heap.size) (fun _ _ _ i _=>us.length-(intOf i).toNat)
 case atStart=>exact⟨0,by omega,rfl,⟨World.ownsRow_nil _ _ _ _,zR⟩,Nat.le_refl _⟩
 case round =>
  obtain⟨m,hm,rfl,I,hz⟩:=hrel
  by_cases hlt:m<us.length
  ·obtain⟨b,o,rfl,hbl,hcell⟩:=HU.o (by omega);obtain⟨d0,d1⟩:=hcell m hlt;have e0:=(I.o.2.cell (p:=⟨b,o+m*2,none⟩) hbl).trans d0;have e1:=(I.o.2.cell (p:=⟨b,o+m*2+1,none⟩) hbl).trans d1
   have m0:(0:Int)<=(m:Int):=by omega
   have m1:(m:Int)<(us.length:Int):=by omega
   have NX:=zaa (yaer us m hlt);have hle:=yade us m;clear d0 d1 hcell;generalize us[m].at_=a at *;generalize us[m].val=x at *
   obtain⟨wb,hwb⟩:∃ wb:World,wb=wr.alloc (.cells #[.I a,.I x] 114):=⟨_,rfl⟩
   have BB:Hid (zB wr wb):=by rw[hwb];exact zR.alloc zL _
   have hzb:wr.heap.size<=wb.heap.size:=BB.o.size
   have OB:Hid (wb.ownsRow w.heap.size 84 3 u5 (jlM us m).length (mis (jlM us m))):=by rw[hwb];exact I.o.1.alloc _
   go_wp2_with (first
    | (go_at_call 108;rw[<- hwb];refine(zxc m a x wb (by omega)).mono ?_;rintro e w1 ⟨v1,rfl,hr1,hb1⟩;have O1:=zaa (World.ownsRow.below OB.o hb1);have R1:=zaa hr1;have B1:=zaa hb1;have hz1:wb.heap.size<=w1.heap.size:=hb1.size;obtain⟨a1,c1,rfl,-,-⟩:=hr1.shape;clear hr1 hb1)
    | (at_builtin;refine zae _ rfl (.tmp 15) (.tmp 19) 32 rfl w.heap.size 84 (.agg #[.I 0,.I 0,.I 0]) 3 24 Tryz.underlying32 zbj rfl (by decide) _ _ _ rfl O1.o _ 2 _ rfl R1.o (zcg _) (by simp[maxLen];omega) (by omega) (by omega) ?_))
   intro vN wN hownN hgrN
   have hl:=fun q hq=>(O1.o.lt q hq).1
   have hzN:=hgrN.size
   have G:Hid (wN.ownsRow w.heap.size 84 3 vN (jlM us (m+1)).length (mis (jlM us (m+1)))/\zB w wN):=by
    refine⟨?_,((I.o.2.trans (BB.o.mono hz)).trans (B1.o.mono (by omega))).grown hgrN (by omega) (fun q hq=>hl q hq)⟩;rw[NX.o,zhc,List.length_append];exact hownN
   clear hownN hgrN hl;go_wp2
   go_roundw
   case rel=>exact⟨m+1,by omega,by go_num,G,by omega⟩
   case measure=>simp[intOf];omega
  ·obtain rfl:m=us.length:=by omega
   obtain⟨aL,cL,hvL⟩:=RdM.form (zad I.o.1).rd rfl;subst hvL;go_wp2;go_ret;exact⟨_,rfl,zad I.o.1,I.o.2⟩
theorem yahr(v:Value)(us:List Se)(w:World)(h:RdE w v us)(hn:us.length<=64) :
  zC 107 #[v,.func (.func 110) #[] #[]] w fun e w'=>∃ v',e=.returned v'/\Row w' 84 3 w.heap.size w'.heap.size v' (apM us us.length).length (mis (apM us us.length))/\zB w w':=by
 obtain⟨aU,cU,rfl,_,hcU⟩:=h.shape;have HU:=zaa hcU;clear h hcU;go_enter Tryz.func107,Tryz.ntmps107;go_wp2
 go_loopw [5,6,7,10] (fun vL _ _ i wr=>∃ m:Nat,m<=us.length/\i=.I m/\Hid (wr.ownsRow w.heap.size 84 3 vL (apM us m).length (mis (apM us m))/\zB w wr)/\w.heap.size<=wr.heap.size) (fun _ _ _ i _=>us.length-(intOf i).toNat)
 case atStart=>exact⟨0,by omega,rfl,⟨World.ownsRow_nil _ _ _ _,zR⟩,Nat.le_refl _⟩
 case round =>
  obtain⟨m,hm,rfl,I,hz⟩:=hrel
  by_cases hlt:m<us.length
  ·obtain⟨b,o,rfl,hbl,hcell⟩:=HU.o (by omega);obtain⟨d0,d1⟩:=hcell m hlt;have e0:=(I.o.2.cell (p:=⟨b,o+m*2,none⟩) hbl).trans d0;have e1:=(I.o.2.cell (p:=⟨b,o+m*2+1,none⟩) hbl).trans d1
   have m0:(0:Int)<=(m:Int):=by omega
   have m1:(m:Int)<(us.length:Int):=by omega
   have NX:=zaa (yage us m hlt);have hle:=yacv us m;clear d0 d1 hcell;generalize us[m].at_=a at *;generalize us[m].val=x at *
   obtain⟨wb,hwb⟩:∃ wb:World,wb=wr.alloc (.cells #[.I a,.I x] 114):=⟨_,rfl⟩
   have BB:Hid (zB wr wb):=by rw[hwb];exact zR.alloc zL _
   have hzb:wr.heap.size<=wb.heap.size:=BB.o.size
   have OB:Hid (wb.ownsRow w.heap.size 84 3 u5 (apM us m).length (mis (apM us m))):=by rw[hwb];exact I.o.1.alloc _
   go_wp2_with (first
    | (go_at_call 110;rw[<- hwb];refine(yada m a x wb).mono ?_;rintro e w1 ⟨v1,rfl,hr1,hb1⟩;have O1:=zaa (World.ownsRow.below OB.o hb1);have R1:=zaa hr1;have B1:=zaa hb1;have hz1:wb.heap.size<=w1.heap.size:=hb1.size;obtain⟨a1,c1,rfl,-,-⟩:=hr1.shape;clear hr1 hb1)
    | (at_builtin;refine zae _ rfl (.tmp 15) (.tmp 19) 32 rfl w.heap.size 84 (.agg #[.I 0,.I 0,.I 0]) 3 24 Tryz.underlying32 zbj rfl (by decide) _ _ _ rfl O1.o _ 1 _ rfl R1.o (zcg _) (by simp[maxLen];omega) (by omega) (by omega) ?_))
   intro vN wN hownN hgrN
   have hl:=fun q hq=>(O1.o.lt q hq).1
   have hzN:=hgrN.size
   have G:Hid (wN.ownsRow w.heap.size 84 3 vN (apM us (m+1)).length (mis (apM us (m+1)))/\zB w wN):=by
    refine⟨?_,((I.o.2.trans (BB.o.mono hz)).trans (B1.o.mono (by omega))).grown hgrN (by omega) (fun q hq=>hl q hq)⟩;rw[NX.o,zhc,List.length_append];exact hownN
   clear hownN hgrN hl;go_wp2
   go_roundw
   case rel=>exact⟨m+1,by omega,by go_num,G,by omega⟩
   case measure=>simp[intOf];omega
  ·obtain rfl:m=us.length:=by omega
   obtain⟨aL,cL,hvL⟩:=RdM.form (zad I.o.1).rd rfl;subst hvL;go_wp2;go_ret;exact⟨_,rfl,zad I.o.1,I.o.2⟩
end Go.Proofs.YtdiaiejmoocpmaaGreatDoor

namespace Go.Proofs.YtdiaiejmoocpmaaGreatDoor
theorem yaoj{ws:List Ino}{i:Nat}{x:Ino}(hx:x.kind=(zan ws i).kind)(z:Int):zal (ws.set i x) z=zal ws z:=by
 unfold zal;rw[List.getD_eq_getElem?_getD,List.getD_eq_getElem?_getD]
 by_cases e:i=z.toNat
 ·subst e
  by_cases h:z.toNat<ws.length
  ·rw[List.getElem?_set_self h,List.getElem?_eq_getElem h]
   show x.kind=_
   rw[hx,zbp h];rfl
  ·rw[List.getElem?_eq_none (by rw[List.length_set];omega),List.getElem?_eq_none (by omega)]
 ·rw[List.getElem?_set_ne e]
end Go.Proofs.YtdiaiejmoocpmaaGreatDoor

namespace Go.Proofs.YtdiaiejmoocpmaaGreatDoor
theorem yaog{k:Nat}(hk:312<=k):∀ (us:List Se) (ls:List Int),UpIn us->(zdl ls us)[k]?=ls[k]?
 | [],_,_=>rfl
 | u::us,ls,h=>by
  rw[zlw,yaog hk us _ (fun v hv=>h v (List.mem_cons_of_mem _ hv))];have q:=h u List.mem_cons_self;rw[List.getElem?_set_ne (by omega)]
theorem yawu{x:Ino}(h:zer x=true){j:Nat}(hj:j<8):0<=x.map.getD j 0/\(x.size<=(j:Int)->x.map.getD j 0=0):=by
 have m:=zhp (zbq h).2.2.2.1 j hj;unfold zsv at m;rw[Bool.and_eq_true]at m;have t:=zcw m.1;refine⟨t.1,fun hs=>?_⟩;rw[Bool.or_eq_true]at m
 rcases m.2 with q | q
 ·simpa using q
 ·have:=of_decide_eq_true q;omega
theorem yame{ns ns':List Ino}{ds:List Den}(hk:∀ z,zal ns' z=zal ns z):∀ (xs:List ByteArray) (z:Int),wk ns' ds z xs=wk ns ds z xs
 | [],_=>rfl
 | n::xs,z=>by
  by_cases q:zal ns z=2
  ·cases e:zcc ds z n with
   | none=>rw[zkr q e,zkr ((hk z).trans q) e]
   | some j=>rw[zlc q e,zlc ((hk z).trans q) e];exact yame hk xs _
  ·rw[zif q,zif (by rw[hk];exact q)]
theorem yawe{ns ns':List Ino}{ds:List Den}{s:ByteArray}(hk:∀ z,zal ns' z=zal ns z):flI ns' ds s=flI ns ds s:=by
 unfold flI lkI;rw[yame hk,hk]
theorem yacj{ls es:List Int}{ns:List Ino}{ds:List Den}{s:ByteArray}(h:Idle ls es ns ds)(hs:s.size<=65536):psR ls [] es [] s=psI ls [] es [] ns ds s:=by
 unfold psR;rw[if_neg (by omega),if_pos (by unfold dvB;rw[h.pm,h.bk,show riB (zbs ls [])=true from h.wi.ri];rfl)];rw[show zbc (zbs ls []) 16=ns from h.wi.inos,show zbh (zbs ls []) 24=ds from h.wi.dens]
theorem zih(ls es:List Int)(x:Ino)(k:Nat):(pgL ls [] es [] x k).length=k:=by simp[pgL]
theorem yavl{ls es:List Int}{x:Ino}{k j:Nat}(hj:j<(pgL ls [] es [] x k).length):(pgL ls [] es [] x k)[j]=pgV ls [] es [] (x.map.getD j 0):=by simp[pgL]
theorem yatp{ls es:List Int}{ns:List Ino}{ds:List Den}{s:ByteArray}:(psI ls [] es [] ns ds s).2=(flI ns ds s).2:=by
 unfold psI
 by_cases c:(flI ns ds s).2=0
 ·rw[if_pos c,c]
 ·rw[if_neg c]
end Go.Proofs.YtdiaiejmoocpmaaGreatDoor
