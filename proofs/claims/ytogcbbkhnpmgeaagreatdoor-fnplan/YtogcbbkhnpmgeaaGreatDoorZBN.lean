import Derived.Test.YtogcbbkhnpmgeaaGreatDoorZBB
set_option maxRecDepth 100000
set_option maxHeartbeats 8000000
namespace Go.Proofs.YtogcbbkhnpmgeaaGreatDoor
open Go.RowKit
theorem zop(zs:List Int):zrk zs=allP zs:=by
 unfold zrk allP;rw[decide_eq_decide];exact⟨fun h k hk=>zgd (h k hk),fun h k hk=>decide_eq_true (h k hk)⟩
def zof:Array Value:=(List.replicate 42 (Value.bool false)).toArray
theorem yair(w:World):(zeroValue 267).run Tryz.prog w=.ok (.agg zof) w:=by kernel_rfl
theorem zqf:zof.size=42:=by unfold zof;rw[List.size_toArray,List.length_replicate]
theorem yamv(k:Nat)(hk:k<42):zof[k]?=some (.bool false):=by unfold zof;rw[List.getElem?_toArray,List.getElem?_replicate,if_pos hk]
def ziy(zs:List Int)(m j:Nat):Bool:=(List.range m).any (fun i=>zs[i]?.getD 0/8 == (j:Int))
theorem yajm(zs:List Int)(m j:Nat):ziy zs (m+1) j=(ziy zs m j||(zs[m]?.getD 0/8 == (j:Int))):=by
 unfold ziy;rw[List.range_succ,List.any_append];simp
theorem yabv(zs:List Int)(m:Nat)(hm:m<zs.length)(h0:0<=zs[m]):ziy zs m (zs[m]/8).toNat=zsc zs m:=by
 have e:(((zs[m]/8).toNat:Nat):Int)=zs[m]/8:=by omega
 unfold ziy zsc;rw[e,List.getElem?_eq_getElem hm];rfl
theorem zng(v:Value)(zs:List Int)(w:World)(h:RdI w v zs)(hn:zs.length<=1048576) :
  zC 230 #[v] w fun e w'=>∃ v',e=.returned (.tuple #[v',.I (flC zs)])/\Row w' 82 3 w.heap.size w'.heap.size v' (fpL zs).length (mis (fpL zs))/\zB w w':=by
 have HR:=zaa h;obtain⟨aZ,cZ,rfl,_,hcZ⟩:=h.shape;have HZ:=zaa hcZ;clear h hcZ
 rcases yaey zs with ⟨c1,e1,e2⟩ | ⟨c1,c2,e1,e2⟩ | ⟨c1,c2,c3,e1,e2⟩ | ⟨c1,c2,c3,e1,e2⟩
 ·rw[e1,e2];clear e1 e2;go_enter Tryz.func230,Tryz.ntmps230;go_wp2;go_ret2;exact⟨_,rfl,Row.nil _ _ _ _ _,zR⟩
 ·rw[e1,e2];clear e1 e2;go_enter Tryz.func230,Tryz.ntmps230;go_wp2;go_ret2;exact⟨_,rfl,Row.nil _ _ _ _ _,zR⟩
 ·rw[e1,e2];have C3:=zaa ((zop zs).trans c3);clear c3 e1 e2;go_enter Tryz.func230,Tryz.ntmps230;go_wp2_with (go_at_call 94;refine(zkp _ zs _ HR.o (by omega)).mono ?_;rw[C3.o];rintro e w' ⟨rfl,hw'⟩;subst w');go_ret2;exact⟨_,rfl,Row.nil _ _ _ _ _,zR⟩
 ·rw[e1,e2];have C3:=zaa ((zop zs).trans c3);have Z0:=zaa (of_decide_eq_true c3:∀ k (h:k<zs.length),0<=zs[k]/\zs[k]<336);clear c3 e1 e2;have hal:=yair
  have START:Hid ((w.alloc (.cells zof 267)).rowIs w.heap.size 267 42 (fun k=>.bool (ziy zs 0 k))):=by
   have:=World.rowIs_alloc w zof 267 (fun k=>.bool (ziy zs 0 k)) (fun k hk=>by rw[zqf]at hk;rw[yamv k hk];rfl);rw[zqf]at this;exact this
  have BS:=zaa ((Below.refl w.heap.size w).alloc zL (.cells zof 267));go_enter Tryz.func230,Tryz.ntmps230;go_wp2_with (go_at_call 94;refine(zkp _ zs _ HR.o (by omega)).mono ?_;rw[C3.o];rintro e w' ⟨rfl,hw'⟩;subst w');clear hal
  go_loopw [5,7,8,20] (fun vL _ _ i wr=>∃ m:Nat,m<=zs.length/\i=.I m/\Hid (wr.ownsRow (w.heap.size+1) 82 3 vL (nl zs m).length (mis (nl zs m))/\zB w wr/\wr.rowIs w.heap.size 267 42 (fun k=>.bool (ziy zs m k)))/\w.heap.size+1<=wr.heap.size) (fun _ _ _ i _=>zs.length-(intOf i).toNat)
  case atStart=>exact⟨0,by omega,rfl,⟨World.ownsRow_nil _ _ _ _,BS.o,START.o⟩,by simp⟩
  case round =>
   obtain⟨m,hm,rfl,I,hz⟩:=hrel
   by_cases hlt:m<zs.length
   ·obtain⟨b,o,rfl,hbl,hcell⟩:=HZ.o (by omega);have d0:=(I.o.2.1.cell (p:=⟨b,o+m,none⟩) hbl).trans (hcell m hlt);have p0:=Z0.o m hlt;have KN:=zaa (yabv zs m hlt p0.1);have SU:=zaa (fun j=>(yajm zs m j).trans (by rw[List.getElem?_eq_getElem hlt];rfl):∀ j,ziy zs (m+1) j=(ziy zs m j||(zs[m]/8 == (j:Int))));have NX:=zaa (show nl zs (m+1)=if zsc zs m=true then nl zs m else nl zs m++[⟨2,zs[m],0⟩] by rw[nl,List.getElem?_eq_getElem hlt];rfl);have g0:=I.o.2.2.frozen (zs[m]/8).toNat;have g1:=I.o.2.2.cell (i:=(zs[m]/8).toNat) (by omega)
    have m0:(0:Int)<=(m:Int):=by omega
    have m1:(m:Int)<(zs.length:Int):=by omega
    clear hcell;generalize zs[m]=y at *;obtain⟨y0,y1⟩:=p0
    have t0:0<=y/8:=by omega
    have t1:y/8<42:=by omega
    have yt:Hid (((y/8).toNat:Int)=y/8):=by show(((y/8).toNat:Nat):Int)=y/8;omega
    cases hk:zsc zs m
    ·rw[KN.o,hk]at g1;have E:=zaa (NX.o.trans (by rw[hk];rfl):nl zs (m+1)=nl zs m++[⟨2,y,0⟩]);have F:=zaa (I.o.2.2.set (y/8).toNat (.bool true));have B2:=zaa (I.o.2.1.setCell (p:=⟨w.heap.size,(y/8).toNat,none⟩) zL (.bool true));have O1:(wr.setCell ⟨w.heap.size,(y/8).toNat,none⟩ (.bool true)).ownsRow (w.heap.size+1) 82 3 u5 (nl zs m).length (mis (nl zs m)):=ownsRow_setCell_below I.o.1 (by simp only;omega) _;have hle:=yack zs m
     have FR:=zaa (fun k (_:k<42)=>show(if k=(y/8).toNat then Value.bool true else Value.bool (ziy zs m k))=Value.bool (ziy zs (m+1) k) by
      rw[SU.o]
      by_cases e:k=(y/8).toNat
      ·rw[if_pos e,e,yt.o];simp
      ·rw[if_neg e]
       have:(y/8 == (k:Int))=false:=by rw[beq_eq_false_iff_ne];omega
       rw[this,Bool.or_false])
     obtain⟨wb,hwb⟩:∃ wb:World,wb=wr.setCell ⟨w.heap.size,(y/8).toNat,none⟩ (.bool true):=⟨_,rfl⟩
     have hzb:wb.heap.size=wr.heap.size:=by rw[hwb];simp[World.setCell]
     have O2:Hid ((wb.alloc (.cells #[.I 2,.I y,.I 0] 82)).ownsRow (w.heap.size+1) 82 3 u5 (nl zs m).length (mis (nl zs m))):=by rw[hwb];exact O1.alloc _
     have HRD:Hid (Rd (wb.alloc (.cells #[.I 2,.I y,.I 0] 82)) 3 (.slice (some ⟨wr.heap.size,0,none⟩) 1 1) 1 (Mi.cells ⟨2,y,0⟩)):=by rw[<- hzb];exact zjg wb 2 y 0
     have BB:Hid (zB w wb):=by rw[hwb];exact B2.o
     have FF:Hid (wb.rowIs w.heap.size 267 42 (fun k=>.bool (ziy zs (m+1) k))):=by rw[hwb];exact F.o.congr FR.o
     clear hk O1 B2 F FR;go_wp2_with (at_builtin;rw[<- hwb];refine zae _ rfl (.tmp 32) (.tmp 35) 32 rfl (w.heap.size+1) 82 (.agg #[.I 0,.I 0,.I 0]) 3 24 Tryz.underlying32 zbp rfl (by decide) _ _ _ rfl O2.o _ 1 _ rfl HRD.o (zif _) (by simp[maxLen];omega) (by omega) (by simp;omega) ?_);intro vN wN hownN hgrN;rw[<- hwb]at hgrN
     have hl:=fun q hq=>(O2.o.lt q hq).1
     have hzN:=hgrN.size;simp only[World.size_alloc]at hzN
     have G:Hid (wN.ownsRow (w.heap.size+1) 82 3 vN (nl zs (m+1)).length (mis (nl zs (m+1)))/\zB w wN/\wN.rowIs w.heap.size 267 42 (fun k=>.bool (ziy zs (m+1) k))):=by
      refine⟨?_,(BB.o.alloc (by omega) (.cells #[.I 2,.I y,.I 0] 82)).grown hgrN (by simp;omega) (fun q hq=>by have:=hl q hq;omega),?_⟩
      ·rw[E.o,zpw,List.length_append];exact hownN
      ·obtain⟨cs,hh,h1,h2⟩:=FF.o.alloc (.cells #[.I 2,.I y,.I 0] 82);exact⟨cs,(hgrN.block w.heap.size (by simp;omega) (fun e=>by have:=hl _ e.symm;omega)).trans hh,h1,h2⟩
     clear hownN hgrN hl;go_wp2
     go_roundw
     case rel=>exact⟨m+1,by omega,by go_num,G,by omega⟩
     case measure=>simp[intOf];omega
    ·rw[KN.o,hk]at g1;have E:=zaa (NX.o.trans (by rw[hk];rfl):nl zs (m+1)=nl zs m);have HK:=zaa hk;clear hk;go_wp2
     go_roundw
     case rel =>
      refine⟨m+1,by omega,by go_num,⟨by rw[E.o];exact I.o.1,I.o.2.1,I.o.2.2.congr (fun k hk=>?_)⟩,hz⟩
      show Value.bool (ziy zs m k)=Value.bool (ziy zs (m+1) k)
      rw[SU.o]
      by_cases e:y/8=(k:Int)
      ·have:ziy zs m k=true:=by rw[show k=(y/8).toNat by omega,KN.o];exact HK.o
       rw[this];rfl
      ·rw[show(y/8 == (k:Int))=false by rw[beq_eq_false_iff_ne];exact e,Bool.or_false]
     case measure=>simp[intOf];omega
   ·obtain rfl:m=zs.length:=by omega
    have E:=zaa (show zbe zs=nl zs zs.length++[⟨3,0,0⟩]from rfl);have O2:=zaa (I.o.1.alloc (.cells #[.I 3,.I 0,.I 0] 82));have HRD:=zaa (zjg wr 3 0 0);have hle:=yack zs zs.length;go_wp2_with (at_builtin;refine zae _ rfl (.tmp 38) (.tmp 40) 32 rfl (w.heap.size+1) 82 (.agg #[.I 0,.I 0,.I 0]) 3 24 Tryz.underlying32 zbp rfl (by decide) _ _ _ rfl O2.o _ 1 _ rfl HRD.o (zif _) (by simp[maxLen];omega) (by omega) (by simp;omega) ?_);intro vN wN hownN hgrN
    have hl:=fun q hq=>(O2.o.lt q hq).1
    have G:Hid (wN.ownsRow (w.heap.size+1) 82 3 vN (zbe zs).length (mis (zbe zs))/\zB w wN):=by
     refine⟨?_,(I.o.2.1.alloc (by omega) (.cells #[.I 3,.I 0,.I 0] 82)).grown hgrN (by simp;omega) (fun q hq=>by have:=hl q hq;omega)⟩;rw[E.o,zpw,List.length_append];exact hownN
    clear hownN hgrN hl;obtain⟨aL,cL,hvL⟩:=RdM.form (zad G.o.1).rd rfl;subst hvL;go_wp2;go_ret2;exact⟨_,rfl,(zad G.o.1).wide (by omega) zL,G.o.2⟩
def upB(s:Se):Bool:=decide ((48<=s.at_/\s.at_<336)/\0<=s.val/\s.val<1099511627776)
def yari(ps:List Se):Bool:=decide (∀ k (h:k<ps.length),upB ps[k]=true)
theorem yaur{ps:List Se}(h:∀ k (h:k<ps.length),upB ps[k]=true):yari ps=true:=decide_eq_true h
theorem yaor{ps:List Se}{k:Nat}(hk:k<ps.length)(h:upB ps[k]=false):yari ps=false:=decide_eq_false (fun x=>by have:=x k hk;rw[h]at this;cases this)
theorem yafz(us:List Se):yari us=upsB us:=by
 unfold yari upsB;rw[decide_eq_decide];exact⟨fun h k hk=>of_decide_eq_true (h k hk),fun h k hk=>decide_eq_true (h k hk)⟩
theorem zob(s:Se)(w:World):zC 45 #[.agg #[.I s.at_,.I s.val]] w fun e w'=>e=.returned (.bool (upB s))/\zB w w':=by
 obtain⟨a,x⟩:=s;simp only;have hb0:zB w (w.alloc (.cells #[.I a,.I x] 104)):=zR.alloc zL _
 by_cases c1:48<=a
 case neg =>
  have E:=zaa (show upB ⟨a,x⟩=false from decide_eq_false (fun h=>c1 h.1.1));go_enter Tryz.func45,Tryz.ntmps45;go_wp2;go_ret;exact⟨zai E.o.symm,hb0⟩
 by_cases c2:zbx a=true
 case neg =>
  have c2':zbx a=false:=by simpa using c2
  have E:=zaa (show upB ⟨a,x⟩=false from decide_eq_false (fun h=>c2 (decide_eq_true ⟨by omega,h.1.2⟩)));have C2:=zaa c2';clear c2 c2';go_enter Tryz.func45,Tryz.ntmps45;go_wp2_with (go_at_call 98;refine(zdf _ _).mono ?_;rw[C2.o];rintro e w' ⟨rfl,rfl⟩);go_ret;exact⟨zai E.o.symm,hb0⟩
 have E:=zaa (show upB ⟨a,x⟩=zbd x by
  unfold upB zbd;rw[decide_eq_decide];have:=zgd c2;simp only
  omega)
 have C2:=zaa c2;clear c2;go_enter Tryz.func45,Tryz.ntmps45;go_wp2_with (first | (go_at_call 98;refine(zdf _ _).mono ?_;rw[C2.o];rintro e w' ⟨rfl,rfl⟩) | (go_at_call 95;refine(zes _ _).mono ?_;rintro e w' ⟨rfl,rfl⟩));go_ret;exact⟨zai E.o.symm,hb0⟩
theorem zjp(v:Value)(ps:List Se)(w:World)(h:RdE w v ps)(hn:ps.length<=1048576) :
  zC 44 #[v,.func (.func 45) #[] #[]] w fun e w'=>e=.returned (.bool (yari ps))/\zB w w':=by
 obtain⟨aP,cP,rfl,_,hcP⟩:=h.shape;clear h;go_enter Tryz.func44,Tryz.ntmps44;go_wp2
 go_loopw [6,9] (fun _ i wr=>∃ k:Nat,k<=ps.length/\i=.I k/\Hid (∀ j (h:j<ps.length),j<k->upB ps[j]=true)/\zB w wr) (fun _ i _=>ps.length-(intOf i).toNat)
 case atStart=>exact⟨0,by omega,rfl,fun j h a=>absurd a (by omega),zR⟩
 case round =>
  obtain⟨m,hm,rfl,H,hbw⟩:=hrel;have hz:=hbw.size
  by_cases hlt2:m<ps.length
  ·obtain⟨b2,o2,rfl,hbl2,hcell2⟩:=hcP (by omega);obtain⟨d0,d1⟩:=hcell2 m hlt2;have e0:=(hbw.cell (p:=⟨b2,o2+m*2,none⟩) hbl2).trans d0;have e1:=(hbw.cell (p:=⟨b2,o2+m*2+1,none⟩) hbl2).trans d1;have hb1:=zaa (hbw.alloc hz (.cells #[.I ps[m].at_,.I ps[m].val] 104));clear d0 d1 hcell2 hcP
   by_cases q:upB ps[m]=true
   ·have Q:=zaa q;clear q;go_wp2_with (go_at_call 45;refine(zob ps[m] _).mono ?_;rw[Q.o];rintro e w' ⟨rfl,hw'⟩);have hw2:=hb1.o.trans (hw'.mono (by simp;omega));clear hb1 hw'
    go_roundw
    case rel =>
     refine⟨m+1,by omega,by go_num,fun j h a=>?_,hw2⟩
     by_cases e:j=m
     ·subst e;exact Q.o
     ·exact H.o j h (by omega)
    case measure=>simp[intOf];omega
   ·have Q:=zaa (show upB ps[m]=false by simpa using q);have E:=zaa (yaor hlt2 Q.o);clear q;go_wp2_with (go_at_call 45;refine(zob ps[m] _).mono ?_;rw[Q.o];rintro e w' ⟨rfl,hw'⟩);have hw2:=hb1.o.trans (hw'.mono (by simp;omega));go_ret;exact⟨zai E.o.symm,hw2⟩
  ·have E:=zaa (yaur (fun j h=>H.o j h (by omega)));go_wp2;go_ret;exact⟨zai E.o.symm,hbw⟩
theorem zoy(i:Nat)(w:World)(hi:i<=1048576):zC 236 #[.I (i:Int)] w fun e w'=>e=.returned (.I (9+2*(i:Int)))/\w'=w:=by
 go_enter Tryz.func236,Tryz.ntmps236;go_wp2;go_ret;exact⟨rfl,rfl⟩
theorem zwi(i:Nat)(a x:Int)(w:World)(hi:i<=1048576):zC 192 #[.I (i:Int),.agg #[.I a,.I x]] w fun e w'=>∃ v',e=.returned v'/\RdM w' v' [⟨1,9+2*(i:Int),a⟩,⟨1,9+2*(i:Int)+1,x⟩]/\zB w w':=by
 have R:=zaa (yadj (w.alloc (.cells #[.I a,.I x] 104)) 1 (9+2*(i:Int)) a 1 (9+2*(i:Int)+1) x);have B:Hid (zB w ((w.alloc (.cells #[.I a,.I x] 104)).alloc (.cells #[.I 1,.I (9+2*(i:Int)),.I a,.I 1,.I (9+2*(i:Int)+1),.I x] 82))):=(zR.alloc zL _).alloc (by simp) _;go_enter Tryz.func192,Tryz.ntmps192;go_wp2_with (go_at_call 236;refine(zoy _ _ hi).mono ?_;rintro e w' ⟨rfl,rfl⟩);go_ret;exact⟨_,rfl,by unfold RdM;simpa using R.o,B.o⟩
theorem yadz(i:Nat)(a x:Int)(w:World):zC 194 #[.I (i:Int),.agg #[.I a,.I x]] w fun e w'=>∃ v',e=.returned v'/\RdM w' v' [⟨1,a,x⟩]/\zB w w':=by
 have R:=zaa (zjg (w.alloc (.cells #[.I a,.I x] 104)) 1 a x);have B:Hid (zB w ((w.alloc (.cells #[.I a,.I x] 104)).alloc (.cells #[.I 1,.I a,.I x] 82))):=(zR.alloc zL _).alloc (by simp) _;go_enter Tryz.func194,Tryz.ntmps194;go_wp2;go_ret;exact⟨_,rfl,by unfold RdM;rw[zka];simpa using R.o,B.o⟩
theorem zkm(n:Int)(w:World):zC 193 #[.I n] w fun e w'=>∃ v',e=.returned v'/\RdM w' v' [⟨1,8,n⟩]/\zB w w':=by
 have R:=zaa (zjg w 1 8 n);have B:Hid (zB w (w.alloc (.cells #[.I 1,.I 8,.I n] 82))):=zR.alloc zL _;go_enter Tryz.func193,Tryz.ntmps193;go_wp2;go_ret;exact⟨_,rfl,by unfold RdM;rw[zka];simpa using R.o,B.o⟩
theorem World.ownsRow.below{w w':World}{base:Nat}{e:TypeId}{size:Nat}{v:Value}{n:Nat}{xs:List Value}(h:w.ownsRow base e size v n xs)(hb:zB w w'):w'.ownsRow base e size v n xs:=by
 obtain⟨hl,h⟩:=h;refine⟨hl,?_⟩
 rcases h with h | ⟨g,cap,cur,h1,h2,h3,h4⟩
 ·exact .inl h
 ·exact .inr ⟨g,cap,cur,h1,h2,(hb.block g (Array.getElem?_eq_some_iff.1 h3).1).trans h3,h4⟩
theorem yahv(v:Value)(us:List Se)(w:World)(h:RdE w v us)(hn:us.length<=64) :
  zC 191 #[v,.func (.func 192) #[] #[]] w fun e w'=>∃ v',e=.returned v'/\Row w' 82 3 w.heap.size w'.heap.size v' (jlM us us.length).length (mis (jlM us us.length))/\zB w w':=by
 obtain⟨aU,cU,rfl,_,hcU⟩:=h.shape;have HU:=zaa hcU;clear h hcU;go_enter Tryz.func191,Tryz.ntmps191;go_wp2
 go_loopw [5,6,7,10] (fun vL _ _ i wr=>∃ m:Nat,m<=us.length/\i=.I m/\Hid (wr.ownsRow w.heap.size 82 3 vL (jlM us m).length (mis (jlM us m))/\zB w wr)/\w.heap.size<=wr.heap.size) (fun _ _ _ i _=>us.length-(intOf i).toNat)
 case atStart=>exact⟨0,by omega,rfl,⟨World.ownsRow_nil _ _ _ _,zR⟩,Nat.le_refl _⟩
 case round =>
  obtain⟨m,hm,rfl,I,hz⟩:=hrel
  by_cases hlt:m<us.length
  ·obtain⟨b,o,rfl,hbl,hcell⟩:=HU.o (by omega);obtain⟨d0,d1⟩:=hcell m hlt;have e0:=(I.o.2.cell (p:=⟨b,o+m*2,none⟩) hbl).trans d0;have e1:=(I.o.2.cell (p:=⟨b,o+m*2+1,none⟩) hbl).trans d1
   have m0:(0:Int)<=(m:Int):=by omega
   have m1:(m:Int)<(us.length:Int):=by omega
   have NX:=zaa (yage us m hlt);have hle:=yacv us m;clear d0 d1 hcell;generalize us[m].at_=a at *;generalize us[m].val=x at *
   obtain⟨wb,hwb⟩:∃ wb:World,wb=wr.alloc (.cells #[.I a,.I x] 104):=⟨_,rfl⟩
   have BB:Hid (zB wr wb):=by rw[hwb];exact zR.alloc zL _
   have hzb:wr.heap.size<=wb.heap.size:=BB.o.size
   have OB:Hid (wb.ownsRow w.heap.size 82 3 u5 (jlM us m).length (mis (jlM us m))):=by rw[hwb];exact I.o.1.alloc _
   go_wp2_with (first
    | (go_at_call 192;rw[<- hwb];refine(zwi m a x wb (by omega)).mono ?_;rintro e w1 ⟨v1,rfl,hr1,hb1⟩;have O1:=zaa (World.ownsRow.below OB.o hb1);have R1:=zaa hr1;have B1:=zaa hb1;have hz1:wb.heap.size<=w1.heap.size:=hb1.size;obtain⟨a1,c1,rfl,-,-⟩:=hr1.shape;clear hr1 hb1)
    | (at_builtin;refine zae _ rfl (.tmp 15) (.tmp 19) 32 rfl w.heap.size 82 (.agg #[.I 0,.I 0,.I 0]) 3 24 Tryz.underlying32 zbp rfl (by decide) _ _ _ rfl O1.o _ 2 _ rfl R1.o (zcj _) (by simp[maxLen];omega) (by omega) (by omega) ?_))
   intro vN wN hownN hgrN
   have hl:=fun q hq=>(O1.o.lt q hq).1
   have hzN:=hgrN.size
   have G:Hid (wN.ownsRow w.heap.size 82 3 vN (jlM us (m+1)).length (mis (jlM us (m+1)))/\zB w wN):=by
    refine⟨?_,((I.o.2.trans (BB.o.mono hz)).trans (B1.o.mono (by omega))).grown hgrN (by omega) (fun q hq=>hl q hq)⟩;rw[NX.o,zhw,List.length_append];exact hownN
   clear hownN hgrN hl;go_wp2
   go_roundw
   case rel=>exact⟨m+1,by omega,by go_num,G,by omega⟩
   case measure=>simp[intOf];omega
  ·obtain rfl:m=us.length:=by omega
   obtain⟨aL,cL,hvL⟩:=RdM.form (zad I.o.1).rd rfl;subst hvL;go_wp2;go_ret;exact⟨_,rfl,zad I.o.1,I.o.2⟩
theorem yaiu(v:Value)(us:List Se)(w:World)(h:RdE w v us)(hn:us.length<=64) :
  zC 191 #[v,.func (.func 194) #[] #[]] w fun e w'=>∃ v',e=.returned v'/\Row w' 82 3 w.heap.size w'.heap.size v' (apM us us.length).length (mis (apM us us.length))/\zB w w':=by
 obtain⟨aU,cU,rfl,_,hcU⟩:=h.shape;have HU:=zaa hcU;clear h hcU;go_enter Tryz.func191,Tryz.ntmps191;go_wp2
 go_loopw [5,6,7,10] (fun vL _ _ i wr=>∃ m:Nat,m<=us.length/\i=.I m/\Hid (wr.ownsRow w.heap.size 82 3 vL (apM us m).length (mis (apM us m))/\zB w wr)/\w.heap.size<=wr.heap.size) (fun _ _ _ i _=>us.length-(intOf i).toNat)
 case atStart=>exact⟨0,by omega,rfl,⟨World.ownsRow_nil _ _ _ _,zR⟩,Nat.le_refl _⟩
 case round =>
  obtain⟨m,hm,rfl,I,hz⟩:=hrel
  by_cases hlt:m<us.length
  ·obtain⟨b,o,rfl,hbl,hcell⟩:=HU.o (by omega);obtain⟨d0,d1⟩:=hcell m hlt;have e0:=(I.o.2.cell (p:=⟨b,o+m*2,none⟩) hbl).trans d0;have e1:=(I.o.2.cell (p:=⟨b,o+m*2+1,none⟩) hbl).trans d1
   have m0:(0:Int)<=(m:Int):=by omega
   have m1:(m:Int)<(us.length:Int):=by omega
   have NX:=zaa (yahl us m hlt);have hle:=yadk us m;clear d0 d1 hcell;generalize us[m].at_=a at *;generalize us[m].val=x at *
   obtain⟨wb,hwb⟩:∃ wb:World,wb=wr.alloc (.cells #[.I a,.I x] 104):=⟨_,rfl⟩
   have BB:Hid (zB wr wb):=by rw[hwb];exact zR.alloc zL _
   have hzb:wr.heap.size<=wb.heap.size:=BB.o.size
   have OB:Hid (wb.ownsRow w.heap.size 82 3 u5 (apM us m).length (mis (apM us m))):=by rw[hwb];exact I.o.1.alloc _
   go_wp2_with (first
    | (go_at_call 194;rw[<- hwb];refine(yadz m a x wb).mono ?_;rintro e w1 ⟨v1,rfl,hr1,hb1⟩;have O1:=zaa (World.ownsRow.below OB.o hb1);have R1:=zaa hr1;have B1:=zaa hb1;have hz1:wb.heap.size<=w1.heap.size:=hb1.size;obtain⟨a1,c1,rfl,-,-⟩:=hr1.shape;clear hr1 hb1)
    | (at_builtin;refine zae _ rfl (.tmp 15) (.tmp 19) 32 rfl w.heap.size 82 (.agg #[.I 0,.I 0,.I 0]) 3 24 Tryz.underlying32 zbp rfl (by decide) _ _ _ rfl O1.o _ 1 _ rfl R1.o (zcj _) (by simp[maxLen];omega) (by omega) (by omega) ?_))
   intro vN wN hownN hgrN
   have hl:=fun q hq=>(O1.o.lt q hq).1
   have hzN:=hgrN.size
   have G:Hid (wN.ownsRow w.heap.size 82 3 vN (apM us (m+1)).length (mis (apM us (m+1)))/\zB w wN):=by
    refine⟨?_,((I.o.2.trans (BB.o.mono hz)).trans (B1.o.mono (by omega))).grown hgrN (by omega) (fun q hq=>hl q hq)⟩;rw[NX.o,zhw,List.length_append];exact hownN
   clear hownN hgrN hl;go_wp2
   go_roundw
   case rel=>exact⟨m+1,by omega,by go_num,G,by omega⟩
   case measure=>simp[intOf];omega
  ·obtain rfl:m=us.length:=by omega
   obtain⟨aL,cL,hvL⟩:=RdM.form (zad I.o.1).rd rfl;subst hvL;go_wp2;go_ret;exact⟨_,rfl,zad I.o.1,I.o.2⟩
def atsM(S:List Mi)(j:Nat):List Int:=(S.take j).map (·.at_)
def zqm(S:List Mi):List Int:=S.map (·.at_)
theorem yatb(S:List Mi)(j:Nat):(atsM S j).length<=j:=by simp[atsM];omega
theorem yaov(S:List Mi)(j:Nat)(h:j<S.length):atsM S (j+1)=atsM S j++[S[j].at_]:=by unfold atsM;rw[List.take_succ_eq_append_getElem h,List.map_append];rfl
theorem yavn(S:List Mi)(j:Nat)(h:S.length<=j):atsM S j=zqm S:=by unfold atsM zqm;rw[List.take_of_length_le h]
theorem zvv(S:List Mi):(zqm S).length=S.length:=by simp[zqm]
def segM(S:List Mi):List Mi:=S++zbe (zqm S)
def zdy:List (List Mi)->Nat->List Mi
 | [],_=>[]
 | _::_,0=>[]
 | P::Ps,k+1=>segM P++zdy Ps k
theorem zuo(Ps:List (List Mi)):zdy Ps 0=[]:=by cases Ps<;>rfl
theorem zuq:∀ (Ps:List (List Mi)) (k:Nat) (h:k<Ps.length),zdy Ps (k+1)=zdy Ps k++Ps[k]++zbe (zqm Ps[k])
 | [],k,h=>absurd h (by simp)
 | P::Ps,0,h=>by simp[zdy,zuo,segM]
 | P::Ps,k+1,h=>by
   have:=zuq Ps k (by simpa using h);simp only[zdy,List.getElem_cons_succ];rw[this];simp
def zlx(S:List Mi):Prop:=S.length<=50/\∀ k (h:k<S.length),0<=S[k].at_/\S[k].at_<336
theorem ybae{S:List Mi}(h:zlx S):flC (zqm S)=0/\fpL (zqm S)=zbe (zqm S):=by
 have hl:(zqm S).length=S.length:=zvv S
 rcases yaey (zqm S)with ⟨c,_⟩ | ⟨_,c,_⟩ | ⟨_,_,c,_⟩ | ⟨_,_,_,c⟩
 ·have:=h.1;omega
 ·have:=h.1;omega
 ·have:allP (zqm S)=true:=decide_eq_true (fun k hk=>by simp only[zqm,List.getElem_map];exact h.2 k (by omega));rw[this]at c;cases c
 ·exact c
theorem yaak:∀ (Ps:List (List Mi)) (k:Nat),(∀ P∈Ps,P.length<=50)->(zdy Ps k).length<=102*k
 | [],k,_=>by simp[zdy]
 | _::_,0,_=>by simp[zdy]
 | P::Ps,k+1,h=>by
   have h1:=yaak Ps k (fun Q hQ=>h Q (List.mem_cons_of_mem _ hQ));have h2:=h P List.mem_cons_self;have h3:=zbo (zqm P);simp only[zdy,segM,List.length_append];rw[zvv]at h3;omega
theorem yatu{a b:World}{size:Nat}{v r:Value}{n:Nat}{xs:List Value}(h:Rd a size v n xs)(hg:a.grownBy b r.ownBlock)(hne:∀ q,v.ownBlock=some q->r.ownBlock=some q->False):Rd b size v n xs :=
 h.same hg.size (fun q hq e=>hg.block q hq (fun e'=>hne q e e'.symm))
theorem zjb (b o cap:Nat) (Ps:List (List Mi)) (w:World) (hb:b<w.heap.size) (hn:Ps.length<=1000)
  (hP:∀ k (h:k<Ps.length),∃ a c,w.cell? ⟨b,o+k,none⟩=some (.slice a Ps[k].length c)/\RdM w (.slice a Ps[k].length c) Ps[k]) (hok:∀ k (h:k<Ps.length),zlx Ps[k]) :
  zC 181 #[.slice (some ⟨b,o,none⟩) Ps.length cap] w fun e w'=>∃ v',e=.returned v'/\Row w' 82 3 w.heap.size w'.heap.size v' (zdy Ps Ps.length).length (mis (zdy Ps Ps.length))/\zB w w':=by
 have HP:=zaa hP;have OK:=zaa hok;have LE:=zaa (fun k=>yaak Ps k (fun P hP=>by obtain⟨i,hi,rfl⟩:=List.getElem_of_mem hP;exact(hok i hi).1));clear hP hok;go_enter Tryz.func181,Tryz.ntmps181;go_wp2
 go_loopw [3,5,6,8,9,10,13] (fun vL _ _ _ _ _ i wr=>∃ k:Nat,k<=Ps.length/\i=.I k/\Hid (wr.ownsRow w.heap.size 82 3 vL (zdy Ps k).length (mis (zdy Ps k))/\zB w wr)/\w.heap.size<=wr.heap.size) (fun _ _ _ _ _ _ i _=>Ps.length-(intOf i).toNat)
 case atStart=>exact⟨0,by omega,rfl,⟨by rw[zuo];exact World.ownsRow_nil _ _ _ _,zR⟩,Nat.le_refl _⟩
 case round =>
  obtain⟨k,hk,rfl,I,hz⟩:=hrel
  by_cases hlt:k<Ps.length
  ·obtain⟨aS,cS,hcell,hrd⟩:=HP.o k hlt;have d0:=(I.o.2.cell (p:=⟨b,o+k,none⟩) hb).trans hcell;have RS:=zaa hrd;have PO:=zaa (OK.o k hlt);have NX:=zaa (zuq Ps k hlt);have hle:=LE.o k;have hsl:Ps[k].length<=50:=PO.o.1
   have k0:(0:Int)<=(k:Int):=by omega
   have k1:(k:Int)<(Ps.length:Int):=by omega
   obtain⟨aS',cS',e',-,hcS⟩:=hrd.shape
   cases e'
   have CS:=zaa hcS;clear hcell hrd hcS;generalize Ps[k]=S at *
   have J0:Hid (PlI w wr u3 (.N) (zdy Ps k) (atsM S 0)):=⟨I.o.1,World.ownsRow_nil _ _ _ _,I.o.2,hz⟩
   go_wp2
   go_loopw [6,8,19] (fun vP _ i wq=>∃ j:Nat,j<=S.length/\i=.I j/\Hid (PlI w wq u3 vP (zdy Ps k) (atsM S j))) (fun _ _ i _=>S.length-(intOf i).toNat)
   case atStart=>exact⟨0,by omega,rfl,J0⟩
   case round =>
    obtain⟨j,hj,rfl,J⟩:=hrel;clear J0;have hzq:=J.o.z;have hpl:=yatb S j
    by_cases hlj:j<S.length
    ·obtain⟨bS,oS,rfl,hbS,hcS⟩:=CS.o (by omega);obtain⟨g0,g1,g2⟩:=hcS j hlj;have e0:=(J.o.b.cell (p:=⟨bS,oS+j*3,none⟩) hbS).trans g0;have e1:=(J.o.b.cell (p:=⟨bS,oS+j*3+1,none⟩) hbS).trans g1;have e2:=(J.o.b.cell (p:=⟨bS,oS+j*3+2,none⟩) hbS).trans g2;have TN:=zaa (yaov S j hlj)
     have j0:(0:Int)<=(j:Int):=by omega
     have j1:(j:Int)<(S.length:Int):=by omega
     clear g0 g1 g2 hcS;generalize S[j].kind=mk at *;generalize S[j].at_=ma at *;generalize S[j].val=mv at *;have J1:=zaa (J.o.below ((Below.refl wr.heap.size wr).alloc zL (.cells #[.I mk,.I ma,.I mv] 82)));have J2:=zaa (J1.o.below (zR.alloc zL (.cells #[.I ma] 3)));have RD:=zaa (zln (wr.alloc (.cells #[.I mk,.I ma,.I mv] 82)) ma)
     have RD':RdI ((wr.alloc (.cells #[.I mk,.I ma,.I mv] 82)).alloc (.cells #[.I ma] 3)) (.slice (some ⟨wr.heap.size+1,0,none⟩) 1 1) [ma]:=by simpa using RD.o
     have RD':=zaa RD';clear RD J1;go_wp2_with (at_builtin;refine zae _ rfl (.tmp 23) (.tmp 26) 23 rfl w.heap.size 3 (.I 0) 1 8 Tryz.underlying23 zmo rfl (by decide) _ _ _ rfl J2.o.p _ 1 _ rfl RD'.o (zgp _) (by simp[maxLen];omega) (by omega) (by simp;omega) ?_);intro vN wN hownN hgrN;have G:=zaa (J2.o.growP [ma] hownN hgrN);clear hownN hgrN J2 RD';go_wp2
     go_roundw
     case rel=>exact⟨j+1,by omega,by go_num,by rw[TN.o];exact G⟩
     case measure=>simp[intOf];omega
    ·have ej:=yavn S j (by omega);rw[ej]at J;have FP:=zaa (ybae PO.o);have hfl:=zbo (zqm S)
     have hml:(zqm S).length<=50:=by rw[zvv];exact hsl
     obtain⟨aP,cP,hvP⟩:=RdI.form (zad J.o.p).rd rfl;subst hvP;have RSr:=zaa (Rd.below RS.o J.o.b);clear ej;go_wp2_with fail;refine(zng _ (zqm S) _ (zad J.o.p).rd (by omega)).mono ?_;rw[FP.o.1,FP.o.2];rintro e w1 ⟨v1,rfl,hr1,hb1⟩;have J1:=zaa (J.o.below hb1);have R1:=zaa hr1;have RS1:=zaa (Rd.below RSr.o hb1);obtain⟨a1,c1,rfl⟩:=RdM.form hr1.rd rfl;have hz1:wr.heap.size<=w1.heap.size:=hb1.size;clear hr1 hb1;go_wp2_with (at_builtin;refine zae _ rfl (.tmp 34) (.tmp 35) 32 rfl w.heap.size 82 (.agg #[.I 0,.I 0,.I 0]) 3 24 Tryz.underlying32 zbp rfl (by decide) _ (zdy Ps k).length (mis (zdy Ps k)) rfl J1.o.l _ S.length (mis S) rfl RS1.o (zcj _) (by simp[maxLen];omega) (by omega) (by omega) ?_);intro vA wA hownA hgrA;have JA:=zaa (J1.o.growL S hownA hgrA);have RA:=zaa (yatu R1.o.rd hgrA (fun q e1 e2=>by have h1:=(R1.o.1.lt q e1).1;have h2:=(zad J.o.l).2 q e2;omega));obtain⟨aA,cA,hvA⟩:=RdM.form (zad JA.o.l).rd (n:=(zdy Ps k).length+S.length) (by simp);subst hvA
     have OA:Hid (wA.ownsRow w.heap.size 82 3 (.slice aA ((zdy Ps k).length+S.length) cA) ((zdy Ps k).length+S.length) (mis (zdy Ps k++S))):=by have:=JA.o.l;rw[List.length_append]at this;exact this
     clear hownA hgrA;go_wp2_with (at_builtin;refine zae _ rfl (.tmp 37) (.tmp 38) 32 rfl w.heap.size 82 (.agg #[.I 0,.I 0,.I 0]) 3 24 Tryz.underlying32 zbp rfl (by decide) _ ((zdy Ps k).length+S.length) (mis (zdy Ps k++S)) rfl OA.o _ (zbe (zqm S)).length (mis (zbe (zqm S))) rfl RA.o (zcj _) (by simp[maxLen];omega) (by omega) (by have:=JA.o.z;omega) ?_);intro vB wB hownB hgrB;have JB:=zaa (JA.o.growL (zbe (zqm S)) (by rw[List.length_append];exact hownB) hgrB);clear hownB hgrB;go_wp2
     go_roundw
     case rel=>exact⟨k+1,by omega,by go_num,⟨by rw[NX.o];exact JB.o.l,JB.o.b⟩,JB.o.z⟩
     case measure=>simp[intOf];omega
  ·obtain rfl:k=Ps.length:=by omega
   obtain⟨aL,cL,hvL⟩:=RdM.form (zad I.o.1).rd rfl;subst hvL;go_wp2;go_ret;exact⟨_,rfl,zad I.o.1,I.o.2⟩
end Go.Proofs.YtogcbbkhnpmgeaaGreatDoor
