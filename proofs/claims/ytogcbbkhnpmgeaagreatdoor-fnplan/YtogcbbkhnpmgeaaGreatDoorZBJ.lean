import Derived.Test.YtogcbbkhnpmgeaaGreatDoorZBI
set_option maxRecDepth 100000
set_option maxHeartbeats 16000000
namespace Go.Proofs.YtogcbbkhnpmgeaaGreatDoor
open Go.RowKit Go.Maps
theorem yakz{ws:List Ino}{ps:List Den}{s:ByteArray}(h:(paR ws ps s).2.2=0):zbg ws ps=true/\paR ws ps s=paI ws ps s:=by
 unfold paR at h ⊢
 split at h
 ·cases h
 ·rename_i c;rw[if_neg c]
  split at h
  ·rename_i c1;exact⟨c1,if_pos c1⟩
  ·cases h
def ztd:Den:=⟨0,⟨#[]⟩,0⟩
def erN(ps:List Den)(d:Int)(nm:ByteArray):Int×Int:=match zbi ps d nm with | none=>(0,5) | some k=>((k:Int),0)
def erR(ws:List Ino)(ps:List Den)(s:ByteArray):Int×Int:=if (paR ws ps s).2.2=0 then erN ps (paR ws ps s).1 (paR ws ps s).2.1 else(0,(paR ws ps s).2.2)
def nnN(ps:List Den)(d:Int)(nm:ByteArray):Den×Int:=match zbi ps d nm with | none=>(⟨d,nm,0⟩,0) | some _=>(ztd,8)
def nnR(ws:List Ino)(ps:List Den)(s:ByteArray):Den×Int:=if (paR ws ps s).2.2=0 then nnN ps (paR ws ps s).1 (paR ws ps s).2.1 else(ztd,(paR ws ps s).2.2)
theorem yapt{ws:List Ino}{ps:List Den}(h:zbg ws ps=true)(d:Int)(nm:ByteArray) :
  (zbi ps d nm=none/\Maps.has (mpD ps d ps.length) (ztr nm)=false)\/(∃ k:Nat,zbi ps d nm=some k/\Maps.has (mpD ps d ps.length) (ztr nm)=true/\(mpD ps d ps.length).atKey (ztr nm) (.lit (.int .i64 0))=.lit (.int .i64 (k:Int))):=by
 obtain⟨A,B⟩:=yayc h d nm (.lit (.int .i64 0))
 cases e:zbi ps d nm with
 | none=>exact .inl ⟨rfl,A e⟩
 | some k=>exact .inr ⟨k,rfl,B k e⟩
theorem zrj{w w':World}{b:Nat}(h:w.grownBy w' (some b)){a:Addr}(ha:w.heap.size<=a.block)(u:Value):w.grownBy (w'.setCell a u) (some b) :=
 ⟨h.os,h.tape,h.output,by simpa[World.setCell]using h.size,fun k hk hn=>(Below.heap_setCell _ _ _ _ (by omega)).trans (h.block k hk hn)⟩
theorem Mp.set{w:World}{b:Nat}{D:DataW Unit}(h:Mp w b D){a:Addr}(ha:b≠a.block)(u:Value):Mp (w.setCell a u) b D:=World.ownsMap.setCell h ha u
theorem zsh(v:Value)(ws:List Ino)(ps:List Den)(s:ByteArray)(b:Nat)(D:DataW Unit)(w:World)(h:RdIm w v ws ps)(hw:ws.length<=1048576)(hp:ps.length<=1048576)(hT:TS w)(hE:ED w)(hF:FD w)(hr:∀ k (h:k<ws.length),ws[k].R)(hs:∀ k (h:k<ps.length),ps[k].name.size<=maxLen)(hm:Mp w b D) :
  zC 187 #[.map (some b),v,.string s] w fun e w'=>e=.returned (.tuple #[.I (erR ws ps s).1,.I (erR ws ps s).2])/\(∃ D',Mp w' b D')/\w.grownBy w' (some b):=by
 have LP:=zaa (fun w1 (hb:zB w w1)=>zkn v ws ps s w1 (h.below hb) hw hp (hT.below hb) (hE.below hb) (hF.below hb) hr hs);have LT:=zaa (fun d w1 (hb:zB w w1) (hi:zbg ws ps=true)=>znk v ws ps d b D w1 (h.below hb) hi (hm.below hb) (hF.below hb));have EL:=zaa (show erR ws ps s=if (paR ws ps s).2.2=0 then erN ps (paR ws ps s).1 (paR ws ps s).2.1 else(0,(paR ws ps s).2.2)from rfl);have OKP:=zaa (fun q=>yakz (ws:=ws) (ps:=ps) (s:=s) q);have NMP:=zaa (fun(hi:zbg ws ps=true) (c:(paI ws ps s).2.2=0)=>(zgq hi c).2.2);have M:=zaa hm;obtain⟨vW,vP,rfl,h1,h2⟩:=h;obtain⟨aW,cW,rfl,_,_⟩:=h1.shape;obtain⟨aP,cP,rfl,_,_⟩:=h2.shape;clear h1 h2 hr hs hT hE hF hm
 have CA:Hid (∀ w',Below (w.alloc (.cells #[.slice aW ws.length cW,.slice aP ps.length cP] 51)).heap.size (w.alloc (.cells #[.slice aW ws.length cW,.slice aP ps.length cP] 51)) w'->w'.cell? ⟨w.heap.size,0,none⟩=some (.slice aW ws.length cW)/\w'.cell? ⟨w.heap.size,1,none⟩=some (.slice aP ps.length cP)):=fun w' hb=>by
  have:w'.heap[w.heap.size]?=some (.cells #[.slice aW ws.length cW,.slice aP ps.length cP] 51 (0,0)):=(hb.block _ (by simp)).trans (zaf rfl);exact⟨(zac this).1,(zac this).2.1⟩
 have BW:Hid (zB w (w.alloc (.cells #[.slice aW ws.length cW,.slice aP ps.length cP] 51))):=zR.alloc zL _;obtain⟨x0,x1⟩:=CA.o _ zR;generalize hpr:paR ws ps s=pr at *;have HPR:=zaa hpr;clear hpr;generalize erR ws ps s=res at *;obtain⟨pd,pn,pc⟩:=pr;simp only at EL OKP LP;go_enter Tryz.func187,Tryz.ntmps187;go_wp2_with fail;refine(LP.o _ BW.o).mono ?_;rintro e w1 ⟨rfl,hb1⟩;have B1:=zaa (zab BW.o hb1 BW.o.size);clear x0 x1;obtain⟨x0,x1⟩:=CA.o _ hb1;clear hb1 LP CA
 by_cases c:pc=0
 case neg =>
  rw[if_neg c]at EL;obtain rfl:=EL.o
  have q:(pc != 0)=true:=by rw[bne_iff_ne];exact c
  clear EL c OKP NMP LT x0 x1;go_wp2;go_ret2;exact⟨rfl,⟨D,M.o.below B1.o⟩,grownB B1.o _⟩
 rw[if_pos c]at EL;subst c;obtain⟨hi,hpp⟩:=OKP.o rfl
 have NM:Hid (nmB pn=true):=by
  have:=NMP.o hi (by rw[<- hpp]);rw[<- hpp]at this;exact this
 have key:Hid (keyOf Tryz.prog 9 (.string pn)=some (ztr pn)):=WideMaps.keyOf_string_mk strU (by have:=(zda NM.o).2.1;unfold maxLen;omega);have LT2:=zaa (fun w1 hb=>LT.o pd w1 hb hi);have ML:=yapt hi pd pn;have EN:=zaa (show erN ps pd pn=match zbi ps pd pn with | none=>(0,5) | some k=>((k:Int),0)from rfl);rw[EN.o]at EL;clear OKP NMP LT hpp HPR hi EN NM;generalize mpD ps pd ps.length=D2 at *;go_wp2_with fail;refine(LT2.o _ B1.o).mono ?_;rintro e w2 ⟨rfl,hm2,hg2⟩;have M2:=zaa hm2;have G2:=zaa ((grownB B1.o (some b)).trans hg2);clear hm2 hg2 LT2 x0 x1
 rcases ML with ⟨e1,e2⟩ | ⟨k,e1,e2,e3⟩
 ·rw[e1]at EL;obtain rfl:=EL.o;have E2:=zaa e2;clear EL e1 e2;go_wp2_with (at_lookup;refine wpList_lookup_own_ok_int _ rfl _ _ 210 rfl 9 3 .i64 strK mapU intU (intZ _) b 4096 D2 rfl M2.o _ _ rfl key.o ?_);intro c hat hwc;rw[E2.o];clear hat hwc;go_wp2;go_ret2;exact⟨rfl,⟨D2,M2.o⟩,G2.o⟩
 ·rw[e1]at EL;obtain rfl:=EL.o;have E2:=zaa e2;have E3:=zaa e3;clear EL e1 e2 e3;go_wp2_with (at_lookup;refine wpList_lookup_own_ok_int _ rfl _ _ 210 rfl 9 3 .i64 strK mapU intU (intZ _) b 4096 D2 rfl M2.o _ _ rfl key.o ?_);intro c hat hwc;rw[E2.o]
  have ck:c=(k:Int):=by
   rw[E3.o]at hat;injection hat with hat;injection hat with _ hat;exact hat.symm
  subst ck;clear hat hwc E3;go_wp2;go_ret2;exact⟨rfl,⟨D2,M2.o⟩,G2.o⟩
theorem zlq(v:Value)(ws:List Ino)(ps:List Den)(s:ByteArray)(b:Nat)(D:DataW Unit)(w:World)(h:RdIm w v ws ps)(hw:ws.length<=1048576)(hp:ps.length<=1048576)(hT:TS w)(hE:ED w)(hF:FD w)(hr:∀ k (h:k<ws.length),ws[k].R)(hs:∀ k (h:k<ps.length),ps[k].name.size<=maxLen)(hm:Mp w b D) :
  zC 183 #[.map (some b),v,.string s] w fun e w'=>e=.returned (.tuple #[.agg #[.I (nnR ws ps s).1.dir,.string (nnR ws ps s).1.name,.I (nnR ws ps s).1.child],.I (nnR ws ps s).2])/\(∃ D',Mp w' b D')/\w.grownBy w' (some b):=by
 have LP:=zaa (fun w1 (hb:zB w w1)=>zkn v ws ps s w1 (h.below hb) hw hp (hT.below hb) (hE.below hb) (hF.below hb) hr hs);have LT:=zaa (fun d w1 (hb:zB w w1) (hi:zbg ws ps=true)=>znk v ws ps d b D w1 (h.below hb) hi (hm.below hb) (hF.below hb));have EL:=zaa (show nnR ws ps s=if (paR ws ps s).2.2=0 then nnN ps (paR ws ps s).1 (paR ws ps s).2.1 else(ztd,(paR ws ps s).2.2)from rfl);have OKP:=zaa (fun q=>yakz (ws:=ws) (ps:=ps) (s:=s) q);have NMP:=zaa (fun(hi:zbg ws ps=true) (c:(paI ws ps s).2.2=0)=>(zgq hi c).2.2);have M:=zaa hm;have bl:=hm.lt;obtain⟨vW,vP,rfl,h1,h2⟩:=h;obtain⟨aW,cW,rfl,_,_⟩:=h1.shape;obtain⟨aP,cP,rfl,_,_⟩:=h2.shape;clear h1 h2 hr hs hT hE hF hm
 obtain⟨W,hW⟩:=zE ((w.alloc (.cells #[.slice aW ws.length cW,.slice aP ps.length cP] 51)).alloc (.cells #[.I 0,.string ⟨#[]⟩,.I 0] 90))
 have CA:Hid (∀ w',zB W w'->w'.cell? ⟨w.heap.size,0,none⟩=some (.slice aW ws.length cW)/\w'.cell? ⟨w.heap.size,1,none⟩=some (.slice aP ps.length cP)):=fun w' hb=>by
  have:w'.heap[w.heap.size]?=some (.cells #[.slice aW ws.length cW,.slice aP ps.length cP] 51 (0,0)):=(hb.block _ (by rw[hW];simp;omega)).trans (by rw[hW];exact zal (zaf rfl));exact⟨(zac this).1,(zac this).2.1⟩
 have CB:Hid (W.heap[w.heap.size+1]?=some (.cells #[.I 0,.string ⟨#[]⟩,.I 0] 90 (0,0))):=by
  unfold Hid;rw[hW];exact zaf (by simp)
 have BW:Hid (zB w W):=by rw[hW];exact(zR.alloc zL _).alloc (by simp) _
 have hWz:W.heap.size=w.heap.size+2:=by rw[hW];simp
 have hWz2:w.heap.size+1<W.heap.size:=by omega
 obtain⟨x0,x1⟩:=CA.o _ zR;generalize hpr:paR ws ps s=pr at *;have HPR:=zaa hpr;clear hpr hWz;generalize nnR ws ps s=res at *;obtain⟨pd,pn,pc⟩:=pr;simp only at EL OKP LP;go_enter Tryz.func183,Tryz.ntmps183;go_wp2_with fail;rw[<- hW];clear hW;refine(LP.o _ BW.o).mono ?_;rintro e w1 ⟨rfl,hb1⟩;have B1:=zaa (zab BW.o hb1 BW.o.size);have V1:Hid (w1.heap[w.heap.size+1]?=some (.cells #[.I 0,.string ⟨#[]⟩,.I 0] 90 (0,0))):=(hb1.block _ hWz2).trans CB.o;clear x0 x1;obtain⟨x0,x1⟩:=CA.o _ hb1;clear hb1 LP CA CB
 by_cases c:pc=0
 case neg =>
  rw[if_neg c]at EL;obtain rfl:=EL.o
  have q:(pc != 0)=true:=by rw[bne_iff_ne];exact c
  clear EL c OKP NMP LT x0 x1;obtain⟨t0,t1,t2⟩:=zax V1.o;have u0:=(zag (xs:=[.I 0,.string ⟨#[]⟩,.I 0]) V1.o 0).2;have u1:=(zag (xs:=[.I 0,.string ⟨#[]⟩,.I 0]) V1.o 1).2;have u2:=(zag (xs:=[.I 0,.string ⟨#[]⟩,.I 0]) V1.o 2).2;go_wp2;refine bodyPost_ret (v:=.tuple #[.agg #[.I 0,.string ⟨#[]⟩,.I 0],.I pc]) (by simp[results,Tryz.results183,go_sem,t0,t1,t2]) rfl ⟨rfl,⟨D,?_⟩,?_⟩
  ·repeat (first | exact M.o.below B1.o | refine Mp.set ?_ (by simp only;omega) _)
  ·repeat (first | exact grownB B1.o _ | refine zrj ?_ (by simp only;omega) _)
 rw[if_pos c]at EL;subst c;obtain⟨hi,hpp⟩:=OKP.o rfl
 have NM:Hid (nmB pn=true):=by
  have:=NMP.o hi (by rw[<- hpp]);rw[<- hpp]at this;exact this
 have key:Hid (keyOf Tryz.prog 9 (.string pn)=some (ztr pn)):=WideMaps.keyOf_string_mk strU (by have:=(zda NM.o).2.1;unfold maxLen;omega);have LT2:=zaa (fun w1 hb=>LT.o pd w1 hb hi);have ML:=yapt hi pd pn;have EN:=zaa (show nnN ps pd pn=match zbi ps pd pn with | none=>(⟨pd,pn,0⟩,0) | some _=>(ztd,8)from rfl);rw[EN.o]at EL;clear OKP NMP LT hpp HPR hi EN NM;generalize mpD ps pd ps.length=D2 at *;go_wp2_with fail;refine(LT2.o _ B1.o).mono ?_;rintro e w2 ⟨rfl,hm2,hg2⟩;have M2:=zaa hm2;have G2:=zaa ((grownB B1.o (some b)).trans hg2);have V2:Hid (w2.heap[w.heap.size+1]?=some (.cells #[.I 0,.string ⟨#[]⟩,.I 0] 90 (0,0))):=(hg2.block _ ((Array.getElem?_eq_some_iff.1 V1.o).1) (by intro e;injection e with e;omega)).trans V1.o;obtain⟨t0,t1,t2⟩:=zax V2.o;have u0:=(zag (xs:=[.I 0,.string ⟨#[]⟩,.I 0]) V2.o 0).2;have u1:=(zag (xs:=[.I 0,.string ⟨#[]⟩,.I 0]) V2.o 1).2;have u2:=(zag (xs:=[.I 0,.string ⟨#[]⟩,.I 0]) V2.o 2).2;clear hm2 hg2 LT2 x0 x1
 rcases ML with ⟨e1,e2⟩ | ⟨k,e1,e2,e3⟩
 ·rw[e1]at EL;obtain rfl:=EL.o;have E2:=zaa e2;clear EL e1 e2;go_wp2_with (at_lookup;refine wpList_lookup_own_ok_int _ rfl _ _ 210 rfl 9 3 .i64 strK mapU intU (intZ _) b 4096 D2 rfl M2.o _ _ rfl key.o ?_);intro c hat hwc;rw[E2.o];clear hat hwc;go_wp2;refine bodyPost_ret (v:=.tuple #[.agg #[.I pd,.string pn,.I 0],.I 0]) (by simp[results,Tryz.results183,go_sem,t0,t1,t2]) rfl ⟨rfl,⟨D2,?_⟩,?_⟩
  ·repeat (first | exact M2.o | refine Mp.set ?_ (by simp only;omega) _)
  ·repeat (first | exact G2.o | refine zrj ?_ (by simp only;omega) _)
 ·rw[e1]at EL;obtain rfl:=EL.o;have E2:=zaa e2;have E3:=zaa e3;clear EL e1 e2 e3;go_wp2_with (at_lookup;refine wpList_lookup_own_ok_int _ rfl _ _ 210 rfl 9 3 .i64 strK mapU intU (intZ _) b 4096 D2 rfl M2.o _ _ rfl key.o ?_);intro c hat hwc;rw[E2.o];clear hat hwc E3;go_wp2;refine bodyPost_ret (v:=.tuple #[.agg #[.I 0,.string ⟨#[]⟩,.I 0],.I 8]) (by simp[results,Tryz.results183,go_sem,t0,t1,t2]) rfl ⟨rfl,⟨D2,?_⟩,?_⟩
  ·repeat (first | exact M2.o | refine Mp.set ?_ (by simp only;omega) _)
  ·repeat (first | exact G2.o | refine zrj ?_ (by simp only;omega) _)
end Go.Proofs.YtogcbbkhnpmgeaaGreatDoor

namespace Go.Proofs.YtogcbbkhnpmgeaaGreatDoor
open Go.RowKit Go.Maps
theorem ybbw{ws:List Ino}{ps:List Den}{s:ByteArray}:pfC ws ps [s]=if 65536<s.size then 2 else if zbg ws ps=true then 0 else 1:=by
 unfold pfC
 by_cases c:65536<s.size<;>simp[c]
theorem yawe{ws:List Ino}{ps:List Den}{s t:ByteArray}:pfC ws ps [s,t]=if 65536<s.size then 2 else if 65536<t.size then 2 else if zbg ws ps=true then 0 else 1:=by
 unfold pfC
 by_cases c:65536<s.size<;>by_cases c':65536<t.size<;>simp[c,c']
theorem zmt{ws:List Ino}{ps:List Den}{s:ByteArray}(h:¬ 65536<s.size)(hi:zbg ws ps=true):paR ws ps s=paI ws ps s:=by
 unfold paR;rw[if_neg h,if_pos hi]
theorem yass{k:Int}{x:Den}(hk:0<=k/\k<=23)(hx:x.okB=true):duC k x=0/\duL k x=enL k x:=by
 unfold duC duL;exact⟨by rw[if_pos hk,if_pos hx],by rw[if_pos hk,if_pos hx]⟩
theorem yadu{d c:Int}{nm:ByteArray}(hd:0<=d/\d<=15)(hn:nmB nm=true)(hc:1<=c/\c<=15):(Den.mk d nm c).okB=true:=by
 unfold Den.okB;rw[decide_eq_true hd,decide_eq_true hc,hn];simp
theorem yanb:freeD.okB=true:=by decide
theorem zvi{w:World}:Mp (w.alloc (.map #[] 0)) w.heap.size (.map []):=(World.ownsMap_made w _ _ _).mono (by omega)
theorem zfb{W a w':World}{b:Nat}(h:zB W a)(hg:a.grownBy w' (some b))(hb:W.heap.size<=b):zB W w':=h.grown hg h.size (fun j hj=>by cases hj;exact hb)
theorem zzf{w:World}{b:Nat}{x y z u:Value}(t0:w.cell? ⟨b,0,none⟩=some x)(t1:w.cell? ⟨b,1,none⟩=some y)(t2:w.cell? ⟨b,2,none⟩=some z):(w.setCell ⟨b,2,none⟩ u).cell? ⟨b,0,none⟩=some x/\(w.setCell ⟨b,2,none⟩ u).cell? ⟨b,1,none⟩=some y/\(w.setCell ⟨b,2,none⟩ u).cell? ⟨b,2,none⟩=some u :=
 ⟨(World.cell?_setCell_other _ _ _ _ (by simp)).trans t0,(World.cell?_setCell_other _ _ _ _ (by simp)).trans t1,World.cell?_setCell_same _ _ _ t2⟩
theorem ziq(v:Value)(ws:List Ino)(ps:List Den)(s:ByteArray)(kind:Int)(w:World)(h:RdIm w v ws ps)(hw:ws.length<=1048576)(hp:ps.length<=1048576)(hT:TS w)(hE:ED w)(hF:FD w)(hr:∀ k (h:k<ws.length),ws[k].R)(hs:∀ k (h:k<ps.length),ps[k].name.size<=maxLen) :
  zC 131 #[v,.string s,.I kind] w fun e w'=>zgh w w' e (mkR ws ps s kind):=by
 have LF:=zaa (fun vL w1 (hb:zB w w1) hL=>zip v vL ws ps [s] w1 (h.below hb) hL (by simp) hw hp (hT.below hb) (hE.below hb) (hF.below hb) hr hs);have LN:=zaa (fun b D w1 (hb:zB w w1) hm=>zlq v ws ps s b D w1 (h.below hb) hw hp (hT.below hb) (hE.below hb) (hF.below hb) hr hs hm);have LI:=zaa (fun w1 (hb:zB w w1)=>znt v ws ps w1 (h.below hb) hw hp (hT.below hb) (hE.below hb) (hF.below hb) hr hs);have LK:=zaa (fun w1 (hb:zB w w1) hi=>znb v ws ps w1 (h.below hb) hi (hF.below hb));have LD:=zaa (fun k x w1 (hb:zB w w1) hs=>zcr k x w1 (hF.below hb) hs);rw[ybbw]at LF;rw[show zba (fun i=>decide (1<=i)&&zaj ws (i:Int) == 0) ws.length=fiI ws from rfl]at LI;have EL:=zaa (show mkR ws ps s kind=if 65536<s.size then([],2)else if zbg ws ps=true then(if 1<=kind/\kind<=2 then mkI ws ps s kind else([],4)) else([],1)from rfl);have EI:=zaa (show mkI ws ps s kind=if (paI ws ps s).2.2=0 then mkN ws ps kind (paI ws ps s).1 (paI ws ps s).2.1 else([],(paI ws ps s).2.2)from rfl);have EN:=zaa (fun d nm=>show mkN ws ps kind d nm=if 0<=zkq ps d nm then([],8)else if fiI ws<0 then([],7)else if feI ps<0 then([],7) else(mkU (fiI ws) (feI ps) kind d nm,0)from rfl);have ER:=zaa (show nnR ws ps s=if (paR ws ps s).2.2=0 then nnN ps (paR ws ps s).1 (paR ws ps s).2.1 else(ztd,(paR ws ps s).2.2)from rfl);have EM:=zaa (fun d nm=>show nnN ps d nm=match zbi ps d nm with | none=>(⟨d,nm,0⟩,0) | some _=>(ztd,8)from rfl);have PR:=zaa (@zmt ws ps s);have PO:=zaa (fun hi c=>zgq (ws:=ws) (ps:=ps) (s:=s) hi c);have FR:=zaa (fun hi=>And.intro (yagr (ws:=ws) (ps:=ps) hi) (zpd (ws:=ws) (ps:=ps) hi));have FP:=zaa (@yawn ws);have ENO:=zaa (fun d nm=>@ziz ps d nm);obtain⟨vW,vP,rfl,h1,h2⟩:=h;obtain⟨aW,cW,rfl,_,_⟩:=h1.shape;obtain⟨aP,cP,rfl,_,_⟩:=h2.shape;clear h1 h2 hr hs hT hE hF
 have CA:Hid (∀ w',Below (w.alloc (.cells #[.slice aW ws.length cW,.slice aP ps.length cP] 51)).heap.size (w.alloc (.cells #[.slice aW ws.length cW,.slice aP ps.length cP] 51)) w'->w'.cell? ⟨w.heap.size,0,none⟩=some (.slice aW ws.length cW)/\w'.cell? ⟨w.heap.size,1,none⟩=some (.slice aP ps.length cP)):=fun w' hb=>by
  have:w'.heap[w.heap.size]?=some (.cells #[.slice aW ws.length cW,.slice aP ps.length cP] 51 (0,0)):=(hb.block _ (by simp)).trans (zaf rfl);exact⟨(zac this).1,(zac this).2.1⟩
 have BW:Hid (zB w (w.alloc (.cells #[.slice aW ws.length cW,.slice aP ps.length cP] 51))):=zR.alloc zL _;obtain⟨x0,x1⟩:=CA.o _ zR;generalize hmr:mkR ws ps s kind=res at *;clear hmr
 obtain⟨W,hW⟩:=zE (w.alloc (.cells #[.slice aW ws.length cW,.slice aP ps.length cP] 51))
 have RS:Hid (RdT (W.alloc (.cells #[.string s] 9)) (.slice (some ⟨W.heap.size,0,none⟩) 1 1) [s]):=by
  refine⟨rfl,_,_,rfl,⟨Nat.le_refl _,fun e=>by cases e⟩,fun _=>⟨W.heap.size,0,rfl,by simp,fun j hj=>?_⟩⟩;have e0:=(zag (xs:=[.string s]) (zaf (w:=W) (o:=.cells #[.string s] 9) rfl) 0).1
  obtain rfl:j=0:=by simp at hj;omega
  exact e0
 have hz:w.heap.size<W.heap.size:=by rw[hW];simp
 have BS:Hid (zB W (W.alloc (.cells #[.string s] 9))):=zR.alloc zL _
 have hWs:W.heap.size=w.heap.size+1:=by rw[hW];simp
 rw[hWs]at RS;rw[<- hW]at CA BW;have hmm:=@run_makeMap Tryz.prog;go_enter Tryz.func131,Tryz.ntmps131;go_wp2_with fail;rw[<- hW];clear hW x0 x1 hWs;refine(LF.o _ _ (zab BW.o BS.o (by omega)) RS.o).mono ?_;rintro e w1 ⟨rfl,hb1⟩;have A1:=zaa (zab BS.o hb1 BS.o.size);have B1:=zaa (zab BW.o A1.o (by omega));clear hb1 BS RS LF
 by_cases c1:65536<s.size
 ·rw[if_pos c1];rw[if_pos c1]at EL;obtain rfl:=EL.o;go_wp2;go_ret2;exact zcu B1.o
 rw[if_neg c1];rw[if_neg c1]at EL
 cases hi:zbg ws ps with
 | false =>
  rw[hi]at EL;obtain rfl:=EL.o;go_wp2;go_ret2;exact zcu B1.o
 | true =>
 rw[if_pos rfl];rw[hi,if_pos rfl]at EL;rw[hi]at LI;have PE:=PR.o c1 hi;have PO2:=zaa (PO.o hi);obtain⟨f1,f2⟩:=FR.o hi;have LK2:=zaa (fun w1 hb=>LK.o w1 hb hi);rw[PE]at ER;clear PE PR PO FR LK hi c1
 by_cases c2:1<=kind/\kind<=2
 case neg =>
  rw[if_neg c2]at EL;obtain rfl:=EL.o
  have q1:(kind != 1)=true:=by rw[bne_iff_ne];omega
  have q2:(kind != 2)=true:=by rw[bne_iff_ne];omega
  clear c2 EL;go_wp2;go_ret2;exact zcu B1.o
 rw[if_pos c2,EI.o]at EL;clear EI
 have q:(kind != 1)=false\/(kind != 1)=true/\(kind != 2)=false:=by
  rcases(show kind=1\/kind=2 by omega)with rfl|rfl
  ·exact .inl rfl
  ·exact .inr ⟨rfl,rfl⟩
 clear c2;have M1:Hid (Mp (w1.alloc (.map #[] 0)) w1.heap.size (.map [])):=zvi;have A1m:=zaa (A1.o.alloc A1.o.size (.map #[] 0));have B1m:=zaa (B1.o.alloc B1.o.size (.map #[] 0));have z1:W.heap.size<=w1.heap.size:=A1.o.size;obtain⟨x0,x1⟩:=CA.o _ A1m.o;generalize hpr:paI ws ps s=pr at *;clear hpr;obtain⟨pd,pn,pc⟩:=pr;simp only at EL PO2 ER;generalize nnR ws ps s=nn at *;obtain⟨⟨nd,nname,nch⟩,nc⟩:=nn;simp only at LN;generalize fiI ws=fi at *;generalize feI ps=fe at *;rw[show fpV true fi=zhh fi from rfl,show fpC true fi=zhf fi from rfl]at LI
 rcases q with q1 | ⟨q1,q2⟩
 all_goals
  go_wp2_with fail;refine(LN.o _ _ _ B1m.o M1.o).mono ?_;rintro e w2 ⟨rfl,-,hg2⟩;have A2:=zaa (zfb A1m.o hg2 z1);have B2:=zaa (zab BW.o A2.o (by omega));have z2:W.heap.size<=w2.heap.size:=A2.o.size;clear x0 x1;clear hg2 LN M1 A1 B1 A1m B1m hmm;have AX:=zaa (A2.o.alloc A2.o.size (.cells #[.I nd,.string nname,.I nch] 90));have BX:=zaa (B2.o.alloc B2.o.size (.cells #[.I nd,.string nname,.I nch] 90));obtain⟨x0,x1⟩:=CA.o _ AX.o
  by_cases c:pc=0
  case neg =>
   rw[if_neg c]at EL ER;obtain rfl:=EL.o;have e2:=ER.o;simp only[Prod.mk.injEq]at e2;obtain⟨-,rfl⟩:=e2
   have q:(nc != 0)=true:=by rw[bne_iff_ne];exact c
   clear c EL ER;go_wp2;go_ret2;exact zcu BX.o
  rw[if_pos c]at EL ER;subst c;rw[EM.o]at ER;rw[EN.o]at EL;obtain⟨p1,-,p3⟩:=PO2.o rfl;have NM:=zaa p3;have EO:=ENO.o pd pn;clear PO2 p3 EM EN ENO
  cases he:zbi ps pd pn with
  | some k =>
   have e8:0<=zkq ps pd pn:=by rw[zjr he];omega
   rw[if_pos e8]at EL;rw[he]at ER;obtain rfl:=EL.o;have e2:=ER.o;simp only[Prod.mk.injEq]at e2;obtain⟨-,rfl⟩:=e2;clear e8 EL ER he EO;go_wp2;go_ret2;exact zcu BX.o
  | none =>
  have e8:=EO.1 he;rw[if_neg (by omega)]at EL;rw[he]at ER;have e2:=ER.o;simp only[Prod.mk.injEq,Den.mk.injEq]at e2;obtain⟨⟨rfl,rfl,rfl⟩,rfl⟩:=e2;clear e8 ER he EO;go_wp2_with fail;refine(LI.o _ BX.o).mono ?_;rintro e w3 ⟨rfl,hb3⟩;have V3:Hid (w3.heap[w2.heap.size]?=some (.cells #[.I nd,.string nname,.I 0] 90 (0,0))):=(hb3.block _ (by simp)).trans (zaf rfl);have A3:=zaa (zab AX.o hb3 AX.o.size);have B3:=zaa (zab BX.o hb3 BX.o.size);clear hb3 LI AX BX A2 B2 x0 x1;obtain⟨t0,t1,t2⟩:=zax V3.o;have u2:=(zag (xs:=[.I nd,.string nname,.I 0]) V3.o 2).2;have wz:w2.heap.size<w3.heap.size:=(Array.getElem?_eq_some_iff.1 V3.o).1
  by_cases c2:fi<0
  ·rw[show zhh fi=0 from if_pos c2,show zhf fi=7 from if_pos c2];rw[if_pos c2]at EL;obtain rfl:=EL.o;clear EL c2;go_wp2;go_ret2;exact zcu (B3.o.setCell (by simp only;omega) _)
  rw[show zhh fi=fi from if_neg c2,show zhf fi=0 from if_neg c2];rw[if_neg c2]at EL;have fp:=FP.o (by omega);have S:=zaa (zzf (u:=.I fi) t0 t1 t2);have A4:Hid (zB W (w3.setCell ⟨w2.heap.size,2,none⟩ (.I fi))):=A3.o.setCell (by simp only;omega) _
  have z4:w3.heap.size<=(w3.setCell ⟨w2.heap.size,2,none⟩ (.I fi)).heap.size:=by simp[World.setCell]
  obtain⟨x0,x1⟩:=CA.o _ A4.o;go_wp2_with fail
  obtain⟨w4,hw4⟩:=zE (w3.setCell ⟨w2.heap.size,2,none⟩ (.I fi))
  rw[<- hw4];rw[<- hw4]at S A4 z4 x0 x1;clear hw4 t0 t1 t2 u2 A3 B3 V3;have B4:=zaa (zab BW.o A4.o (by omega));refine(LK2.o _ B4.o).mono ?_;rintro e w5 ⟨rfl,hb5⟩
  have S5:Hid (∀ w',zB w5 w'->w'.cell? ⟨w2.heap.size,0,none⟩=some (.I nd)/\w'.cell? ⟨w2.heap.size,1,none⟩=some (.string nname)/\w'.cell? ⟨w2.heap.size,2,none⟩=some (.I fi)):=fun w' hb=>by
   have hb':=zab hb5 hb hb5.size;exact⟨(hb'.cell (p:=⟨w2.heap.size,0,none⟩) (by simp only;omega)).trans S.o.1,(hb'.cell (p:=⟨w2.heap.size,1,none⟩) (by simp only;omega)).trans S.o.2.1,(hb'.cell (p:=⟨w2.heap.size,2,none⟩) (by simp only;omega)).trans S.o.2.2⟩
  have B5:=zaa (zab B4.o hb5 B4.o.size);clear hb5 LK2 x0 x1 S A4 B4 CA
  by_cases c3:fe<0
  ·rw[show zhh fe=0 from if_pos c3,show zhf fe=7 from if_pos c3];rw[if_pos c3]at EL;obtain rfl:=EL.o;clear EL c3;go_wp2;go_ret2;exact zcu B5.o
  rw[show zhh fe=fe from if_neg c3,show zhf fe=0 from if_neg c3];rw[if_neg c3]at EL;obtain⟨d1,d2⟩:=yass (k:=fe) (x:=⟨nd,nname,fi⟩) (by omega) (yadu p1 NM.o (by omega));have LD2:=zaa (LD.o fe ⟨nd,nname,fi⟩ w5 B5.o (by show nname.size<=maxLen;have:=(zda NM.o).2.1;unfold maxLen;omega));rw[d1,d2,show(Den.mk nd nname fi).v=.agg #[.I nd,.string nname,.I fi]from rfl]at LD2;have l3:(enL fe ⟨nd,nname,fi⟩).length<=3:=Nat.le_refl _;have EU:=zaa (show mkU fi fe kind nd nname=[⟨48+12*fi,kind⟩,⟨48+12*fi+2,1⟩]++enL fe ⟨nd,nname,fi⟩from rfl);generalize enL fe ⟨nd,nname,fi⟩=L at *;obtain⟨s0,s1,s2⟩:=S5.o _ zR;clear d1 d2 LD;have LU:=zaa (fun f x w1 hf=>zdm fi f x w1 (by omega) hf);go_wp2_with fail;refine LD2.o.mono ?_;rintro e w6 ⟨v6,rfl,hr6,hb6⟩;obtain⟨-,aL,cL,hvL,-⟩:=hr6.rd;subst hvL;have R6:=zaa hr6.rd;have B6:=zaa (zab B5.o hb6 B5.o.size)
  have S6:Hid (∀ w',zB w6 w'->w'.cell? ⟨w2.heap.size,2,none⟩=some (.I fi)):=fun w' hb=>(S5.o _ (zab hb6 hb hb6.size)).2.2
  have y2:=S6.o _ zR;clear hb6 hr6 LD2 s0 s1 s2 S5;go_wp2_with fail
  go_region_held3 (fun w'=>w'.cell? ⟨w2.heap.size,2,none⟩=some (.I fi))
   (exact S6.o _ (by repeat (first | with_reducible exact BF.o | with_reducible exact BE.o | with_reducible exact zR | with_reducible refine Below.drew ?_ | with_reducible refine zvy ?_ _)))
   (first
    | (go_at_call 153;have BQ:=BE;refine(LU.o _ _ _ (by omega)).mono ?_;rintro e wB ⟨rfl,hbB⟩;have BF:Hid (zB w6 wB):=zab (by repeat (first | with_reducible exact BE.o | with_reducible refine Below.drew ?_)) hbB (by have:=BE.o.size;simp<;>omega);clear hbB BQ)
    | (go_at_call 153;refine(LU.o _ _ _ (by omega)).mono ?_;rintro e wA ⟨rfl,hbA⟩;have BE:Hid (zB w6 wA):=zab (by repeat (first | with_reducible exact zR | with_reducible refine Below.drew ?_)) hbA (by simp);clear hbA))
  all_goals
   have B7:=zaa (zab B6.o BF.o B6.o.size);have R7:=zaa (Rd.below R6.o BF.o)
   have J7:Hid (UpI w (wB.alloc (.cells #[.I (48+12*fi),.I kind,.I (48+12*fi+2),.I 1] 104)) (.slice (some ⟨wB.heap.size,0,none⟩) 2 2) [⟨48+12*fi,kind⟩,⟨48+12*fi+2,1⟩]):=⟨World.ownsRow_lit wB _ 2 B7.o.size (by simp[maxLen]) rfl,B7.o.alloc B7.o.size _⟩
   have R8:Hid (Rd (wB.alloc (.cells #[.I (48+12*fi),.I kind,.I (48+12*fi+2),.I 1] 104)) 2 (.slice aL L.length cL) L.length (ses L)):=Rd.below R7.o (zvy zR _);have z8:w.heap.size<=(wB.alloc (.cells #[.I (48+12*fi),.I kind,.I (48+12*fi+2),.I 1] 104)).heap.size:=J7.o.z;clear R6 R7 B6 BF BE S6 y2 LU B7;go_wp2_with (at_builtin;refine zae _ rfl (.tmp 71) (.tmp 72) 58 rfl w.heap.size 104 (.agg #[.I 0,.I 0]) 2 16 Tryz.underlying58 zgr rfl (by decide) _ _ _ rfl J7.o.l _ _ _ rfl R8.o (zdi _) (by simp[maxLen];omega) (by simp;omega) z8 ?_);intro vN wN hownN hgrN;have G:=zaa (J7.o.grow L hownN hgrN);rw[<- EU.o]at G;obtain⟨-,aN,cN,hvN,-⟩:=(zad hownN).rd;subst hvN;obtain rfl:=EL.o;clear hownN hgrN J7 R8 EL;go_wp2;go_ret2;exact zqw 0 G.o
end Go.Proofs.YtogcbbkhnpmgeaaGreatDoor
