/- Several texts laid together: ThD, MdA, DuG. -/
import Derived.Test.YtbohndgbfbfldaaGreatDoorZAU
import Derived.Deep.DeepCutAuto
import Derived.Test.YtbohndgbfbfldaaGreatDoorZAG
set_option maxRecDepth 100000
set_option maxHeartbeats 4000000
namespace Go.Proofs.YtbohndgbfbfldaaGreatDoor
open Go.RowKit
theorem OwU.at {w:World} {lo hi:Nat} {ao:Option Addr} {n cap:Nat} {us:List (Th×Value)} (h:OwU w lo hi (.slice ao n cap) us) (en:us.length=n) (k:Nat) (hk:k < n) :
  ∃ b,ao=some ⟨b,0,none⟩∧lo≤b∧b < hi∧(∀ j,w.frozen? ⟨b,j,none⟩=false)∧w.cell? ⟨b,k*3,none⟩=some (.int .i64 (us[k]'(by omega)).1.kind)∧w.cell? ⟨b,k*3+1,none⟩=some (.int .i64 (us[k]'(by omega)).1.links)∧w.cell? ⟨b,k*3+2,none⟩=some (us[k]'(by omega)).2:=by
 subst en;obtain ⟨-,ao',cap',e0,-,hc⟩:=h.row.rd
 cases e0
 obtain ⟨b,o,rfl,-,-⟩:=hc (by omega)
 obtain ⟨rfl,h1,h2,-,h4,h5⟩:=h.row.at
 exact ⟨b,rfl,h1,h2,h4,(h5 _ (by omega)).trans (zlh us k hk),(h5 _ (by omega)).trans (zlt us k hk),(h5 _ (by omega)).trans (zko us k hk)⟩
theorem ziw (v:Value) (us:List (Th×Value)) (k0:Int) (lo hi:Nat) (w:World) (h:OwU w lo hi v us) (hn:us.length≤2147483648) (ht:zci (us.map Prod.fst)≤2147483648) (h0:0≤k0) (h1:k0≤68719476736) :
  Calls Tryz.prog 56 #[v,.int .i64 k0] w fun e w'=>e=.returned (.int .i64 (kT k0 (us.map Prod.fst) us.length))∧OwU w' lo hi v (zlz k0 us us.length)∧Outside lo hi w w'∧w'.heap.size=w.heap.size:=by
 obtain ⟨hlen,ao,cap,rfl,hcap,-⟩:=h.row.rd
 obtain ⟨ts,ets⟩:∃ ts,ts=us.map Prod.fst:=⟨_,rfl⟩
 have TL:Hid (ts.length=us.length):=by rw[ets];exact List.length_map ..
 have TA:Hid (∀ k (hk:k < us.length),(ts[k]'(Nat.lt_of_lt_of_eq hk TL.o.symm)).pages.length=us[k].1.pages.length):=fun k hk=>by
  subst ets;simp
 have KL:Hid (∀ k,k≤us.length→k0≤kT k0 ts k∧kT k0 ts k≤k0+2*(us.length:Int)+2147483648):=fun k hk=>by
  have q:=yaek (k0:=k0) (ts:=ts) (j:=k) (Nat.le_trans hk (Nat.le_of_eq TL.o.symm))
  have r:zci ts≤2147483648:=by rw[ets];exact ht
  have s:=TL.o;omega
 have KS:Hid (∀ k (hk:k < us.length),kT k0 ts (k+1)=kT k0 ts k+2+(us[k].1.pages.length:Int)):=fun k hk=>by
  rw[zvs (Nat.lt_of_lt_of_eq hk TL.o.symm),TA.o k hk]
 have KZ:Hid (kT k0 ts 0=k0):=zul k0 ts
 have PL:Hid (∀ k (hk:k < us.length),us[k].1.pages.length≤2147483648):=fun k hk=>by
  have a:=zqe (ts:=ts) (k:=k) (Nat.lt_of_lt_of_eq hk TL.o.symm);rw[TA.o k hk] at a
  have r:zci ts≤2147483648:=by rw[ets];exact ht
  omega
 have MS:Hid (∀ k (hk:k < us.length),zlz k0 us (k+1)=(zlz k0 us k).set k (⟨kT k0 ts k,kT k0 ts k+1,zcg (kT k0 ts k+2) us[k].1.pages.length⟩,us[k].2)):=fun k hk=>by
  rw[zwn hk,ets];rfl
 have MZ:Hid (zlz k0 us 0=us):=zvi k0 us;have ML:Hid (∀ k,(zlz k0 us k).length=us.length):=zcz k0 us
 have MA:Hid (∀ k (hk:k < us.length),(zlz k0 us k)[k]'(Nat.lt_of_lt_of_eq hk (ML.o k).symm)=us[k]):=fun k hk=>by rw[zik,if_neg (by omega)]
 have HO:=zaa h;rw[← ets];clear ets ht h TL TA hlen hcap;generalize zlz k0 us=MU at *;generalize kT k0 ts=KT at *;go_enter Tryz.func56,Tryz.ntmps56;go_wp2
 go_loopw [1,5] (fun c i wr=>∃ k:Nat,k≤us.length∧i=.int .i64 k∧c=.int .i64 (KT k)∧Hid (OwU wr lo hi (.slice ao us.length cap) (MU k))∧Hid (Outside lo hi w wr)∧wr.heap.size=w.heap.size) (fun _ i _=>us.length - (intOf i).toNat)
 case atStart =>
  refine ⟨0,by omega,rfl,by rw[KZ.o],?_,Outside.refl _ _ _,rfl⟩;unfold Hid;rw[MZ.o];exact HO.o
 case round =>
  obtain ⟨k,hk,rfl,rfl,H,O,hz⟩:=hrel;clear HO
  by_cases hlt:k < us.length
  ·obtain ⟨b,rfl,b1,b2,hfr,c0,c1,c2⟩:=H.o.at (ML.o k) k hlt;rw[MA.o k hlt] at c0 c1 c2;have f0:=hfr (k*3);have f1:=hfr (k*3+1);obtain ⟨kl1,kl2⟩:=KL.o k (by omega);have ks:=zaa (KS.o k hlt);have pl:=PL.o k hlt;have hkm:k < (MU k).length:=Nat.lt_of_lt_of_eq hlt (ML.o k).symm;have P1:=zaa (H.o.put k hkm (KT k) (KT k+1) (ML.o k).symm);have O1:Hid (Outside lo hi w ((wr.setCell ⟨b,k*3,none⟩ (.int .i64 (KT k))).setCell ⟨b,k*3+1,none⟩ (.int .i64 (KT k+1)))):=(O.o.setCell (by simp only;omega) (by simp only;omega) _).setCell (by simp only;omega) (by simp only;omega) _
   obtain ⟨w1,hw1⟩:∃ w1,w1=(wr.setCell ⟨b,k*3,none⟩ (.int .i64 (KT k))).setCell ⟨b,k*3+1,none⟩ (.int .i64 (KT k+1)):=⟨_,rfl⟩
   have z1:w1.heap.size=w.heap.size:=by rw[hw1];simp[hz]
   rw[← hw1] at P1 O1
   have lset:((MU k).set k (⟨KT k,KT k+1,(MU k)[k].1.pages⟩,(MU k)[k].2)).length=us.length:=by rw[List.length_set];exact ML.o k
   obtain ⟨b',eb',-,-,hfr2,-,-,d2⟩:=P1.o.at lset k hlt
   cases eb'
   rw[List.getElem_set_self] at d2;simp only at d2;rw[MA.o k hlt] at d2;have G1:=zaa (P1.o.pg k (by rw[lset];exact hlt));rw[List.getElem_set_self] at G1;simp only at G1;rw[MA.o k hlt] at G1
   have g1:IntKind.i64.wrap (KT k+1)=KT k+1:=by rw[IntKind.wrap_i64];omega
   have g2:IntKind.i64.wrap (KT k+1+1)=KT k+2:=by rw[IntKind.wrap_i64];omega
   obtain ⟨x1,y1,ev⟩:∃ x1 y1,us[k].2=.slice x1 us[k].1.pages.length y1:=by
    obtain ⟨-,x1,y1,e1,-⟩:=G1.o.rd;exact ⟨x1,y1,e1⟩
   have ev2:=zaa ev;rw[ev] at d2;clear hfr hfr2 c2 ev;go_upto_region 8 with fail;rw[← hw1];clear hw1 c0 c1 f0 f1 g1 g2;go_wp2_with fail;rw[← ev2.o];refine (zda us[k].2 us[k].1.pages.length _ (KT k+2) lo hi w1 G1.o (fun u hu=>by simp only[zbk,List.mem_map] at hu;obtain ⟨z,_,rfl⟩:=hu;exact ⟨z,rfl⟩) pl (by omega) (by omega)).mono ?_;rintro e w2 ⟨rfl,hr2,hg2,hz2⟩
   have P2:Hid (OwU w2 lo hi (.slice (some ⟨b,0,none⟩) us.length cap) (MU (k+1))):=by
    have hks:k < ((MU k).set k (⟨KT k,KT k+1,(MU k)[k].1.pages⟩,(MU k)[k].2)).length:=by rw[lset];exact hlt
    have ge:((MU k).set k (⟨KT k,KT k+1,(MU k)[k].1.pages⟩,(MU k)[k].2))[k]=(⟨KT k,KT k+1,us[k].1.pages⟩,us[k].2):=by
     rw[List.getElem_set_self,MA.o k hlt]
    have:=P1.o.page (w':=w2) k hks (zcg (KT k+2) us[k].1.pages.length) (by rw[ge,zas]) (by rw[ge];exact hr2) (by rw[ge];exact hg2);rw[ge] at this;simp only[List.set_set] at this;unfold Hid;rw[MS.o k hlt];exact this
   have O2:Hid (Outside lo hi w w2):=O1.o.trans (G1.o.grown_outside hg2);clear hr2 hg2 P1 O1 G1 H O d2;go_wp2
   go_roundw
   case rel=>exact ⟨k+1,by omega,by go_num,by rw[ks.o],P2.o,O2.o,by omega⟩
   case measure=>simp[intOf];omega
  ·have e:k=us.length:=by omega
   subst e;go_wp2;go_ret;exact ⟨rfl,H.o,O.o,hz⟩
theorem zji (v:Value) (ts:List Th) (k0:Int) (lo hi:Nat) (w:World) (h:RowTh w lo hi v ts) (hn:ts.length≤2147483648) (ht:zci ts≤2147483648) (h0:0≤k0) (h1:k0≤68719476736) :
  Calls Tryz.prog 56 #[v,.int .i64 k0] w fun e w'=>e=.returned (.int .i64 (k0+2*(ts.length:Int)+(zci ts:Int)))∧RowTh w' lo hi v (zch k0 ts)∧Outside lo hi w w'∧w'.heap.size=w.heap.size:=by
 obtain ⟨us,rfl,o⟩:=h;refine (ziw v us k0 lo hi w o (by rw[List.length_map] at hn;exact hn) ht h0 h1).mono ?_;rintro e w' ⟨rfl,r,q,z⟩;refine ⟨?_,⟨_,zxo k0 us,r⟩,q,z⟩;have:=yaai k0 (us.map Prod.fst);rw[List.length_map] at this ⊢;rw[this]
theorem zjc (v:Value) (ts:List Th) (k0:Int) (w:World) (h:RdTh w v (zch k0 ts)) (hn:ts.length≤2147483648) (ht:zci ts≤2147483648) (h0:0≤k0) (h1:k0≤68719476736) :
  Calls Tryz.prog 63 #[v,.int .i64 k0] w fun e w'=>e=.returned (.int .i64 (k0+2*(ts.length:Int)+(zci ts:Int)))∧w'=w:=by
 obtain ⟨us,eu,r⟩:=h
 have UL:Hid (us.length=ts.length):=by unfold Hid;rw[zdl eu,zer]
 have KL:Hid (∀ k,k≤ts.length→k0≤kT k0 ts k∧kT k0 ts k≤k0+2*(ts.length:Int)+2147483648):=fun k hk=>by
  have q:=yaek (k0:=k0) (ts:=ts) (j:=k) hk;omega
 have KS:Hid (∀ k (hk:k < ts.length),kT k0 ts (k+1)=kT k0 ts k+2+(ts[k].pages.length:Int)):=fun k hk=>zvs hk
 have KZ:Hid (kT k0 ts 0=k0):=zul k0 ts;have KE:Hid (kT k0 ts ts.length=k0+2*(ts.length:Int)+(zci ts:Int)):=yaai k0 ts
 have PL:Hid (∀ k (hk:k < ts.length),ts[k].pages.length≤2147483648):=fun k hk=>Nat.le_trans (zqe hk) ht
 have UA:Hid (∀ k (hk:k < ts.length),(us[k]'(Nat.lt_of_lt_of_eq hk UL.o.symm)).1=mT k0 ts k ts[k].pages.length):=fun k hk=>by
  rw[zki eu k,zkg]
 have RP:Hid (∀ k (hk:k < ts.length),RdI w (us[k]'(Nat.lt_of_lt_of_eq hk UL.o.symm)).2 (zcg (kT k0 ts k+2) ts[k].pages.length)):=fun k hk=>by
  have q:=r.2 k (Nat.lt_of_lt_of_eq hk UL.o.symm);rw[UA.o k hk] at q;exact q
 obtain ⟨ao,cap,rfl,-,hc⟩:=r.shape
 have HC:Hid (0 < ts.length→∃ b o,ao=some ⟨b,o,none⟩∧∀ k (hk:k < ts.length),w.cell? ⟨b,o+k*3,none⟩=some (.int .i64 (kT k0 ts k))∧w.cell? ⟨b,o+k*3+1,none⟩=some (.int .i64 (kT k0 ts k+1))∧w.cell? ⟨b,o+k*3+2,none⟩=some (us[k]'(Nat.lt_of_lt_of_eq hk UL.o.symm)).2):=fun hp=>by
  obtain ⟨b,o,rfl,-,hcell⟩:=hc (Nat.lt_of_lt_of_eq hp UL.o.symm);refine ⟨b,o,rfl,fun k hk=>?_⟩;obtain ⟨c0,c1,c2⟩:=hcell k (Nat.lt_of_lt_of_eq hk UL.o.symm);rw[UA.o k hk] at c0 c1;exact ⟨c0,c1,c2⟩
 rw[UL.o];rw[← KE.o];clear eu r hc KE UA ht;generalize kT k0 ts=KT at *;go_enter Tryz.func63,Tryz.ntmps63;go_wp2
 go_loop [1,5] (fun c i=>∃ k:Nat,k≤ts.length∧i=.int .i64 k∧c=.int .i64 (KT k)) (fun _ i=>ts.length - (intOf i).toNat)
 case atStart=>exact ⟨0,by omega,rfl,by rw[KZ.o]⟩
 case round =>
  obtain ⟨k,hk,rfl,rfl⟩:=hrel
  by_cases hlt:k < ts.length
  ·obtain ⟨b,o,rfl,hcell⟩:=HC.o (by omega);obtain ⟨c0,c1,c2⟩:=hcell k hlt;obtain ⟨kl1,kl2⟩:=KL.o k (by omega);have ks:=zaa (KS.o k hlt);have pl:=PL.o k hlt;have R:=zaa (RP.o k hlt);obtain ⟨x1,y1,ev,-⟩:=R.o.shape;rw[zas] at ev
   have g1:IntKind.i64.wrap (KT k+1)=KT k+1:=by rw[IntKind.wrap_i64];omega
   have g2:IntKind.i64.wrap (KT k+1+1)=KT k+2:=by rw[IntKind.wrap_i64];omega
   have g3:¬ KT k+2+(ts[k].pages.length:Int) < 0:=by omega
   rw[ev] at c2 R;clear hcell ev HC RP KS PL;generalize ts[k].pages.length=m at *;go_wp2_with (go_at_call 60;refine (zcw _ m (KT k+2) _ R.o pl (by omega) (by omega)).mono ?_;rintro e w' ⟨rfl,rfl⟩)
   go_round
   case rel=>exact ⟨k+1,by omega,by go_num,by rw[ks.o]⟩
   case measure=>simp[intOf];omega
  ·have e:k=ts.length:=by omega
   subst e;go_wp2;go_ret;exact ⟨rfl,rfl⟩
theorem RdTh.form {w:World} {v:Value} {ts:List Th} (h:RdTh w v ts):∃ ao cap,v=.slice ao ts.length cap:=by
 obtain ⟨us,e,r⟩:=h;obtain ⟨ao,cap,rfl,-⟩:=r.shape;exact ⟨ao,cap,by rw[zdl e]⟩
def RdMd (w:World) (v:Value) (ts:List Th) (ps:List Den):Prop:=∃ vW vP,v=.agg #[vW,vP]∧RdTh w vW ts∧RdD w vP ps
def RowMd (w:World) (lo hi:Nat) (v:Value) (ts:List Th) (ps:List Den):Prop:=∃ vW vP lt ut lp up,v=.agg #[vW,vP]∧RowTh w lt ut vW ts∧Row w 143 3 lp up vP ps.length (zbm ps)∧lo≤lt∧ut≤hi∧lo≤lp∧up≤hi∧(ut≤lp∨up≤lt)
theorem RowMd.rd {w:World} {lo hi:Nat} {v:Value} {ts:List Th} {ps:List Den} (h:RowMd w lo hi v ts ps):RdMd w v ts ps:=by
 obtain ⟨vW,vP,lt,ut,lp,up,rfl,h1,h2,-⟩:=h;exact ⟨vW,vP,rfl,h1.rd,h2.rd⟩
theorem RdMd.below {w w':World} {v:Value} {ts:List Th} {ps:List Den} (h:RdMd w v ts ps) (hb:Below w.heap.size w w'):RdMd w' v ts ps:=by
 obtain ⟨vW,vP,rfl,h1,h2⟩:=h;exact ⟨vW,vP,rfl,h1.below hb,Rd.below h2 hb⟩
theorem RowMd.below {w w':World} {lo hi:Nat} {v:Value} {ts:List Th} {ps:List Den} (h:RowMd w lo hi v ts ps) {B:Nat} (hb:Below B w w') (hB:hi≤B):RowMd w' lo hi v ts ps:=by
 obtain ⟨vW,vP,lt,ut,lp,up,rfl,h1,h2,q⟩:=h;exact ⟨vW,vP,lt,ut,lp,up,rfl,h1.below hb (by omega),h2.below hb (by omega),q⟩
theorem RowMd.outside {w w':World} {lo hi:Nat} {v:Value} {ts:List Th} {ps:List Den} (h:RowMd w lo hi v ts ps) {lo' hi':Nat} (ho:Outside lo' hi' w w') (hd:hi≤lo'∨hi'≤lo) (hz:hi≤w.heap.size):RowMd w' lo hi v ts ps:=by
 obtain ⟨vW,vP,lt,ut,lp,up,rfl,h1,h2,q⟩:=h;exact ⟨vW,vP,lt,ut,lp,up,rfl,h1.outside ho (by omega) (by omega),h2.outside ho (by omega) (by omega),q⟩
theorem RowMd.wide {w:World} {lo hi:Nat} {v:Value} {ts:List Th} {ps:List Den} (h:RowMd w lo hi v ts ps) {lo' hi':Nat} (a:lo'≤lo) (b:hi≤hi'):RowMd w lo' hi' v ts ps:=by
 obtain ⟨vW,vP,lt,ut,lp,up,rfl,h1,h2,q⟩:=h;exact ⟨vW,vP,lt,ut,lp,up,rfl,h1,h2,by omega⟩
theorem RdMd.form {w:World} {v:Value} {ts:List Th} {ps:List Den} (h:RdMd w v ts ps):∃ aW cW aP cP,v=.agg #[.slice aW ts.length cW,.slice aP ps.length cP]:=by
 obtain ⟨vW,vP,rfl,h1,h2⟩:=h;obtain ⟨aW,cW,rfl⟩:=h1.form;obtain ⟨aP,cP,rfl,-⟩:=h2.shape;exact ⟨aW,cW,aP,cP,rfl⟩
theorem znw (va vb:Value) (ts:List Th) (ps:List Den) (w:World) (ha:RdMd w va ts ps) (hb:RdMd w vb ts ps) (hw:ts.length≤2147483648) (hg:∀ k (hk:k < ts.length),ts[k].pages.length≤2147483648) (hp:ps.length≤2147483648) :
  Calls Tryz.prog 18 #[va,vb] w fun e w'=>e=.returned (.bool true)∧Below w.heap.size w w':=by
 obtain ⟨vW,vP,rfl,h1,h2⟩:=ha;obtain ⟨uW,uP,rfl,h3,h4⟩:=hb;obtain ⟨aW,cW,rfl⟩:=h1.form;obtain ⟨aP,cP,rfl,_⟩:=h2.shape;obtain ⟨bW,dW,rfl⟩:=h3.form;obtain ⟨bP,dP,rfl,_⟩:=h4.shape;have H1:=zaa h1;have H2:=zaa h2;have H3:=zaa h3;have H4:=zaa h4;clear h1 h2 h3 h4;go_enter Tryz.func18,Tryz.ntmps18;go_wp2_with fail
 have hb0:Below w.heap.size w ((w.alloc (.cells #[.slice aW ts.length cW,.slice aP ps.length cP] 40)).alloc (.cells #[.slice bW ts.length dW,.slice bP ps.length dP] 40)):=by
  repeat (refine Below.alloc ?_ (by simp <;> omega) _)
  exact Below.refl _ _
 refine (zll _ _ ts _ (H1.o.below hb0) (H3.o.below hb0) hw hg).mono ?_;rintro e w1 ⟨rfl,hb1⟩
 have hz1:w.heap.size+2≤w1.heap.size:=by have:=hb1.size;simp at this;omega
 have V0:=(hb1.block w.heap.size (by simp <;> omega)).trans (zao (zae rfl));have V1:=(hb1.block (w.heap.size+1) (by simp <;> omega)).trans (zae (by simp));have B1:=hb0.trans (hb1.mono (by simp <;> omega));obtain ⟨x1,x2,_,_⟩:=zac V0;obtain ⟨y1,y2,_,_⟩:=zac V1;clear hb0 hb1 V0 V1;go_wp2_with fail;refine (zje _ _ ps _ (Rd.below H2.o B1) (Rd.below H4.o B1) hp).mono ?_;rintro e w2 ⟨rfl,hb2⟩;go_wp2;go_ret;exact ⟨rfl,B1.trans (hb2.mono (by omega))⟩
def opEq (k:Int) (p t:ByteArray) (g x:Int) (k':Int) (p' t':ByteArray) (g' x':Int):Bool:=k == k' && (p.toList == p'.toList && (t.toList == t'.toList && (g == g' && x == x')))
@[go_sem ↓] theorem eqOp (k:Int) (p t:ByteArray) (g x:Int) (k':Int) (p' t':ByteArray) (g' x':Int) (w:World):(Op.equalIn 10000 42 (.agg #[.int .i64 k,.string p,.string t,.int .i64 g,.int .i64 x]) (.agg #[.int .i64 k',.string p',.string t',.int .i64 g',.int .i64 x'])).run Tryz.prog w=.ok (opEq k p t g x k' p' t' g' x') w:=by
 unfold opEq
 cases g0:(k == k')
 ·go_simp
 cases g1:(p.toList == p'.toList)
 ·go_simp
 cases g2:(t.toList == t'.toList)
 ·go_simp
 cases g3:(g == g')
 ·go_simp
 cases g4:(x == x')
 ·go_simp
 ·go_simp
end Go.Proofs.YtbohndgbfbfldaaGreatDoor
