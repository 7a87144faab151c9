import Derived.Test.YtfagbapgnocjiaaGreatDoorZAE
set_option maxRecDepth 100000
set_option maxHeartbeats 4000000
namespace Go.Proofs.YtfagbapgnocjiaaGreatDoor
open Go.RowKit
structure Den where
 dir:Int
 name:ByteArray
 child:Int
def Den.v(x:Den):Value:=.agg #[.I x.dir,.string x.name,.I x.child]
def Den.freeB(x:Den):Bool:=x.dir == 0&&(x.name.size == 0&&x.child == -1)
def Den.okB(x:Den):Bool:=x.freeB||(decide (1<=x.child/\x.child<=15)&&(decide (0<=x.dir/\x.dir<=15)&&nmB x.name))
def enL(k:Int)(x:Den):List Se:=[⟨240+3*k,x.dir⟩,⟨240+3*k+1,((pk x.name x.name.size:Nat):Int)⟩,⟨240+3*k+2,x.child+1⟩]
theorem ztg(s:ByteArray)(w:World)(hs:s.size=0):zC 193 #[.string s] w fun e w'=>e=.returned (.I ((pk s s.size:Nat):Int))/\w'=w:=by
 have E:=zaa (show((pk s s.size:Nat):Int)=0 by rw[hs,zyr];rfl);rw[E.o];go_enter Tryz.func193,Tryz.ntmps193;go_wp2
 go_loop [3,4] (fun n i=>i=.I 0/\n=.I 0) (fun _ i=>0)
 case atStart=>exact⟨rfl,rfl⟩
 case round =>
  obtain⟨rfl,rfl⟩:=hrel;go_wp2;go_ret;exact⟨rfl,rfl⟩
theorem zfg(k:Int)(x:Den)(w:World)(hk:0<=k/\k<24)(hc:-1<=x.child/\x.child<=15)(hn:x.name.size=0\/nmB x.name=true) :
  zC 190 #[.I k,x.v] w fun e w'=>∃ v',e=.returned v'/\Row w' 208 2 w.heap.size w'.heap.size v' (enL k x).length (ses (enL k x))/\zB w w':=by
 have LP:=zaa (fun w1=>show zC 193 #[.string x.name] w1 fun e w'=>e=.returned (.I ((pk x.name x.name.size:Nat):Int))/\w'=w1 by
  rcases hn with h | h
  ·exact ztg _ _ h
  ·exact zxa _ _ h)
 clear hn;have EL:=zaa (show enL k x=[⟨240+3*k,x.dir⟩,⟨240+3*k+1,((pk x.name x.name.size:Nat):Int)⟩,⟨240+3*k+2,x.child+1⟩]from rfl);generalize ((pk x.name x.name.size:Nat):Int)=p at LP EL
 obtain⟨W,hW⟩:=zE (w.alloc (.cells #[.I x.dir,.string x.name,.I x.child] 52))
 have SK:Hid (∀ w',zB W w'->w'.cell? ⟨w.heap.size,0,none⟩=some (.I x.dir)/\w'.cell? ⟨w.heap.size,1,none⟩=some (.string x.name)/\w'.cell? ⟨w.heap.size,2,none⟩=some (.I x.child)):=fun w' hb=>by
  have:w'.heap[w.heap.size]?=some (.cells #[.I x.dir,.string x.name,.I x.child] 52 (0,0)):=(hb.block _ (by rw[hW];simp)).trans (by rw[hW];exact zai rfl);exact zaz this
 have BW:Hid (zB w W):=by rw[hW];exact zR.alloc zL _
 have hz:w.heap.size<=W.heap.size:=BW.o.size;unfold Den.v;go_enter Tryz.func190,Tryz.ntmps190;go_wp2_with fail;rw[<- hW];clear hW
 go_region_held3 (fun w'=>w'.cell? ⟨w.heap.size,0,none⟩=some (.I x.dir)/\w'.cell? ⟨w.heap.size,1,none⟩=some (.string x.name)/\w'.cell? ⟨w.heap.size,2,none⟩=some (.I x.child))
  (exact SK.o _ (by repeat (first | exact zR | refine Below.drew ?_ | refine Below.alloc ?_ (by simp) _)))
  (first | (go_at_call 57;refine(zdj _ _ _ hk (by omega)).mono ?_;rintro e w' ⟨rfl,hw'⟩;subst w') | (go_at_call 193;refine(LP.o _).mono ?_;rintro e w' ⟨rfl,hw'⟩;subst w'))
 have wp1:IntKind.i64.wrap (x.child+1)=x.child+1:=by rw[IntKind.wrap_i64];omega
 rw[wp1]
 have R:Hid (UpI W (W.alloc (.cells #[.I (240+3*k),.I x.dir,.I (240+3*k+1),.I p,.I (240+3*k+2),.I (x.child+1)] 208)).drew (.slice (some ⟨W.heap.size,0,none⟩) 3 3) (enL k x)):=by
  show UpI _ _ _ _
  rw[EL.o];exact UpI.below (w:=W.alloc (.cells #[.I (240+3*k),.I x.dir,.I (240+3*k+1),.I p,.I (240+3*k+2),.I (x.child+1)] 208)) ⟨World.ownsRow_lit W _ 3 zL (by simp[maxLen]) rfl,zR.alloc zL _⟩ (zR.drew)
 go_wp2;go_ret;exact⟨_,rfl,(zac R.o.l).wide hz zL,zab BW.o R.o.b hz⟩
theorem yahb(s:ByteArray):s.toList=[]↔s.size=0:=by
 rw[ByteArray.toList_eq];obtain⟨⟨x⟩⟩:=s
 show x=[]↔x.length=0
 exact List.length_eq_zero_iff.symm
def zwk(ws:List Int)(ps:List Se):List Int:=ps.foldl (fun acc p=>acc.set p.at_.toNat p.val) ws
theorem yage(ws:List Int)(ps:List Se)(p:Se):zwk ws (ps++[p])=(zwk ws ps).set p.at_.toNat p.val:=by simp[zwk]
theorem zlo(ws:List Int):∀ ps:List Se,(zwk ws ps).length=ws.length:=by
 intro ps;unfold zwk
 induction ps generalizing ws with
 | nil=>rfl
 | cons p ps ih=>rw[List.foldl_cons,ih];simp
structure BarInv(w wr:World)(eZ:TypeId)(ws:List Int)(ps:List Se)(lo hi:Nat)(vW vP:Value)(m:Nat):Prop where
 words:Row wr eZ 1 lo hi vW ws.length (zeh (zwk ws (ps.take m)))
 pend:Row wr 213 2 lo hi vP ps.length (ses ps)
 box:wr.heap[w.heap.size]?=some (.cells #[vW,vP] 76 (0,0))
 res:wr.heap[w.heap.size+1]?=some (.cells #[.N,.N] 76 (0,0))
 below:zB w wr
 size:hi<=wr.heap.size
theorem BarInv.hit{w wr:World}{eZ:TypeId}{ws:List Int}{ps:List Se}{lo hi:Nat}{b n cap:Nat}{vP:Value}{m:Nat}(h:BarInv w wr eZ ws ps lo hi (.slice (some ⟨b,0,none⟩) n cap) vP m)(he:eZ≠213)(hm:m<ps.length)(hlo:w.heap.size+2<=lo)(hn:n=ws.length) :
  BarInv w (wr.setCell ⟨b,ps[m].at_.toNat,none⟩ (.I ps[m].val)) eZ ws ps lo hi (.slice (some ⟨b,0,none⟩) n cap) vP (m+1):=by
 subst hn;obtain⟨h1,h3,h4,h5,h6,h7⟩:=h
 obtain⟨_,hb1,hb2,_⟩:=h1.at
 have e1:zwk ws (ps.take (m+1))=(zwk ws (ps.take m)).set ps[m].at_.toNat ps[m].val:=by rw[zhb ps m hm,yage]
 refine⟨?_,?_,?_,?_,?_,?_⟩
 ·rw[e1,<- zlk];exact h1.stored _ _
 ·exact h3.apart h1 (Ne.symm he) (World.ownsRow.stored h1.1 _ _).2
 ·rw[Below.heap_setCell _ _ _ _ (by simp only;omega)];exact h4
 ·rw[Below.heap_setCell _ _ _ _ (by simp only;omega)];exact h5
 ·exact h6.setCell (by simp only;omega) _
 ·simpa using h7
theorem BarInv.drew{w wr:World}{eZ:TypeId}{ws:List Int}{ps:List Se}{lo hi:Nat}{vW vP:Value}{m:Nat}(h:BarInv w wr eZ ws ps lo hi vW vP m):BarInv w wr.drew eZ ws ps lo hi vW vP m:=by
 obtain⟨h1,h2,h4,h5,h6,h7⟩:=h;exact⟨h1.same (fun _ _ _=>rfl),h2.same (fun _ _ _=>rfl),h4,h5,h6.drew,h7⟩
theorem zoq(v:Value)(ws:List Int)(ps:List Se)(w:World)(h:RdBlk w v ws ps)(hw:ws.length<=1048576)(hp:ps.length<=1048576)(hok:∀ j (h:j<ps.length),0<=ps[j].at_/\ps[j].at_<ws.length) :
  zC 173 #[v] w fun e w'=>∃ v',e=.returned v'/\RowBlk w' w.heap.size w'.heap.size v' (zwk ws ps) []/\zB w w':=by
 have HR:=zaa h;obtain⟨vW,vP,rfl,h1,h2⟩:=h;obtain⟨aW,cW,rfl,_⟩:=h1.shape;obtain⟨aP,cP,rfl,_⟩:=h2.shape;have HOK:=zaa hok;clear h1 h2 hok
 have hb0:zB w ((w.alloc (.cells #[.slice aW ws.length cW,.slice aP ps.length cP] 76)).alloc (.cells #[.N,.N] 76)):=by
  repeat (refine Below.alloc ?_ (by simp<;>omega) _)
  exact zR
 go_enter Tryz.func173,Tryz.ntmps173;go_wp2_with fail;refine(zps _ ws ps _ (HR.o.below hb0) (by omega) (by omega)).mono ?_;rintro e w2 ⟨v2,rfl,hr2,hb2⟩;obtain⟨vW2,vP2,rfl,hI2,hS2⟩:=hr2;obtain⟨aW2,cW2,rfl⟩:=RdI.form hI2.rd rfl;obtain⟨aP2,cP2,rfl⟩:=RdE.form hS2.rd rfl;obtain⟨eZ,heZ,hI2⟩:=hI2;simp only[World.size_alloc]at hI2 hS2;have HE:=zaa heZ
 have hz2:w.heap.size+2<=w2.heap.size:=by have:=hb2.size;simp at this;omega
 have V0:=(hb2.block w.heap.size (by simp<;>omega)).trans (zak (zai rfl));have V1:=(hb2.block (w.heap.size+1) (by simp)).trans (zai (by simp));have B2:=zab hb0 hb2 (by simp<;>omega);obtain⟨x1,x2,x3,x4⟩:=zad V0
 have INV:Hid (BarInv w ((w2.setCell ⟨w.heap.size,0,none⟩ (.slice aW2 ws.length cW2)).setCell ⟨w.heap.size,1,none⟩ (.slice aP2 ps.length cP2)) eZ ws ps (w.heap.size+1+1) w2.heap.size (.slice aW2 ws.length cW2) (.slice aP2 ps.length cP2) 0):=by
  refine⟨?_,?_,?_,?_,?_,?_⟩
  ·refine hI2.same fun b hb1 _=>?_
   rw[Below.heap_setCell _ _ _ _ (by simp only;omega),Below.heap_setCell _ _ _ _ (by simp only;omega)]
  ·refine hS2.same fun b hb1 _=>?_
   rw[Below.heap_setCell _ _ _ _ (by simp only;omega),Below.heap_setCell _ _ _ _ (by simp only;omega)]
  ·exact zsi (zlt V0 _) _
  ·rw[Below.heap_setCell _ _ _ _ (by simp only;omega),Below.heap_setCell _ _ _ _ (by simp only;omega)];exact V1
  ·exact(B2.setCell (by simp only;omega) _).setCell (by simp only;omega) _
  ·simp
 clear hb0 hb2 hI2 hS2 V0 V1 B2 heZ;go_wp2
 go_loopw [3] (fun i wr=>∃ m:Nat,m<=ps.length/\i=.I m/\Hid (BarInv w wr eZ ws ps (w.heap.size+1+1) w2.heap.size (.slice aW2 ws.length cW2) (.slice aP2 ps.length cP2) m)) (fun i _=>ps.length-(intOf i).toNat)
 case atStart=>exact⟨0,by omega,rfl,INV⟩
 case round =>
  obtain⟨m,hm,rfl,I⟩:=hrel;obtain⟨y1,y2,y3,y4⟩:=zad I.o.box
  by_cases hlt:m<ps.length
  ·obtain⟨_,ao',cap',e',_,hc⟩:=I.o.pend.rd
   cases e'
   obtain⟨b,o,rfl,hbl,_⟩:=hc (by omega)
   obtain⟨rfl,_,_,_,hfr,hcl⟩:=I.o.pend.at
   have e0:=(hcl (m*2) (by omega)).trans (zrx _ m hlt);have e1:=(hcl (m*2+1) (by omega)).trans (yaei _ m hlt);obtain⟨q0,q1⟩:=HOK.o m hlt;obtain⟨_,aw',cw',ew',_,hcw⟩:=I.o.words.rd
   cases ew'
   obtain⟨bw,ow,rfl,hblw,_⟩:=hcw (by omega)
   obtain⟨rfl,_,_,_,hfrw,hclw⟩:=I.o.words.at
   have hj:ps[m].at_.toNat<(zwk ws (ps.take m)).length:=by rw[zlo];omega
   have g0:=hfrw ps[m].at_.toNat;have g1:=(hclw ps[m].at_.toNat (by omega)).trans (zen _ _ hj);have q1':ps[m].at_<(ws.length:Int):=q1
   have hlt':(m:Int)<(ps.length:Int):=by omega
   have hge:(0:Int)<=(m:Int):=by omega
   clear hc hfr hcl hcw hfrw hclw;go_wp2
   go_region
   all_goals
    go_wp2
    go_roundw
    case rel =>
     refine⟨m+1,by omega,by go_num,?_⟩
     first | exact(I.o.hit HE.o hlt zL rfl).drew | exact I.o.drew.hit HE.o hlt zL rfl
    case measure=>simp[intOf];omega
  ·have e:m=ps.length:=by omega
   subst e;have hsz:=I.o.size;obtain⟨z1,z2,z3,z4⟩:=zad (zak (o:=.cells #[] 213) I.o.box);obtain⟨t1,t2,t3,t4⟩:=zad (zak (o:=.cells #[] 213) I.o.res)
   have ho:(wr.alloc (.cells #[] 213)).ownsRow wr.heap.size 213 2 (.slice (some ⟨wr.heap.size,0,none⟩) 0 0) 0 []:=by
    simpa using World.ownsRow_lit (base:=wr.heap.size) (e:=213) (size:=2) wr #[] 0 (by simp) (by simp) rfl
   have HO:=zaa ho;clear ho;go_wp2;have I2:=I.o;refine bodyPost_ret (v:=.agg #[.slice aW2 ws.length cW2,.slice (some ⟨wr.heap.size,0,none⟩) 0 0]) (by simp[results,Tryz.results173,go_sem,t1,t2]) rfl ?_;refine⟨_,rfl,⟨_,_,rfl,⟨eZ,HE.o,?_⟩,?_⟩,(((I2.below.alloc (by omega) _).setCell (by simp only;omega) _).setCell (by simp only;omega) _).setCell (by simp only;omega) _⟩
   ·rw[zlo];have:=I2.words;rw[List.take_length]at this;refine((this.alloc hsz (.cells #[] 213)).same fun b h1 h2=>?_).wide (by omega) (by simp;omega);rw[Below.heap_setCell _ _ _ _ (by simp only;omega),Below.heap_setCell _ _ _ _ (by simp only;omega),Below.heap_setCell _ _ _ _ (by simp only;omega)]
   ·refine((zac HO.o).same fun b h1 h2=>?_).wide (by omega) (by simp);rw[Below.heap_setCell _ _ _ _ (by simp only;omega),Below.heap_setCell _ _ _ _ (by simp only;omega),Below.heap_setCell _ _ _ _ (by simp only;omega)]
end Go.Proofs.YtfagbapgnocjiaaGreatDoor
