import Derived.Test.YteampbddflhngaaGreatR13
import Derived.Test.YteampbddflhngaaGreatR15
namespace Go.Proofs.YteampbddflhngaaGreat
open List renaming length→List.j,take→List.G,map→List.w,toArray→List.F,foldl→List.H
open _root_.Array renaming size→Array.q,toList→Array.v,map→Array.w,foldl→Array.H
open _root_.ByteArray renaming size→ByteArray.q,toList→ByteArray.v
open Go.RowKit.Below renaming size→Go.RowKit.Below.q,setCell→Go.RowKit.Below.x,mono→Go.RowKit.Below.y,trans→Go.RowKit.Below.A,alloc→Go.RowKit.Below.C
open Go.TypeInfo renaming size→Go.TypeInfo.q
open Go.World.grownBy renaming size→Go.World.grownBy.q
open Go.RowKit.Hid renaming out→Go.RowKit.Hid.l
open Go.Shut renaming out→Go.Shut.l
open Go.World renaming heap→Go.World.o,setCell→Go.World.x,cell?→Go.World.p,alloc→Go.World.C,ownsRow→Go.World.r
open Go.Value renaming slice→Go.Value.k,string→Go.Value.d,bool→Go.Value.i,cells→Go.Value.E,ownBlock→Go.Value.m,pointer→Go.Value.u
open Go.TypeDesc renaming slice→Go.TypeDesc.k,string→Go.TypeDesc.d,bool→Go.TypeDesc.i,pointer→Go.TypeDesc.u
open Go.Calls renaming mono→Go.Calls.y
open Eq renaming trans→Eq.A,symm→Eq.z
open Iff renaming trans→Iff.A,symm→Iff.z
open Go.Obj renaming cells→Go.Obj.E
open Option renaming toList→Option.v,map→Option.w,isSome→Option.I,some→Z,none→Y
open Int renaming toNat→Int.D
open UInt8 renaming toNat→UInt8.D
open Ne renaming symm→Ne.z
open Go.RowKit renaming Hid→X
open Go renaming World→U,Value→O
set_option linter.all false
set_option maxRecDepth 100000
set_option maxHeartbeats 8000000
open Go.RowKit
section
open Go.Proofs.Tryz
variable {B:y9}{lo:Nat}
def KQ{t:ByteArray}(c:qz B)(b:0<t.q):fe B t=true↔yr B t≠ByteArray.empty:=by
 unfold fe yr;cases zQ t;simp only[Bool.not_false,Bool.true_or,true_iff,dU,if_false];rintro rfl;exact zC b θ;simp only[n7,p8,if_true];rcases a:Tz B t with _|x;simp;simp[c t x a]
def QW{y z:ByteArray}(c:qz B)(b:z≠ByteArray.empty):qz (B++[(y,z)]):=by
 intro v x h;rw[wa] at h;rcases a:Tz B v with _|u;rw[a] at h;simp only[Option.none_or,Tz] at h;split at h;cases h;exact b;cases h;rw[a] at h;simp only[Option.some_or,zt] at h;rw[←h];exact c v u a
structure CR (lo:Nat) (w:U) (cb:Nat) (B:y9) (v1 v2:O):Prop where
 box:Ti w cb #[v1,v2] 270
 fst:w.r lo 9 1 v1 B.j ((xF B).w O.string)
 snd:w.r lo 9 1 v2 B.j ((ul B).w O.string)
 ne:∀b,v1.m=Z b->v2.m≠Z b
def CR.sf{w:U}{c:Nat}{a b:O}(h:CR lo w c B a b):To lo w a (xF B):=by unfold To;rw[oJ];exact h.fst
def CR.ss{w:U}{c:Nat}{b a:O}(h:CR lo w c B b a):To lo w a (ul B):=by unfold To;rw[BU];exact h.snd
def CR.u{lo:Nat}{w w':U}{d:Nat}{B:y9}{c b:O}(h:CR lo w d B c b)(a:μ w w'):CR lo w' d B c b:=⟨h.box.u a,zy h.fst a,zy h.snd a,h.ne⟩
def KK{aZ bb bh:Nat}(w:U)(vv lv av rv:O)(B:y9)(args row:κ)(h1:To lo w vv (xF B))(h2:To aZ w lv (ul B))(h3:To bb w av args)(h4:To bh w rv row)(hl:B.j<=100)(ha:args.j<=100)(hr:row.j=args.j)(aX:∀a∈args,0<a.q)(hF:qz B)(aT:∀x∈row,x≠ByteArray.empty):
  Calls prog 196 #[.agg #[vv,lv],av,rv] w λe w'=>∃(n1 c1:Nat) (o1:Option Addr) (n2 c2:Nat) (o2:Option Addr),e=ε (.tuple #[.agg #[.k o1 n1 c1,.k o2 n2 c2],.i (xG B args row).I])/\X (∀B',xG B args row=Z B'->To w.o.q w' (.k o1 n1 c1) (xF B')/\To w.o.q w' (.k o2 n2 c2) (ul B')/\B'.j<=B.j+args.j)/\X (μ w w'):=by
 obtain⟨i0,hi,aF,aP,aW⟩:=info_parts SG;have aR:X (∀W,μ w W->To lo W vv (xF B)/\To aZ W lv (ul B)):=λW i=>⟨h1.u i,h2.u i⟩;obtain⟨ao,bz,rfl⟩:=h3.qy;obtain⟨ba,bw,rfl⟩:=h4.qy;have HA:X (∀W k (hk:k<args.j),μ w W->∃g,ao=Z ⟨g,0,Y⟩/\g<W.o.q/\W.p ⟨g,k,Y⟩=Z (.d args[k])):=λW k hk i=>(h3.u i).cell k hk;have HR:X (∀W k (hk:k<row.j),μ w W->∃g,ba=Z ⟨g,0,Y⟩/\g<W.o.q/\W.p ⟨g,k,Y⟩=Z (.d row[k])):=λW k hk i=>(h4.u i).cell k hk;have e1:(xF B).j<=1000000:=by simp[xF];omega
 have e2:(ul B).j<=1000000:=by simp[ul];omega
 clear h1 h2 h3 h4;go_enter func196,ntmps196;go_upto_region 2 with fail
 have aB:X (μ w (((w.C (.E #[vv,lv] 270)).C (.E #[ν,ν] 270)).C (.E #[ν,ν] 270))):=(zO.C ζ _).C υ _;have aq:=B3 (B3 (Ti.new w #[vv,lv] 270) (.E #[ν,ν] 270)) (.E #[ν,ν] 270);have aG:=B3 (Ti.newAt (w.C (.E #[vv,lv] 270)) (w.o.q+1) #[ν,ν] 270 ζ) (.E #[ν,ν] 270);have a3:=Ti.newAt ((w.C (.E #[vv,lv] 270)).C (.E #[ν,ν] 270)) (w.o.q+1+1) #[ν,ν] 270 ζ;have bd:(((w.C (.E #[vv,lv] 270)).C (.E #[ν,ν] 270)).C (.E #[ν,ν] 270)).o.q=w.o.q+1+1+1:=ζ;generalize bc:((w.C (.E #[vv,lv] 270)).C (.E #[ν,ν] 270)).C (.E #[ν,ν] 270)=wA at *;clear bc;obtain⟨c0,f0⟩:=aq.H;obtain⟨c2,f2⟩:=a3.H;go_upto_region 3 with (first|(at_builtin;refine Io rfl (.tmp 14) (.tmp 16) rfl (xF B) vv rfl rfl (aR.l _ aB.l).1 e1 ?_;intro v1 w1 ax Q;have M:=a3.u Q;obtain⟨d2,g2,ad⟩:=M.e;have bt:=Q.q;obtain⟨C,n,rfl⟩:=ax.qy))
 have aD:=aq.lt;have a6:X (Ti (w1.x ⟨w.o.q+1+1,0,Y⟩ (.k C (xF B).j n)) w.o.q #[vv,lv] 270):=(aq.u Q).set_ne η 0 _;have aH:X (Ti (w1.x ⟨w.o.q+1+1,0,Y⟩ (.k C (xF B).j n)) (w.o.q+1) #[ν,ν] 270):=(aG.u Q).set_ne η 0 _;have ak:X (Ti (w1.x ⟨w.o.q+1+1,0,Y⟩ (.k C (xF B).j n)) (w.o.q+1+1) #[.k C (xF B).j n,ν] 270):=M.set 0 _;have aE:X (μ w (w1.x ⟨w.o.q+1+1,0,Y⟩ (.k C (xF B).j n))):=(zT aB.l Q η).x (p:=⟨w.o.q+1+1,0,Y⟩) (by show w.o.q<=w.o.q+1+1;omega) _;have al:X (To wA.o.q (w1.x ⟨w.o.q+1+1,0,Y⟩ (.k C (xF B).j n)) (.k C (xF B).j n) (xF B)):=yT ax (zd.set w1 (w.o.q+1+1) 0 (.k C (xF B).j n)) (λb i E=>by have:=yW ax i;simp at E;omega);have br:w1.o.q<=(w1.x ⟨w.o.q+1+1,0,Y⟩ (.k C (xF B).j n)).o.q:=by simp[U.setCell]
 clear c0 f0 c2 f2 d2 g2 ad M aq aG a3 Q ax aD;generalize w1.x ⟨w.o.q+1+1,0,Y⟩ (.k C (xF B).j n)=wB at *;obtain⟨c0,f0⟩:=a6.l.H;obtain⟨c2,f2⟩:=ak.l.H;have aD:=a6.l.lt;have ad:=ak.l.lt;go_upto_region 4 with (first|(at_builtin;refine Io rfl (.tmp 20) (.tmp 22) rfl (ul B) lv rfl rfl (aR.l _ aE.l).2 e2 ?_;intro v2 F s V;have M:=ak.l.u V;obtain⟨d2,g2,bf⟩:=M.e;have bp:=V.q;obtain⟨K,A,rfl⟩:=s.qy))
 have hL:∀b,w.o.q+1+1≠b->True:=λ_ _=>trivial;have HC:X (CR w.o.q (F.x ⟨w.o.q+1+1,1,Y⟩ (.k K (ul B).j A)) (w.o.q+1+1) B (.k C (xF B).j n) (.k K (ul B).j A)):=⟨M.set 1 _,by rw[←oJ B];exact yT (yo (zy al.l V) η) (zd.set F (w.o.q+1+1) 1 (.k K (ul B).j A)) (λb i E=>by have:=yW al.l i;simp at E;omega),by rw[←BU B];exact yT (yo s η) (zd.set F (w.o.q+1+1) 1 (.k K (ul B).j A)) (λb i E=>by have:=yW s i;simp at E;omega),λb i E=>by have:=yF al.l i;have:=yW s E;omega⟩;have aQ:X (Ti (F.x ⟨w.o.q+1+1,1,Y⟩ (.k K (ul B).j A)) (w.o.q+1) #[ν,ν] 270):=(aH.l.u V).set_ne η 1 _;have aN:X (μ w (F.x ⟨w.o.q+1+1,1,Y⟩ (.k K (ul B).j A))):=(zT aE.l V η).x (p:=⟨w.o.q+1+1,1,Y⟩) (by show w.o.q<=w.o.q+1+1;omega) _;clear c0 f0 c2 f2 d2 g2 aD ad bf M V s al a6 aH ak aE hL br bt bp bd aB;generalize F.x ⟨w.o.q+1+1,1,Y⟩ (.k K (ul B).j A)=wC at *;clear w1 F wA wB;rw[oJ,BU] at HC;go_wp2;go_loopw [9] (λv9 wr=>∃(k:Nat) (c:y9) (t:Option Addr) (j:Nat) (m:Option Addr) (d:Nat),k<=args.j/\v9=ι k/\X (CR w.o.q wr (w.o.q+1+1) c (.k t c.j j) (.k m c.j d))/\X (xG B args row=xG c (args.drop k) (row.drop k))/\c.j<=B.j+k/\X (qz c)/\X (Ti wr (w.o.q+1) #[ν,ν] 270)/\X (μ w wr)) (λv9 _=>args.j-(intOf v9).D);exact⟨0,B,C,n,K,A,zs _,rfl,HC,rfl,zf _,hF,aQ,aN⟩;clear HC aQ aN e1 e2;obtain⟨k,c,t,j,m,d,hk,rfl,HC,HW,b1,a4,HZ,T⟩:=hrel;have b0:=T.l.q;have an:=HC.l.box;obtain⟨hc,hf,au⟩:=an.e;obtain⟨ac,af,ah⟩:=HZ.l.e;by_cases a8:k<args.j
 .have bs:(k:Int)<(args.j:Int):=η;have ap:k<row.j:=η;obtain⟨g,rfl,hg,a5⟩:=HA.l _ k a8 T.l;obtain⟨gr,rfl,aM,aK⟩:=HR.l _ k ap T.l;have ht:=aX _ (zq a8);have aU:=M5 (B:=c) a8 ap;have HV:X (∀W,μ wr W->Calls prog 211 #[.agg #[.k t c.j j,.k m c.j d],.d args[k]] W λe w'=>e=ε (.tuple #[.d (yr c args[k]),.i (fe c args[k])])/\X (μ wr w')/\w'.p ⟨g,k,Y⟩=Z (.d args[k])/\w'.p ⟨w.o.q+1+1,0,Y⟩=Z (.k t c.j j)/\w'.p ⟨w.o.q+1+1,1,Y⟩=Z (.k m c.j d)):=λW i=>by
   refine(FJ W _ _ c args[k] (HC.l.sf.u i) (HC.l.ss.u i) η ht).y ?_;rintro e w' ⟨q1,q2⟩;have a2:=Tl i q2.l;have aO:=an.u a2;exact⟨q1,a2,(zi a2 hg a5),by rw[aO.H.1];rfl,by rw[aO.H.1];rfl⟩
  have aV:X (∀W,μ wr W->W.p ⟨g,k,Y⟩=Z (.d args[k])/\g<W.o.q/\W.p ⟨gr,k,Y⟩=Z (.d row[k])/\gr<W.o.q):=λW i=>⟨(zi i hg a5),ym hg i.q,(zi i aM aK),ym aM i.q⟩;have bo:X (∀W,μ w W->W.p ⟨gr,k,Y⟩=Z (.d row[k])/\gr<W.o.q):=λW i=>by
   obtain⟨g',e,q1,q2⟩:=HR.l W k ap i;cases e;exact⟨q2,q1⟩
  have HD:=Th (HW.l.A aU);have aL:=Th (KQ a4.l ht);have bq:=Th (aT _ (zq ap));clear aU HW ht aX an aT hF;generalize fe c args[k]=kn at *;generalize yr c args[k]=x at *;generalize args[k]=y at *;generalize row[k]=z at *;go_upto_region 7 with fail
  go_cut [10,11] from 31 to 39 (λaA a0 wx=>aA=.d x/\a0=.i kn/\X (μ wr wx))
  .go_region_held3 (λw'=>w'.p ⟨g,k,Y⟩=Z (.d y)/\w'.p ⟨w.o.q+1+1,0,Y⟩=Z (.k t c.j j)/\w'.p ⟨w.o.q+1+1,1,Y⟩=Z (.k m c.j d)) (first|go_keep|(go_simp;done)) (first|(go_at_call 211;refine(HV.l _ φ).y ?_;rintro e w5 ⟨rfl,bv,z0,z1,z2⟩))
   go_wp2;go_meet
   exact⟨rfl,rfl,bv⟩
  obtain⟨rfl,rfl,R⟩:=hcut;have bx:=R.l.q;obtain⟨az,be,ab,ay⟩:=aV.l _ R.l;have S:=Th (HZ.l.u R.l);have P:=Th (zT T.l R.l η);have G:=Th (HC.l.u R.l);clear hc hf a5 aK au ac af ah HV aV HC HZ T R;obtain⟨hc,hf,au⟩:=G.l.box.e;obtain⟨ac,af,ah⟩:=S.l.e;by_cases hx:x=ByteArray.empty
  .obtain rfl:kn=false:=by
    cases kn;rfl;exact zC hx (aL.l.1 rfl)
   have bm:X (qz (c++[(y,z)])):=QW a4.l bq.l;have I:X (xG B args row=xG (c++[(y,z)]) (args.drop (k+1)) (row.drop (k+1))):=by rw[X,HD.l,zb hx]
   have D:=G.l.fst;have r:=G.l.snd;clear HD hx;go_upto_region 11 with fail
   go_cut [10,11] from 52 to 60 (λaA a0 wx=>∃o f,aA=.d x/\a0=.i false/\X (Ti wx (w.o.q+1+1) #[.k o (c.j+1) f,.k m c.j d] 270)/\X (wx.r w.o.q 9 1 (.k o (c.j+1) f) (c.j+1) ((xF c).w O.string++[.d y]))/\X (wx.r w.o.q 9 1 (.k m c.j d) c.j ((ul c).w O.string))/\X (∀b,(O.slice o (c.j+1) f).m=Z b->(O.slice m c.j d).m≠Z b)/\X (Ti wx (w.o.q+1) #[ν,ν] 270)/\X (μ w wx))
   .go_region_law (first|(refine m4 wc _ [.d y] 9 rfl (.tmp 53) (.tmp 58) 30 rfl w.o.q 9 i0 _ 1 16 underlying30 hi aF aP aW rfl θ (.k t c.j j) c.j ((xF c).w O.string) (by simp[Act.eval]) D φ wc.o.q 1 (by simp[Act.eval]) (by exact Ti.drew (Ti.new _ _ _)) rfl a_ η η η ?_;intro v' F L s ai bu aI;obtain⟨o,f,rfl⟩:=zr L;have H:=G.l.box.save s (jt D G.l.box θ);obtain⟨aJ,aY,ad⟩:=H.e))
    all_goals
     have ag:=yT r s (λb i E=>G.l.ne b (xb E) i);have a7:=S.l.save s (jt D S.l θ);have a9:=s.u (B:=w.o.q) (λb i=>yW D (xb i)) η;have aa:∀b,(O.slice o (c.j+1) f).m=Z b->(O.slice m c.j d).m≠Z b:=λb i hq=>by
      rcases ai with q|⟨g9,q,q2⟩;exact G.l.ne b (q ▸ i) hq;rw[i] at q;cases q;have:=yF r hq;omega
     have ae:X (Ti (F.x ⟨w.o.q+1+1,0,Y⟩ (.k o (c.j+1) f)) (w.o.q+1+1) #[.k o (c.j+1) f,.k m c.j d] 270):=H.set 0 _;have ar:X ((F.x ⟨w.o.q+1+1,0,Y⟩ (.k o (c.j+1) f)).r w.o.q 9 1 (.k o (c.j+1) f) (c.j+1) ((xF c).w O.string++[.d y])):=yT L (zd.set _ _ _ _) (λb i E=>vN L H θ i (by simpa using E));have aC:X ((F.x ⟨w.o.q+1+1,0,Y⟩ (.k o (c.j+1) f)).r w.o.q 9 1 (.k m c.j d) c.j ((ul c).w O.string)):=yT ag (zd.set _ _ _ _) (λb i E=>vN ag H θ i (by simpa using E));have am:X (Ti (F.x ⟨w.o.q+1+1,0,Y⟩ (.k o (c.j+1) f)) (w.o.q+1) #[ν,ν] 270):=a7.set_ne η 0 _;have aw:X (μ w (F.x ⟨w.o.q+1+1,0,Y⟩ (.k o (c.j+1) f))):=(P.l.A a9).x (p:=⟨w.o.q+1+1,0,Y⟩) (by show w.o.q<=w.o.q+1+1;omega) _;go_wp2;go_meet
     exact⟨o,f,rfl,rfl,ae,ar,aC,aa,am,aw⟩
   obtain⟨o,f,rfl,rfl,ae,ar,aC,aS,am,aw⟩:=hcut;clear hc hf ac af au ah az ab S P G D r be ay;obtain⟨ab,ay⟩:=bo.l _ aw.l;obtain⟨hc,hf,au⟩:=ae.l.e;have r:=aC.l;go_upto_region 12 with fail
   go_region_law (first|(refine m4 wc _ [.d z] 9 rfl (.tmp 62) (.tmp 67) 30 rfl w.o.q 9 i0 _ 1 16 underlying30 hi aF aP aW rfl θ (.k m c.j d) c.j ((ul c).w O.string) (by simp[Act.eval]) r φ wc.o.q 1 (by simp[Act.eval]) (by exact Ti.drew (Ti.new _ _ _)) rfl a_ η η η ?_;intro v' F L s ai bu aI;obtain⟨J,u,rfl⟩:=zr L;have H:=ae.l.save s (jt r ae.l θ);obtain⟨aJ,aY,ad⟩:=H.e))
   all_goals
    have ag:=yT ar.l s (λb i E=>aS.l b i (xb E));have a7:=am.l.save s (jt r am.l θ);have a9:=s.u (B:=w.o.q) (λb i=>yW r (xb i)) η;have aa:∀b,(O.slice o (c.j+1) f).m=Z b->(O.slice J (c.j+1) u).m≠Z b:=λb i hq=>by
     rcases ai with q|⟨g9,q,q2⟩;exact aS.l b i (q ▸ hq);rw[hq] at q;cases q;have:=yF ar.l i;omega
    have bi:X (CR w.o.q (F.x ⟨w.o.q+1+1,1,Y⟩ (.k J (c.j+1) u)) (w.o.q+1+1) (c++[(y,z)]) (.k o (c.j+1) f) (.k J (c.j+1) u)):=by
     refine⟨H.set 1 _,?_,?_,aa⟩;have q:=yT ag (zd.set F (w.o.q+1+1) 1 (.k J (c.j+1) u)) (λb i E=>vN ag H θ i (by simpa using E));rw[yK];simpa [xF] using q;have q:=yT L (zd.set F (w.o.q+1+1) 1 (.k J (c.j+1) u)) (λb i E=>vN L H θ i (by simpa using E));rw[yK];simpa [ul] using q
    have bk:X (Ti (F.x ⟨w.o.q+1+1,1,Y⟩ (.k J (c.j+1) u)) (w.o.q+1) #[ν,ν] 270):=a7.set_ne η 1 _;have bg:X (μ w (F.x ⟨w.o.q+1+1,1,Y⟩ (.k J (c.j+1) u))):=(aw.l.A a9).x (p:=⟨w.o.q+1+1,1,Y⟩) (by show w.o.q<=w.o.q+1+1;omega) _;clear aJ aY;generalize F.x ⟨w.o.q+1+1,1,Y⟩ (.k J (c.j+1) u)=wN at *;go_wp2;go_roundw;exact⟨k+1,c++[(y,z)],o,f,J,u,η,ξ,by rw[yK];exact bi,I,by simp;omega,bm,bk,bg⟩;simp[intOf];omega
  obtain rfl:kn=true:=aL.l.2 hx;by_cases hy:x=z
  .have bn:=jq hy;have I:X (xG B args row=xG c (args.drop (k+1)) (row.drop (k+1))):=by rw[X,HD.l,za hx,zb hy]
   clear HD hx hy;go_wp2;go_roundw;exact⟨k+1,c,t,j,m,d,η,ξ,G,I,η,a4,S,P⟩;simp[intOf];omega
  have bn:=vU hy;have I:X (xG B args row=Y):=by rw[X,HD.l,za hx,za hy]
  clear HD hx hy;go_wp2;have a1:X (μ w ((wc.x ⟨w.o.q+1,0,Y⟩ (.k t c.j j)).x ⟨w.o.q+1,1,Y⟩ (.k m c.j d))):=(P.l.x (p:=⟨w.o.q+1,0,Y⟩) (by show w.o.q<=w.o.q+1;omega) _).x (p:=⟨w.o.q+1,1,Y⟩) (by show w.o.q<=w.o.q+1;omega) _;have N:=(S.l.set 0 (.k t c.j j)).set 1 (.k m c.j d);have n0:=N.H.1 0;have n1:=N.H.1 1;clear hc hf ac af az ab N;generalize (wc.x ⟨w.o.q+1,0,Y⟩ (.k t c.j j)).x ⟨w.o.q+1,1,Y⟩ (.k m c.j d)=wN at *
  (try simp only[Exit.inBlock,Exit.then])
  refine zP (by simp[results,results196,go_sem,n0,n1];try rfl) rfl ?_;refine⟨_,_,_,_,_,_,by rw[I.l];rfl,λB' aj=>(by rw[I.l] at aj;cases aj),?_⟩;exact a1
 have bs:¬(k:Int)<(args.j:Int):=η;have I:X (xG B args row=Z c):=by
  rw[X,HW.l,uk η];rfl
 clear HW;go_wp2;have a1:X (μ w ((wr.x ⟨w.o.q+1,0,Y⟩ (.k t c.j j)).x ⟨w.o.q+1,1,Y⟩ (.k m c.j d))):=(T.l.x (p:=⟨w.o.q+1,0,Y⟩) (by show w.o.q<=w.o.q+1;omega) _).x (p:=⟨w.o.q+1,1,Y⟩) (by show w.o.q<=w.o.q+1;omega) _;have q:∀{v:O} {l:κ} (h:To w.o.q wr v l),To w.o.q ((wr.x ⟨w.o.q+1,0,Y⟩ (.k t c.j j)).x ⟨w.o.q+1,1,Y⟩ (.k m c.j d)) v l:=λh=>yT h ((zd.set wr (w.o.q+1) 0 _).A (zd.set _ (w.o.q+1) 1 _)) (λb i E=>vN h HZ.l θ i (by simpa using E));have q1:=q HC.l.sf;have q2:=q HC.l.ss;have N:=(HZ.l.set 0 (.k t c.j j)).set 1 (.k m c.j d);have n0:=N.H.1 0;have n1:=N.H.1 1;clear hc hf ac af N q an;generalize (wr.x ⟨w.o.q+1,0,Y⟩ (.k t c.j j)).x ⟨w.o.q+1,1,Y⟩ (.k m c.j d)=wN at *
 (try simp only[Exit.inBlock,Exit.then])
 refine zP (by simp[results,results196,go_sem,n0,n1];try rfl) rfl ?_;refine⟨_,_,_,_,_,_,by rw[I.l];rfl,λB' aj=>?_,?_⟩;rw[I.l] at aj;cases aj;exact⟨q1,q2,η⟩;exact a1
end
section
open Go.Proofs.Tryz
variable {z:Nat->Prop}{l:κ}
def Ul(z:Nat->Prop)(n:Nat):Prop:=∀b,z b->b<n
def Ul.up{n m:Nat}(h:Ul z n)(a:n<=m):Ul z m:=λb q=>ym (h b q) a
def Ut(z:Nat->Prop)(w:U)(v:O)(l:κ):Prop:=To 0 w v l/\∀b,v.m=Z b->¬z b
def Ut.u{w w':U}{v:O}{l:κ}(h:Ut z w v l)(a:μ w w'):Ut z w' v l:=⟨h.1.u a,h.2⟩
def Ut.saveT{w w':U}{v:O}{M:Φ}{T:TypeId}(h:Ut z w v l)(hs:zd M w w')(a:T3 w T M)(b:9≠T):Ut z w' v l:=⟨yL h.1 hs a b,h.2⟩
def Ut.of{lo:Nat}{w:U}{v:O}(h:To lo w v l)(a:Ul z lo):Ut z w v l:=⟨yo h (zs _),λb e q=>by have:=yW h e;have:=a b q;omega⟩
def Td:(prog.info? 30).w (λi=>(i.zero,i.q,i.bytes))=Z (Z (ν),1,24):=χ
structure Vk (z:Nat->Prop) (w:U) (gb go:Nat) (c:zc):Prop where
 lt:gb<w.o.q
 o:w.p ⟨gb,go+1,Y⟩=Z (.d c.g.o)
 k:∃av,w.p ⟨gb,go+2,Y⟩=Z av/\Ut z w av c.g.k
 d:∃ao cap,w.p ⟨gb,go+3,Y⟩=Z (.k ao c.d.j cap)/\∀j (h:j<c.d.j),∃g,ao=Z ⟨g,0,Y⟩/\g<w.o.q/\w.p ⟨g,j*3,Y⟩=Z (.i c.d[j].i)/\w.p ⟨g,j*3+1,Y⟩=Z (.d c.d[j].o)/\∃av,w.p ⟨g,j*3+2,Y⟩=Z av/\To 0 w av c.d[j].k
def Vk.u{w w':U}{k i:Nat}{c:zc}(h:Vk z w k i c)(a:μ w w'):Vk z w' k i c:=by
 obtain⟨d,x,⟨f,v,y⟩,s,e,r,p⟩:=h;refine⟨ym d a.q,(zi a d x),⟨f,(zi a d v),y.u a⟩,s,e,(zi a d r),λj t=>?_⟩;obtain⟨g,m,b,o,q,f,n,u⟩:=p j t;exact⟨g,m,ym b a.q,(zi a b o),(zi a b q),f,(zi a b n),u.u a⟩
structure me (z:Nat->Prop) (w:U) (mb rd gb go:Nat) (fv vv lv:O) (c:zc) (fs:List z9) (B:y9):Prop where
 model:Ti w mb #[fv,ι rd] 54
 facts:po w fv fs
 cl:Vk z w gb go c
 fst:To 0 w vv (xF B)
 snd:To 0 w lv (ul B)
 hz:Ul z w.o.q
def me.u{w w':U}{b e g f:Nat}{d j i:O}{c:zc}{fs:Θ}{B:y9}(h:me z w b e g f d j i c fs B)(a:μ w w'):me z w' b e g f d j i c fs B:=⟨h.model.u a,h.facts.u a,h.cl.u a,h.fst.u a,h.snd.u a,h.hz.up a.q⟩
def xE(z:Nat->Prop)(lo:Nat)(w:U)(v:O)(a:List (κ)):Prop:=∃b:List O,b.j=a.j/\w.r lo 30 1 v a.j b/\∀i (h:i<a.j) (c:i<b.j),Ut z w b[i] a[i]
def xE.nil(lo:Nat)(w:U):xE z lo w (ν) []:=⟨[],rfl,xo _ _ _ _,λi h=>by cases h⟩
def xE.u{lo:Nat}{w w':U}{v:O}{c:List (κ)}(h:xE z lo w v c)(e:μ w w'):xE z lo w' v c:=by
 obtain⟨d,f,j,g⟩:=h;exact⟨d,f,zy j e,λi a b=>(g i a b).u e⟩
def Mf(w:U)(mb rd C L:Nat)(fv r s:O)(c:zc)(fs:Θ)(B:y9)(hI:me z w mb rd C L fv r s c fs B)(aP:c.d.j<=100)(aK:B.j<=100)(S:∀l∈zm c,l.k.j<=100/\∀a∈l.k,0<a.q)(a9:fs.j<=10000000)(ay:∀f∈fs,f.2.1.j<=1000000):
  Calls prog 166 #[(π mb),.u (Z ⟨C,L,Y⟩),ι c.d.j,.agg #[r,s]] w λe d=>∃v,e=.returned v/\X (xE z w.o.q d v (yu fs c.g c.d [] B))/\X (μ w d):=by
 obtain⟨i0,hi,a2,aA,aD⟩:=info_parts Td;obtain⟨ao,P,ap,_⟩:=hI.cl.d;have y:=Th λW (i:μ w W)=>hI.u i;have A:X (∀W,μ w W->W.p ⟨C,L+3,Y⟩=Z (.k ao c.d.j P)/\C<W.o.q):=λW i=>⟨(i.cell (p:=⟨C,L+3,Y⟩) hI.cl.lt).A ap,(hI.u i).cl.lt⟩;have ak:X (∀W j (t:j<c.d.j),μ w W->∃g,ao=Z ⟨g,0,Y⟩/\g<W.o.q/\W.p ⟨g,j*3,Y⟩=Z (.i c.d[j].i)/\W.p ⟨g,j*3+1,Y⟩=Z (.d c.d[j].o)/\∃n,W.p ⟨g,j*3+2,Y⟩=Z n/\To 0 W n c.d[j].k):=λW j t i=>by
  obtain⟨aM,aI,K,q2⟩:=(hI.u i).cl.d;rw[(A.l W i).1] at K;cases K;exact q2 j t
 have ab:X (∀W (l:zj) n,l∈zm c->μ w W->To 0 W n l.k->Calls prog 195 #[.agg #[r,s],n] W λe d=>∃v,e=.returned v/\X (To W.o.q d v (yI B l.k))/\X (μ W d)):=λW l n hl i ha=>Ls W r s n B l.k (y.l W i).fst (y.l W i).snd ha η (by have:=(S _ hl).1;omega) (S _ hl).2;have ae:X (∀W j (t:j<c.d.j) rv ax,μ w W->To ax W rv (yI B c.d[j].k)->Calls prog 45 #[(π mb),.d c.d[j].o,rv] W λe d=>e=ε (ι (kg c.d[j].o (yI B c.d[j].k) fs))/\μ W d):=λW j t rv ax i hr=>AF W mb rd fv fs _ rv _ (y.l W i).model (y.l W i).facts hr a9 (by have:=(S c.d[j] (by simp[zm])).1;simp[yI];omega) ay;have G:X (∀k (hk:k<c.d.j),c.d[k].i=true->(yP c.d[k].o (yI B c.d[k].k) fs).I=true->yu fs c.g c.d [] B=[]):=λk hk hn hs=>by
  unfold yu;rw[zb];rw[fg];exact⟨c.d[k],zq _,by rw[hn,hs];rfl⟩
 have J:X ((∀k (hk:k<c.d.j),¬(c.d[k].i=true/\(yP c.d[k].o (yI B c.d[k].k) fs).I=true))->yu fs c.g c.d [] B=[yI B c.g.k]):=λq=>by
  unfold yu;rw[za];intro hq;rw[fg] at hq;obtain⟨l,hl,hq⟩:=hq;obtain⟨j,t,rfl⟩:=vh hl;rw[uI] at hq;exact q j t hq
 have a8:X (∀W,μ w W->∃n,W.p ⟨C,L+2,Y⟩=Z n/\To 0 W n c.g.k):=λW i=>by
  obtain⟨n,K,q2⟩:=(y.l W i).cl.k;exact⟨n,K,q2.1⟩
 have hz:=hI.hz;obtain⟨R,o⟩:=A.l w (zn _ _);clear hI y S ay ap;generalize yu fs c.g c.d [] B=aO at *;go_enter func166,ntmps166;go_upto_region 2 with fail
 have aw:X (μ w (w.C (.E #[r,s] 270))):=(zn _ _).C (zf _) _;have ah:X (∀W,Below (w.C (.E #[r,s] 270)).o.q (w.C (.E #[r,s] 270)) W->W.p ⟨w.o.q,0,Y⟩=Z r/\W.p ⟨w.o.q,1,Y⟩=Z s/\w.o.q<W.o.q):=λW i=>by
  have q:=(Ti.new w #[r,s] 270).u i;exact⟨by rw[q.H.1];rfl,by rw[q.H.1];rfl,q.lt⟩
 clear R o;obtain⟨R,o⟩:=A.l _ aw.l;generalize a3:w.C (.E #[r,s] 270)=wA at *;clear a3;go_wp2;clear R o;go_loopw [10,11,12] (λai _ _ wr=>∃k:Nat,k<=c.d.j/\ai=ι k/\X (∀j (t:j<c.d.j),j<k->¬(c.d[j].i=true/\(yP c.d[j].o (yI B c.d[j].k) fs).I=true))/\X (μ wA wr)) (λai _ _ _=>c.d.j-(intOf ai).D);exact⟨0,η,rfl,λj t h2=>η,zn _ _⟩;obtain⟨k,hk,rfl,HN,F⟩:=hrel;have u:=Th (Tl aw.l F.l);obtain⟨R,o⟩:=A.l _ u.l;obtain⟨b0,b1,a0⟩:=ah.l _ F.l;by_cases I:k<c.d.j
 .have aF:(k:Int)<(c.d.j:Int):=η;obtain⟨g,rfl,hg,_,_,n,c2,D⟩:=ak.l _ k I u.l;have E:X (∀W,μ wr W->Calls prog 195 #[.agg #[r,s],n] W λe d=>∃v,e=.returned v/\X (To w.o.q d v (yI B c.d[k].k))/\X (μ wr d)/\d.p ⟨g,k*3+2,Y⟩=Z n/\d.p ⟨w.o.q,0,Y⟩=Z r/\d.p ⟨w.o.q,1,Y⟩=Z s/\d.p ⟨C,L+3,Y⟩=Z (.k (Z ⟨g,0,Y⟩) c.d.j P)):=λW i=>by
   have H:=Tl u.l i;refine(ab.l W c.d[k] n (by simp[zm]) H (D.u i)).y ?_;rintro e d ⟨v,K,q2,q3⟩;have m:=Tl i q3.l;obtain⟨b0,b1,_⟩:=ah.l d (Tl F.l m);exact⟨v,K,yo q2.l H.q,m,(zi m hg c2),b0,b1,(zi m o R)⟩
  clear D;go_upto_region 6 with fail
  go_cut [11] from 34 to 43 (λa4 wx=>∃v,a4=v/\X (To w.o.q wx v (yI B c.d[k].k))/\X (μ wr wx))
  .go_region_held3 (λd=>d.p ⟨g,k*3+2,Y⟩=Z n/\d.p ⟨w.o.q,0,Y⟩=Z r/\d.p ⟨w.o.q,1,Y⟩=Z s/\d.p ⟨C,L+3,Y⟩=Z (.k (Z ⟨g,0,Y⟩) c.d.j P)) (first|go_keep|(go_simp;done)) (first|(go_at_call 195;refine(E.l _ φ).y ?_;rintro e w5 ⟨v5,rfl,ag,al,z0,z1,z2,z3⟩))
   go_wp2;go_meet
   exact⟨_,rfl,ag,al⟩
  obtain⟨an,aa,M,N⟩:=hcut;obtain rfl:=aa.z;clear aa c2 hg b0 b1 a0 E R o;have h:=Th (Tl u.l N.l);have az:=Th (Tl F.l N.l);obtain⟨R,o⟩:=A.l _ h.l;obtain⟨g',e',hg,_,c1,_⟩:=ak.l _ k I h.l;cases e';have V:X (Calls prog 45 #[(π mb),.d c.d[k].o,an] wc λe d=>e=ε (ι (kg c.d[k].o (yI B c.d[k].k) fs))/\X (μ wc d)/\g<d.o.q/\d.p ⟨g,k*3,Y⟩=Z (.i c.d[k].i)/\d.p ⟨C,L+3,Y⟩=Z (.k (Z ⟨g,0,Y⟩) c.d.j P)/\C<d.o.q):=by
   refine(ae.l wc k I an _ h.l M.l).y ?_;rintro e d ⟨K,q3⟩;have m:=Tl h.l q3;obtain⟨g',e',y1,y2,_⟩:=ak.l _ k I m;cases e';exact⟨K,q3,y1,y2,A.l _ m⟩
  have a1:X (¬(c.d[k].i=true/\(yP c.d[k].o (yI B c.d[k].k) fs).I=true)->∀j (t:j<c.d.j),j<k+1->¬(c.d[j].i=true/\(yP c.d[j].o (yI B c.d[j].k) fs).I=true)):=λq j t h2=>by
   by_cases a6:j=k;subst a6;exact q;exact HN.l j t η
  have aB:=Th (G.l k I);have T:X ((yP c.d[k].o (yI B c.d[k].k) fs).I=true↔0<=kg c.d[k].o (yI B c.d[k].k) fs):=by
   unfold X kg;rcases yP c.d[k].o (yI B c.d[k].k) fs with _|z;simp;simp
  generalize kg c.d[k].o (yI B c.d[k].k) fs=fi at *;generalize (yP c.d[k].o (yI B c.d[k].k) fs).I=fb at *;generalize c.d[k].o=pr at *;generalize c.d[k].i=ng at *;go_upto_region 8 with (first|(go_at_call 45;refine V.l.y ?_;rintro e w6 ⟨rfl,ar,aL,z0,z3,aH⟩))
  have av:=Th (Tl h.l ar.l);have ac:=Th (Tl az.l ar.l);clear V c1 R hg o;cases ng
  .have aj:=Th (a1.l ζ);go_wp2;go_roundw;exact⟨k+1,η,ξ,aj,ac⟩;simp[intOf];omega
  by_cases au:0<=fi
  .have HR:=Th (aB.l rfl (T.l.2 au));go_wp2;go_ret;exact⟨_,rfl,by rw[X,HR.l];exact xE.nil _ _,av⟩
  have aj:=Th (a1.l (λq=>au (T.l.1 q.2)));go_wp2;go_roundw;exact⟨k+1,η,ξ,aj,ac⟩;simp[intOf];omega
 have aF:¬(k:Int)<(c.d.j:Int):=η;have af:=Th (J.l λj t=>HN.l j t η);clear HN J G;obtain⟨n,c2,D⟩:=a8.l _ u.l;have E:X (∀W,μ wr W->Calls prog 195 #[.agg #[r,s],n] W λe d=>∃v,e=.returned v/\X (To w.o.q d v (yI B c.g.k))/\X (μ wr d)/\d.p ⟨C,L+2,Y⟩=Z n/\d.p ⟨w.o.q,0,Y⟩=Z r/\d.p ⟨w.o.q,1,Y⟩=Z s):=λW i=>by
  have H:=Tl u.l i;refine(ab.l W c.g n (by simp[zm]) H (D.u i)).y ?_;rintro e d ⟨v,K,q2,q3⟩;have m:=Tl i q3.l;obtain⟨b0,b1,_⟩:=ah.l d (Tl F.l m);exact⟨v,K,yo q2.l H.q,m,(zi m o c2),b0,b1⟩
 clear D;go_upto_region 10 with fail
 go_cut [13] from 67 to 73 (λaC wx=>∃v,aC=v/\X (To w.o.q wx v (yI B c.g.k))/\X (μ wr wx))
 .go_region_held3 (λd=>d.p ⟨C,L+2,Y⟩=Z n/\d.p ⟨w.o.q,0,Y⟩=Z r/\d.p ⟨w.o.q,1,Y⟩=Z s) (first|go_keep|(go_simp;done)) (first|(go_at_call 195;refine(E.l _ φ).y ?_;rintro e w5 ⟨v5,rfl,ag,al,z0,z1,z2⟩))
  go_wp2;go_meet
  exact⟨_,rfl,ag,al⟩
 obtain⟨aN,x,M,N⟩:=hcut;obtain rfl:=x.z;clear x c2 b0 b1 a0 E R o;have h:=Th (Tl u.l N.l);obtain⟨aq,ad,x⟩:=M.l.qy;subst x;have aJ:=h.l.q;generalize (yI B c.g.k).j=rl at *;go_wp2_with (at_builtin;refine gz wc _ _ _ rfl (.tmp 74) (.tmp 76) 31 rfl w.o.q 30 i0 _ 1 24 underlying31 hi a2 aA aD rfl θ _ 0 [] rfl (xo _ _ _ _) (zn _ _) _ _ rfl ζ rfl a_ η η η ?_;intro v' w2 a7 Q a5 aE aG am;clear a5 aE)
 go_ret;have hS:zd [] wc w2:=⟨Q.os,Q.tape,Q.output,am,λj t _=>aG j t (show Z j≠Y from Option.some_ne_none j)⟩;refine⟨_,rfl,⟨[.k aq rl ad],by rw[af.l];rfl,by rw[af.l];exact a7,λj h1 h2=>?_⟩,h.l.A Q⟩;obtain rfl:j=0:=by simp at h2;exact h2
 have q:=Ut.of (yT M.l hS (λb _ hm=>by cases hm)) hz;simp only[af.l,gQ];exact q
end
section
open Go.Proofs.Tryz
variable {z:Nat->Prop}{o1 o2:Option Addr}{wo:Option y9}
section
variable {ops:Array Oper} {rest:List Oper} {o:Oper} {a:Act} {Q:Exit->Act->U->Prop}
def xE.saveT{lo:Nat}{w w':U}{v:O}{c:List (κ)}{M:Φ}{T:TypeId}(h:xE z lo w v c)(hs:zd M w w')(e:T3 w T M)(f:30≠T)(l:9≠T):xE z lo w' v c:=by
 obtain⟨d,g,j,k⟩:=h;exact⟨d,g,yL j hs e f,λi a b=>(k i a b).saveT hs e l⟩
def IB{lo D:Nat}{w:U}(g:o.guard=Y)(s x:Operand)
  (M:o.op=.call {callee:=.builtin .append,args:=#[s,x],argTypes:=#[31,31]})
  (p f:List (κ)) (q K:O) (L:a.eval s=q) (V:a.eval x=K) (h1:xE z lo w q p) (h2:xE z D w K f) (hl:p.j+f.j<=1000000000000) (t:lo<=w.o.q)
  (h:∀F J,xE z lo J F (p++f)->zd q.m.v w J->wpList prog ops Q rest (a.put o.dst F) J):
  wpList prog ops Q (o::rest) a w:=by
 obtain⟨N,R,v,E,G⟩:=info_parts Td;obtain⟨n,H,m,T⟩:=h1;obtain⟨b,b1,b2,S⟩:=h2;have l:∀u∈b,u.oneCell'=true:=by
  intro u hu;obtain⟨j,d,rfl⟩:=vQ.1 hu;obtain⟨ao,ac,e⟩:=(S j η d).1.qy;rw[e];simp[O.oneCell']
 obtain⟨_,⟨B,hn⟩|⟨P,i,ae,B,af,hh,ad,ab,aa,A⟩⟩:=id b2;have C:f=[]:=lI hn;refine wpList_append_own_none g s x 31 M lo 30 N 1 underlying31 R _ _ _ L m (by rw[V,B]) ?_;refine h _ _ ?_ (zd.refl _ _);rw[C,qn];exact⟨n,H,m,T⟩;have r:∀j u,b[j]?=Z u->w.p (Addr.add (δ P) j)=Z u:=λj u d=>by
  rw[Addr.add_lit,vJ];unfold U.cell?;rw[hh];simp only;rw[←A,nf] at d;split at d;simpa using d;simp at d
 refine wpList_append_own _ g s x 31 M lo 30 N _ 1 24 underlying31 R v E G rfl θ _ _ _ L m (δ P) f.j i b (by rw[V,B]) η r l b_ η t ?_;intro F w2 y c _;have I:zd q.m.v w w2:=⟨c.os,c.tape,c.output,c.q,λk hk hm=>c.block k hk λe=>hm (by rw[←e];simp)⟩;refine h _ _ ⟨n++b,by simp[H,b1],by rw[yK];exact y,λj W q2=>?_⟩ I;by_cases d:j<p.j;rw[uG η,uG d];exact(T j d η).saveT I (T3.own m) θ;rw[lW η,lW η];simp only[H];simp only[yK] at W q2;exact(S _ η η).saveT I (T3.own m) θ
end
def l7(fs:List z9)(h:zj)(body rest:List zj)(l:zj)(B:y9)(f:z9):List (κ):=if f.1=l.o then(match xG B l.k f.2.1 with|none=>[]|some b=>yu fs h body rest b) else []
def Qe{fs:Θ}{h:zj}{body rest:Ω}{l:zj}{B:y9}(b:l.i=false):yu fs h body (l::rest) B=fs.flatMap (l7 fs h body rest l B):=by
 unfold yu;rw[za (by simp[b])];rfl
def LM{α β:Type}(f:α->List β)(l:List α){i:Nat}(b:i<l.j):(l.G (i+1)).flatMap f=(l.G i).flatMap f++f l[i]:=by
 rw[yN b,List.flatMap_append];simp
def QL{α β:Type}(f:α->List β)(l:List α)(i:Nat):((l.G i).flatMap f).j<=(l.flatMap f).j:=by
 conv=>rhs;rw[←jQ i l]
 rw[List.flatMap_append,yK];omega
def UD(e w:U)(m:Nat)(wo:Option y9)(s:O):Prop:=∃(d h g:Nat) (o1:Option Addr) (f c:Nat) (o2:Option Addr),s=(π d)/\X (∀b,wo=Z b->To 0 w (.k o1 h g) (xF b)/\To 0 w (.k o2 f c) (ul b)/\b.j<=m)/\X (Ti w d #[.k o1 h g,.k o2 f c] 270)/\X (μ e w)
def UD.one{i w5:U}{m g f d c:Nat}(k:μ i w5)(h:∀b,wo=Z b->To 0 w5 (.k o1 g f) (xF b)/\To 0 w5 (.k o2 d c) (ul b)/\b.j<=m):UD i (w5.C (.E #[.k o1 g f,.k o2 d c] 270)) m wo (.u (Z (δ w5.o.q))):=by
 have j:μ w5 (w5.C (.E #[.k o1 g f,.k o2 d c] 270)):=(zn _ _).C (zf _) _;exact⟨_,g,f,o1,d,c,o2,rfl,λb e=>⟨(h b e).1.u j,(h b e).2.1.u j,(h b e).2.2⟩,Ti.new w5 _ _,Tl k j⟩
def UD.two{k w5:U}{m j i f d c:Nat}{w t:O}(g:k.o.q<=c)(u:μ k w5)(p:Ti w5 c #[w,t] 270)(h:∀b,wo=Z b->To 0 w5 (.k o1 j i) (xF b)/\To 0 w5 (.k o2 f d) (ul b)/\b.j<=m):UD k ((w5.x (δ c) (.k o1 j i)).x (ω c 1) (.k o2 f d)) m wo ((π c)):=by
 have r:=p.set 0 (.k o1 j i);have s:=r.set 1 (.k o2 f d);have n:∀v l,To 0 w5 v l->To 0 ((w5.x (δ c) (.k o1 j i)).x (ω c 1) (.k o2 f d)) v l:=λv l q=>yL (yL q (zd.set _ _ _ _) (T3.box p) θ) (zd.set _ _ _ _) (T3.box r) θ;exact⟨c,j,i,o1,f,d,o2,rfl,λb e=>⟨n _ _ (h b e).1,n _ _ (h b e).2.1,(h b e).2.2⟩,show Ti _ _ _ _ by simpa using s,(u.x g _).x g _⟩
def NG(w:U)(y M A u:Nat)(K j m:O)(c:zc)(fs:Θ)(B:y9)(l:zj)(rest:Ω)(k:Nat)(x:me z w y M A u K j m c fs B)(ae:c.d.j<=30)(F:k<c.d.j)(r:c.d[k]=l)(ac:B.j<=3*k)(P:qz B)(J:l.i=true)(h:(yu fs c.g c.d (l::rest) B).j<=1000000000000)(d:X (∀W p n (q:y9),q.j<=3*(k+1)->qz q->(yu fs c.g c.d rest q).j<=1000000000000->me z W y M A u K p n c fs q->Calls prog 166 #[(π y),.u (Z (ω A u)),ι ((k:Int)+1),.agg #[p,n]] W λe t=>∃v,e=.returned v/\X (xE z W.o.q t v (yu fs c.g c.d rest q))/\X (μ W t))):
  Calls prog 166 #[(π y),.u (Z (ω A u)),ι k,.agg #[j,m]] w λe t=>∃v,e=.returned v/\X (xE z w.o.q t v (yu fs c.g c.d (l::rest) B))/\X (μ w t):=by
 have f:X (yu fs c.g c.d (l::rest) B=yu fs c.g c.d rest B):=by
  unfold X;rw[yu,zb J]
 rw[f.l] at h;have i:X (μ w (w.C (.E #[j,m] 270))):=(zn _ _).C (zf _) _;have H:=Th (x.u i.l);obtain⟨ao,V,c3,N⟩:=H.l.cl.d;obtain⟨g,rfl,hg,c0,_⟩:=N k F;rw[r,J] at c0;have ab:=H.l.cl.lt;have b:=Ti.new w #[j,m] 270;have b0:=b.H.1 0;have b1:=b.H.1 1;have ad:=b.lt;have C:=Th (d.l _ j m B η P h H.l);obtain⟨_,_,d3,_⟩:=x.cl.d;have s:=x.cl.lt;have L:((k:Int) == (c.d.j:Int))=false:=by simp;omega
 have T:(k:Int)<(c.d.j:Int):=η;generalize yu fs c.g c.d (l::rest) B=aa at *;clear x N b P h d r J;go_enter func166,ntmps166;go_upto_region 2 with fail
 generalize E:w.C (.E #[j,m] 270)=wA at *;clear E d3 s;go_wp2_with (go_at_call 166;refine C.l.y ?_;rintro e w1 ⟨v1,rfl,D,G⟩)
 go_ret;obtain⟨I,R,q2,S⟩:=D.l;exact⟨_,rfl,by rw[X,f.l];exact⟨I,R,yo q2 i.l.q,S⟩,Tl i.l G.l⟩
def NB(w:U)(mb rd gb go:Nat)(fv E F:O)(c:zc)(fs:Θ)(B:y9)(l:zj)(rest:Ω)(k:Nat)(hI:me z w mb rd gb go fv E F c fs B)(bu:c.d.j<=30)(ag:l.k.j<=3/\∀a∈l.k,0<a.q)(br:fs.j<=10000000)(aq:∀f∈fs,f.1=l.o->f.2.1.j=l.k.j)(an:∀f∈fs,∀x∈f.2.1,x≠ByteArray.empty)(ba:k<c.d.j)(aA:c.d[k]=l)(bq:B.j<=3*k)(hF:qz B)(hn:l.i=false)(ar:(yu fs c.g c.d (l::rest) B).j<=1000000000000)(a5:X (∀W aE aK (d:y9),d.j<=3*(k+1)->qz d->(yu fs c.g c.d rest d).j<=1000000000000->me z W mb rd gb go fv aE aK c fs d->Calls prog 166 #[(π mb),.u (Z ⟨gb,go,Y⟩),ι ((k:Int)+1),.agg #[aE,aK]] W λe j=>∃v,e=.returned v/\X (xE z W.o.q j v (yu fs c.g c.d rest d))/\X (μ W j))):
  Calls prog 166 #[(π mb),.u (Z ⟨gb,go,Y⟩),ι k,.agg #[E,F]] w λe j=>∃v,e=.returned v/\X (xE z w.o.q j v (yu fs c.g c.d (l::rest) B))/\X (μ w j):=by
 obtain⟨ao,aw,rfl,_⟩:=id hI.facts;obtain⟨aI,T,a4,_⟩:=hI.cl.d;have t:=Qe (fs:=fs) (h:=c.g) (body:=c.d) (rest:=rest) (B:=B) hn;rw[t] at ar;have aM:=Th t;have ap:=Th λW (m:μ w W)=>hI.u m;have P:X (∀W,μ w W->W.p ⟨gb,go+3,Y⟩=Z (.k aI c.d.j T)/\gb<W.o.q):=λW m=>⟨(m.cell (p:=⟨gb,go+3,Y⟩) hI.cl.lt).A a4,(hI.u m).cl.lt⟩;have aN:X (∀W,μ w W->∃g,aI=Z ⟨g,0,Y⟩/\g<W.o.q/\W.p ⟨g,k*3,Y⟩=Z (.i false)/\W.p ⟨g,k*3+1,Y⟩=Z (.d l.o)/\∃G,W.p ⟨g,k*3+2,Y⟩=Z G/\To 0 W G l.k):=λW m=>by
  obtain⟨aW,aG,D,q2⟩:=(hI.u m).cl.d;rw[(P.l W m).1] at D;cases D;have:=q2 k ba;rw[aA,hn] at this;exact this
 have a1:X (∀W,μ w W->W.p ⟨mb,0,Y⟩=Z (.k ao fs.j aw)/\mb<W.o.q):=λW m=>⟨by rw[(hI.u m).model.H.1];rfl,(hI.u m).model.lt⟩;have bg:X (∀W i (N:i<fs.j),μ w W->∃I u,ao=Z ⟨I,0,Y⟩/\I<W.o.q/\W.p ⟨I,i*3,Y⟩=Z (.d fs[i].1)/\W.p ⟨I,i*3+1,Y⟩=Z u/\∃lo,To lo W u fs[i].2.1):=λW i N m=>by
  obtain⟨aW,aG,e,q⟩:=(hI.u m).facts;cases e;obtain⟨I,u,lo,r1,r2,r3,r4,_,r6⟩:=q i N;exact⟨I,u,r1,r2,r3,r4,lo,r6⟩
 have M:X (∀W i (N:i<fs.j) G u K,fs[i].1=l.o->μ w W->To 0 W G l.k->To K W u fs[i].2.1->Calls prog 196 #[.agg #[E,F],G,u] W λe j=>∃(H c1:Nat) (o1:Option Addr) (J c2:Nat) (o2:Option Addr),e=ε (.tuple #[.agg #[.k o1 H c1,.k o2 J c2],.i (xG B l.k fs[i].2.1).I])/\X (∀d,xG B l.k fs[i].2.1=Z d->To 0 j (.k o1 H c1) (xF d)/\To 0 j (.k o2 J c2) (ul d)/\d.j<=3*(k+1))/\X (μ W j)):=λW i N G u K hp m ha hr=>by
  refine(KK W E F G u B l.k fs[i].2.1 (ap.l W m).fst (ap.l W m).snd ha hr η η (aq _ (zq N) hp) ag.2 hF (an _ (zq N))).y ?_;rintro e j ⟨H,c1,o1,J,c2,o2,D,q2,q3⟩;refine⟨H,c1,o1,J,c2,o2,D,λd bi=>?_,q3⟩;obtain⟨r1,r2,r3⟩:=q2.l d bi;exact⟨yo r1 (zs _),yo r2 (zs _),by have:=ag.1;omega⟩
 have aj:X (∀i (N:i<fs.j) d,fs[i].1=l.o->xG B l.k fs[i].2.1=Z d->qz d):=λi N d hp hq=>(sw l.k fs[i].2.1 B d (aq _ (zq N) hp).z (an _ (zq N)) (λa ha e=>by have:=ag.2 a ha;rw[e] at this;exact zC this θ) hF hq).1;have aQ:=Th ar;obtain⟨c3,r⟩:=P.l w (zn _ _);have bn:((k:Int) == (c.d.j:Int))=false:=by simp;omega
 have bt:(k:Int)<(c.d.j:Int):=η;clear hI ag aq an a4 t ar hF hn aA;generalize yu fs c.g c.d (l::rest) B=bs at *;go_enter func166,ntmps166;go_upto_region 2 with fail
 have af:X (μ w (w.C (.E #[E,F] 270))):=(zn _ _).C (zf _) _;have aX:X (∀W,Below (w.C (.E #[E,F] 270)).o.q (w.C (.E #[E,F] 270)) W->W.p ⟨w.o.q,0,Y⟩=Z E/\W.p ⟨w.o.q,1,Y⟩=Z F/\w.o.q<W.o.q):=λW m=>by
  have q:=(Ti.new w #[E,F] 270).u m;exact⟨by rw[q.H.1];rfl,by rw[q.H.1];rfl,q.lt⟩
 clear c3 r;obtain⟨c3,r⟩:=P.l _ af.l;obtain⟨g,rfl,hg,c0,_⟩:=aN.l _ af.l;generalize aR:w.C (.E #[E,F] 270)=wA at *;clear aR;go_wp2;clear c3 r c0 hg;go_loopw [9,14,15,16,17] (λv9 am _ _ _ wr=>∃i:Nat,i<=fs.j/\am=ι i/\X (xE z wA.o.q wr v9 ((fs.G i).flatMap (l7 fs c.g c.d rest l B)))/\X (μ wA wr)) (λ_ am _ _ _ _=>fs.j-(intOf am).D);exact⟨0,zs _,rfl,xE.nil _ _,zn _ _⟩;obtain⟨i,N,rfl,ad,ae⟩:=hrel;have A:=Th (Tl af.l ae.l);obtain⟨m0,ac⟩:=a1.l _ A.l;by_cases aa:i<fs.j
 .have be:(i:Int)<(fs.j:Int):=η;have L:X ((fs.G (i+1)).flatMap (l7 fs c.g c.d rest l B)=(fs.G i).flatMap (l7 fs c.g c.d rest l B)++l7 fs c.g c.d rest l B fs[i]):=LM _ _ aa;have bd:X (((fs.G (i+1)).flatMap (l7 fs c.g c.d rest l B)).j<=1000000000000):=zY (QL _ _ _) aQ.l;obtain⟨I,u,rfl,ay,f0,f1,K,ax⟩:=bg.l _ i aa A.l;obtain⟨g',e',hg,_,c1,G,c2,av⟩:=aN.l _ A.l;cases e';obtain⟨c3,r⟩:=P.l _ A.l;by_cases he:fs[i].1=l.o
  .have aS:=jq he;have C:X (l7 fs c.g c.d rest l B fs[i]=(match xG B l.k fs[i].2.1 with|none=>[]|some d=>yu fs c.g c.d rest d)):=zb he;have a3:=Th λW G u K D q2 q3=>M.l W i aa G u K he D q2 q3;have bb:=Th λd q=>aj.l i aa d he q;generalize l7 fs c.g c.d rest l B fs[i]=sn at *;clear he M aj;generalize fs[i].1=x at *;generalize fs[i].2.1=rw at *;go_upto_region 17 with fail
   go_quiet (fail)
   have a7:=Th (ad.l.u (mE wr nq));have az:=Th (zI ae.l nq);have n:=Th (zI A.l nq);have ak:=ax.u (mE wr nq);have ai:=av.u (mE wr nq);have aJ:=((mE wr nq).cell (p:=⟨I,i*3+1,Y⟩) ay).A f1;have aH:=((mE wr nq).cell (p:=⟨g,k*3+2,Y⟩) hg).A c2;have ah:=ym ay (mE wr nq).q;have aO:=ym hg (mE wr nq).q;clear m0 ac ay f0 f1 ax hg c1 c2 av c3 r ad ae A;generalize wr.drewN nq=wq at *;obtain⟨m0,ac⟩:=a1.l _ n.l;obtain⟨c3,r⟩:=P.l _ n.l;obtain⟨b0,b1,a0⟩:=aX.l _ az.l;have aC:X (∀W,μ wq W->Calls prog 196 #[.agg #[E,F],G,u] W λe j=>∃(H c1:Nat) (o1:Option Addr) (J c2:Nat) (o2:Option Addr),e=ε (.tuple #[.agg #[.k o1 H c1,.k o2 J c2],.i (xG B l.k rw).I])/\X (∀d,xG B l.k rw=Z d->To 0 j (.k o1 H c1) (xF d)/\To 0 j (.k o2 J c2) (ul d)/\d.j<=3*(k+1))/\X (μ wq j)/\X (μ W j)/\j.p ⟨g,k*3+2,Y⟩=Z G/\j.p ⟨w.o.q,0,Y⟩=Z E/\j.p ⟨w.o.q,1,Y⟩=Z F/\j.p ⟨mb,0,Y⟩=Z (.k (Z ⟨I,0,Y⟩) fs.j aw)/\j.p ⟨I,i*3+1,Y⟩=Z u/\j.p ⟨gb,go+3,Y⟩=Z (.k (Z ⟨g,0,Y⟩) c.d.j T)):=λW m=>by
    refine(a3.l W _ _ _ (Tl n.l m) (ai.u m) (ak.u m)).y ?_;rintro e j ⟨H,m1,o1,J,m2,o2,D,q2,q3⟩;have s:=Tl m q3.l;exact⟨H,m1,o1,J,m2,o2,D,q2,s,q3,(zi s aO aH),(zi s a0 b0),(zi s a0 b1),(zi s ac m0),(zi s ah aJ),(zi s r c3)⟩
   clear ai ak a3;generalize xG B l.k rw=wo at *;go_upto_region 18 with fail
   go_cut [15,16] from 118 to 138 (λaU aV wx=>aV=.i wo.I/\UD wq wx (3*(k+1)) wo aU)
   .go_region_held3 (λj=>j.p ⟨g,k*3+2,Y⟩=Z G/\j.p ⟨w.o.q,0,Y⟩=Z E/\j.p ⟨w.o.q,1,Y⟩=Z F/\j.p ⟨mb,0,Y⟩=Z (.k (Z ⟨I,0,Y⟩) fs.j aw)/\j.p ⟨I,i*3+1,Y⟩=Z u/\j.p ⟨gb,go+3,Y⟩=Z (.k (Z ⟨g,0,Y⟩) c.d.j T)) (first|go_keep|(go_simp;done)) (first|(go_at_call 196;refine(aC.l _ φ).y ?_;rintro e w5 ⟨H,m1,o1,J,m2,o2,rfl,aL,aP,bc,z0,z1,z2,z3,z4,z5⟩;(try (with_reducible refine Ti.carry (Ti.drew (Ti.new wq #[ν,ν] 270)) bc.l ?_;intro a9;obtain⟨bo,bp,bm⟩:=a9.e))))
    all_goals
     go_wp2_with fail
     go_meet
     first|exact⟨rfl,UD.one aP.l aL.l⟩|exact⟨rfl,UD.two (zf _) aP.l a9 aL.l⟩
   obtain⟨rfl,xq,H,m1,o1,J,m2,o2,rfl,HQ,au,ab⟩:=hcut;have aB:=Th (a7.l.u ab.l);have al:=Th (Tl az.l ab.l);have aF:=Th (Tl n.l ab.l);clear m0 ac c3 r b0 b1 a0 aC aJ aH ah aO a7 az n ab;rcases wo with _|d
   .have HT:X (sn=[]):=C.l;go_wp2;go_roundw;exact⟨i+1,η,ξ,by rw[L.l,HT.l,qn];exact aB.l,al⟩;simp[intOf];omega
   have HT:X (sn=yu fs c.g c.d rest d):=C.l;simp only[j6];obtain⟨s1,s2,s3⟩:=HQ.l d rfl;have R:=ap.l wc aF.l;have V:=bd.l;rw[L.l,HT.l,yK] at V;have aD:=Th (a5.l wc (.k o1 H m1) (.k o2 J m2) d s3 (bb.l d rfl) η ⟨R.model,R.facts,R.cl,s1,s2,R.hz⟩);have q0:=au.l.H.1 0;have D:=au.l.H.1 1;have aZ:=au.l.lt;have bf:=Th V;clear s1 s2 HQ R V;generalize yu fs c.g c.d rest d=fr at *;go_upto_region 21 with (first|(go_at_call 166;refine aD.l.y ?_;rintro e w6 ⟨v6,rfl,bh,a8⟩))
   have a6:=Th (aB.l.u a8.l);have S:=Th (Tl al.l a8.l);clear q0 D aZ aD;go_wp2_with (at_builtin;refine IB rfl (.tmp 146) (.tmp 147) rfl _ _ _ _ rfl rfl a6.l bh.l bf.l S.l.q ?_;intro v8 w8 bk aY)
   go_roundw;obtain⟨_,_,a2,_⟩:=a6.l;exact⟨i+1,η,ξ,by rw[L.l,HT.l];exact bk,S.l.A (aY.u (λb m=>yW a2 (xb m)) S.l.q)⟩;simp[intOf];omega
  have aS:=vU he;have C:X ((fs.G (i+1)).flatMap (l7 fs c.g c.d rest l B)=(fs.G i).flatMap (l7 fs c.g c.d rest l B)):=by
   rw[X,L.l,l7,za he,qn]
  clear L he f1 ax av c2;generalize fs[i].1=x at *;generalize l.o=y at *;go_wp2;go_quiet (fail)
  go_wp2;go_roundw;exact⟨i+1,η,ξ,by rw[C.l];exact ad.l.u (mE _ _),zI ae.l _⟩;simp[intOf];omega
 have be:¬(i:Int)<(fs.j:Int):=η;obtain rfl:i=fs.j:=η;go_wp2;go_ret;obtain⟨aT,D,q2,q3⟩:=ad.l;rw[uY] at D q2 q3;exact⟨_,rfl,by rw[X,aM.l];exact⟨aT,D,yo q2 af.l.q,q3⟩,A⟩
def F0(m G n i:Nat)(F:O)(c:zc)(fs:Θ)(A:c.d.j<=30)(h:∀l∈zm c,l.k.j<=3/\∀a∈l.k,0<a.q)(D:fs.j<=10000000)(H:∀f∈fs,f.2.1.j<=1000000)(J:∀f∈fs,∀l∈zm c,f.1=l.o->f.2.1.j=l.k.j)(I:∀f∈fs,∀x∈f.2.1,x≠ByteArray.empty):∀(rest:Ω) (k:Nat) (w:U) (r E:O) (B:y9),k<=c.d.j->c.d.drop k=rest->B.j<=3*k->qz B->(yu fs c.g c.d rest B).j<=1000000000000->me z w m G n i F r E c fs B →
  Calls prog 166 #[(π m),.u (Z (ω n i)),ι k,.agg #[r,E]] w λe K=>∃v,e=.returned v/\X (xE z w.o.q K v (yu fs c.g c.d rest B))/\X (μ w K)
 |[],k,w,r,E,B,T,L,u,P,C,M=>by
  have N:k=c.d.j:=by
   have:=congrArg List.length L;simp at this;omega
  subst N;exact Mf w m G n i F r E c fs B M η η (λl R=>⟨by have:=(h l R).1;omega,(h l R).2⟩) D H
 |l::rest,k,w,r,E,B,T,L,u,P,C,M=>by
  have g:k<c.d.j:=by
   have:=congrArg List.length L;simp at this;omega
  have q:=L;rw[xp g] at q;have y:c.d[k]=l:=(List.cons.inj q).1;have s:c.d.drop (k+1)=rest:=(List.cons.inj q).2;have p:l∈zm c:=by simp[zm,←y]
  have j:X (∀W d b (t:y9),t.j<=3*(k+1)->qz t->(yu fs c.g c.d rest t).j<=1000000000000->me z W m G n i F d b c fs t->Calls prog 166 #[(π m),.u (Z (ω n i)),ι ((k:Int)+1),.agg #[d,b]] W λe K=>∃v,e=.returned v/\X (xE z W.o.q K v (yu fs c.g c.d rest t))/\X (μ W K)):=λW d b t h1 h2 h3 h4=>F0 m G n i F c fs A h D H J I rest (k+1) W d b t g s h1 h2 h3 h4;cases S:l.i with
  |true=>exact NG w m G n i F r E c fs B l rest k M A g y u P S C j
  |false=>exact NB w m G n i F r E c fs B l rest k M A (h l p) D (λf V e=>J f V l p e) I g y u P S C j
end
section
open Go.Proofs.Tryz
variable {z:Nat->Prop}{rvs:List O}{lo:Nat}{w:U}
def SE:(prog.info? 56).w (λi=>(i.zero,i.q,i.bytes))=Z (Z (.agg #[.d ByteArray.empty,ν,ι 0]),3,48):=χ
def UC(f:z9)(a:O):List Value:=[.d f.1,a,ι (f.2.2:Nat)]
def qQ(fs:List z9)(rvs:List O):List Value:=(List.zipWith UC fs rvs).flatten
def JE{fs b:Θ}{a:Γ}(h:rvs.j=fs.j):qQ (fs++b) (rvs++a)=qQ fs rvs++qQ b a:=by
 unfold qQ;rw[Ap h.z];simp
def OU{fs:Θ}(h:rvs.j=fs.j):(qQ fs rvs).j=fs.j*3:=by
 induction fs generalizing rvs with
 |nil=>simp[qQ]
 |cons f fs a=>
  rcases rvs with _|⟨r,rvs⟩;simp at h;have:=a (rvs:=rvs) (by simpa using h);unfold qQ at this ⊢;simp only[mJ,ph,yK,xu];rw[this];simp[UC];omega
def m8:∀(fs:Θ) (a:Γ) (i c:Nat) (h:i<fs.j) (d:i<a.j),c<3->(qQ fs a)[i*3+c]?=(UC fs[i] a[i])[c]?
 |f::fs,g::a,0,c,_,_,b=>by
  have e:qQ (f::fs) (g::a)=UC f g++qQ fs a:=by simp[qQ]
  rw[e,r9 (by simp[UC];omega)];simp
 |f::fs,g::a,i+1,c,h,d,b=>by
  have e:qQ (f::fs) (g::a)=UC f g++qQ fs a:=by simp[qQ]
  have l:(UC f g).j=3:=by simp[UC]
  rw[e,fR (by rw[l];omega),l,show(i+1)*3+c-3=i*3+c by omega];exact m8 fs a i c (by simpa using h) (by simpa using d) b
def yU(z:Nat->Prop)(lo:Nat)(w:U)(v:O)(fs:List z9):Prop:=∃rvs:List O,rvs.j=fs.j/\w.r lo 56 3 v fs.j (qQ fs rvs)/\∀i (h:i<fs.j) (a:i<rvs.j),Ut z w rvs[i] fs[i].2.1
def yU.nil(lo:Nat)(w:U):yU z lo w (ν) []:=⟨[],rfl,xo _ _ _ _,λi h=>by cases h⟩
def yU.u{lo:Nat}{w w':U}{v:O}{fs:Θ}(h:yU z lo w v fs)(c:μ w w'):yU z lo w' v fs:=by
 obtain⟨rvs,d,f,e⟩:=h;exact⟨rvs,d,zy f c,λi a b=>(e i a b).u c⟩
def yU.low{a:Nat}{v:O}{fs:Θ}(h:yU z lo w v fs)(c:a<=lo):yU z a w v fs:=by
 obtain⟨rvs,b,e,d⟩:=h;exact⟨rvs,b,yo e c,d⟩
def yU.saveT{lo:Nat}{w w':U}{v:O}{fs:Θ}{M:Φ}{T:TypeId}(h:yU z lo w v fs)(hs:zd M w w')(c:T3 w T M)(d:56≠T)(j:9≠T):yU z lo w' v fs:=by
 obtain⟨rvs,e,f,g⟩:=h;exact⟨rvs,e,yL f hs c d,λi a b=>(g i a b).saveT hs c j⟩
def yU.facts{v:O}{fs:Θ}(h:yU z lo w v fs):po w v fs:=by
 obtain⟨rvs,n,f,l⟩:=h;by_cases j:0<fs.j;obtain⟨g,b,d,_,m,e⟩:=yq f j;refine⟨_,b,d,λi c=>?_⟩;have a:i<rvs.j:=η;refine⟨g,rvs[i],0,rfl,m,e (i*3) _ ?_,e (i*3+1) _ ?_,e (i*3+2) _ ?_,(l i c a).1⟩;rw[show i*3=i*3+0 from rfl,m8 _ _ _ _ c a η];rfl;rw[m8 _ _ _ _ c a η];rfl;rw[m8 _ _ _ _ c a η];rfl;obtain⟨k,b,d⟩:=zr f;exact⟨k,b,d,λi c=>zC c η⟩
section
variable {ops:Array Oper} {rest:List Oper} {o:Oper} {a:Act} {Q:Exit->Act->U->Prop}
def Ir{F:Nat}(m:o.guard=Y)(s x:Operand)
  (P:o.op=.call {callee:=.builtin .append,args:=#[s,x],argTypes:=#[52,52]})
  (n g:Θ) (r L:O) (M:a.eval s=r) (W:a.eval x=L) (h1:yU z lo w r n) (h2:yU z F w L g) (hl:n.j+g.j<=1000000000000) (y:lo<=w.o.q)
  (h:∀I K,yU z lo K I (n++g)->zd r.m.v w K->wpList prog ops Q rest (a.put o.dst I) K):
  wpList prog ops Q (o::rest) a w:=by
 obtain⟨R,S,A,G,J⟩:=info_parts SE;obtain⟨rvs,t,q,V⟩:=h1;obtain⟨b,N,b2,T⟩:=h2;have p:∀u∈qQ g b,u.oneCell'=true:=by
  intro u i;obtain⟨f,hf,i⟩:=List.mem_flatten.1 i;obtain⟨j,d,rfl⟩:=vQ.1 hf;rw[List.getElem_zipWith] at i;simp only[List.length_zipWith] at d;obtain⟨ao,ad,e⟩:=(T j η η).1.qy;unfold UC at i;rw[e] at i;simp only[zG,nQ,or_false] at i;rcases i with rfl|rfl|rfl<;>simp[O.oneCell']
 obtain⟨_,⟨D,hn⟩|⟨g',l,af,D,ac,hh,ae,ab,aa,C⟩⟩:=id b2;have E:g=[]:=lI hn;refine wpList_append_own_none m s x 52 P lo 56 R 3 underlying52 S _ _ _ M q (by rw[W,D]) ?_;refine h _ _ ?_ (zd.refl _ _);rw[E,qn];exact⟨rvs,t,q,V⟩;have v:∀j u,(qQ g b)[j]?=Z u->w.p (Addr.add (δ g') j)=Z u:=λj u d=>by
  rw[Addr.add_lit,vJ];unfold U.cell?;rw[hh];simp only;rw[←C,nf] at d;split at d;simpa using d;simp at d
 refine wpList_append_own _ m s x 52 P lo 56 R _ 3 48 underlying52 S A G J rfl θ _ _ _ M q (δ g') g.j l (qQ g b) (by rw[W,D]) (OU N) v p b_ η y ?_;intro I w2 B c _;have H:zd r.m.v w w2:=⟨c.os,c.tape,c.output,c.q,λk hk hm=>c.block k hk λe=>hm (by rw[←e];simp)⟩;refine h _ _ ⟨rvs++b,by simp[t,N],by rw[yK,JE t];exact B,λj q1 q2=>?_⟩ H;by_cases d:j<n.j;simp only[uG d,uG (show j<rvs.j by omega)];exact(V j d η).saveT H (T3.own q) θ;simp only[yK] at q1 q2;simp only[lW (show n.j<=j by omega),lW (show rvs.j<=j by omega),t];exact(T _ η η).saveT H (T3.own q) θ
def yU.one{b:Nat}{f:z9}{c:O}(e:Ti w b (UC f c).F 56)(g:Ut z w c f.2.1):yU z 0 w (.k (Z (δ b)) 1 1) [f]:=by
 refine⟨[c],rfl,⟨by simp[qQ,UC],ze ⟨b,1,(UC f c).F,rfl,zs _,e,zf _,by unfold maxLen;omega,by simp[UC],by simp[qQ,UC]⟩⟩,λi d h=>?_⟩;obtain rfl:i=0:=by simp at d;exact d
 exact g
end
def Dt(w:U)(H l:Nat)(fv lv x:O)(fs c:Θ)(b:ByteArray)(row:κ)(P:Ti w H #[fv,ι l] 54)(hf:po w fv fs)(R:yU z lo w lv c)(L:Ut z w x row)(aj:fs.j<=10000000)(ar:c.j<1000000000000)(au:row.j<=1000000)(N:∀f∈fs,f.2.1.j<=1000000)(F:∀f∈c,f.2.1.j<=1000000)(T:lo<=w.o.q):
  Calls prog 123 #[(π H),lv,.d b,x] w λe w'=>∃v,e=.returned v/\X (yU z lo w' v (uy fs c (b,row,l)))/\X (zd lv.m.v w w'):=by
 obtain⟨E,t,rfl⟩:=L.1.qy;have I:=Th (AF w H l fv fs b _ row P hf L.1 aj η N);have af:X (∀W,μ w W->W.p (ω H 1)=Z (ι l)/\H<W.o.q):=λW m=>⟨by rw[(P.u m).H.1];rfl,(P.u m).lt⟩;have ad:=Th λW lo va (a:κ) (m:μ w W) (ha:To lo W va a) (hq:a.j<=1000000)=>F4 W va _ a row ha (L.1.u m) hq η;have y:=Th λW (m:μ w W)=>R.u m;have ab:=Th λW (m:μ w W)=>L.u m;have ah:=Th F;obtain⟨ao,av,rfl,_⟩:=R.facts;have HC:X (∀W i (h:i<c.j),μ w W->∃g x lo,ao=Z (δ g)/\g<W.o.q/\W.p (ω g (i*3))=Z (.d c[i].1)/\W.p (ω g (i*3+1))=Z x/\To lo W x c[i].2.1):=λW i h m=>by
  obtain⟨aq,an,e,q⟩:=(R.u m).facts;cases e;obtain⟨g,x,lo,r1,r2,r3,r4,_,r6⟩:=q i h;exact⟨g,x,lo,r1,r2,r3,r4,r6⟩
 have s:X ((yP b row fs).I=true↔0<=kg b row fs):=by
  unfold X kg;rcases yP b row fs with _|z;simp;simp
 have ae:X ((yP b row fs).I=true->uy fs c (b,row,l)=c):=λq=>zb (zh q);have ak:X ((yP b row c).I=true->uy fs c (b,row,l)=c):=λq=>zb (ze q);have al:X (¬(yP b row fs).I=true->¬(yP b row c).I=true->uy fs c (b,row,l)=c++[(b,row,l)]):=λq1 q2=>za (by rintro(z|z);exact q1 z;exact q2 z);clear P hf R L N F;generalize uy fs c (b,row,l)=aw at *;generalize (yP b row fs).I=fb at *;generalize kg b row fs=fi at *;by_cases J:0<=fi
 .have M:=Th (ae.l (s.l.2 J));go_enter func123,ntmps123;go_wp2_with (go_at_call 45;refine I.l.y ?_;rintro e w1 ⟨rfl,p⟩)
  go_ret;exact⟨_,rfl,by rw[X,M.l];exact y.l _ p,zd.of p⟩
 have ag:X (¬fb=true):=λq=>J (s.l.1 q);have H0:X (yP b row c=(yP b row (c.drop 0)).w (·+0)):=show yP b row c=_ by simp
 generalize yP b row c=r at *;go_enter func123,ntmps123;go_wp2_with (go_at_call 45;refine I.l.y ?_;rintro e w1 ⟨rfl,p⟩)
 go_loopw [10,11] (λi _ wr=>∃k:Nat,k<=c.j/\i=ι k/\X (r=(yP b row (c.drop k)).w (·+k))/\μ w wr) (λi _ _=>c.j-(intOf i).D);exact⟨0,zs _,rfl,H0,p⟩;obtain⟨k,hk,rfl,HK,d⟩:=hrel;by_cases B:k<c.j
 .have K:(k:Int)<(c.j:Int):=η;obtain⟨g,ax,ac,rfl,hg,c0,c1,hS⟩:=HC.l wr k B d;have q:=HK.l;rw[G2 B] at q;have D:=Th q;clear q HK;have S:=Th (ad.l wr ac _ _ d hS (ah.l _ (zq B)));clear hS;generalize c[k].2.1=fr at *;generalize c[k].1=fp at *;by_cases u:fp=b
  .have aa:=jq u;by_cases j:fr=row
   .have C:X (r=Z k):=show r=Z k by rw[D.l,zb ⟨u,j⟩];simp
    have M:=Th (ak.l (by rw[C.l];rfl));rw[show decide (fr=row)=true by simp[j]] at S;clear D u j;go_wp2_with (go_at_call 84;refine S.l.y ?_;rintro e w3 ⟨rfl,n⟩)
    go_ret;exact⟨_,rfl,by rw[X,M.l];exact y.l _ (Tl d n),zd.of (Tl d n)⟩
   have C:X (r=(yP b row (c.drop (k+1))).w (·+(k+1))):=show r=_ by
    rw[D.l,za (λz=>j z.2),Option.map_map];congr 1;funext z;simp only[Function.comp];omega
   rw[show decide (fr=row)=false by simp[j]] at S;clear D u j;go_wp2_with (go_at_call 84;refine S.l.y ?_;rintro e w3 ⟨rfl,n⟩)
   exact⟨⟨k+1,η,ξ,C,Tl d n⟩,by simp[intOf];omega⟩
  have aa:=vU u;have C:X (r=(yP b row (c.drop (k+1))).w (·+(k+1))):=show r=_ by
   rw[D.l,za (λz=>u z.1),Option.map_map];congr 1;funext z;simp only[Function.comp];omega
  clear D u;go_wp2;exact⟨⟨k+1,η,ξ,C,d⟩,by simp[intOf];omega⟩
 have K:¬(k:Int)<(c.j:Int):=η;have C:X (r=Y):=show r=Y by
  rw[HK.l,uk η];rfl
 have M:=Th (al.l ag.l (by rw[C.l];simp));obtain⟨c1,ap⟩:=af.l _ d;have hu:μ wr (wr.C (.E #[.d b,.k E row.j t,ι l] 56)):=(zn _ _).C (zf _) _;have A:=Tl d hu;have HX:=Th (yU.one (f:=(b,row,l)) (Ti.new wr (UC (b,row,l) (.k E row.j t)).F 56) (ab.l _ A));have V:=Th (y.l _ A);have G:=Th A;go_wp2_with (at_builtin;refine Ir rfl (.tmp 41) (.tmp 49) rfl _ _ _ _ rfl rfl V.l HX.l υ (zY T G.l.q) ?_;intro v8 w8 am ai)
 go_ret;exact⟨_,rfl,by rw[X,M.l];exact am,(zd.of G.l).A ai⟩
end
section
open Go.Proofs.Tryz
variable {z:Nat->Prop}{cs:List zc}{t:List zg}
def hY.clr{w:U}{g o:Nat}{c:zc}{f:Option Addr}{cap:Nat}{d:Option Addr}{a:Nat}(h:hY w g o c f cap d a)(m:∀b,(O.slice f c.g.k.j cap).m=Z b->¬z b):Vk z w g o c:=by
 refine⟨h.lt,h.c1,⟨_,h.c2,h.k,m⟩,d,a,h.c3,λj s=>?_⟩;obtain⟨r,q,e,i,p,n,l,k,u⟩:=h.d.cell j s;exact⟨r,i,p,n,l,_,k,u⟩
structure Vq (z:Nat->Prop) (w:U) (pb:Nat) (ao:Option Addr) (cap:Nat) (aop:Option Addr) (capp:Nat) (aok:Option Addr) (capk:Nat) (cs:List zc) (t:List zg):Prop where
 box:Ti w pb #[.k ao cs.j cap,.k aop t.j capp,.k aok t.j capk] 45
 cl:∀i (h:i<cs.j),∃g,ao=Z ⟨g,0,Y⟩/\Vk z w g (i*4) cs[i]
 names:To 0 w (.k aop t.j capp) (Tj t)
 strata:∀i (h:i<t.j),∃g,aok=Z ⟨g,0,Y⟩/\g<w.o.q/\w.p ⟨g,i,Y⟩=Z (ι (t[i].L:Nat))
def Vq.u{w w':U}{pb:Nat}{l:Option Addr}{cap:Nat}{c:Option Addr}{a:Nat}{d:Option Addr}{b:Nat}{cs:Ξ}{t:Ψ}(h:Vq z w pb l cap c a d b cs t)(e:μ w w'):Vq z w' pb l cap c a d b cs t:=by
 refine⟨h.box.u e,λi k=>?_,h.names.u e,λi k=>?_⟩;obtain⟨g,j,f⟩:=h.cl i k;exact⟨g,j,f.u e⟩;obtain⟨g,j,f,m⟩:=h.strata i k;exact⟨g,j,ym f e.q,(zi e f m)⟩
def jD.read{lo:Nat}{s w:U}{pb:Nat}(G:jD lo s pb cs t)(hs:Ui lo s w)(T:∀b,z b->b<lo∨s.o.q<=b):∃p h d a f c,Vq z w pb p h d a f c cs t:=by
 obtain⟨_,cv,pv,kv,l,I,u,J⟩:=G.same hs;obtain⟨p,h,rfl⟩:=I.qy;obtain⟨d,a,rfl⟩:=u.qy;obtain⟨f,c,rfl⟩:=zr J;have e:(Tj t).j=t.j:=by simp[Tj]
 rw[e] at l u;refine⟨p,h,d,a,f,c,l,λi k=>?_,yo u (zs _),λi k=>?_⟩;obtain⟨g,R,v,W,A,m,D⟩:=I.at i k;refine⟨g,m,D.clr ?_⟩;obtain⟨hl,N,L,M,k1,C,_,_⟩:=G;have j:=k1.same hl hs;rw[Ti] at l j;rw[l] at j;simp only[zt,Obj.cells.injEq,Array.mk.injEq,mS,and_true] at j;have e0:=j.1.z;subst e0;obtain⟨g',H,n,F,r,E,S,_,_,Q,_,y,_⟩:=C.cell i k;rw[m] at E;cases E;have q:lo<=g:=by
  obtain⟨xs,x,_⟩:=C;rw[m] at x;exact yW x rfl
 have o:w.p (ω g (i*4+2))=s.p (ω g (i*4+2)):=by simp[U.cell?,hs g q S]
 rw[D.c2,Q] at o;rw[zt] at o;rw[o];intro b K V;have a1:=yW y K;have a2:=yF y K;have a3:=T b V;omega;obtain⟨g,B,P,_,q,hc⟩:=yq J η;cases P;refine⟨g,rfl,q,hc i _ ?_⟩;simp[k,TO]
def i3(a:uj cs t){c:zc}(m:c∈cs):l6 (Tj t) c.g.o=(zB t c.g.o:Nat)/\∃h:zB t c.g.o<t.j,t[zB t c.g.o].L=xM t c.g.o:=by
 obtain⟨b,n,g,p⟩:=a.lit c m c.g (by simp[zm]);have i:c.g.o∈Tj t:=by
  rw[←g,(gT a.rise b).2];exact zF.2 ⟨_,zq _,rfl⟩
 obtain⟨k,o,f⟩:=ia i;obtain⟨j,l⟩:=lM f;have d:k<t.j:=by simpa [Tj] using j
 have e:zB t c.g.o=k:=by
  have q:=gT a.rise d;have:vc t k=c.g.o:=by
   rw[q.2,←l];simp[Tj]
  rw[←this];exact q.1
 refine⟨by unfold l6;rw[f,e],b,?_⟩;have q:=(oP a.rise b).1;rw[←(gT a.rise b).2,g] at q;unfold xM;rw[q]
def o5{s i:Nat}(a:i<cs.j):yv t (cs.G (i+1)) s=if xM t cs[i].g.o=s/\0<cs[i].d.j then yv t (cs.G i) s++[cs[i]] else yv t (cs.G i) s:=by
 unfold yv;rw[yN a,sQ];by_cases q:xM t cs[i].g.o=s/\0<cs[i].d.j;rw[zb q,List.filter_cons_of_pos (by simpa using q),List.filter_nil];rw[za q,List.filter_cons_of_neg (by simpa using q),List.filter_nil,qn]
def KJ{s i:Nat}(d:i<cs.j)(q:xM t cs[i].g.o=s/\0<cs[i].d.j):(yv t cs s).isEmpty=false:=by
 have:cs[i]∈yv t cs s:=xy.2 ⟨zq d,decide_eq_true q⟩;rcases c:yv t cs s with _|⟨a,b⟩;rw[c] at this;cases this;rfl
def ON(w:U)(pb:Nat)(E:Option Addr)(cap:Nat)(B:Option Addr)(p:Nat)(m:Option Addr)(l:Nat)(cs:Ξ)(t:Ψ)(s:Nat)(h:Vq z w pb E cap B p m l cs t)(J:uj cs t)(hl:cs.j<=1000)(ht:t.j<=1000)(o:∀c∈cs,xM t c.g.o<=1000)(hs:s<=1000):
  Calls prog 124 #[(π pb),ι s] w λe N=>e=ε (.i (!(yv t cs s).isEmpty))/\N=w:=by
 have H:X (∀c∈cs,Calls prog 111 #[(π pb),.d c.g.o] w λe N=>e=ε (ι (zB t c.g.o:Nat))/\N=w):=λc D=>by
  have:=nA w pb _ _ _ (Tj t) c.g.o h.box h.names (by simp[Tj];omega);rw[(i3 J D).1] at this;exact this
 have G:X (∀c∈cs,zB t c.g.o<t.j/\∃g,m=Z (δ g)/\g<w.o.q/\w.p (ω g (zB t c.g.o))=Z (ι (xM t c.g.o:Nat))):=λc D=>by
  obtain⟨k,j⟩:=(i3 J D).2;obtain⟨g,r1,r2,r3⟩:=h.strata _ k;exact⟨k,g,r1,r2,by rw[r3,j]⟩
 have x:X (∀i (d:i<cs.j),∃g,E=Z (δ g)/\g<w.o.q/\w.p (ω g (i*4+1))=Z (.d cs[i].g.o)/\∃v u,w.p (ω g (i*4+3))=Z (.k v cs[i].d.j u)):=λi d=>by
  obtain⟨g,k,j⟩:=h.cl i d;obtain⟨v,u,W,_⟩:=j.d;exact⟨g,k,j.lt,j.o,v,u,W⟩
 have r:=Th o;have b0:w.p (δ pb)=Z (.k E cs.j cap):=by rw[h.box.H.1];rfl
 have b2:w.p (ω pb 2)=Z (.k m t.j l):=by rw[h.box.H.1];rfl
 have ae:=h.box.lt;have HE:X (yv t cs s=yv t (cs.G cs.j) s):=by rw[X,uY]
 have K:X (∀i (d:i<cs.j),xM t cs[i].g.o=s->0<cs[i].d.j->(yv t cs s).isEmpty=false):=λi d k j=>KJ d ⟨k,j⟩;have I:X (∀i (d:i<cs.j),¬(xM t cs[i].g.o=s/\0<cs[i].d.j)->yv t (cs.G i) s=[]->yv t (cs.G (i+1)) s=[]):=λi d k j=>by rw[o5 d,za k,j]
 clear h J o;generalize yv t cs s=ad at *;go_enter func124,ntmps124;go_wp2;go_loopw [5,6] (λL _ wr=>∃i:Nat,i<=cs.j/\L=ι i/\X (yv t (cs.G i) s=[])/\wr=w) (λL _ _=>cs.j-(intOf L).D);exact⟨0,zs _,rfl,rfl,rfl⟩;obtain⟨i,d,rfl,M,C⟩:=hrel;obtain rfl:=C.z;by_cases f:i<cs.j
 .have y:(i:Int)<(cs.j:Int):=η;obtain⟨g,rfl,hg,c1,v,u,c3⟩:=x.l i f;have a:=zq f;obtain⟨af,gk,rfl,ac,ck⟩:=G.l _ a;have A:=Th (H.l _ a);have aa:=r.l _ a;have V:((zB t cs[i].g.o:Nat):Int)<(t.j:Int):=η;have H1:=Th (K.l i f);have P:=Th (I.l i f);clear a;generalize cs[i].d.j=bl at *;generalize xM t cs[i].g.o=S at *;generalize zB t cs[i].g.o=fk at *;generalize cs[i].g.o=pr at *;by_cases R:S=s
  .subst R;by_cases T:0<bl
   .have F:(0:Int)<(bl:Int):=η;have n:=Th (H1.l rfl T);go_wp2_with (go_at_call 111;refine A.l.y ?_;rintro e Q ⟨rfl,b⟩;obtain rfl:=b.z)
    go_ret;exact⟨by rw[n.l];rfl,rfl⟩
   have F:¬(0:Int)<(bl:Int):=η;have n:=Th (P.l (λq=>T q.2) M.l);go_wp2_with (go_at_call 111;refine A.l.y ?_;rintro e Q ⟨rfl,b⟩;obtain rfl:=b.z)
   go_roundw;exact⟨i+1,η,ξ,n,trivial⟩;simp[intOf];omega
  have ab:¬((S:Int)=(s:Int)):=η;have n:=Th (P.l (λq=>R q.1) M.l);go_wp2_with (go_at_call 111;refine A.l.y ?_;rintro e Q ⟨rfl,b⟩;obtain rfl:=b.z)
  go_roundw;exact⟨i+1,η,ξ,n,trivial⟩;simp[intOf];omega
 have y:¬(i:Int)<(cs.j:Int):=η;obtain rfl:i=cs.j:=η;have n:=Th (HE.l.A M.l);go_wp2;go_ret;exact⟨by rw[n.l];rfl,rfl⟩
end
section
open Go.Proofs.Tryz
variable {z:Nat->Prop}
def F6(fs l:Θ)(f:z9):l.j<=(uy fs l f).j:=by
 unfold uy;split<;>simp
def iA{α:Type}(g:Θ->α->Θ)(b:∀l x,l.j<=(g l x).j):∀(a:List α) (l:Θ),l.j<=(a.H g l).j
 |[],_=>zf _
 |x::a,l=>zY (b l x) (iA g b a (g l x))
def KI{α:Type}(g:Θ->α->Θ)(b:∀l x,l.j<=(g l x).j)(a:List α)(l:Θ)(k:Nat):((a.G k).H g l).j<=(a.H g l).j:=by
 conv=>rhs;rw[←jQ k a,qZ]
 exact iA g b _ _
def Mc(fs:Θ)(k:Nat)(a:Ξ)(l:Θ):l.j<=(xY fs k a l).j:=iA _ (λl _=>iA _ (λl _=>F6 fs l _) _ l) a l
def Eo(fs:Θ)(k:Nat)(a b:Ξ)(l:Θ):xY fs k (a++b) l=xY fs k b (xY fs k a l):=by
 unfold xY;rw[qZ]
def QC(fs:Θ)(k:Nat)(t:Ψ)(cs:Ξ)(s i:Nat):(xY fs k (yv t (cs.G i) s) []).j<=(xY fs k (yv t cs s) []).j:=by
 have:yv t cs s=yv t (cs.G i) s++yv t (cs.drop i) s:=by
  unfold yv;rw[←sQ,jQ]
 rw[this,Eo];exact Mc _ _ _ _
def B9{fs:Θ}{h:zj}{body:Ω}:∀(rest:Ω) (B:y9) (r:κ),r∈yu fs h body rest B->r.j=h.k.j
 |[],B,r,a=>by
  unfold yu at a;split at a
  .cases a
  .rw[xL.1 a];simp[yI]
 |l::rest,B,r,a=>by
  unfold yu at a;split at a
  .exact B9 rest B r a
  .obtain⟨f,_,a⟩:=vg.1 a;split at a
   .split at a
    .cases a
    .exact B9 rest _ r a
   .cases a
def I5{fs l:Θ}{f:z9}{n:Nat}(b:∀g∈l,g.2.1.j<=n)(c:f.2.1.j<=n):∀g∈uy fs l f,g.2.1.j<=n:=by
 intro g a;unfold uy at a;split at a;exact b g a;rcases ya.1 a with q|q;exact b g q;rw[xL.1 q];exact c
def BJ{fs:Θ}{n:Nat}{p:ByteArray}{k:Nat}:∀(rs:List (κ)) (l:Θ),(∀g∈l,g.2.1.j<=n)->(∀r∈rs,r.j<=n)->∀g∈rs.H (λl r=>uy fs l (p,r,k)) l,g.2.1.j<=n
 |[],_,a,_=>a
 |r::rs,l,a,b=>BJ rs _ (I5 a (b r ζ)) (λx c=>b x (by simp[c]))
def Lk(w:U)(pb mb n s:Nat)(fv:O)(ao:Option Addr)(cap:Nat)(aF:Option Addr)(aq:Nat)(ae:Option Addr)(R:Nat)(cs:Ξ)(t:Ψ)(fs:Θ)(h:Vq z w pb ao cap aF aq ae R cs t)(hz:Ul z w.o.q)(hm:Ti w mb #[fv,ι n] 54)(hf:po w fv fs)(hx:uj cs t)(hl:cs.j<=1000)(ht:t.j<=1000)(ax:∀c∈cs,xM t c.g.o<=1000)(hs:s<=1000)(aA:∀c∈cs,c.d.j<=30)(an:∀c∈cs,∀l∈zm c,l.k.j<=3/\∀a∈l.k,0<a.q)(a0:fs.j<=10000000)(am:∀f∈fs,f.2.1.j<=1000000)(hF:ty cs fs)(av:(xY fs n (yv t cs s) []).j<1000000000000)(ad:∀c∈cs,(yu fs c.g c.d c.d []).j<=1000000000000):
  Calls prog 125 #[(π pb),(π mb),ι s] w λe A=>∃v,e=.returned v/\X (yU z w.o.q A v (xY fs n (yv t cs s) []))/\X (μ w A):=by
 have aI:X (∀W c,μ w W->c∈cs->Calls prog 111 #[(π pb),.d c.g.o] W λe A=>e=ε (ι (zB t c.g.o:Nat))/\A=W):=λW c m hc=>by
  have:=nA W pb _ _ _ (Tj t) c.g.o (h.u m).box (h.u m).names (by simp[Tj];omega);rw[(i3 hx hc).1] at this;exact this
 have aS:X (∀W c,μ w W->c∈cs->zB t c.g.o<t.j/\∃g,ae=Z ⟨g,0,Y⟩/\g<W.o.q/\W.p ⟨g,zB t c.g.o,Y⟩=Z (ι (xM t c.g.o:Nat))):=λW c m hc=>by
  obtain⟨D,F⟩:=(i3 hx hc).2;obtain⟨g,r1,r2,r3⟩:=(h.u m).strata _ D;exact⟨D,g,r1,r2,by rw[r3,F]⟩
 have a5:X (∀W i (C:i<cs.j),μ w W->∃g,ao=Z ⟨g,0,Y⟩/\g<W.o.q/\g<w.o.q/\Vk z W g (i*4) cs[i]):=λW i C m=>by
  obtain⟨g,D,F⟩:=h.cl i C;exact⟨g,D,ym F.lt m.q,F.lt,F.u m⟩
 have aM:X (∀W,μ w W->W.p ⟨pb,0,Y⟩=Z (.k ao cs.j cap)/\W.p ⟨pb,2,Y⟩=Z (.k ae t.j R)/\pb<W.o.q):=λW m=>⟨by rw[(h.u m).box.H.1];rfl,by rw[(h.u m).box.H.1];rfl,(h.u m).box.lt⟩;have aC:X (∀W i (C:i<cs.j) g,μ w W->Vk z W g (i*4) cs[i]->Calls prog 166 #[(π mb),.u (Z ⟨g,i*4,Y⟩),ι 0,.agg #[ν,ν]] W λe A=>∃v,e=.returned v/\X (xE z W.o.q A v (yu fs cs[i].g cs[i].d cs[i].d []))/\X (μ W A)):=λW i C g m hc=>by
  have j:=zq C;exact F0 mb n g (i*4) fv cs[i] fs (aA _ j) (an _ j) a0 am (λf hf l hl e=>hF.jh f hf _ j l hl e.z) hF.ne cs[i].d 0 W _ _ [] (zs _) rfl ζ (λv x q=>by cases q) (ad _ j) ⟨hm.u m,hf.u m,hc,To.nil W,To.nil W,hz.up m.q⟩
 have Q:=Th λW N rv aB row (ls:Θ) (m:μ w W) (h1:yU z w.o.q W N ls) (h2:Ut z W rv row) (h3:ls.j<1000000000000) (h4:row.j<=1000000) (h5:(∀f∈ls,f.2.1.j<=1000000))=>Dt W mb n fv N rv fs ls aB row (hm.u m) (hf.u m) h1 h2 a0 h3 h4 am h5 m.q;have a9:=Th ax;have HE:X (xY fs n (yv t cs s) []=xY fs n (yv t (cs.G cs.j) s) []):=by rw[X,uY]
 have aE:=Th λi=>Nat.lt_of_le_of_lt (QC fs n t cs s i) av;have aT:X (∀i (C:i<cs.j),xM t cs[i].g.o=s->0<cs[i].d.j->xY fs n (yv t (cs.G (i+1)) s) []=(yu fs cs[i].g cs[i].d cs[i].d []).H (λl r=>uy fs l (cs[i].g.o,r,n)) (xY fs n (yv t (cs.G i) s) [])):=λi C D F=>by
  rw[o5 C,zb ⟨D,F⟩,Eo];rfl
 have bc:X (∀i (C:i<cs.j),¬(xM t cs[i].g.o=s/\0<cs[i].d.j)->xY fs n (yv t (cs.G (i+1)) s) []=xY fs n (yv t (cs.G i) s) []):=λi C D=>by rw[o5 C,za D]
 have aU:X (∀i (C:i<cs.j),∀r∈yu fs cs[i].g cs[i].d cs[i].d [],r.j<=1000000):=λi C r hr=>by
  rw[B9 _ _ r hr];have:=(an _ (zq C) cs[i].g (by simp[zm])).1;omega
 have aJ:=Th ad;clear h hm hf hx ax aA an am hF av ad;generalize xY fs n (yv t cs s) []=bq at *;go_enter func125,ntmps125;go_wp2;go_loopw [7,8,9,10,11,12] (λv7 v8 _ _ _ _ wr=>∃i:Nat,i<=cs.j/\v8=ι i/\X (yU z w.o.q wr v7 (xY fs n (yv t (cs.G i) s) []))/\X (∀f∈xY fs n (yv t (cs.G i) s) [],f.2.1.j<=1000000)/\X (μ w wr)) (λ_ v8 _ _ _ _ _=>cs.j-(intOf v8).D);exact⟨0,zs _,rfl,yU.nil _ _,λf hf=>(by cases hf),zn _ _⟩;obtain⟨i,C,rfl,L,P,o⟩:=hrel;obtain⟨b0,b2,aX⟩:=aM.l _ o.l;by_cases B:i<cs.j
 .have aW:(i:Int)<(cs.j:Int):=η;have j:=zq B;obtain⟨g,rfl,hg,bo,H⟩:=a5.l _ i B o.l;have HC:=Th H;obtain⟨be,gk,rfl,aG,ck⟩:=aS.l _ _ o.l j;have HP:=Th (aI.l _ _ o.l j);have bk:=a9.l _ j;have bn:((zB t cs[i].g.o:Nat):Int)<(t.j:Int):=η;have c1:=H.o;obtain⟨ab,cb,c3⟩:∃ab cb,wr.p ⟨g,i*4+3,Y⟩=Z (.k ab cs[i].d.j cb):=by
   obtain⟨ab,cb,c3,_⟩:=H.d;exact⟨ab,cb,c3⟩
  have H1:=Th (aT.l i B);have H2:=Th (bc.l i B);have aw:=Th (aE.l (i+1));have a1:=Th (aC.l wr i B g o.l H);have aa:=Th (aU.l i B);have aP:=Th (aJ.l _ j);have a4:X (∀W,μ w W->g<W.o.q/\W.p ⟨g,i*4+1,Y⟩=Z (.d cs[i].g.o)):=λW m=>by
   obtain⟨g',e,D,_,F⟩:=a5.l W i B m;cases e;exact⟨D,F.o⟩
  clear j H HC;obtain⟨nx,aj⟩:∃nx,xY fs n (yv t (cs.G (i+1)) s) []=nx:=⟨_,rfl⟩;rw[aj] at H1 H2 aw;have E:=Th aj;clear aj;generalize xY fs n (yv t (cs.G i) s) []=S at *;generalize yu fs cs[i].g cs[i].d cs[i].d []=d at *;generalize cs[i].d.j=bl at *;generalize xM t cs[i].g.o=sk at *;generalize zB t cs[i].g.o=fk at *;generalize cs[i].g.o=G at *;by_cases h1:sk=s
  .subst h1;by_cases h2:0<bl
   .have aR:¬((bl:Int)=0):=η;have HN:=Th (H1.l rfl h2);have bp:=aP.l;go_upto_region 9 with (first|(go_at_call 166;refine a1.l.y ?_;rintro e w2 ⟨aH,rfl,ak,al⟩)|(go_at_call 111;refine HP.l.y ?_;rintro e w1 ⟨rfl,J⟩;obtain rfl:=J.z))
    have au:=Th (L.l.u al.l);have a3:=Th (Tl o.l al.l);clear HP a1 b0 b2 aX hg aG ck c1 c3 H1 H2 L al o;obtain⟨K,u,az⟩:∃K u,aH=.k K d.j u:=by
     obtain⟨_,_,q,_⟩:=ak.l;exact zr q
    subst az;go_wp2;go_loopw [7,12] (λv7 ac wz=>∃(k:Nat) (N:O),k<=d.j/\ac=ι k/\v7=N/\X (yU z w.o.q wz N ((d.G k).H (λl r=>uy fs l (G,r,n)) S))/\X (xE z 0 wz (.k K d.j u) d)/\X (μ w wz)) (λ_ ac _=>d.j-(intOf ac).D);obtain⟨y,D,F,q3⟩:=ak.l;exact⟨0,_,zs _,rfl,rfl,au,⟨y,D,yo F (zs _),q3⟩,a3⟩;clear au a3 ak;obtain⟨k,N,hk,rfl,a6,ay,a2,af⟩:=hrel;obtain rfl:=a6.z;clear a6;by_cases ai:k<d.j
    .have aZ:(k:Int)<(d.j:Int):=η;obtain⟨y,r1,r2,r3⟩:=a2.l;obtain⟨M,bf,ba,_,bh,V⟩:=yq r2 η;cases ba;have ag:k<y.j:=η;have bi:wr.p ⟨M,k,Y⟩=Z y[k]:=V k _ (by simp[ag]);obtain⟨hg,c1⟩:=a4.l _ af.l;have aN:X ((d.G (k+1)).H (λl r=>uy fs l (G,r,n)) S=uy fs ((d.G k).H (λl r=>uy fs l (G,r,n)) S) (G,d[k],n)):=by
      rw[X,yN ai,qZ];rfl
     have T:((d.G k).H (λl r=>uy fs l (G,r,n)) S).j<1000000000000:=by
      refine Nat.lt_of_le_of_lt (KI _ (λl _=>F6 fs l _) d S k) ?_;rw[←HN.l];exact aw.l
     have a7:=BJ (fs:=fs) (p:=G) (k:=n) (d.G k) S P.l (λr hr=>aa.l r (gh hr));have aO:X (∀W,μ wr W->Calls prog 123 #[(π mb),N,.d G,y[k]] W λe A=>∃v,e=.returned v/\X (yU z w.o.q A v (uy fs ((d.G k).H (λl r=>uy fs l (G,r,n)) S) (G,d[k],n)))/\X (xE z 0 A (.k (Z ⟨M,0,Y⟩) d.j u) d)/\X (μ w A)/\A.p ⟨M,k,Y⟩=Z y[k]/\A.p ⟨g,i*4+1,Y⟩=Z (.d G)):=λW m=>by
      have ah:=Tl af.l m;have ap:=ay.l.u m;refine(Q.l W N y[k] G d[k] _ ah ap ((r3 k ai ag).u m) T (aa.l _ (zq ai)) a7).y ?_;rintro e A ⟨v,D,F,q3⟩;obtain⟨_,_,I,_⟩:=id ap;have hS:=q3.l;have a8:=hS.u (λb m=>yW I (xb m)) ah.q;have aD:=a2.l.u m;have ar:=ah.A a8;have aQ:=yL (zy r2 m) hS (T3.own I) θ;obtain⟨g',bg,e2,_,br,aL⟩:=yq aQ η;cases e2;exact⟨v,D,F,aD.saveT hS (T3.own I) θ θ,ar,aL k _ (by simp[ag]),(a4.l _ ar).2⟩
     clear r2 r3 V T a7 Q;generalize y[k]=rv at *;go_upto_region 12 with fail
     go_region_held3 (λA=>A.p ⟨M,k,Y⟩=Z rv/\A.p ⟨g,i*4+1,Y⟩=Z (.d G)) (first|go_keep|(go_simp;done)) (first|(go_at_call 123;refine(aO.l _ φ).y ?_;rintro e w5 ⟨v5,rfl,bd,aV,bb,z0,z1⟩))
     go_wp2;go_roundw;exact⟨k+1,_,η,ξ,rfl,by rw[aN.l];exact bd,aV,bb⟩;simp[intOf];omega
    have aZ:¬(k:Int)<(d.j:Int):=η;obtain rfl:k=d.j:=η;have aY:X (yU z w.o.q wr N nx):=by
     have q:=ay.l;rw[uY,←HN.l] at q;exact q
    have aK:X (∀f∈nx,f.2.1.j<=1000000):=by
     rw[HN.l];exact BJ d S P.l aa.l
    go_wp2;go_roundw;exact⟨i+1,η,ξ,by rw[E.l];exact aY,by rw[E.l];exact aK,af⟩;simp[intOf];omega
   have aR:(bl:Int)=0:=η;have HF:=Th (H2.l (λq=>h2 q.2));go_wp2_with (go_at_call 111;refine HP.l.y ?_;rintro e w1 ⟨rfl,J⟩;obtain rfl:=J.z)
   go_roundw;exact⟨i+1,η,ξ,by rw[E.l,HF.l];exact L,by rw[E.l,HF.l];exact P,o⟩;simp[intOf];omega
  have bm:¬((sk:Int)=(s:Int)):=η;have HF:=Th (H2.l (λq=>h1 q.1));go_wp2_with (go_at_call 111;refine HP.l.y ?_;rintro e w1 ⟨rfl,J⟩;obtain rfl:=J.z)
  go_roundw;exact⟨i+1,η,ξ,by rw[E.l,HF.l];exact L,by rw[E.l,HF.l];exact P,o⟩;simp[intOf];omega
 have aW:¬(i:Int)<(cs.j:Int):=η;obtain rfl:i=cs.j:=η;go_wp2;go_ret;exact⟨_,rfl,by rw[X,HE.l];exact L.l,o⟩
def rN(z:Nat->Prop)(w:U)(b:Option (List z9×Nat))(e:Ending)(w':U):Prop:=match b with
 |none=>e=ε (.u Y)/\X (μ w w')
 |some (L,k)=>∃a,e=ε ((π a))/\X (∃c,w.o.q<=a/\Ti w' a #[c,ι k] 54/\yU z w.o.q w' c L)/\X (μ w w')
structure UI (z:Nat->Prop) (w wr:U) (mb:Nat) (fv:O) (L:List z9) (k:Nat):Prop where
 hmb:w.o.q<=mb
 box:Ti wr mb #[fv,ι k] 54
 fl:yU z w.o.q wr fv L
 bel:μ w wr
def UI.u{w wr w':U}{b:Nat}{c:O}{L:Θ}{k:Nat}(h:UI z w wr b c L k)(a:μ wr w'):UI z w w' b c L k:=⟨h.hmb,h.box.u a,h.fl.u a,Tl h.bel a⟩
def UI.up{w wr:U}{a:Nat}{b:O}{L:Θ}{k:Nat}(h:UI z w wr a b L k):UI z w (wr.x (ω a 1) (ι ((k:Int)+1))) a b L (k+1):=by
 refine⟨h.hmb,?_,h.fl.saveT (zd.set _ _ _ _) (T3.box h.box) θ θ,h.bel.x h.hmb _⟩;have:=h.box.set 1 (ι ((k:Int)+1));simpa using this
def UI.put{w wr:U}{e:Nat}{h a:O}{g:Θ}{k:Nat}(c:w.o.q<=e)(b:Ti wr e #[h,ι k] 54)(f:yU z w.o.q wr a g)(d:μ w wr):UI z w (wr.x (δ e) a) e a g k:=by
 refine⟨c,?_,f.saveT (zd.set _ _ _ _) (T3.box b) θ θ,d.x c _⟩;have:=b.set 0 a;simpa using this
def Fj{cs:Ξ}{i:Nat}(a:i<cs.j):ud (cs.G (i+1))=if cs[i].d.j=0 then uy [] (ud (cs.G i)) (cs[i].g.o,cs[i].g.k,0) else ud (cs.G i):=by
 unfold ud;rw[yN a,sQ];by_cases q:cs[i].d.j=0;rw[zb q,List.filter_cons_of_pos (by simpa using q),List.filter_nil,qF,qZ];rfl;rw[za q,List.filter_cons_of_neg (by simpa using q),List.filter_nil,qn]
def Jb(cs:Ξ):(ud cs).j<=cs.j/\∀f∈ud cs,∃c∈cs,f=(c.g.o,c.g.k,0):=by
 have:∀i,i<=cs.j->(ud (cs.G i)).j<=i/\∀f∈ud (cs.G i),∃c∈cs,f=(c.g.o,c.g.k,0):=by
  intro i;induction i with
  |zero=>intro _;exact⟨by simp[ud],λf a=>by simp[ud] at a⟩
  |succ i d=>
   intro g;obtain⟨e,b⟩:=d η;rw[Fj η];split;unfold uy;split;exact⟨η,b⟩;refine⟨by simp;omega,λf a=>?_⟩;rcases ya.1 a with q|q;exact b f q;exact⟨cs[i],zq _,xL.1 q⟩;exact⟨η,b⟩
 have h:=this cs.j (zf _);rw[uY] at h;exact h
def PM(w:U)(pb mr mx:Nat)(ao:Option Addr)(cap:Nat)(ae:Option Addr)(B:Nat)(aA:Option Addr)(K:Nat)(cs:Ξ)(t0 t:Ψ)(hz:Ul z w.o.q)(h:Vq z w pb ao cap ae B aA K cs t)(hp:T0 cs t0 t)(hx:uj cs t)(hl:cs.j<=1000)(ht:t.j<=1000)(a3:∀c∈cs,xM t c.g.o<=1000)(bc:∀c∈cs,c.d.j<=30)(aq:∀c∈cs,∀l∈zm c,l.k.j<=3/\∀a∈l.k,0<a.q)(bB:mr<=1048576)(bC:mx<=1048576)(ag:∀L D,TX t (zp cs) L D->L.j<1000000000000/\∀c∈cs,(yu L c.g c.d c.d []).j<=1000000000000):
  Calls prog 76 #[(π pb),ι mr,ι mx] w λe I=>rN z w (ynt t cs mr mx) e I:=by
 have bD:=Th λW (j:μ w W)=>h.u j;have a6:X (∀W,μ w W->W.p ⟨pb,0,Y⟩=Z (.k ao cs.j cap)/\W.p ⟨pb,1,Y⟩=Z (.k ae t.j B)/\pb<W.o.q):=λW j=>⟨by rw[(h.u j).box.H.1];rfl,by rw[(h.u j).box.H.1];rfl,(h.u j).box.lt⟩;have aY:X (∀W i (hi:i<cs.j),μ w W->∃g av ab cb,ao=Z ⟨g,0,Y⟩/\g<W.o.q/\g<w.o.q/\W.p ⟨g,i*4+1,Y⟩=Z (.d cs[i].g.o)/\W.p ⟨g,i*4+2,Y⟩=Z av/\Ut z W av cs[i].g.k/\W.p ⟨g,i*4+3,Y⟩=Z (.k ab cs[i].d.j cb)):=λW i hi j=>by
  obtain⟨g,q1,q2⟩:=h.cl i hi;have q3:=q2.u j;obtain⟨av,q4,q5⟩:=q3.k;obtain⟨ab,cb,q6,_⟩:=q3.d;exact⟨g,av,ab,cb,q1,q3.lt,q2.lt,q3.o,q4,q5,q6⟩
 have bm:=Th λW s j hs=>ON W pb ao cap ae B aA K cs t s (h.u j) hx hl ht a3 hs;have bf:X (∀W s mb E L D k,UI z w W mb E L k->TX t (zp cs) L D->L.j<=1048576->s<=1000->Calls prog 125 #[(π pb),(π mb),ι (s:Nat)] W λe I=>∃v,e=.returned v/\X (yU z W.o.q I v (xY L k (yv t cs s) []))/\X (μ W I)):=λW s mb E L D k hM hR hL hs=>by
  have bn:=(ag _ _ (hR.round hp hx s k).1).1;rw[yK] at bn;exact Lk W pb mb k s E ao cap ae B aA K cs t L (h.u hM.bel) (hz.up hM.bel.q) hM.box hM.fl.facts hx hl ht a3 hs bc aq η (λf hf=>by
   obtain⟨p,bo,r,m,_,rfl⟩:=(hR.mem f).1 hf;simp only[kN];have:=hx.small p bo;omega) (hR.fs hx) η (ag _ _ hR).2
 have ba:=Th aq;have ay:X (ud cs=ud (cs.G cs.j)):=by rw[X,uY]
 have aC:X (∀i,(ud (cs.G i)).j<=1000/\∀f∈ud (cs.G i),f.2.1.j<=1000000):=λi=>by
  obtain⟨q1,q2⟩:=Jb (cs.G i);refine⟨by simp at q1;omega,λf hf=>?_⟩;obtain⟨c,hc,rfl⟩:=q2 f hf;have:=(aq c (gh hc) c.g (by simp[zm])).1;show c.g.k.j<=_;omega
 have aQ:X (∀i (hi:i<cs.j),ud (cs.G (i+1))=if cs[i].d.j=0 then uy [] (ud (cs.G i)) (cs[i].g.o,cs[i].g.k,0) else ud (cs.G i)):=λi hi=>Fj hi;have aT:=Th (E8 hx);have aX:=Th λL D s k (q:TX t (zp cs) L D)=>(q.round hp hx s k).1;have bz:=Th λL D q=>(ag L D q).1;have aL:X (ynt t cs mr mx=if (ud cs).j<=mr then zzk t cs mr mx t.j 0 0 (ud cs) else Y):=rfl;obtain⟨b0,b1,S⟩:=a6.l w (zn _ _);clear h hp hx a3 bc aq ag;generalize ynt t cs mr mx=d at *;go_enter func76,ntmps76;go_wp2;have V:X (UI z w (w.C (.E #[ν,ι 0] 54)) w.o.q (ν) [] 0):=⟨zf _,Ti.new _ _ _,yU.nil _ _,(zn _ _).C (zf _) _⟩;generalize bh:w.C (.E #[ν,ι 0] 54)=wA at *;clear bh b0 b1 S;go_loopw [8,9,10] (λv8 v9 _ wr=>∃(i:Nat) (lv:O),i<=cs.j/\v9=ι i/\v8=lv/\X (yU z wA.o.q wr lv (ud (cs.G i)))/\X (μ wA wr)) (λ_ v9 _ _=>cs.j-(intOf v9).D)
 case atStart=>exact⟨0,_,zs _,rfl,rfl,yU.nil _ _,zn _ _⟩
 obtain⟨i,lv,hi,rfl,ak,am,A⟩:=hrel;obtain rfl:=ak.z;clear ak;have aj:=Th (Tl V.l.bel A.l);obtain⟨b0,b1,S⟩:=a6.l _ aj.l;by_cases a1:i<cs.j
 .have b2:(i:Int)<(cs.j:Int):=η;obtain⟨g,av,ab,cb,rfl,hg,bv,c1,c2,a8,c3⟩:=aY.l _ i a1 aj.l;have ap:=Th (aQ.l i a1);obtain⟨aW,aH⟩:=aC.l i;have b9:=(ba.l _ (zq a1) cs[i].g (by simp[zm])).1;by_cases j:cs[i].d.j=0
  .have a0:X (ud (cs.G (i+1))=uy [] (ud (cs.G i)) (cs[i].g.o,cs[i].g.k,0)):=by rw[X,ap.l,zb j]
   rw[j] at c3;have bw:X (∀W,μ wr W->Calls prog 123 #[.u (Z ⟨w.o.q,0,Y⟩),lv,.d cs[i].g.o,av] W λe I=>∃v,e=.returned v/\X (yU z wA.o.q I v (uy [] (ud (cs.G i)) (cs[i].g.o,cs[i].g.k,0)))/\X (μ wA I)/\I.p ⟨g,i*4+1,Y⟩=Z (.d cs[i].g.o)/\I.p ⟨g,i*4+2,Y⟩=Z av):=λW j=>by
    have ai:=Tl A.l j;have aM:=am.l.u j;refine(Dt W w.o.q 0 _ lv av [] (ud (cs.G i)) cs[i].g.o cs[i].g.k (V.l.box.u ai) (yU.nil (z:=z) 0 W).facts aM (a8.u j) ζ η η (λf hf=>by cases hf) aH ai.q).y ?_;rintro e I ⟨v,q1,q2,q3⟩;obtain⟨_,_,aN,_⟩:=id aM;have a2:=ai.A (q3.l.u (λb j=>yW aN (xb j)) ai.q);have af:=ym bv V.l.bel.q;have k1:=(A.l.cell (p:=⟨g,i*4+1,Y⟩) af).z.A c1;have k2:=(A.l.cell (p:=⟨g,i*4+2,Y⟩) af).z.A c2;exact⟨v,q1,q2,a2,(zi a2 af k1),(zi a2 af k2)⟩
   clear a8 ap aW aH;generalize uy [] (ud (cs.G i)) (cs[i].g.o,cs[i].g.k,0)=nx at *;generalize cs[i].g.o=pr at *;go_upto_region 8 with fail
   go_region_held3 (λI=>I.p ⟨g,i*4+1,Y⟩=Z (.d pr)/\I.p ⟨g,i*4+2,Y⟩=Z av) (first|go_keep|(go_simp;done)) (first|(go_at_call 123;refine(bw.l _ φ).y ?_;rintro e w5 ⟨v5,rfl,b4,b5,z0,z1⟩))
   go_wp2;go_roundw;exact⟨i+1,_,η,ξ,rfl,by rw[a0.l];exact b4,b5⟩;simp[intOf];omega
  have a0:X (ud (cs.G (i+1))=ud (cs.G i)):=by rw[X,ap.l,za j]
  have b7:¬((cs[i].d.j:Int)=0):=η;clear a8 ap aW aH j;generalize cs[i].d.j=bl at *;go_wp2;go_roundw;exact⟨i+1,_,η,ξ,rfl,by rw[a0.l];exact am,A⟩;simp[intOf];omega
 have b2:¬(i:Int)<(cs.j:Int):=η;obtain rfl:i=cs.j:=η;have aI:X (yU z wA.o.q wr lv (ud cs)):=by rw[ay.l];exact am
 have aV:=(aC.l cs.j).1;rw[←ay.l] at aV;have aD:=V.l.box.u A.l;have ac:=Th (UI.put (zf _) aD (aI.l.low V.l.bel.q) aj.l);have T:=Th aL.l;obtain⟨aG,P,ak⟩:∃aG P,lv=.k aG (ud cs).j P:=by
  obtain⟨_,_,q,_⟩:=aI.l;exact zr q
 subst ak;obtain⟨mc,mf,x⟩:=aD.e;clear aD aI am ay aQ aC ba aY aL;generalize ud cs=L0 at *;go_upto_region 10 with fail
 generalize wr.x ⟨w.o.q,0,Y⟩ (.k aG L0.j P)=wB at *;clear mc mf x b0 b1 S A aj;obtain⟨mc,mf,x⟩:=ac.l.box.e;obtain⟨b0,b1,S⟩:=a6.l _ ac.l.bel;by_cases hq:L0.j<=mr
 .have aS:¬((mr:Int)<(L0.j:Int)):=η;have bd:X (zzk t cs mr mx t.j 0 0 L0=d):=by rw[X,T.l,zb hq]
  go_wp2;clear mc mf x b0 b1 S T;go_loopw [12,13,14] (λa4 _ _ wz=>∃(s k:Nat) (L:Θ) (E:O),s<=t.j/\a4=ι s/\L.j<=mr/\k<=mx/\X (UI z w wz w.o.q E L k)/\X (∃D,TX t (zp cs) L D)/\X (zzk t cs mr mx (t.j-s) s k L=d)) (λa4 _ _ _=>t.j-(intOf a4).D)
  case atStart=>exact⟨0,0,L0,_,zs _,rfl,hq,zs _,ac,⟨_,aT.l⟩,bd⟩
  clear ac aT bd hq aS aV;obtain⟨s,k,L,E,hs,rfl,al,an,H,F,HS⟩:=hrel;by_cases bA:s<t.j
  .have br:(s:Int)<(t.j:Int):=η;obtain⟨n,hn⟩:∃n,t.j-s=n+1:=⟨t.j-s-1,η⟩;have bp:=Th (show t.j-(s+1)=n by omega);have bb:X (d=if yv t cs s=[] then zzk t cs mr mx n (s+1) k L else match z1i t cs mr s (mx-k) k L with|none=>Y|some (L',k')=>zzk t cs mr mx n (s+1) k' L'):=by
    have q:=HS.l;rw[hn,zzk] at q;exact q.z
   have ar:=Th (bm.l wr s H.l.bel η);clear hn HS;go_wp2_with (go_at_call 124;refine ar.l.y ?_;rintro e w1 ⟨rfl,bt⟩;obtain rfl:=bt.z)
   clear ar;go_loopg [13,14] (mx+1) (λf bq _ wz=>∃(b:Bool) (k:Nat) (L:Θ) (E:O),bq=.i b/\(b=true->mx-k<f)/\L.j<=mr/\k<=mx/\X (UI z w wz w.o.q E L k)/\X (∃D,TX t (zp cs) L D)/\X (d=if b=false then zzk t cs mr mx n (s+1) k L else match z1i t cs mr s (mx-k) k L with|none=>Y|some (L',k')=>zzk t cs mr mx n (s+1) k' L'))
   case atStart=>
    refine⟨!(yv t cs s).isEmpty,k,L,E,rfl,λ_=>η,al,an,H,F,?_⟩;rw[X,bb.l];rcases yv t cs s with _|⟨a,b⟩;rfl;rfl
   clear H F bb al an;obtain⟨b,k,L,E,rfl,aE,al,an,H,F,HS⟩:=hrel;cases b
   .have ad:X (zzk t cs mr mx n (s+1) k L=d):=HS.l.z;go_wp2;go_roundw;exact⟨s+1,k,L,E,η,ξ,al,an,H,F,by rw[bp.l];exact ad⟩;simp[intOf];omega
   have ad:X (d=match z1i t cs mr s (mx-k) k L with|none=>Y|some (L',k')=>zzk t cs mr mx n (s+1) k' L'):=HS.l;have b8:=aE rfl;obtain⟨mc,mf,x⟩:=H.l.box.e;by_cases be:k=mx
   .subst be;have J:X (d=Y):=by rw[X,ad.l,j4];rfl
    clear aE;go_wp2;go_ret;unfold rN;rw[J.l];exact⟨rfl,H.l.bel⟩
   have b6:¬((k:Int)=(mx:Int)):=η;obtain⟨left,R⟩:∃left,mx-k=left+1:=⟨mx-k-1,η⟩;have bg:=Th (show mx-(k+1)=left by omega);have aB:=ad.l;rw[R,z1i] at aB;have HU:=Th (H.l.up);have M:=Th aB;clear ad R aE HS aB;go_upto_region 21 with fail
   generalize wr.x ⟨w.o.q,1,Y⟩ (ι ((k:Int)+1))=w1 at *;clear mc mf x H;obtain⟨D,hD⟩:=F.l;have aU:=Th (bf.l w1 s w.o.q E L D (k+1) HU.l hD η η);have ax:X (∃D,TX t (zp cs) (L++xY L (k+1) (yv t cs s) []) D):=⟨_,aX.l L D s (k+1) hD⟩;have a5:=bz.l _ _ (aX.l L D s (k+1) hD);rw[yK] at a5;clear hD F;generalize xY L (k+1) (yv t cs s) []=o at *;go_upto_region 22 with (first|(go_at_call 125;refine aU.l.y ?_;rintro e w2 ⟨bi,rfl,aF,aZ⟩))
   have u:=Th (HU.l.u aZ.l);clear aU HU aZ;obtain⟨aw,N,bx⟩:∃aw N,bi=.k aw o.j N:=by
    obtain⟨_,_,q,_⟩:=aF.l;exact zr q
   subst bx;obtain⟨aP,au,bk⟩:∃aP au,E=.k aP L.j au:=by
    obtain⟨_,_,q,_⟩:=u.l.fl;exact zr q
   subst bk;obtain⟨mc,mf,x⟩:=u.l.box.e;go_upto_region 23 with (first|(at_builtin;refine Ir rfl (.tmp 97) (.tmp 98) rfl _ _ _ _ rfl rfl u.l.fl aF.l η u.l.bel.q ?_;intro v8 w8 aK a7;obtain⟨az,Q,h8⟩:∃az Q,v8=.k az (L.j+o.j) Q:=by{obtain⟨_,_,q,_⟩:=aK;rw[←yK];exact zr q};subst h8;obtain⟨_,_,y,_⟩:=u.l.fl;have aJ:=u.l.box.saveT a7 (T3.own y) θ;obtain⟨b3,bs,aR⟩:=aJ.e))
   have ah:=Th (UI.put (zf _) aJ aK (u.l.bel.A (a7.u (λb j=>yW y (xb j)) u.l.bel.q)));clear mc mf x b3 bs aR aJ y aK a7 u aF;generalize w8.x ⟨w.o.q,0,Y⟩ (.k az (L.j+o.j) Q)=wN at *;obtain⟨mc,mf,x⟩:=ah.l.box.e;rw[yK] at M;by_cases C:L.j+o.j<=mr
   .have bu:¬((mr:Int)<((L.j+o.j:Nat):Int)):=η;have aa:=M.l;rw[zb C] at aa;by_cases G:o=[]
    .have J:X (d=zzk t cs mr mx n (s+1) (k+1) (L++o)):=by rw[X,aa,zb G]
     have aO:o.j=0:=by rw[G];rfl
     clear G aa M a5;have a9:X (L.j+o.j=(L++o).j):=yK.z;generalize L.j+o.j=ll at *;generalize o.j=nl at *;subst aO;go_wp2;go_roundg (mx-(k+1))
     case measure=>omega
     exact⟨false,k+1,L++o,_,rfl,λq=>(by cases q),by rw[←a9.l];exact C,η,ah,ax,J⟩
    have J:X (d=match z1i t cs mr s (mx-(k+1)) (k+1) (L++o) with|none=>Y|some (L',k')=>zzk t cs mr mx n (s+1) k' L'):=by rw[X,aa,za G,bg.l]
    have aO:(0:Int)<(o.j:Int):=by have:=List.length_pos_iff.2 G;omega
    clear G aa M a5;have a9:X (L.j+o.j=(L++o).j):=yK.z;generalize L.j+o.j=ll at *;generalize o.j=nl at *;go_wp2;go_roundg (gk-1)
    case measure=>omega
    exact⟨true,k+1,L++o,_,congrArg O.bool (decide_eq_true η),λ_=>η,by rw[←a9.l];exact C,η,ah,ax,J⟩
   have bu:((mr:Int)<((L.j+o.j:Nat):Int)):=η;have J:X (d=Y):=by rw[X,M.l,za C]
   generalize L.j+o.j=ll at *;go_wp2;go_ret;unfold rN;rw[J.l];exact⟨rfl,ah.l.bel⟩
  have br:¬(s:Int)<(t.j:Int):=η;obtain rfl:s=t.j:=η;have J:X (Z (L,k)=d):=by
   have q:=HS.l;rw[j4] at q;exact q
  go_wp2;go_ret;unfold rN;rw[←J.l];exact⟨_,rfl,⟨E,H.l.hmb,H.l.box,H.l.fl⟩,H.l.bel⟩
 have aS:((mr:Int)<(L0.j:Int)):=η;have J:X (d=Y):=by rw[X,T.l,za hq]
 go_wp2;go_ret;unfold rN;rw[J.l];exact⟨rfl,ac.l.bel⟩
def Ka(w:U)(v:O):Calls prog 34 #[v,.i true] w λe a=>e=ε (ν)/\a=w:=by
 go_enter func34,ntmps34;go_wp2;go_ret;exact⟨rfl,rfl⟩
def JF(w:U)(u v:O):Calls prog 36 #[u,v,.i true] w λe a=>e=ε (.i true)/\a=w:=by
 go_enter func36,ntmps36;go_wp2;go_ret;exact⟨rfl,rfl⟩
def KD(w:U)(u v:O):Calls prog 75 #[u,v,.i true] w λe a=>e=ε (.i true)/\a=w:=by
 go_enter func75,ntmps75;go_wp2;go_ret;exact⟨rfl,rfl⟩
def MS{c:Bool}(w:U)(u v:O)(a b:Int)(h:a<0∨1048576<a∨b<0∨1048576<b):Calls prog 37 #[u,v,.i c,ι a,ι b] w λe d=>e=ε (.tuple #[.u Y,ι 8])/\d=w:=by
 by_cases f:a<0
 .go_enter func37,ntmps37;go_wp2;go_ret2
  exact⟨rfl,rfl⟩
 by_cases i:1048576<a
 .go_enter func37,ntmps37;go_wp2;go_ret2
  exact⟨rfl,rfl⟩
 by_cases g:b<0
 .go_enter func37,ntmps37;go_wp2;go_ret2
  exact⟨rfl,rfl⟩
 have j:1048576<b:=η;go_enter func37,ntmps37;go_wp2;go_ret2
 exact⟨rfl,rfl⟩
def QP(z:Nat->Prop)(w:U)(b:Option (List z9×Nat))(e:Ending)(w':U):Prop:=match b with
 |none=>e=ε (.tuple #[.u Y,ι 10])/\X (μ w w')
 |some (L,k)=>∃a,e=ε (.tuple #[(π a),ι 0])/\X (∃c,w.o.q<=a/\Ti w' a #[c,ι k] 54/\yU z w.o.q w' c L)/\X (μ w w')
end
section
def nJ{w:U}{B T n:Nat}{v:O}{xs:Γ}(h:w.r B T 1 v n xs)(k:Nat)(f:k<n):∃g a,v=.k (Z (δ g)) n a/\g<w.o.q/\∃b:k<xs.j,w.p (ω g k)=Z xs[k]:=by
 obtain⟨g,a,c,_,e,d⟩:=yq h η;have b:k<xs.j:=by rw[h.1];omega
 exact⟨g,a,c,e,b,d k _ (yn b)⟩
def pS(B:Nat)(own:TI)(w:U)(p:nw):Prop:=(∃(a:Nat) (s:U),B<=a/\qX a s p.1 p.2.2.1 p.2.2.2/\jD a s p.2.1 p.2.2.1 p.2.2.2/\iq p.2.2.1 p.2.2.2/\Ui a s w/\s.o.q<=w.o.q/\∀b,a<=b->b<s.o.q->own b=(0,0))/\∃x,uC x=.ok (p.2.2.1,p.2.2.2)
structure VE (z:Nat->Prop) (w:U) (x m pm:Nat) (cs:List zc) (t:List zg) (lo lp:Nat) (R:zv) (L:List z9) (k:Nat) (pv nv rv fv cv nmv kv:O) (tbs:List Nat):Prop where
 res:kz lo lp w x t (zp cs) R pv nv rv tbs
 far:¬z x/\¬z m/\¬z pm
 fars:∀v,v=pv∨v=nv∨v=rv∨v=fv->∀b,v.m=Z b->¬z b
 fart:∀p (_:p<R.I.j) (_:p<tbs.j),∃fp,yb lo w tbs[p] R.I[p] fp/\∀b∈fp,¬z b
 told:TT t (zp cs) R
 rep:TX t (zp cs) L (zyx (t.w (·.jh)) R)
 cnt:L.j=R.count/\k=R.Q/\0<=R.jg
 model:Ti w m #[fv,ι k] 54
 fl:yU z 0 w fv L
 K:L.j<=1048576
 ctx:uj cs t
 prog:Ti w pm #[cv,nmv,kv] 45
 names:Ut z w nmv (Tj t)
abbrev lK:=Nat×Nat×Nat×List zc×List zg
def V0(own:TI)(w:U)(r:lK):Prop:=∃i j R L k d g f c h b e a,VE (ua own) w r.1 r.2.1 r.2.2.1 r.2.2.2.1 r.2.2.2.2 i j R L k d g f c h b e a
section
variable {B:Nat} {own own':TI} {w w':U} {N:List Nat}
def pS.keep{p:nw}(h:pS B own w p)(d:zd N w w')(i:∀b∈N,ua own b)(j:∀b,b<w.o.q->own b=(0,0)->own' b=(0,0)):pS B own' w' p:=by
 obtain⟨⟨m,s,l,g,o,n,q,r,e⟩,k⟩:=h;exact⟨⟨m,s,l,g,o,n,λb a c=>(d.block b η λf=>i b f (e b a c)).A (q b a c),zY r d.q,λb a c=>j b η (e b a c)⟩,k⟩
def pS.new{lo pb a:Nat}{cs:Ξ}{t:Ψ}(h:B<=lo)(c:qX lo w pb cs t)(g:jD lo w a cs t)(f:iq cs t)(d:∃x,uC x=.ok (cs,t))(e:∀b,lo<=b->own b=(0,0)):pS B own w (pb,a,cs,t):=
 ⟨⟨lo,w,h,c,g,f,λ_ _ _=>rfl,zf _,λb q _=>e b q⟩,d⟩
def V0.keep{r:lK}(h:V0 own w r)(t:zd N w w')(V:∀b∈N,ua own b)(K:∀b,b<w.o.q->own b=(0,0)->own' b=(0,0)):V0 own' w' r:=by
 obtain⟨C,T,R,L,k,M,Q,rv,J,cv,x,W,j,h⟩:=h;have q:∀b,¬ua own b->b∉N:=λb a c=>a (V b c);have o:∀b,b<w.o.q->¬ua own b->¬ua own' b:=λb a c d=>c λe=>d (K b a e);have l:∀{f:Nat} {e:TypeId} {s:Nat} {v:O} {n:Nat} {F:Γ},w.r f e s v n F->(∀b,v.m=Z b->¬ua own b)->w'.r f e s v n F/\∀b,v.m=Z b->¬ua own' b:=λa c=>⟨yT a t λb d=>q b (c b d),λb d=>o b (yF a d) (c b d)⟩;have g:=h.res;have D:=l g.preds (h.fars _ (zh rfl));have z:=l g.vals (h.fars _ (ze (zh rfl)));have A:=l g.I (h.fars _ (ze (ze (zh rfl))));obtain⟨y,P,S,E⟩:=h.fl;have I:=l S (h.fars _ (ze (ze (ze rfl))));have H:∀p (_:p<R.I.j) (_:p<j.j),∃m,yb C w' j[p] R.I[p] m/\∀b∈m,¬ua own' b:=λp a c=>by
  obtain⟨m,u,G⟩:=h.fart p a c;exact⟨m,u.save t λb e=>q b (G b e),λb e=>o b (u.lt b e).2 (G b e)⟩
 have f5:=l h.names.1 h.names.2;refine⟨C,T,R,L,k,M,Q,rv,J,cv,x,W,j,⟨g.low,g.box.save t (q _ h.far.1),D.1,z.1,A.1,g.tlen,λp a c=>?_,g.K⟩,⟨o _ g.box.lt h.far.1,o _ h.model.lt h.far.2.1,o _ h.prog.lt h.far.2.2⟩,?_,H,h.told,h.rep,h.cnt,h.model.save t (q _ h.far.2.1),⟨y,P,I.1,λi a c=>l (E i a c).1 (E i a c).2⟩,h.K,h.ctx,h.prog.save t (q _ h.far.2.2),f5⟩;obtain⟨m,u,_⟩:=H p a c;exact⟨m,u⟩;rintro v (rfl|rfl|rfl|rfl);exact D.2;exact z.2;exact A.2;exact I.2
end
abbrev ey:=Nat×Nat×List Int
abbrev iY:=Option (Nat×Nat×Nat×Nat)
def LS:iY->O
 |none=>ν
 |some (g,f,n,a)=>.k (Z ⟨g,f,Y⟩) n (n+a)
def NJ(a:List ey):iY->Prop
 |none=>True
 |some (g,f,n,b)=>∃x∈a,x.1=g/\f+n+b<=x.2.2.j
def Qv(a:List ey):List Value:=a.w λx=>sl x.1 x.2.2.j
def Nh(a:List ey):List Value:=a.w λx=>sl x.2.1 x.2.2.j
def rM(l:List Int):Array Value:=(l.w (O.int .i64)).F
def mj(rs:List lK):List Value:=rs.flatMap λr=>[.u (Z ⟨r.1,0,Y⟩),.u (Z ⟨r.2.1,0,Y⟩),.u (Z ⟨r.2.2.1,0,Y⟩)]
def Vc(x:Int):Prop:=-9223372036854775808<=x/\x<=9223372036854775807
structure yZ where
 ps:List nw
 rs:List lK
 row:κ
 ins:List ey
 ord:List iY
 a:Int
 n:Int
 ex:Int
 nn:Bool
 ls:List nC
 J:List (Nat×Nat)
 N:List (Nat×Nat)
def yZ.f(M:yZ):Nat->UR
 |0=>Z (40,2,M.ps.j,nc M.ps)
 |1=>Z (50,3,M.rs.j,mj M.rs)
 |2=>Z (24,1,M.ins.j,Qv M.ins)
 |3=>Z (24,1,M.ins.j,Nh M.ins)
 |7=>Z (24,1,M.ord.j,M.ord.w LS)
 |9=>Z (9,1,M.row.j,M.row.w .d)
 |10=>Z (30,1,M.ls.j,iu M.ls)
 |11=>Z (30,1,M.ls.j,iE M.ls)
 |12=>Z (31,1,M.J.j,mh M.J)
 |13=>Z (91,1,M.N.j,mh M.N)
 |_=>Y
structure sC (B:Nat) (own:TI) (w:U) (M:yZ):Prop where
 ints:∀k (h:k<M.ins.j),(own M.ins[k].1=(20,k+1)/\Ti w M.ins[k].1 (rM M.ins[k].2.2) 3)/\(own M.ins[k].2.1=(21,k+1)/\Ti w M.ins[k].2.1 (rM M.ins[k].2.2) 3)/\M.ins[k].2.2.j<=1048576
 win:∀o∈M.ord,NJ M.ins o
 z:Vc M.a/\Vc M.n/\Vc M.ex
 lists:∀k (h:k<M.ls.j),(own M.ls[k].1=(22,k+1)/\To B w (sl M.ls[k].1 M.ls[k].2.2.j) M.ls[k].2.2)/\(own M.ls[k].2.1=(23,k+1)/\To B w (sl M.ls[k].2.1 M.ls[k].2.2.j) M.ls[k].2.2)/\M.ls[k].2.2.j<=1000
 J:∀i (h:i<M.J.j),own M.J[i].1=(0,0)/\∃hs:List Nat,hs.j=M.J[i].2/\M.J[i].2<=1048576/\w.r B 30 1 (sl M.J[i].1 M.J[i].2) M.J[i].2 (hs.w (vr (i+1)))/\∀x∈hs,own x=(0,0)/\∃c,Ti w x c 9/\c[0]?=Z (.d ByteArray.empty)
 N:∀i (h:i<M.N.j),own M.N[i].1=(0,0)/\∃hs:List Nat,hs.j=M.N[i].2/\M.N[i].2<=1000/\w.r B 90 3 (sl M.N[i].1 M.N[i].2) M.N[i].2 (T4 (hs.w (tL i)))
 pairs:∀p∈M.ps,pS B own w p
 ress:∀r∈M.rs,V0 own w r
section
variable {B:Nat} {own own':TI} {w w':U} {N:List Nat} {M:yZ}
def sC.keep(h:sC B own w M)(A:zd N w w')(R:∀b∈N,0<(own b).1/\(own b).1<20)(C:∀b,b<w.o.q->(own b).1=0∨20<=(own b).1->own' b=own b):sC B own' w' M:=by
 have l:∀b,b<w.o.q->own b=(0,0)->own' b=(0,0):=λb q e=>(C b q (zh (by rw[e]))).A e;have Q:∀b∈N,ua own b:=λb j e=>by have:=(R b j).1;rw[e] at this;cases this
 have q:∀b t,own b=t->t.1=0∨20<=t.1->b∉N:=λb t e a hm=>by have:=R b hm;rw[e] at this;omega
 have F:∀{b:Nat} {c:Array O} {T:TypeId} {t:Vv},own b=t->t.1=0∨20<=t.1->Ti w b c T->own' b=t/\Ti w' b c T:=λe a j=>⟨(C _ j.lt (by rw[e];exact a)).A e,j.save A (q _ _ e a)⟩;have z:∀{g n:Nat} {d:Nat} {e:TypeId} {s m:Nat} {L:Γ} {t:Vv},own g=t->t.1=0∨20<=t.1->w.r d e s (sl g n) m L->own' g=t/\w'.r d e s (sl g n) m L:=λe a P=>⟨(C _ (yF P rfl) (by rw[e];exact a)).A e,yT P A λb j=>by cases j;exact q _ _ e a⟩;refine⟨λk E=>?_,h.win,h.z,λk E=>?_,λi J=>?_,λi J=>?_,λp hp=>(h.pairs p hp).keep A Q l,λr W=>(h.ress r W).keep A Q l⟩;obtain⟨⟨f,v⟩,⟨u,K⟩,G⟩:=h.ints k E;exact⟨F f (ze ζ) v,F u (ze ζ) K,G⟩;obtain⟨⟨y,f⟩,⟨I,u⟩,G⟩:=h.lists k E;exact⟨z y (ze ζ) f,z I (ze ζ) u,G⟩;obtain⟨y,H,f,v,D,V⟩:=h.J i J;have o:=z y (zh rfl) D;refine⟨o.1,H,f,v,o.2,λx hx=>?_⟩;obtain⟨I,c,u,K⟩:=V x hx;have S:=F I (zh rfl) u;exact⟨S.1,c,S.2,K⟩;obtain⟨y,H,f,v,D⟩:=h.N i J;have o:=z y (zh rfl) D;exact⟨o.1,H,f,v,o.2⟩
end
structure yA (B:Nat) (own:TI) (w:U) (wb:Nat) (M:yZ) (V:Nat->O):Prop where
 hd:U4 B own w wb M.f V
 inn:sC B own w M
 nums:V 4=ι M.a/\V 5=ι M.n/\V 6=ι M.ex/\V 8=.i M.nn
section
variable {B:Nat} {own:TI} {w w' w2:U} {wb:Nat} {M M':yZ} {V:Nat->O}
def yA.u(h:yA B own w wb M V)(a:μ w w'):yA B own w' wb M V:=⟨h.hd.u a,h.inn.keep (zd.of (M:=[]) a) ζ (λ_ _ _=>rfl),h.nums⟩
def yA.down(h:yA B own w wb M V)(k:xV own w w'):Below B w w':=by
 obtain⟨N,c,d⟩:=k;exact c.u (λb a=>h.hd.low b (d b a)) h.hd.q
def yA.box(h:yA B own w wb M V):Ti w wb #[V 0,V 1,V 2,V 3,ι M.a,ι M.n,ι M.ex,V 7,.i M.nn,V 9,V 10,V 11,V 12,V 13] 35:=by
 have:=h.hd.box;obtain⟨b,d,a,c⟩:=h.nums;rw[←b,←d,←a,←c];exact this
def yA.tags(h:yA B own w wb M V)(f:Nat)(d:f<14):∀b∈wb::(V f).m.v,(0<(own b).1/\(own b).1<20)/\ua own b:=λb a=>by
 rcases zG.1 a with rfl|a
 .exact⟨by rw[h.hd.tag];decide,by unfold ua;rw[h.hd.tag];decide⟩
 .obtain⟨c,_⟩:=h.hd.tg f b (xb a);exact⟨by rw[c];exact⟨ζ,by simp;omega⟩,by unfold ua;rw[c];simp⟩
def yA.more{own':TI}(h:yA B own w wb M V)(a:μ w w')(c:∀b,b<w.o.q->own' b=own b)(d:∀b,w'.o.q<=b->own' b=(0,0)):yA B own' w' wb M V:=
 ⟨h.hd.gen [] (zd.of (M:=[]) a) ζ (h.hd.box.u a) c d (λ_ _=>⟨rfl,rfl⟩) ζ,h.inn.keep (zd.of (M:=[]) a) ζ (λb q _=>c b q),h.nums⟩
def yA.save{N:Φ}(h:yA B own w wb M V)(a:zd N w w')(d:∀b∈N,own b=(19,1)):yA B own w' wb M V:=
 ⟨h.hd.gen [] a (λb c=>ze (ze (by rw[d b c];simp))) (h.hd.box.save a λe=>by have:=d _ e;rw[h.hd.tag] at this;cases this) (λ_ _=>rfl) (λb q=>h.hd.new b (zY a.q q)) (λ_ _=>⟨rfl,rfl⟩) ζ,h.inn.keep a (λb c=>by rw[d b c];simp) (λ_ _ _=>rfl),h.nums⟩
def yA.retag{own':TI}(h:yA B own w wb M V)(c:∀b,own b≠(19,1)->own' b=own b):yA B own' w wb M V:=
 have a:=h.hd
 ⟨⟨λb q=>a.low b λe=>q ((c b (by rw[e];decide)).A e),a.box,(c wb (by rw[a.tag];decide)).A a.tag,λb q=>(c b (by rw[a.new b q];decide)).A (a.new b q),a.row,λf b q=>⟨(c b (by rw[(a.tg f b q).1];simp)).A (a.tg f b q).1,(a.tg f b q).2⟩⟩,h.inn.keep (zd.refl [] w) ζ (λb _ q=>c b λe=>by rw[e] at q;simp at q),h.nums⟩
def yA.put(h:yA B own w wb M V){f:Nat}(t:f<14){v:O}(m:∀g,g≠f->M'.f g=M.f g){T:TypeId}{s n:Nat}{xs:Γ}(d:M'.f f=Z (T,s,n,xs))(k:w2.r B T s v n xs)(u:zd (V f).m.v w w2)(e:v.m=(V f).m∨v.m=Y∨∃g,v.m=Z g/\w.o.q<=g)(p:fd V f v 4=ι M'.a/\fd V f v 5=ι M'.n/\fd V f v 6=ι M'.ex/\fd V f v 8=.i M'.nn)
  (o:∀own' w',sC B own' w' M->zd (wb::(V f).m.v) w w'->(∀b,b<w.o.q->own' b=own b)->sC B own' w' M'):
  (∃own',yA B own' (w2.x (ω wb f) v) wb M' (fd V f v)/\∀b,b<w.o.q->own' b=own b)/\xV own w (w2.x (ω wb f) v)/\zd (wb::(V f).m.v) w (w2.x (ω wb f) v):=by
 have j:=h.tags f t;obtain⟨l,c,i⟩:=h.hd.put (F':=M'.f) (v:=v) m (λA z y x q=>by rw[d] at q;cases q;exact k) u (λb a=>by
  rcases e with q|q|⟨g,q,r⟩;exact zh (q ▸ a);rw[q] at a;cases a;have:=yF k a;rw[q] at a;cases a;exact ze ⟨r,this⟩)
 exact⟨⟨_,⟨l,o _ _ (h.inn.keep c (λb a=>(j b a).1) λb q _=>i b q) c i,p⟩,i⟩,⟨_,c,λb a=>(j b a).2⟩,c⟩
end
structure m7 (M M':yZ):Prop where
 ps:M'.ps.j<=M.ps.j+1
 rs:M'.rs.j<=M.rs.j+1
 row:M'.row.j<=M.row.j+1
 ins:M'.ins.j<=M.ins.j+1
 ord:M'.ord.j<=M.ord.j+1
 ls:M'.ls.j<=M.ls.j+1048576
 J:M'.J.j<=M.J.j+1
 N:M'.N.j<=M.N.j+1
 nn:M'.nn=M.nn
def m7.refl(M:yZ):m7 M M:=⟨η,η,η,η,η,η,η,η,rfl⟩
def Uv(B:Nat)(own:TI)(w:U)(wb:Nat)(M:yZ)(e:Ending)(w':U):Prop:=e=ε (.i true)/\X (∃own' M' a,yA B own' w' wb M' a/\m7 M M'/\∀b,b<w.o.q->own' b=own b)/\X (xV own w w')
def mA(B:Nat)(own:TI)(w:U)(wb:Nat)(M:yZ)(c:O)(e:Ending)(w':U):Prop:=e=ε (.i true)/\X (∃own' M' a,yA B own' w' wb M' a/\m7 M M'/\(∀b,b<w.o.q->own' b=own b)/\M'.rs=M.rs/\a 1=c)/\X (xV own w w')
def mA.a{B:Nat}{own:TI}{w:U}{wb:Nat}{M:yZ}{i:O}{e:Ending}{w':U}(h:mA B own w wb M i e w'):Uv B own w wb M e w':=by
 obtain⟨a,⟨own',M',d,c,b,f,_⟩,g⟩:=h;exact⟨a,⟨own',M',d,c,b,f⟩,g⟩
def mA.kept{B:Nat}{own:TI}{w b:U}{wb:Nat}{M:yZ}{V:Nat->O}(h:yA B own w wb M V)(a:μ w b):mA B own w wb M (V 1) (ε (.i true)) b:=⟨rfl,⟨own,M,V,h.u a,m7.refl M,λ_ _=>rfl,rfl,rfl⟩,xV.of a⟩
def Uv.kept{B:Nat}{own:TI}{w b:U}{wb:Nat}{M:yZ}{V:Nat->O}(h:yA B own w wb M V)(a:μ w b):Uv B own w wb M (ε (.i true)) b:=⟨rfl,⟨own,M,V,h.u a,m7.refl M,λ_ _=>rfl⟩,xV.of a⟩
end
section
open Go.Proofs.Tryz
def IT{S B:Nat}{own:TI}{w:U}{u:Nat}{M:yZ}{V:Nat->O}(h:yA B own w u M V){g:Nat}{l:κ}{vb:O}(hg:own g=(22,M.ls.j+1))(W:To B w (sl g l.j) l)(r:To S w vb l)(hl:l.j<=1000)(hn:M.ls.j<=2000000000000):
  Calls prog 41 #[(π u),sl g l.j,vb] w λe J=>e=ε (.i true)/\X (∃a V' v,yA B a J u {M with ls:=M.ls++[(g,v,l)]} V'/\(∀b,b<w.o.q->a b=own b)/\V' 1=V 1)/\X (∃N,zd N w J/\∀b∈N,own b=(1,0)∨own b=(12,0)∨own b=(13,0)):=by
 have R:w.r B 30 1 (V 10) M.ls.j (iu M.ls):=h.hd.row 10 _ _ _ _ rfl;have Q:w.r B 30 1 (V 11) M.ls.j (iE M.ls):=h.hd.row 11 _ _ _ _ rfl;have z:=h.hd.tg 10;have y:=h.hd.tg 11;have hB:=h.hd.q;refine(N3 B w u (V 0) (V 1) (V 2) (V 3) _ _ _ (V 7) _ (V 9) (V 10) (V 11) (V 12) (V 13) M.ls.j _ _ g l vb h.box R Q h.hd.wlow (λb q1 q2=>by have:=(z b q1).1;rw[(y b q2).1] at this;cases this) W r hl hn).y λe J ⟨he,c,i,v,E,p,t,af,j,ad,ac,D,m⟩=>?_;have hs:=m.q;have ae:v<J.o.q:=yF j rfl;have hN:∀b∈u::((V 10).m.v++(V 11).m.v),b=u∨(∃f∈[10,11],(V f).m=Z b)∨(own b).2≠0:=λb r=>by
  rcases zG.1 r with e|e;exact zh e;rcases ya.1 e with e|e;exact ze (zh ⟨10,ζ,xb e⟩);exact ze (zh ⟨11,ζ,xb e⟩)
 have x:∀b∈u::((V 10).m.v++(V 11).m.v),own b=(1,0)∨own b=(12,0)∨own b=(13,0):=λb r=>by
  rcases zG.1 r with rfl|e;exact zh h.hd.tag;rcases ya.1 e with e|e;exact ze (zh (z b (xb e)).1);exact ze (ze (y b (xb e)).1)
 have P:∀b,c.m=Z b->own b=(12,0)∨w.o.q<=b:=λb q=>by
  rcases ad with e|⟨g1,e,o⟩;exact zh (z b (e ▸ q)).1;rw[e] at q;cases q;exact ze o
 have K:∀b,i.m=Z b->own b=(13,0)∨w.o.q<=b:=λb q=>by
  rcases ac with e|⟨g1,e,o⟩;exact zh (y b (e ▸ q)).1;rw[e] at q;cases q;exact ze o
 have G:c.m≠Z v:=λq=>n9 j p θ rfl q;have F:i.m≠Z v:=λq=>n9 j t θ rfl q;obtain⟨a,d⟩:∃a:TI,∀b,a b=if i.m=Z b then(13,0) else if c.m=Z b then(12,0) else if v=b then(23,M.ls.j+1) else own b:=⟨_,λ_=>rfl⟩
 have I:∀b,b<w.o.q->a b=own b:=λb q=>by
  rw[d];split;rename_i e;rcases K b e with o|o;exact o.z;omega;split;rename_i e;rcases P b e with o|o;exact o.z;omega;rw[za η]
 have L:a v=(23,M.ls.j+1):=by rw[d,za F,za G,zb rfl]
 have hI:=h.inn.keep m (λb r=>by rcases x b r with q|q|q<;>rw[q]<;>simp) λb q _=>I b q;have aa:g<w.o.q:=yF W rfl;have ab:g∉u::((V 10).m.v++(V 11).m.v):=λhm=>by rcases x g hm with q|q|q<;>rw[hg] at q<;>simp at q
 refine⟨he,⟨a,λf=>if f=10 then c else if f=11 then i else V f,v,⟨h.hd.gen [10,11] m hN ?_ I (λb q=>?_) (λf A=>?_) (λf A=>?_),{hI with lists:=λk hk=>?_},h.nums⟩,I,rfl⟩,⟨_,m,x⟩⟩;obtain⟨e1,o,e3,e4⟩:=h.nums;rw[←e1,←o,←e3,←e4] at E;exact E;rw[d,za (λe=>by have:=yF t e;omega),za (λe=>by have:=yF p e;omega),za η];exact h.hd.new b η;simp at A;refine⟨by simp[A.1,A.2],?_⟩;unfold yZ.f;split<;>first|rfl|omega
 simp at A;rcases A with rfl|rfl;refine⟨λT s n xs q=>?_,λb q=>?_⟩;cases q;simpa [iu,sl] using p;have C:c.m=Z b:=q;exact⟨by rw[d,za (D b C),zb C],yF p C⟩;refine⟨λT s n xs q=>?_,λb q=>?_⟩;cases q;simpa [iE,sl] using t;have C:i.m=Z b:=q;exact⟨by rw[d,zb C],yF t C⟩;by_cases H:k<M.ls.j;have:=hI.lists k H;simp only[uG H];exact this;obtain rfl:k=M.ls.j:=by simp at hk;omega
 simp only[pO];exact⟨⟨(I g aa).A hg,yT W m λb r=>by cases r;exact ab⟩,⟨L,yo j hB⟩,hl⟩
end
def AA{t:Ψ}(d:y6 (Tj t))(n:ByteArray):(zU t n).I=yi n (Tj t):=by
 cases b:yi n (Tj t);rcases a:zU t n with _|e;rfl;obtain⟨h,g,c⟩:=jn a;have:yi n (Tj t)=true:=vS.2 (zF.2 ⟨e,by rw[←g];exact zq _,c⟩);rw[b] at this;cases this;obtain⟨e,a,rfl⟩:=zF.1 (vS.1 b);obtain⟨p,f,rfl⟩:=vQ.1 a;rw[(oP d f).1];rfl
def ou(b:Bool)(o:Option Nat)(L:List z9):Nat×Nat:=if b=true then(match o with|none=>(0,12)|some k=>(((L[k]?).w (·.2.2)).getD 0,0)) else(0,11)
def Py{cs:Ξ}{t:Ψ}(b:uj cs t){L:Θ}{R:zv}(c:TT t (zp cs) R)(h:TX t (zp cs) L (zyx (t.w (·.jh)) R))(a:ByteArray)(row:κ):pu t (zp cs) R a row=ou (yi a (Tj t)) (yP a row L) L:=by
 rw[Ob b c h,←AA b.rise];rfl
def Cf(n:ByteArray)(l:κ)(x:ByteArray):yi n (l++[x])=(yi n l||decide (x=n)):=by
 induction l with
 |nil=>simp[yi]
 |cons a l b=>simp only[lr,yi,b,Bool.or_assoc]
def JI(cs:Γ):splice (madeCells #[O.string ByteArray.empty] (cs.j+2)).v 0 cs=cs++[.d ByteArray.empty,.d ByteArray.empty]:=by
 have e:(madeCells #[O.string ByteArray.empty] (cs.j+2)).v=List.replicate cs.j (O.string ByteArray.empty)++[.d ByteArray.empty,.d ByteArray.empty]:=by
  have:(madeCells #[O.string ByteArray.empty] (cs.j+2)).v=List.replicate (cs.j+2) (O.string ByteArray.empty):=by
   unfold madeCells;apply jv;simp;intro i a b;simp[Nat.mod_one]
  rw[this,←List.replicate_append_replicate];rfl
 rw[e];unfold splice;simp
def PX{w:U}{b:Nat}{row:κ}{u v:O}(h:Ti w b (row.w O.string++[u,v]).F 9)(a:row.j<=2000000):To 0 w (.k (Z (δ b)) row.j (row.j+2)) row:=by
 refine⟨ζ,ze ⟨b,row.j+2,_,rfl,zs _,h,η,by unfold maxLen;omega,ζ,ζ⟩⟩
section
open Go.Proofs.Tryz
def SS:(prog.info? 50).w (λi=>(i.zero,i.q,i.bytes))=Z (Z (.agg #[.u Y,.u Y,.u Y]),3,24):=χ
structure Vz (cs:List zc) (t0 t:List zg):Prop where
 parts:T0 cs t0 t
 ctx:uj cs t
 len:cs.j<=1000
 names:t.j<=1000
 low:∀c∈cs,xM t c.g.o<=1000
 d:∀c∈cs,c.d.j<=30
 k:∀c∈cs,∀l∈zm c,l.k.j<=3/\∀a∈l.k,0<a.q
 K:∀L D,TX t (zp cs) L D->L.j<1000000000000/\∀c∈cs,(yu L c.g c.d c.d []).j<=1000000000000
def Mk{x:ByteArray}{cs:Ξ}{t:Ψ}(h:uC x=.ok (cs,t)):∃j,Vz cs j t:=by
 obtain⟨j,b⟩:=Im h;have m:=IF h;have g:=uj.of m b;obtain⟨_,e,_⟩:=b.low;have o:=b.K;have k:t.j<=1000:=η;have i:∀c∈cs,rz c:=λc q=>(m c q).fine (b.many c q);refine⟨j,b,g,b.runok.1.len,k,λc d=>?_,λc d=>?_,λc d l e=>⟨(g.lit c d l e).2.2.2,λa n=>(((i c d).1 l e).2.2.2 a n).1⟩,Lx b g k (Mn h)⟩;rw[i8];have:=BO b.least (ps:=Tj t) (λc d l e=>Hc b d e) (Hc b d (l:=c.g) (by simp[zm]));simp only[Tj,xt] at this;omega;have f:=b.many c d;unfold yQ at f;simp only[pJ,decide_eq_false_iff_not] at f;have:=f.1.1.1;omega
def Rg(g pb:Nat)(t:List zg)(ns:κ)(o:Option (DB×Nat))(w:U)(e:Ending)(w':U):Prop:=match o with
 |none=>e=ε (.tuple #[.u Y,ι 10])/\X (μ w w')
 |some x=>∃c,e=ε (.tuple #[(π c),ι 0])/\X (∃R b f d a,kz w.o.q g w' c t ns R b f d a/\w.p ⟨pb,1,Y⟩=Z b/\TT t ns R/\zyx (t.w (·.jh)) R=x.1/\R.Q=x.2/\lA x.1 R.count/\R.count<=1048576/\0<=R.jg)/\X (μ w w')
def LD{l:Nat}(w:U)(pb:Nat){s:ByteArray}{cs:Ξ}{F t:Ψ}(j:uC s=.ok (cs,t))(J:qX l w pb cs t)(h:T0 cs F t)(i:l<=w.o.q)(n:O)(os:Option (List (Option (List Int))))(E:jZ w n os)(k:vw cs os=true)(mr mx:Nat)(r:mr<=1048576)(u:mx<=1048576):
  Calls prog 35 #[(π pb),n,ι mr,ι mx] w λe v=>Rg l pb t (zp cs) (z0n (vf t (zp cs) Y cs) mr mx) w e v:=by
 obtain⟨y,d⟩:=h.runos k;have p:∀c∈cs,(zx c).j<=5:=λc j=>fm (h.many c j);have f:=BA k p;have a:=Ki h (zp cs) Y os (BA rfl p) f (mr:=mr) (mx:=mx);obtain⟨N,I⟩:=Nb d (mr:=mr) (mx:=mx) r;obtain⟨g,q,C,M⟩:=I N (zf _);refine(OA w pb cs t n os mr mx N g J E y k r u i q).y ?_;intro e v b;rcases g with _|R;rw[a,C rfl];exact b;obtain⟨o,Q,z⟩:=M R rfl;obtain⟨P,x,G,L,m,B,D,H,A⟩:=b;rw[z] at a;have K:=h.told o rfl a η;rw[a];exact⟨P,D,⟨R,x,G,L,m,H,B,K,rfl,rfl,o.card d.small,η,KS j h os f u q⟩,A⟩
section
variable {B:Nat} {own:TI} {w:U} {wb:Nat} {M:yZ} {V:Nat->O}
def QZ(h:yA B own w wb M V)(s:ByteArray)(hs:s.q<=1048576)(af:M.ps.j<=1048576):
  Calls prog 16 #[(π wb),.d s] w λe w'=>Uv B own w wb M e w':=by
 have c:s.q<=9223372036854775807:=η;have I:=h.hd.q;have H:=Th h;cases A:uC s with
 |error k=>
  have hk:=Pb A;have x:=Th A;clear A h;go_enter func16,ntmps16;go_wp2_with (first|(go_at_call 32;refine(M3 x.l _ c).y ?_;rintro e w1 ⟨rfl,d⟩)|(go_at_call 33;refine(K7 x.l _ c).y ?_;rintro e w2 ⟨rfl,i⟩))
  go_ret;exact Uv.kept H.l (Tl d i)
 |ok p=>
  obtain⟨cs,t⟩:=p;obtain⟨i0,hi,D,F,L⟩:=info_parts SO;have x:=Th A;obtain⟨z,m,E⟩:=zr (h.hd.row 0 _ _ _ _ rfl);have K:X (∀W,μ w W->W.r B 40 2 (.k z M.ps.j m) M.ps.j (nc M.ps)/\Ti W wb #[.k z M.ps.j m,V 1,V 2,V 3,ι M.a,ι M.n,ι M.ex,V 7,.i M.nn,V 9,V 10,V 11,V 12,V 13] 35):=λW hW=>by
   rw[←E];exact⟨(h.u hW).hd.row 0 _ _ _ _ rfl,(h.u hW).box⟩
  have HV:=Th E;clear A h E;go_enter func16,ntmps16;go_wp2_with (first|(go_at_call 32;refine(Ox x.l _ c).y ?_;rintro e w1 ⟨p1,rfl,J,d⟩)|(go_at_call 33;refine(Qi x.l _ c).y ?_;rintro e w2 ⟨p2,rfl,C,i⟩;have g:=Tl d i;obtain⟨o,a⟩:=K.l _ g;obtain⟨ad,ab,S⟩:=a.e;have aa:=g.q)|(at_builtin;refine kd w2 _ [(π p1),(π p2)] _ rfl (.tmp 35) (.tmp 39) 28 rfl B 40 i0 _ 2 16 underlying28 hi D F L rfl θ _ _ _ rfl o (zn _ _) _ _ rfl ζ rfl a_ η η η ?_;intro v' w3 y v l;obtain⟨ae,R,rfl⟩:=zr y;have P:=a.save v (jt o a θ);obtain⟨ac,ag,Q⟩:=P.e))
  go_ret;have u:=H.l.u g;rw[←HV.l] at v l;obtain⟨⟨r,r1,r2⟩,r3,_⟩:=u.put (f:=0) (M':={M with ps:=M.ps++[(p1,p2,cs,t)]}) θ (λf hf=>by unfold yZ.f;split<;>first|rfl|omega) (T:=40) (s:=2) (n:=M.ps.j+1) (by simp[yZ.f,nc]) y v (l.imp_right ze) u.nums λr w' j N G=>⟨j.ints,j.win,j.z,j.lists,j.J,j.N,λp hp=>by
   rcases ya.1 hp with q|q;exact j.pairs p q;rw[xL.1 q];exact(pS.new (own:=own) I (J.u i) (C.low d.q) (J7 x.l) ⟨s,x.l⟩ H.l.hd.new).keep N (λb hb=>(u.tags 0 θ b hb).2) (λb q1 q2=>(G b q1).A q2),j.ress⟩
  exact⟨rfl,⟨r,_,_,r1,⟨ζ,ζ,ζ,ζ,ζ,ζ,ζ,ζ,rfl⟩,λb q=>r2 b η⟩,(xV.of g).A r3 λ_ _=>rfl⟩
end
end
end Go.Proofs.YteampbddflhngaaGreat
