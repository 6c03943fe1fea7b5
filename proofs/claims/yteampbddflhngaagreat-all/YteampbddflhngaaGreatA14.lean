import Derived.Test.YteampbddflhngaaGreatA13
namespace Go.Proofs.YteampbddflhngaaGreat
open List renaming length→List.j,take→List.G,toArray→List.F,foldl→List.H,filter_nil→k_,filter_cons_of_pos→l_,filter_cons_of_neg→m_,replicate→n_,flatMap_append→o_
open _root_.Array renaming size→Array.q,toList→Array.v,foldl→Array.H
open _root_.ByteArray renaming size→ByteArray.q,toList→ByteArray.v,empty→g_
open Go.RowKit.Below renaming size→Go.RowKit.Below.q,setCell→Go.RowKit.Below.x,mono→Go.RowKit.Below.y,trans→Go.RowKit.Below.A,alloc→Go.RowKit.Below.C
open Go.TypeInfo renaming size→Go.TypeInfo.q
open Go.World.grownBy renaming size→Go.World.grownBy.q
open Go.RowKit.Hid renaming out→Go.RowKit.Hid.l
open Go.Shut renaming out→Go.Shut.l
open Go.World renaming heap→Go.World.o,setCell→Go.World.x,cell?→Go.World.p,alloc→Go.World.C,ownsRow→Go.World.r
open Go.Value renaming slice→Go.Value.k,string→Go.Value.g,bool→Go.Value.i,cells→Go.Value.E,ownBlock→Go.Value.m,pointer→Go.Value.u,string→h_,slice→i_
open Go.TypeDesc renaming slice→Go.TypeDesc.k,string→Go.TypeDesc.g,bool→Go.TypeDesc.i,pointer→Go.TypeDesc.u
open Go.Calls renaming mono→Go.Calls.y
open Eq renaming trans→Eq.A,symm→Eq.z
open Iff renaming trans→Iff.A,symm→Iff.z
open Go.Obj renaming cells→Go.Obj.E
open Option renaming toList→Option.v,isSome→Option.I,map_map→r_,some→Z,none→Y
open Int renaming toNat→Int.D
open UInt8 renaming toNat→UInt8.D
open Ne renaming symm→Ne.z
open Go.Act renaming eval→j_
open Nat renaming lt_of_le_of_lt→p_
open Go.Addr renaming add_lit→q_
open Go.RowKit renaming Hid→X,intOf→d_
open Go renaming World→U,Value→O,Calls→c_,TypeId→f_
open Go.Proofs.Tryz renaming prog→e_
set_option linter.all false
set_option maxRecDepth 100000
set_option maxHeartbeats 8000000
open Go.RowKit
section
open Go.Proofs.Tryz
variable {B:yC}{lo:Nat}
def MN{t:Λ}(c:qT B)(a:0<t.q):dD B t=true↔yv B t≠g_:=by
 unfold dD yv;cases zV t;simp only[Bool.not_false,Bool.true_or,true_iff,fh,if_false];rintro rfl;exact zC a θ;simp only[pA,pT,if_true];rcases b:UK B t with _|x;simp;simp[c t x b]
def Tr{y z:Λ}(c:qT B)(b:z≠g_):qT (B++[(y,z)]):=by
 intro v x h;rw[tS] at h;rcases a:UK B v with _|u;rw[a] at h;simp only[Option.none_or,UK] at h;split at h;cases h;exact b;cases h;rw[a] at h;simp only[Option.some_or,zt] at h;rw[←h];exact c v u a
structure CR (lo:Nat) (w:U) (cb:Nat) (B:yC) (v1 v2:O):Prop where
 box:U3 w cb #[v1,v2] 270
 fst:w.r lo 9 1 v1 B.j ((xE B).map h_)
 snd:w.r lo 9 1 v2 B.j ((ui B).map h_)
 ne:∀b,v1.m=Z b->v2.m≠Z b
def CR.sf{w:U}{a:Nat}{v1 v2:O}(h:CR lo w a B v1 v2):U7 lo w v1 (xE B):=by unfold U7;rw[oX];exact h.fst
def CR.ss{w:U}{a:Nat}{v1 v2:O}(h:CR lo w a B v1 v2):U7 lo w v2 (ui B):=by unfold U7;rw[Cl];exact h.snd
def CR.u{lo:Nat}{w w':U}{b:Nat}{B:yC}{v1 v2:O}(h:CR lo w b B v1 v2)(a:μ w w'):CR lo w' b B v1 v2:=⟨h.box.u a,zy h.fst a,zy h.snd a,h.ne⟩
def Tz{aS lo3 bb:Nat}(w:U)(vv lv av rv:O)(B:yC)(args row:List Λ)(h1:U7 lo w vv (xE B))(h2:U7 aS w lv (ui B))(h3:U7 lo3 w av args)(h4:U7 bb w rv row)(hl:B.j<=100)(ha:args.j<=100)(hr:row.j=args.j)(aN:∀a∈args,0<a.q)(hF:qT B)(aT:∀x∈row,x≠g_):
  c_ e_ 196 #[.agg #[vv,lv],av,rv] w λe T=>∃(n1 c1:Nat) (o1:Option Addr) (n2 c2:Nat) (o2:Option Addr),e=ε (.tuple #[.agg #[.k o1 n1 c1,.k o2 n2 c2],.i (xG B args row).I])/\X (∀B',xG B args row=Z B'->U7 w.o.q T (.k o1 n1 c1) (xE B')/\U7 w.o.q T (.k o2 n2 c2) (ui B')/\B'.j<=B.j+args.j)/\X (μ w T):=by
 obtain⟨i0,hi,aO,aM,aZ⟩:=info_parts Uw;have aH:X (∀W,μ w W->U7 lo W vv (xE B)/\U7 aS W lv (ui B)):=λW i=>⟨h1.u i,h2.u i⟩;obtain⟨ao,b1,rfl⟩:=h3.qm;obtain⟨bi,bw,rfl⟩:=h4.qm;have HA:X (∀W k (hk:k<args.j),μ w W->∃g,ao=Z ⟨g,0,Y⟩/\g<W.o.q/\W.p ⟨g,k,Y⟩=Z (.g args[k])):=λW k hk i=>(h3.u i).cell k hk;have HR:X (∀W k (hk:k<row.j),μ w W->∃g,bi=Z ⟨g,0,Y⟩/\g<W.o.q/\W.p ⟨g,k,Y⟩=Z (.g row[k])):=λW k hk i=>(h4.u i).cell k hk;have e1:(xE B).j<=1000000:=by simp[xE];omega
 have e2:(ui B).j<=1000000:=by simp[ui];omega
 clear h1 h2 h3 h4;go_enter func196,ntmps196;go_upto_region 2 with fail
 have a5:X (μ w (((w.C (.E #[vv,lv] 270)).C (.E #[ν,ν] 270)).C (.E #[ν,ν] 270))):=(zQ.C ζ _).C υ _;have al:=Cr (Cr (U3.new w #[vv,lv] 270) (.E #[ν,ν] 270)) (.E #[ν,ν] 270);have aJ:=Cr (U3.newAt (w.C (.E #[vv,lv] 270)) (w.o.q+1) #[ν,ν] 270 ζ) (.E #[ν,ν] 270);have a6:=U3.newAt ((w.C (.E #[vv,lv] 270)).C (.E #[ν,ν] 270)) (w.o.q+1+1) #[ν,ν] 270 ζ;have bh:(((w.C (.E #[vv,lv] 270)).C (.E #[ν,ν] 270)).C (.E #[ν,ν] 270)).o.q=w.o.q+1+1+1:=ζ;generalize bp:((w.C (.E #[vv,lv] 270)).C (.E #[ν,ν] 270)).C (.E #[ν,ν] 270)=wA at *;clear bp;obtain⟨c0,f0⟩:=al.H;obtain⟨c2,f2⟩:=a6.H;go_upto_region 3 with (first|(at_builtin;refine FH rfl (.tmp 14) (.tmp 16) rfl (xE B) vv rfl rfl (aH.l _ a5.l).1 e1 ?_;intro v1 w1 aq R;have N:=a6.u R;obtain⟨d2,g2,ah⟩:=N.I;have bs:=R.q;obtain⟨C,n,rfl⟩:=aq.qm))
 have aC:=al.lt;have a8:X (U3 (w1.x ⟨w.o.q+1+1,0,Y⟩ (.k C (xE B).j n)) w.o.q #[vv,lv] 270):=(al.u R).set_ne η 0 _;have aK:X (U3 (w1.x ⟨w.o.q+1+1,0,Y⟩ (.k C (xE B).j n)) (w.o.q+1) #[ν,ν] 270):=(aJ.u R).set_ne η 0 _;have aw:X (U3 (w1.x ⟨w.o.q+1+1,0,Y⟩ (.k C (xE B).j n)) (w.o.q+1+1) #[.k C (xE B).j n,ν] 270):=N.set 0 _;have aF:X (μ w (w1.x ⟨w.o.q+1+1,0,Y⟩ (.k C (xE B).j n))):=(zJ a5.l R η).x (p:=⟨w.o.q+1+1,0,Y⟩) (by show w.o.q<=w.o.q+1+1;omega) _;have ay:X (U7 wA.o.q (w1.x ⟨w.o.q+1+1,0,Y⟩ (.k C (xE B).j n)) (.k C (xE B).j n) (xE B)):=yd aq (zc.set w1 (w.o.q+1+1) 0 (.k C (xE B).j n)) (λb i E=>by have:=yZ aq i;simp at E;omega);have bu:w1.o.q<=(w1.x ⟨w.o.q+1+1,0,Y⟩ (.k C (xE B).j n)).o.q:=by simp[U.setCell]
 clear c0 f0 c2 f2 d2 g2 ah N al aJ a6 R aq aC;generalize w1.x ⟨w.o.q+1+1,0,Y⟩ (.k C (xE B).j n)=wB at *;obtain⟨c0,f0⟩:=a8.l.H;obtain⟨c2,f2⟩:=aw.l.H;have aC:=a8.l.lt;have ah:=aw.l.lt;go_upto_region 4 with (first|(at_builtin;refine FH rfl (.tmp 20) (.tmp 22) rfl (ui B) lv rfl rfl (aH.l _ aF.l).2 e2 ?_;intro v2 F s S;have N:=aw.l.u S;obtain⟨d2,g2,bn⟩:=N.I;have bq:=S.q;obtain⟨K,A,rfl⟩:=s.qm))
 have hL:∀b,w.o.q+1+1≠b->True:=λ_ _=>trivial;have HC:X (CR w.o.q (F.x ⟨w.o.q+1+1,1,Y⟩ (.k K (ui B).j A)) (w.o.q+1+1) B (.k C (xE B).j n) (.k K (ui B).j A)):=⟨N.set 1 _,by rw[←oX B];exact yd (yq (zy ay.l S) η) (zc.set F (w.o.q+1+1) 1 (.k K (ui B).j A)) (λb i E=>by have:=yZ ay.l i;simp at E;omega),by rw[←Cl B];exact yd (yq s η) (zc.set F (w.o.q+1+1) 1 (.k K (ui B).j A)) (λb i E=>by have:=yZ s i;simp at E;omega),λb i E=>by have:=yb ay.l i;have:=yZ s E;omega⟩;have aQ:X (U3 (F.x ⟨w.o.q+1+1,1,Y⟩ (.k K (ui B).j A)) (w.o.q+1) #[ν,ν] 270):=(aK.l.u S).set_ne η 1 _;have aV:X (μ w (F.x ⟨w.o.q+1+1,1,Y⟩ (.k K (ui B).j A))):=(zJ aF.l S η).x (p:=⟨w.o.q+1+1,1,Y⟩) (by show w.o.q<=w.o.q+1+1;omega) _;clear c0 f0 c2 f2 d2 g2 aC ah bn N S s ay a8 aK aw aF hL bu bs bq bh a5;generalize F.x ⟨w.o.q+1+1,1,Y⟩ (.k K (ui B).j A)=wC at *;clear w1 F wA wB;rw[oX,Cl] at HC;go_wp2;go_loopw [9] (λv9 wr=>∃(k:Nat) (c:yC) (u:Option Addr) (j:Nat) (m:Option Addr) (d:Nat),k<=args.j/\v9=ι k/\X (CR w.o.q wr (w.o.q+1+1) c (.k u c.j j) (.k m c.j d))/\X (xG B args row=xG c (args.drop k) (row.drop k))/\c.j<=B.j+k/\X (qT c)/\X (U3 wr (w.o.q+1) #[ν,ν] 270)/\X (μ w wr)) (λv9 _=>args.j-(d_ v9).D);exact⟨0,B,C,n,K,A,zs _,rfl,HC,rfl,ze _,hF,aQ,aV⟩;clear HC aQ aV e1 e2;obtain⟨k,c,u,j,m,d,hk,rfl,HC,HW,b0,aB,HZ,V⟩:=hrel;have bz:=V.l.q;have am:=HC.l.box;obtain⟨hc,hf,ar⟩:=am.I;obtain⟨af,ad,ag⟩:=HZ.l.I;by_cases a2:k<args.j
 .have bt:(k:Int)<(args.j:Int):=η;have au:k<row.j:=η;obtain⟨g,rfl,hg,a4⟩:=HA.l _ k a2 V.l;obtain⟨gr,rfl,aW,aP⟩:=HR.l _ k au V.l;have ht:=aN _ (zr a2);have aG:=SI (B:=c) a2 au;have HV:X (∀W,μ wr W->c_ e_ 211 #[.agg #[.k u c.j j,.k m c.j d],.g args[k]] W λe T=>e=ε (.tuple #[.g (yv c args[k]),.i (dD c args[k])])/\X (μ wr T)/\T.p ⟨g,k,Y⟩=Z (.g args[k])/\T.p ⟨w.o.q+1+1,0,Y⟩=Z (.k u c.j j)/\T.p ⟨w.o.q+1+1,1,Y⟩=Z (.k m c.j d)):=λW i=>by
   refine(DY W _ _ c args[k] (HC.l.sf.u i) (HC.l.ss.u i) η ht).y ?_;rintro e T ⟨q1,q2⟩;have a1:=U6 i q2.l;have aR:=am.u a1;exact⟨q1,a1,(zi a1 hg a4),by rw[aR.H.1];rfl,by rw[aR.H.1];rfl⟩
  have aU:X (∀W,μ wr W->W.p ⟨g,k,Y⟩=Z (.g args[k])/\g<W.o.q/\W.p ⟨gr,k,Y⟩=Z (.g row[k])/\gr<W.o.q):=λW i=>⟨(zi i hg a4),yh hg i.q,(zi i aW aP),yh aW i.q⟩;have bc:X (∀W,μ w W->W.p ⟨gr,k,Y⟩=Z (.g row[k])/\gr<W.o.q):=λW i=>by
   obtain⟨g',e,q1,q2⟩:=HR.l W k au i;cases e;exact⟨q2,q1⟩
  have HD:=U2 (HW.l.A aG);have aY:=U2 (MN aB.l ht);have bd:=U2 (aT _ (zr au));clear aG HW ht aN am aT hF;generalize dD c args[k]=kn at *;generalize yv c args[k]=x at *;generalize args[k]=y at *;generalize row[k]=z at *;go_upto_region 7 with fail
  go_cut [10,11] from 31 to 39 (λa7 a3 wx=>a7=.g x/\a3=.i kn/\X (μ wr wx))
  .go_region_held3 (λT=>T.p ⟨g,k,Y⟩=Z (.g y)/\T.p ⟨w.o.q+1+1,0,Y⟩=Z (.k u c.j j)/\T.p ⟨w.o.q+1+1,1,Y⟩=Z (.k m c.j d)) (first|go_keep|(go_simp;done)) (first|(go_at_call 211;refine(HV.l _ φ).y ?_;rintro e w5 ⟨rfl,br,z0,z1,z2⟩))
   go_wp2;go_meet
   exact⟨rfl,rfl,br⟩
  obtain⟨rfl,rfl,Q⟩:=hcut;have bx:=Q.l.q;obtain⟨az,bo,ai,a0⟩:=aU.l _ Q.l;have aa:=U2 (HZ.l.u Q.l);have P:=U2 (zJ V.l Q.l η);have G:=U2 (HC.l.u Q.l);clear hc hf a4 aP ar af ad ag HV aU HC HZ V Q;obtain⟨hc,hf,ar⟩:=G.l.box.I;obtain⟨af,ad,ag⟩:=aa.l.I;by_cases hx:x=g_
  .obtain rfl:kn=false:=by
    cases kn;rfl;exact zC hx (aY.l.1 rfl)
   have bf:X (qT (c++[(y,z)])):=Tr aB.l bd.l;have H:X (xG B args row=xG (c++[(y,z)]) (args.drop (k+1)) (row.drop (k+1))):=by rw[X,HD.l,zb hx]
   have D:=G.l.fst;have o:=G.l.snd;clear HD hx;go_upto_region 11 with fail
   go_cut [10,11] from 52 to 60 (λa7 a3 wx=>∃r f,a7=.g x/\a3=.i false/\X (U3 wx (w.o.q+1+1) #[.k r (c.j+1) f,.k m c.j d] 270)/\X (wx.r w.o.q 9 1 (.k r (c.j+1) f) (c.j+1) ((xE c).map h_++[.g y]))/\X (wx.r w.o.q 9 1 (.k m c.j d) c.j ((ui c).map h_))/\X (∀b,(i_ r (c.j+1) f).m=Z b->(i_ m c.j d).m≠Z b)/\X (U3 wx (w.o.q+1) #[ν,ν] 270)/\X (μ w wx))
   .go_region_law (first|(refine fU wc _ [.g y] 9 rfl (.tmp 53) (.tmp 58) 30 rfl w.o.q 9 i0 _ 1 16 underlying30 hi aO aM aZ rfl θ (.k u c.j j) c.j ((xE c).map h_) (by simp[j_]) D φ wc.o.q 1 (by simp[j_]) (by exact U3.drew (U3.new _ _ _)) rfl a_ η η η ?_;intro v' F L s ak be aL;obtain⟨r,f,rfl⟩:=zq L;have J:=G.l.box.save s (vL D G.l.box θ);obtain⟨ba,aX,ah⟩:=J.I))
    all_goals
     have ab:=yd o s (λb i E=>G.l.ne b (yA E) i);have a9:=aa.l.save s (vL D aa.l θ);have aD:=s.u (B:=w.o.q) (λb i=>yZ D (yA i)) η;have ae:∀b,(i_ r (c.j+1) f).m=Z b->(i_ m c.j d).m≠Z b:=λb i hq=>by
      rcases ak with q|⟨g9,q,q2⟩;exact G.l.ne b (q ▸ i) hq;rw[i] at q;cases q;have:=yb o hq;omega
     have aj:X (U3 (F.x ⟨w.o.q+1+1,0,Y⟩ (.k r (c.j+1) f)) (w.o.q+1+1) #[.k r (c.j+1) f,.k m c.j d] 270):=J.set 0 _;have an:X ((F.x ⟨w.o.q+1+1,0,Y⟩ (.k r (c.j+1) f)).r w.o.q 9 1 (.k r (c.j+1) f) (c.j+1) ((xE c).map h_++[.g y])):=yd L (zc.set _ _ _ _) (λb i E=>uj L J θ i (by simpa using E));have aA:X ((F.x ⟨w.o.q+1+1,0,Y⟩ (.k r (c.j+1) f)).r w.o.q 9 1 (.k m c.j d) c.j ((ui c).map h_)):=yd ab (zc.set _ _ _ _) (λb i E=>uj ab J θ i (by simpa using E));have ap:X (U3 (F.x ⟨w.o.q+1+1,0,Y⟩ (.k r (c.j+1) f)) (w.o.q+1) #[ν,ν] 270):=a9.set_ne η 0 _;have ax:X (μ w (F.x ⟨w.o.q+1+1,0,Y⟩ (.k r (c.j+1) f))):=(P.l.A aD).x (p:=⟨w.o.q+1+1,0,Y⟩) (by show w.o.q<=w.o.q+1+1;omega) _;go_wp2;go_meet
     exact⟨r,f,rfl,rfl,aj,an,aA,ae,ap,ax⟩
   obtain⟨r,f,rfl,rfl,aj,an,aA,aI,ap,ax⟩:=hcut;clear hc hf af ad ar ag az ai aa P G D o bo a0;obtain⟨ai,a0⟩:=bc.l _ ax.l;obtain⟨hc,hf,ar⟩:=aj.l.I;have o:=aA.l;go_upto_region 12 with fail
   go_region_law (first|(refine fU wc _ [.g z] 9 rfl (.tmp 62) (.tmp 67) 30 rfl w.o.q 9 i0 _ 1 16 underlying30 hi aO aM aZ rfl θ (.k m c.j d) c.j ((ui c).map h_) (by simp[j_]) o φ wc.o.q 1 (by simp[j_]) (by exact U3.drew (U3.new _ _ _)) rfl a_ η η η ?_;intro v' F L s ak be aL;obtain⟨I,t,rfl⟩:=zq L;have J:=aj.l.save s (vL o aj.l θ);obtain⟨ba,aX,ah⟩:=J.I))
   all_goals
    have ab:=yd an.l s (λb i E=>aI.l b i (yA E));have a9:=ap.l.save s (vL o ap.l θ);have aD:=s.u (B:=w.o.q) (λb i=>yZ o (yA i)) η;have ae:∀b,(i_ r (c.j+1) f).m=Z b->(i_ I (c.j+1) t).m≠Z b:=λb i hq=>by
     rcases ak with q|⟨g9,q,q2⟩;exact aI.l b i (q ▸ hq);rw[hq] at q;cases q;have:=yb an.l i;omega
    have bg:X (CR w.o.q (F.x ⟨w.o.q+1+1,1,Y⟩ (.k I (c.j+1) t)) (w.o.q+1+1) (c++[(y,z)]) (.k r (c.j+1) f) (.k I (c.j+1) t)):=by
     refine⟨J.set 1 _,?_,?_,ae⟩;have q:=yd ab (zc.set F (w.o.q+1+1) 1 (.k I (c.j+1) t)) (λb i E=>uj ab J θ i (by simpa using E));rw[yB];simpa [xE] using q;have q:=yd L (zc.set F (w.o.q+1+1) 1 (.k I (c.j+1) t)) (λb i E=>uj L J θ i (by simpa using E));rw[yB];simpa [ui] using q
    have bk:X (U3 (F.x ⟨w.o.q+1+1,1,Y⟩ (.k I (c.j+1) t)) (w.o.q+1) #[ν,ν] 270):=a9.set_ne η 1 _;have bv:X (μ w (F.x ⟨w.o.q+1+1,1,Y⟩ (.k I (c.j+1) t))):=(ax.l.A aD).x (p:=⟨w.o.q+1+1,1,Y⟩) (by show w.o.q<=w.o.q+1+1;omega) _;clear ba aX;generalize F.x ⟨w.o.q+1+1,1,Y⟩ (.k I (c.j+1) t)=wN at *;go_wp2;go_roundw;exact⟨k+1,c++[(y,z)],r,f,I,t,η,ξ,by rw[yB];exact bg,H,by simp;omega,bf,bk,bv⟩;simp[d_];omega
  obtain rfl:kn=true:=aY.l.2 hx;by_cases hy:x=z
  .have bm:=qH hy;have H:X (xG B args row=xG c (args.drop (k+1)) (row.drop (k+1))):=by rw[X,HD.l,za hx,zb hy]
   clear HD hx hy;go_wp2;go_roundw;exact⟨k+1,c,u,j,m,d,η,ξ,G,H,η,aB,aa,P⟩;simp[d_];omega
  have bm:=vn hy;have H:X (xG B args row=Y):=by rw[X,HD.l,za hx,za hy]
  clear HD hx hy;go_wp2;have aE:X (μ w ((wc.x ⟨w.o.q+1,0,Y⟩ (.k u c.j j)).x ⟨w.o.q+1,1,Y⟩ (.k m c.j d))):=(P.l.x (p:=⟨w.o.q+1,0,Y⟩) (by show w.o.q<=w.o.q+1;omega) _).x (p:=⟨w.o.q+1,1,Y⟩) (by show w.o.q<=w.o.q+1;omega) _;have M:=(aa.l.set 0 (.k u c.j j)).set 1 (.k m c.j d);have n0:=M.H.1 0;have n1:=M.H.1 1;clear hc hf af ad az ai M;generalize (wc.x ⟨w.o.q+1,0,Y⟩ (.k u c.j j)).x ⟨w.o.q+1,1,Y⟩ (.k m c.j d)=wN at *
  (try simp only[Exit.inBlock,Exit.then])
  refine zP (by simp[results,results196,go_sem,n0,n1];try rfl) rfl ?_;refine⟨_,_,_,_,_,_,by rw[H.l];rfl,λB' ac=>(by rw[H.l] at ac;cases ac),?_⟩;exact aE
 have bt:¬(k:Int)<(args.j:Int):=η;have H:X (xG B args row=Z c):=by
  rw[X,HW.l,uk η];rfl
 clear HW;go_wp2;have aE:X (μ w ((wr.x ⟨w.o.q+1,0,Y⟩ (.k u c.j j)).x ⟨w.o.q+1,1,Y⟩ (.k m c.j d))):=(V.l.x (p:=⟨w.o.q+1,0,Y⟩) (by show w.o.q<=w.o.q+1;omega) _).x (p:=⟨w.o.q+1,1,Y⟩) (by show w.o.q<=w.o.q+1;omega) _;have q:∀{v:O} {l:List Λ} (h:U7 w.o.q wr v l),U7 w.o.q ((wr.x ⟨w.o.q+1,0,Y⟩ (.k u c.j j)).x ⟨w.o.q+1,1,Y⟩ (.k m c.j d)) v l:=λh=>yd h ((zc.set wr (w.o.q+1) 0 _).A (zc.set _ (w.o.q+1) 1 _)) (λb i E=>uj h HZ.l θ i (by simpa using E));have q1:=q HC.l.sf;have q2:=q HC.l.ss;have M:=(HZ.l.set 0 (.k u c.j j)).set 1 (.k m c.j d);have n0:=M.H.1 0;have n1:=M.H.1 1;clear hc hf af ad M q am;generalize (wr.x ⟨w.o.q+1,0,Y⟩ (.k u c.j j)).x ⟨w.o.q+1,1,Y⟩ (.k m c.j d)=wN at *
 (try simp only[Exit.inBlock,Exit.then])
 refine zP (by simp[results,results196,go_sem,n0,n1];try rfl) rfl ?_;refine⟨_,_,_,_,_,_,by rw[H.l];rfl,λB' ac=>?_,?_⟩;rw[H.l] at ac;cases ac;exact⟨q1,q2,η⟩;exact aE
end
section
open Go.Proofs.Tryz
variable {z:Nat->Prop}{l:κ}
def V8(z:Nat->Prop)(n:Nat):Prop:=∀b,z b->b<n
def V8.up{n m:Nat}(h:V8 z n)(a:n<=m):V8 z m:=λb q=>yh (h b q) a
def VK(z:Nat->Prop)(w:U)(v:O)(l:κ):Prop:=U7 0 w v l/\∀b,v.m=Z b->¬z b
def VK.u{w w':U}{v:O}{l:List Λ}(h:VK z w v l)(a:μ w w'):VK z w' v l:=⟨h.1.u a,h.2⟩
def VK.saveT{w w':U}{v:O}{M:Φ}{T:f_}(h:VK z w v l)(hs:zc M w w')(a:UP w T M)(b:9≠T):VK z w' v l:=⟨yR h.1 hs a b,h.2⟩
def VK.of{lo:Nat}{w:U}{v:O}(h:U7 lo w v l)(a:V8 z lo):VK z w v l:=⟨yq h (zs _),λb e q=>by have:=yZ h e;have:=a b q;omega⟩
def Up:(e_.info? 30).map (λi=>(i.zero,i.q,i.bytes))=Z (Z (ν),1,24):=χ
structure WJ (z:Nat->Prop) (w:U) (gb go:Nat) (c:zd):Prop where
 lt:gb<w.o.q
 o:w.p ⟨gb,go+1,Y⟩=Z (.g c.g.o)
 k:∃av,w.p ⟨gb,go+2,Y⟩=Z av/\VK z w av c.g.k
 d:∃ao cap,w.p ⟨gb,go+3,Y⟩=Z (.k ao c.d.j cap)/\∀j (h:j<c.d.j),∃g,ao=Z ⟨g,0,Y⟩/\g<w.o.q/\w.p ⟨g,j*3,Y⟩=Z (.i c.d[j].i)/\w.p ⟨g,j*3+1,Y⟩=Z (.g c.d[j].o)/\∃av,w.p ⟨g,j*3+2,Y⟩=Z av/\U7 0 w av c.d[j].k
def WJ.u{w w':U}{gb i:Nat}{c:zd}(h:WJ z w gb i c)(a:μ w w'):WJ z w' gb i c:=by
 obtain⟨d,m,⟨e,p,r⟩,n,f,u,o⟩:=h;refine⟨yh d a.q,(zi a d m),⟨e,(zi a d p),r.u a⟩,n,f,(zi a d u),λj k=>?_⟩;obtain⟨g,t,b,v,s,e,q,x⟩:=o j k;exact⟨g,t,yh b a.q,(zi a b v),(zi a b s),e,(zi a b q),x.u a⟩
structure mp (z:Nat->Prop) (w:U) (mb rd gb go:Nat) (fv vv lv:O) (c:zd) (fs:List zB) (B:yC):Prop where
 model:U3 w mb #[fv,ι rd] 54
 facts:nW w fv fs
 cl:WJ z w gb go c
 fst:U7 0 w vv (xE B)
 snd:U7 0 w lv (ui B)
 hz:V8 z w.o.q
def mp.u{w w':U}{e g gb b:Nat}{i f d:O}{c:zd}{fs:Θ}{B:yC}(h:mp z w e g gb b i f d c fs B)(a:μ w w'):mp z w' e g gb b i f d c fs B:=⟨h.model.u a,h.facts.u a,h.cl.u a,h.fst.u a,h.snd.u a,h.hz.up a.q⟩
def xF(z:Nat->Prop)(lo:Nat)(w:U)(v:O)(a:List (κ)):Prop:=∃b:List O,b.j=a.j/\w.r lo 30 1 v a.j b/\∀i (h:i<a.j) (c:i<b.j),VK z w b[i] a[i]
def xF.nil(lo:Nat)(w:U):xF z lo w (ν) []:=⟨[],rfl,xj _ _ _ _,λi h=>by cases h⟩
def xF.u{lo:Nat}{w w':U}{v:O}{c:List (List Λ)}(h:xF z lo w v c)(e:μ w w'):xF z lo w' v c:=by
 obtain⟨d,f,j,g⟩:=h;exact⟨d,f,zy j e,λi a b=>(g i a b).u e⟩
def L3(w:U)(mb rd gb K:Nat)(fv r s:O)(c:zd)(fs:Θ)(B:yC)(hI:mp z w mb rd gb K fv r s c fs B)(aL:c.d.j<=100)(aM:B.j<=100)(R:∀l∈zj c,l.k.j<=100/\∀a∈l.k,0<a.q)(a8:fs.j<=10000000)(az:∀f∈fs,f.2.1.j<=1000000):
  c_ e_ 166 #[(π mb),.u (Z ⟨gb,K,Y⟩),ι c.d.j,.agg #[r,s]] w λe d=>∃v,e=.returned v/\X (xF z w.o.q d v (yz fs c.g c.d [] B))/\X (μ w d):=by
 obtain⟨i0,hi,a9,a7,aE⟩:=info_parts Up;obtain⟨ao,Q,a0,_⟩:=hI.cl.d;have A:=U2 λW (i:μ w W)=>hI.u i;have y:X (∀W,μ w W->W.p ⟨gb,K+3,Y⟩=Z (.k ao c.d.j Q)/\gb<W.o.q):=λW i=>⟨(i.cell (p:=⟨gb,K+3,Y⟩) hI.cl.lt).A a0,(hI.u i).cl.lt⟩;have ak:X (∀W j (t:j<c.d.j),μ w W->∃g,ao=Z ⟨g,0,Y⟩/\g<W.o.q/\W.p ⟨g,j*3,Y⟩=Z (.i c.d[j].i)/\W.p ⟨g,j*3+1,Y⟩=Z (.g c.d[j].o)/\∃n,W.p ⟨g,j*3+2,Y⟩=Z n/\U7 0 W n c.d[j].k):=λW j t i=>by
  obtain⟨aJ,aH,J,q2⟩:=(hI.u i).cl.d;rw[(y.l W i).1] at J;cases J;exact q2 j t
 have aa:X (∀W (l:zk) n,l∈zj c->μ w W->U7 0 W n l.k->c_ e_ 195 #[.agg #[r,s],n] W λe d=>∃v,e=.returned v/\X (U7 W.o.q d v (yM B l.k))/\X (μ W d)):=λW l n hl i ha=>KB W r s n B l.k (A.l W i).fst (A.l W i).snd ha η (by have:=(R _ hl).1;omega) (R _ hl).2;have ae:X (∀W j (t:j<c.d.j) rv au,μ w W->U7 au W rv (yM B c.d[j].k)->c_ e_ 45 #[(π mb),.g c.d[j].o,rv] W λe d=>e=ε (ι (kg c.d[j].o (yM B c.d[j].k) fs))/\μ W d):=λW j t rv au i hr=>Bi W mb rd fv fs _ rv _ (A.l W i).model (A.l W i).facts hr a8 (by have:=(R c.d[j] (by simp[zj])).1;simp[yM];omega) az;have I:X (∀k (hk:k<c.d.j),c.d[k].i=true->(yS c.d[k].o (yM B c.d[k].k) fs).I=true->yz fs c.g c.d [] B=[]):=λk hk hn hs=>by
  unfold yz;rw[zb];rw[fa];exact⟨c.d[k],zr _,by rw[hn,hs];rfl⟩
 have E:X ((∀k (hk:k<c.d.j),¬(c.d[k].i=true/\(yS c.d[k].o (yM B c.d[k].k) fs).I=true))->yz fs c.g c.d [] B=[yM B c.g.k]):=λq=>by
  unfold yz;rw[za];intro hq;rw[fa] at hq;obtain⟨l,hl,hq⟩:=hq;obtain⟨j,t,rfl⟩:=uT hl;rw[uK] at hq;exact q j t hq
 have a5:X (∀W,μ w W->∃n,W.p ⟨gb,K+2,Y⟩=Z n/\U7 0 W n c.g.k):=λW i=>by
  obtain⟨n,J,q2⟩:=(A.l W i).cl.k;exact⟨n,J,q2.1⟩
 have hz:=hI.hz;obtain⟨L,o⟩:=y.l w (zn _ _);clear hI A R az a0;generalize yz fs c.g c.d [] B=aN at *;go_enter func166,ntmps166;go_upto_region 2 with fail
 have am:X (μ w (w.C (.E #[r,s] 270))):=(zn _ _).C (ze _) _;have af:X (∀W,Below (w.C (.E #[r,s] 270)).o.q (w.C (.E #[r,s] 270)) W->W.p ⟨w.o.q,0,Y⟩=Z r/\W.p ⟨w.o.q,1,Y⟩=Z s/\w.o.q<W.o.q):=λW i=>by
  have q:=(U3.new w #[r,s] 270).u i;exact⟨by rw[q.H.1];rfl,by rw[q.H.1];rfl,q.lt⟩
 clear L o;obtain⟨L,o⟩:=y.l _ am.l;generalize aB:w.C (.E #[r,s] 270)=wA at *;clear aB;go_wp2;clear L o;go_loopw [10,11,12] (λac _ _ wr=>∃k:Nat,k<=c.d.j/\ac=ι k/\X (∀j (t:j<c.d.j),j<k->¬(c.d[j].i=true/\(yS c.d[j].o (yM B c.d[j].k) fs).I=true))/\X (μ wA wr)) (λac _ _ _=>c.d.j-(d_ ac).D);exact⟨0,η,rfl,λj t h2=>η,zn _ _⟩;obtain⟨k,hk,rfl,HN,D⟩:=hrel;have u:=U2 (U6 am.l D.l);obtain⟨L,o⟩:=y.l _ u.l;obtain⟨b0,b1,al⟩:=af.l _ D.l;by_cases C:k<c.d.j
 .have aD:(k:Int)<(c.d.j:Int):=η;obtain⟨g,rfl,hg,_,_,n,c2,H⟩:=ak.l _ k C u.l;have F:X (∀W,μ wr W->c_ e_ 195 #[.agg #[r,s],n] W λe d=>∃v,e=.returned v/\X (U7 w.o.q d v (yM B c.d[k].k))/\X (μ wr d)/\d.p ⟨g,k*3+2,Y⟩=Z n/\d.p ⟨w.o.q,0,Y⟩=Z r/\d.p ⟨w.o.q,1,Y⟩=Z s/\d.p ⟨gb,K+3,Y⟩=Z (.k (Z ⟨g,0,Y⟩) c.d.j Q)):=λW i=>by
   have G:=U6 u.l i;refine(aa.l W c.d[k] n (by simp[zj]) G (H.u i)).y ?_;rintro e d ⟨v,J,q2,q3⟩;have m:=U6 i q3.l;obtain⟨b0,b1,_⟩:=af.l d (U6 D.l m);exact⟨v,J,yq q2.l G.q,m,(zi m hg c2),b0,b1,(zi m o L)⟩
  clear H;go_upto_region 6 with fail
  go_cut [11] from 34 to 43 (λa1 wx=>∃v,a1=v/\X (U7 w.o.q wx v (yM B c.d[k].k))/\X (μ wr wx))
  .go_region_held3 (λd=>d.p ⟨g,k*3+2,Y⟩=Z n/\d.p ⟨w.o.q,0,Y⟩=Z r/\d.p ⟨w.o.q,1,Y⟩=Z s/\d.p ⟨gb,K+3,Y⟩=Z (.k (Z ⟨g,0,Y⟩) c.d.j Q)) (first|go_keep|(go_simp;done)) (first|(go_at_call 195;refine(F.l _ φ).y ?_;rintro e w5 ⟨v5,rfl,ai,aj,z0,z1,z2,z3⟩))
   go_wp2;go_meet
   exact⟨_,rfl,ai,aj⟩
  obtain⟨ax,S,P,M⟩:=hcut;obtain rfl:=S.z;clear S c2 hg b0 b1 al F L o;have h:=U2 (U6 u.l M.l);have aw:=U2 (U6 D.l M.l);obtain⟨L,o⟩:=y.l _ h.l;obtain⟨g',e',hg,_,c1,_⟩:=ak.l _ k C h.l;cases e';have ab:X (c_ e_ 45 #[(π mb),.g c.d[k].o,ax] wc λe d=>e=ε (ι (kg c.d[k].o (yM B c.d[k].k) fs))/\X (μ wc d)/\g<d.o.q/\d.p ⟨g,k*3,Y⟩=Z (.i c.d[k].i)/\d.p ⟨gb,K+3,Y⟩=Z (.k (Z ⟨g,0,Y⟩) c.d.j Q)/\gb<d.o.q):=by
   refine(ae.l wc k C ax _ h.l P.l).y ?_;rintro e d ⟨J,q3⟩;have m:=U6 h.l q3;obtain⟨g',e',y1,y2,_⟩:=ak.l _ k C m;cases e';exact⟨J,q3,y1,y2,y.l _ m⟩
  have ar:X (¬(c.d[k].i=true/\(yS c.d[k].o (yM B c.d[k].k) fs).I=true)->∀j (t:j<c.d.j),j<k+1->¬(c.d[j].i=true/\(yS c.d[j].o (yM B c.d[j].k) fs).I=true)):=λq j t h2=>by
   by_cases a3:j=k;subst a3;exact q;exact HN.l j t η
  have aA:=U2 (I.l k C);have V:X ((yS c.d[k].o (yM B c.d[k].k) fs).I=true↔0<=kg c.d[k].o (yM B c.d[k].k) fs):=by
   unfold X kg;rcases yS c.d[k].o (yM B c.d[k].k) fs with _|z;simp;simp
  generalize kg c.d[k].o (yM B c.d[k].k) fs=fi at *;generalize (yS c.d[k].o (yM B c.d[k].k) fs).I=fb at *;generalize c.d[k].o=pr at *;generalize c.d[k].i=ng at *;go_upto_region 8 with (first|(go_at_call 45;refine ab.l.y ?_;rintro e w6 ⟨rfl,aq,aO,z0,z3,aI⟩))
  have av:=U2 (U6 h.l aq.l);have T:=U2 (U6 aw.l aq.l);clear ab c1 L hg o;cases ng
  .have ah:=U2 (ar.l ζ);go_wp2;go_roundw;exact⟨k+1,η,ξ,ah,T⟩;simp[d_];omega
  by_cases ap:0<=fi
  .have HR:=U2 (aA.l rfl (V.l.2 ap));go_wp2;go_ret;exact⟨_,rfl,by rw[X,HR.l];exact xF.nil _ _,av⟩
  have ah:=U2 (ar.l (λq=>ap (V.l.1 q.2)));go_wp2;go_roundw;exact⟨k+1,η,ξ,ah,T⟩;simp[d_];omega
 have aD:¬(k:Int)<(c.d.j:Int):=η;have ag:=U2 (E.l λj t=>HN.l j t η);clear HN E I;obtain⟨n,c2,H⟩:=a5.l _ u.l;have F:X (∀W,μ wr W->c_ e_ 195 #[.agg #[r,s],n] W λe d=>∃v,e=.returned v/\X (U7 w.o.q d v (yM B c.g.k))/\X (μ wr d)/\d.p ⟨gb,K+2,Y⟩=Z n/\d.p ⟨w.o.q,0,Y⟩=Z r/\d.p ⟨w.o.q,1,Y⟩=Z s):=λW i=>by
  have G:=U6 u.l i;refine(aa.l W c.g n (by simp[zj]) G (H.u i)).y ?_;rintro e d ⟨v,J,q2,q3⟩;have m:=U6 i q3.l;obtain⟨b0,b1,_⟩:=af.l d (U6 D.l m);exact⟨v,J,yq q2.l G.q,m,(zi m o c2),b0,b1⟩
 clear H;go_upto_region 10 with fail
 go_cut [13] from 67 to 73 (λa6 wx=>∃v,a6=v/\X (U7 w.o.q wx v (yM B c.g.k))/\X (μ wr wx))
 .go_region_held3 (λd=>d.p ⟨gb,K+2,Y⟩=Z n/\d.p ⟨w.o.q,0,Y⟩=Z r/\d.p ⟨w.o.q,1,Y⟩=Z s) (first|go_keep|(go_simp;done)) (first|(go_at_call 195;refine(F.l _ φ).y ?_;rintro e w5 ⟨v5,rfl,ai,aj,z0,z1,z2⟩))
  go_wp2;go_meet
  exact⟨_,rfl,ai,aj⟩
 obtain⟨aK,x,P,M⟩:=hcut;obtain rfl:=x.z;clear x c2 b0 b1 al F L o;have h:=U2 (U6 u.l M.l);obtain⟨ay,ad,x⟩:=P.l.qm;subst x;have aG:=h.l.q;generalize (yM B c.g.k).j=rl at *;go_wp2_with (at_builtin;refine kU wc _ _ _ rfl (.tmp 74) (.tmp 76) 31 rfl w.o.q 30 i0 _ 1 24 underlying31 hi a9 a7 aE rfl θ _ 0 [] rfl (xj _ _ _ _) (zn _ _) _ _ rfl ζ rfl a_ η η η ?_;intro v' w2 a4 N aF aC a2 an;clear aF aC)
 go_ret;have hS:zc [] wc w2:=⟨N.os,N.tape,N.output,an,λj t _=>a2 j t (show Z j≠Y from Option.some_ne_none j)⟩;refine⟨_,rfl,⟨[.k ay rl ad],by rw[ag.l];rfl,by rw[ag.l];exact a4,λj h1 h2=>?_⟩,h.l.A N⟩;obtain rfl:j=0:=by simp at h2;exact h2
 have q:=VK.of (yd P.l hS (λb _ hm=>by cases hm)) hz;simp only[ag.l,dB];exact q
end
section
open Go.Proofs.Tryz
variable {z:Nat->Prop}{o1 o2:Option Addr}{wo:Option yC}
section
variable {ops:Array Oper} {rest:List Oper} {o:Oper} {a:Act} {Q:Exit->Act->U->Prop}
def xF.saveT{lo:Nat}{w w':U}{v:O}{c:List (List Λ)}{M:Φ}{T:f_}(h:xF z lo w v c)(hs:zc M w w')(e:UP w T M)(g:30≠T)(l:9≠T):xF z lo w' v c:=by
 obtain⟨d,j,f,k⟩:=h;exact⟨d,j,yR f hs e g,λi a b=>(k i a b).saveT hs e l⟩
def SD{lo A:Nat}{w:U}(l:o.guard=Y)(s x:Operand)
  (M:o.op=.call {callee:=.builtin .append,args:=#[s,x],argTypes:=#[31,31]})
  (q g:List (List Λ)) (p N:O) (K:a.eval s=p) (T:a.eval x=N) (h1:xF z lo w p q) (h2:xF z A w N g) (hl:q.j+g.j<=1000000000000) (I:lo<=w.o.q)
  (h:∀G H,xF z lo H G (q++g)->zc p.m.v w H->wpList e_ ops Q rest (a.put o.dst G) H):
  wpList e_ ops Q (o::rest) a w:=by
 obtain⟨S,V,v,D,E⟩:=info_parts Up;obtain⟨i,r,f,P⟩:=h1;obtain⟨b,b1,b2,L⟩:=h2;have m:∀u∈b,u.oneCell'=true:=by
  intro u hu;obtain⟨j,d,rfl⟩:=vh.1 hu;obtain⟨ao,af,e⟩:=(L j η d).1.qm;rw[e];simp[O.oneCell']
 obtain⟨_,⟨J,hn⟩|⟨R,n,ad,J,aa,hh,ab,ae,ac,B⟩⟩:=id b2;have F:g=[]:=lK hn;refine wpList_append_own_none l s x 31 M lo 30 S 1 underlying31 V _ _ _ K f (by rw[T,J]) ?_;refine h _ _ ?_ (zc.refl _ _);rw[F,vD];exact⟨i,r,f,P⟩;have y:∀j u,b[j]?=Z u->w.p (Addr.add (δ R) j)=Z u:=λj u d=>by
  rw[q_,uM];unfold U.cell?;rw[hh];simp only;rw[←B,mH] at d;split at d;simpa using d;simp at d
 refine wpList_append_own _ l s x 31 M lo 30 S _ 1 24 underlying31 V v D E rfl θ _ _ _ K f (δ R) g.j n b (by rw[T,J]) η y m b_ η I ?_;intro G w2 t c _;have C:zc p.m.v w w2:=⟨c.os,c.tape,c.output,c.q,λk W hm=>c.block k W λe=>hm (by rw[←e];simp)⟩;refine h _ _ ⟨i++b,by simp[r,b1],by rw[yB];exact t,λj q1 q2=>?_⟩ C;by_cases d:j<q.j;rw[uI η,uI d];exact(P j d η).saveT C (UP.own f) θ;rw[mh η,mh η];simp only[r];simp only[yB] at q1 q2;exact(L _ η η).saveT C (UP.own f) θ
end
def l5(fs:List zB)(h:zk)(body rest:List zk)(l:zk)(B:yC)(f:zB):List (κ):=if f.1=l.o then(match xG B l.k f.2.1 with|none=>[]|some b=>yz fs h body rest b) else []
def Su{fs:Θ}{h:zk}{body rest:Ω}{l:zk}{B:yC}(b:l.i=false):yz fs h body (l::rest) B=fs.flatMap (l5 fs h body rest l B):=by
 unfold yz;rw[za (by simp[b])];rfl
def N3{α β:Type}(f:α->List β)(l:List α){i:Nat}(b:i<l.j):(l.G (i+1)).flatMap f=(l.G i).flatMap f++f l[i]:=by
 rw[yF b,o_];simp
def LU{α β:Type}(f:α->List β)(l:List α)(i:Nat):((l.G i).flatMap f).j<=(l.flatMap f).j:=by
 conv=>rhs;rw[←jF i l]
 rw[o_,yB];omega
def We(c w:U)(m:Nat)(wo:Option yC)(s:O):Prop:=∃(d g h:Nat) (o1:Option Addr) (e f:Nat) (o2:Option Addr),s=(π d)/\X (∀b,wo=Z b->U7 0 w (.k o1 g h) (xE b)/\U7 0 w (.k o2 e f) (ui b)/\b.j<=m)/\X (U3 w d #[.k o1 g h,.k o2 e f] 270)/\X (μ c w)
def We.one{i w5:U}{m f g c d:Nat}(k:μ i w5)(h:∀b,wo=Z b->U7 0 w5 (.k o1 f g) (xE b)/\U7 0 w5 (.k o2 c d) (ui b)/\b.j<=m):We i (w5.C (.E #[.k o1 f g,.k o2 c d] 270)) m wo (.u (Z (δ w5.o.q))):=by
 have j:μ w5 (w5.C (.E #[.k o1 f g,.k o2 c d] 270)):=(zn _ _).C (ze _) _;exact⟨_,f,g,o1,c,d,o2,rfl,λb e=>⟨(h b e).1.u j,(h b e).2.1.u j,(h b e).2.2⟩,U3.new w5 _ _,U6 k j⟩
def We.two{k w5:U}{m i j d f b:Nat}{w u:O}(g:k.o.q<=b)(t:μ k w5)(p:U3 w5 b #[w,u] 270)(h:∀c,wo=Z c->U7 0 w5 (.k o1 i j) (xE c)/\U7 0 w5 (.k o2 d f) (ui c)/\c.j<=m):We k ((w5.x (δ b) (.k o1 i j)).x (ω b 1) (.k o2 d f)) m wo ((π b)):=by
 have r:=p.set 0 (.k o1 i j);have s:=r.set 1 (.k o2 d f);have n:∀v l,U7 0 w5 v l->U7 0 ((w5.x (δ b) (.k o1 i j)).x (ω b 1) (.k o2 d f)) v l:=λv l q=>yR (yR q (zc.set _ _ _ _) (UP.box p) θ) (zc.set _ _ _ _) (UP.box r) θ;exact⟨b,i,j,o1,d,f,o2,rfl,λc e=>⟨n _ _ (h c e).1,n _ _ (h c e).2.1,(h c e).2.2⟩,show U3 _ _ _ _ by simpa using s,(t.x g _).x g _⟩
def Pd(w:U)(y N gb x:Nat)(J j m:O)(c:zd)(fs:Θ)(B:yC)(l:zk)(rest:Ω)(k:Nat)(u:mp z w y N gb x J j m c fs B)(ad:c.d.j<=30)(C:k<c.d.j)(r:c.d[k]=l)(T:B.j<=3*k)(K:qT B)(H:l.i=true)(i:(yz fs c.g c.d (l::rest) B).j<=1000000000000)(d:X (∀W p q (n:yC),n.j<=3*(k+1)->qT n->(yz fs c.g c.d rest n).j<=1000000000000->mp z W y N gb x J p q c fs n->c_ e_ 166 #[(π y),.u (Z (ω gb x)),ι ((k:Int)+1),.agg #[p,q]] W λe s=>∃v,e=.returned v/\X (xF z W.o.q s v (yz fs c.g c.d rest n))/\X (μ W s))):
  c_ e_ 166 #[(π y),.u (Z (ω gb x)),ι k,.agg #[j,m]] w λe s=>∃v,e=.returned v/\X (xF z w.o.q s v (yz fs c.g c.d (l::rest) B))/\X (μ w s):=by
 have f:X (yz fs c.g c.d (l::rest) B=yz fs c.g c.d rest B):=by
  unfold X;rw[yz,zb H]
 rw[f.l] at i;have h:X (μ w (w.C (.E #[j,m] 270))):=(zn _ _).C (ze _) _;have G:=U2 (u.u h.l);obtain⟨ao,ac,c3,L⟩:=G.l.cl.d;obtain⟨g,rfl,hg,P,_⟩:=L k C;rw[r,H] at P;have ab:=G.l.cl.lt;have b:=U3.new w #[j,m] 270;have b0:=b.H.1 0;have b1:=b.H.1 1;have S:=b.lt;have F:=U2 (d.l _ j m B η K i G.l);obtain⟨_,_,d3,_⟩:=u.cl.d;have t:=u.cl.lt;have M:((k:Int) == (c.d.j:Int))=false:=by simp;omega
 have aa:(k:Int)<(c.d.j:Int):=η;generalize yz fs c.g c.d (l::rest) B=V at *;clear u L b K i d r H;go_enter func166,ntmps166;go_upto_region 2 with fail
 generalize A:w.C (.E #[j,m] 270)=wA at *;clear A d3 t;go_wp2_with (go_at_call 166;refine F.l.y ?_;rintro e w1 ⟨v1,rfl,E,I⟩)
 go_ret;obtain⟨D,q1,q2,R⟩:=E.l;exact⟨_,rfl,by rw[X,f.l];exact⟨D,q1,yq q2 h.l.q,R⟩,U6 h.l I.l⟩
def KV(w:U)(mb rd gb go:Nat)(fv D F:O)(c:zd)(fs:Θ)(B:yC)(l:zk)(rest:Ω)(k:Nat)(hI:mp z w mb rd gb go fv D F c fs B)(bs:c.d.j<=30)(ah:l.k.j<=3/\∀a∈l.k,0<a.q)(br:fs.j<=10000000)(a1:∀f∈fs,f.1=l.o->f.2.1.j=l.k.j)(aq:∀f∈fs,∀x∈f.2.1,x≠g_)(aR:k<c.d.j)(a3:c.d[k]=l)(bt:B.j<=3*k)(hF:qT B)(hn:l.i=false)(au:(yz fs c.g c.d (l::rest) B).j<=1000000000000)(aB:X (∀W aK a2 (d:yC),d.j<=3*(k+1)->qT d->(yz fs c.g c.d rest d).j<=1000000000000->mp z W mb rd gb go fv aK a2 c fs d->c_ e_ 166 #[(π mb),.u (Z ⟨gb,go,Y⟩),ι ((k:Int)+1),.agg #[aK,a2]] W λe j=>∃v,e=.returned v/\X (xF z W.o.q j v (yz fs c.g c.d rest d))/\X (μ W j))):
  c_ e_ 166 #[(π mb),.u (Z ⟨gb,go,Y⟩),ι k,.agg #[D,F]] w λe j=>∃v,e=.returned v/\X (xF z w.o.q j v (yz fs c.g c.d (l::rest) B))/\X (μ w j):=by
 obtain⟨ao,ax,rfl,_⟩:=id hI.facts;obtain⟨a9,S,aP,_⟩:=hI.cl.d;have A:=Su (fs:=fs) (h:=c.g) (body:=c.d) (rest:=rest) (B:=B) hn;rw[A] at au;have a5:=U2 A;have ay:=U2 λW (m:μ w W)=>hI.u m;have K:X (∀W,μ w W->W.p ⟨gb,go+3,Y⟩=Z (.k a9 c.d.j S)/\gb<W.o.q):=λW m=>⟨(m.cell (p:=⟨gb,go+3,Y⟩) hI.cl.lt).A aP,(hI.u m).cl.lt⟩;have aO:X (∀W,μ w W->∃g,a9=Z ⟨g,0,Y⟩/\g<W.o.q/\W.p ⟨g,k*3,Y⟩=Z (.i false)/\W.p ⟨g,k*3+1,Y⟩=Z (.g l.o)/\∃G,W.p ⟨g,k*3+2,Y⟩=Z G/\U7 0 W G l.k):=λW m=>by
  obtain⟨ba,a7,E,q2⟩:=(hI.u m).cl.d;rw[(K.l W m).1] at E;cases E;have:=q2 k aR;rw[a3,hn] at this;exact this
 have aG:X (∀W,μ w W->W.p ⟨mb,0,Y⟩=Z (.k ao fs.j ax)/\mb<W.o.q):=λW m=>⟨by rw[(hI.u m).model.H.1];rfl,(hI.u m).model.lt⟩;have aY:X (∀W i (V:i<fs.j),μ w W->∃J t,ao=Z ⟨J,0,Y⟩/\J<W.o.q/\W.p ⟨J,i*3,Y⟩=Z (.g fs[i].1)/\W.p ⟨J,i*3+1,Y⟩=Z t/\∃lo,U7 lo W t fs[i].2.1):=λW i V m=>by
  obtain⟨ba,a7,e,q⟩:=(hI.u m).facts;cases e;obtain⟨J,t,lo,r1,r2,r3,r4,_,r6⟩:=q i V;exact⟨J,t,r1,r2,r3,r4,lo,r6⟩
 have T:X (∀W i (V:i<fs.j) G t L,fs[i].1=l.o->μ w W->U7 0 W G l.k->U7 L W t fs[i].2.1->c_ e_ 196 #[.agg #[D,F],G,t] W λe j=>∃(H c1:Nat) (o1:Option Addr) (I P:Nat) (o2:Option Addr),e=ε (.tuple #[.agg #[.k o1 H c1,.k o2 I P],.i (xG B l.k fs[i].2.1).I])/\X (∀d,xG B l.k fs[i].2.1=Z d->U7 0 j (.k o1 H c1) (xE d)/\U7 0 j (.k o2 I P) (ui d)/\d.j<=3*(k+1))/\X (μ W j)):=λW i V G t L hp m ha hr=>by
  refine(Tz W D F G t B l.k fs[i].2.1 (ay.l W m).fst (ay.l W m).snd ha hr η η (a1 _ (zr V) hp) ah.2 hF (aq _ (zr V))).y ?_;rintro e j ⟨H,c1,o1,I,P,o2,E,q2,q3⟩;refine⟨H,c1,o1,I,P,o2,E,λd aU=>?_,q3⟩;obtain⟨r1,r2,r3⟩:=q2.l d aU;exact⟨yq r1 (zs _),yq r2 (zs _),by have:=ah.1;omega⟩
 have aj:X (∀i (V:i<fs.j) d,fs[i].1=l.o->xG B l.k fs[i].2.1=Z d->qT d):=λi V d hp hq=>(sL l.k fs[i].2.1 B d (a1 _ (zr V) hp).z (aq _ (zr V)) (λa ha e=>by have:=ah.2 a ha;rw[e] at this;exact zC this θ) hF hq).1;have bk:=U2 au;obtain⟨c3,n⟩:=K.l w (zn _ _);have bo:((k:Int) == (c.d.j:Int))=false:=by simp;omega
 have bv:(k:Int)<(c.d.j:Int):=η;clear hI ah a1 aq aP A au hF hn a3;generalize yz fs c.g c.d (l::rest) B=bu at *;go_enter func166,ntmps166;go_upto_region 2 with fail
 have ae:X (μ w (w.C (.E #[D,F] 270))):=(zn _ _).C (ze _) _;have aX:X (∀W,Below (w.C (.E #[D,F] 270)).o.q (w.C (.E #[D,F] 270)) W->W.p ⟨w.o.q,0,Y⟩=Z D/\W.p ⟨w.o.q,1,Y⟩=Z F/\w.o.q<W.o.q):=λW m=>by
  have q:=(U3.new w #[D,F] 270).u m;exact⟨by rw[q.H.1];rfl,by rw[q.H.1];rfl,q.lt⟩
 clear c3 n;obtain⟨c3,n⟩:=K.l _ ae.l;obtain⟨g,rfl,hg,c0,_⟩:=aO.l _ ae.l;generalize bm:w.C (.E #[D,F] 270)=wA at *;clear bm;go_wp2;clear c3 n c0 hg;go_loopw [9,14,15,16,17] (λv9 aw _ _ _ wr=>∃i:Nat,i<=fs.j/\aw=ι i/\X (xF z wA.o.q wr v9 ((fs.G i).flatMap (l5 fs c.g c.d rest l B)))/\X (μ wA wr)) (λ_ aw _ _ _ _=>fs.j-(d_ aw).D);exact⟨0,zs _,rfl,xF.nil _ _,zn _ _⟩;obtain⟨i,V,rfl,ad,ab⟩:=hrel;have u:=U2 (U6 ae.l ab.l);obtain⟨m0,ag⟩:=aG.l _ u.l;by_cases af:i<fs.j
 .have be:(i:Int)<(fs.j:Int):=η;have aa:X ((fs.G (i+1)).flatMap (l5 fs c.g c.d rest l B)=(fs.G i).flatMap (l5 fs c.g c.d rest l B)++l5 fs c.g c.d rest l B fs[i]):=N3 _ _ af;have bf:X (((fs.G (i+1)).flatMap (l5 fs c.g c.d rest l B)).j<=1000000000000):=zX (LU _ _ _) bk.l;obtain⟨J,t,rfl,ap,f0,f1,L,ar⟩:=aY.l _ i af u.l;obtain⟨g',e',hg,_,c1,G,P,a0⟩:=aO.l _ u.l;cases e';obtain⟨c3,n⟩:=K.l _ u.l;by_cases he:fs[i].1=l.o
  .have bc:=qH he;have C:X (l5 fs c.g c.d rest l B fs[i]=(match xG B l.k fs[i].2.1 with|none=>[]|some d=>yz fs c.g c.d rest d)):=zb he;have a8:=U2 λW G t L E q2 q3=>T.l W i af G t L he E q2 q3;have bd:=U2 λd q=>aj.l i af d he q;generalize l5 fs c.g c.d rest l B fs[i]=sn at *;clear he T aj;generalize fs[i].1=x at *;generalize fs[i].2.1=rw at *;go_upto_region 17 with fail
   go_quiet (fail)
   have aM:=U2 (ad.l.u (mN wr nq));have az:=U2 (zG ab.l nq);have r:=U2 (zG u.l nq);have al:=ar.u (mN wr nq);have ai:=a0.u (mN wr nq);have aI:=((mN wr nq).cell (p:=⟨J,i*3+1,Y⟩) ap).A f1;have a6:=((mN wr nq).cell (p:=⟨g,k*3+2,Y⟩) hg).A P;have ak:=yh ap (mN wr nq).q;have aC:=yh hg (mN wr nq).q;clear m0 ag ap f0 f1 ar hg c1 P a0 c3 n ad ab u;generalize wr.drewN nq=wq at *;obtain⟨m0,ag⟩:=aG.l _ r.l;obtain⟨c3,n⟩:=K.l _ r.l;obtain⟨b0,b1,an⟩:=aX.l _ az.l;have a4:X (∀W,μ wq W->c_ e_ 196 #[.agg #[D,F],G,t] W λe j=>∃(H c1:Nat) (o1:Option Addr) (I P:Nat) (o2:Option Addr),e=ε (.tuple #[.agg #[.k o1 H c1,.k o2 I P],.i (xG B l.k rw).I])/\X (∀d,xG B l.k rw=Z d->U7 0 j (.k o1 H c1) (xE d)/\U7 0 j (.k o2 I P) (ui d)/\d.j<=3*(k+1))/\X (μ wq j)/\X (μ W j)/\j.p ⟨g,k*3+2,Y⟩=Z G/\j.p ⟨w.o.q,0,Y⟩=Z D/\j.p ⟨w.o.q,1,Y⟩=Z F/\j.p ⟨mb,0,Y⟩=Z (.k (Z ⟨J,0,Y⟩) fs.j ax)/\j.p ⟨J,i*3+1,Y⟩=Z t/\j.p ⟨gb,go+3,Y⟩=Z (.k (Z ⟨g,0,Y⟩) c.d.j S)):=λW m=>by
    refine(a8.l W _ _ _ (U6 r.l m) (ai.u m) (al.u m)).y ?_;rintro e j ⟨H,m1,o1,I,m2,o2,E,q2,q3⟩;have s:=U6 m q3.l;exact⟨H,m1,o1,I,m2,o2,E,q2,s,q3,(zi s aC a6),(zi s an b0),(zi s an b1),(zi s ag m0),(zi s ak aI),(zi s n c3)⟩
   clear ai al a8;generalize xG B l.k rw=wo at *;go_upto_region 18 with fail
   go_cut [15,16] from 118 to 138 (λbh aT wx=>aT=.i wo.I/\We wq wx (3*(k+1)) wo bh)
   .go_region_held3 (λj=>j.p ⟨g,k*3+2,Y⟩=Z G/\j.p ⟨w.o.q,0,Y⟩=Z D/\j.p ⟨w.o.q,1,Y⟩=Z F/\j.p ⟨mb,0,Y⟩=Z (.k (Z ⟨J,0,Y⟩) fs.j ax)/\j.p ⟨J,i*3+1,Y⟩=Z t/\j.p ⟨gb,go+3,Y⟩=Z (.k (Z ⟨g,0,Y⟩) c.d.j S)) (first|go_keep|(go_simp;done)) (first|(go_at_call 196;refine(a4.l _ φ).y ?_;rintro e w5 ⟨H,m1,o1,I,m2,o2,rfl,aD,aN,aZ,z0,z1,z2,z3,z4,z5⟩;(try (with_reducible refine U3.carry (U3.drew (U3.new wq #[ν,ν] 270)) aZ.l ?_;intro aH;obtain⟨bp,bq,bn⟩:=aH.I))))
    all_goals
     go_wp2_with fail
     go_meet
     first|exact⟨rfl,We.one aN.l aD.l⟩|exact⟨rfl,We.two (ze _) aN.l aH aD.l⟩
   obtain⟨rfl,xq,H,m1,o1,I,m2,o2,rfl,HQ,av,ac⟩:=hcut;have aQ:=U2 (aM.l.u ac.l);have am:=U2 (U6 az.l ac.l);have aE:=U2 (U6 r.l ac.l);clear m0 ag c3 n b0 b1 an a4 aI a6 ak aC aM az r ac;rcases wo with _|d
   .have HT:X (sn=[]):=C.l;go_wp2;go_roundw;exact⟨i+1,η,ξ,by rw[aa.l,HT.l,vD];exact aQ.l,am⟩;simp[d_];omega
   have HT:X (sn=yz fs c.g c.d rest d):=C.l;simp only[jH];obtain⟨s1,s2,s3⟩:=HQ.l d rfl;have N:=ay.l wc aE.l;have R:=bf.l;rw[aa.l,HT.l,yB] at R;have aL:=U2 (aB.l wc (.k o1 H m1) (.k o2 I m2) d s3 (bd.l d rfl) η ⟨N.model,N.facts,N.cl,s1,s2,N.hz⟩);have q0:=av.l.H.1 0;have E:=av.l.H.1 1;have aS:=av.l.lt;have aV:=U2 R;clear s1 s2 HQ N R;generalize yz fs c.g c.d rest d=fr at *;go_upto_region 21 with (first|(go_at_call 166;refine aL.l.y ?_;rintro e w6 ⟨v6,rfl,aW,aF⟩))
   have aJ:=U2 (aQ.l.u aF.l);have M:=U2 (U6 am.l aF.l);clear q0 E aS aL;go_wp2_with (at_builtin;refine SD rfl (.tmp 146) (.tmp 147) rfl _ _ _ _ rfl rfl aJ.l aW.l aV.l M.l.q ?_;intro v8 w8 bi bg)
   go_roundw;obtain⟨_,_,aA,_⟩:=aJ.l;exact⟨i+1,η,ξ,by rw[aa.l,HT.l];exact bi,M.l.A (bg.u (λb m=>yZ aA (yA m)) M.l.q)⟩;simp[d_];omega
  have bc:=vn he;have C:X ((fs.G (i+1)).flatMap (l5 fs c.g c.d rest l B)=(fs.G i).flatMap (l5 fs c.g c.d rest l B)):=by
   rw[X,aa.l,l5,za he,vD]
  clear aa he f1 ar a0 P;generalize fs[i].1=x at *;generalize l.o=y at *;go_wp2;go_quiet (fail)
  go_wp2;go_roundw;exact⟨i+1,η,ξ,by rw[C.l];exact ad.l.u (mN _ _),zG ab.l _⟩;simp[d_];omega
 have be:¬(i:Int)<(fs.j:Int):=η;obtain rfl:i=fs.j:=η;go_wp2;go_ret;obtain⟨bb,E,q2,q3⟩:=ad.l;rw[ve] at E q2 q3;exact⟨_,rfl,by rw[X,a5.l];exact⟨bb,E,yq q2 ae.l.q,q3⟩,u⟩
def Iu(n F gb j:Nat)(E:O)(c:zd)(fs:Θ)(C:c.d.j<=30)(h:∀l∈zj c,l.k.j<=3/\∀a∈l.k,0<a.q)(A:fs.j<=10000000)(H:∀f∈fs,f.2.1.j<=1000000)(J:∀f∈fs,∀l∈zj c,f.1=l.o->f.2.1.j=l.k.j)(G:∀f∈fs,∀x∈f.2.1,x≠g_):∀(rest:Ω) (k:Nat) (w:U) (r t:O) (B:yC),k<=c.d.j->c.d.drop k=rest->B.j<=3*k->qT B->(yz fs c.g c.d rest B).j<=1000000000000->mp z w n F gb j E r t c fs B →
  c_ e_ 166 #[(π n),.u (Z (ω gb j)),ι k,.agg #[r,t]] w λe I=>∃v,e=.returned v/\X (xF z w.o.q I v (yz fs c.g c.d rest B))/\X (μ w I)
 |[],k,w,r,t,B,S,L,q,M,D,K=>by
  have N:k=c.d.j:=by
   have:=congrArg List.length L;simp at this;omega
  subst N;exact L3 w n F gb j E r t c fs B K η η (λl P=>⟨by have:=(h l P).1;omega,(h l P).2⟩) A H
 |l::rest,k,w,r,t,B,S,L,q,M,D,K=>by
  have b:k<c.d.j:=by
   have:=congrArg List.length L;simp at this;omega
  have s:=L;rw[yK b] at s;have u:c.d[k]=l:=(List.cons.inj s).1;have y:c.d.drop (k+1)=rest:=(List.cons.inj s).2;have m:l∈zj c:=by simp[zj,←u]
  have i:X (∀W d g (p:yC),p.j<=3*(k+1)->qT p->(yz fs c.g c.d rest p).j<=1000000000000->mp z W n F gb j E d g c fs p->c_ e_ 166 #[(π n),.u (Z (ω gb j)),ι ((k:Int)+1),.agg #[d,g]] W λe I=>∃v,e=.returned v/\X (xF z W.o.q I v (yz fs c.g c.d rest p))/\X (μ W I)):=λW d g p T h2 h3 h4=>Iu n F gb j E c fs C h A H J G rest (k+1) W d g p b y T h2 h3 h4;cases R:l.i with
  |true=>exact Pd w n F gb j E r t c fs B l rest k K C b u q M R D i
  |false=>exact KV w n F gb j E r t c fs B l rest k K C (h l m) A (λf V e=>J f V l m e) G b u q M R D i
end
section
open Go.Proofs.Tryz
variable {z:Nat->Prop}{rvs:List O}{lo:Nat}{w:U}
def Uv:(e_.info? 56).map (λi=>(i.zero,i.q,i.bytes))=Z (Z (.agg #[.g g_,ν,ι 0]),3,48):=χ
def Wd(f:zB)(a:O):List Value:=[.g f.1,a,ι (f.2.2:Nat)]
def jr(fs:List zB)(rvs:List O):List Value:=(List.zipWith Wd fs rvs).flatten
def RN{fs gs:Θ}{a:Γ}(h:rvs.j=fs.j):jr (fs++gs) (rvs++a)=jr fs rvs++jr gs a:=by
 unfold jr;rw[iT h.z];simp
def KE{fs:Θ}(h:rvs.j=fs.j):(jr fs rvs).j=fs.j*3:=by
 induction fs generalizing rvs with
 |nil=>simp[jr]
 |cons f fs a=>
  rcases rvs with _|⟨r,rvs⟩;simp at h;have:=a (rvs:=rvs) (by simpa using h);unfold jr at this ⊢;simp only[l7,pw,yB,xp];rw[this];simp[Wd];omega
def rC:∀(fs:Θ) (gs:Γ) (i c:Nat) (h:i<fs.j) (b:i<gs.j),c<3->(jr fs gs)[i*3+c]?=(Wd fs[i] gs[i])[c]?
 |f::fs,g::gs,0,c,_,_,a=>by
  have e:jr (f::fs) (g::gs)=Wd f g++jr fs gs:=by simp[jr]
  rw[e,sw (by simp[Wd];omega)];simp
 |f::fs,g::gs,i+1,c,h,b,a=>by
  have e:jr (f::fs) (g::gs)=Wd f g++jr fs gs:=by simp[jr]
  have l:(Wd f g).j=3:=by simp[Wd]
  rw[e,gJ (by rw[l];omega),l,show(i+1)*3+c-3=i*3+c by omega];exact rC fs gs i c (by simpa using h) (by simpa using b) a
def yX(z:Nat->Prop)(lo:Nat)(w:U)(v:O)(fs:List zB):Prop:=∃rvs:List O,rvs.j=fs.j/\w.r lo 56 3 v fs.j (jr fs rvs)/\∀i (h:i<fs.j) (a:i<rvs.j),VK z w rvs[i] fs[i].2.1
def yX.nil(lo:Nat)(w:U):yX z lo w (ν) []:=⟨[],rfl,xj _ _ _ _,λi h=>by cases h⟩
def yX.u{lo:Nat}{w w':U}{v:O}{fs:Θ}(h:yX z lo w v fs)(c:μ w w'):yX z lo w' v fs:=by
 obtain⟨rvs,d,e,f⟩:=h;exact⟨rvs,d,zy e c,λi a b=>(f i a b).u c⟩
def yX.low{a:Nat}{v:O}{fs:Θ}(h:yX z lo w v fs)(d:a<=lo):yX z a w v fs:=by
 obtain⟨rvs,b,e,c⟩:=h;exact⟨rvs,b,yq e d,c⟩
def yX.saveT{lo:Nat}{w w':U}{v:O}{fs:Θ}{M:Φ}{T:f_}(h:yX z lo w v fs)(hs:zc M w w')(c:UP w T M)(e:56≠T)(j:9≠T):yX z lo w' v fs:=by
 obtain⟨rvs,f,d,g⟩:=h;exact⟨rvs,f,yR d hs c e,λi a b=>(g i a b).saveT hs c j⟩
def yX.facts{v:O}{fs:Θ}(h:yX z lo w v fs):nW w v fs:=by
 obtain⟨rvs,n,f,l⟩:=h;by_cases k:0<fs.j;obtain⟨g,b,d,_,m,e⟩:=yt f k;refine⟨_,b,d,λi c=>?_⟩;have a:i<rvs.j:=η;refine⟨g,rvs[i],0,rfl,m,e (i*3) _ ?_,e (i*3+1) _ ?_,e (i*3+2) _ ?_,(l i c a).1⟩;rw[show i*3=i*3+0 from rfl,rC _ _ _ _ c a η];rfl;rw[rC _ _ _ _ c a η];rfl;rw[rC _ _ _ _ c a η];rfl;obtain⟨j,b,d⟩:=zq f;exact⟨j,b,d,λi c=>zC c η⟩
section
variable {ops:Array Oper} {rest:List Oper} {o:Oper} {a:Act} {Q:Exit->Act->U->Prop}
def Er{B:Nat}(m:o.guard=Y)(s x:Operand)
  (P:o.op=.call {callee:=.builtin .append,args:=#[s,x],argTypes:=#[52,52]})
  (p g:Θ) (r R:O) (L:a.eval s=r) (W:a.eval x=R) (h1:yX z lo w r p) (h2:yX z B w R g) (hl:p.j+g.j<=1000000000000) (I:lo<=w.o.q)
  (h:∀K H,yX z lo H K (p++g)->zc r.m.v w H->wpList e_ ops Q rest (a.put o.dst K) H):
  wpList e_ ops Q (o::rest) a w:=by
 obtain⟨V,hi,y,E,F⟩:=info_parts Uv;obtain⟨rvs,t,l,S⟩:=h1;obtain⟨b,M,b2,N⟩:=h2;have n:∀u∈jr g b,u.oneCell'=true:=by
  intro u i;obtain⟨f,hf,i⟩:=List.mem_flatten.1 i;obtain⟨j,d,rfl⟩:=vh.1 hf;rw[List.getElem_zipWith] at i;simp only[List.length_zipWith] at d;obtain⟨ao,af,e⟩:=(N j η η).1.qm;unfold Wd at i;rw[e] at i;simp only[z7,n6,or_false] at i;rcases i with rfl|rfl|rfl<;>simp[O.oneCell']
 obtain⟨_,⟨J,hn⟩|⟨T,q,ad,J,aa,hh,ab,ae,ac,C⟩⟩:=id b2;have G:g=[]:=lK hn;refine wpList_append_own_none m s x 52 P lo 56 V 3 underlying52 hi _ _ _ L l (by rw[W,J]) ?_;refine h _ _ ?_ (zc.refl _ _);rw[G,vD];exact⟨rvs,t,l,S⟩;have A:∀j u,(jr g b)[j]?=Z u->w.p (Addr.add (δ T) j)=Z u:=λj u d=>by
  rw[q_,uM];unfold U.cell?;rw[hh];simp only;rw[←C,mH] at d;split at d;simpa using d;simp at d
 refine wpList_append_own _ m s x 52 P lo 56 V _ 3 48 underlying52 hi y E F rfl θ _ _ _ L l (δ T) g.j q (jr g b) (by rw[W,J]) (KE M) A n b_ η I ?_;intro K w2 v c _;have D:zc r.m.v w w2:=⟨c.os,c.tape,c.output,c.q,λk hk hm=>c.block k hk λe=>hm (by rw[←e];simp)⟩;refine h _ _ ⟨rvs++b,by simp[t,M],by rw[yB,RN t];exact v,λj q1 q2=>?_⟩ D;by_cases d:j<p.j;simp only[uI d,uI (show j<rvs.j by omega)];exact(S j d η).saveT D (UP.own l) θ;simp only[yB] at q1 q2;simp only[mh (show p.j<=j by omega),mh (show rvs.j<=j by omega),t];exact(N _ η η).saveT D (UP.own l) θ
def yX.one{b:Nat}{f:zB}{c:O}(e:U3 w b (Wd f c).F 56)(g:VK z w c f.2.1):yX z 0 w (.k (Z (δ b)) 1 1) [f]:=by
 refine⟨[c],rfl,⟨by simp[jr,Wd],zg ⟨b,1,(Wd f c).F,rfl,zs _,e,ze _,by unfold maxLen;omega,by simp[Wd],by simp[jr,Wd]⟩⟩,λi d h=>?_⟩;obtain rfl:i=0:=by simp at d;exact d
 exact g
end
def Gl(w:U)(E j:Nat)(fv lv t:O)(fs ls:Θ)(b:Λ)(row:List Λ)(R:U3 w E #[fv,ι j] 54)(hf:nW w fv fs)(P:yX z lo w lv ls)(D:VK z w t row)(af:fs.j<=10000000)(an:ls.j<1000000000000)(ar:row.j<=1000000)(M:∀f∈fs,f.2.1.j<=1000000)(K:∀f∈ls,f.2.1.j<=1000000)(aa:lo<=w.o.q):
  c_ e_ 123 #[(π E),lv,.g b,t] w λe w'=>∃v,e=.returned v/\X (yX z lo w' v (uz fs ls (b,row,j)))/\X (zc lv.m.v w w'):=by
 obtain⟨G,s,rfl⟩:=D.1.qm;have J:=U2 (Bi w E j fv fs b _ row R hf D.1 af η M);have ad:X (∀W,μ w W->W.p (ω E 1)=Z (ι j)/\E<W.o.q):=λW l=>⟨by rw[(R.u l).H.1];rfl,(R.u l).lt⟩;have ah:=U2 λW lo va (a:List Λ) (l:μ w W) (ha:U7 lo W va a) (hq:a.j<=1000000)=>Es W va _ a row ha (D.1.u l) hq η;have B:=U2 λW (l:μ w W)=>P.u l;have S:=U2 λW (l:μ w W)=>D.u l;have V:=U2 K;obtain⟨ao,av,rfl,_⟩:=P.facts;have HC:X (∀W i (h:i<ls.j),μ w W->∃g t lo,ao=Z (δ g)/\g<W.o.q/\W.p (ω g (i*3))=Z (.g ls[i].1)/\W.p (ω g (i*3+1))=Z t/\U7 lo W t ls[i].2.1):=λW i h l=>by
  obtain⟨ap,am,e,q⟩:=(P.u l).facts;cases e;obtain⟨g,t,lo,r1,r2,r3,r4,_,r6⟩:=q i h;exact⟨g,t,lo,r1,r2,r3,r4,r6⟩
 have r:X ((yS b row fs).I=true↔0<=kg b row fs):=by
  unfold X kg;rcases yS b row fs with _|z;simp;simp
 have ak:X ((yS b row fs).I=true->uz fs ls (b,row,j)=ls):=λq=>zb (zh q);have ac:X ((yS b row ls).I=true->uz fs ls (b,row,j)=ls):=λq=>zb (zg q);have ab:X (¬(yS b row fs).I=true->¬(yS b row ls).I=true->uz fs ls (b,row,j)=ls++[(b,row,j)]):=λq1 q2=>za (by rintro(z|z);exact q1 z;exact q2 z);clear R hf P D M K;generalize uz fs ls (b,row,j)=au at *;generalize (yS b row fs).I=fb at *;generalize kg b row fs=fi at *;by_cases F:0<=fi
 .have L:=U2 (ak.l (r.l.2 F));go_enter func123,ntmps123;go_wp2_with (go_at_call 45;refine J.l.y ?_;rintro e w1 ⟨rfl,n⟩)
  go_ret;exact⟨_,rfl,by rw[X,L.l];exact B.l _ n,zc.of n⟩
 have ag:X (¬fb=true):=λq=>F (r.l.1 q);have H0:X (yS b row ls=(yS b row (ls.drop 0)).map (·+0)):=show yS b row ls=_ by simp
 generalize yS b row ls=p at *;go_enter func123,ntmps123;go_wp2_with (go_at_call 45;refine J.l.y ?_;rintro e w1 ⟨rfl,n⟩)
 go_loopw [10,11] (λi _ wr=>∃k:Nat,k<=ls.j/\i=ι k/\X (p=(yS b row (ls.drop k)).map (·+k))/\μ w wr) (λi _ _=>ls.j-(d_ i).D);exact⟨0,zs _,rfl,H0,n⟩;obtain⟨k,hk,rfl,HK,c⟩:=hrel;by_cases x:k<ls.j
 .have I:(k:Int)<(ls.j:Int):=η;obtain⟨g,aw,T,rfl,hg,c0,c1,hS⟩:=HC.l wr k x c;have q:=HK.l;rw[FU x] at q;have C:=U2 q;clear q HK;have N:=U2 (ah.l wr T _ _ c hS (V.l _ (zr x)));clear hS;generalize ls[k].2.1=fr at *;generalize ls[k].1=fp at *;by_cases A:fp=b
  .have ae:=qH A;by_cases d:fr=row
   .have u:X (p=Z k):=show p=Z k by rw[C.l,zb ⟨A,d⟩];simp
    have L:=U2 (ac.l (by rw[u.l];rfl));rw[show decide (fr=row)=true by simp[d]] at N;clear C A d;go_wp2_with (go_at_call 84;refine N.l.y ?_;rintro e w3 ⟨rfl,m⟩)
    go_ret;exact⟨_,rfl,by rw[X,L.l];exact B.l _ (U6 c m),zc.of (U6 c m)⟩
   have u:X (p=(yS b row (ls.drop (k+1))).map (·+(k+1))):=show p=_ by
    rw[C.l,za (λz=>d z.2),r_];congr 1;funext z;simp only[Function.comp];omega
   rw[show decide (fr=row)=false by simp[d]] at N;clear C A d;go_wp2_with (go_at_call 84;refine N.l.y ?_;rintro e w3 ⟨rfl,m⟩)
   exact⟨⟨k+1,η,ξ,u,U6 c m⟩,by simp[d_];omega⟩
  have ae:=vn A;have u:X (p=(yS b row (ls.drop (k+1))).map (·+(k+1))):=show p=_ by
   rw[C.l,za (λz=>A z.1),r_];congr 1;funext z;simp only[Function.comp];omega
  clear C A;go_wp2;exact⟨⟨k+1,η,ξ,u,c⟩,by simp[d_];omega⟩
 have I:¬(k:Int)<(ls.j:Int):=η;have u:X (p=Y):=show p=Y by
  rw[HK.l,uk η];rfl
 have L:=U2 (ab.l ag.l (by rw[u.l];simp));obtain⟨c1,aq⟩:=ad.l _ c;have hu:μ wr (wr.C (.E #[.g b,.k G row.j s,ι j] 56)):=(zn _ _).C (ze _) _;have y:=U6 c hu;have HX:=U2 (yX.one (f:=(b,row,j)) (U3.new wr (Wd (b,row,j) (.k G row.j s)).F 56) (S.l _ y));have al:=U2 (B.l _ y);have H:=U2 y;go_wp2_with (at_builtin;refine Er rfl (.tmp 41) (.tmp 49) rfl _ _ _ _ rfl rfl al.l HX.l υ (zX aa H.l.q) ?_;intro v8 w8 aj ai)
 go_ret;exact⟨_,rfl,by rw[X,L.l];exact aj,(zc.of H.l).A ai⟩
end
section
open Go.Proofs.Tryz
variable {z:Nat->Prop}{cs:List zd}{t:List zf}
def lx.clr{w:U}{g o:Nat}{c:zd}{f:Option Addr}{cap:Nat}{d:Option Addr}{a:Nat}(h:lx w g o c f cap d a)(l:∀b,(i_ f c.g.k.j cap).m=Z b->¬z b):WJ z w g o c:=by
 refine⟨h.lt,h.c1,⟨_,h.c2,h.k,l⟩,d,a,h.c3,λj k=>?_⟩;obtain⟨m,s,e,p,i,r,q,n,u⟩:=h.d.cell j k;exact⟨m,p,i,r,q,_,n,u⟩
structure WP (z:Nat->Prop) (w:U) (pb:Nat) (ao:Option Addr) (cap:Nat) (aop:Option Addr) (capp:Nat) (aok:Option Addr) (capk:Nat) (cs:List zd) (t:List zf):Prop where
 box:U3 w pb #[.k ao cs.j cap,.k aop t.j capp,.k aok t.j capk] 45
 cl:∀i (h:i<cs.j),∃g,ao=Z ⟨g,0,Y⟩/\WJ z w g (i*4) cs[i]
 names:U7 0 w (.k aop t.j capp) (U4 t)
 strata:∀i (h:i<t.j),∃g,aok=Z ⟨g,0,Y⟩/\g<w.o.q/\w.p ⟨g,i,Y⟩=Z (ι (t[i].L:Nat))
def WP.u{w w':U}{pb:Nat}{l:Option Addr}{cap:Nat}{e:Option Addr}{b:Nat}{d:Option Addr}{a:Nat}{cs:Ξ}{t:Ψ}(h:WP z w pb l cap e b d a cs t)(c:μ w w'):WP z w' pb l cap e b d a cs t:=by
 refine⟨h.box.u c,λi k=>?_,h.names.u c,λi k=>?_⟩;obtain⟨g,j,f⟩:=h.cl i k;exact⟨g,j,f.u c⟩;obtain⟨g,j,f,m⟩:=h.strata i k;exact⟨g,j,yh f c.q,(zi c f m)⟩
def jp.read{lo:Nat}{s w:U}{pb:Nat}(y:jp lo s pb cs t)(hs:Vw lo s w)(R:∀b,z b->b<lo∨s.o.q<=b):∃m h f c d a,WP z w pb m h f c d a cs t:=by
 obtain⟨_,cv,pv,kv,k,J,p,A⟩:=y.same hs;obtain⟨m,h,rfl⟩:=J.qm;obtain⟨f,c,rfl⟩:=p.qm;obtain⟨d,a,rfl⟩:=zq A;have e:(U4 t).j=t.j:=by simp[U4]
 rw[e] at k p;refine⟨m,h,f,c,d,a,k,λi l=>?_,yq p (zs _),λi l=>?_⟩;obtain⟨g,aa,B,ab,x,u,C⟩:=J.at i l;refine⟨g,u,C.clr ?_⟩;obtain⟨S,T,Q,M,k1,v,_,_⟩:=y;have j:=k1.same S hs;rw[U3] at k j;rw[k] at j;simp only[zt,Obj.cells.injEq,Array.mk.injEq,m8,and_true] at j;have W:=j.1.z;subst W;obtain⟨g',I,q,H,o,F,N,_,_,P,_,E,_⟩:=v.cell i l;rw[u] at F;cases F;have n:lo<=g:=by
  obtain⟨xs,D,_⟩:=v;rw[u] at D;exact yZ D rfl
 have r:w.p (ω g (i*4+2))=s.p (ω g (i*4+2)):=by simp[U.cell?,hs g n N]
 rw[C.c2,P] at r;rw[zt] at r;rw[r];intro b G V;have a1:=yZ E G;have a2:=yb E G;have a3:=R b V;omega;obtain⟨g,K,hv,_,n,L⟩:=yt A η;cases hv;refine⟨g,rfl,n,L i _ ?_⟩;simp[l,Vg]
def il(a:uf cs t){c:zd}(m:c∈cs):l6 (U4 t) c.g.o=(zE t c.g.o:Nat)/\∃h:zE t c.g.o<t.j,t[zE t c.g.o].L=xO t c.g.o:=by
 obtain⟨b,p,f,n⟩:=a.lit c m c.g (by simp[zj]);have j:c.g.o∈U4 t:=by
  rw[←f,(dL a.rise b).2];exact z9.2 ⟨_,zr _,rfl⟩
 obtain⟨k,o,g⟩:=eo j;obtain⟨l,i⟩:=lM g;have d:k<t.j:=by simpa [U4] using l
 have e:zE t c.g.o=k:=by
  have q:=dL a.rise d;have:vu t k=c.g.o:=by
   rw[q.2,←i];simp[U4]
  rw[←this];exact q.1
 refine⟨by unfold l6;rw[g,e],b,?_⟩;have q:=(BV a.rise b).1;rw[←(dL a.rise b).2,f] at q;unfold xO;rw[q]
def AR{s i:Nat}(a:i<cs.j):y6 t (cs.G (i+1)) s=if xO t cs[i].g.o=s/\0<cs[i].d.j then y6 t (cs.G i) s++[cs[i]] else y6 t (cs.G i) s:=by
 unfold y6;rw[yF a,wG];by_cases q:xO t cs[i].g.o=s/\0<cs[i].d.j;rw[zb q,l_ (by simpa using q),k_];rw[za q,m_ (by simpa using q),k_,vD]
def Pg{s i:Nat}(d:i<cs.j)(q:xO t cs[i].g.o=s/\0<cs[i].d.j):(y6 t cs s).isEmpty=false:=by
 have:cs[i]∈y6 t cs s:=xw.2 ⟨zr d,decide_eq_true q⟩;rcases c:y6 t cs s with _|⟨a,b⟩;rw[c] at this;cases this;rfl
def SA(w:U)(pb:Nat)(D:Option Addr)(cap:Nat)(I:Option Addr)(r:Nat)(m:Option Addr)(k:Nat)(cs:Ξ)(t:Ψ)(s:Nat)(h:WP z w pb D cap I r m k cs t)(L:uf cs t)(hl:cs.j<=1000)(ht:t.j<=1000)(p:∀c∈cs,xO t c.g.o<=1000)(hs:s<=1000):
  c_ e_ 124 #[(π pb),ι s] w λe K=>e=ε (.i (!(y6 t cs s).isEmpty))/\K=w:=by
 have x:X (∀c∈cs,c_ e_ 111 #[(π pb),.g c.g.o] w λe K=>e=ε (ι (zE t c.g.o:Nat))/\K=w):=λc B=>by
  have:=nM w pb _ _ _ (U4 t) c.g.o h.box h.names (by simp[U4];omega);rw[(il L B).1] at this;exact this
 have M:X (∀c∈cs,zE t c.g.o<t.j/\∃g,m=Z (δ g)/\g<w.o.q/\w.p (ω g (zE t c.g.o))=Z (ι (xO t c.g.o:Nat))):=λc B=>by
  obtain⟨l,d⟩:=(il L B).2;obtain⟨g,r1,r2,r3⟩:=h.strata _ l;exact⟨l,g,r1,r2,by rw[r3,d]⟩
 have A:X (∀i (j:i<cs.j),∃g,D=Z (δ g)/\g<w.o.q/\w.p (ω g (i*4+1))=Z (.g cs[i].g.o)/\∃u v,w.p (ω g (i*4+3))=Z (.k u cs[i].d.j v)):=λi j=>by
  obtain⟨g,l,d⟩:=h.cl i j;obtain⟨u,v,W,_⟩:=d.d;exact⟨g,l,d.lt,d.o,u,v,W⟩
 have o:=U2 p;have b0:w.p (δ pb)=Z (.k D cs.j cap):=by rw[h.box.H.1];rfl
 have b2:w.p (ω pb 2)=Z (.k m t.j k):=by rw[h.box.H.1];rfl
 have ac:=h.box.lt;have HE:X (y6 t cs s=y6 t (cs.G cs.j) s):=by rw[X,ve]
 have J:X (∀i (j:i<cs.j),xO t cs[i].g.o=s->0<cs[i].d.j->(y6 t cs s).isEmpty=false):=λi j l d=>Pg j ⟨l,d⟩;have N:X (∀i (j:i<cs.j),¬(xO t cs[i].g.o=s/\0<cs[i].d.j)->y6 t (cs.G i) s=[]->y6 t (cs.G (i+1)) s=[]):=λi j l d=>by rw[AR j,za l,d]
 clear h L p;generalize y6 t cs s=ab at *;go_enter func124,ntmps124;go_wp2;go_loopw [5,6] (λy _ wr=>∃i:Nat,i<=cs.j/\y=ι i/\X (y6 t (cs.G i) s=[])/\wr=w) (λy _ _=>cs.j-(d_ y).D);exact⟨0,zs _,rfl,rfl,rfl⟩;obtain⟨i,j,rfl,C,H⟩:=hrel;obtain rfl:=H.z;by_cases f:i<cs.j
 .have F:(i:Int)<(cs.j:Int):=η;obtain⟨g,rfl,hg,c1,u,v,c3⟩:=A.l i f;have a:=zr f;obtain⟨ae,gk,rfl,aa,ck⟩:=M.l _ a;have G:=U2 (x.l _ a);have af:=o.l _ a;have ad:((zE t cs[i].g.o:Nat):Int)<(t.j:Int):=η;have H1:=U2 (J.l i f);have S:=U2 (N.l i f);clear a;generalize cs[i].d.j=bl at *;generalize xO t cs[i].g.o=T at *;generalize zE t cs[i].g.o=fk at *;generalize cs[i].g.o=pr at *;by_cases Q:T=s
  .subst Q;by_cases P:0<bl
   .have E:(0:Int)<(bl:Int):=η;have n:=U2 (H1.l rfl P);go_wp2_with (go_at_call 111;refine G.l.y ?_;rintro e R ⟨rfl,b⟩;obtain rfl:=b.z)
    go_ret;exact⟨by rw[n.l];rfl,rfl⟩
   have E:¬(0:Int)<(bl:Int):=η;have n:=U2 (S.l (λq=>P q.2) C.l);go_wp2_with (go_at_call 111;refine G.l.y ?_;rintro e R ⟨rfl,b⟩;obtain rfl:=b.z)
   go_roundw;exact⟨i+1,η,ξ,n,trivial⟩;simp[d_];omega
  have V:¬((T:Int)=(s:Int)):=η;have n:=U2 (S.l (λq=>Q q.1) C.l);go_wp2_with (go_at_call 111;refine G.l.y ?_;rintro e R ⟨rfl,b⟩;obtain rfl:=b.z)
  go_roundw;exact⟨i+1,η,ξ,n,trivial⟩;simp[d_];omega
 have F:¬(i:Int)<(cs.j:Int):=η;obtain rfl:i=cs.j:=η;have n:=U2 (HE.l.A C.l);go_wp2;go_ret;exact⟨by rw[n.l];rfl,rfl⟩
end
section
open Go.Proofs.Tryz
variable {z:Nat->Prop}
def If(fs l:Θ)(f:zB):l.j<=(uz fs l f).j:=by
 unfold uz;split<;>simp
def i8{α:Type}(g:Θ->α->Θ)(a:∀l x,l.j<=(g l x).j):∀(gs:List α) (l:Θ),l.j<=(gs.H g l).j
 |[],_=>ze _
 |x::gs,l=>zX (a l x) (i8 g a gs (g l x))
def Nu{α:Type}(g:Θ->α->Θ)(a:∀l x,l.j<=(g l x).j)(gs:List α)(l:Θ)(k:Nat):((gs.G k).H g l).j<=(gs.H g l).j:=by
 conv=>rhs;rw[←jF k gs,j4]
 exact i8 g a _ _
def Rm(fs:Θ)(k:Nat)(a:Ξ)(l:Θ):l.j<=(xY fs k a l).j:=i8 _ (λl _=>i8 _ (λl _=>If fs l _) _ l) a l
def Df(fs:Θ)(k:Nat)(b a:Ξ)(l:Θ):xY fs k (b++a) l=xY fs k a (xY fs k b l):=by
 unfold xY;rw[j4]
def M7(fs:Θ)(k:Nat)(t:Ψ)(cs:Ξ)(s i:Nat):(xY fs k (y6 t (cs.G i) s) []).j<=(xY fs k (y6 t cs s) []).j:=by
 have:y6 t cs s=y6 t (cs.G i) s++y6 t (cs.drop i) s:=by
  unfold y6;rw[←wG,jF]
 rw[this,Df];exact Rm _ _ _ _
def Ae{fs:Θ}{h:zk}{body:Ω}:∀(rest:Ω) (B:yC) (r:List Λ),r∈yz fs h body rest B->r.j=h.k.j
 |[],B,r,a=>by
  unfold yz at a;split at a
  .cases a
  .rw[xo.1 a];simp[yM]
 |l::rest,B,r,a=>by
  unfold yz at a;split at a
  .exact Ae rest B r a
  .obtain⟨f,_,a⟩:=vg.1 a;split at a
   .split at a
    .cases a
    .exact Ae rest _ r a
   .cases a
def Mg{fs l:Θ}{f:zB}{n:Nat}(b:∀g∈l,g.2.1.j<=n)(c:f.2.1.j<=n):∀g∈uz fs l f,g.2.1.j<=n:=by
 intro g a;unfold uz at a;split at a;exact b g a;rcases zW.1 a with q|q;exact b g q;rw[xo.1 q];exact c
def AU{fs:Θ}{n:Nat}{p:Λ}{k:Nat}:∀(rs:List (List Λ)) (l:Θ),(∀g∈l,g.2.1.j<=n)->(∀r∈rs,r.j<=n)->∀g∈rs.H (λl r=>uz fs l (p,r,k)) l,g.2.1.j<=n
 |[],_,a,_=>a
 |r::rs,l,a,b=>AU rs _ (Mg a (b r ζ)) (λx c=>b x (by simp[c]))
def O5(w:U)(pb mb n s:Nat)(fv:O)(ao:Option Addr)(cap:Nat)(bd:Option Addr)(a3:Nat)(ak:Option Addr)(V:Nat)(cs:Ξ)(t:Ψ)(fs:Θ)(h:WP z w pb ao cap bd a3 ak V cs t)(hz:V8 z w.o.q)(hm:U3 w mb #[fv,ι n] 54)(hf:nW w fv fs)(hx:uf cs t)(hl:cs.j<=1000)(ht:t.j<=1000)(a0:∀c∈cs,xO t c.g.o<=1000)(hs:s<=1000)(a1:∀c∈cs,c.d.j<=30)(an:∀c∈cs,∀l∈zj c,l.k.j<=3/\∀a∈l.k,0<a.q)(az:fs.j<=10000000)(am:∀f∈fs,f.2.1.j<=1000000)(hF:sN cs fs)(a2:(xY fs n (y6 t cs s) []).j<1000000000000)(aj:∀c∈cs,(yz fs c.g c.d c.d []).j<=1000000000000):
  c_ e_ 125 #[(π pb),(π mb),ι s] w λe A=>∃v,e=.returned v/\X (yX z w.o.q A v (xY fs n (y6 t cs s) []))/\X (μ w A):=by
 have aX:X (∀W c,μ w W->c∈cs->c_ e_ 111 #[(π pb),.g c.g.o] W λe A=>e=ε (ι (zE t c.g.o:Nat))/\A=W):=λW c m hc=>by
  have:=nM W pb _ _ _ (U4 t) c.g.o (h.u m).box (h.u m).names (by simp[U4];omega);rw[(il hx hc).1] at this;exact this
 have aQ:X (∀W c,μ w W->c∈cs->zE t c.g.o<t.j/\∃g,ak=Z ⟨g,0,Y⟩/\g<W.o.q/\W.p ⟨g,zE t c.g.o,Y⟩=Z (ι (xO t c.g.o:Nat))):=λW c m hc=>by
  obtain⟨D,E⟩:=(il hx hc).2;obtain⟨g,r1,r2,r3⟩:=(h.u m).strata _ D;exact⟨D,g,r1,r2,by rw[r3,E]⟩
 have ay:X (∀W i (C:i<cs.j),μ w W->∃g,ao=Z ⟨g,0,Y⟩/\g<W.o.q/\g<w.o.q/\WJ z W g (i*4) cs[i]):=λW i C m=>by
  obtain⟨g,D,E⟩:=h.cl i C;exact⟨g,D,yh E.lt m.q,E.lt,E.u m⟩
 have aG:X (∀W,μ w W->W.p ⟨pb,0,Y⟩=Z (.k ao cs.j cap)/\W.p ⟨pb,2,Y⟩=Z (.k ak t.j V)/\pb<W.o.q):=λW m=>⟨by rw[(h.u m).box.H.1];rfl,by rw[(h.u m).box.H.1];rfl,(h.u m).box.lt⟩;have ax:X (∀W i (C:i<cs.j) g,μ w W->WJ z W g (i*4) cs[i]->c_ e_ 166 #[(π mb),.u (Z ⟨g,i*4,Y⟩),ι 0,.agg #[ν,ν]] W λe A=>∃v,e=.returned v/\X (xF z W.o.q A v (yz fs cs[i].g cs[i].d cs[i].d []))/\X (μ W A)):=λW i C g m hc=>by
  have j:=zr C;exact Iu mb n g (i*4) fv cs[i] fs (a1 _ j) (an _ j) az am (λf hf l hl e=>hF.jh f hf _ j l hl e.z) hF.ne cs[i].d 0 W _ _ [] (zs _) rfl ζ (λv x q=>by cases q) (aj _ j) ⟨hm.u m,hf.u m,hc,U7.nil W,U7.nil W,hz.up m.q⟩
 have T:=U2 λW P rv ar row (ls:Θ) (m:μ w W) (h1:yX z w.o.q W P ls) (h2:VK z W rv row) (h3:ls.j<1000000000000) (h4:row.j<=1000000) (h5:(∀f∈ls,f.2.1.j<=1000000))=>Gl W mb n fv P rv fs ls ar row (hm.u m) (hf.u m) h1 h2 az h3 h4 am h5 m.q;have a6:=U2 a0;have HE:X (xY fs n (y6 t cs s) []=xY fs n (y6 t (cs.G cs.j) s) []):=by rw[X,ve]
 have aU:=U2 λi=>p_ (M7 fs n t cs s i) a2;have aL:X (∀i (C:i<cs.j),xO t cs[i].g.o=s->0<cs[i].d.j->xY fs n (y6 t (cs.G (i+1)) s) []=(yz fs cs[i].g cs[i].d cs[i].d []).H (λl r=>uz fs l (cs[i].g.o,r,n)) (xY fs n (y6 t (cs.G i) s) [])):=λi C D E=>by
  rw[AR C,zb ⟨D,E⟩,Df];rfl
 have aS:X (∀i (C:i<cs.j),¬(xO t cs[i].g.o=s/\0<cs[i].d.j)->xY fs n (y6 t (cs.G (i+1)) s) []=xY fs n (y6 t (cs.G i) s) []):=λi C D=>by rw[AR C,za D]
 have aP:X (∀i (C:i<cs.j),∀r∈yz fs cs[i].g cs[i].d cs[i].d [],r.j<=1000000):=λi C r hr=>by
  rw[Ae _ _ r hr];have:=(an _ (zr C) cs[i].g (by simp[zj])).1;omega
 have aE:=U2 aj;clear h hm hf hx a0 a1 an am hF a2 aj;generalize xY fs n (y6 t cs s) []=bp at *;go_enter func125,ntmps125;go_wp2;go_loopw [7,8,9,10,11,12] (λv7 v8 _ _ _ _ wr=>∃i:Nat,i<=cs.j/\v8=ι i/\X (yX z w.o.q wr v7 (xY fs n (y6 t (cs.G i) s) []))/\X (∀f∈xY fs n (y6 t (cs.G i) s) [],f.2.1.j<=1000000)/\X (μ w wr)) (λ_ v8 _ _ _ _ _=>cs.j-(d_ v8).D);exact⟨0,zs _,rfl,yX.nil _ _,λf hf=>(by cases hf),zn _ _⟩;obtain⟨i,C,rfl,J,M,o⟩:=hrel;obtain⟨b0,b2,aD⟩:=aG.l _ o.l;by_cases B:i<cs.j
 .have aK:(i:Int)<(cs.j:Int):=η;have j:=zr B;obtain⟨g,rfl,hg,br,L⟩:=ay.l _ i B o.l;have HC:=U2 L;obtain⟨bh,gk,rfl,aO,ck⟩:=aQ.l _ _ o.l j;have HP:=U2 (aX.l _ _ o.l j);have bo:=a6.l _ j;have bn:((zE t cs[i].g.o:Nat):Int)<(t.j:Int):=η;have c1:=L.o;obtain⟨ab,cb,c3⟩:∃ab cb,wr.p ⟨g,i*4+3,Y⟩=Z (.k ab cs[i].d.j cb):=by
   obtain⟨ab,cb,c3,_⟩:=L.d;exact⟨ab,cb,c3⟩
  have H1:=U2 (aL.l i B);have H2:=U2 (aS.l i B);have a5:=U2 (aU.l (i+1));have au:=U2 (ax.l wr i B g o.l L);have ag:=U2 (aP.l i B);have aF:=U2 (aE.l _ j);have aA:X (∀W,μ w W->g<W.o.q/\W.p ⟨g,i*4+1,Y⟩=Z (.g cs[i].g.o)):=λW m=>by
   obtain⟨g',e,D,_,E⟩:=ay.l W i B m;cases e;exact⟨D,E.o⟩
  clear j L HC;obtain⟨nx,af⟩:∃nx,xY fs n (y6 t (cs.G (i+1)) s) []=nx:=⟨_,rfl⟩;rw[af] at H1 H2 a5;have F:=U2 af;clear af;generalize xY fs n (y6 t (cs.G i) s) []=S at *;generalize yz fs cs[i].g cs[i].d cs[i].d []=d at *;generalize cs[i].d.j=bl at *;generalize xO t cs[i].g.o=sk at *;generalize zE t cs[i].g.o=fk at *;generalize cs[i].g.o=G at *;by_cases h1:sk=s
  .subst h1;by_cases h2:0<bl
   .have aZ:¬((bl:Int)=0):=η;have HN:=U2 (H1.l rfl h2);have bq:=aF.l;go_upto_region 9 with (first|(go_at_call 166;refine au.l.y ?_;rintro e w2 ⟨aT,rfl,aa,ae⟩)|(go_at_call 111;refine HP.l.y ?_;rintro e w1 ⟨rfl,K⟩;obtain rfl:=K.z))
    have aw:=U2 (J.l.u ae.l);have aC:=U2 (U6 o.l ae.l);clear HP au b0 b2 aD hg aO ck c1 c3 H1 H2 J ae o;obtain⟨I,u,av⟩:∃I u,aT=.k I d.j u:=by
     obtain⟨_,_,q,_⟩:=aa.l;exact zq q
    subst av;go_wp2;go_loopw [7,12] (λv7 ad wz=>∃(k:Nat) (P:O),k<=d.j/\ad=ι k/\v7=P/\X (yX z w.o.q wz P ((d.G k).H (λl r=>uz fs l (G,r,n)) S))/\X (xF z 0 wz (.k I d.j u) d)/\X (μ w wz)) (λ_ ad _=>d.j-(d_ ad).D);obtain⟨y,D,E,q3⟩:=aa.l;exact⟨0,_,zs _,rfl,rfl,aw,⟨y,D,yq E (zs _),q3⟩,aC⟩;clear aw aC aa;obtain⟨k,P,hk,rfl,a8,a7,aB,ah⟩:=hrel;obtain rfl:=a8.z;clear a8;by_cases ac:k<d.j
    .have bb:(k:Int)<(d.j:Int):=η;obtain⟨y,r1,r2,r3⟩:=aB.l;obtain⟨N,bf,aN,_,be,R⟩:=yt r2 η;cases aN;have ai:k<y.j:=η;have bi:wr.p ⟨N,k,Y⟩=Z y[k]:=R k _ (by simp[ai]);obtain⟨hg,c1⟩:=aA.l _ ah.l;have aV:X ((d.G (k+1)).H (λl r=>uz fs l (G,r,n)) S=uz fs ((d.G k).H (λl r=>uz fs l (G,r,n)) S) (G,d[k],n)):=by
      rw[X,yF ac,j4];rfl
     have Q:((d.G k).H (λl r=>uz fs l (G,r,n)) S).j<1000000000000:=by
      refine p_ (Nu _ (λl _=>If fs l _) d S k) ?_;rw[←HN.l];exact a5.l
     have a4:=AU (fs:=fs) (p:=G) (k:=n) (d.G k) S M.l (λr hr=>ag.l r (gZ hr));have bc:X (∀W,μ wr W->c_ e_ 123 #[(π mb),P,.g G,y[k]] W λe A=>∃v,e=.returned v/\X (yX z w.o.q A v (uz fs ((d.G k).H (λl r=>uz fs l (G,r,n)) S) (G,d[k],n)))/\X (xF z 0 A (.k (Z ⟨N,0,Y⟩) d.j u) d)/\X (μ w A)/\A.p ⟨N,k,Y⟩=Z y[k]/\A.p ⟨g,i*4+1,Y⟩=Z (.g G)):=λW m=>by
      have al:=U6 ah.l m;have aq:=a7.l.u m;refine(T.l W P y[k] G d[k] _ al aq ((r3 k ac ai).u m) Q (ag.l _ (zr ac)) a4).y ?_;rintro e A ⟨v,D,E,q3⟩;obtain⟨_,_,H,_⟩:=id aq;have hS:=q3.l;have a9:=hS.u (λb m=>yZ H (yA m)) al.q;have aM:=aB.l.u m;have ap:=al.A a9;have aJ:=yR (zy r2 m) hS (UP.own H) θ;obtain⟨g',bg,e2,_,bm,aH⟩:=yt aJ η;cases e2;exact⟨v,D,E,aM.saveT hS (UP.own H) θ θ,ap,aH k _ (by simp[ai]),(aA.l _ ap).2⟩
     clear r2 r3 R Q a4 T;generalize y[k]=rv at *;go_upto_region 12 with fail
     go_region_held3 (λA=>A.p ⟨N,k,Y⟩=Z rv/\A.p ⟨g,i*4+1,Y⟩=Z (.g G)) (first|go_keep|(go_simp;done)) (first|(go_at_call 123;refine(bc.l _ φ).y ?_;rintro e w5 ⟨v5,rfl,aW,aY,ba,z0,z1⟩))
     go_wp2;go_roundw;exact⟨k+1,_,η,ξ,rfl,by rw[aV.l];exact aW,aY,ba⟩;simp[d_];omega
    have bb:¬(k:Int)<(d.j:Int):=η;obtain rfl:k=d.j:=η;have aI:X (yX z w.o.q wr P nx):=by
     have q:=a7.l;rw[ve,←HN.l] at q;exact q
    have aR:X (∀f∈nx,f.2.1.j<=1000000):=by
     rw[HN.l];exact AU d S M.l ag.l
    go_wp2;go_roundw;exact⟨i+1,η,ξ,by rw[F.l];exact aI,by rw[F.l];exact aR,ah⟩;simp[d_];omega
   have aZ:(bl:Int)=0:=η;have HF:=U2 (H2.l (λq=>h2 q.2));go_wp2_with (go_at_call 111;refine HP.l.y ?_;rintro e w1 ⟨rfl,K⟩;obtain rfl:=K.z)
   go_roundw;exact⟨i+1,η,ξ,by rw[F.l,HF.l];exact J,by rw[F.l,HF.l];exact M,o⟩;simp[d_];omega
  have bk:¬((sk:Int)=(s:Int)):=η;have HF:=U2 (H2.l (λq=>h1 q.1));go_wp2_with (go_at_call 111;refine HP.l.y ?_;rintro e w1 ⟨rfl,K⟩;obtain rfl:=K.z)
  go_roundw;exact⟨i+1,η,ξ,by rw[F.l,HF.l];exact J,by rw[F.l,HF.l];exact M,o⟩;simp[d_];omega
 have aK:¬(i:Int)<(cs.j:Int):=η;obtain rfl:i=cs.j:=η;go_wp2;go_ret;exact⟨_,rfl,by rw[X,HE.l];exact J.l,o⟩
def rQ(z:Nat->Prop)(w:U)(a:Option (List zB×Nat))(e:Ending)(w':U):Prop:=match a with
 |none=>e=ε (.u Y)/\X (μ w w')
 |some (L,k)=>∃b,e=ε ((π b))/\X (∃c,w.o.q<=b/\U3 w' b #[c,ι k] 54/\yX z w.o.q w' c L)/\X (μ w w')
structure Wj (z:Nat->Prop) (w wr:U) (mb:Nat) (fv:O) (L:List zB) (k:Nat):Prop where
 hmb:w.o.q<=mb
 box:U3 wr mb #[fv,ι k] 54
 fl:yX z w.o.q wr fv L
 bel:μ w wr
def Wj.u{w wr w':U}{b:Nat}{c:O}{L:Θ}{k:Nat}(h:Wj z w wr b c L k)(a:μ wr w'):Wj z w w' b c L k:=⟨h.hmb,h.box.u a,h.fl.u a,U6 h.bel a⟩
def Wj.up{w wr:U}{a:Nat}{b:O}{L:Θ}{k:Nat}(h:Wj z w wr a b L k):Wj z w (wr.x (ω a 1) (ι ((k:Int)+1))) a b L (k+1):=by
 refine⟨h.hmb,?_,h.fl.saveT (zc.set _ _ _ _) (UP.box h.box) θ θ,h.bel.x h.hmb _⟩;have:=h.box.set 1 (ι ((k:Int)+1));simpa using this
def Wj.put{w wr:U}{e:Nat}{h a:O}{g:Θ}{k:Nat}(c:w.o.q<=e)(b:U3 wr e #[h,ι k] 54)(f:yX z w.o.q wr a g)(d:μ w wr):Wj z w (wr.x (δ e) a) e a g k:=by
 refine⟨c,?_,f.saveT (zc.set _ _ _ _) (UP.box b) θ θ,d.x c _⟩;have:=b.set 0 a;simpa using this
def DC{cs:Ξ}{i:Nat}(a:i<cs.j):ub (cs.G (i+1))=if cs[i].d.j=0 then uz [] (ub (cs.G i)) (cs[i].g.o,cs[i].g.k,0) else ub (cs.G i):=by
 unfold ub;rw[yF a,wG];by_cases q:cs[i].d.j=0;rw[zb q,l_ (by simpa using q),k_,uY,j4];rfl;rw[za q,m_ (by simpa using q),k_,vD]
def MM(cs:Ξ):(ub cs).j<=cs.j/\∀f∈ub cs,∃c∈cs,f=(c.g.o,c.g.k,0):=by
 have:∀i,i<=cs.j->(ub (cs.G i)).j<=i/\∀f∈ub (cs.G i),∃c∈cs,f=(c.g.o,c.g.k,0):=by
  intro i;induction i with
  |zero=>intro _;exact⟨by simp[ub],λf a=>by simp[ub] at a⟩
  |succ i d=>
   intro g;obtain⟨e,b⟩:=d η;rw[DC η];split;unfold uz;split;exact⟨η,b⟩;refine⟨by simp;omega,λf a=>?_⟩;rcases zW.1 a with q|q;exact b f q;exact⟨cs[i],zr _,xo.1 q⟩;exact⟨η,b⟩
 have h:=this cs.j (ze _);rw[ve] at h;exact h
def Mk(w:U)(pb mr mx:Nat)(ao:Option Addr)(cap:Nat)(al:Option Addr)(C:Nat)(aG:Option Addr)(ac:Nat)(cs:Ξ)(t0 t:Ψ)(hz:V8 z w.o.q)(h:WP z w pb ao cap al C aG ac cs t)(hp:UH cs t0 t)(hx:uf cs t)(hl:cs.j<=1000)(ht:t.j<=1000)(a9:∀c∈cs,xO t c.g.o<=1000)(aV:∀c∈cs,c.d.j<=30)(am:∀c∈cs,∀l∈zj c,l.k.j<=3/\∀a∈l.k,0<a.q)(bC:mr<=1048576)(b9:mx<=1048576)(ak:∀L D,Vp t (zp cs) L D->L.j<1000000000000/\∀c∈cs,(yz L c.g c.d c.d []).j<=1000000000000):
  c_ e_ 76 #[(π pb),ι mr,ι mx] w λe G=>rQ z w (yp5 t cs mr mx) e G:=by
 have b6:=U2 λW (o:μ w W)=>h.u o;have a3:X (∀W,μ w W->W.p ⟨pb,0,Y⟩=Z (.k ao cs.j cap)/\W.p ⟨pb,1,Y⟩=Z (.k al t.j C)/\pb<W.o.q):=λW o=>⟨by rw[(h.u o).box.H.1];rfl,by rw[(h.u o).box.H.1];rfl,(h.u o).box.lt⟩;have aQ:X (∀W i (hi:i<cs.j),μ w W->∃g av ab cb,ao=Z ⟨g,0,Y⟩/\g<W.o.q/\g<w.o.q/\W.p ⟨g,i*4+1,Y⟩=Z (.g cs[i].g.o)/\W.p ⟨g,i*4+2,Y⟩=Z av/\VK z W av cs[i].g.k/\W.p ⟨g,i*4+3,Y⟩=Z (.k ab cs[i].d.j cb)):=λW i hi o=>by
  obtain⟨g,q1,q2⟩:=h.cl i hi;have q3:=q2.u o;obtain⟨av,q4,q5⟩:=q3.k;obtain⟨ab,cb,q6,_⟩:=q3.d;exact⟨g,av,ab,cb,q1,q3.lt,q2.lt,q3.o,q4,q5,q6⟩
 have bz:=U2 λW s o hs=>SA W pb ao cap al C aG ac cs t s (h.u o) hx hl ht a9 hs;have bf:X (∀W s mb E L D k,Wj z w W mb E L k->Vp t (zp cs) L D->L.j<=1048576->s<=1000->c_ e_ 125 #[(π pb),(π mb),ι (s:Nat)] W λe G=>∃v,e=.returned v/\X (yX z W.o.q G v (xY L k (y6 t cs s) []))/\X (μ W G)):=λW s mb E L D k hM hR hL hs=>by
  have bo:=(ak _ _ (hR.round hp hx s k).1).1;rw[yB] at bo;exact O5 W pb mb k s E ao cap al C aG ac cs t L (h.u hM.bel) (hz.up hM.bel.q) hM.box hM.fl.facts hx hl ht a9 hs aV am η (λf hf=>by
   obtain⟨p,bi,r,m,_,rfl⟩:=(hR.mem f).1 hf;simp only[gM];have:=hx.small p bi;omega) (hR.fs hx) η (ak _ _ hR).2
 have bb:=U2 am;have aI:X (ub cs=ub (cs.G cs.j)):=by rw[X,ve]
 have aF:X (∀i,(ub (cs.G i)).j<=1000/\∀f∈ub (cs.G i),f.2.1.j<=1000000):=λi=>by
  obtain⟨q1,q2⟩:=MM (cs.G i);refine⟨by simp at q1;omega,λf hf=>?_⟩;obtain⟨c,hc,rfl⟩:=q2 f hf;have:=(am c (gZ hc) c.g (by simp[zj])).1;show c.g.k.j<=_;omega
 have aP:X (∀i (hi:i<cs.j),ub (cs.G (i+1))=if cs[i].d.j=0 then uz [] (ub (cs.G i)) (cs[i].g.o,cs[i].g.k,0) else ub (cs.G i)):=λi hi=>DC hi;have bc:=U2 (FB hx);have aT:=U2 λL D s k (q:Vp t (zp cs) L D)=>(q.round hp hx s k).1;have be:=U2 λL D q=>(ak L D q).1;have aX:X (yp5 t cs mr mx=if (ub cs).j<=mr then zz7 t cs mr mx t.j 0 0 (ub cs) else Y):=rfl;obtain⟨b0,b1,J⟩:=a3.l w (zn _ _);clear h hp hx a9 aV am ak;generalize yp5 t cs mr mx=d at *;go_enter func76,ntmps76;go_wp2;have R:X (Wj z w (w.C (.E #[ν,ι 0] 54)) w.o.q (ν) [] 0):=⟨ze _,U3.new _ _ _,yX.nil _ _,(zn _ _).C (ze _) _⟩;generalize bw:w.C (.E #[ν,ι 0] 54)=wA at *;clear bw b0 b1 J;go_loopw [8,9,10] (λv8 v9 _ wr=>∃(i:Nat) (lv:O),i<=cs.j/\v9=ι i/\v8=lv/\X (yX z wA.o.q wr lv (ub (cs.G i)))/\X (μ wA wr)) (λ_ v9 _ _=>cs.j-(d_ v9).D)
 case atStart=>exact⟨0,_,zs _,rfl,rfl,yX.nil _ _,zn _ _⟩
 obtain⟨i,lv,hi,rfl,aj,ai,y⟩:=hrel;obtain rfl:=aj.z;clear aj;have af:=U2 (U6 R.l.bel y.l);obtain⟨b0,b1,J⟩:=a3.l _ af.l;by_cases a2:i<cs.j
 .have bk:(i:Int)<(cs.j:Int):=η;obtain⟨g,av,ab,cb,rfl,hg,bv,c1,c2,aJ,c3⟩:=aQ.l _ i a2 af.l;have an:=U2 (aP.l i a2);obtain⟨aW,aH⟩:=aF.l i;have b8:=(bb.l _ (zr a2) cs[i].g (by simp[zj])).1;by_cases o:cs[i].d.j=0
  .have aB:X (ub (cs.G (i+1))=uz [] (ub (cs.G i)) (cs[i].g.o,cs[i].g.k,0)):=by rw[X,an.l,zb o]
   rw[o] at c3;have b3:X (∀W,μ wr W->c_ e_ 123 #[.u (Z ⟨w.o.q,0,Y⟩),lv,.g cs[i].g.o,av] W λe G=>∃v,e=.returned v/\X (yX z wA.o.q G v (uz [] (ub (cs.G i)) (cs[i].g.o,cs[i].g.k,0)))/\X (μ wA G)/\G.p ⟨g,i*4+1,Y⟩=Z (.g cs[i].g.o)/\G.p ⟨g,i*4+2,Y⟩=Z av):=λW o=>by
    have ah:=U6 y.l o;have aK:=ai.l.u o;refine(Gl W w.o.q 0 _ lv av [] (ub (cs.G i)) cs[i].g.o cs[i].g.k (R.l.box.u ah) (yX.nil (z:=z) 0 W).facts aK (aJ.u o) ζ η η (λf hf=>by cases hf) aH ah.q).y ?_;rintro e G ⟨v,q1,q2,q3⟩;obtain⟨_,_,aR,_⟩:=id aK;have ax:=ah.A (q3.l.u (λb o=>yZ aR (yA o)) ah.q);have ad:=yh bv R.l.bel.q;have k1:=(y.l.cell (p:=⟨g,i*4+1,Y⟩) ad).z.A c1;have k2:=(y.l.cell (p:=⟨g,i*4+2,Y⟩) ad).z.A c2;exact⟨v,q1,q2,ax,(zi ax ad k1),(zi ax ad k2)⟩
   clear aJ an aW aH;generalize uz [] (ub (cs.G i)) (cs[i].g.o,cs[i].g.k,0)=nx at *;generalize cs[i].g.o=pr at *;go_upto_region 8 with fail
   go_region_held3 (λG=>G.p ⟨g,i*4+1,Y⟩=Z (.g pr)/\G.p ⟨g,i*4+2,Y⟩=Z av) (first|go_keep|(go_simp;done)) (first|(go_at_call 123;refine(b3.l _ φ).y ?_;rintro e w5 ⟨v5,rfl,bx,b2,z0,z1⟩))
   go_wp2;go_roundw;exact⟨i+1,_,η,ξ,rfl,by rw[aB.l];exact bx,b2⟩;simp[d_];omega
  have aB:X (ub (cs.G (i+1))=ub (cs.G i)):=by rw[X,an.l,za o]
  have b7:¬((cs[i].d.j:Int)=0):=η;clear aJ an aW aH o;generalize cs[i].d.j=bl at *;go_wp2;go_roundw;exact⟨i+1,_,η,ξ,rfl,by rw[aB.l];exact ai,y⟩;simp[d_];omega
 have bk:¬(i:Int)<(cs.j:Int):=η;obtain rfl:i=cs.j:=η;have a4:X (yX z wA.o.q wr lv (ub cs)):=by rw[aI.l];exact ai
 have aU:=(aF.l cs.j).1;rw[←aI.l] at aU;have a5:=R.l.box.u y.l;have Q:=U2 (Wj.put (ze _) a5 (a4.l.low R.l.bel.q) af.l);have aa:=U2 aX.l;obtain⟨a7,K,aj⟩:∃a7 K,lv=.k a7 (ub cs).j K:=by
  obtain⟨_,_,q,_⟩:=a4.l;exact zq q
 subst aj;obtain⟨mc,mf,x⟩:=a5.I;clear a5 a4 ai aI aP aF bb aQ aX;generalize ub cs=L0 at *;go_upto_region 10 with fail
 generalize wr.x ⟨w.o.q,0,Y⟩ (.k a7 L0.j K)=wB at *;clear mc mf x b0 b1 J y af;obtain⟨mc,mf,x⟩:=Q.l.box.I;obtain⟨b0,b1,J⟩:=a3.l _ Q.l.bel;by_cases hq:L0.j<=mr
 .have aY:¬((mr:Int)<(L0.j:Int)):=η;have aL:X (zz7 t cs mr mx t.j 0 0 L0=d):=by rw[X,aa.l,zb hq]
  go_wp2;clear mc mf x b0 b1 J aa;go_loopw [12,13,14] (λa0 _ _ wz=>∃(s k:Nat) (L:Θ) (E:O),s<=t.j/\a0=ι s/\L.j<=mr/\k<=mx/\X (Wj z w wz w.o.q E L k)/\X (∃D,Vp t (zp cs) L D)/\X (zz7 t cs mr mx (t.j-s) s k L=d)) (λa0 _ _ _=>t.j-(d_ a0).D)
  case atStart=>exact⟨0,0,L0,_,zs _,rfl,hq,zs _,Q,⟨_,bc.l⟩,aL⟩
  clear Q bc aL hq aY aU;obtain⟨s,k,L,E,hs,rfl,ag,ap,I,F,HS⟩:=hrel;by_cases bB:s<t.j
  .have bg:(s:Int)<(t.j:Int):=η;obtain⟨n,hn⟩:∃n,t.j-s=n+1:=⟨t.j-s-1,η⟩;have bd:=U2 (show t.j-(s+1)=n by omega);have aS:X (d=if y6 t cs s=[] then zz7 t cs mr mx n (s+1) k L else match z2m t cs mr s (mx-k) k L with|none=>Y|some (L',k')=>zz7 t cs mr mx n (s+1) k' L'):=by
    have q:=HS.l;rw[hn,zz7] at q;exact q.z
   have aw:=U2 (bz.l wr s I.l.bel η);clear hn HS;go_wp2_with (go_at_call 124;refine aw.l.y ?_;rintro e w1 ⟨rfl,br⟩;obtain rfl:=br.z)
   clear aw;go_loopg [13,14] (mx+1) (λf bn _ wz=>∃(b:Bool) (k:Nat) (L:Θ) (E:O),bn=.i b/\(b=true->mx-k<f)/\L.j<=mr/\k<=mx/\X (Wj z w wz w.o.q E L k)/\X (∃D,Vp t (zp cs) L D)/\X (d=if b=false then zz7 t cs mr mx n (s+1) k L else match z2m t cs mr s (mx-k) k L with|none=>Y|some (L',k')=>zz7 t cs mr mx n (s+1) k' L'))
   case atStart=>
    refine⟨!(y6 t cs s).isEmpty,k,L,E,rfl,λ_=>η,ag,ap,I,F,?_⟩;rw[X,aS.l];rcases y6 t cs s with _|⟨a,b⟩;rfl;rfl
   clear I F aS ag ap;obtain⟨b,k,L,E,rfl,aA,ag,ap,I,F,HS⟩:=hrel;cases b
   .have V:X (zz7 t cs mr mx n (s+1) k L=d):=HS.l.z;go_wp2;go_roundw;exact⟨s+1,k,L,E,η,ξ,ag,ap,I,F,by rw[bd.l];exact V⟩;simp[d_];omega
   have V:X (d=match z2m t cs mr s (mx-k) k L with|none=>Y|some (L',k')=>zz7 t cs mr mx n (s+1) k' L'):=HS.l;have bA:=aA rfl;obtain⟨mc,mf,x⟩:=I.l.box.I;by_cases bu:k=mx
   .subst bu;have HE:X (d=Y):=by rw[X,V.l,vF];rfl
    clear aA;go_wp2;go_ret;unfold rQ;rw[HE.l];exact⟨rfl,I.l.bel⟩
   have b5:¬((k:Int)=(mx:Int)):=η;obtain⟨left,S⟩:∃left,mx-k=left+1:=⟨mx-k-1,η⟩;have bt:=U2 (show mx-(k+1)=left by omega);have a8:=V.l;rw[S,z2m] at a8;have HU:=U2 (I.l.up);have P:=U2 a8;clear V S aA HS a8;go_upto_region 21 with fail
   generalize wr.x ⟨w.o.q,1,Y⟩ (ι ((k:Int)+1))=w1 at *;clear mc mf x I;obtain⟨D,hD⟩:=F.l;have aZ:=U2 (bf.l w1 s w.o.q E L D (k+1) HU.l hD η η);have aq:X (∃D,Vp t (zp cs) (L++xY L (k+1) (y6 t cs s) []) D):=⟨_,aT.l L D s (k+1) hD⟩;have a1:=be.l _ _ (aT.l L D s (k+1) hD);rw[yB] at a1;clear hD F;generalize xY L (k+1) (y6 t cs s) []=j at *;go_upto_region 22 with (first|(go_at_call 125;refine aZ.l.y ?_;rintro e w2 ⟨bp,rfl,ay,aO⟩))
   have u:=U2 (HU.l.u aO.l);clear aZ HU aO;obtain⟨au,N,b4⟩:∃au N,bp=.k au j.j N:=by
    obtain⟨_,_,q,_⟩:=ay.l;exact zq q
   subst b4;obtain⟨aM,ar,bh⟩:∃aM ar,E=.k aM L.j ar:=by
    obtain⟨_,_,q,_⟩:=u.l.fl;exact zq q
   subst bh;obtain⟨mc,mf,x⟩:=u.l.box.I;go_upto_region 23 with (first|(at_builtin;refine Er rfl (.tmp 97) (.tmp 98) rfl _ _ _ _ rfl rfl u.l.fl ay.l η u.l.bel.q ?_;intro v8 w8 aE aD;obtain⟨aC,M,h8⟩:∃aC M,v8=.k aC (L.j+j.j) M:=by{obtain⟨_,_,q,_⟩:=aE;rw[←yB];exact zq q};subst h8;obtain⟨_,_,A,_⟩:=u.l.fl;have a6:=u.l.box.saveT aD (UP.own A) θ;obtain⟨bq,bs,aN⟩:=a6.I))
   have ae:=U2 (Wj.put (ze _) a6 aE (u.l.bel.A (aD.u (λb o=>yZ A (yA o)) u.l.bel.q)));clear mc mf x bq bs aN a6 A aE aD u ay;generalize w8.x ⟨w.o.q,0,Y⟩ (.k aC (L.j+j.j) M)=wN at *;obtain⟨mc,mf,x⟩:=ae.l.box.I;rw[yB] at P;by_cases B:L.j+j.j<=mr
   .have bm:¬((mr:Int)<((L.j+j.j:Nat):Int)):=η;have T:=P.l;rw[zb B] at T;by_cases H:j=[]
    .have HE:X (d=zz7 t cs mr mx n (s+1) (k+1) (L++j)):=by rw[X,T,zb H]
     have ba:j.j=0:=by rw[H];rfl
     clear H T P a1;have az:X (L.j+j.j=(L++j).j):=yB.z;generalize L.j+j.j=ll at *;generalize j.j=nl at *;subst ba;go_wp2;go_roundg (mx-(k+1))
     case measure=>omega
     exact⟨false,k+1,L++j,_,rfl,λq=>(by cases q),by rw[←az.l];exact B,η,ae,aq,HE⟩
    have HE:X (d=match z2m t cs mr s (mx-(k+1)) (k+1) (L++j) with|none=>Y|some (L',k')=>zz7 t cs mr mx n (s+1) k' L'):=by rw[X,T,za H,bt.l]
    have ba:(0:Int)<(j.j:Int):=by have:=List.length_pos_iff.2 H;omega
    clear H T P a1;have az:X (L.j+j.j=(L++j).j):=yB.z;generalize L.j+j.j=ll at *;generalize j.j=nl at *;go_wp2;go_roundg (gk-1)
    case measure=>omega
    exact⟨true,k+1,L++j,_,congrArg O.bool (decide_eq_true η),λ_=>η,by rw[←az.l];exact B,η,ae,aq,HE⟩
   have bm:((mr:Int)<((L.j+j.j:Nat):Int)):=η;have HE:X (d=Y):=by rw[X,P.l,za B]
   generalize L.j+j.j=ll at *;go_wp2;go_ret;unfold rQ;rw[HE.l];exact⟨rfl,ae.l.bel⟩
  have bg:¬(s:Int)<(t.j:Int):=η;obtain rfl:s=t.j:=η;have HE:X (Z (L,k)=d):=by
   have q:=HS.l;rw[vF] at q;exact q
  go_wp2;go_ret;unfold rQ;rw[←HE.l];exact⟨_,rfl,⟨E,I.l.hmb,I.l.box,I.l.fl⟩,I.l.bel⟩
 have aY:((mr:Int)<(L0.j:Int)):=η;have HE:X (d=Y):=by rw[X,aa.l,za hq]
 go_wp2;go_ret;unfold rQ;rw[HE.l];exact⟨rfl,Q.l.bel⟩
def NP(w:U)(v:O):c_ e_ 34 #[v,.i true] w λe a=>e=ε (ν)/\a=w:=by
 go_enter func34,ntmps34;go_wp2;go_ret;exact⟨rfl,rfl⟩
def Tc(w:U)(u v:O):c_ e_ 36 #[u,v,.i true] w λe a=>e=ε (.i true)/\a=w:=by
 go_enter func36,ntmps36;go_wp2;go_ret;exact⟨rfl,rfl⟩
def QT(w:U)(u v:O):c_ e_ 75 #[u,v,.i true] w λe a=>e=ε (.i true)/\a=w:=by
 go_enter func75,ntmps75;go_wp2;go_ret;exact⟨rfl,rfl⟩
def Kh{nb:Bool}(w:U)(u v:O)(a b:Int)(h:a<0∨1048576<a∨b<0∨1048576<b):c_ e_ 37 #[u,v,.i nb,ι a,ι b] w λe c=>e=ε (.tuple #[.u Y,ι 8])/\c=w:=by
 by_cases d:a<0
 .go_enter func37,ntmps37;go_wp2;go_ret2
  exact⟨rfl,rfl⟩
 by_cases i:1048576<a
 .go_enter func37,ntmps37;go_wp2;go_ret2
  exact⟨rfl,rfl⟩
 by_cases f:b<0
 .go_enter func37,ntmps37;go_wp2;go_ret2
  exact⟨rfl,rfl⟩
 have g:1048576<b:=η;go_enter func37,ntmps37;go_wp2;go_ret2
 exact⟨rfl,rfl⟩
def Mo(z:Nat->Prop)(w:U)(a:Option (List zB×Nat))(e:Ending)(w':U):Prop:=match a with
 |none=>e=ε (.tuple #[.u Y,ι 10])/\X (μ w w')
 |some (L,k)=>∃b,e=ε (.tuple #[(π b),ι 0])/\X (∃c,w.o.q<=b/\U3 w' b #[c,ι k] 54/\yX z w.o.q w' c L)/\X (μ w w')
end
section
variable {e:Ending}{w1:U}
def kL{w:U}{B T n:Nat}{v:O}{xs:Γ}(h:w.r B T 1 v n xs)(k:Nat)(i:k<n):∃g a,v=.k (Z (δ g)) n a/\g<w.o.q/\∃b:k<xs.j,w.p (ω g k)=Z xs[k]:=by
 obtain⟨g,a,c,_,f,d⟩:=yt h η;have b:k<xs.j:=by rw[h.1];omega
 exact⟨g,a,c,f,b,d k _ (yn b)⟩
def nu(B:Nat)(own:UY)(w:U)(p:qE):Prop:=(∃(a:Nat) (s:U),B<=a/\uE a s p.1 p.2.2.1 p.2.2.2/\jp a s p.2.1 p.2.2.1 p.2.2.2/\sj p.2.2.1 p.2.2.2/\Vw a s w/\s.o.q<=w.o.q/\∀b,a<=b->b<s.o.q->own b=(0,0))/\∃x,uH x=.ok (p.2.2.1,p.2.2.2)
structure Xi (z:Nat->Prop) (w:U) (x m pm:Nat) (cs:List zd) (t:List zf) (lo lp:Nat) (R:zw) (L:List zB) (k:Nat) (pv nv rv fv cv nmv kv:O) (tbs:List Nat):Prop where
 res:kN lo lp w x t (zp cs) R pv nv rv tbs
 far:¬z x/\¬z m/\¬z pm
 fars:∀v,v=pv∨v=nv∨v=rv∨v=fv->∀b,v.m=Z b->¬z b
 fart:∀p (_:p<R.rows.j) (_:p<tbs.j),∃fp,yc lo w tbs[p] R.rows[p] fp/\∀b∈fp,¬z b
 told:Vk t (zp cs) R
 rep:Vp t (zp cs) L (zzj (t.map (·.jh)) R)
 cnt:L.j=R.count/\k=R.Q/\0<=R.jg
 model:U3 w m #[fv,ι k] 54
 fl:yX z 0 w fv L
 M:L.j<=1048576
 ctx:uf cs t
 prog:U3 w pm #[cv,nmv,kv] 45
 names:VK z w nmv (U4 t)
abbrev dI:=Nat×Nat×Nat×List zd×List zf
def WX(own:UY)(w:U)(r:dI):Prop:=∃c h R L k f i l j g a d b,Xi (xh own) w r.1 r.2.1 r.2.2.1 r.2.2.2.1 r.2.2.2.2 c h R L k f i l j g a d b
section
variable {B:Nat} {own own':UY} {w w':U} {N:List Nat}
def nu.keep{p:qE}(h:nu B own w p)(d:zc N w w')(i:∀b∈N,xh own b)(k:∀b,b<w.o.q->own b=(0,0)->own' b=(0,0)):nu B own' w' p:=by
 obtain⟨⟨g,s,m,l,t,n,o,r,f⟩,j⟩:=h;exact⟨⟨g,s,m,l,t,n,λb c a=>(d.block b η λq=>i b q (f b c a)).A (o b c a),zX r d.q,λb c a=>k b η (f b c a)⟩,j⟩
def nu.new{lo pb a:Nat}{cs:Ξ}{t:Ψ}(f:B<=lo)(d:uE lo w pb cs t)(i:jp lo w a cs t)(g:sj cs t)(c:∃x,uH x=.ok (cs,t))(h:∀b,lo<=b->own b=(0,0)):nu B own w (pb,a,cs,t):=
 ⟨⟨lo,w,f,d,i,g,λ_ _ _=>rfl,ze _,λb q _=>h b q⟩,c⟩
def nu.both{p:qE}(h:nu B own w p):∃a,uE a w p.1 p.2.2.1 p.2.2.2/\jp a w p.2.1 p.2.2.1 p.2.2.2/\sj p.2.2.1 p.2.2.2:=by
 obtain⟨⟨a,s,_,c,f,d,b,_,_⟩,_⟩:=h;exact⟨a,c.same b,f.same b,d⟩
def WX.keep{r:dI}(h:WX own w r)(t:zc N w w')(V:∀b∈N,xh own b)(J:∀b,b<w.o.q->own b=(0,0)->own' b=(0,0)):WX own' w' r:=by
 obtain⟨F,lp,R,L,k,K,nv,S,M,Q,y,W,j,h⟩:=h;have q:∀b,¬xh own b->b∉N:=λb a c=>a (V b c);have o:∀b,b<w.o.q->¬xh own b->¬xh own' b:=λb a c d=>c λe=>d (J b a e);have l:∀{f:Nat} {e:f_} {s:Nat} {v:O} {n:Nat} {C:Γ},w.r f e s v n C->(∀b,v.m=Z b->¬xh own b)->w'.r f e s v n C/\∀b,v.m=Z b->¬xh own' b:=λa c=>⟨yd a t λb d=>q b (c b d),λb d=>o b (yb a d) (c b d)⟩;have g:=h.res;have z:=l g.preds (h.fars _ (zh rfl));have H:=l g.vals (h.fars _ (zg (zh rfl)));have I:=l g.rows (h.fars _ (zg (zg (zh rfl))));obtain⟨x,g1,P,A⟩:=h.fl;have G:=l P (h.fars _ (zg (zg (zg rfl))));have E:∀p (_:p<R.rows.j) (_:p<j.j),∃m,yc F w' j[p] R.rows[p] m/\∀b∈m,¬xh own' b:=λp a c=>by
  obtain⟨m,u,D⟩:=h.fart p a c;exact⟨m,u.save t λb e=>q b (D b e),λb e=>o b (u.lt b e).2 (D b e)⟩
 have T:=l h.names.1 h.names.2;refine⟨F,lp,R,L,k,K,nv,S,M,Q,y,W,j,⟨g.low,g.box.save t (q _ h.far.1),z.1,H.1,I.1,g.tlen,λp a c=>?_,g.M⟩,⟨o _ g.box.lt h.far.1,o _ h.model.lt h.far.2.1,o _ h.prog.lt h.far.2.2⟩,?_,E,h.told,h.rep,h.cnt,h.model.save t (q _ h.far.2.1),⟨x,g1,G.1,λi a c=>l (A i a c).1 (A i a c).2⟩,h.M,h.ctx,h.prog.save t (q _ h.far.2.2),T⟩;obtain⟨m,u,_⟩:=E p a c;exact⟨m,u⟩;rintro v (rfl|rfl|rfl|rfl);exact z.2;exact H.2;exact I.2;exact G.2
end
abbrev eA:=Nat×Nat×List Int
abbrev wa:=Option (Nat×Nat×Nat×Nat)
def dW:wa->O
 |none=>ν
 |some (g,f,n,a)=>.k (Z ⟨g,f,Y⟩) n (n+a)
def rP(a:List eA):wa->Prop
 |none=>True
 |some (g,f,n,b)=>∃x∈a,x.1=g/\f+n+b<=x.2.2.j
def lC(a:List eA):List Value:=a.map λx=>sl x.1 x.2.2.j
def lO(a:List eA):List Value:=a.map λx=>sl x.2.1 x.2.2.j
def ug(l:List Int):Array Value:=(l.map (O.int .i64)).F
def mz(rs:List dI):List Value:=rs.flatMap λr=>[.u (Z ⟨r.1,0,Y⟩),.u (Z ⟨r.2.1,0,Y⟩),.u (Z ⟨r.2.2.1,0,Y⟩)]
def Vz(x:Int):Prop:=-9223372036854775808<=x/\x<=9223372036854775807
structure ym where
 ps:List qE
 rs:List dI
 row:κ
 ins:List eA
 ord:List wa
 a:Int
 n:Int
 ex:Int
 nn:Bool
 ls:List nU
 F:List (Nat×Nat)
 z:List (Nat×Nat)
def ym.f(M:ym):Nat->Wv
 |0=>Z (40,2,M.ps.j,mD M.ps)
 |1=>Z (50,3,M.rs.j,mz M.rs)
 |2=>Z (24,1,M.ins.j,lC M.ins)
 |3=>Z (24,1,M.ins.j,lO M.ins)
 |7=>Z (24,1,M.ord.j,M.ord.map dW)
 |9=>Z (9,1,M.row.j,M.row.map .g)
 |10=>Z (30,1,M.ls.j,pz M.ls)
 |11=>Z (30,1,M.ls.j,ph M.ls)
 |12=>Z (31,1,M.F.j,kS M.F)
 |13=>Z (91,1,M.z.j,kS M.z)
 |_=>Y
structure sC (B:Nat) (own:UY) (w:U) (M:ym):Prop where
 ints:∀k (h:k<M.ins.j),(own M.ins[k].1=(20,k+1)/\U3 w M.ins[k].1 (ug M.ins[k].2.2) 3)/\(own M.ins[k].2.1=(21,k+1)/\U3 w M.ins[k].2.1 (ug M.ins[k].2.2) 3)/\M.ins[k].2.2.j<=1048576
 win:∀o∈M.ord,rP M.ins o
 D:Vz M.a/\Vz M.n/\Vz M.ex
 lists:∀k (h:k<M.ls.j),(own M.ls[k].1=(22,k+1)/\U7 B w (sl M.ls[k].1 M.ls[k].2.2.j) M.ls[k].2.2)/\(own M.ls[k].2.1=(23,k+1)/\U7 B w (sl M.ls[k].2.1 M.ls[k].2.2.j) M.ls[k].2.2)/\M.ls[k].2.2.j<=1000
 F:∀i (h:i<M.F.j),own M.F[i].1=(0,0)/\∃hs:List Nat,hs.j=M.F[i].2/\M.F[i].2<=1048576/\w.r B 30 1 (sl M.F[i].1 M.F[i].2) M.F[i].2 (hs.map (vC (i+1)))/\∀x∈hs,own x=(0,0)/\∃c,U3 w x c 9/\c[0]?=Z (.g g_)
 z:∀i (h:i<M.z.j),own M.z[i].1=(0,0)/\∃hs:List Nat,hs.j=M.z[i].2/\M.z[i].2<=1000/\w.r B 90 3 (sl M.z[i].1 M.z[i].2) M.z[i].2 (UM (hs.map (ka i)))
 pairs:∀p∈M.ps,nu B own w p
 ress:∀r∈M.rs,WX own w r
section
variable {B:Nat} {own own':UY} {w w':U} {N:List Nat} {M:ym}
def sC.keep(h:sC B own w M)(A:zc N w w')(S:∀b∈N,0<(own b).1/\(own b).1<20)(D:∀b,b<w.o.q->(own b).1=0∨20<=(own b).1->own' b=own b):sC B own' w' M:=by
 have v:∀b,b<w.o.q->own b=(0,0)->own' b=(0,0):=λb q e=>(D b q (zh (by rw[e]))).A e;have R:∀b∈N,xh own b:=λb j e=>by have:=(S b j).1;rw[e] at this;cases this
 have q:∀b t,own b=t->t.1=0∨20<=t.1->b∉N:=λb t e a W=>by have:=S b W;rw[e] at this;omega
 have I:∀{b:Nat} {c:Array O} {T:f_} {t:W8},own b=t->t.1=0∨20<=t.1->U3 w b c T->own' b=t/\U3 w' b c T:=λe a j=>⟨(D _ j.lt (by rw[e];exact a)).A e,j.save A (q _ _ e a)⟩;have z:∀{g n:Nat} {d:Nat} {e:f_} {s m:Nat} {P:Γ} {t:W8},own g=t->t.1=0∨20<=t.1->w.r d e s (sl g n) m P->own' g=t/\w'.r d e s (sl g n) m P:=λe a Q=>⟨(D _ (yb Q rfl) (by rw[e];exact a)).A e,yd Q A λb j=>by cases j;exact q _ _ e a⟩;refine⟨λk E=>?_,h.win,h.D,λk E=>?_,λi K=>?_,λi K=>?_,λp hp=>(h.pairs p hp).keep A R v,λr V=>(h.ress r V).keep A R v⟩;obtain⟨⟨f,u⟩,⟨y,G⟩,J⟩:=h.ints k E;exact⟨I f (zg ζ) u,I y (zg ζ) G,J⟩;obtain⟨⟨l,f⟩,⟨F,y⟩,J⟩:=h.lists k E;exact⟨z l (zg ζ) f,z F (zg ζ) y,J⟩;obtain⟨l,C,f,u,H,a5⟩:=h.F i K;have o:=z l (zh rfl) H;refine⟨o.1,C,f,u,o.2,λx hx=>?_⟩;obtain⟨F,c,y,G⟩:=a5 x hx;have L:=I F (zh rfl) y;exact⟨L.1,c,L.2,G⟩;obtain⟨l,C,f,u,H⟩:=h.z i K;have o:=z l (zh rfl) H;exact⟨o.1,C,f,u,o.2⟩
end
structure zH (B:Nat) (own:UY) (w:U) (wb:Nat) (M:ym) (V:Nat->O):Prop where
 hd:VU B own w wb M.f V
 inn:sC B own w M
 nums:V 4=ι M.a/\V 5=ι M.n/\V 6=ι M.ex/\V 8=.i M.nn
section
variable {B:Nat} {own:UY} {w w' w2:U} {wb:Nat} {M M':ym} {V:Nat->O}
def zH.u(h:zH B own w wb M V)(a:μ w w'):zH B own w' wb M V:=⟨h.hd.u a,h.inn.keep (zc.of (M:=[]) a) ζ (λ_ _ _=>rfl),h.nums⟩
def zH.down(h:zH B own w wb M V)(k:uw own w w'):Below B w w':=by
 obtain⟨N,c,d⟩:=k;exact c.u (λb a=>h.hd.low b (d b a)) h.hd.q
def zH.box(h:zH B own w wb M V):U3 w wb #[V 0,V 1,V 2,V 3,ι M.a,ι M.n,ι M.ex,V 7,.i M.nn,V 9,V 10,V 11,V 12,V 13] 35:=by
 have:=h.hd.box;obtain⟨a,b,c,d⟩:=h.nums;rw[←a,←b,←c,←d];exact this
def zH.tags(h:zH B own w wb M V)(f:Nat)(d:f<14):∀b∈wb::(V f).m.v,(0<(own b).1/\(own b).1<20)/\xh own b:=λb a=>by
 rcases z7.1 a with rfl|a
 .exact⟨by rw[h.hd.tag];decide,by unfold xh;rw[h.hd.tag];decide⟩
 .obtain⟨c,_⟩:=h.hd.tg f b (yA a);exact⟨by rw[c];exact⟨ζ,by simp;omega⟩,by unfold xh;rw[c];simp⟩
def zH.more{own':UY}(h:zH B own w wb M V)(a:μ w w')(c:∀b,b<w.o.q->own' b=own b)(d:∀b,w'.o.q<=b->own' b=(0,0)):zH B own' w' wb M V:=
 ⟨h.hd.gen [] (zc.of (M:=[]) a) ζ (h.hd.box.u a) c d (λ_ _=>⟨rfl,rfl⟩) ζ,h.inn.keep (zc.of (M:=[]) a) ζ (λb q _=>c b q),h.nums⟩
def zH.save{N:Φ}(h:zH B own w wb M V)(a:zc N w w')(c:∀b∈N,own b=(19,1)):zH B own w' wb M V:=
 ⟨h.hd.gen [] a (λb d=>zg (zg (by rw[c b d];simp))) (h.hd.box.save a λf=>by have:=c _ f;rw[h.hd.tag] at this;cases this) (λ_ _=>rfl) (λb q=>h.hd.new b (zX a.q q)) (λ_ _=>⟨rfl,rfl⟩) ζ,h.inn.keep a (λb d=>by rw[c b d];simp) (λ_ _ _=>rfl),h.nums⟩
def zH.retag{own':UY}(h:zH B own w wb M V)(c:∀b,own b≠(19,1)->own' b=own b):zH B own' w wb M V:=
 have a:=h.hd
 ⟨⟨λb q=>a.low b λe=>q ((c b (by rw[e];decide)).A e),a.box,(c wb (by rw[a.tag];decide)).A a.tag,λb q=>(c b (by rw[a.new b q];decide)).A (a.new b q),a.row,λf b q=>⟨(c b (by rw[(a.tg f b q).1];simp)).A (a.tg f b q).1,(a.tg f b q).2⟩⟩,h.inn.keep (zc.refl [] w) ζ (λb _ q=>c b λe=>by rw[e] at q;simp at q),h.nums⟩
def zH.put(h:zH B own w wb M V){f:Nat}(u:f<14){v:O}(y:∀g,g≠f->M'.f g=M.f g){T:f_}{s n:Nat}{xs:Γ}(j:M'.f f=Z (T,s,n,xs))(l:w2.r B T s v n xs)(o:zc (V f).m.v w w2)(d:v.m=(V f).m∨v.m=Y∨∃g,v.m=Z g/\w.o.q<=g)(x:vY V f v 4=ι M'.a/\vY V f v 5=ι M'.n/\vY V f v 6=ι M'.ex/\vY V f v 8=.i M'.nn)
  (r:∀own' w',sC B own' w' M->zc (wb::(V f).m.v) w w'->(∀b,b<w.o.q->own' b=own b)->sC B own' w' M'):
  (∃own',zH B own' (w2.x (ω wb f) v) wb M' (vY V f v)/\∀b,b<w.o.q->own' b=own b)/\uw own w (w2.x (ω wb f) v)/\zc (wb::(V f).m.v) w (w2.x (ω wb f) v):=by
 have k:=h.tags f u;obtain⟨p,c,i⟩:=h.hd.put (F':=M'.f) (v:=v) y (λC z A t q=>by rw[j] at q;cases q;exact l) o (λb a=>by
  rcases d with q|q|⟨g,q,m⟩;exact zh (q ▸ a);rw[q] at a;cases a;have:=yb l a;rw[q] at a;cases a;exact zg ⟨m,this⟩)
 exact⟨⟨_,⟨p,r _ _ (h.inn.keep c (λb a=>(k b a).1) λb q _=>i b q) c i,x⟩,i⟩,⟨_,c,λb a=>(k b a).2⟩,c⟩
end
structure nP (M M':ym):Prop where
 ps:M'.ps.j<=M.ps.j+1
 rs:M'.rs.j<=M.rs.j+1
 row:M'.row.j<=M.row.j+1
 ins:M'.ins.j<=M.ins.j+1
 ord:M'.ord.j<=M.ord.j+1
 ls:M'.ls.j<=M.ls.j+1048576
 F:M'.F.j<=M.F.j+1
 z:M'.z.j<=M.z.j+1
 nn:M'.nn=M.nn
def nP.refl(M:ym):nP M M:=⟨η,η,η,η,η,η,η,η,rfl⟩
def U9(B:Nat)(own:UY)(w:U)(wb:Nat)(M:ym)(e:Ending)(w':U):Prop:=e=ε (.i true)/\X (∃own' M' a,zH B own' w' wb M' a/\nP M M'/\∀b,b<w.o.q->own' b=own b)/\X (uw own w w')
def mC(B:Nat)(own:UY)(w:U)(wb:Nat)(M:ym)(v1:O)(e:Ending)(w':U):Prop:=e=ε (.i true)/\X (∃own' M' a,zH B own' w' wb M' a/\nP M M'/\(∀b,b<w.o.q->own' b=own b)/\M'.rs=M.rs/\a 1=v1)/\X (uw own w w')
def mC.a{B:Nat}{own:UY}{w:U}{wb:Nat}{M:ym}{v1:O}{w':U}(h:mC B own w wb M v1 e w'):U9 B own w wb M e w':=by
 obtain⟨a,⟨own',M',f,g,b,c,_⟩,d⟩:=h;exact⟨a,⟨own',M',f,g,b,c⟩,d⟩
def mC.kept{B:Nat}{own:UY}{w:U}{wb:Nat}{M:ym}{V:Nat->O}(h:zH B own w wb M V)(a:μ w w1):mC B own w wb M (V 1) (ε (.i true)) w1:=⟨rfl,⟨own,M,V,h.u a,nP.refl M,λ_ _=>rfl,rfl,rfl⟩,uw.of a⟩
def U9.kept{B:Nat}{own:UY}{w:U}{wb:Nat}{M:ym}{V:Nat->O}(h:zH B own w wb M V)(a:μ w w1):U9 B own w wb M (ε (.i true)) w1:=⟨rfl,⟨own,M,V,h.u a,nP.refl M,λ_ _=>rfl⟩,uw.of a⟩
def U9.from{B:Nat}{own:UY}{w c:U}{wb:Nat}{M:ym}(a:μ w c)(h:U9 B own c wb M e w1):U9 B own w wb M e w1:=by
 obtain⟨d,⟨own',M',j,k,f,g⟩,i⟩:=h;exact⟨d,⟨own',M',j,k,f,λb q=>g b (yh q a.q)⟩,(uw.of (own:=own) a).A i λ_ _=>rfl⟩
def U9.more{B:Nat}{own:UY}{w w2:U}{wb:Nat}{M:ym}(h:U9 B own w wb M e w1)(a:μ w1 w2):U9 B own w wb M e w2:=by
 obtain⟨b,⟨own',M',i,j,d,f⟩,N,g,c⟩:=h;exact⟨b,⟨own',M',i,j.u a,d,f⟩,N,g.newer (zc.of (M:=[]) a) ζ,c⟩
end
section
open Go.Proofs.Tryz
def Br{P B:Nat}{own:UY}{w:U}{wb:Nat}{M:ym}{V:Nat->O}(h:zH B own w wb M V){g:Nat}{l:List Λ}{vb:O}(hg:own g=(22,M.ls.j+1))(ha:U7 B w (sl g l.j) l)(p:U7 P w vb l)(hl:l.j<=1000)(hn:M.ls.j<=2000000000000):
  c_ e_ 41 #[(π wb),sl g l.j,vb] w λe I=>e=ε (.i true)/\X (∃a V' u,zH B a I wb {M with ls:=M.ls++[(g,u,l)]} V'/\(∀b,b<w.o.q->a b=own b)/\V' 1=V 1)/\X (∃N,zc N w I/\∀b∈N,own b=(1,0)∨own b=(12,0)∨own b=(13,0)):=by
 have L:w.r B 30 1 (V 10) M.ls.j (pz M.ls):=h.hd.row 10 _ _ _ _ rfl;have J:w.r B 30 1 (V 11) M.ls.j (ph M.ls):=h.hd.row 11 _ _ _ _ rfl;have v:=h.hd.tg 10;have x:=h.hd.tg 11;have hB:=h.hd.q;refine(Tw B w wb (V 0) (V 1) (V 2) (V 3) _ _ _ (V 7) _ (V 9) (V 10) (V 11) (V 12) (V 13) M.ls.j _ _ g l vb h.box L J h.hd.wlow (λb q1 q2=>by have:=(v b q1).1;rw[(x b q2).1] at this;cases this) ha p hl hn).y λe I ⟨he,d,i,u,F,t,r,ad,j,ab,W,G,m⟩=>?_;have hs:=m.q;have ac:u<I.o.q:=yb j rfl;have hN:∀b∈wb::((V 10).m.v++(V 11).m.v),b=wb∨(∃f∈[10,11],(V f).m=Z b)∨(own b).2≠0:=λb p=>by
  rcases z7.1 p with e|e;exact zh e;rcases zW.1 e with e|e;exact zg (zh ⟨10,ζ,yA e⟩);exact zg (zh ⟨11,ζ,yA e⟩)
 have y:∀b∈wb::((V 10).m.v++(V 11).m.v),own b=(1,0)∨own b=(12,0)∨own b=(13,0):=λb p=>by
  rcases z7.1 p with rfl|e;exact zh h.hd.tag;rcases zW.1 e with e|e;exact zg (zh (v b (yA e)).1);exact zg (zg (x b (yA e)).1)
 have S:∀b,d.m=Z b->own b=(12,0)∨w.o.q<=b:=λb q=>by
  rcases ab with e|⟨g1,e,o⟩;exact zh (v b (e ▸ q)).1;rw[e] at q;cases q;exact zg o
 have R:∀b,i.m=Z b->own b=(13,0)∨w.o.q<=b:=λb q=>by
  rcases W with e|⟨g1,e,o⟩;exact zh (x b (e ▸ q)).1;rw[e] at q;cases q;exact zg o
 have C:d.m≠Z u:=λq=>mG j t θ rfl q;have E:i.m≠Z u:=λq=>mG j r θ rfl q;obtain⟨a,c⟩:∃a:UY,∀b,a b=if i.m=Z b then(13,0) else if d.m=Z b then(12,0) else if u=b then(23,M.ls.j+1) else own b:=⟨_,λ_=>rfl⟩
 have H:∀b,b<w.o.q->a b=own b:=λb q=>by
  rw[c];split;rename_i e;rcases R b e with o|o;exact o.z;omega;split;rename_i e;rcases S b e with o|o;exact o.z;omega;rw[za η]
 have Q:a u=(23,M.ls.j+1):=by rw[c,za E,za C,zb rfl]
 have hI:=h.inn.keep m (λb p=>by rcases y b p with q|q|q<;>rw[q]<;>simp) λb q _=>H b q;have K:g<w.o.q:=yb ha rfl;have aa:g∉wb::((V 10).m.v++(V 11).m.v):=λhm=>by rcases y g hm with q|q|q<;>rw[hg] at q<;>simp at q
 refine⟨he,⟨a,λf=>if f=10 then d else if f=11 then i else V f,u,⟨h.hd.gen [10,11] m hN ?_ H (λb q=>?_) (λf z=>?_) (λf z=>?_),{hI with lists:=λk hk=>?_},h.nums⟩,H,rfl⟩,⟨_,m,y⟩⟩;obtain⟨e1,o,e3,e4⟩:=h.nums;rw[←e1,←o,←e3,←e4] at F;exact F;rw[c,za (λe=>by have:=yb r e;omega),za (λe=>by have:=yb t e;omega),za η];exact h.hd.new b η;simp at z;refine⟨by simp[z.1,z.2],?_⟩;unfold ym.f;split<;>first|rfl|omega
 simp at z;rcases z with rfl|rfl;refine⟨λT s n xs q=>?_,λb q=>?_⟩;cases q;simpa [pz,sl] using t;have A:d.m=Z b:=q;exact⟨by rw[c,za (G b A),zb A],yb t A⟩;refine⟨λT s n xs q=>?_,λb q=>?_⟩;cases q;simpa [ph,sl] using r;have A:i.m=Z b:=q;exact⟨by rw[c,zb A],yb r A⟩;by_cases D:k<M.ls.j;have:=hI.lists k D;simp only[uI D];exact this;obtain rfl:k=M.ls.j:=by simp at hk;omega
 simp only[n4];exact⟨⟨(H g K).A hg,yd ha m λb p=>by cases p;exact aa⟩,⟨Q,yq j hB⟩,hl⟩
end
def Bx{t:Ψ}(f:yw (U4 t))(n:Λ):(zO t n).I=yr n (U4 t):=by
 cases b:yr n (U4 t);rcases a:zO t n with _|e;rfl;obtain⟨h,d,c⟩:=qr a;have:yr n (U4 t)=true:=qq.2 (z9.2 ⟨e,by rw[←d];exact zr _,c⟩);rw[b] at this;cases this;obtain⟨e,a,rfl⟩:=z9.1 (qq.1 b);obtain⟨p,g,rfl⟩:=vh.1 a;rw[(BV f g).1];rfl
def oB(b:Bool)(o:Option Nat)(L:List zB):Nat×Nat:=if b=true then(match o with|none=>(0,12)|some k=>(((L[k]?).map (·.2.2)).getD 0,0)) else(0,11)
def Ja{cs:Ξ}{t:Ψ}(b:uf cs t){L:Θ}{R:zw}(c:Vk t (zp cs) R)(h:Vp t (zp cs) L (zzj (t.map (·.jh)) R))(a:Λ)(row:List Λ):rt t (zp cs) R a row=oB (yr a (U4 t)) (yS a row L) L:=by
 rw[LP b c h,←Bx b.rise];rfl
def FR(n:Λ)(l:List Λ)(x:Λ):yr n (l++[x])=(yr n l||decide (x=n)):=by
 induction l with
 |nil=>simp[yr]
 |cons a l b=>simp only[dM,yr,b,Bool.or_assoc]
def Sb(cs:Γ):splice (madeCells #[h_ g_] (cs.j+2)).v 0 cs=cs++[.g g_,.g g_]:=by
 have e:(madeCells #[h_ g_] (cs.j+2)).v=n_ cs.j (h_ g_)++[.g g_,.g g_]:=by
  have:(madeCells #[h_ g_] (cs.j+2)).v=n_ (cs.j+2) (h_ g_):=by
   unfold madeCells;apply qR;simp;intro i a b;simp[Nat.mod_one]
  rw[this,←List.replicate_append_replicate];rfl
 rw[e];unfold splice;simp
def Qo{w:U}{b:Nat}{row:List Λ}{u v:O}(h:U3 w b (row.map h_++[u,v]).F 9)(a:row.j<=2000000):U7 0 w (.k (Z (δ b)) row.j (row.j+2)) row:=by
 refine⟨ζ,zg ⟨b,row.j+2,_,rfl,zs _,h,η,by unfold maxLen;omega,ζ,ζ⟩⟩
section
open Go.Proofs.Tryz
variable {z:Nat->Prop} {lo:Nat}
def Ut:(e_.info? 24).map (λi=>(i.zero,i.q,i.bytes))=Z (Z (ν),1,24):=χ
def TH:(e_.info? 24).map (·.q)=Z 1:=χ
def SG(a:Γ)(x:O):splice (madeCells #[x] (a.j+1)).v 0 a=a++[x]:=by
 unfold splice;have:(madeCells #[x] (a.j+1)).v=n_ (a.j+1) x:=by
  refine qR (by simp[size_madeCells]) λi b c=>?_;simp[madeCells,Nat.mod_one]
 rw[this];simp[List.drop_replicate]
def KZ(w:U)(y:O)(a:Γ)(H:lU w y a)(u:∀v∈a,v.oneCell'=true)(R:a.j<=2000000):
  c_ e_ 34 #[y,.i false] w λe q=>∃x,e=ε (.slice (Z (δ w.o.q)) a.j (a.j+1))/\X (U3 q w.o.q (a++[i_ (Z (δ x)) 1 1]).F 24/\U3 q x #[ι 7] 3)/\X (μ w q):=by
 obtain⟨F,L,rfl,c⟩:=H;have m:=run_make_row' (P:=e_) 26 24 (ν) 24 underlying26 Ut rfl .i64 .i64 (a.j+1) η η;rw[Int.natCast_add,show((1:Nat):Int)=1 from rfl] at m;have h:X (∀W,μ w W->0<a.j->∃B,F=Z B/\∀j v,a[j]?=Z v->W.p (B.add j)=Z v):=λW M n=>by
  obtain⟨g,f,e,S,_⟩:=c 0 n;refine⟨_,e,λj v I=>?_⟩;obtain⟨r,rfl⟩:=jB.1 I;obtain⟨Q,N,A,J,G⟩:=c j r;rw[e] at A;cases A;rw[q_];exact zi M J G
 have o:=U2 u;have k:X (0+a.j<=(madeCells #[i_ Y 0 0] (a.j+1)).v.j):=by rw[X];simp[size_madeCells]
 have i:X (a.j=Nat.min a.j (a.j+1)):=by rw[X];exact(dC η).z
 have s:=U2 (SG a (ν));clear u c;go_enter func34,ntmps34;go_wp2_with (refine wpList_copy_splice rfl (.tmp 13) (.tmp 14) 26 26 rfl 24 underlying26 TH _ _ _ _ _ _ rfl rfl w.o.q 0 (madeCells #[ν] (a.j+1)).v 24 (by rw[Array.toArray_toList];exact U3.new _ _ _) a i.l (λn=>⟨rfl,h.l _ (by exact(zn _ _).C (ze _) _) n⟩) k.l o.l w.o.q w (by exact(zn _ _).C (ze _) _) (ze _) ?_;intro l d p;rw[s.l] at d;have b:U3 l w.o.q (a++[i_ Y 0 0]).F 24:=d.l;obtain⟨K,E,C⟩:=b.I;have D:=p.q)
 go_ret;have t:=b.set a.j (i_ (Z (δ l.o.q)) 1 1);have e:(a++[i_ Y 0 0]).F.setIfInBounds a.j (i_ (Z (δ l.o.q)) 1 1)=(a++[i_ (Z (δ l.o.q)) 1 1]).F:=ζ;rw[e] at t;exact⟨l.o.q,rfl,⟨t.up _,U3.newAt _ _ _ _ (by simp[U.setCell])⟩,(show μ w _ from φ)⟩
def ur.nil{w:U}{u:O}{o:Option (List Int)}(h:ur w u o):(u=ν/\∀W:U,(binOp .eql 24 (ν) (ν)).run e_ W=.ok (.i true) W)∨∃b n c,u=.slice (Z b) n c/\∀W:U,(binOp .eql 24 (.slice (Z b) n c) (ν)).run e_ W=.ok (.i false) W:=by
 rcases o with _|l;refine zh ⟨h,λW=>?_⟩;have:=run_equal_slice_nil W 24 3 Y 0 0 underlying24;simp[binOp,this];obtain⟨b,a,rfl,_⟩:=h;refine zg ⟨b,l.j,a,rfl,λW=>?_⟩;have:=run_equal_slice_nil W 24 3 (Z b) l.j a underlying24;simp[binOp,this]
def K3(w:U)(M:O)(a:Γ)(os:List (Option (List Int)))(g v:Nat)(V:lU w M a)(L:U3 w g (a++[i_ (Z ⟨v,0,Y⟩) 1 1]).F 24)(s:U3 w v #[ι 7] 3)(N:os.j=a.j)(l:∀k (h1:k<a.j) (h2:k<os.j),ur w a[k] os[k]/\(os[k].getD []).j<=2000000)(hn:a.j<=2000000):
  c_ e_ 36 #[.slice (Z ⟨g,0,Y⟩) a.j (a.j+1),M,.i false] w λe d=>e=ε (.i true)/\X (μ w d):=by
 obtain⟨ao,ab,rfl,n⟩:=V;have C:=U2 n;have y:=U2 L;have h:=U2 s;have I:=U2 l;have Q:=U2 N;clear n L s l N;go_enter func36,ntmps36;go_wp2;go_loopw [8] (λR wr=>∃k:Nat,k<=a.j/\R=ι k/\X (μ w wr)) (λi _=>a.j-(d_ i).D);exact⟨0,zs _,rfl,zn _ _⟩;obtain⟨k,hk,rfl,b⟩:=hrel;have P:=b.l.q;by_cases c:k<a.j
 .obtain⟨x,J,rfl,G,j⟩:=C.l k c;obtain⟨f,H⟩:=I.l k c (by rw[Q.l];exact c);have D:=zi b.l G j;have q:wr.p ⟨g,k,Y⟩=Z a[k]:=by rw[(y.l.u b.l).H.1];simp[List.getElem?_append_left c]
  have E:x<wr.o.q:=η;have m:=(y.l.u b.l).lt;have A:=f.nil;have K:=U2 λW (p:μ wr W)=>Ex W _ _ _ ((f.u b.l).u p) ((f.u b.l).u p) η;clear j f H;generalize a[k]=u at *;generalize (os[k]'(by rw[Q.l];exact c))=o at *;have B:X (∀W,μ wr W->c_ e_ 18 #[u,u] W λe d=>e=ε (.i true)/\X (μ w d)/\d.p ⟨g,k,Y⟩=Z u/\d.p ⟨x,J+k,Y⟩=Z u/\g<d.o.q/\x<d.o.q):=λW p=>by
   refine(K.l W p).y ?_;rintro e d ⟨q1,q2⟩;have t:=U6 p q2;have:=t.q;exact⟨q1,U6 b.l t,zi t m q,zi t E D,η,η⟩
  clear K;go_wp2;go_region_held3 (λd=>d.p ⟨g,k,Y⟩=Z u/\d.p ⟨x,J+k,Y⟩=Z u) (go_keep) (first|(go_at_call 18;refine(B.l _ φ).y ?_;rintro e w5 ⟨rfl,F,z1,z2,z3,z4⟩))
  all_goals
   rcases A with⟨rfl,r⟩|⟨S,n3,c3,rfl,r⟩
   all_goals
    go_wp2;go_quiet (fail)
    go_wp2;go_roundw;exact⟨k+1,η,ξ,zG F.l _⟩;simp[d_];omega
 have q:wr.p ⟨g,a.j,Y⟩=Z (.slice (Z ⟨v,0,Y⟩) 1 1):=by rw[(y.l.u b.l).H.1];simp
 have T:wr.p ⟨v,0,Y⟩=Z (ι 7):=by rw[(h.l.u b.l).H.1];rfl
 have m:=(y.l.u b.l).lt;have aa:=(h.l.u b.l).lt;go_wp2;go_ret;exact⟨rfl,b⟩
section
variable {w:U} {v:O} {nb:Bool} {pb mr mx:Nat} (hmr:mr<=1048576) (hmx:mx<=1048576)
include hmr hmx
def NG(c:X (c_ e_ 75 #[(π pb),v,.i nb] w λe b=>e=ε (.i false)/\μ w b)):c_ e_ 37 #[(π pb),v,.i nb,ι mr,ι mx] w λe b=>e=ε (.tuple #[.u Y,ι 9])/\X (μ w b):=by
 have f:¬(mr:Int)<0:=η;have i:¬(1048576:Int)<(mr:Int):=η;have g:¬(mx:Int)<0:=η;have h:¬(1048576:Int)<(mx:Int):=η;go_enter func37,ntmps37;go_wp2_with (go_at_call 75;refine c.l.y ?_;rintro e d ⟨rfl,a⟩)
 go_ret2
 exact⟨rfl,a⟩
def IT(l:X (c_ e_ 75 #[(π pb),v,.i nb] w λe b=>e=ε (.i true)/\μ w b))(c:Option (Θ×Nat))(i:X (∀W,μ w W->c_ e_ 76 #[(π pb),ι mr,ι mx] W λe b=>rQ z W c e b)):c_ e_ 37 #[(π pb),v,.i nb,ι mr,ι mx] w λe b=>Mo z w c e b:=by
 have r:¬(mr:Int)<0:=η;have u:¬(1048576:Int)<(mr:Int):=η;have t:¬(mx:Int)<0:=η;have s:¬(1048576:Int)<(mx:Int):=η;rcases c with _|x
 .have f:X (∀W,μ w W->c_ e_ 76 #[(π pb),ι mr,ι mx] W λe b=>e=ε (.u Y)/\X (μ W b)):=i;clear i;go_enter func37,ntmps37;go_wp2_with (first|(go_at_call 75;refine l.l.y ?_;rintro e n ⟨rfl,a⟩)|(go_at_call 76;refine(f.l _ a).y ?_;rintro e p ⟨rfl,d⟩))
  go_ret2
  exact⟨rfl,U6 a d.l⟩
 obtain⟨L,k⟩:=x;have f:X (∀W,μ w W->c_ e_ 76 #[(π pb),ι mr,ι mx] W λe b=>∃g,e=ε ((π g))/\X (∃h,W.o.q<=g/\U3 b g #[h,ι k] 54/\yX z W.o.q b h L)/\X (μ W b)):=i;clear i;go_enter func37,ntmps37;go_wp2_with (first|(go_at_call 75;refine l.l.y ?_;rintro e n ⟨rfl,a⟩)|(go_at_call 76;refine(f.l _ a).y ?_;rintro e p ⟨g,rfl,j,d⟩))
 go_ret2
 obtain⟨h,q,o,m⟩:=j.l;exact⟨g,rfl,⟨h,zX a.q q,o,m.low a.q⟩,U6 a d.l⟩
end
end
section
open Go.Proofs.Tryz
def TO:(e_.info? 50).map (λi=>(i.zero,i.q,i.bytes))=Z (Z (.agg #[.u Y,.u Y,.u Y]),3,24):=χ
structure Xc (cs:List zd) (t0 t:List zf):Prop where
 parts:UH cs t0 t
 ctx:uf cs t
 len:cs.j<=1000
 names:t.j<=1000
 low:∀c∈cs,xO t c.g.o<=1000
 d:∀c∈cs,c.d.j<=30
 k:∀c∈cs,∀l∈zj c,l.k.j<=3/\∀a∈l.k,0<a.q
 M:∀L D,Vp t (zp cs) L D->L.j<1000000000000/\∀c∈cs,(yz L c.g c.d c.d []).j<=1000000000000
def OW{x:Λ}{cs:Ξ}{t:Ψ}(h:uH x=.ok (cs,t)):∃f,Xc cs f t:=by
 obtain⟨f,b⟩:=FG h;have m:=QN h;have g:=uf.of m b;obtain⟨_,e,_⟩:=b.low;have o:=b.M;have k:t.j<=1000:=η;have j:∀c∈cs,mJ c:=λc q=>(m c q).fine (b.many c q);refine⟨f,b,g,b.runok.1.len,k,λc d=>?_,λc d=>?_,λc d l e=>⟨(g.lit c d l e).2.2.2,λa n=>(((j c d).1 l e).2.2.2 a n).1⟩,Kf b g k (Pr h)⟩;rw[im];have:=B7 b.least (ps:=U4 t) (λc d l e=>F4 b d e) (F4 b d (l:=c.g) (by simp[zj]));simp only[U4,xv] at this;omega;have i:=b.many c d;unfold yT at i;simp only[pY,decide_eq_false_iff_not] at i;have:=i.1.1.1;omega
def Kn(d pb:Nat)(t:List zf)(ns:κ)(o:Option (DB×Nat))(w:U)(e:Ending)(w':U):Prop:=match o with
 |none=>e=ε (.tuple #[.u Y,ι 10])/\X (μ w w')
 |some x=>∃b,e=ε (.tuple #[(π b),ι 0])/\X (∃R c f g a,kN w.o.q d w' b t ns R c f g a/\w.p ⟨pb,1,Y⟩=Z c/\Vk t ns R/\zzj (t.map (·.jh)) R=x.1/\R.Q=x.2/\lr x.1 R.count/\R.count<=1048576/\0<=R.jg)/\X (μ w w')
def Rj{n:Nat}(w:U)(pb:Nat){s:Λ}{cs:Ξ}{E t:Ψ}(l:uH s=.ok (cs,t))(K:uE n w pb cs t)(h:UH cs E t)(k:n<=w.o.q)(i:O)(os:Option (List (Option (List Int))))(H:ki w i os)(j:vK cs os=true)(mr mx:Nat)(o:mr<=1048576)(v:mx<=1048576):
  c_ e_ 35 #[(π pb),i,ι mr,ι mx] w λe q=>Kn n pb t (zp cs) (z1h (vq t (zp cs) Y cs) mr mx) w e q:=by
 obtain⟨z,d⟩:=h.runos j;have p:∀c∈cs,(zu c).j<=5:=λc l=>fO (h.many c l);have g:=Co j p;have a:=R7 h (zp cs) Y os (Co rfl p) g (mr:=mr) (mx:=mx);obtain⟨N,L⟩:=LA d (mr:=mr) (mx:=mx) o;obtain⟨f,r,D,J⟩:=L N (ze _);refine(RR w pb cs t i os mr mx N f K H z j o v k r).y ?_;intro e q b;rcases f with _|R;rw[a,D rfl];exact b;obtain⟨u,Q,B⟩:=J R rfl;obtain⟨M,A,P,I,m,G,y,F,x⟩:=b;rw[B] at a;have C:=h.told u rfl a η;rw[a];exact⟨M,y,⟨R,A,P,I,m,F,G,C,rfl,rfl,u.card d.small,η,PD l h os g v r⟩,x⟩
section
variable {B:Nat} {own:UY} {w:U} {wb:Nat} {M:ym} {V:Nat->O}
def Qi(h:zH B own w wb M V)(s:Λ)(hs:s.q<=1048576)(ac:M.ps.j<=1048576):
  c_ e_ 16 #[(π wb),.g s] w λe w'=>U9 B own w wb M e w':=by
 have i:s.q<=9223372036854775807:=η;have H:=h.hd.q;have D:=U2 h;cases z:uH s with
 |error k=>
  have hk:=KY z;have x:=U2 z;clear z h;go_enter func16,ntmps16;go_wp2_with (first|(go_at_call 32;refine(IN x.l _ i).y ?_;rintro e w1 ⟨rfl,d⟩)|(go_at_call 33;refine(Og x.l _ i).y ?_;rintro e S ⟨rfl,c⟩))
  go_ret;exact U9.kept D.l (U6 d c)
 |ok p=>
  obtain⟨cs,t⟩:=p;obtain⟨i0,hi,F,I,K⟩:=info_parts Ul;have x:=U2 z;obtain⟨A,r,P⟩:=zq (h.hd.row 0 _ _ _ _ rfl);have C:X (∀W,μ w W->W.r B 40 2 (.k A M.ps.j r) M.ps.j (mD M.ps)/\U3 W wb #[.k A M.ps.j r,V 1,V 2,V 3,ι M.a,ι M.n,ι M.ex,V 7,.i M.nn,V 9,V 10,V 11,V 12,V 13] 35):=λW hW=>by
   rw[←P];exact⟨(h.u hW).hd.row 0 _ _ _ _ rfl,(h.u hW).box⟩
  have HV:=U2 P;clear z h P;go_enter func16,ntmps16;go_wp2_with (first|(go_at_call 32;refine(NH x.l _ i).y ?_;rintro e w1 ⟨p1,rfl,N,d⟩)|(go_at_call 33;refine(Lw x.l _ i).y ?_;rintro e S ⟨p2,rfl,J,c⟩;have g:=U6 d c;obtain⟨m,a⟩:=C.l _ g;obtain⟨ah,ad,aa⟩:=a.I;have R:=g.q)|(at_builtin;refine jx S _ [(π p1),(π p2)] _ rfl (.tmp 35) (.tmp 39) 28 rfl B 40 i0 _ 2 16 underlying28 hi F I K rfl θ _ _ _ rfl m (zn _ _) _ _ rfl ζ rfl a_ η η η ?_;intro v' w3 y u l;obtain⟨ag,Q,rfl⟩:=zq y;have G:=a.save u (vL m a θ);obtain⟨ae,af,ab⟩:=G.I))
  go_ret;have v:=D.l.u g;rw[←HV.l] at u l;obtain⟨⟨o,r1,r2⟩,r3,_⟩:=v.put (f:=0) (M':={M with ps:=M.ps++[(p1,p2,cs,t)]}) θ (λf hf=>by unfold ym.f;split<;>first|rfl|omega) (T:=40) (s:=2) (n:=M.ps.j+1) (by simp[ym.f,mD]) y u (l.imp_right zg) v.nums λo w' j E L=>⟨j.ints,j.win,j.D,j.lists,j.F,j.z,λp hp=>by
   rcases zW.1 hp with q|q;exact j.pairs p q;rw[xo.1 q];exact(nu.new (own:=own) H (N.u c) (J.low d.q) (NO x.l) ⟨s,x.l⟩ D.l.hd.new).keep E (λb hb=>(v.tags 0 θ b hb).2) (λb q1 q2=>(L b q1).A q2),j.ress⟩
  exact⟨rfl,⟨o,_,_,r1,⟨ζ,ζ,ζ,ζ,ζ,ζ,ζ,ζ,rfl⟩,λb q=>r2 b η⟩,(uw.of g).A r3 λ_ _=>rfl⟩
def zH.turn{d:U}(h:zH B own w wb M V){row':List Λ}{v':O}(o:U7 B d v' row')(k:zc (V 9).m.v w d)(e:v'.m=(V 9).m∨v'.m=Y∨∃g,v'.m=Z g/\w.o.q<=g)(m:row'.j<=M.row.j+1):U9 B own w wb M (ε (.i true)) (d.x (ω wb 9) v')/\∃a,zH B a (d.x (ω wb 9) v') wb {M with row:=row'} (vY V 9 v')/\∀b,b<w.o.q->a b=own b:=by
 obtain⟨⟨a,i,j⟩,l,_⟩:=h.put (f:=9) (M':={M with row:=row'}) θ (λf p=>by unfold ym.f;split<;>first|rfl|omega) (T:=9) (s:=1) (n:=row'.j) rfl o k e h.nums λa q c _ _=>⟨c.ints,c.win,c.D,c.lists,c.F,c.z,c.pairs,c.ress⟩;exact⟨⟨rfl,⟨a,_,_,i,⟨ζ,ζ,m,ζ,ζ,ζ,ζ,ζ,rfl⟩,j⟩,l⟩,a,i,j⟩
def Km(h:zH B own w wb M V)(a b c:Int)(s:Λ)(ae:M.row.j<=1048576):
  c_ e_ 94 #[(π wb),.agg #[ι 9,ι a,ι b,ι c,.g s]] w λe w'=>U9 B own w wb M e w':=by
 obtain⟨i0,hi,r,u,v⟩:=info_parts Uw;have ad:=h.hd.q;obtain⟨K,z,N⟩:=zq (h.hd.row 9 _ _ _ _ rfl);have k:w.r B 9 1 (V 9) M.row.j (M.row.map h_):=h.hd.row 9 _ _ _ _ rfl;have A:=h.box;rw[N] at k A;have R:=U2 h;have HV:=U2 N;obtain⟨hc,hf,ac⟩:=A.I;clear h N;cases Q:(bits BinOp.and IntKind.i64 a 1 == 1)
 .go_enter func94,ntmps94;go_wp2;go_region_law (first|(refine fU w _ [.g s] 9 rfl (.tmp 177) (.tmp 180) 30 rfl B 9 i0 _ 1 16 underlying30 hi r u v rfl θ (.k K M.row.j z) M.row.j (M.row.map h_) (by simp[j_]) k φ (w.o.q+1) 1 (by simp[j_]) (by exact U3.drew (U3.newAt _ _ _ _ ζ)) rfl a_ η η η ?_;intro v' H i f d I t;obtain⟨n,g,rfl⟩:=zq i;have l:=A.save f (vL k A θ);obtain⟨L,F,x⟩:=l.I))
  all_goals
   have m:U7 B H (.k n (M.row.j+1) g) (M.row++[s]):=by
    unfold U7;rw[yB,uY];exact i
   rw[←HV.l] at f d;have J:=U2 (R.l.turn m f (d.imp_right zg) ζ).1;go_wp2;go_ret;exact J.l
 have T:=U2 (R.l.turn (row':=[]) (v':=ν) (xj _ _ _ _) (zc.refl _ _) (zg (zh rfl)) ζ);have y:(w.x (ω wb 9) (ν)).o.q=w.o.q:=by simp[U.setCell]
 go_enter func94,ntmps94;go_wp2;generalize w.x (ω wb 9) (ν)=G at *;obtain⟨⟨_,_,hz⟩,S,E,P⟩:=T.l;have D:=U2 E;have HT:=U2 P;have p:=E.box;simp only[vY] at p;obtain⟨aa,ab,W⟩:=p.I;have C:G.r B 9 1 (ν) 0 []:=xj _ _ _ _;clear E P T;go_region_law (first|(refine fU G _ [.g s] 9 rfl (.tmp 177) (.tmp 180) 30 rfl B 9 i0 _ 1 16 underlying30 hi r u v rfl θ (ν) 0 [] (by simp[j_]) C φ (G.o.q+1) 1 (by simp[j_,y]) (by exact U3.drew (U3.newAt _ _ _ _ ζ)) rfl a_ η η η ?_;intro v' H i f d I t;obtain⟨n,g,rfl⟩:=zq i;have l:=p.save f (by simp[O.ownBlock]);obtain⟨L,F,x⟩:=l.I))
 all_goals
  have m:U7 B H (.k n (0+1) g) [s]:=i;have J:=U2 (D.l.turn m f (d.imp_right zg) ζ).1;go_wp2;go_ret;obtain⟨q1,⟨o,M',V',q2,j,q4⟩,q5⟩:=J.l;exact⟨q1,⟨o,M',V',q2,⟨j.ps,j.rs,by have:=j.row;simp at this;omega,j.ins,j.ord,j.ls,j.F,j.z,j.nn⟩,λb q=>(q4 b η).A (HT.l b q)⟩,hz.l.A q5 HT.l⟩
end
section
variable {B:Nat} {own:UY} {w:U} {wb:Nat} {M:ym} {V:Nat->O}
def zH.mark(h:zH B own w wb M V)(k:Nat)(L:k<M.ls.j)(i:Nat)(hi:i<M.ls[k].2.2.j)(s:Λ):
  zH B own ((w.x (ω M.ls[k].1 i) (.g s)).x (ω M.ls[k].2.1 i) (.g s)) wb {M with ls:=M.ls.set k (M.ls[k].1,M.ls[k].2.1,M.ls[k].2.2.set i s)} V/\uw own w ((w.x (ω M.ls[k].1 i) (.g s)).x (ω M.ls[k].2.1 i) (.g s)):=by
 obtain⟨⟨J,N⟩,⟨t2,aa⟩,R⟩:=h.inn.lists k L;have e3:pz (M.ls.set k (M.ls[k].1,M.ls[k].2.1,M.ls[k].2.2.set i s))=pz M.ls:=ot L ζ;have e4:ph (M.ls.set k (M.ls[k].1,M.ls[k].2.1,M.ls[k].2.2.set i s))=ph M.ls:=ot L ζ;generalize ab:M.ls[k].1=C at *;generalize ac:M.ls[k].2.1=A at *;generalize hl:M.ls[k].2.2=l at *;have z:zc [C,A] w ((w.x (ω C i) (.g s)).x (ω A i) (.g s)):=((zc.set w C i _).more ζ).A ((zc.set _ A i _).more ζ);have hN:∀b∈[C,A],own b=(22,k+1)∨own b=(23,k+1):=λb v=>by
  simp at v;rcases v with rfl|rfl;exact zh J;exact zg t2
 have W:∀b∈[C,A],xh own b:=λb v=>by
  unfold xh;rcases hN b v with e|e<;>rw[e]<;>simp
 have q:∀b t,own b=t->t≠(22,k+1)->t≠(23,k+1)->b∉[C,A]:=λb t e H F hm=>by
  rcases hN b hm with e2|e2;exact H (e ▸ e2);exact F (e ▸ e2)
 have S:∀{b:Nat} {c:Array O} {T:f_} {t:W8},own b=t/\U3 w b c T->t≠(22,k+1)->t≠(23,k+1)->own b=t/\U3 _ b c T:=λa H F=>⟨a.1,a.2.save z (q _ _ a.1 H F)⟩;have I:∀{g n:Nat} {y:Nat} {e:f_} {s m:Nat} {xs:Γ} {t:W8},own g=t->w.r y e s (sl g n) m xs->t≠(22,k+1)->t≠(23,k+1)->U.ownsRow _ y e s (sl g n) m xs:=λa ho H F=>yd ho z λb v=>by cases v;exact q _ _ a H F
 have G:C≠A:=λe=>by rw[e,t2] at J;simp at J
 refine⟨⟨h.hd.gen [] z (λb v=>zg (zg (by rcases hN b v with e|e<;>rw[e]<;>simp))) (h.hd.box.save z (q _ _ h.hd.tag ζ ζ)) (λ_ _=>rfl) (λb q=>h.hd.new b (zX z.q q)) (λf _=>⟨rfl,?_⟩) ζ,⟨λj E=>?_,h.inn.win,h.inn.D,λj E=>?_,λj E=>?_,λj E=>?_,λp hp=>(h.inn.pairs p hp).keep z W λ_ _ e=>e,λr hr=>(h.inn.ress r hr).keep z W λ_ _ e=>e⟩,h.nums⟩,⟨_,z,W⟩⟩;unfold ym.f;split<;>simp[e3,e4]
 obtain⟨d,o,D⟩:=h.inn.ints j E;exact⟨S d ζ ζ,S o ζ ζ,D⟩;have P:j<M.ls.j:=by simpa using E
 by_cases u:j=k;subst u;simp only[mY];exact⟨⟨J,(N.mark i hi s).stays G⟩,⟨t2,(aa.stays (Ne.symm G)).mark i hi s⟩,by simpa using R⟩;simp only[nD (Ne.symm u)];obtain⟨d,o,D⟩:=h.inn.lists j P;exact⟨⟨d.1,I d.1 d.2 (by simp[u]) ζ⟩,⟨o.1,I o.1 o.2 ζ (by simp[u])⟩,D⟩;obtain⟨d,K,o,D,Q,a5⟩:=h.inn.F j E;refine⟨d,K,o,D,I d Q ζ ζ,λx hx=>?_⟩;obtain⟨b1,c,b2,b3⟩:=a5 x hx;have b4:=S ⟨b1,b2⟩ ζ ζ;exact⟨b4.1,c,b4.2,b3⟩;obtain⟨d,K,o,D,Q⟩:=h.inn.z j E;exact⟨d,K,o,D,I d Q ζ ζ⟩
def Q3(h:zH B own w wb M V)(a b c:Int)(s:Λ)(hn:M.ls.j<=2000000000000)(ha:Vz a)(hb:Vz b):
  c_ e_ 94 #[(π wb),.agg #[ι 17,ι a,ι b,ι c,.g s]] w λe L=>U9 B own w wb M e L:=by
 unfold Vz at ha hb;have N:=U2 λE (q:μ w E)=>U9.kept h q;have HT:=U2 h;obtain⟨an,av,g⟩:=zq (h.hd.row 10 _ _ _ _ rfl);obtain⟨ao,ay,m⟩:=zq (h.hd.row 11 _ _ _ _ rfl);have z:=h.box;rw[g,m] at z;obtain⟨hc,hf,a7⟩:=z.I;by_cases h0:M.ls.j=0
 .clear h g m;generalize M.ls.j=n at *;subst h0;go_enter func94,ntmps94;go_wp2;go_ret;exact N.l _ φ
 obtain⟨k,C⟩:∃k,k=kt a M.ls.j:=⟨_,rfl⟩;have hk:k<M.ls.j:=by rw[C];exact m9 a η
 have ag:X (∀W:U,c_ e_ 95 #[ι a,ι M.ls.j] W λe L=>e=ε (ι (k:Int))/\L=W):=λW=>by rw[C];exact lJ W a _ η η ha
 have HR:X (∀W,μ w W->∃F j,an=Z (δ F)/\ao=Z (δ j)/\F<W.o.q/\j<W.o.q/\W.p (ω F k)=Z (.k (Z (δ M.ls[k].1)) M.ls[k].2.2.j M.ls[k].2.2.j)/\W.p (ω j k)=Z (.k (Z (δ M.ls[k].2.1)) M.ls[k].2.2.j M.ls[k].2.2.j)/\own j=(13,0)):=λW p=>by
  obtain⟨F,c1,q1,q2,q3,q4⟩:=kL ((h.u p).hd.row 10 _ _ _ _ rfl) k hk;obtain⟨j,c2,r1,r2,r3,r4⟩:=kL ((h.u p).hd.row 11 _ _ _ _ rfl) k hk;have q5:=q1;have r5:=r1;rw[g] at q5;rw[m] at r5;cases q5;cases r5;exact⟨F,j,rfl,rfl,q2,r2,by rw[q4];simp[pz,sl],by rw[r4];simp[ph,sl],((h.u p).hd.tg 11 j (by rw[r1];rfl)).1⟩
 have J:X (∀W,μ w W->∀i,i<M.ls[k].2.2.j->U9 B own w wb M (ε (.i true)) ((W.x (ω M.ls[k].1 i) (.g s)).x (ω M.ls[k].2.1 i) (.g s))):=λW p i hi=>by
  obtain⟨q1,q2⟩:=(h.u p).mark k hk i hi s;exact U9.from p ⟨rfl,⟨_,_,_,q1,⟨ζ,ζ,ζ,ζ,ζ,ζ,ζ,ζ,rfl⟩,λ_ _=>rfl⟩,q2⟩
 have A:=U2 λW (p:μ w W)=>(h.u p).inn.lists k hk;have aa:=h.hd.tag;have ak:=h.hd.new;clear h C g m;generalize M.ls[k].1=r at *;generalize M.ls[k].2.1=gc at *;generalize M.ls[k].2.2=l at *;go_enter func94,ntmps94;go_wp2;go_quiet ((go_at_call 95;exact c_.quiet_of_same (ag.l _)))
 have f:μ w ((w.C (.E #[ι 17,ι a,ι b,ι c,.g s] 67)).drewN nq):=zG zQ _;have G:U3 ((w.C (.E #[ι 17,ι a,ι b,ι c,.g s] 67)).drewN nq) w.o.q #[ι 17,ι a,ι b,ι c,.g s] 67:=(U3.new w _ _).u (zG (zn _ _) _);generalize (w.C (.E #[ι 17,ι a,ι b,ι c,.g s] 67)).drewN nq=E at *;clear hc hf;have t:=z.u f;obtain⟨hc,hf,ar⟩:=t.I;obtain⟨Q,ad,a8⟩:=G.I;obtain⟨F,j,rfl,rfl,I,ac,T,ae,_⟩:=HR.l _ f;by_cases hz:l.j=0
 .have a9:¬(0:Int)<(l.j:Int):=η;go_wp2;go_ret;exact N.l _ f
 have a6:(0:Int)<(l.j:Int):=η;obtain⟨⟨o,s1⟩,⟨t2,s2⟩,s3⟩:=A.l _ f;obtain⟨i,y⟩:∃i,i=kt b l.j:=⟨_,rfl⟩;have u:i<l.j:=by rw[y];exact m9 b η
 have ai:X (∀W:U,c_ e_ 95 #[ι b,ι l.j] W λe L=>e=ε (ι (i:Int))/\L=W):=λW=>by rw[y];exact lJ W b l.j η η hb
 clear y s1 s2;go_wp2;go_quiet ((go_at_call 95;exact c_.quiet_of_same (ai.l _)))
 clear hc hf Q ad;have d:μ E (E.drewN nq):=zG (zn _ _) _;generalize E.drewN nq=D at *;have v:=U6 f d;have H:=t.u d;obtain⟨hc,hf,az⟩:=H.I;have af:=G.u d;obtain⟨Q,ad,aq⟩:=af.I;have a5:=zi d I T;have a4:=zi d ac ae;have ax:=yh I d.q;have a0:=yh ac d.q;have al:=U2 (J.l D v i u);obtain⟨⟨_,P⟩,⟨_,R⟩,_⟩:=A.l _ v;obtain⟨_,_,_,r2,_,_,_,_,r8⟩:=HR.l _ v;cases r2;obtain⟨_,S,au,a3⟩:=U7.cell P i u;obtain⟨_,K,ab,am⟩:=U7.cell R i u;simp at S K;subst S;subst K;have aC:=uv P;have aB:=uv R;have ap:r≠wb:=λe=>by rw[e,aa] at o;simp at o
 have a1:gc≠wb:=λe=>by rw[e,aa] at t2;simp at t2
 have aw:r≠w.o.q:=λe=>by rw[e,ak _ (ze _)] at o;simp at o
 have aA:r≠j:=λe=>by rw[e,r8] at o;simp at o
 have aj:r≠gc:=λe=>by rw[e,t2] at o;simp at o
 clear J A HR T ae o t2;generalize l[i]=x at *;go_wp2;have ah:zc [r] D (D.x (ω r i) (.g s)):=zc.set D r i _;have a2:(D.x (ω r i) (.g s)).p (ω gc i)=Z (.g x):=by
  rw[U.cell?_of_block (w:=D) (ah.block gc ab (by simp;exact Ne.symm aj))];exact am
 go_region
 go_wp2;go_region
 go_wp2;go_ret;exact al.l.more (zn _ _).drew.drew
end
end
end Go.Proofs.YteampbddflhngaaGreat
