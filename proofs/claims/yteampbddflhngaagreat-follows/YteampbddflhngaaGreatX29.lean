import Derived.Test.YteampbddflhngaaGreatX25
import Derived.Test.YteampbddflhngaaGreatX26
namespace Go.Proofs.YteampbddflhngaaGreat
set_option linter.all false
set_option maxRecDepth 100000
set_option maxHeartbeats 4000000
open Go.RowKit
section
open Go.Proofs.Tryz
variable {lo:Nat}{ownk own1:Nat->zn}{wd:Nat}
def LC(lo:Nat)(w:World)(own:Nat->zn)(k wd:Nat)(r:zq)(vs:List y6)(b:List Nat)(n:Nat)(e:Ending)(c:World):Prop:=∃P a,e=.returned (.agg (qM r P).toArray)/\xV lo c a k wd ⟨r,vs⟩ P/\gH b n r P.nbs/\P6 lo (fI k) w own c a
def z8:List Value:=[.int .i64 0,.int .i64 0,.int .i64 0,.slice none 0 0,.slice none 0 0,.slice none 0 0,.slice none 0 0,.slice none 0 0]
theorem Pj:(prog.info? 301).map (fun i=>(i.zero,i.size,i.bytes))=some (some (.agg #[.int .i64 0,.slice none 0 0,.int .i64 0,.pointer none,.pointer none,.pointer none]),6,64):=by kernel_rfl
def R4(a wd:Nat)(tv:Value)(b d c:Nat):Array Value:=#[.int .i64 a,tv,.int .i64 wd,.pointer (some ⟨b,0,none⟩),.pointer (some ⟨d,0,none⟩),.pointer (some ⟨c,0,none⟩)]
structure Rs (lo:Nat) (wr W3:World) (ownk own2:Nat->zn) (k m wd g8:Nat) (l:zt) (tv:Value) (bb fb ab:Nat):Prop where
 view:vn lo W3 own2 k m (kA wd l) ⟨tv,bb,fb,ab⟩
 role:own2 g8=(0,0,5)
 old:∀b,b<wr.heap.size->own2 b=ownk b
 box:Py W3 g8 (R4 l.pred wd tv bb fb ab) 301
 lbox:Py W3 wr.heap.size #[.int .i64 l.pred,tv] 204
 below:Below wr.heap.size wr W3
 ge:wr.heap.size<=g8
theorem Rs.one{wr d a:World}{k m:Nat}{l:zt}{tv:Value}{f g h:Nat}(e:Below wr.heap.size wr d)(j:Py d wr.heap.size #[.int .i64 l.pred,tv] 204)(c:Below d.heap.size d a)(n:vn lo a own1 k m (kA wd l) ⟨tv,f,g,h⟩)(p:∀b,b<d.heap.size->own1 b=ext ownk wr.heap.size (0,0,5) b):Rs lo wr (a.alloc (.cells (R4 l.pred wd tv f g h) 301)) ownk (ext own1 a.heap.size (0,0,5)) k m wd a.heap.size l tv f g h:=by
 have i:Below a.heap.size a (a.alloc (.cells (R4 l.pred wd tv f g h) 301)):=(zo _ _).alloc (zf _) _;have r:=e.size;have q:=c.size;refine⟨n.mod (P6.extNew (ok:=fun _ _=>False) own1 (0,0,5) i) (fun _ _ _=>id) (fun _=>id),by simp[ext],fun b o=>?_,Py.new _ _ _,(j.below c).below i,P3 (P3 e c) i,by omega⟩;rw[gR _ _ _ b (by omega),p b (by omega),gR _ _ _ b o]
theorem Rs.two{wr a g:World}{k m:Nat}{l:zt}{tv:Value}{d f i:Nat}{z:Array Value}(h:Below wr.heap.size wr a)(o:Py a wr.heap.size #[.int .i64 l.pred,tv] 204)(e:Below (a.alloc (.cells z 301)).heap.size (a.alloc (.cells z 301)) g)(s:Py g a.heap.size #[.int .i64 0,.slice none 0 0,.int .i64 0,.pointer none,.pointer none,.pointer none] 301)(v:vn lo g own1 k m (kA wd l) ⟨tv,d,f,i⟩)(u:∀b,b<(a.alloc (.cells z 301)).heap.size->own1 b=ext ownk wr.heap.size (0,0,5) b):Rs lo wr ((((((g.setCell ⟨a.heap.size,0,none⟩ (.int .i64 l.pred)).setCell ⟨a.heap.size,1,none⟩ tv).setCell ⟨a.heap.size,2,none⟩ (.int .i64 wd)).setCell ⟨a.heap.size,3,none⟩ (.pointer (some ⟨d,0,none⟩))).setCell ⟨a.heap.size,4,none⟩ (.pointer (some ⟨f,0,none⟩))).setCell ⟨a.heap.size,5,none⟩ (.pointer (some ⟨i,0,none⟩))) ownk own1 k m wd a.heap.size l tv d f i:=by
 have r:=h.size;have t:Below a.heap.size a (a.alloc (.cells z 301)):=(zo _ _).alloc (zf _) _;have p:=zd.sets a.heap.size [.int .i64 l.pred,tv,.int .i64 wd,.pointer (some ⟨d,0,none⟩),.pointer (some ⟨f,0,none⟩),.pointer (some ⟨i,0,none⟩)] 0 g;have n:=(((((s.set 0 (.int .i64 l.pred)).set 1 tv).set 2 (.int .i64 wd)).set 3 (.pointer (some ⟨d,0,none⟩))).set 4 (.pointer (some ⟨f,0,none⟩))).set 5 (.pointer (some ⟨i,0,none⟩));have q:=PN.box s;have j:=P3 (P3 h t) e;have c:=(o.below t).below e;have w:(a.alloc (.cells z 301)).heap.size=a.heap.size+1:=by simp
 refine⟨v.saveT p q (by decide) (by decide),?_,fun b A=>?_,by simpa [R4] using n,c.saveT p q (by decide),?_,r⟩
 ·rw[u _ (by omega)];simp[ext,Nat.not_lt.2 r]
 ·rw[u b (by omega),gR _ _ _ b A]
 ·exact j.trans (p.below (fun x y=>by simp at y;omega) (by have:=j.size;omega))
theorem qL.done{e w j:World}{c own:Nat->zn}{k o p f:Nat}{m:Array Value}{r:zq}{P:yT}{vs:List y6}(h:qL lo e w c own k wd o p r P vs)(g:Py w f m 292)(s:e.heap.size<=f)(hs:zd [f] w j)(l:P.nbs.length=r.qp.length)(n:vs.length<=1000):xV lo j own k wd ⟨r,vs⟩ P/\P6 lo (fI k) e c j own:=by
 have d:=PN.box g;have q:=yB h.qp hs d (by decide);rw[l] at q;exact⟨⟨h.rule.saveT hs d (by decide) (by decide),yB h.qm hs d (by decide),h.vlen,fun i a b=>(h.view i a b).saveT hs d (by decide) (by decide),h.vrole,q,l,n⟩,h.mod.newer hs fun b g=>by simp at g;omega⟩
theorem Nx{f:Nat}{T:zi}{a:List zk}(h:rowsG f T=some a):a.length<=1048577:=by
 unfold rowsG at h;split at h
 ·cases h
 ·split at h
  ·simp at h;subst h;omega
  ·cases h
theorem FO(w:World)(own:Nat->zn)(rb k:Nat)(R:zw)(r:zq)(tv pv nv:Value)(vs:List y6)(wd mr mx:Nat)(Q:xL)(av:Nat)(h:zW lo w own rb R wd mr mx Q)(hr:uU lo w tv pv nv r)(bc:lo<=w.heap.size)(bu:∀l∈r.qc,l.pred<R.rows.length)(bg:∀l∈r.qp,l.pred<R.rows.length/\l.pred≠r.head.pred)(hv:gO av wd R r.qc=some vs):
  Calls prog 192 #[.pointer (some ⟨rb,0,none⟩),kz r tv pv nv] w fun e J=>LC lo w own k wd r vs Q.tbs R.rows.length e J:=by
 obtain⟨i0,hi,bG,bA,b4⟩:=info_parts Pj;obtain⟨i1,bW,bd,aY,bf⟩:=info_parts OK;obtain⟨bp,aT⟩:=Cq hv;have aG:=Px bp;have bV:=Px aT;have HH:=Px h;have bD:=Px hr;have aF:=Px bc;have bU:=Px bu;have bx:=Px bg;obtain⟨o,f,bK⟩:=hr.head.qx;obtain⟨u,d,bQ⟩:=hr.qc.qx;obtain⟨s,j,b6⟩:=hr.qp.qx;have bH:r.qc.length<=1000:=by obtain⟨_,_,_,q,_⟩:=hr.qc;exact q
 have cd:r.qp.length<=1000:=by obtain⟨_,_,_,q,_⟩:=hr.qp;exact q
 subst bK bQ b6;clear h hr bc bu bg hv bp aT;simp only[kz];go_enter func192,ntmps192;go_upto_region 3 with fail
 have P:Below w.heap.size w (((w.alloc (.cells #[.int .i64 r.qh,.int .i64 r.vars,.int .i64 r.head.pred,.slice o r.head.qg.length f,.slice u r.qc.length d,.slice s r.qp.length j] 207)).alloc (.cells #[.int .i64 0,.int .i64 0,.int .i64 0,.slice none 0 0,.slice none 0 0,.slice none 0 0,.slice none 0 0,.slice none 0 0] 292)).alloc (.cells #[.int .i64 r.qh,.int .i64 r.vars,.int .i64 r.head.pred,.slice o r.head.qg.length f,.slice u r.qc.length d,.slice s r.qp.length j,.slice none 0 0,.slice none 0 0] 292)):=(by go_grown);have an:=((Py.new w #[.int .i64 r.qh,.int .i64 r.vars,.int .i64 r.head.pred,.slice o r.head.qg.length f,.slice u r.qc.length d,.slice s r.qp.length j] 207).up (.cells #[.int .i64 0,.int .i64 0,.int .i64 0,.slice none 0 0,.slice none 0 0,.slice none 0 0,.slice none 0 0,.slice none 0 0] 292)).up (.cells #[.int .i64 r.qh,.int .i64 r.vars,.int .i64 r.head.pred,.slice o r.head.qg.length f,.slice u r.qc.length d,.slice s r.qp.length j,.slice none 0 0,.slice none 0 0] 292);have a1:=((Py.new (w.alloc (.cells #[.int .i64 r.qh,.int .i64 r.vars,.int .i64 r.head.pred,.slice o r.head.qg.length f,.slice u r.qc.length d,.slice s r.qp.length j] 207)) z8.toArray 292).up (.cells #[.int .i64 r.qh,.int .i64 r.vars,.int .i64 r.head.pred,.slice o r.head.qg.length f,.slice u r.qc.length d,.slice s r.qp.length j,.slice none 0 0,.slice none 0 0] 292)).at' (b':=w.heap.size+1) (by simp);have bn:=(Py.new ((w.alloc (.cells #[.int .i64 r.qh,.int .i64 r.vars,.int .i64 r.head.pred,.slice o r.head.qg.length f,.slice u r.qc.length d,.slice s r.qp.length j] 207)).alloc (.cells z8.toArray 292)) #[.int .i64 r.qh,.int .i64 r.vars,.int .i64 r.head.pred,.slice o r.head.qg.length f,.slice u r.qc.length d,.slice s r.qp.length j,.slice none 0 0,.slice none 0 0] 292).at' (b':=w.heap.size+1+1) (by simp);have x:qL lo w (((w.alloc (.cells #[.int .i64 r.qh,.int .i64 r.vars,.int .i64 r.head.pred,.slice o r.head.qg.length f,.slice u r.qc.length d,.slice s r.qp.length j] 207)).alloc (.cells #[.int .i64 0,.int .i64 0,.int .i64 0,.slice none 0 0,.slice none 0 0,.slice none 0 0,.slice none 0 0,.slice none 0 0] 292)).alloc (.cells #[.int .i64 r.qh,.int .i64 r.vars,.int .i64 r.head.pred,.slice o r.head.qg.length f,.slice u r.qc.length d,.slice s r.qp.length j,.slice none 0 0,.slice none 0 0] 292)) own own k wd (w.heap.size+1+1) w.heap.size r ⟨.slice o r.head.qg.length f,.slice u r.qc.length d,.slice s r.qp.length j,.slice none 0 0,.slice none 0 0,[],[]⟩ []:=⟨by omega,aF.out,bn,an,bD.out.below P,yI _ _ _ _,rfl,(fun i a=>by simp at a),(fun b I=>by cases I),yI _ _ _ _,P6.of own P⟩;have N:Hid (Py (((w.alloc (.cells #[.int .i64 r.qh,.int .i64 r.vars,.int .i64 r.head.pred,.slice o r.head.qg.length f,.slice u r.qc.length d,.slice s r.qp.length j] 207)).alloc (.cells #[.int .i64 0,.int .i64 0,.int .i64 0,.slice none 0 0,.slice none 0 0,.slice none 0 0,.slice none 0 0,.slice none 0 0] 292)).alloc (.cells #[.int .i64 r.qh,.int .i64 r.vars,.int .i64 r.head.pred,.slice o r.head.qg.length f,.slice u r.qc.length d,.slice s r.qp.length j,.slice none 0 0,.slice none 0 0] 292)) (w.heap.size+1) z8.toArray 292):=a1;have a2:=Px x;clear x an a1 bn P;generalize bN:((w.alloc (.cells #[.int .i64 r.qh,.int .i64 r.vars,.int .i64 r.head.pred,.slice o r.head.qg.length f,.slice u r.qc.length d,.slice s r.qp.length j] 207)).alloc (.cells #[.int .i64 0,.int .i64 0,.int .i64 0,.slice none 0 0,.slice none 0 0,.slice none 0 0,.slice none 0 0,.slice none 0 0] 292)).alloc (.cells #[.int .i64 r.qh,.int .i64 r.vars,.int .i64 r.head.pred,.slice o r.head.qg.length f,.slice u r.qc.length d,.slice s r.qp.length j,.slice none 0 0,.slice none 0 0] 292)=w1 at *;clear bN;generalize h5:w.heap.size+1+1=t5 at *;generalize h4:w.heap.size+1=t4 at *;have aK:t4≠t5:=by omega
 have ck:w.heap.size<t4:=by omega
 clear h5 h4;go_loopw [18] (fun b8 wr=>∃m:Nat,m<=r.qc.length/\b8=.int .i64 m/\∃ownk vv al,Hid (qL lo w wr own ownk k wd t5 w.heap.size r ⟨.slice o r.head.qg.length f,.slice u r.qc.length d,.slice s r.qp.length j,vv,.slice none 0 0,al,[]⟩ (vs.take m))/\Hid (Py wr t4 z8.toArray 292)) (fun i _=>r.qc.length-(intOf i).toNat)
 case atStart=>exact⟨0,zx _,rfl,own,_,[],a2,N⟩
 case round=>
  clear a2 N;obtain⟨m,hm,rfl,ownk,vv,al,x,N⟩:=hrel;have ah:=x.out.mod.size;have aj:=zT aF.out ah;by_cases ag:m<r.qc.length
  ·obtain⟨g,n,c,aL,hg,q0,q1,bq⟩:=x.out.rule.qc.cell m ag;subst aL;have be:m<vs.length:=by rw[aG.out];exact ag
   obtain⟨S,ae,ao⟩:=bV.out m ag be;have Z:=Px (HH.out.make x.out.mod);have Y:r.qc[m].pred<R.rows.length:=bU.out _ (zv _);have ap:r.qc[m].pred<Q.tbs.length:=by rw[Z.out.tlen];exact Y
   have bs:Hid (∀F,Below wr.heap.size wr F->Calls prog 204 #[.agg #[.int .i64 (r.qc[m].pred:Nat),.slice n r.qc[m].qg.length c],.int .i64 wd] F fun e J=>∃L fb K own1,e=.returned (.agg #[.int .i64 (r.qc[m].pred:Nat),.slice n r.qc[m].qg.length c,.int .i64 wd,.pointer (some ⟨L,0,none⟩),.pointer (some ⟨fb,0,none⟩),.pointer (some ⟨K,0,none⟩)])/\Hid (vn lo J own1 k m (kA wd r.qc[m]) ⟨.slice n r.qc[m].qg.length c,L,fb,K⟩/\∀b,b<F.heap.size->own1 b=ext ownk wr.heap.size (0,0,5) b)/\Below F.heap.size F J):=fun F I=>by
    refine(Ih F (ext ownk wr.heap.size (0,0,5)) k m r.qc[m] (.slice n r.qc[m].qg.length c) wd (bq.below I) (zT aj I.size) Z.out.small.1).mono ?_;rintro e J ⟨⟨cj,L,fb,K⟩,own1,rfl,rfl,bM,aR,O⟩;exact⟨L,fb,K,own1,rfl,⟨bM,aR⟩,O⟩
   obtain⟨hl,hf,d0,d1,d2,d3,d4,d5,d6,d7⟩:=Z.out.at;have aV:(m:Int)<(r.qc.length:Int):=by omega
   clear d0 d1 d2 d3 d5 d6 d7;go_upto_region 5 with fail
   have P:Below wr.heap.size wr (wr.alloc (.cells #[.int .i64 (r.qc[m].pred:Nat),.slice n r.qc[m].qg.length c] 204)):=(by go_grown);have am:=Py.new wr #[.int .i64 (r.qc[m].pred:Nat),.slice n r.qc[m].qg.length c] 204;have bm:wr.heap.size<(wr.alloc (.cells #[.int .i64 (r.qc[m].pred:Nat),.slice n r.qc[m].qg.length c] 204)).heap.size:=by simp
   generalize b3:wr.alloc (.cells #[.int .i64 (r.qc[m].pred:Nat),.slice n r.qc[m].qg.length c] 204)=W at *;clear b3;have x4:=zm P hl d4;have x0:W.cell? ⟨wr.heap.size,0,none⟩=some (.int .i64 (r.qc[m].pred:Nat)):=by rw[am.rules.1];rfl
   have x1:W.cell? ⟨wr.heap.size,1,none⟩=some (.slice n r.qc[m].qg.length c):=by rw[am.rules.1];rfl
   have ax:Hid (∀F,Below W.heap.size W F->Calls prog 204 #[.agg #[.int .i64 (r.qc[m].pred:Nat),.slice n r.qc[m].qg.length c],.int .i64 wd] F fun e J=>∃L fb K own1,e=.returned (.agg #[.int .i64 (r.qc[m].pred:Nat),.slice n r.qc[m].qg.length c,.int .i64 wd,.pointer (some ⟨L,0,none⟩),.pointer (some ⟨fb,0,none⟩),.pointer (some ⟨K,0,none⟩)])/\Hid (vn lo J own1 k m (kA wd r.qc[m]) ⟨.slice n r.qc[m].qg.length c,L,fb,K⟩/\∀b,b<F.heap.size->own1 b=ext ownk wr.heap.size (0,0,5) b)/\Below F.heap.size F J/\J.cell? ⟨rb,4,none⟩=some (.int .i64 wd)/\J.cell? ⟨wr.heap.size,0,none⟩=some (.int .i64 (r.qc[m].pred:Nat))/\J.cell? ⟨wr.heap.size,1,none⟩=some (.slice n r.qc[m].qg.length c)):=fun F I=>by
    refine(bs.out F (P3 P I)).mono ?_;rintro e J ⟨L,fb,K,own1,rfl,HX,O⟩;have an:=P3 I O;exact⟨L,fb,K,own1,rfl,HX,O,(an.cell (by show rb<_;omega)).trans x4,(an.cell (by show wr.heap.size<_;omega)).trans x0,(an.cell (by show wr.heap.size<_;omega)).trans x1⟩
   clear bs;clear q0 q1 d4;go_region_held3 (fun J=>J.cell? ⟨rb,4,none⟩=some (.int .i64 wd)/\J.cell? ⟨wr.heap.size,0,none⟩=some (.int .i64 (r.qc[m].pred:Nat))/\J.cell? ⟨wr.heap.size,1,none⟩=some (.slice n r.qc[m].qg.length c)) (first|go_keep|(go_simp;done)) (first|(go_at_call 204;refine(ax.out _ (by exact(by go_grown))).mono ?_;rintro e w2 ⟨L,fb,K,own1,rfl,HX,O,y4,y0,y1⟩;(try (with_reducible refine Py.carry (Py.drew (Py.new W #[.int .i64 0,.slice none 0 0,.int .i64 0,.pointer none,.pointer none,.pointer none] 301)) O ?_;intro aC;obtain⟨aU,aZ,aN⟩:=aC.boxed))))
   obtain⟨M,HP⟩:∃M,Hid (Rs lo wr (w2.alloc (.cells #[.int .i64 (r.qc[m].pred:Nat),.slice n r.qc[m].qg.length c,.int .i64 wd,.pointer (some ⟨L,0,none⟩),.pointer (some ⟨fb,0,none⟩),.pointer (some ⟨K,0,none⟩)] 301)) ownk M k m wd w2.heap.size r.qc[m] (.slice n r.qc[m].qg.length c) L fb K):=⟨_,Rs.one P am (P3 (zL (zo _ _) 1) O) HX.out.1 HX.out.2⟩;clear HX O y4 y0 y1 x4 x0 x1 P am bm ax;generalize w2.alloc (.cells #[.int .i64 (r.qc[m].pred:Nat),.slice n r.qc[m].qg.length c,.int .i64 wd,.pointer (some ⟨L,0,none⟩),.pointer (some ⟨fb,0,none⟩),.pointer (some ⟨K,0,none⟩)] 301)=W3 at *;generalize w2.heap.size=g8 at *;rotate_left
   obtain⟨M,HP⟩:∃M,Hid (Rs lo wr ((((((w2.setCell ⟨W.heap.size,0,none⟩ (.int .i64 (r.qc[m].pred:Nat))).setCell ⟨W.heap.size,1,none⟩ (.slice n r.qc[m].qg.length c)).setCell ⟨W.heap.size,2,none⟩ (.int .i64 wd)).setCell ⟨W.heap.size,3,none⟩ (.pointer (some ⟨L,0,none⟩))).setCell ⟨W.heap.size,4,none⟩ (.pointer (some ⟨fb,0,none⟩))).setCell ⟨W.heap.size,5,none⟩ (.pointer (some ⟨K,0,none⟩))) ownk M k m wd W.heap.size r.qc[m] (.slice n r.qc[m].qg.length c) L fb K):=⟨_,Rs.two (z:=#[.int .i64 0,.slice none 0 0,.int .i64 0,.pointer none,.pointer none,.pointer none]) P am (P3 (zL (zo _ _) 1) O) aC HX.out.1 HX.out.2⟩;clear HX O y4 y0 y1 x4 x0 x1 P am bm ax aC aU aZ aN;generalize ((((((w2.setCell ⟨W.heap.size,0,none⟩ (.int .i64 (r.qc[m].pred:Nat))).setCell ⟨W.heap.size,1,none⟩ (.slice n r.qc[m].qg.length c)).setCell ⟨W.heap.size,2,none⟩ (.int .i64 wd)).setCell ⟨W.heap.size,3,none⟩ (.pointer (some ⟨L,0,none⟩))).setCell ⟨W.heap.size,4,none⟩ (.pointer (some ⟨fb,0,none⟩))).setCell ⟨W.heap.size,5,none⟩ (.pointer (some ⟨K,0,none⟩)))=W3 at *;generalize W.heap.size=g8 at *
   all_goals
    have hP:=HP.out;have aE:=Px fun F I=>Ez F ownk rb R wd mr mx Q _ (Z.out.below I) Y ap;have bS:Hid (∀F,Below wr.heap.size wr F->Calls prog 78 #[.pointer (some ⟨Q.tbs[r.qc[m].pred],0,none⟩)] F fun e J=>∃aw ac,e=.returned (.slice aw S.length ac)/\Hid (PF F.heap.size J (.slice aw S.length ac) S)/\Below F.heap.size F J):=fun F I=>by
     have q:=Ct F ownk (0,r.qc[m].pred,0) Q.tbs[r.qc[m].pred] R.rows[r.qc[m].pred] av S ((Z.out.below I).tries _ Y ap) (by rw[←ae,fR,za (by omega)];simp[List.getD,Y]);refine q.mono ?_;rintro e J ⟨v,rfl,az,a8⟩;obtain⟨aw,ac,rfl⟩:=zs az.1;exact⟨aw,ac,rfl,az,a8⟩
    have bR:Hid (∀W4 b0 rv,Below W3.heap.size W3 W4->PF b0 W4 rv S->Calls prog 206 #[.pointer (some ⟨g8,0,none⟩),rv] W4 fun e J=>e=.returned (.tuple #[])/\∃U D,Hid (vn lo J D k m vs[m] ⟨.slice n r.qc[m].qg.length c,L,U,K⟩/\P6 lo (fM k m (0,0,5)) wr ownk J D)/\Py J g8 #[.int .i64 (r.qc[m].pred:Nat),.slice n r.qc[m].qg.length c,.int .i64 wd,.pointer (some ⟨L,0,none⟩),.pointer (some ⟨U,0,none⟩),.pointer (some ⟨K,0,none⟩)] 301):=fun W4 b0 rv I az=>by
     have z1:=HP.out.below.size;have q:=AN W4 M k m g8 0 wd av (R4 r.qc[m].pred wd (.slice n r.qc[m].qg.length c) L fb K) (kA wd r.qc[m]) vs[m] ⟨.slice n r.qc[m].qg.length c,L,fb,K⟩ rv S (HP.out.box.below I) ⟨rfl,rfl,rfl,rfl,rfl,rfl⟩ (HP.out.view.below I) az (by have:=HP.out.ge;omega) (by have:=I.size;omega) Z.out.small.1 (Nx ae) ao;refine q.mono ?_;rintro e J ⟨rfl,U,D,b9,a8,aS⟩;rw[HP.out.role] at aS;exact⟨rfl,U,D,⟨b9,((P6.qo HP.out.below HP.out.old).trans (P6.of M I)).trans aS⟩,by simpa [R4] using a8⟩
    have ai:(vs.take m).length=m:=by simp;omega
    have bB:Hid (∀w5 D,P6 lo (fM k m (0,0,5)) wr ownk w5 D->qL lo w w5 own D k wd t5 w.heap.size r ⟨.slice o r.head.qg.length f,.slice (some ⟨g,0,none⟩) r.qc.length d,.slice s r.qp.length j,vv,.slice none 0 0,al,[]⟩ (vs.take m)/\Py w5 t4 z8.toArray 292):=fun w5 D bk=>⟨x.out.step (by rw[ai];exact bk),N.out.mod bk (kR (by decide) (by decide) _)⟩;have aJ:=Px ai;obtain⟨y,t,T⟩:=zs x.out.qm;dsimp only at T;rw[ai] at T;subst T;have bb:=hP.below;have aX:=hP.lbox;obtain⟨bX,bZ,bY⟩:=aX.boxed;have aQ:=Px bb;have b2:Hid (vs[m].lit.pred=r.qc[m].pred):=show vs[m].lit.pred=r.qc[m].pred by rw[D9 ao];rfl
    have bP:=Px (yP be);clear hP bb aX ai ao ae;generalize b1:vs[m]=V' at *;clear b1;generalize Q.tbs[r.qc[m].pred]=tb at *;generalize r.qc[m].pred=vp at *;generalize r.qc[m].qg.length=vt at *;go_wp2_with (first|(go_at_call 205;refine(aE.out _ aQ.out).mono ?_;rintro e w4 ⟨rfl,aM⟩;obtain rfl:=aM.symm)|(go_at_call 78;refine(bS.out _ aQ.out).mono ?_;rintro e w4 ⟨aw,ac,rfl,bI,a1⟩)|(go_at_call 206;refine(bR.out _ _ _ a1 bI.out).mono ?_;rintro e w5 ⟨rfl,U,D,bh,br⟩;obtain⟨E,a5⟩:=bB.out _ _ bh.out.2;have H:Py w5 t5 #[.int .i64 r.qh,.int .i64 r.vars,.int .i64 r.head.pred,.slice o r.head.qg.length f,.slice (some ⟨g,0,none⟩) r.qc.length d,.slice s r.qp.length j,.slice y m t,.slice none 0 0] 292:=E.box;obtain⟨a7,aH,aA⟩:=H.boxed;obtain⟨cf,cg,cl⟩:=br.boxed;have X:=E.qm;have C:=Px E;have ar:=Px a5;clear E a5 H br)|(at_builtin;refine dO w5 _ [.int .i64 vp,.slice n vt c,.int .i64 wd,.pointer (some ⟨L,0,none⟩),.pointer (some ⟨U,0,none⟩),.pointer (some ⟨K,0,none⟩)] _ rfl (.tmp 36) (.tmp 38) 290 rfl lo 301 i0 _ 6 64 underlying290 hi bG bA b4 rfl (by decide) (.slice y m t) (vs.take m).length (vP wd (vs.take m) al) rfl X (by exact(by go_grown)) _ _ rfl (by simp) rfl (by simp[Value.oneCell']) (by rw[aJ.out];omega) (by omega) (by exact(zT C.out.low0 C.out.mod.size)) ?_;intro v' w6 af ab aq;obtain⟨bi,a6,ak⟩:=zs af;rw[aJ.out] at ak;subst ak;have ad:Py w6 t5 #[.int .i64 r.qh,.int .i64 r.vars,.int .i64 r.head.pred,.slice o r.head.qg.length f,.slice (some ⟨g,0,none⟩) r.qc.length d,.slice s r.qp.length j,.slice y m t,.slice none 0 0] 292:=C.out.box.saveT ab (PN.own C.out.qm) (by decide);obtain⟨b5,bT,bJ⟩:=ad.boxed;have au:=Px (ar.out.saveT ab (PN.own C.out.qm) (by decide));have aB:Hid (zd _ w5 w6):=ab;have a9:Hid (_∨_):=aq;have aD:Hid (World.ownsRow w6 lo 301 6 _ _ _):=af;clear ab aq af ad))
    have bL:kP wd V' ⟨.slice n vt c,L,U,K⟩=[.int .i64 vp,.slice n vt c,.int .i64 wd,.pointer (some ⟨L,0,none⟩),.pointer (some ⟨U,0,none⟩),.pointer (some ⟨K,0,none⟩)]:=by simp[kP,b2.out,pt]
    have aa:=C.out.pushV (V:=V') (p:=⟨.slice n vt c,L,U,K⟩) (by rw[aJ.out];exact bh.out.1) (by rw[bL];exact aD.out) aB.out a9.out;rw[←bP.out] at aa;exact⟨⟨m+1,by omega,by go_num,_,_,_,aa,au.out.set_ne aK _ _⟩,by simp[intOf];omega⟩
  ·obtain rfl:m=r.qc.length:=by omega
   have aO:vs.take r.qc.length=vs:=by rw[←aG.out];exact vf
   rw[aO] at x;clear aO;obtain⟨y,t,T⟩:=zs x.out.qm;dsimp only at T;subst T;obtain⟨aW,bw,bE⟩:=x.out.rbox.boxed;dsimp only at aW;go_upto_region 11 with fail
   clear aW bw bE hm ag;have cb:=Px aj;clear ah aj;generalize bF:wr=w5 at *;clear bF;go_loopw [45] (fun bz wr=>∃m:Nat,m<=r.qp.length/\bz=.int .i64 m/\∃aI A,Hid (qL lo w wr own ownk k wd t5 w.heap.size r ⟨.slice o r.head.qg.length f,.slice u r.qc.length d,.slice s r.qp.length j,.slice y vs.length t,aI,al,A⟩ vs)/\Hid (Py wr t4 z8.toArray 292)/\Hid (A.length=m)/\Hid (gH Q.tbs R.rows.length r A)/\Hid (∀b,aI.ownBlock=some b->w.heap.size<=b)) (fun i _=>r.qp.length-(intOf i).toNat)
   case atStart=>exact⟨0,zx _,rfl,_,[],x,N,rfl,fun i _ h2=>by simp at h2,fun b I=>by cases I⟩
   case round=>
    clear x N;obtain⟨m,hm,rfl,aI,A,x,N,a0,aP,bv⟩:=hrel;have ah:=x.out.mod.size;have aj:=zT aF.out ah;obtain⟨G,B,a4⟩:=zs x.out.qp;dsimp only at a4;subst a4;by_cases ag:m<r.qp.length
    ·obtain⟨g,n,c,aL,hg,q0,q1,bq⟩:=x.out.rule.qp.cell m ag;subst aL;have Z:=Px (HH.out.make x.out.mod);have Y:=bx.out _ (zv ag);have ap:r.qp[m].pred<Q.tbs.length:=by rw[Z.out.tlen];exact Y.1
     have aE:=Px fun F I=>Ez F ownk rb R wd mr mx Q _ (Z.out.below I) Y.1 ap;have b7:Hid (gH Q.tbs R.rows.length r (A++[Q.tbs[r.qp[m].pred]])):=fun i h1 h2=>by
      by_cases hi:i<A.length
      ·have q:=aP.out i h1 hi;rw[uQ hi];exact q
      ·obtain rfl:i=m:=by have:=a0.out;simp at h2;omega
       refine⟨Y.2,Y.1,ap,?_⟩;rw[mw (by omega)];simp
     have ay:Below wr.heap.size wr (wr.alloc (.cells #[.int .i64 (r.qp[m].pred:Nat),.slice n r.qp[m].qg.length c] 204)):=(by go_grown);have E:=x.out.below ay;have H:Py (wr.alloc (.cells #[.int .i64 (r.qp[m].pred:Nat),.slice n r.qp[m].qg.length c] 204)) t5 #[.int .i64 r.qh,.int .i64 r.vars,.int .i64 r.head.pred,.slice o r.head.qg.length f,.slice u r.qc.length d,.slice (some ⟨g,0,none⟩) r.qp.length j,.slice y vs.length t,.slice G A.length B] 292:=E.box;obtain⟨a7,aH,aA⟩:=H.boxed;have X:=E.qp;dsimp only at X;have C:=Px E;have ar:=Px (N.out.below ay);have bO:=Px ay;have aV:(m:Int)<(r.qp.length:Int):=by omega
     have ci:A.length<=1000:=by rw[a0.out];omega
     clear E H ay;generalize Q.tbs[r.qp[m].pred]=tb at *;generalize r.qp[m].pred=vp at *;generalize r.qp[m].qg.length=vt at *;generalize ba:A.length=nl at *;have bo:=Px ba;clear ba;go_upto_region 14 with (first|(go_at_call 205;refine(aE.out _ bO.out).mono ?_;rintro e w4 ⟨rfl,aM⟩;obtain rfl:=aM.symm))
     generalize wr.alloc (.cells #[.int .i64 vp,.slice n vt c] 204)=W5 at *;go_wp2_with (first|(at_builtin;refine dO W5 _ [.pointer (some ⟨tb,0,none⟩)] _ rfl (.tmp 54) (.tmp 56) 150 rfl lo 162 i1 _ 1 8 underlying150 bW bd aY bf rfl (by decide) (.slice G nl B) nl (PH A) rfl X (by exact(by go_grown)) _ _ rfl (by simp) rfl (by simp[Value.oneCell']) (by omega) (by omega) (by exact(zT C.out.low0 C.out.mod.size)) ?_;intro v' w6 af ab aq;obtain⟨bi,a6,ak⟩:=zs af;subst ak;have ad:Py w6 t5 #[.int .i64 r.qh,.int .i64 r.vars,.int .i64 r.head.pred,.slice o r.head.qg.length f,.slice u r.qc.length d,.slice (some ⟨g,0,none⟩) r.qp.length j,.slice y vs.length t,.slice G nl B] 292:=C.out.box.saveT ab (PN.own C.out.qp) (by decide);obtain⟨b5,bT,bJ⟩:=ad.boxed;have au:=Px (ar.out.saveT ab (PN.own C.out.qp) (by decide));have aB:Hid (zd _ W5 w6):=ab;have a9:Hid (_∨_):=aq;have aD:Hid (World.ownsRow w6 lo 162 1 _ _ _):=af;clear ab aq af ad))
     have aa:=C.out.pushN (tb:=tb) bv.out (by rw[bo.out];exact aD.out) aB.out;exact⟨⟨m+1,by omega,by go_num,_,_,aa,au.out.set_ne aK _ _,show(A++[tb]).length=m+1 by simp[bo.out,a0.out],b7,fun b I=>by
      rcases a9.out with e|⟨g',e,ch⟩
      ·rw[e] at I;exact bv.out b I
      ·rw[e] at I;simp at I;have:=C.out.mod.size;omega⟩,by simp[intOf];omega⟩
    ·obtain rfl:m=r.qp.length:=by omega
     have H:Py wr t5 #[.int .i64 r.qh,.int .i64 r.vars,.int .i64 r.head.pred,.slice o r.head.qg.length f,.slice u r.qc.length d,.slice s r.qp.length j,.slice y vs.length t,.slice G A.length B] 292:=x.out.box;obtain⟨a7,aH,aA⟩:=H.boxed;have a3:Py wr t4 #[.int .i64 0,.int .i64 0,.int .i64 0,.slice none 0 0,.slice none 0 0,.slice none 0 0,.slice none 0 0,.slice none 0 0] 292:=N.out;obtain⟨bC,ca,ce⟩:=a3.boxed;have cc:t5≠t4:=fun e=>aK e.symm;clear H a3;go_wp2
     (try simp only[Exit.inBlock,Exit.then])
     have bt:zd [t4] wr ((((((((wr.setCell ⟨t4,0,none⟩ (.int .i64 r.qh)).setCell ⟨t4,1,none⟩ (.int .i64 r.vars)).setCell ⟨t4,2,none⟩ (.int .i64 r.head.pred)).setCell ⟨t4,3,none⟩ (.slice o r.head.qg.length f)).setCell ⟨t4,4,none⟩ (.slice u r.qc.length d)).setCell ⟨t4,5,none⟩ (.slice s r.qp.length j)).setCell ⟨t4,6,none⟩ (.slice y vs.length t)).setCell ⟨t4,7,none⟩ (.slice G A.length B)):=zd.sets t4 [.int .i64 r.qh,.int .i64 r.vars,.int .i64 r.head.pred,.slice o r.head.qg.length f,.slice u r.qc.length d,.slice s r.qp.length j,.slice y vs.length t,.slice G A.length B] 0 wr;have hd:=x.out.done N.out (by omega) bt a0.out (by rw[aG.out];exact bH);have HD:Hid (_/\_):=hd;clear hd bt;refine zK (v:=.agg #[.int .i64 r.qh,.int .i64 r.vars,.int .i64 r.head.pred,.slice o r.head.qg.length f,.slice u r.qc.length d,.slice s r.qp.length j,.slice y vs.length t,.slice G A.length B]) ?_ rfl ⟨⟨.slice o r.head.qg.length f,.slice u r.qc.length d,.slice s r.qp.length j,.slice y vs.length t,.slice G A.length B,al,A⟩,ownk,rfl,HD.out.1,aP.out,HD.out.2⟩;clear HD a7 aH aA;simp[results,results192,go_sem,bC]
end
section
open Go.Proofs.Tryz
variable {lo:Nat}{Ws:List zZ}{Ps:List yT}
theorem Pv:(prog.info? 292).map (fun i=>(i.zero,i.size,i.bytes))=some (some (.agg #[.int .i64 0,.int .i64 0,.int .i64 0,.slice none 0 0,.slice none 0 0,.slice none 0 0,.slice none 0 0,.slice none 0 0]),8,144):=by kernel_rfl
theorem hY{t:TypeId}(h:Qp t)(a:t∉[214,161,165,310,323,301]):∀ρ,¬uH t ρ:=fun ρ q=>by
 rcases q with q|q
 ·exact q.1 h
 ·exact a q
theorem qa.mod{d:Nat}{ok:TypeId->zn->Prop}{w e:World}{own c:Nat->zn}{v:Value}{rs:List zq}{ps:List (Value×Value×Value)}(h:qa d w v rs ps)(m:P6 lo ok w own e c)(g:∀ρ,¬ok 284 ρ)(f:∀ρ,¬ok 204 ρ)(i:∀ρ,¬ok 207 ρ):qa d e v rs ps:=⟨ve h.own m i,h.len,fun k a b=>(h.rule k a b).mod m g f,h.few⟩
theorem uh.make{w e:World}{own c:Nat->zn}{wd:Nat}{d:Value}(h:uh lo w own wd d Ws Ps)(m:P6 lo (fI Ws.length) w own e c):uh lo e c wd d Ws Ps:=
 ⟨ve h.arr m (nc (by decide) (by decide)),h.plen,fun k a b=>(h.work k a b).mod m (nc (by decide) (by decide)) (nc (by decide) (by decide)) (wg (by omega) (by omega)) (nc (by decide) (by decide)) (fun i j t f q=>by
  rcases q with q|⟨rfl,_⟩
  ·exact nL (by omega) q
  ·exact f (by decide)),h.few⟩
theorem FH(Ws:List zZ)(Ps:List yT)(h:Ps.length=Ws.length)(W:zZ)(P:yT):kV (Ws++[W]) (Ps++[P])=kV Ws Ps++qM W.rule P:=by
 simp[kV,List.zipWith_append h.symm]
theorem uh.push{w f:World}{own:Nat->zn}{wd:Nat}{l v':Value}{W:zZ}{P:yT}(h:uh lo w own wd l Ws Ps)(p:xV lo w own Ws.length wd W P)(u:Ws.length+1<=1000)(s:f.ownsRow lo 292 8 v' (Ws.length+1) (kV Ws Ps++qM W.rule P))(hs:zd l.ownBlock.toList w f):uh lo f own wd v' (Ws++[W]) (Ps++[P])/\P6 lo (kX [292]) w own f own:=by
 have n:P6 lo (kX [292]) w own f own:=P6.ofSave own hs fun b r=>by
  have d:l.ownBlock=some b:=by simpa using r
  obtain⟨c,x⟩:=qC h.arr d;exact⟨xb h.arr d,yU h.arr d,c,_,x,xO.2 rfl⟩
 have g:∀t,t∉[292]->∀ρ,¬kX [292] t ρ:=fun t i ρ q=>i q;have m:=fun k W P (q:xV lo w own k wd W P)=>q.mod n (g _ (by decide)) (g _ (by decide)) (g _ (by decide) _) (g _ (by decide)) (fun _ _ t i q=>by rw[xO.1 q] at i;exact i (by decide));refine⟨⟨?_,by simp[h.plen],fun k a b=>?_,by simpa using u⟩,n⟩
 ·rw[FH Ws Ps h.plen,yv];exact s
 ·simp only[yv,xd,kE] at a b;by_cases j:k<Ws.length
  ·have e:k<Ps.length:=by rw[h.plen];exact j
   rw[uQ j,uQ e];exact m _ _ _ (h.work k j e)
  ·obtain rfl:k=Ws.length:=by omega
   have v:(Ws++[W])[Ws.length]=W:=by simp
   have o:(Ps++[P])[Ws.length]=P:=by simp[←h.plen]
   rw[v,o];exact m _ _ _ p
theorem kh.push{c:List Nat}{n:Nat}(h:kh c n Ws Ps)(f:Ps.length=Ws.length){W:zZ}{P:yT}(j:gH c n W.rule P.nbs):kh c n (Ws++[W]) (Ps++[P]):=by
 intro k a b;simp only[yv,xd,kE] at a b;by_cases e:k<Ws.length
 ·have d:k<Ps.length:=by rw[f];exact e
  rw[uQ e,uQ d];exact h k e d
 ·obtain rfl:k=Ws.length:=by omega
  have i:(Ws++[W])[Ws.length]=W:=by simp
  have g:(Ps++[P])[Ws.length]=P:=by simp[←f]
  rw[i,g];exact j
def sR(n:Nat)(rs:List zq):Prop:=∀r∈rs,(∀l∈r.qc,l.pred<n)/\∀l∈r.qp,l.pred<n/\l.pred≠r.head.pred
def JY(lo:Nat)(w:World)(own:Nat->zn)(f:Nat)(R:zw)(c:List zZ)(wd mr mx:Nat)(Q:xL)(e:Ending)(b:World):Prop:=∃d a Ps,e=.returned d/\uh lo b a wd d c Ps/\kh Q.tbs R.rows.length c Ps/\zW lo b a f R wd mr mx Q/\P6 lo uH w own b a
theorem GS(w:World)(own:Nat->zn)(rb s:Nat)(R:zw)(rv:Value)(rs:List zq)(ps:List (Value×Value×Value))(X:List zZ)(wd mr mx:Nat)(Q:xL)(j:Nat)(h:zW lo w own rb R wd mr mx Q)(hr:qa lo w rv rs ps)(ax:lo<=w.heap.size)(u:sR R.rows.length rs)(hv:PT j wd R s rs=some X):
  Calls prog 164 #[.pointer (some ⟨rb,0,none⟩),rv,.int .i64 s] w fun e w'=>JY lo w own rb R X wd mr mx Q e w':=by
 obtain⟨i0,hi,aM,aK,aF⟩:=info_parts Pv;have HH:=Px h;have aL:=Px hr;have aP:=Px ax;have aJ:=Px u;have a3:Hid (PT j wd R s (rs.drop 0)=some X):=hv;have aY:=hr.few;obtain⟨bf,aV,aI⟩:=zs hr.own;subst aI;clear h hr ax u hv;go_enter func164,ntmps164;go_upto_region 3 with fail
 go_loopw [7,13] (fun v7 aT wr=>∃m:Nat,m<=rs.length/\aT=.int .i64 m/\∃l rest c Ps,Hid (uh lo wr c wd v7 l Ps)/\Hid (kh Q.tbs R.rows.length l Ps)/\Hid (zW lo wr c rb R wd mr mx Q)/\Hid (P6 lo uH w own wr c)/\Hid (PT j wd R s (rs.drop m)=some rest)/\Hid (l++rest=X)/\Hid (l.length<=m)/\Hid (∀b,v7.ownBlock=some b->w.heap.size<=b)) (fun _ i _=>rs.length-(intOf i).toNat)
 case atStart=>exact⟨0,zx _,rfl,[],X,own,[],⟨yI _ _ _ _,rfl,fun k a=>by simp at a,by simp⟩,(fun k a=>by simp at a),HH,P6.refl _ _,a3,rfl,zf _,fun b z=>by cases z⟩
 case round=>
  clear a3;obtain⟨m,hm,rfl,l,rest,c,Ps,Y,ap,V,J,a4,am,ae,ar⟩:=hrel;have az:=J.out.size;have aa:=zT aP.out az;obtain⟨aO,a0,aB⟩:=zs Y.out.arr;subst aB;by_cases L:m<rs.length
  ·have al:=Px (aL.out.mod J.out (hY (by decide) (by decide)) (hY (by decide) (by decide)) (hY (by decide) (by decide)));have a5:m<ps.length:=by rw[al.out.len];exact L
   obtain⟨g,aR,hg,q0,q1,q2,q3,q4,q5⟩:=al.out.cell m L a5;subst aR;have p:=al.out.rule m L a5;obtain⟨ai,D,aj⟩:=p.head.qx;obtain⟨ac,A,aq⟩:=p.qc.qx;obtain⟨ab,I,af⟩:=p.qp.qx;rw[aj] at q3;rw[aq] at q4;rw[af] at q5;rw[aj,aq,af] at p;have d:=a4.out;rw[xk L] at d;unfold PT at d;have aU:(m:Int)<(rs.length:Int):=by omega
   have u:=aJ.out _ (zv L);clear aj aq af;generalize rs[m]=r at *;by_cases an:r.qh=s
   ·rw[zb an] at d;subst an;obtain⟨vs,n,a2,Z,H⟩:∃vs n,gO j wd R r.qc=some vs/\PT j wd R r.qh (rs.drop (m+1))=some n/\rest=⟨r,vs⟩::n:=by
     split at d
     ·rename_i vs n h1 h2;exact⟨vs,n,h1,h2,by simpa using d.symm⟩
     ·cases d
    have ah:=Px Z;have aE:Hid ((l++[⟨r,vs⟩])++n=X):=show(l++[⟨r,vs⟩])++n=X by rw[←am.out,H];simp
    have aD:Hid (∀W0,Below wr.heap.size wr W0->Calls prog 192 #[.pointer (some ⟨rb,0,none⟩),.agg #[.int .i64 r.qh,.int .i64 r.vars,.int .i64 r.head.pred,.slice ai r.head.qg.length D,.slice ac r.qc.length A,.slice ab r.qp.length I]] W0 fun e w'=>∃F O S M B N E K T U v o f,e=.returned (.agg #[.int .i64 r.qh,.int .i64 r.vars,.int .i64 r.head.pred,.slice F r.head.qg.length O,.slice S r.qc.length M,.slice B r.qp.length N,.slice E vs.length K,.slice T r.qp.length U])/\Hid (xV lo w' f l.length wd ⟨r,vs⟩ ⟨.slice F r.head.qg.length O,.slice S r.qc.length M,.slice B r.qp.length N,.slice E vs.length K,.slice T r.qp.length U,v,o⟩/\gH Q.tbs R.rows.length r o/\P6 lo (fI l.length) W0 c w' f)):=fun W0 z=>by
     refine(FO W0 c rb l.length R r _ _ _ vs wd mr mx Q j (V.out.below z) (p.below z) (zT aa z.size) u.1 u.2 a2).mono ?_;rintro e w' ⟨⟨tv,pv,nv,vv,bg,v,o⟩,f,rfl,x,aQ,aN⟩;obtain⟨F,O,e1⟩:=x.rule.head.qx;obtain⟨S,M,e2⟩:=x.rule.qc.qx;obtain⟨B,N,e3⟩:=x.rule.qp.qx;obtain⟨E,K,e4⟩:=zs x.qm;obtain⟨T,U,e5⟩:=zs x.qp;dsimp only at e1 e2 e3 e4 e5;subst e1 e2 e3 e4 e5;exact⟨F,O,S,M,B,N,E,K,T,U,v,o,f,rfl,x,aQ,aN⟩
    have C:Below wr.heap.size wr (wr.alloc (.cells #[.int .i64 r.qh,.int .i64 r.vars,.int .i64 r.head.pred,.slice ai r.head.qg.length D,.slice ac r.qc.length A,.slice ab r.qp.length I] 207)):=(by go_grown);have y:=Px C;have bc:l.length<=999:=by have:=ae.out;omega
    clear d p C u H Z a2;go_upto_region 7 with (first|(go_at_call 192;refine(aD.out _ y.out).mono ?_;rintro e w5 ⟨F,O,S,M,B,N,E,K,T,U,v,o,f,rfl,HX⟩))
    have ad:Below w5.heap.size w5 (w5.alloc (.cells #[.int .i64 r.qh,.int .i64 r.vars,.int .i64 r.head.pred,.slice F r.head.qg.length O,.slice S r.qc.length M,.slice B r.qp.length N,.slice E vs.length K,.slice T r.qp.length U] 292)):=(by go_grown);have a1:=Py.new w5 #[.int .i64 r.qh,.int .i64 r.vars,.int .i64 r.head.pred,.slice F r.head.qg.length O,.slice S r.qc.length M,.slice B r.qp.length N,.slice E vs.length K,.slice T r.qp.length U] 292;have au:=(P6.of c y.out).trans HX.out.2.2;have G:=Px (au.trans (P6.of f ad));have aC:=Px (HX.out.1.mod (P6.of (ok:=fun _ _=>False) f ad) (fun _=>id) (fun _=>id) id (fun _=>id) (fun _ _ _ _=>id));clear au ad;obtain⟨be,aZ,ba⟩:=a1.boxed;generalize aS:w5.alloc (.cells #[.int .i64 r.qh,.int .i64 r.vars,.int .i64 r.head.pred,.slice F r.head.qg.length O,.slice S r.qc.length M,.slice B r.qp.length N,.slice E vs.length K,.slice T r.qp.length U] 292)=W6 at *;clear aS a1;have ag:=Px (Y.out.make G.out);have ak:=ag.out.arr;generalize w5.heap.size=bb at *;have aX:=zT aa G.out.size;go_wp2_with (first|(at_builtin;refine dO W6 _ [.int .i64 r.qh,.int .i64 r.vars,.int .i64 r.head.pred,.slice F r.head.qg.length O,.slice S r.qc.length M,.slice B r.qp.length N,.slice E vs.length K,.slice T r.qp.length U] _ rfl (.tmp 24) (.tmp 26) 265 rfl lo 292 i0 _ 8 144 underlying265 hi aM aK aF rfl (by decide) (.slice aO l.length a0) l.length (kV l Ps) rfl ak (by exact(by go_grown)) _ _ rfl (by simp) rfl (by simp[Value.oneCell']) (by omega) (by omega) (by omega) ?_;intro v' w7 ao aw a8;obtain⟨aW,aA,a9⟩:=zs ao;subst a9;have a6:Hid (zd _ W6 w7):=aw;have aH:Hid (_∨_):=a8;have aG:Hid (World.ownsRow w7 lo 292 8 _ _ _):=ao;clear aw a8 ao))
    have av:=ag.out.push (W:=⟨r,vs⟩) (P:=⟨.slice F r.head.qg.length O,.slice S r.qc.length M,.slice B r.qp.length N,.slice E vs.length K,.slice T r.qp.length U,v,o⟩) aC.out (by omega) aG.out a6.out;have a7:=(V.out.make G.out).mod av.2 (ke (by decide)) (ke (by decide)) (ke (by decide)) (fun _=>ke (by decide) _) (fun _ t ht q=>by rw[xO.1 q] at ht;exact ht (by decide));have ay:=(J.out.trans (G.out.more fun _ _ q=>Ir q)).newer a6.out fun b z=>ar.out b (by simpa using z);have bh:=G.out.size;exact⟨⟨m+1,by omega,by go_num,l++[(⟨r,vs⟩:zZ)],n,f,Ps++[(⟨.slice F r.head.qg.length O,.slice S r.qc.length M,.slice B r.qp.length N,.slice E vs.length K,.slice T r.qp.length U,v,o⟩:yT)],av.1,ap.out.push ag.out.plen HX.out.2.1,a7,ay,ah,aE,show(l++[(⟨r,vs⟩:zZ)]).length<=m+1 by have:=ae.out;simp;omega,fun b z=>by
     rcases aH.out with e|⟨g',e,bd⟩
     ·rw[e] at z;exact ar.out b z
     ·rw[e] at z;simp at z;omega⟩,by simp[intOf];omega⟩
   ·rw[za an] at d;have ah:=Px d;have bi:¬(r.qh:Int)=(s:Int):=by omega
    have C:Below wr.heap.size wr (wr.alloc (.cells #[.int .i64 r.qh,.int .i64 r.vars,.int .i64 r.head.pred,.slice ai r.head.qg.length D,.slice ac r.qc.length A,.slice ab r.qp.length I] 207)):=(by go_grown);have y:Hid (Below wr.heap.size wr _):=C;clear d p C u;go_wp2;exact⟨⟨m+1,by omega,by go_num,l,rest,c,Ps,Y.out.below y.out,ap,V.out.below y.out,J.out.trans (P6.of c y.out),ah,am,Nat.le_succ_of_le ae.out,ar⟩,by simp[intOf];omega⟩
  ·obtain rfl:m=rs.length:=by omega
   have d:=a4.out;rw[List.drop_length] at d;simp only[PT,zr] at d;have HE:Hid (l=X):=show l=X by rw[←am.out,←d];simp
   clear d;go_wp2;go_ret;exact⟨_,c,Ps,rfl,by rw[←HE.out];exact Y.out,by rw[←HE.out];exact ap.out,V.out,J.out⟩
end
section
open Go.Proofs.Tryz
variable {lo:Nat}
def Lt(lo:Nat)(w:World)(own:Nat->zn)(g:Nat)(R R':zw)(wd mr mx:Nat)(Q:xL)(b:Bool)(e:Ending)(f:World):Prop:=e=.returned (.bool b)/\∃a d c,zW lo f a g R' wd mr mx ⟨Q.rv,Q.tbs,d,c⟩/\R'.rows.length=R.rows.length/\P6 lo uH w own f a
theorem Io(w:World)(own:Nat->zn)(M s:Nat)(R R':zw)(rv:Value)(rs:List zq)(ps:List (Value×Value×Value))(wd mr mx:Nat)(Q:xL)(g:Nat)(b:Bool)(h:zW lo w own M R wd mr mx Q)(hr:qa lo w rv rs ps)(I:lo<=w.heap.size)(ab:sR R.rows.length rs)(c:mZ g wd mr mx rs R s=some (R',b)):
  Calls prog 122 #[.pointer (some ⟨M,0,none⟩),rv,.int .i64 s] w fun e w'=>Lt lo w own M R R' wd mr mx Q b e w':=by
 unfold mZ at c;cases y:PT g wd R s rs with
 |none=>rw[y] at c;cases c
 |some K=>
  rw[y] at c;have ad:=Px (GS w own M s R rv rs ps K wd mr mx Q g h hr I ab y);have ai:=Px I;have am:=h.small;obtain⟨an,aj,ae⟩:=zs hr.own;subst ae;have N:Hid (if decide (0<K.length)=true then kF wd mr mx g true K R=some (R',b) else(R=R'/\true=b)):=by
   by_cases hz:K.length>0
   ·rw[Hid,zb (by simpa using hz)];simpa [hz] using c
   ·rw[Hid,za (by simpa using hz)];simpa [hz] using c
  clear h hr I ab y c;go_enter func122,ntmps122;go_upto_region 4 with (first|(go_at_call 164;refine ad.out.mono ?_;rintro e w2 ⟨wv,Y,Ps,rfl,E,V,X,T⟩;obtain⟨ah,W,ac⟩:=zs E.arr;subst ac;have B:=Px E;have z:=Px V;have i:=Px X;have f:=Px T;clear E V X T))
  go_loopg [8,9] g (fun k v8 v9 wr=>∃(first more:Bool) (d:zw) (a:Nat->zn) (v:Value) (C:List Value) (F:List zZ) (Pk:List yT),v8=.bool first/\v9=.bool more/\Hid (zW lo wr a M d wd mr mx ⟨Q.rv,Q.tbs,v,C⟩)/\Hid (uh lo wr a wd (.slice ah K.length W) F Pk)/\Hid (kh Q.tbs R.rows.length F Pk)/\Hid (P6 lo uH w own wr a)/\Hid (d.rows.length=R.rows.length)/\Hid (if more=true then kF wd mr mx k first F d=some (R',b) else(d=R'/\true=b)))
  case atStart=>
   exact⟨true,decide (0<K.length),R,Y,Q.fv,Q.fvs,K,Ps,rfl,rfl,i,B,z,f,rfl,N⟩
  case round=>
   clear B z i f N;obtain⟨first,more,d,a,v,C,F,Pk,rfl,rfl,i,B,z,f,o,N⟩:=hrel;cases more with
   |false=>
    have c:d=R'/\true=b:=by simpa using N.out
    have n:=Px c;clear c;go_wp2;go_ret;exact⟨by rw[←n.out.2];rfl,a,v,C,by rw[←n.out.1];exact i.out,by rw[←n.out.1];exact o.out,f.out⟩
   |true=>
    have c:kF wd mr mx gk first F d=some (R',b):=by simpa using N.out
    clear N;cases gk with
    |zero=>simp[kF] at c
    |succ m=>
     unfold kF at c;obtain⟨hl,hf,h0,h1,h2,h3,h4,h5,h6,h7⟩:=i.out.at;have Z:=zT ai.out f.out.size;clear h0 h3 h4 h5 h7;by_cases aa:d.qw≥mx
     ·rw[zb aa] at c;have n:=Px (show d=R'/\false=b by simpa using c);have af:(mx:Int)<=(d.qw:Int):=by omega
      clear c;go_upto_region 5 with fail
      go_quiet (fail)
      have L:Below wr.heap.size wr (wr.drewN nq):=zL (zo _ _) nq;have H:=Px L;clear L;generalize wr.drewN nq=w3 at *;go_wp2;go_ret;exact⟨by rw[←n.out.2];rfl,a,v,C,by rw[←n.out.1];exact i.out.below H.out,by rw[←n.out.1];exact o.out,f.out.trans (P6.of a H.out)⟩
     ·rw[za aa] at c;have af:¬(mx:Int)<=(d.qw:Int):=by omega
      cases t:ni m wd mr first F d with
      |none=>rw[t] at c;cases c
      |some x=>
       obtain⟨p,A,b3⟩:=x;rw[t] at c;have S:=Px fun W0 hb=>N7 W0 a M _ d p F A Pk wd mr mx _ m first b3 (i.out.below hb) (B.out.below hb) (by rw[o.out];exact z.out) (zT Z hb.size) (by omega) t
       clear t;have D:Hid ((b3=false->p=R'/\false=b)/\(b3=true->(if p.count>d.count then kF wd mr mx m false A p else some (p,true))=some (R',b))):=⟨fun e=>by subst e;simpa using c,fun e=>by subst e;exact c⟩;clear c;go_upto_region 5 with fail
       go_quiet (fail)
       have L:Below wr.heap.size wr (wr.drewN nq):=zL (zo _ _) nq;have x1:=zm L hl h1;have H:=Px L;have al:=xG hl L.size;clear L;generalize wr.drewN nq=w3 at *;clear h1 h2 h6 hf hl;cases b3 with
       |false=>
        have n:=Px (D.out.1 rfl);go_wp2_with (first|(go_at_call 165;refine(S.out _ H.out).mono ?_;rintro e w4 ⟨rfl,l,u,j,O,r,U,P,G,J⟩))
        go_ret;exact⟨by rw[←n.out.2];rfl,l,u,j,by rw[←n.out.1];exact r,by rw[←n.out.1];exact G.trans o.out,(f.out.trans (P6.of a H.out)).trans J⟩
       |true=>
        have n:Hid (if decide (d.count<p.count)=true then kF wd mr mx m false A p=some (R',b) else(p=R'/\true=b)):=by
         have q:=D.out.2 rfl;by_cases hc:p.count>d.count
         ·rw[Hid,zb (by simpa using hc)];simpa [hc] using q
         ·rw[Hid,za (by simpa using hc)];simpa [hc] using q
        clear D;go_wp2_with (first|(go_at_call 165;refine(S.out _ H.out).mono ?_;rintro e w4 ⟨rfl,l,u,j,O,r,U,P,G,J⟩;obtain⟨ak,_,_,y1,_⟩:=r.at;have ag:Hid (zW lo w4 l M p wd mr mx ⟨Q.rv,Q.tbs,u,j⟩):=r;clear r))
        go_roundg m
        case measure=>omega
        case rel=>exact⟨false,decide (d.count<p.count),p,l,u,j,A,O,rfl,by simp,ag,U,by rw[←o.out];exact P,(f.out.trans (P6.of a H.out)).trans J,G.trans o.out,n⟩
end
section
open Go.Proofs.Tryz
variable {lo:Nat}{w0 w:World}{own0:Nat->zn}{t8 wd mr mx:Nat}{ar tbs:List Nat}
structure fo (lo:Nat) (w0 w:World) (own0 own:Nat->zn) (t8 g n wd mr mx:Nat) (ar:List Nat) (tbs:List Nat):Prop where
 low:w0.heap.size<=t8
 lowg:w0.heap.size<=g
 ne:t8≠g
 box:Py w t8 #[.slice (some ⟨g,0,none⟩) n n,.int .i64 0,.int .i64 0,.int .i64 0,.int .i64 wd,.int .i64 mr,.int .i64 mx,.slice none 0 0] 214
 rows:w.ownsRow lo 162 1 (.slice (some ⟨g,0,none⟩) n n) n (PH tbs++List.replicate (n-tbs.length) (.pointer none))
 tries:∀i (_:i<ar.length) (_:i<tbs.length),yO lo w own (0,i,0) tbs[i] (yR wd ar[i])
 mod:P6 lo uH w0 own0 w own
def oY:TypeId->zn->Prop:=fun _ _=>False
theorem fo.step{d:World}{own c:Nat->zn}{g n:Nat}(h:fo lo w0 w own0 own t8 g n wd mr mx ar tbs)(m:P6 lo oY w own d c):fo lo w0 d own0 c t8 g n wd mr mx ar tbs:=
 ⟨h.low,h.lowg,h.ne,h.box.mod m id,ve h.rows m (fun _=>id),fun i a b=>(h.tries i a b).mod m (fun _ _=>id),h.mod.trans (m.more fun _ _ q=>q.elim)⟩
theorem fo.push{d:World}{own:Nat->zn}{g n tb:Nat}{fp:List Nat}(h:fo lo w0 w own0 own t8 g n wd mr mx ar tbs)(m:lo<=w.heap.size)(x:tbs.length<n)(v:zY w.heap.size d tb (yR wd (ar.getD tbs.length 0)) fp)(j:Below w.heap.size w d):
  fo lo w0 (d.setCell ⟨g,tbs.length,none⟩ (.pointer (some ⟨tb,0,none⟩))) own0 (ext own w.heap.size (0,tbs.length,0)) t8 g n wd mr mx ar (tbs++[tb]):=by
 have t:=P6.extNew (lo:=lo) (ok:=oY) own (0,tbs.length,0) j;have c:=h.step t;have f:zd [g] d (d.setCell ⟨g,tbs.length,none⟩ (.pointer (some ⟨tb,0,none⟩))):=zd.set _ _ _ _;obtain⟨y,o⟩:=qC c.rows rfl;have l:=PN.box o;refine⟨h.low,h.lowg,h.ne,c.box.saveT f l (by decide),?_,fun i a b=>?_,c.mod.newer f fun b j=>by simp at j;rw[j];exact h.lowg⟩
 ·have q:=uI c.rows tbs.length (by simp[PH];omega) (.pointer (some ⟨tb,0,none⟩));have e:(PH tbs++List.replicate (n-tbs.length) (Value.pointer none)).set tbs.length (.pointer (some ⟨tb,0,none⟩))=PH (tbs++[tb])++List.replicate (n-(tbs++[tb]).length) (Value.pointer none):=by
   obtain⟨k,r⟩:∃k,n-tbs.length=k+1:=⟨n-tbs.length-1,by omega⟩;rw[List.set_append,za (by simp[PH]),r,pS];have u:n-(tbs++[tb]).length=k:=by simp;omega
   rw[u];simp[PH,pt]
  rw[e] at q;exact q
 ·simp only[yv,xd,kE] at b;by_cases p:i<tbs.length
  ·rw[uQ p];exact(c.tries i a p).saveT f l (by decide)
  ·obtain rfl:i=tbs.length:=by omega
   have s:(tbs++[tb])[tbs.length]=tb:=by simp
   rw[s];have q:=v.new own (0,tbs.length,0) m;rw[show ar.getD tbs.length 0=ar[tbs.length] by simp[List.getD,a]] at q;exact q.saveT f l (by decide)
theorem fo.done{own:Nat->zn}{g:Nat}(h:fo lo w0 w own0 own t8 g ar.length wd mr mx ar tbs)(e:lo<=w0.heap.size)(c:tbs.length=ar.length)(hs:ar.length<=1000)(d:wd<=1000/\mr<=1048576/\mx<=1048576):zW lo w own t8 ⟨ar.map (yR wd),0,0,0,[]⟩ wd mr mx ⟨.slice (some ⟨g,0,none⟩) ar.length ar.length,tbs,.slice none 0 0,[]⟩:=by
 refine⟨zT e h.low,h.box,?_,by simp[c],fun p a b=>?_,yI _ _ _ _,rfl,fun p a=>by simp at a,⟨by simpa using hs,by simp,by simp,by simp⟩,d⟩
 ·have q:=h.rows;rw[c,jH] at q;simpa using q
 ·simp only[uJ] at a;simp only[vm];exact h.tries p a b
def OH(lo:Nat)(w:World)(own:Nat->zn)(wd mr mx:Nat)(c:Option zw)(e:Ending)(b:World):Prop:=match c with
 |none=>e=.returned (.tuple #[.agg #[.slice none 0 0,.int .i64 0,.int .i64 0,.int .i64 0],.bool false])/\∃a,P6 lo uH w own b a
 |some R=>∃a d Q,e=.returned (.tuple #[.agg #[Q.rv,.int .i64 R.count,.int .i64 R.qw,.int .i64 R.jf],.bool true])/\zW lo b a d R wd mr mx Q/\P6 lo uH w own b a
def kl:Nat->zn:=fun _=>(0,0,7)
theorem Rj(w:World)(S:qJ)(ps:List (Value×Value×Value))(av fv rv:Value)(mr mx F:Nat)(V:Option zw)(h:kO lo w av fv rv S ps)(aU:lo<=w.heap.size)(bo:sR S.qj.length S.rules)(bE:S.qj.length<=1000)(a7:∀a∈S.qj,a<=100000000)(M:∀f∈S.facts,f.row.length=3)(bR:S.facts.length<=1000000)(bb:S.qf<=1000/\mr<=1048576/\mx<=1048576)(hr:lJ F S mr mx=some V):
  Calls prog 74 #[.agg #[.int .i64 S.qf,av,fv,rv],.int .i64 mr,.int .i64 mx] w fun e w'=>OH lo w kl S.qf mr mx V e w':=by
 obtain⟨i0,hi,bD,b7,bz⟩:=info_parts OK;have HS:=Px h;have ad:=Px aU;have b6:=Px bo;have b9:=Px a7;have bs:=Px M;have HR:=Px hr;obtain⟨u,d,bB⟩:=zs h.ari;obtain⟨H,l,b8⟩:=zs h.fac;obtain⟨D,j,b5⟩:=zs h.rul.own;subst bB b8 b5;have bQ:=h.rul.few;have aY:=fun W0:World=>run_make (P:=prog) (w:=W0) 150 162 i0 _ underlying150 hi bD .i64 .i64 (S.qj.length:Int) (S.qj.length:Int) (by omega) (Int.le_refl _) (by rw[bz];omega) (by omega);rw[b7] at aY;clear h aU bo a7 M hr;go_enter func74,ntmps74;go_upto_region 4 with fail
 have bn:Below w.heap.size w ((((w.alloc (.cells #[.int .i64 S.qf,.slice u S.qj.length d,.slice H S.facts.length l,.slice D S.rules.length j] 146)).alloc (.cells #[.slice none 0 0,.int .i64 0,.int .i64 0,.int .i64 0] 152)).alloc (.cells #[.slice (some ⟨w.heap.size+1+1+1,0,none⟩) S.qj.length S.qj.length,.int .i64 0,.int .i64 0,.int .i64 0,.int .i64 S.qf,.int .i64 mr,.int .i64 mx,.slice none 0 0] 214)).alloc (.cells (madeCells #[.pointer none] S.qj.length) 162)):=(by go_grown);have bm:=(((Py.new w #[.int .i64 S.qf,.slice u S.qj.length d,.slice H S.facts.length l,.slice D S.rules.length j] 146).up (.cells #[.slice none 0 0,.int .i64 0,.int .i64 0,.int .i64 0] 152)).up (.cells #[.slice (some ⟨w.heap.size+1+1+1,0,none⟩) S.qj.length S.qj.length,.int .i64 0,.int .i64 0,.int .i64 0,.int .i64 S.qf,.int .i64 mr,.int .i64 mx,.slice none 0 0] 214)).up (.cells (madeCells #[.pointer none] S.qj.length) 162);have ba:=(((Py.new (w.alloc (.cells #[.int .i64 S.qf,.slice u S.qj.length d,.slice H S.facts.length l,.slice D S.rules.length j] 146)) #[.slice none 0 0,.int .i64 0,.int .i64 0,.int .i64 0] 152).up (.cells #[.slice (some ⟨w.heap.size+1+1+1,0,none⟩) S.qj.length S.qj.length,.int .i64 0,.int .i64 0,.int .i64 0,.int .i64 S.qf,.int .i64 mr,.int .i64 mx,.slice none 0 0] 214)).up (.cells (madeCells #[.pointer none] S.qj.length) 162)).at' (b':=w.heap.size+1) (by simp);have be:=((Py.new ((w.alloc (.cells #[.int .i64 S.qf,.slice u S.qj.length d,.slice H S.facts.length l,.slice D S.rules.length j] 146)).alloc (.cells #[.slice none 0 0,.int .i64 0,.int .i64 0,.int .i64 0] 152)) #[.slice (some ⟨w.heap.size+1+1+1,0,none⟩) S.qj.length S.qj.length,.int .i64 0,.int .i64 0,.int .i64 0,.int .i64 S.qf,.int .i64 mr,.int .i64 mx,.slice none 0 0] 214).up (.cells (madeCells #[.pointer none] S.qj.length) 162)).at' (b':=w.heap.size+1+1) (by simp);have ab:=sI (((w.alloc (.cells #[.int .i64 S.qf,.slice u S.qj.length d,.slice H S.facts.length l,.slice D S.rules.length j] 146)).alloc (.cells #[.slice none 0 0,.int .i64 0,.int .i64 0,.int .i64 0] 152)).alloc (.cells #[.slice (some ⟨w.heap.size+1+1+1,0,none⟩) S.qj.length S.qj.length,.int .i64 0,.int .i64 0,.int .i64 0,.int .i64 S.qf,.int .i64 mr,.int .i64 mx,.slice none 0 0] 214)) S.qj.length 162 (.pointer none) (by unfold maxLen;omega);have bd:(((w.alloc (.cells #[.int .i64 S.qf,.slice u S.qj.length d,.slice H S.facts.length l,.slice D S.rules.length j] 146)).alloc (.cells #[.slice none 0 0,.int .i64 0,.int .i64 0,.int .i64 0] 152)).alloc (.cells #[.slice (some ⟨w.heap.size+1+1+1,0,none⟩) S.qj.length S.qj.length,.int .i64 0,.int .i64 0,.int .i64 0,.int .i64 S.qf,.int .i64 mr,.int .i64 mx,.slice none 0 0] 214)).heap.size=w.heap.size+1+1+1:=by simp
 rw[bd] at ab;have aw:Hid (fo lo w ((((w.alloc (.cells #[.int .i64 S.qf,.slice u S.qj.length d,.slice H S.facts.length l,.slice D S.rules.length j] 146)).alloc (.cells #[.slice none 0 0,.int .i64 0,.int .i64 0,.int .i64 0] 152)).alloc (.cells #[.slice (some ⟨w.heap.size+1+1+1,0,none⟩) S.qj.length S.qj.length,.int .i64 0,.int .i64 0,.int .i64 0,.int .i64 S.qf,.int .i64 mr,.int .i64 mx,.slice none 0 0] 214)).alloc (.cells (madeCells #[.pointer none] S.qj.length) 162)) kl kl (w.heap.size+1+1) (w.heap.size+1+1+1) S.qj.length S.qf mr mx S.qj []):=⟨by omega,by omega,by omega,be,yq ab (by have:=ad.out;omega),(fun i a b=>by simp at b),P6.of kl bn⟩;have s:=Px bm;have A:=Px ba;clear bn bm ba be ab bd aY;generalize ((((w.alloc (.cells #[.int .i64 S.qf,.slice u S.qj.length d,.slice H S.facts.length l,.slice D S.rules.length j] 146)).alloc (.cells #[.slice none 0 0,.int .i64 0,.int .i64 0,.int .i64 0] 152)).alloc (.cells #[.slice (some ⟨w.heap.size+1+1+1,0,none⟩) S.qj.length S.qj.length,.int .i64 0,.int .i64 0,.int .i64 0,.int .i64 S.qf,.int .i64 mr,.int .i64 mx,.slice none 0 0] 214)).alloc (.cells (madeCells #[.pointer none] S.qj.length) 162))=w1 at *;generalize hg:w.heap.size+1+1+1=g at *;generalize h8:w.heap.size+1+1=t8 at *;generalize h6:w.heap.size+1=t6 at *;have bJ:t6≠t8:=by omega
 have bL:w.heap.size<t6:=by omega
 have bO:t8<g:=by omega
 have bN:t6<g:=by omega
 clear hg h8 h6;go_loopw [28] (fun bt wr=>∃m:Nat,m<=S.qj.length/\bt=.int .i64 m/\∃k tbs,Hid (fo lo w wr kl k t8 g S.qj.length S.qf mr mx S.qj tbs)/\Hid (tbs.length=m)/\Hid (Py wr w.heap.size #[.int .i64 S.qf,.slice u S.qj.length d,.slice H S.facts.length l,.slice D S.rules.length j] 146)/\Hid (Py wr t6 #[.slice none 0 0,.int .i64 0,.int .i64 0,.int .i64 0] 152)) (fun i _=>S.qj.length-(intOf i).toNat)
 case atStart=>exact⟨0,zx _,rfl,kl,[],aw,rfl,s,A⟩
 case round=>
  clear aw s A;obtain⟨m,hm,rfl,k,tbs,T,aD,s,A⟩:=hrel;have K:=T.out.mod.size;have G:=zT ad.out K;by_cases N:m<S.qj.length
  ·have a5:wr.ownsRow lo 3 1 (.slice u S.qj.length d) S.qj.length (S.qj.map Qb):=pE HS.out.ari T.out.mod (fun b _ q=>by
    rcases q with q|q
    ·exact q.2 rfl
    ·revert q;decide)
   obtain⟨ga,bI,X,_,bP,bq⟩:=yC a5 (by omega);simp only[Value.slice.injEq] at X;have aG:=X.1;clear X;subst aG;have q0:=bq m (.int .i64 (S.qj[m]:Nat)) (by simp[N,Qb]);have bu:S.qj[m]<=100000000:=b9.out _ (zv _);obtain⟨aT,aV,bh⟩:=T.out.box.boxed;obtain⟨R,M,Z⟩:=s.out.boxed;have a2:(m:Int)<(S.qj.length:Int):=by omega
   have HN:Hid (∀W0,Below wr.heap.size wr W0->Calls prog 119 #[.int .i64 S.qf,.int .i64 (S.qj[m]:Nat)] W0 fun e w'=>∃tb,e=.returned (.pointer (some ⟨tb,0,none⟩))/\w'.cell? ⟨t8,0,none⟩=some (.slice (some ⟨g,0,none⟩) S.qj.length S.qj.length)/\w'.cell? ⟨w.heap.size,0,none⟩=some (.int .i64 S.qf)/\w'.cell? ⟨g,m,none⟩=some (.pointer none)/\(∀o,w'.frozen? ⟨g,o,none⟩=false)/\g<w'.heap.size/\Hid (Below wr.heap.size wr w'/\∃al,fo lo w (w'.setCell ⟨g,m,none⟩ (.pointer (some ⟨tb,0,none⟩))) kl al t8 g S.qj.length S.qf mr mx S.qj (tbs++[tb]))):=fun W0 Y=>by
    refine(iu W0 S.qf S.qj[m] bb.1 bu).mono ?_;rintro e w' ⟨tb,fp,rfl,ht,aO⟩;have hB:=P3 Y aO;have h0:=T.out.step (P6.of k Y);have h1:=T.out.step (P6.of k hB);have aF:=aD.out;have hp:=h0.push (tb:=tb) (fp:=fp) (zT G Y.size) (by omega) (by rw[aF,show S.qj.getD m 0=S.qj[m] by simp[List.getD,N]];exact ht) aO;rw[aF] at hp;refine⟨tb,rfl,h1.box.rules.1 0,(hB.cell Z).trans (R 0),?_,qF h1.rows,yU h1.rows rfl,hB,_,hp⟩;obtain⟨g',bK,aP,_,_,bv⟩:=yC h1.rows (by omega);simp only[Value.slice.injEq,zr,Addr.mk.injEq,and_true] at aP;have e:=aP.1;subst e;refine bv m _ ?_;rw[gU (by simp[PH,aF]),List.getElem?_replicate,zb (by simp only[PH,uJ];omega)]
   have x8:wr.cell? ⟨t8,0,none⟩=some (.slice (some ⟨g,0,none⟩) S.qj.length S.qj.length):=aT 0;have x3:wr.cell? ⟨w.heap.size,0,none⟩=some (.int .i64 S.qf):=R 0;clear aT R bq a5;generalize S.qj[m]=am at *;go_upto_region 6 with fail
   go_region_held3 (fun w'=>w'.cell? ⟨t8,0,none⟩=some (.slice (some ⟨g,0,none⟩) S.qj.length S.qj.length)/\w'.cell? ⟨w.heap.size,0,none⟩=some (.int .i64 S.qf)) (first|go_keep|(go_simp;done)) (first|(go_at_call 119;refine(HN.out _ (by exact(zL (zo _ _) 1))).mono ?_;rintro e w2 ⟨tb,rfl,y8,y3,yg,yf,yl,HX⟩))
   have aB:=HX.out.1;obtain⟨al,aX⟩:=HX.out.2;have bH:=Px aX;have bp:Hid (Py (w2.setCell ⟨g,m,none⟩ (.pointer (some ⟨tb,0,none⟩))) w.heap.size _ 146):=(s.out.below aB).set_ne (by omega) _ _;have br:Hid (Py (w2.setCell ⟨g,m,none⟩ (.pointer (some ⟨tb,0,none⟩))) t6 _ 152):=(A.out.below aB).set_ne (by omega) _ _;clear aB aX HX y8 y3 yg yf yl HN x8 x3 aV bh M Z q0;generalize w2.setCell ⟨g,m,none⟩ (.pointer (some ⟨tb,0,none⟩))=W3 at *;go_wp2;exact⟨⟨m+1,by omega,by go_num,al,tbs++[tb],bH,show(tbs++[tb]).length=m+1 by simp[aD.out],bp,br⟩,by simp[intOf];omega⟩
  ·obtain rfl:m=S.qj.length:=by omega
   have ax:=Px (T.out.done ad.out aD.out bE bb);have a8:=Px T.out.mod;have bg:=Px (Q5 wr k t8 _ S.qf mr mx _ ax.out G);clear T N hm;go_upto_region 9 with (first|(go_at_call 120;refine bg.out.mono ?_;rintro e w2 ⟨rfl,aL,a1,aZ,aq⟩))
   have ah:=Px (s.out.mod aq (ke (by decide) _));have az:Hid (Py w2 t6 _ 152):=A.out.mod aq (ke (by decide) _);have a4:Hid (zW lo w2 k t8 (dP S) S.qf mr mx ⟨.slice (some ⟨g,0,none⟩) S.qj.length S.qj.length,tbs,aL,a1⟩):=aZ;have ay:=Px (a8.out.trans (aq.more fun _ _ q=>EI q));clear s A ax a8 bg aZ aq K G;obtain⟨R1,b1,hF,hE⟩:∃R1 b1,kj mr S.facts (dP S)=some (R1,b1)/\(b1=false/\V=none∨b1=true/\∃R2 b2,jX F S.qf mr mx S.rules S.qj.length 0 R1=some (R2,b2)/\V=if b2 then some R2 else none):=by
    have hr:=HR.out;unfold lJ at hr;split at hr
    ·cases hr
    ·rename_i R1 hA;simp at hr;exact⟨R1,false,hA,zg ⟨rfl,hr.symm⟩⟩
    ·rename_i R1 hA;rw[vE] at hr;obtain⟨⟨R2,b2⟩,h1,h2⟩:=hr;exact⟨R1,true,hA,ze ⟨rfl,R2,b2,h1,h2.symm⟩⟩
   have HE:=Px hE;have aJ:Hid (kj mr (S.facts.drop 0) (dP S)=some (R1,b1)):=hF;clear hE hF;obtain⟨R,M,Z⟩:=ah.out.boxed;go_upto_region 10 with fail
   clear R M Z;generalize bC:w2=w5 at *;clear bC;have aM:=Px (show(dP S).rows.length=S.qj.length by simp[dP,vX]);go_loopw [47] (fun b0 wr=>∃m:Nat,m<=S.facts.length/\b0=.int .i64 m/\∃Rk k ac ao,Hid (zW lo wr k t8 Rk S.qf mr mx ⟨.slice (some ⟨g,0,none⟩) S.qj.length S.qj.length,tbs,ac,ao⟩)/\Hid (P6 lo uH w kl wr k)/\Hid (Rk.rows.length=S.qj.length)/\Hid (Py wr w.heap.size #[.int .i64 S.qf,.slice u S.qj.length d,.slice H S.facts.length l,.slice D S.rules.length j] 146)/\Hid (Py wr t6 #[.slice none 0 0,.int .i64 0,.int .i64 0,.int .i64 0] 152)/\Hid (kj mr (S.facts.drop m) Rk=some (R1,b1))) (fun i _=>S.facts.length-(intOf i).toNat)
   case atStart=>exact⟨0,zx _,rfl,dP S,k,aL,a1,a4,ay,aM,ah,az,aJ⟩
   case round=>
    clear a4 ay aM ah az aJ;obtain⟨m,hm,rfl,Rk,W,ac,ao,aa,L,ae,s,A,aH⟩:=hrel;have K:=L.out.size;have G:=zT ad.out K;by_cases N:m<S.facts.length
    ·have a3:=ve HS.out.fac L.out (hY (by decide) (by decide));obtain⟨gf,bF,X,_,bS,ai⟩:=yC a3 (by omega);simp only[Value.slice.injEq] at X;have aG:=X.1;clear X;subst aG;obtain⟨k0,k1,k2,k3⟩:=AE S.facts m N;have q0:=ai _ _ k0;have q1:=ai _ _ k1;have q2:=ai _ _ k2;have q3:=ai _ _ k3;have n:=aH.out;rw[xk N] at n;unfold kj at n;have h3:=bs.out _ (zv N);obtain⟨x,y,z,a0⟩:∃x y z,S.facts[m].row=[x,y,z]:=by
      match ab:S.facts[m].row,h3 with
      |[x,y,z],_=>exact⟨x,y,z,rfl⟩
     rw[a0] at q1 q2 q3 n;simp only[List.getD_cons_zero,List.getD_cons_succ] at q1 q2 q3;have a2:(m:Int)<(S.facts.length:Int):=by omega
     clear h3 k0 k1 k2 k3 ai a3 a0;generalize S.facts[m].pred=p at *;cases ha:jr mr Rk p [x,y,z] with
     |none=>rw[ha] at n;cases n
     |some ar=>
      obtain⟨R3,b3⟩:=ar;rw[ha] at n;have bw:=Px ((eS ha).trans ae.out);have bc:=Px fun W0 Y=>B3 W0 W t8 Rk R3 S.qf mr mx _ p x y z b3 (aa.out.below Y) (zT G Y.size) ha;have aI:Below wr.heap.size wr (wr.alloc (.cells #[.int .i64 p,.int .i64 x,.int .i64 y,.int .i64 z] 210)):=(by go_grown);have aE:=Px aI;have an:Hid (∀O c,P6 lo (fx p) (wr.alloc (.cells #[.int .i64 p,.int .i64 x,.int .i64 y,.int .i64 z] 210)) W O c->P6 lo uH w kl O c/\Py O w.heap.size #[.int .i64 S.qf,.slice u S.qj.length d,.slice (some ⟨gf,0,none⟩) S.facts.length l,.slice D S.rules.length j] 146/\Py O t6 #[.slice none 0 0,.int .i64 0,.int .i64 0,.int .i64 0] 152):=fun O c C=>by
       have aC:P6 lo (jQ p) wr W O c:=(P6.of W aE.out).trans (C.more fun _ _ q=>zg q);exact⟨L.out.trans (aC.more fun _ _ q=>i9 q),s.out.mod aC (mm (by decide) (by decide) _),A.out.mod aC (mm (by decide) (by decide) _)⟩
      clear ha aI;cases b3 with
      |false=>
       simp only[zr,yc] at n;have HQ:=Px n.2;clear n;go_wp2_with (first|(go_at_call 121;refine(bc.out _ aE.out).mono ?_;rintro e O ⟨rfl,c,Q,U,C⟩;obtain⟨J,_,I⟩:=an.out _ _ C;obtain⟨ag,bi,aA⟩:=I.boxed))
       have B:V=none:=by
        have hE:=HE.out;rw[←HQ.out] at hE;rcases hE with⟨_,hE⟩|⟨hx,_⟩
        ·exact hE
        ·cases hx
       have aj:Hid (P6 lo uH w kl _ c):=J.newer (zd.sets t6 [.slice none 0 0,.int .i64 0,.int .i64 0,.int .i64 0] 0 O) (fun b Y=>by simp at Y;omega);refine zK (v:=.tuple #[.agg #[.slice none 0 0,.int .i64 0,.int .i64 0,.int .i64 0],.bool false]) (by simp[results,results74,go_sem,ag]) rfl ?_;rw[B];exact⟨rfl,c,aj.out⟩
      |true=>
       have HQ:Hid (kj mr (S.facts.drop (m+1)) R3=some (R1,b1)):=n;clear n;go_wp2_with (first|(go_at_call 121;refine(bc.out _ aE.out).mono ?_;rintro e O ⟨rfl,c,Q,U,C⟩))
       obtain⟨J,ak,I⟩:=an.out _ _ C;exact⟨⟨m+1,by omega,by go_num,R3,c,ac,Q,U,J,bw,ak,I,HQ⟩,by simp[intOf];omega⟩
    ·obtain rfl:m=S.facts.length:=by omega
     have n:=aH.out;rw[List.drop_length] at n;simp only[kj,zr,yc] at n;obtain⟨R2,b2,bf,B⟩:∃R2 b2,jX F S.qf mr mx S.rules S.qj.length 0 Rk=some (R2,b2)/\V=if b2 then some R2 else none:=by
      have hE:=HE.out;rw[←n.2,←n.1] at hE;rcases hE with⟨hx,_⟩|⟨_,hE⟩
      ·cases hx
      ·exact hE
     have a6:Hid (jX F S.qf mr mx S.rules (S.qj.length-0) 0 Rk=some (R2,b2)):=bf;have af:=Px B;clear n bf B aH HE N hm K G;obtain⟨R,M,Z⟩:=s.out.boxed;go_upto_region 16 with fail
     clear R M Z;generalize bx:wr=w6 at *;clear bx;go_loopw [62] (fun b4 wr=>∃m:Nat,m<=S.qj.length/\b4=.int .i64 m/\∃Rk k ac ao,Hid (zW lo wr k t8 Rk S.qf mr mx ⟨.slice (some ⟨g,0,none⟩) S.qj.length S.qj.length,tbs,ac,ao⟩)/\Hid (P6 lo uH w kl wr k)/\Hid (Rk.rows.length=S.qj.length)/\Hid (Py wr w.heap.size #[.int .i64 S.qf,.slice u S.qj.length d,.slice H S.facts.length l,.slice D S.rules.length j] 146)/\Hid (Py wr t6 #[.slice none 0 0,.int .i64 0,.int .i64 0,.int .i64 0] 152)/\Hid (jX F S.qf mr mx S.rules (S.qj.length-m) m Rk=some (R2,b2))) (fun i _=>S.qj.length-(intOf i).toNat)
     case atStart=>exact⟨0,zx _,rfl,Rk,W,ac,ao,aa,L,ae,s,A,a6⟩
     case round=>
      clear aa L ae s A a6;obtain⟨m,hm,rfl,Ri,E,aK,bk,aa,L,ae,s,A,aQ⟩:=hrel;have K:=L.out.size;have G:=zT ad.out K;by_cases N:m<S.qj.length
      ·have r:=aQ.out;rw[show S.qj.length-m=(S.qj.length-(m+1))+1 from by omega] at r;unfold jX at r;cases ap:mZ F S.qf mr mx S.rules Ri m with
       |none=>rw[ap] at r;cases r
       |some ar=>
        obtain⟨R3,b3⟩:=ar;rw[ap] at r;have aS:=HS.out.rul.mod L.out (hY (by decide) (by decide)) (hY (by decide) (by decide)) (hY (by decide) (by decide));have aR:=Px (Io wr E t8 m Ri R3 _ S.rules ps S.qf mr mx _ F b3 aa.out aS G (by rw[ae.out];exact b6.out) ap);have an:Hid (∀O c,P6 lo uH wr E O c->P6 lo uH w kl O c/\Py O w.heap.size #[.int .i64 S.qf,.slice u S.qj.length d,.slice H S.facts.length l,.slice D S.rules.length j] 146/\Py O t6 #[.slice none 0 0,.int .i64 0,.int .i64 0,.int .i64 0] 152):=fun O c C=>⟨L.out.trans C,s.out.mod C (hY (by decide) (by decide) _),A.out.mod C (hY (by decide) (by decide) _)⟩;obtain⟨R,M,Z⟩:=s.out.boxed;have a2:(m:Int)<(S.qj.length:Int):=by omega
        clear ap aS;cases b3 with
        |false=>
         simp only[zr,yc] at r;have HQ:=Px r.2;clear r;go_wp2_with (first|(go_at_call 122;refine aR.out.mono ?_;rintro e O ⟨rfl,c,aN,Q,U,au,C⟩;obtain⟨J,_,I⟩:=an.out _ _ C;obtain⟨ag,bi,aA⟩:=I.boxed))
         have B:V=none:=by rw[af.out,←HQ.out];rfl
         have aj:Hid (P6 lo uH w kl _ c):=J.newer (zd.sets t6 [.slice none 0 0,.int .i64 0,.int .i64 0,.int .i64 0] 0 O) (fun b Y=>by simp at Y;omega);refine zK (v:=.tuple #[.agg #[.slice none 0 0,.int .i64 0,.int .i64 0,.int .i64 0],.bool false]) (by simp[results,results74,go_sem,ag]) rfl ?_;rw[B];exact⟨rfl,c,aj.out⟩
        |true=>
         have HQ:Hid (jX F S.qf mr mx S.rules (S.qj.length-(m+1)) (m+1) R3=some (R2,b2)):=r;clear r;go_wp2_with (first|(go_at_call 122;refine aR.out.mono ?_;rintro e O ⟨rfl,c,aN,Q,U,au,C⟩))
         obtain⟨J,ak,I⟩:=an.out _ _ C;exact⟨⟨m+1,by omega,by go_num,R3,c,aN,Q,U,J,au.trans ae.out,ak,I,HQ⟩,by simp[intOf];omega⟩
      ·obtain rfl:m=S.qj.length:=by omega
       have r:=aQ.out;rw[jH] at r;simp only[jX,zr,yc] at r;have B:V=some Ri:=by rw[af.out,←r.2,←r.1];rfl
       have bA:=Px B;clear r B af;obtain⟨bh,aV,d0,d1,d2,d3,d4,d5,d6,d7⟩:=aa.out.at;obtain⟨ag,bi,aA⟩:=A.out.boxed;dsimp only at d0;clear d4 d5 d6 d7;have bM:t8≠t6:=fun e=>bJ e.symm;go_wp2;have a9:=zd.sets t6 [.slice (some ⟨g,0,none⟩) S.qj.length S.qj.length,.int .i64 Ri.count,.int .i64 Ri.qw,.int .i64 Ri.jf] 0 wr;have aW:P6 lo (kX [152]) wr E _ E:=P6.ofSave E a9 (fun b Y=>by
        simp at Y;subst Y;exact⟨by have:=ad.out;omega,aA,_,_,A.out,xO.2 rfl⟩)
       have bG:Hid (zW lo _ E t8 Ri S.qf mr mx ⟨.slice (some ⟨g,0,none⟩) S.qj.length S.qj.length,tbs,aK,bk⟩):=aa.out.mod aW (ke (by decide)) (ke (by decide)) (ke (by decide)) (fun _=>ke (by decide) _) (fun _ t ht q=>by rw[xO.1 q] at ht;exact ht (by decide));have aj:Hid (P6 lo uH w kl _ E):=L.out.newer a9 (fun b Y=>by simp at Y;omega);clear a9 aW;refine zK (v:=.tuple #[.agg #[.slice (some ⟨g,0,none⟩) S.qj.length S.qj.length,.int .i64 Ri.count,.int .i64 Ri.qw,.int .i64 Ri.jf],.bool true]) (by simp[results,results74,go_sem,ag]) rfl ?_;rw[bA.out];exact⟨E,t8,⟨.slice (some ⟨g,0,none⟩) S.qj.length S.qj.length,tbs,aK,bk⟩,rfl,bG.out,aj.out⟩
end
section
variable {lo:Nat}
def uf(ns:List ByteArray)(row:zk)(a m:Nat):List ByteArray:=(List.range a).map fun i=>if i<m then ns.getD (row.getD i 0) ByteArray.empty else ByteArray.empty
theorem tx(ns:List ByteArray)(row:zk)(a m:Nat):(uf ns row a m).length=a:=by simp[uf]
attribute [local go_sem] OS Pw OT
def fS(ns:List ByteArray):List ByteArray->Nat->zk->Option zk
 |[],_,r=>some r
 |t::a,i,r=>match uj ns t with
  |none=>none
  |some v=>if i≥3 then none else fS ns a (i+1) (r.set i v)
end
section
variable {lo lp:Nat}
structure pw (lo lp:Nat) (w:World) (rb:Nat) (t:List zh) (ns:List ByteArray) (R:zw) (pv nv rv:Value) (tbs:List Nat):Prop where
 low:lo<=rb
 box:Py w rb #[pv,nv,rv,.int .i64 R.count,.int .i64 R.qw,.int .i64 R.jf] 156
 preds:w.ownsRow lp 221 3 pv t.length (xW t)
 vals:P7 lo w nv ns
 rows:w.ownsRow lo 162 1 rv R.rows.length (PH tbs)
 tlen:tbs.length=R.rows.length
 tries:∀p (_:p<R.rows.length) (_:p<tbs.length),∃fp,zY lo w tbs[p] R.rows[p] fp
 few:t.length<=1000/\ns.length<=1000/\R.rows.length<=1000
theorem pw.below{w j:World}{e:Nat}{t:List zh}{ns:List ByteArray}{R:zw}{g f i:Value}{c:List Nat}(h:pw lo lp w e t ns R g f i c)(d:Below w.heap.size w j):pw lo lp j e t ns R g f i c:=
 ⟨h.low,h.box.below d,zC h.preds d,h.vals.below d,zC h.rows d,h.tlen,fun p a b=>by obtain⟨k,q⟩:=h.tries p a b;exact⟨k,q.below d⟩,h.few⟩
end
section
open Go.Proofs.Tryz
variable {lo lp:Nat}{a1 a2 a3:Option Addr}{ps:List (Value×Value×Value)}
structure O5 (S:qJ):Prop where
 rules:sR S.qj.length S.rules
 many:S.qj.length<=1000
 small:∀a∈S.qj,a<=100000000
 rows:∀f∈S.facts,f.row.length=3
 facts:S.facts.length<=1000000
 qf:S.qf<=1000
structure wm (cs:List zc) (t:List zh) (os:Option (List (Option (List Int)))):Prop where
 len:cs.length<=1000
 names:t.length<=1000
 fine:∀c∈cs,vH c
 sums:∀c∈cs,c.head.args.length+xf c.body<=1000/\c.body.length<=900
 few:AZ cs
 vals:(zp cs).length<=1000
 jm:∀n,x6 t n<=1000000
 ords:(os.getD []).length<=2000000
 each:∀o∈os.getD [],(o.getD []).length<=2000000
 ordok:fX cs os=true->∀o∈os.getD [],(o.getD []).length<=1000
 set:fX cs os=true->O5 (vS t (zp cs) os cs)
def mD(a w:World)(S:qJ)(s:Value):Prop:=∃(c b:Nat) (a1:Option Addr) (d:Nat) (a2:Option Addr) (f:Nat) (a3:Option Addr) (e:Nat) (ps:List (Value×Value×Value)),s=.pointer (some ⟨b,0,none⟩)/\a.heap.size<=b/\a.heap.size<=c/\c<=w.heap.size/\Py w b #[.int .i64 S.qf,.slice a1 S.qj.length d,.slice a2 S.facts.length f,.slice a3 S.rules.length e] 146/\Hid (kO c w (.slice a1 S.qj.length d) (.slice a2 S.facts.length f) (.slice a3 S.rules.length e) S ps)/\Hid (Below a.heap.size a w)
theorem kO.saveT{w g:World}{f d e:Value}{S:qJ}{ps:List (Value×Value×Value)}{T:TypeId}{M:List Nat}(h:kO lo w f d e S ps)(hs:zd M w g)(b:PN w T M)(j:3≠T)(k:210≠T)(i:284≠T)(c:204≠T)(a:207≠T):kO lo g f d e S ps:=⟨yB h.ari hs b j,yB h.fac hs b k,h.rul.saveT hs b i c a⟩
theorem kO.below{w e:World}{d b c:Value}{S:qJ}{ps:List (Value×Value×Value)}(h:kO lo w d b c S ps)(a:Below w.heap.size w e):kO lo e d b c S ps:=⟨zC h.ari a,zC h.fac a,h.rul.below a⟩
theorem mD.one{e W a:World}{S:qJ}{b d c:Nat}(i:Below e.heap.size e W)(g:Below W.heap.size W a)(h:kO W.heap.size a (.slice a1 S.qj.length b) (.slice a2 S.facts.length d) (.slice a3 S.rules.length c) S ps):mD e (a.alloc (.cells #[.int .i64 S.qf,.slice a1 S.qj.length b,.slice a2 S.facts.length d,.slice a3 S.rules.length c] 146)) S (.pointer (some ⟨a.heap.size,0,none⟩)):=by
 have f:Below a.heap.size a (a.alloc (.cells #[.int .i64 S.qf,.slice a1 S.qj.length b,.slice a2 S.facts.length d,.slice a3 S.rules.length c] 146)):=(zo _ _).alloc (zf _) _;have j:=i.size;have k:=g.size;have l:=f.size;exact⟨W.heap.size,a.heap.size,a1,b,a2,d,a3,c,ps,rfl,by omega,j,by omega,Py.new _ _ _,h.below f,P3 (P3 i g) f⟩
theorem mD.two{g W f:World}{a:Nat}{o p r q:Value}{S:qJ}{d e c:Nat}(b:g.heap.size<=a)(l:Below g.heap.size g W)(k:Below W.heap.size W f)(j:Py f a #[o,p,r,q] 146)(h:kO W.heap.size f (.slice a1 S.qj.length d) (.slice a2 S.facts.length e) (.slice a3 S.rules.length c) S ps):mD g ((((f.setCell ⟨a,0,none⟩ (.int .i64 S.qf)).setCell ⟨a,1,none⟩ (.slice a1 S.qj.length d)).setCell ⟨a,2,none⟩ (.slice a2 S.facts.length e)).setCell ⟨a,3,none⟩ (.slice a3 S.rules.length c)) S (.pointer (some ⟨a,0,none⟩)):=by
 have t:=l.size;have v:=k.size;have m:=j.set 0 (.int .i64 S.qf);have i:=m.set 1 (.slice a1 S.qj.length d);have n:=i.set 2 (.slice a2 S.facts.length e);have s:=n.set 3 (.slice a3 S.rules.length c);have u:kO W.heap.size ((((f.setCell ⟨a,0,none⟩ (.int .i64 S.qf)).setCell ⟨a,1,none⟩ (.slice a1 S.qj.length d)).setCell ⟨a,2,none⟩ (.slice a2 S.facts.length e)).setCell ⟨a,3,none⟩ (.slice a3 S.rules.length c)) (.slice a1 S.qj.length d) (.slice a2 S.facts.length e) (.slice a3 S.rules.length c) S ps:=(((h.saveT (zd.set _ _ _ (.int .i64 S.qf)) (PN.box j) (by decide) (by decide) (by decide) (by decide) (by decide)).saveT (zd.set _ _ _ (.slice a1 S.qj.length d)) (PN.box m) (by decide) (by decide) (by decide) (by decide) (by decide)).saveT (zd.set _ _ _ (.slice a2 S.facts.length e)) (PN.box i) (by decide) (by decide) (by decide) (by decide) (by decide)).saveT (zd.set _ _ _ (.slice a3 S.rules.length c)) (PN.box n) (by decide) (by decide) (by decide) (by decide) (by decide);exact⟨W.heap.size,a,a1,d,a2,e,a3,c,ps,rfl,b,t,by simp;omega,by simpa using s,u,((((P3 l k).setCell b _).setCell b _).setCell b _).setCell b _⟩
theorem P6.belowLo{ok:TypeId->zn->Prop}{w c:World}{own a:Nat->zn}(h:P6 lo ok w own c a)(f:lo<=w.heap.size):Below lo w c:=by
 obtain⟨_,M,d,g⟩:=h;exact d.below (fun b e=>(g b e).1) f
def O1(lp:Nat)(t:List zh)(ns:List ByteArray)(c:Option zw)(w:World)(e:Ending)(d:World):Prop:=match c with
 |none=>e=.returned (.tuple #[.pointer none,.int .i64 10])/\Below w.heap.size w d
 |some R=>∃b g f h a,w.heap.size<=b/\e=.returned (.tuple #[.pointer (some ⟨b,0,none⟩),.int .i64 0])/\pw w.heap.size lp d b t ns R g f h a/\Below w.heap.size w d
theorem NP(w:World)(f c:Value)(a b:Int)(d:-9223372036854775808<=a/\a<9223372036854775808)(g:-9223372036854775808<=b/\b<9223372036854775808)(h:a<0∨1048576<a∨b<0∨1048576<b):
  Calls prog 35 #[f,c,.int .i64 a,.int .i64 b] w fun e i=>e=.returned (.tuple #[.pointer none,.int .i64 8])/\i=w:=by
 go_enter func35,ntmps35;by_cases l:a<0
 ·go_wp2;go_ret2
  exact⟨rfl,rfl⟩
 ·by_cases j:1048576<a
  ·go_wp2;go_ret2
   exact⟨rfl,rfl⟩
  ·by_cases m:b<0
   ·go_wp2;go_ret2
    exact⟨rfl,rfl⟩
   ·have k:1048576<b:=by omega
    go_wp2;go_ret2
    exact⟨rfl,rfl⟩
theorem NM(w:World)(pb:Nat)(cs:List zc)(t:List zh)(ov:Value)(os:Option (List (Option (List Int))))(h qw U:Nat)(M:Option zw)(hP:ki lp w pb cs t)(ho:gG w ov os)(j:wm cs t os)(I:fX cs os=true)(h1:h<=1048576)(n:qw<=1048576)(a9:lp<=w.heap.size)(hr:lJ U (vS t (zp cs) os cs) h qw=some M):
  Calls prog 35 #[.pointer (some ⟨pb,0,none⟩),ov,.int .i64 h,.int .i64 qw] w fun e i=>O1 lp t (zp cs) M w e i:=by
 have HP:=Px hP;obtain⟨_,cv,pv,C,J,ae⟩:=hP;have ag:=Px (GF w cv ov cs os J j.fine j.len ho j.ords j.each);rw[I] at ag;have a0:=Px fun W hW=>Ff W cv cs (J.below hW) j.few;have ay:=Px fun W cb hW hC=>Fy W pb 1 cb t (zp cs) cs cv ov os ⟨pv,(C.below hW).lt,(C.below hW).rules.1 1,zC ae hW⟩ hC j.names j.vals (J.below hW) j.sums j.len (ho.below hW) j.ords (j.ordok I) j.jm;have l:=Px (j.set I);have a7:Hid ((zp cs).length<=1000/\t.length<=1000):=⟨j.vals,j.names⟩;have ax:=Px hr;obtain⟨hc,hf,x⟩:=C.boxed;have d0:=hc 0;have d1:=hc 1;simp only[lD,dK,lf] at d0 d1;clear I hr hc j J ho;generalize vS t (zp cs) os cs=S at *;generalize zp cs=ns at *;have aL:=Px C;have ap:=Px ae;clear C ae;go_enter func35,ntmps35;go_upto_region 6 with (first|(go_at_call 71;refine ag.out.mono ?_;rintro e w1 ⟨rfl,r⟩;have y0:=zm r x d0;have yl:=xG x r.size)|(go_at_call 72;refine(a0.out _ r).mono ?_;rintro e w2 ⟨v2,rfl,ac,au⟩;obtain⟨k,f,rfl⟩:=ac.qx))
 obtain⟨W3,al⟩:∃W3,W3=w2.alloc (.cells #[.slice k ns.length f] 141):=⟨_,rfl⟩;have ak:Below w2.heap.size w2 (w2.alloc (.cells #[.slice k ns.length f] 141)):=(by go_grown);have K:=Py.new w2 #[.slice k ns.length f] 141;have aj:=(ac.below ak).low (show w.heap.size<=w1.heap.size from r.size);have af:=P3 r au;have s:=P3 af ak;have aD:=af.size;rw[←al] at K aj s;rw[←al];generalize w2.heap.size=cb at *;have am:=Px K;have aa:=Px aj;have x0:=zm s x d0;have ao:=K.lt;have xl:=xG x s.size;have Z:Hid (∀W,Below W3.heap.size W3 W->Calls prog 73 #[cv,.pointer (some ⟨pb,1,none⟩),.pointer (some ⟨cb,0,none⟩),ov] W fun e i=>∃a1 Y a2 V a3 X ps,e=.returned (.agg #[.int .i64 S.qf,.slice a1 S.qj.length Y,.slice a2 S.facts.length V,.slice a3 S.rules.length X])/\Hid (kO W.heap.size i (.slice a1 S.qj.length Y) (.slice a2 S.facts.length V) (.slice a3 S.rules.length X) S ps)/\Below W.heap.size W i/\i.cell? ⟨pb,0,none⟩=some cv):=fun W I=>by
  refine(ay.out W cb (P3 s I) ⟨zT a9 aD,_,am.out.below I,(aa.out.below I).low a9⟩).mono ?_;rintro e i ⟨av,fv,rv,ps,h1,n,h3⟩;have hq:=P3 I h3;obtain⟨a1,Y,rfl⟩:=zs n.ari;obtain⟨a2,V,rfl⟩:=zs n.fac;obtain⟨a3,X,rfl⟩:=zs n.rul.own;exact⟨a1,Y,a2,V,a3,X,ps,h1,n,h3,(hq.cell xl).trans x0⟩
 clear al K aj ak a0 ag ay y0 yl ac au r af w1 w2 d0;go_cut [11] from 40 to 48 (fun aA wx=>mD W3 wx S aA)
 case first=>
  go_region_held3 (fun i=>i.cell? ⟨pb,0,none⟩=some cv) (first|go_keep|(go_simp;done)) (first|(go_at_call 73;refine(Z.out _ (by exact(by go_grown))).mono ?_;rintro e w4 ⟨a1,Y,a2,V,a3,X,ps,rfl,A,ai,z0⟩;(try (with_reducible refine Py.carry (Py.drew (Py.new W3 #[.int .i64 0,.slice none 0 0,.slice none 0 0,.slice none 0 0] 146)) ai ?_;intro aq;obtain⟨aH,aI,aG⟩:=aq.boxed))))
  all_goals
   go_wp2_with fail
   go_meet
   case rel=>first|exact mD.one (W:=W3.drew) (by go_grown) ai A.out|exact mD.two (zf _) (W:=(W3.alloc (.cells #[.int .i64 0,.slice none 0 0,.slice none 0 0,.slice none 0 0] 146)).drew) (by go_grown) ai aq A.out
 case rest=>
  clear Z x0;obtain⟨fl,sb,a1,Y,a2,V,a3,X,ps,rfl,aK,a6,ad,a5,A,ab⟩:=hcut;have G:=Px (Rj wc S ps _ _ _ h qw U M A.out ad l.out.rules l.out.many l.out.small l.out.rows l.out.facts ⟨l.out.qf,h1,n⟩ ax.out);obtain⟨aC,aE,aB⟩:=a5.boxed;have ah:=P3 s ab.out;have aJ:=Px ao;have H:=zT s.size a6;clear A l ax ao xl;cases M with
  |none=>
   have o:Hid (Calls prog 74 #[.agg #[.int .i64 S.qf,.slice a1 S.qj.length Y,.slice a2 S.facts.length V,.slice a3 S.rules.length X],.int .i64 h,.int .i64 qw] wc fun e i=>e=.returned (.tuple #[.agg #[.slice none 0 0,.int .i64 0,.int .i64 0,.int .i64 0],.bool false])/\Below fl wc i):=by
    refine G.out.mono ?_;rintro e i ⟨h1,a8,n⟩;exact⟨h1,n.belowLo ad⟩
   clear G;go_wp2_with (first|(go_at_call 74;refine o.out.mono ?_;rintro e N ⟨rfl,D⟩))
   go_ret2
   exact⟨rfl,zP (ah.trans (D.mono H)) (by go_grown) (zf _)⟩
  |some R=>
   have o:Hid (Calls prog 74 #[.agg #[.int .i64 S.qf,.slice a1 S.qj.length Y,.slice a2 S.facts.length V,.slice a3 S.rules.length X],.int .i64 h,.int .i64 qw] wc fun e i=>∃d c g,e=.returned (.tuple #[.agg #[.slice d R.rows.length c,.int .i64 R.count,.int .i64 R.qw,.int .i64 R.jf],.bool true])/\Hid (i.ownsRow fl 162 1 (.slice d R.rows.length c) R.rows.length (PH g)/\g.length=R.rows.length/\(∀p (_:p<R.rows.length) (_:p<g.length),∃L,zY fl i g[p] R.rows[p] L)/\R.rows.length<=1000)/\Below fl wc i):=by
    refine G.out.mono ?_;rintro e i ⟨a8,rb,Q,h1,n,h3⟩;obtain⟨d,c,aw⟩:=zs n.rows;refine⟨d,c,Q.tbs,by rw[h1,aw],⟨by rw[←aw];exact n.rows,n.tlen,fun p a b=>?_,n.few.1⟩,h3.belowLo ad⟩;obtain⟨L,q,_⟩:=n.tries p a b;exact⟨L,q⟩
   clear G;go_upto_region 10 with (first|(go_at_call 74;refine o.out.mono ?_;rintro e N ⟨d,c,g,rfl,az,D⟩))
   have a4:=ah.trans (D.mono H);have B:=ab.out.trans (D.mono a6);have v:Below N.heap.size N (N.alloc (.cells #[.slice d R.rows.length c,.int .i64 R.count,.int .i64 R.qw,.int .i64 R.jf] 152)):=(by go_grown);have O:=Py.new N #[.slice d R.rows.length c,.int .i64 R.count,.int .i64 R.qw,.int .i64 R.jf] 152;have P:=(am.out.below B).below v;have ar:=Px ((aa.out.below B).below v);have y:=P3 a4 v;have an:=Px (zC ap.out y);have z:Hid (World.ownsRow (N.alloc (.cells #[.slice d R.rows.length c,.int .i64 R.count,.int .i64 R.qw,.int .i64 R.jf] 152)) w.heap.size 162 1 (.slice d R.rows.length c) R.rows.length (PH g)/\g.length=R.rows.length/\(∀p (_:p<R.rows.length) (_:p<g.length),∃L,zY w.heap.size (N.alloc (.cells #[.slice d R.rows.length c,.int .i64 R.count,.int .i64 R.qw,.int .i64 R.jf] 152)) g[p] R.rows[p] L)/\R.rows.length<=1000):=by
    obtain⟨q1,q2,q3,q4⟩:=az.out;refine⟨yq (zC q1 v) H,q2,fun p a b=>?_,q4⟩;obtain⟨L,q⟩:=q3 p a b;exact⟨L,(q.below v).low H⟩
   obtain⟨F,m,aF⟩:=zs ap.out;subst aF;have y1:=zm y x d1;have yl:=xG x y.size;have E:=y.size;clear v B a4 az o D ah ab aa am a5 aC aE aB;generalize N.alloc (.cells #[.slice d R.rows.length c,.int .i64 R.count,.int .i64 R.qw,.int .i64 R.jf] 152)=W6 at *;generalize N.heap.size=ob at *;obtain⟨oc,of,ol⟩:=O.boxed;have o0:=oc 0;have o1:=oc 1;have o2:=oc 2;have o3:=oc 3;obtain⟨bc,bf,bl⟩:=P.boxed;have b0:=bc 0;simp only[lD,dK,lf] at o0 o1 o2 o3 b0;clear oc bc O P;go_region
   have u:Below W6.heap.size W6 (W6.alloc (.cells #[.slice F t.length m,.slice k ns.length f,.slice d R.rows.length c,.int .i64 R.count,.int .i64 R.qw,.int .i64 R.jf] 156)).drew:=(by go_grown);have T:Hid (pw w.heap.size lp (W6.alloc (.cells #[.slice F t.length m,.slice k ns.length f,.slice d R.rows.length c,.int .i64 R.count,.int .i64 R.qw,.int .i64 R.jf] 156)).drew W6.heap.size t ns R (.slice F t.length m) (.slice k ns.length f) (.slice d R.rows.length c) g/\Below w.heap.size w (W6.alloc (.cells #[.slice F t.length m,.slice k ns.length f,.slice d R.rows.length c,.int .i64 R.count,.int .i64 R.qw,.int .i64 R.jf] 156)).drew):=by
    refine⟨⟨E,Py.drew (Py.new _ _ _),zC an.out u,ar.out.below u,zC z.out.1 u,z.out.2.1,fun p a b=>?_,⟨a7.out.2,a7.out.1,z.out.2.2.2⟩⟩,P3 y u⟩;obtain⟨L,q⟩:=z.out.2.2.1 p a b;exact⟨L,q.below u⟩
   clear u an ar z o0 o1 o2 o3 b0;go_wp2;go_ret2
   exact⟨W6.heap.size,_,_,_,g,E,rfl,T.out.1,T.out.2⟩
end
theorem PI.runok{cs:List zc}{v t:List zh}(h:PI cs v t):wm cs t none/\rz (vS t (zp cs) none cs):=by
 have b:rz (vS t (zp cs) none cs):=BB h _ none (fun i w=>tR (mi (h.many _ (zv w))));obtain⟨_,j,m⟩:=h.low;have q:=h.few;have s:=wE cs;have p:=Ou cs;have o:(zp cs).length<=500:=by
  have:=Do cs [];simp only[kE,vF] at this;show(cs.foldl vZ []).length<=500;omega
 have e:=i4 (cs:=cs) (by omega);have d:∀c∈cs,c.body.length<=6:=fun c g=>(lV (h.many c g)).2.1;refine⟨⟨by omega,by omega,e,fun c g=>⟨(e c g).1,by have:=d c g;omega⟩,⟨by omega,by omega,fun c g=>(e c g).2⟩,by omega,fun n=>by have:=m n;omega,by simp,by simp,fun _=>by simp,fun _=>⟨fun r k=>⟨fun l j=>((b.rules.rules r k).qc l j).1,fun l j=>⟨((b.rules.rules r k).qp l j).1,b.rules.apart r k r k rfl l j⟩⟩,?_,fun a u=>by have:=b.small a u;omega,fun f q=>(b.facts f q).2.1.1,?_,by show(zp cs).length<=1000;omega⟩⟩,b⟩
 ·show(t.map (·.jh)).length<=1000;simp;omega
 ·show(vJ t (zp cs) cs).length<=1000000;have:(vJ t (zp cs) cs).length<=cs.length:=by
   unfold vJ;rw[uJ];exact nE _ _
  omega
end Go.Proofs.YteampbddflhngaaGreat
