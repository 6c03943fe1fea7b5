import Derived.Test.YteampbddflhngaaGreatS06
import Derived.Deep.OwnRows

namespace Go.Proofs.YteampbddflhngaaGreat
set_option maxRecDepth 100000
set_option maxHeartbeats 1000000
open Go.RowKit
variable {lo:Nat}
theorem zrn{t t':List zaq}{l:zb2}(h:zpu t l=some t'):t'.length<=t.length+1:=by
 unfold zpu at h
 split at h
 ·split at h <;> simp at h;subst h;omega
 ·simp at h;subst h;rw[zee];omega
theorem z1b{t t':List zaq}{l:zb2}(h:zpu t l=some t')(hz:∀ e∈t,e.stratum<=0):∀ e∈t',e.stratum<=0:=by
 unfold zpu at h
 split at h
 ·split at h <;> simp at h;subst h;exact hz
 ·simp at h;subst h
  intro e he
  unfold zgq at he
  rcases List.mem_append.1 he with he|he
  ·exact hz e (List.mem_of_mem_take he)
  ·rcases List.mem_cons.1 he with he|he
   ·subst he;exact Nat.le_refl _
   ·exact hz e (List.mem_of_mem_drop he)
def zna(o:Option (List zaq))(l:zb2):Option (List zaq):=o.bind (zpu · l)
def za3(c:zab):List zb2:=c.head::c.body
def zgo(cs:List zab):Option (List zaq):=(cs.flatMap za3).foldl zna (some [])
theorem ziu(ls:List zb2):ls.foldl zna none=none:=by
 induction ls with
 |nil=>rfl
 |cons a ls ih=>exact ih
theorem znt:∀(ls:List zb2) (t:List zaq),(∀ e∈t,e.stratum<=0)->∀ t',ls.foldl zna (some t)=some t'->∀ e∈t',e.stratum<=0
 |[],t,hz,t',h=>by simp at h;subst h;exact hz
 |l::ls,t,hz,t',h=>by
  simp only[List.foldl_cons] at h
  cases ha:zpu t l with
  |none=>rw[show zna (some t) l=none from ha,ziu] at h;cases h
  |some t2=>rw[show zna (some t) l=some t2 from ha] at h;exact znt ls t2 (z1b ha hz) t' h
theorem zrl:∀(ls:List zb2) (t:List zaq),∀ t',ls.foldl zna (some t)=some t'->t'.length<=t.length+ls.length
 |[],t,t',h=>by simp at h;subst h;simp
 |l::ls,t,t',h=>by
  simp only[List.foldl_cons] at h
  cases ha:zpu t l with
  |none=>rw[show zna (some t) l=none from ha,ziu] at h;cases h
  |some t2=>rw[show zna (some t) l=some t2 from ha] at h;have:=zrl ls t2 t' h;have:=zrn ha;simp;omega
theorem z4t(B:Nat)(w:World)(tb:Nat)(t:List zaq)(l:zb2)(aoa:Option Addr)(capa:Nat)(h:TA B w tb t)(hl:t.length<=1000)(hn:zpu t l=none) :
  Calls Tryz.prog 102 #[.pointer (some ⟨tb,0,none⟩),.agg #[.bool l.neg,.string l.pred,.slice aoa l.args.length capa]] w fun e w'=>e=.returned (.bool false)/\Below w.heap.size w w':=by
 unfold zpu at hn
 split at hn
 ·rename_i e0 he
  split at hn
  ·cases hn
  ·rename_i hne
   have:=zym B w tb t l aoa capa h hl e0 he
   rw[decide_eq_false hne] at this
   exact this
 ·cases hn
theorem zyn(B:Nat)(w:World)(tb:Nat)(t t2:List zaq)(l:zb2)(aoa:Option Addr)(capa:Nat)(h:TA B w tb t)(hl:t.length<=1000)(hn:zpu t l=some t2)(hB:B<=w.heap.size)(hBt:B<=tb) :
  Calls Tryz.prog 102 #[.pointer (some ⟨tb,0,none⟩),.agg #[.bool l.neg,.string l.pred,.slice aoa l.args.length capa]] w fun e w'=>e=.returned (.bool true)/\TA B w' tb t2/\Below B w w'/\zhh tb w w':=by
 unfold zpu at hn
 split at hn
 ·rename_i e0 he
  split at hn
  ·rename_i heq
   simp at hn
   subst hn
   have:=zym B w tb t l aoa capa h hl e0 he
   rw[decide_eq_true heq] at this
   refine this.mono ?_
   rintro e w' ⟨rfl,hb⟩
   exact⟨rfl,h.below hb,hb.mono hB,zhh.of hb⟩
  ·cases hn
 ·rename_i he
  simp at hn
  subst hn
  exact z7o B w tb t l aoa capa h hl he hB hBt
def zrh(o:Option (List zaq))(w:World)(e:Ending)(w':World):Prop :=
 Below w.heap.size w w'/\match o with
  |none=>e=.returned (.tuple #[.agg #[.slice none 0 0],.bool false])
  |some t=>∃ pv,e=.returned (.tuple #[.agg #[pv],.bool true])/\w'.ownsRow w.heap.size 221 3 pv t.length (zcd t)
theorem znz{o:Option (List zaq)}{w w':World}(h:Hid (o=none))(hb:Below w.heap.size w w'):zrh o w (.returned (.tuple #[.agg #[.slice none 0 0],.bool false])) w':=by
 have h':o=none:=h
 subst h';exact⟨hb,rfl⟩
theorem zs7{o:Option (List zaq)}{w w':World}{t:List zaq}{pv:Value}(h:Hid (o=some t))(hb:Below w.heap.size w w')(ho:w'.ownsRow w.heap.size 221 3 pv t.length (zcd t)):zrh o w (.returned (.tuple #[.agg #[pv],.bool true])) w':=by
 have h':o=some t:=h
 subst h';exact⟨hb,pv,rfl,ho⟩
theorem zn0(w:World)(v:Value)(cs:List zab)(hcs:CIn lo 171 w v cs)(hN:(cs.flatMap za3).length<=1000) :
  Calls Tryz.prog 62 #[v] w fun e w'=>zrh (zgo cs) w e w':=by
 obtain⟨ao,cap,rfl⟩:=hcs.shape
 have hcl:cs.length<=1000:=by
  have:cs.length<=(cs.flatMap za3).length:=by
   clear hN hcs
   induction cs with
   |nil=>simp
   |cons c cs ih=>simp[za3] at ih ⊢;omega
  omega
 go_enter Tryz.func62,Tryz.ntmps62
 go_wp2
 go_loopw [11] (fun i wr=>∃(k:Nat) (tk:List zaq),k<=cs.length/\i=.int .i64 k/\Below w.heap.size w wr/\TA w.heap.size wr (w.heap.size+1) tk/\Box wr w.heap.size #[.slice none 0 0] 127/\tk.length+((cs.drop k).flatMap za3).length<=1000/\Hid (zgo cs=((cs.drop k).flatMap za3).foldl zna (some tk))) (fun i _=>cs.length - (intOf i).toNat)
 case atStart =>
  have hb1:=(Below.refl w.heap.size w).alloc (Nat.le_refl _) (.cells #[.slice none 0 0] 127)
  exact⟨0,[],Nat.zero_le _,rfl,(by go_grown),⟨_,Box.newAt _ _ _ _ (by simp),World.ownsRow_nil _ _ _ _⟩,(Box.new w _ _).below ((Below.refl _ _).alloc (Nat.le_refl _) _),(by simpa using hN),rfl⟩
 case round =>
  obtain⟨k,tk,hk,rfl,hbk,htk,hres,hnk,H⟩:=hrel
  have hszk:=hbk.size
  have hres1:=hres.lt
  have htl:w.heap.size+1 < wr.heap.size:=by obtain⟨_,hb,_⟩:=htk;exact hb.lt
  by_cases hlt:k < cs.length
  ·have hdr:=List.drop_eq_getElem_cons hlt
   obtain⟨g,ao2,cap2,ao3,cap3,rfl,hg,hc0,hc1,hc2,hc3,hsk,hlk⟩:=hcs.cell k hlt
   have hd0:=(hbk.cell (p:=⟨g,k * 4,none⟩) hg).trans hc0
   have hd1:=(hbk.cell (p:=⟨g,k * 4+1,none⟩) hg).trans hc1
   have hd2:=(hbk.cell (p:=⟨g,k * 4+2,none⟩) hg).trans hc2
   have hd3:=(hbk.cell (p:=⟨g,k * 4+3,none⟩) hg).trans hc3
   have hgr:g < wr.heap.size:=by omega
   clear hc0 hc1 hc2 hc3 hsk
   generalize cs[k]=c at *
   rw[hdr] at hnk
   have H1:Hid (zgo cs=(c.body++(cs.drop (k+1)).flatMap za3).foldl zna (zna (some tk) c.head)):=by rw[Hid,H.out,hdr];rfl
   simp only[List.flatMap_cons,za3,List.length_append,List.length_cons] at hnk
   generalize hR:(cs.drop (k+1)).flatMap za3=rest at *
   have HR:Hid ((cs.drop (k+1)).flatMap za3=rest):=hR
   clear hR H hdr
   cases hA:zpu tk c.head with
   |none =>
    have HA:Hid (zpu tk c.head=none):=hA
    have HF:Hid (zgo cs=none):=by rw[Hid,H1.out,show zna (some tk) c.head=none from hA,ziu]
    clear H1 hA
    go_wp2_with (first|(go_at_call 102;refine(z4t w.heap.size _ (w.heap.size+1) tk c.head _ _ (by exact htk.below (by go_grown)) (by omega) HA).mono ?_;rintro e w1 ⟨rfl,hb1⟩;have hB1:=zae ((Below.refl wr.heap.size wr).alloc (Nat.le_refl _) _) hb1 (Nat.le_refl _);have hBB:=zae hbk hB1 (Nat.le_refl _);have hres2:=hres.below hB1;obtain⟨hrc,hrf⟩:=hres2.rules;have hz2:=hres2.lt))
    exact bodyPost_ret (v:=.tuple #[.agg #[.slice none 0 0],.bool false]) (by simp[results,Tryz.results62,go_sem,hrc]) rfl (znz HF (by go_grown))
   |some t1 =>
    have HA:Hid (zpu tk c.head=some t1):=hA
    have hl1:=zrn hA
    have H2:Hid (zgo cs=(c.body++rest).foldl zna (some t1)):=by rw[Hid,H1.out,show zna (some tk) c.head=some t1 from hA]
    clear H1 hA
    go_wp2_with (first|(go_at_call 102;refine(zyn w.heap.size _ (w.heap.size+1) tk t1 c.head _ _ (by exact htk.below (by go_grown)) (by omega) HA (by exact Nat.le_trans hszk (by simp)) (by omega)).mono ?_;rintro e w1 ⟨rfl,ht1,hb1,hkp1⟩;have hBB:Below w.heap.size w w1:=(hbk.alloc hszk _).trans hb1;have hres2:=hkp1.box _ _ _ (by omega) (by decide) (hres.below ((Below.refl _ _).alloc (Nat.le_refl _) _));have hcb:=hkp1.box _ _ _ (by omega) (by decide) (Box.new wr _ _);obtain⟨hcc,hcf⟩:=hcb.rules;have hzc:=hcb.lt;have hz2:=hres2.lt))
    go_loopw [23] (fun i wj=>∃(j:Nat) (tj:List zaq),j<=c.body.length/\i=.int .i64 j/\Below w.heap.size w wj/\TA w.heap.size wj (w.heap.size+1) tj/\Box wj w.heap.size #[.slice none 0 0] 127/\tj.length+(c.body.drop j).length+rest.length<=1000/\Hid (zgo cs=(c.body.drop j++rest).foldl zna (some tj))) (fun i _=>c.body.length - (intOf i).toNat)
    case atStart=>exact⟨0,t1,Nat.zero_le _,rfl,hBB,ht1,hres2,(by simp;omega),H2⟩
    case round =>
     clear hcc hcf hcb hzc
     obtain⟨j,tj,hj,rfl,hbj,htj,hresj,hnj,HJ⟩:=hrel
     have hszj:=hbj.size
     have hresl:=hresj.lt
     by_cases hjl:j < c.body.length
     ·obtain⟨gl,aol,capl,rfl,hgl,hl0,hl1',hl2',_⟩:=hlk.cell j hjl
      have he0:=(hbj.cell (p:=⟨gl,j * 3,none⟩) hgl).trans hl0
      have he1:=(hbj.cell (p:=⟨gl,j * 3+1,none⟩) hgl).trans hl1'
      have he2:=(hbj.cell (p:=⟨gl,j * 3+2,none⟩) hgl).trans hl2'
      have hgj:gl < wr.heap.size:=by omega
      have hdj:=List.drop_eq_getElem_cons hjl
      clear hl0 hl1' hl2'
      generalize c.body[j]=a at *
      rw[hdj] at hnj
      have HJ1:Hid (zgo cs=(c.body.drop (j+1)++rest).foldl zna (zna (some tj) a)):=by rw[Hid,HJ.out,hdj];rfl
      simp only[List.length_cons] at hnj
      clear hdj HJ
      cases hA:zpu tj a with
      |none =>
       have HA:Hid (zpu tj a=none):=hA
       have HF:Hid (zgo cs=none):=by rw[Hid,HJ1.out,show zna (some tj) a=none from hA,ziu]
       clear HJ1 hA
       go_wp2_with (first|(go_at_call 102;refine(z4t w.heap.size _ (w.heap.size+1) tj a _ _ (by exact htj.below (by go_grown)) (by omega) HA).mono ?_;rintro e w3 ⟨rfl,hb3⟩;have hB3:=zae ((Below.refl wr.heap.size wr).alloc (Nat.le_refl _) _) hb3 (Nat.le_refl _);have hBB3:=zae hbj hB3 (Nat.le_refl _);have hres3:=hresj.below hB3;obtain⟨hrc,hrf⟩:=hres3.rules;have hz3:=hres3.lt))
       exact bodyPost_ret (v:=.tuple #[.agg #[.slice none 0 0],.bool false]) (by simp[results,Tryz.results62,go_sem,hrc]) rfl (znz HF (by go_grown))
      |some t2 =>
       have HA:Hid (zpu tj a=some t2):=hA
       have hl2:=zrn hA
       have HJ2:Hid (zgo cs=(c.body.drop (j+1)++rest).foldl zna (some t2)):=by rw[Hid,HJ1.out,show zna (some tj) a=some t2 from hA]
       have htjl:w.heap.size+1 < wr.heap.size:=by obtain⟨_,hb,_⟩:=htj;exact hb.lt
       clear HJ1 hA
       go_wp2_with (first|(go_at_call 102;refine(zyn w.heap.size _ (w.heap.size+1) tj t2 a _ _ (by exact htj.below (by go_grown)) (by omega) HA (by exact Nat.le_trans hszj (by simp)) (by omega)).mono ?_;rintro e w3 ⟨rfl,ht3,hb3,hkp3⟩;have hBB3:Below w.heap.size w w3:=(hbj.alloc hszj _).trans hb3;have hres3:=hkp3.box _ _ _ (by omega) (by decide) (hresj.below ((Below.refl _ _).alloc (Nat.le_refl _) _))))
       go_roundw
       case rel=>exact⟨j+1,t2,by omega,by go_num,hBB3,ht3,hres3,by omega,HJ2⟩
       case measure=>simp[intOf];omega
     ·have HE:Hid (zgo cs=((cs.drop (k+1)).flatMap za3).foldl zna (some tj)):=by rw[Hid,HJ.out,List.drop_eq_nil_of_le (by omega),HR.out];rfl
      have hnr:tj.length+rest.length<=1000:=by omega
      clear HJ
      go_wp2
      go_roundw
      case rel=>exact⟨k+1,tj,by omega,by go_num,hbj,htj,hresj,by rw[HR.out];exact hnr,HE⟩
      case measure=>simp[intOf];omega
  ·have HF:Hid (zgo cs=some tk):=by rw[Hid,H.out,List.drop_eq_nil_of_le (by omega)];rfl
   obtain⟨aop,capp,hbx,hown⟩:=htk.view
   obtain⟨hc,hf⟩:=hbx.rules
   obtain⟨hrc,hrf⟩:=hres.rules
   have hbxl:=hbx.lt
   clear H
   go_wp2
   have ho2:=zca hown ((But.refl w.heap.size wr).setCell 0 (.slice aop tk.length capp)) hres (by decide)
   exact bodyPost_ret (v:=.tuple #[.agg #[.slice aop tk.length capp],.bool true]) (by simp[results,Tryz.results62,go_sem,hrc]) rfl (zs7 HF (by go_grown) ho2)
def z05(l:zb2):Nat:=l.args.length+1
def sumW(ls:List zb2):Nat:=ls.foldr (fun l n=>z05 l+n) 0
def clW(c:zab):Nat:=z05 c.head+sumW c.body
def prW(cs:List zab):Nat:=cs.foldr (fun c n=>clW c+n) 0
theorem zye:∀(r:List Tok) {ts:List ByteArray} {r2:List Tok},zbv r=some (ts,r2)->ts.length+r2.length<=r.length
 |[],_,_,h=>by simp[zbv] at h
 |[x],ts,r2,h=>by
  simp only[zbv] at h
  split at h <;> simp at h
  obtain⟨rfl,rfl⟩:=h;simp
 |x::y::r,ts,r2,h=>by
  simp only[zbv] at h
  split at h
  ·split at h
   ·cases hq:zbv r with
    |none=>rw[hq] at h;simp at h
    |some z =>
     obtain⟨ts',r'⟩:=z
     rw[hq] at h;simp at h
     have:=zye r hq
     obtain⟨rfl,rfl⟩:=h;simp;omega
   ·simp at h;obtain⟨rfl,rfl⟩:=h;simp;omega
  ·simp at h
theorem zwn{r r2:List Tok}{a:zb2}(h:zei r=some (a,r2)):z05 a+r2.length<=r.length:=by
 cases r with
 |nil=>simp[zei,hdK] at h
 |cons x r =>
  unfold zei at h
  split at h
  ·split at h
   ·split at h
    ·simp at h
    ·rename_i ts r3 hq
     have:=zye _ hq
     split at h <;> simp at h
     obtain⟨rfl,rfl⟩:=h;simp[z05] at this ⊢;omega
   ·simp at h;obtain⟨rfl,rfl⟩:=h;simp[z05];omega
  ·simp at h
theorem z9q{r r2:List Tok}{a:zb2}(h:zsl r=some (a,r2)):z05 a+r2.length<=r.length:=by
 unfold zsl at h
 split at h
 ·cases hq:zei r.tail with
  |none=>rw[hq] at h;simp at h
  |some z =>
   obtain⟨a',r'⟩:=z
   rw[hq] at h;simp at h
   have:=zwn hq
   obtain⟨rfl,rfl⟩:=h;simp[z05] at this ⊢;omega
 ·exact zwn h
theorem z81{n:Nat}:∀ {r r2:List Tok} {b:List zb2},ze4 n r=some (b,r2)->sumW b+r2.length<=r.length:=by
 induction n with
 |zero=>intro r r2 b h;simp[ze4] at h
 |succ n ih =>
  intro r r2 b h
  cases hl:zsl r with
  |none=>rw[zr3 hl] at h;cases h
  |some z =>
   obtain⟨a,r3⟩:=z
   have:=z9q hl
   by_cases h6:hdK r3=6
   ·rw[zmg hl h6] at h
    cases hq:ze4 n r3.tail with
    |none=>rw[hq] at h;simp at h
    |some z =>
     obtain⟨b',r'⟩:=z
     rw[hq] at h;simp at h
     have:=ih hq
     obtain⟨rfl,rfl⟩:=h;simp[sumW] at this ⊢;omega
   ·rw[zmh hl h6] at h;simp at h;obtain⟨rfl,rfl⟩:=h;simp[sumW];omega
theorem z4a{n:Nat}{r r2:List Tok}{c:zab}(h:ze5 n r=some (c,r2)):clW c+r2.length<=r.length:=by
 unfold ze5 at h
 split at h
 ·cases h
 ·rename_i a r1 ha
  have:=zwn ha
  split at h
  ·split at h
   ·cases h
   ·rename_i b r3 hb
    have:=z81 hb
    split at h <;> simp at h
    obtain⟨rfl,rfl⟩:=h;simp[clW] at this ⊢;omega
  ·split at h <;> simp at h
   obtain⟨rfl,rfl⟩:=h;simp[clW,sumW];omega
theorem zwp{n0:Nat}:∀ {m:Nat} {r:List Tok} {cs:List zab},zex n0 m r=some cs->prW cs<=r.length
 |_,[],cs,h=>by simp[zex] at h;subst h;simp[prW]
 |0,_::_,cs,h=>by simp[zex] at h
 |m+1,x::r,cs,h=>by
  cases hc:ze5 n0 (x::r) with
  |none=>rw[zyd (by simp) hc] at h;cases h
  |some z =>
   obtain⟨c,r2⟩:=z
   rw[zun (by simp) hc] at h
   cases hq:zex n0 m r2 with
   |none=>rw[hq] at h;simp at h
   |some cs' =>
    rw[hq] at h;simp at h;subst h
    have h1:=z4a hc
    have h2:=zwp hq
    simp only[prW,List.foldr_cons,List.length_cons] at h1 h2 ⊢;omega
theorem zo4(ls:List zb2):zcf ls+ls.length=sumW ls:=by
 induction ls with
 |nil=>rfl
 |cons a ls ih=>simp[zcf,sumW,z05] at ih ⊢;omega
theorem z88{cs:List zab}{c:zab}(h:c∈cs):clW c<=prW cs:=by
 induction cs with
 |nil=>cases h
 |cons a cs ih =>
  rcases List.mem_cons.1 h with rfl|h
  ·simp[prW]
  ·have:=ih h;simp[prW] at this ⊢;omega
theorem zyf(cs:List zab):(cs.flatMap za3).length<=prW cs:=by
 induction cs with
 |nil=>simp
 |cons a cs ih=>have:=zo4 a.body;simp[prW,clW,za3,z05] at ih ⊢;omega
theorem z4e(cs:List zab):cs.length<=prW cs:=by
 induction cs with
 |nil=>simp
 |cons a cs ih=>simp[prW,clW,z05] at ih ⊢;omega
theorem z8b{cs:List zab}(h:prW cs<=1000):∀ c∈cs,zpc c:=fun c hc=>by
 have h1:=z88 hc
 have h2:=zo4 c.body
 unfold clW z05 at h1
 exact⟨by omega,by omega⟩
theorem zmm:∀(n:Nat) (s:ByteArray) (i:Nat) (l:List (Int × ByteArray)),splitN n s i=some l->l.length<=s.size - i
 |0,_,_,l,h=>by simp[splitN] at h;subst h;simp
 |n+1,s,i,l,h=>by
  unfold splitN at h
  split at h
  ·rename_i hi
   split at h
   ·have:=zmm n s (i+1) l h;omega
   ·split at h
    ·cases h
    ·rename_i hk
     split at h
     ·cases h
     ·cases hq:splitN n s (zn3 s i (zik (bAt s i) (bAt s (i+1)))) with
      |none=>rw[hq] at h;simp at h
      |some l' =>
       rw[hq] at h;simp at h;subst h
       have:=zmm n s _ l' hq
       have:=z2d s i _ hi rfl hk
       simp;omega
  ·simp at h;subst h;simp
theorem zq6{s:ByteArray}{l:List Tok}(h:splitB s=some l):l.length<=s.size:=by have:=zmm _ s 0 l h;omega
def zn1(s:ByteArray):Except Int (List zab × List zaq) :=
 if 500 < s.size then .error 1 else
 match splitB s with
 |none=>.error 2
 |some l =>
  match zex l.length l.length l with
  |none=>.error 3
  |some cs =>
   if cs.any zen then .error 4 else
   match zgo cs with
   |none=>.error 5
   |some t =>
    if cs.all ze7 then
     if (zcz (t.length+1) t cs).2 then .ok (cs,(zcz (t.length+1) t cs).1) else .error 7
    else .error 6
def zgm(o:Except Int (List zab × List zaq))(w:World)(e:Ending)(w':World):Prop :=
 Below w.heap.size w w'/\match o with
  |.error n=>e=.returned (.tuple #[.pointer none,.int .i64 n])
  |.ok (cs,t)=>∃ pb v pv,e=.returned (.tuple #[.pointer (some ⟨pb,0,none⟩),.int .i64 0])/\Box w' pb #[v,pv] 131/\CIn w.heap.size 171 w' v cs/\w'.ownsRow w.heap.size 221 3 pv t.length (zcd t)/\w.heap.size<=pb
theorem z7k(s:ByteArray)(w:World)(hs:s.size<=500)(h:splitB s=none):Calls Tryz.prog 59 #[.string s] w fun e w'=>e=.returned (.tuple #[.slice none 0 0,.bool false])/\Below w.heap.size w w':=by
 refine(zuz s w hs).mono ?_
 rintro e w' ⟨h1,h2⟩
 rw[h] at h2
 exact⟨h2,h1⟩
theorem zhz(s:ByteArray)(w:World)(l:List Tok)(hs:s.size<=500)(h:splitB s=some l):Calls Tryz.prog 59 #[.string s] w fun e w'=>∃ v,e=.returned (.tuple #[v,.bool true])/\w'.ownsRow w.heap.size 182 2 v l.length (zgk l)/\l.length<=500/\Below w.heap.size w w':=by
 refine(zuz s w hs).mono ?_
 rintro e w' ⟨h1,h2⟩
 rw[h] at h2
 obtain⟨v,a,b,c⟩:=h2
 exact⟨v,a,b,by omega,h1⟩
theorem z7a(w:World)(wv:Value)(l:List Tok)(base:Nat)(hw:w.ownsRow base 182 2 wv l.length (zgk l))(hl:l.length<=500)(h:zex l.length l.length l=none) :
  Calls Tryz.prog 60 #[wv] w fun e w'=>e=.returned (.tuple #[.slice none 0 0,.bool false])/\Below w.heap.size w w':=by
 refine(parse_any w wv l base hw hl).mono ?_
 rintro e w' ⟨h1,h2⟩
 rw[h] at h2
 exact⟨h2,h1⟩
theorem zi5(w:World)(wv:Value)(l:List Tok)(base:Nat)(cs:List zab)(hw:w.ownsRow base 182 2 wv l.length (zgk l))(hl:l.length<=500)(h:zex l.length l.length l=some cs) :
  Calls Tryz.prog 60 #[wv] w fun e w'=>∃ v,e=.returned (.tuple #[v,.bool true])/\CIn w.heap.size 171 w' v cs/\Below w.heap.size w w':=by
 refine(parse_any w wv l base hw hl).mono ?_
 rintro e w' ⟨h1,h2⟩
 rw[h] at h2
 obtain⟨v,a,b⟩:=h2
 exact⟨v,a,b,h1⟩
theorem zza(w:World)(v:Value)(cs:List zab)(hcs:CIn lo 171 w v cs)(hN:(cs.flatMap za3).length<=1000)(h:zgo cs=none) :
  Calls Tryz.prog 62 #[v] w fun e w'=>e=.returned (.tuple #[.agg #[.slice none 0 0],.bool false])/\Below w.heap.size w w':=by
 refine(zn0 w v cs hcs hN).mono ?_
 rintro e w' ⟨h1,h2⟩
 rw[h] at h2
 exact⟨h2,h1⟩
theorem zkh(w:World)(v:Value)(cs:List zab)(t:List zaq)(hcs:CIn lo 171 w v cs)(hN:(cs.flatMap za3).length<=1000)(h:zgo cs=some t) :
  Calls Tryz.prog 62 #[v] w fun e w'=>∃ pv,e=.returned (.tuple #[.agg #[pv],.bool true])/\w'.ownsRow w.heap.size 221 3 pv t.length (zcd t)/\Below w.heap.size w w':=by
 refine(zn0 w v cs hcs hN).mono ?_
 rintro e w' ⟨h1,h2⟩
 rw[h] at h2
 obtain⟨v,a,b⟩:=h2
 exact⟨v,a,b,h1⟩
theorem zs8(s:ByteArray)(w:World)(hs:500 < s.size)(hs2:s.size<=9223372036854775807) :
  Calls Tryz.prog 32 #[.string s] w fun e w'=>zgm (.error 1) w e w':=by
 go_enter Tryz.func32,Tryz.ntmps32
 go_wp2
 go_ret2
 exact⟨Below.refl _ _,rfl⟩
theorem z1v(s:ByteArray)(w:World)(hs:s.size<=500)(hS:splitB s=none) :
  Calls Tryz.prog 32 #[.string s] w fun e w'=>zgm (.error 2) w e w':=by
 have HS:Hid (splitB s=none):=hS
 clear hS
 go_enter Tryz.func32,Tryz.ntmps32
 go_wp2_with (first|(go_at_call 59;refine(z7k s _ hs HS).mono ?_;rintro e w1 ⟨rfl,hb1⟩))
 go_ret2
 exact⟨hb1,rfl⟩
theorem z1w(s:ByteArray)(w:World)(hs:s.size<=500)(l:List Tok)(hS:splitB s=some l)(hP:zex l.length l.length l=none) :
  Calls Tryz.prog 32 #[.string s] w fun e w'=>zgm (.error 3) w e w':=by
 have HS:Hid (splitB s=some l):=hS
 have HP:Hid (zex l.length l.length l=none):=hP
 clear hS hP
 go_enter Tryz.func32,Tryz.ntmps32
 go_wp2_with (first|(go_at_call 59;refine(zhz s _ l hs HS).mono ?_;rintro e w1 ⟨fv,rfl,hown,hll,hb1⟩;obtain⟨aof,capf,rfl⟩:=zac hown)|(go_at_call 60;refine(z7a _ _ l _ hown hll HP).mono ?_;rintro e w2 ⟨rfl,hb2⟩;have hB2:=zae hb1 hb2 (Nat.le_refl _)))
 go_ret2
 exact⟨hB2,rfl⟩
theorem z1x(s:ByteArray)(w:World)(hs:s.size<=500)(l:List Tok)(cs:List zab)(hm:cs.any zen=true)(hS:splitB s=some l)(hP:zex l.length l.length l=some cs)(hok:∀ c∈cs,zpc c)(hlen:cs.length<=1000) :
  Calls Tryz.prog 32 #[.string s] w fun e w'=>zgm (.error 4) w e w':=by
 have HS:Hid (splitB s=some l):=hS
 have HP:Hid (zex l.length l.length l=some cs):=hP
 have HOK:Hid (∀ c∈cs,zpc c):=hok
 have HLEN:Hid (cs.length<=1000):=hlen
 clear hS hP hok hlen
 go_enter Tryz.func32,Tryz.ntmps32
 go_wp2_with (first|(go_at_call 59;refine(zhz s _ l hs HS).mono ?_;rintro e w1 ⟨fv,rfl,hown,hll,hb1⟩;obtain⟨aof,capf,rfl⟩:=zac hown)|(go_at_call 60;refine(zi5 _ _ l _ cs hown hll HP).mono ?_;rintro e w2 ⟨cv,rfl,hcin,hb2⟩;obtain⟨aoc,capc,rfl⟩:=hcin.shape;have hB2:=zae hb1 hb2 (Nat.le_refl _))|(go_at_call 61;refine(zli _ _ cs hcin HOK.out HLEN.out).mono ?_;rintro e w3 ⟨rfl,hb3⟩;have hB3:=zae hB2 hb3 (Nat.le_refl _);have hcin3:=hcin.below hb3))
 go_ret2
 exact⟨hB3,rfl⟩
theorem z1y(s:ByteArray)(w:World)(hs:s.size<=500)(l:List Tok)(cs:List zab)(hm:cs.any zen=false)(hS:splitB s=some l)(hP:zex l.length l.length l=some cs)(hok:∀ c∈cs,zpc c)(hlen:cs.length<=1000)(hlits:(cs.flatMap za3).length<=1000)(hC:zgo cs=none) :
  Calls Tryz.prog 32 #[.string s] w fun e w'=>zgm (.error 5) w e w':=by
 have HS:Hid (splitB s=some l):=hS
 have HP:Hid (zex l.length l.length l=some cs):=hP
 have HOK:Hid (∀ c∈cs,zpc c):=hok
 have HLEN:Hid (cs.length<=1000):=hlen
 have HLITS:Hid ((cs.flatMap za3).length<=1000):=hlits
 have HC:Hid (zgo cs=none):=hC
 clear hS hP hok hlen hlits hC
 go_enter Tryz.func32,Tryz.ntmps32
 go_wp2_with (first|(go_at_call 59;refine(zhz s _ l hs HS).mono ?_;rintro e w1 ⟨fv,rfl,hown,hll,hb1⟩;obtain⟨aof,capf,rfl⟩:=zac hown)|(go_at_call 60;refine(zi5 _ _ l _ cs hown hll HP).mono ?_;rintro e w2 ⟨cv,rfl,hcin,hb2⟩;obtain⟨aoc,capc,rfl⟩:=hcin.shape;have hB2:=zae hb1 hb2 (Nat.le_refl _))|(go_at_call 61;refine(zli _ _ cs hcin HOK.out HLEN.out).mono ?_;rintro e w3 ⟨rfl,hb3⟩;have hB3:=zae hB2 hb3 (Nat.le_refl _);have hcin3:=hcin.below hb3)|(go_at_call 62;refine(zza _ _ cs hcin3 HLITS.out HC).mono ?_;rintro e w4 ⟨rfl,hb4⟩;have hB4:=zae hB3 hb4 (Nat.le_refl _);have hz4:=hB4.size))
 go_ret2
 exact⟨(by go_grown),rfl⟩
theorem z1z(s:ByteArray)(w:World)(hs:s.size<=500)(l:List Tok)(cs:List zab)(t:List zaq)(hm:cs.any zen=false)(hsf:cs.all ze7=false)(hS:splitB s=some l)(hP:zex l.length l.length l=some cs)(hok:∀ c∈cs,zpc c)(hlen:cs.length<=1000)(hlits:(cs.flatMap za3).length<=1000)(hC:zgo cs=some t) :
  Calls Tryz.prog 32 #[.string s] w fun e w'=>zgm (.error 6) w e w':=by
 have HS:Hid (splitB s=some l):=hS
 have HP:Hid (zex l.length l.length l=some cs):=hP
 have HOK:Hid (∀ c∈cs,zpc c):=hok
 have HLEN:Hid (cs.length<=1000):=hlen
 have HLITS:Hid ((cs.flatMap za3).length<=1000):=hlits
 have HC:Hid (zgo cs=some t):=hC
 clear hS hP hok hlen hlits hC
 go_enter Tryz.func32,Tryz.ntmps32
 go_wp2_with (first|(go_at_call 59;refine(zhz s _ l hs HS).mono ?_;rintro e w1 ⟨fv,rfl,hown,hll,hb1⟩;obtain⟨aof,capf,rfl⟩:=zac hown)|(go_at_call 60;refine(zi5 _ _ l _ cs hown hll HP).mono ?_;rintro e w2 ⟨cv,rfl,hcin,hb2⟩;obtain⟨aoc,capc,rfl⟩:=hcin.shape;have hB2:=zae hb1 hb2 (Nat.le_refl _))|(go_at_call 61;refine(zli _ _ cs hcin HOK.out HLEN.out).mono ?_;rintro e w3 ⟨rfl,hb3⟩;have hB3:=zae hB2 hb3 (Nat.le_refl _);have hcin3:=hcin.below hb3)|(go_at_call 62;refine(zkh _ _ cs t hcin3 HLITS.out HC).mono ?_;rintro e w4 ⟨pv,rfl,hpo,hb4⟩;obtain⟨aop,capp,rfl⟩:=zac hpo;have hB4:=zae hB3 hb4 (Nat.le_refl _);have hz4:=hB4.size;have hcin4:=hcin3.below hb4)|(go_at_call 63;refine(zr9 _ _ cs (by exact hcin4.below (by go_grown)) HOK.out HLEN.out).mono ?_;rintro e w5 ⟨rfl,hb5⟩;have hq5:=(Below.refl w4.heap.size w4).alloc (Nat.le_refl _) (.cells #[.slice aop t.length capp] 127);have hbb5:=zae hq5 hb5 (Nat.le_refl _);have hB5:=zae hB4 hbb5 (Nat.le_refl _)))
 go_ret2
 exact⟨hB5,rfl⟩
theorem z14(s:ByteArray)(w:World)(hs:s.size<=500)(l:List Tok)(cs:List zab)(t:List zaq)(hm:cs.any zen=false)(hsf:cs.all ze7=true)(hst:(zcz (t.length+1) t cs).2=false)(hS:splitB s=some l)(hP:zex l.length l.length l=some cs)(hok:∀ c∈cs,zpc c)(hlen:cs.length<=1000)(hlits:(cs.flatMap za3).length<=1000)(hC:zgo cs=some t)(htl:t.length<=1000)(htz:∀ e∈t,e.stratum<=0) :
  Calls Tryz.prog 32 #[.string s] w fun e w'=>zgm (.error 7) w e w':=by
 have HS:Hid (splitB s=some l):=hS
 have HP:Hid (zex l.length l.length l=some cs):=hP
 have HOK:Hid (∀ c∈cs,zpc c):=hok
 have HLEN:Hid (cs.length<=1000):=hlen
 have HLITS:Hid ((cs.flatMap za3).length<=1000):=hlits
 have HC:Hid (zgo cs=some t):=hC
 have HTL:Hid (t.length<=1000):=htl
 have HTZ:Hid (∀ e∈t,e.stratum<=0):=htz
 clear hS hP hok hlen hlits hC htl htz
 go_enter Tryz.func32,Tryz.ntmps32
 go_wp2_with (first|(go_at_call 59;refine(zhz s _ l hs HS).mono ?_;rintro e w1 ⟨fv,rfl,hown,hll,hb1⟩;obtain⟨aof,capf,rfl⟩:=zac hown)|(go_at_call 60;refine(zi5 _ _ l _ cs hown hll HP).mono ?_;rintro e w2 ⟨cv,rfl,hcin,hb2⟩;obtain⟨aoc,capc,rfl⟩:=hcin.shape;have hB2:=zae hb1 hb2 (Nat.le_refl _))|(go_at_call 61;refine(zli _ _ cs hcin HOK.out HLEN.out).mono ?_;rintro e w3 ⟨rfl,hb3⟩;have hB3:=zae hB2 hb3 (Nat.le_refl _);have hcin3:=hcin.below hb3)|(go_at_call 62;refine(zkh _ _ cs t hcin3 HLITS.out HC).mono ?_;rintro e w4 ⟨pv,rfl,hpo,hb4⟩;obtain⟨aop,capp,rfl⟩:=zac hpo;have hB4:=zae hB3 hb4 (Nat.le_refl _);have hz4:=hB4.size;have hcin4:=hcin3.below hb4)|(go_at_call 63;refine(zr9 _ _ cs (by exact hcin4.below (by go_grown)) HOK.out HLEN.out).mono ?_;rintro e w5 ⟨rfl,hb5⟩;have hq5:=(Below.refl w4.heap.size w4).alloc (Nat.le_refl _) (.cells #[.slice aop t.length capp] 127);have hbb5:=zae hq5 hb5 (Nat.le_refl _);have hB5:=zae hB4 hbb5 (Nat.le_refl _))|(go_at_call 64;refine(zm0 w3.heap.size _ w4.heap.size t _ cs w3 rfl (zae hb4 hbb5 (Nat.le_refl _)) hcin3 HOK.out HLEN.out ⟨_,(Box.new w4 _ _).below hb5,zaa hpo hbb5⟩ HTL.out HTZ.out).mono ?_;rintro e w6 ⟨rfl,hta6,hb6⟩;obtain⟨ao6,cap6,hbx6,hown6⟩:=hta6.view;obtain⟨hc6,hf6⟩:=hbx6.rules;have hB6:Below w.heap.size w w6:=hB5.trans (hb6.mono (Nat.le_trans hB3.size (Nat.le_refl _)));have hz6:=hbx6.lt))
 go_ret2
 exact⟨hB6,rfl⟩
theorem z1u(s:ByteArray)(w:World)(hs:s.size<=500)(l:List Tok)(cs:List zab)(t:List zaq)(hm:cs.any zen=false)(hsf:cs.all ze7=true)(hst:(zcz (t.length+1) t cs).2=true)(hS:splitB s=some l)(hP:zex l.length l.length l=some cs)(hok:∀ c∈cs,zpc c)(hlen:cs.length<=1000)(hlits:(cs.flatMap za3).length<=1000)(hC:zgo cs=some t)(htl:t.length<=1000)(htz:∀ e∈t,e.stratum<=0) :
  Calls Tryz.prog 32 #[.string s] w fun e w'=>zgm (.ok (cs,(zcz (t.length+1) t cs).1)) w e w':=by
 have HS:Hid (splitB s=some l):=hS
 have HP:Hid (zex l.length l.length l=some cs):=hP
 have HOK:Hid (∀ c∈cs,zpc c):=hok
 have HLEN:Hid (cs.length<=1000):=hlen
 have HLITS:Hid ((cs.flatMap za3).length<=1000):=hlits
 have HC:Hid (zgo cs=some t):=hC
 have HTL:Hid (t.length<=1000):=htl
 have HTZ:Hid (∀ e∈t,e.stratum<=0):=htz
 clear hS hP hok hlen hlits hC htl htz
 go_enter Tryz.func32,Tryz.ntmps32
 go_wp2_with (first|(go_at_call 59;refine(zhz s _ l hs HS).mono ?_;rintro e w1 ⟨fv,rfl,hown,hll,hb1⟩;obtain⟨aof,capf,rfl⟩:=zac hown)|(go_at_call 60;refine(zi5 _ _ l _ cs hown hll HP).mono ?_;rintro e w2 ⟨cv,rfl,hcin,hb2⟩;obtain⟨aoc,capc,rfl⟩:=hcin.shape;have hB2:=zae hb1 hb2 (Nat.le_refl _))|(go_at_call 61;refine(zli _ _ cs hcin HOK.out HLEN.out).mono ?_;rintro e w3 ⟨rfl,hb3⟩;have hB3:=zae hB2 hb3 (Nat.le_refl _);have hcin3:=hcin.below hb3)|(go_at_call 62;refine(zkh _ _ cs t hcin3 HLITS.out HC).mono ?_;rintro e w4 ⟨pv,rfl,hpo,hb4⟩;obtain⟨aop,capp,rfl⟩:=zac hpo;have hB4:=zae hB3 hb4 (Nat.le_refl _);have hz4:=hB4.size;have hcin4:=hcin3.below hb4)|(go_at_call 63;refine(zr9 _ _ cs (by exact hcin4.below (by go_grown)) HOK.out HLEN.out).mono ?_;rintro e w5 ⟨rfl,hb5⟩;have hq5:=(Below.refl w4.heap.size w4).alloc (Nat.le_refl _) (.cells #[.slice aop t.length capp] 127);have hbb5:=zae hq5 hb5 (Nat.le_refl _);have hB5:=zae hB4 hbb5 (Nat.le_refl _))|(go_at_call 64;refine(zm0 w3.heap.size _ w4.heap.size t _ cs w3 rfl (zae hb4 hbb5 (Nat.le_refl _)) hcin3 HOK.out HLEN.out ⟨_,(Box.new w4 _ _).below hb5,zaa hpo hbb5⟩ HTL.out HTZ.out).mono ?_;rintro e w6 ⟨rfl,hta6,hb6⟩;obtain⟨ao6,cap6,hbx6,hown6⟩:=hta6.view;obtain⟨hc6,hf6⟩:=hbx6.rules;have hB6:Below w.heap.size w w6:=hB5.trans (hb6.mono (Nat.le_trans hB3.size (Nat.le_refl _)));have hz6:=hbx6.lt))
 have hz66:=hB6.size
 have hcin6:=hcin3.below ((zae hb4 hbb5 (Nat.le_refl _)).trans hb6)
 go_ret2
 exact⟨(by go_grown),w6.heap.size,_,_,rfl,Box.new _ _ _,(hcin6.low hb1.size).below ((Below.refl _ _).alloc (Nat.le_refl _) _),zbh (zaa hown6 ((Below.refl _ _).alloc (Nat.le_refl _) _)) hB3.size,hz66⟩
theorem zki(s:ByteArray)(w:World)(hs2:s.size<=9223372036854775807) :
  Calls Tryz.prog 32 #[.string s] w fun e w'=>zgm (zn1 s) w e w':=by
 unfold zn1
 split
 ·rename_i hs;exact zs8 s w hs hs2
 ·rename_i hs
  have hs':s.size<=500:=by omega
  split
  ·rename_i hS;exact z1v s w hs' hS
  ·rename_i l hS
   split
   ·rename_i hP;exact z1w s w hs' l hS hP
   ·rename_i cs hP
    have hl:l.length<=500:=by
     have:=zq6 hS;omega
    have hw:=zwp hP
    have hok:=z8b (cs:=cs) (by omega)
    have hlen:cs.length<=1000:=by have:=z4e cs;omega
    have hlits:(cs.flatMap za3).length<=1000:=by have:=zyf cs;omega
    split
    ·rename_i hm;exact z1x s w hs' l cs hm hS hP hok hlen
    ·rename_i hm
     have hm':cs.any zen=false:=by simpa using hm
     split
     ·rename_i hC;exact z1y s w hs' l cs hm' hS hP hok hlen hlits hC
     ·rename_i t hC
      have htl:t.length<=1000:=by have:=zrl _ _ _ hC;simp only[List.length_nil] at this;omega
      have htz:∀ e∈t,e.stratum<=0:=znt _ [] (by simp) t hC
      split
      ·rename_i hsf
       split
       ·rename_i hst;exact z1u s w hs' l cs t hm' hsf hst hS hP hok hlen hlits hC htl htz
       ·rename_i hst;exact z14 s w hs' l cs t hm' hsf (by simpa using hst) hS hP hok hlen hlits hC htl htz
      ·rename_i hsf;exact z1z s w hs' l cs t hm' (by simpa using hsf) hS hP hok hlen hlits hC
def TP(B:Nat)(w:World)(tb:Nat)(t:List zaq):Prop:=∃ cv pv,Box w tb #[cv,pv] 131/\w.ownsRow B 221 3 pv t.length (zcd t)
theorem TP.view{B:Nat}{w:World}{tb:Nat}{t:List zaq}(h:TP B w tb t):∃ cv ao cap,Box w tb #[cv,.slice ao t.length cap] 131/\w.ownsRow B 221 3 (.slice ao t.length cap) t.length (zcd t):=by
 obtain⟨cv,nv,h1,h2⟩:=h
 obtain⟨ao,cap,rfl⟩:=zac h2
 exact⟨cv,ao,cap,h1,h2⟩
set_option maxHeartbeats 2000000
theorem zyb(w:World)(n:Nat)(T:TypeId)(z:Value)(hn:n<=maxLen):(w.alloc (.cells (madeCells #[z] n) T)).ownsRow w.heap.size T 1 (.slice (some ⟨w.heap.size,0,none⟩) n n) n (List.replicate n z):=by
 refine⟨by simp,Or.inr ⟨w.heap.size,n,madeCells #[z] n,rfl,Nat.le_refl _,?_,Nat.le_refl _,hn,by rw[size_madeCells];omega,?_⟩⟩
 ·show(w.heap.push _)[w.heap.size]?=_
  simp
 ·apply List.ext_getElem?
  intro i
  by_cases hi:i < n
  ·simp[hi,madeCells,Nat.mod_one]
  ·simp[List.getElem?_take,hi]
def zl9{α:Type}(f:α->Value)(l:List α)(z:Value)(k:Nat):List Value:=(l.take k).map f++List.replicate (l.length - k) z
theorem zxu{α:Type}(f:α->Value)(l:List α)(z:Value)(k:Nat)(hk:k < l.length):(zl9 f l z k).set k (f l[k])=zl9 f l z (k+1):=by
 unfold zl9
 have h1:((l.take k).map f).length=k:=by simp;omega
 rw[List.set_append_right _ _ (by omega),h1,Nat.sub_self,List.take_succ_eq_append_getElem hk,List.map_append,List.append_assoc]
 congr 1
 rw[show l.length - k=(l.length - (k+1))+1 by omega,List.replicate_succ]
 rfl
theorem znb{α:Type}(f:α->Value)(l:List α)(z:Value)(k:Nat)(hk:k<=l.length):(zl9 f l z k).length=l.length:=by unfold zl9;simp;omega
theorem zth{α:Type}(f:α->Value)(l:List α)(z:Value):zl9 f l z 0=List.replicate l.length z:=by simp[zl9]
theorem zxt{α:Type}(f:α->Value)(l:List α)(z:Value)(k:Nat)(hk:¬ k < l.length):zl9 f l z k=l.map f:=by
 unfold zl9;rw[List.take_of_length_le (by omega),show l.length - k=0 by omega];simp
theorem z15(w:World)(v:Value)(l:List ByteArray)(hs:SIn lo w v l)(hl:l.length<=1000) :
  Calls Tryz.prog 170 #[v] w fun e w'=>∃ g,w.heap.size<=g/\e=.returned (.slice (some ⟨g,0,none⟩) l.length l.length)/\SIn w.heap.size w' (.slice (some ⟨g,0,none⟩) l.length l.length) l/\Below w.heap.size w w':=by
 obtain⟨ao,cap,rfl⟩:=hs.shape
 have hmk:=run_make_row' (P:=Tryz.prog) 30 9 (.string ByteArray.empty) 16 Tryz.underlying30 Tryz.infoString rfl .i64 .i64 l.length (by omega) (by omega)
 go_enter Tryz.func170,Tryz.ntmps170
 go_wp2
 clear hmk
 have hom:=zyb w l.length 9 (.string ByteArray.empty) (by unfold maxLen;omega)
 rw[← zth Value.string] at hom
 go_loopw [11] (fun i wr=>∃ k:Nat,k<=l.length/\i=.int .i64 k/\Below w.heap.size w wr/\wr.ownsRow w.heap.size 9 1 (.slice (some ⟨w.heap.size,0,none⟩) l.length l.length) l.length (zl9 Value.string l (.string ByteArray.empty) k)) (fun i _=>l.length - (intOf i).toNat)
 case atStart=>exact⟨0,Nat.zero_le _,rfl,(by go_grown),hom⟩
 case round =>
  clear hom
  obtain⟨k,hk,rfl,hbk,hown⟩:=hrel
  have hszk:=hbk.size
  by_cases hlt:k < l.length
  ·obtain⟨g,rfl,hg,hck⟩:=hs.cell k hlt
   have hxk:=(hbk.cell (p:=⟨g,k,none⟩) hg).trans hck
   have hgr:g < wr.heap.size:=by omega
   have hset:=zb5 hown k (by rw[znb _ _ _ _ hk];exact hlt) (.string l[k])
   rw[zxu Value.string l _ k hlt] at hset
   have HSET:Hid ((wr.setCell ⟨w.heap.size,k,none⟩ (.string l[k])).ownsRow w.heap.size 9 1 (.slice (some ⟨w.heap.size,0,none⟩) l.length l.length) l.length (zl9 Value.string l (.string ByteArray.empty) (k+1))):=hset
   have hfz:=zbu hown
   obtain⟨g2,cap2,hv2,_,hg2,hcl2⟩:=zal hown (by omega)
   simp at hv2
   obtain⟨rfl,_⟩:=hv2
   have hck2:∃ u,wr.cell? ⟨w.heap.size,k,none⟩=some u:=⟨_,hcl2 k _ (List.getElem?_eq_getElem (by rw[znb _ _ _ _ hk];exact hlt))⟩
   obtain⟨u0,hu0⟩:=hck2
   clear hck hset hcl2
   generalize l[k]=x at *
   go_wp2
   go_roundw
   case rel=>exact⟨k+1,by omega,by go_num,(by go_grown),HSET⟩
   case measure=>simp[intOf];omega
  ·rw[zxt _ _ _ _ hlt] at hown
   go_wp2
   go_ret
   exact⟨_,Nat.le_refl _,rfl,hown,hbk⟩
theorem z0d(B:Nat)(w:World)(tb:Nat)(t:List zaq)(h:TP B w tb t)(hl:t.length<=1000) :
  Calls Tryz.prog 132 #[.pointer (some ⟨tb,1,none⟩)] w fun e w'=>∃ g,w.heap.size<=g/\e=.returned (.slice (some ⟨g,0,none⟩) t.length t.length)/\SIn w.heap.size w' (.slice (some ⟨g,0,none⟩) t.length t.length) (t.map zaq.name)/\Below w.heap.size w w':=by
 obtain⟨cv,ao,cap,hbx,hown⟩:=h.view
 obtain⟨hc,hf⟩:=hbx.rules
 have hlt:=hbx.lt
 have hmk:=run_make_row' (P:=Tryz.prog) 30 9 (.string ByteArray.empty) 16 Tryz.underlying30 Tryz.infoString rfl .i64 .i64 t.length (by omega) (by omega)
 go_enter Tryz.func132,Tryz.ntmps132
 go_wp2
 clear hmk
 have hom:=zyb w t.length 9 (.string ByteArray.empty) (by unfold maxLen;omega)
 rw[← zth (fun e:zaq=>Value.string e.name)] at hom
 go_loopw [17] (fun i wr=>∃ k:Nat,k<=t.length/\i=.int .i64 k/\Below w.heap.size w wr/\wr.ownsRow w.heap.size 9 1 (.slice (some ⟨w.heap.size,0,none⟩) t.length t.length) t.length (zl9 (fun e:zaq=>Value.string e.name) t (.string ByteArray.empty) k)) (fun i _=>t.length - (intOf i).toNat)
 case atStart=>exact⟨0,Nat.zero_le _,rfl,(by go_grown),hom⟩
 case round =>
  clear hom hc hf
  obtain⟨k,hk,rfl,hbk,hownk⟩:=hrel
  have hszk:=hbk.size
  by_cases hkt:k < t.length
  ·obtain⟨g,rfl,hg,_,hd0,hd1,hd2⟩:=zdu hown k hkt
   have hx0:=(hbk.cell (p:=⟨g,k * 3,none⟩) hg).trans hd0
   have hx1:=(hbk.cell (p:=⟨g,k * 3+1,none⟩) hg).trans hd1
   have hx2:=(hbk.cell (p:=⟨g,k * 3+2,none⟩) hg).trans hd2
   have hgr:g < wr.heap.size:=by omega
   have hset:=zb5 hownk k (by rw[znb _ _ _ _ hk];exact hkt) (.string t[k].name)
   rw[zxu (fun e:zaq=>Value.string e.name) t _ k hkt] at hset
   have HSET:Hid ((wr.setCell ⟨w.heap.size,k,none⟩ (.string t[k].name)).ownsRow w.heap.size 9 1 (.slice (some ⟨w.heap.size,0,none⟩) t.length t.length) t.length (zl9 (fun e:zaq=>Value.string e.name) t (.string ByteArray.empty) (k+1))):=hset
   have hfz:=zbu hownk
   obtain⟨g2,cap2,hv2,_,hg2,hcl2⟩:=zal hownk (by omega)
   simp at hv2
   obtain⟨rfl,_⟩:=hv2
   have hck2:∃ u,wr.cell? ⟨w.heap.size,k,none⟩=some u:=⟨_,hcl2 k _ (List.getElem?_eq_getElem (by rw[znb _ _ _ _ hk];exact hkt))⟩
   obtain⟨u0,hu0⟩:=hck2
   clear hd0 hd1 hd2 hset hcl2
   generalize t[k]=x at *
   go_wp2
   go_roundw
   case rel=>exact⟨k+1,by omega,by go_num,(by go_grown),zaa HSET.out ((Below.refl _ _).alloc (Nat.le_refl _) _)⟩
   case measure=>simp[intOf];omega
  ·rw[zxt _ _ _ _ hkt] at hownk
   have hs:SIn w.heap.size wr (.slice (some ⟨w.heap.size,0,none⟩) t.length t.length) (t.map zaq.name):=by simpa [SIn,Function.comp_def] using hownk
   go_wp2
   go_ret
   exact⟨_,Nat.le_refl _,rfl,hs,hbk⟩
end Go.Proofs.YteampbddflhngaaGreat
