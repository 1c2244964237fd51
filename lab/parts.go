package lab

import (
	"slices"
	"strings"

	"tripwire/api"
	"tripwire/decimal"
)

func (r *reader) client()   { r.Client = int(r.whole()) }
func (r *reader) id()       { r.ID = int(r.whole()) }
func (r *reader) qty()      { r.Qty = r.whole() }
func (r *reader) entryQty() { r.Entry.Qty = r.whole() }
func (r *reader) time()     { r.Time = r.whole() }
func (r *reader) number()   { r.numbers = append(r.numbers, r.whole()) }

func (r *reader) kind() {
	r.Entry.Kind = api.Kind(r.among(kinds()...))
}

func (r *reader) side() {
	r.Entry.Side = api.Side(r.among(sides()...))
}

// entryPrice is that of an entry, if its kind has one.
func (r *reader) entryPrice() {
	if r.Entry.Kind != api.Market {
		r.price()
	}
}

// price keeps the word as it is, if some market could have such a price.
func (r *reader) price() {
	r.digits = r.word()
	for places := range api.MaxPlaces + 1 {
		if _, no, _ := decimal.Parse(r.digits, places); no == api.OK {
			return
		}
	}
	r.need(false)
}

// source is the lines behind, up to the one that ends them.
func (r *reader) source() {
	behind := r.lines[r.at:]
	end := slices.Index(behind, ".")
	r.need(end >= 0)
	var text strings.Builder
	for _, line := range behind[:end] {
		text.WriteString(line)
		text.WriteByte('\n')
	}
	r.Source = text.String()
	r.at += end + 1
}

// kinds are the words for them, at the places of their numbers.
func kinds() []string {
	return []string{api.Limit: "limit", api.Market: "market", api.Now: "now", api.All: "all", api.Post: "post"}
}

// sides are the words for them, at the places of their numbers.
func sides() []string {
	return []string{api.Buy: "buy", api.Sell: "sell"}
}
