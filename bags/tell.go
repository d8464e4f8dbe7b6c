package bags

import (
	"cmp"
	"slices"

	"chordmail/api"
	"chordmail/mask"
	"chordmail/queue"
)

// Len tells how many messages of a tag there are (P14.4).
func (b *Box) Len(tag string) int { return b.queue(tag).Len() }

// queue answers a tag's queue, or a nil one, which has nothing, if there is no such tag.
func (b *Box) queue(tag string) *queue.Queue[api.Message] {
	if b == nil {
		return nil
	}
	number, is := b.numbers[tag]
	if !is {
		return nil
	}
	return b.queues[number]
}

// At answers the message at a place of a tag's queue, if there is one (P14.4).
func (b *Box) At(tag string, place int) (api.Message, bool) {
	_, m, is := b.queue(tag).At(place)
	return copied(m), is
}

// Find answers the tag and the place of the message of that ID, if there is one (P14.4).
func (b *Box) Find(id int) (string, int, bool) {
	number, place, is := b.where(id)
	if !is {
		return "", 0, false
	}
	return b.tags[number], place, true
}

// where answers the tag's number and the place of the message of that ID, if there is one.
func (b *Box) where(id int) (int, int, bool) {
	for number := range b.Mask().Each() {
		if place, is := b.queues[number].Find(id); is {
			return number, place, true
		}
	}
	return 0, 0, false
}

// Count tells how many messages there are (P14.4).
func (b *Box) Count() int {
	count := 0
	for number := range b.Mask().Each() {
		count += b.queues[number].Len()
	}
	return count
}

// Mask answers the numbers of the tags of which there is a message (P14.4).
func (b *Box) Mask() mask.Mask {
	if b == nil {
		return 0
	}
	return b.some
}

// Tags answers the tags (P14.4).
func (b *Box) Tags() []string {
	if b == nil {
		return nil
	}
	return slices.Clone(b.tags)
}

// All answers the messages, by rising IDs (P14.4).
func (b *Box) All() []api.Message {
	all := make([]api.Message, 0, b.Count())
	for number := range b.Mask().Each() {
		for _, m := range b.queues[number].Each() {
			all = append(all, copied(m))
		}
	}
	slices.SortFunc(all, func(m, o api.Message) int { return cmp.Compare(m.ID, o.ID) })
	return all
}
